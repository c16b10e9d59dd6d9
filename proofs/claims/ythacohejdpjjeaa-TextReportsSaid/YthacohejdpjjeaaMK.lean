/- Walks: the lines of events and calls as strings. -/
import Derived.Test.YthacohejdpjjeaaMJ
namespace Go.Proofs.Ythacohejdpjjeaa
open Go.RowKit Go.Lib Go.Sort

theorem BOwn.nil (w : World) (B : Nat) : BOwn w B (.slice none 0 0) [] := ⟨rfl, .inl ⟨rfl, rfl⟩⟩
/-- a string is what comes of it -/
def StrP (L : List Nat) (w : World) (e : Ending) (w' : World) : Prop := e = .returned (.string (strB L)) ∧ Below w.heap.size w w'
theorem caLine_b (x : CaX) : ∀ y ∈ caLine x, y < 256 := fun y hy => by
  unfold caLine at hy
  rcases List.mem_append.1 hy with hy | hy
  · exact numsF_b digI_b _ _ y hy
  · rcases List.mem_cons.1 hy with rfl | hy
    · omega
    · exact numsF_b digs_b _ _ y hy
theorem own_str {w : World} {B : Nat} {v : Value} {L : List Nat} (h : BOwn w B v L) (hL : ∀ x ∈ L, x < 256) : (convert 77 9 v).run Try.prog w = .ok (.string (strB L)) w := by
  obtain ⟨ao, g, c, rfl, h0, _, hc⟩ := bown_cells h hL
  exact str_of w ao g 0 c L h0 hc

set_option maxHeartbeats 1000000 in
set_option maxRecDepth 100000 in
theorem event_any (x : EvX) (s : EvS) (w : World) (hx : x.Ok) (hs : EvAt w w.heap.size x s) (hn : x.lw.length * 22 + x.kw.length * 22 ≤ 3000000000) :
    Calls Try.prog 29 #[evV x s] w (StrP (evLine x) w) := by
  have hb0 : Below w.heap.size w (w.alloc (evO x s)) := (Below.refl _ _).alloc (Nat.le_refl _) _
  have HA := Lib.hid (appEvent_any w.heap.size (.slice none 0 0) [] x s (w.alloc (evO x s)) (BOwn.nil _ _) hb0.size hx (hs.trans hb0 (Keeps.alloc _ _ _)) (by simp only [List.length_nil]; omega))
  have HB := Lib.hid hb0
  have HL := Lib.hid (evLine_b x)
  clear hb0 hx hs hn
  rw [List.nil_append] at HA
  generalize evLine x = L at HA HL ⊢
  go_enter Try.func29, Try.ntmps29
  go_wp2_with fail
  refine HA.out.mono ?_
  rintro e w1 ⟨v1, rfl, ho1, hb1, hk1⟩
  have hcv := own_str ho1 HL.out
  have HB1 := Lib.hid (HB.out.trans hb1)
  clear ho1 hb1 hk1
  go_wp2_with fail
  go_ret
  exact ⟨rfl, HB1.out⟩

set_option maxHeartbeats 1000000 in
set_option maxRecDepth 100000 in
theorem call_any (x : CaX) (w : World) (hx : x.Ok) :
    Calls Try.prog 30 #[caV x] w (StrP (caLine x) w) := by
  have hb0 : Below w.heap.size w (w.alloc (.cells #[.int .i64 x.th, .int .i64 x.ob, .int .i64 x.kd, .int .u64 (x.a : Int), .int .u64 (x.b : Int), .int .u64 (x.c : Int)] 39)) := (Below.refl _ _).alloc (Nat.le_refl _) _
  have HA := Lib.hid (appCall_any w.heap.size (.slice none 0 0) [] x (w.alloc (.cells #[.int .i64 x.th, .int .i64 x.ob, .int .i64 x.kd, .int .u64 (x.a : Int), .int .u64 (x.b : Int), .int .u64 (x.c : Int)] 39)) (BOwn.nil _ _) hb0.size hx (by simp only [List.length_nil]; omega))
  have HB := Lib.hid hb0
  have HL := Lib.hid (caLine_b x)
  clear hb0 hx
  rw [List.nil_append] at HA
  generalize caLine x = L at HA HL ⊢
  go_enter Try.func30, Try.ntmps30
  go_wp2_with fail
  refine HA.out.mono ?_
  rintro e w1 ⟨v1, rfl, ho1, hb1, hk1⟩
  have hcv := own_str ho1 HL.out
  have HB1 := Lib.hid (HB.out.trans hb1)
  clear ho1 hb1 hk1
  go_wp2_with fail
  go_ret
  exact ⟨rfl, HB1.out⟩
end Go.Proofs.Ythacohejdpjjeaa
