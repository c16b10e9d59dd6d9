/- Walks of pick: Now, steps; the reference's Wrong and Now. -/
import Derived.Test.YtglpalomhhhmhaaProg
import Derived.Test.YtglpalomhhhmhaaU2
import Derived.Test.YtglpalomhhhmhaaN1
import Derived.Test.YtglpalomhhhmhaaR
import Derived.WalkLawsBesides
namespace Go.Proofs.Ytglpalomhhhmhaa
open Go.RowKit

/-- numbers of calls lie in a row, below 'top' -/
def NumsAt (w : World) (top : Nat) (v : Value) (l : List Nat) : Prop :=
  ∃ (ao : Option Addr) (b o cap : Nat), v = .slice ao l.length cap ∧ (0 < l.length → ao = some ⟨b, o, none⟩ ∧ b < top) ∧ l.length ≤ cap ∧ cap ≤ 9223372036854775807 ∧ ∀ (i x : Nat), l[i]? = some x → w.cell? ⟨b, o + i, none⟩ = some (.int .i64 (x : Int))
theorem NumsAt.nil (w : World) (top : Nat) : NumsAt w top (.slice none 0 0) [] := ⟨none, 0, 0, 0, rfl, fun h => absurd h (by simp), by simp, by omega, fun i x h => by simp at h⟩
theorem NumsAt.stays {w w' : World} {top : Nat} {v : Value} {l : List Nat} (h : NumsAt w top v l) (hb : ∀ k, k < top → w'.heap[k]? = w.heap[k]?) : NumsAt w' top v l := by
  obtain ⟨ao, b, o, cap, rfl, ha, hc, hm, hx⟩ := h
  refine ⟨ao, b, o, cap, rfl, ha, hc, hm, fun i x h => ?_⟩
  have hl : 0 < l.length := by have := (List.getElem?_eq_some_iff.1 h).1; omega
  rw [← hx i x h]
  unfold World.cell?
  rw [hb b (ha hl).2]

/-- a line: its struct's block, its map's; what each thread has left -/
structure LineIs (w : World) (top lb mb n : Nat) (f : Int → Value) (own : Int → List Nat) : Prop where
  cell : w.cell? ⟨lb, 0, none⟩ = some (.map (some mb))
  map : MapIs Try.prog 3 w mb n (.slice none 0 0) f
  rows : ∀ p, NumsAt w top (f p) (own p)
  dom : ∀ p, own p ≠ [] → 0 ≤ p ∧ p < 16
  lt1 : lb < top
  lt2 : mb < top

theorem LineIs.ne {w : World} {top lb mb n : Nat} {f : Int → Value} {own : Int → List Nat} (h : LineIs w top lb mb n f own) : lb ≠ mb := by
  intro e
  have h1 := h.map.no_cell ⟨lb, 0, none⟩ e
  rw [h.cell] at h1; cases h1
theorem LineIs.stays {w w' : World} {top lb mb n : Nat} {f : Int → Value} {own : Int → List Nat} (h : LineIs w top lb mb n f own) {B : Nat} (hb : Below B w w') (hB : top ≤ B) : LineIs w' top lb mb n f own :=
  ⟨(hb.cell (p := ⟨lb, 0, none⟩) (Nat.lt_of_lt_of_le h.lt1 hB)).trans h.cell, h.map.below hb (Nat.lt_of_lt_of_le h.lt2 hB), fun p => (h.rows p).stays (fun k hk => hb.block k (Nat.lt_of_lt_of_le hk hB)), h.dom, h.lt1, h.lt2⟩
theorem LineIs.drewN {w : World} {top lb mb n : Nat} {f : Int → Value} {own : Int → List Nat} (h : LineIs w top lb mb n f own) (k : Nat) : LineIs (w.drewN k) top lb mb n f own := ⟨h.cell, h.map.drewN k, h.rows, h.dom, h.lt1, h.lt2⟩
theorem LineIs.drew {w : World} {top lb mb n : Nat} {f : Int → Value} {own : Int → List Nat} (h : LineIs w top lb mb n f own) : LineIs w.drew top lb mb n f own := ⟨h.cell, h.map.drew, h.rows, h.dom, h.lt1, h.lt2⟩

theorem zeroSl (w : World) : (zeroValue 23).run Try.prog w = .ok (.slice none 0 0) w := by kernel_rfl
theorem LineIs.look {w : World} {top lb mb n : Nat} {f : Int → Value} {own : Int → List Nat} (h : LineIs w top lb mb n f own) {p : Int} (hp : -9223372036854775808 ≤ p ∧ p ≤ 9223372036854775807) :
    (Instr.lookup 94 (.map (some mb)) (.int .i64 p) false).run Try.prog w = .ok (f p) w :=
  h.map.look Try.underlying3 Try.underlying94 (zeroSl w) (WalkArith.wf_i64 hp)

theorem now_nilptr (p : Int) (w : World) : Calls Try.prog 27 #[.pointer none, .int .i64 p] w fun e w' => e = .returned (.tuple #[.int .i64 0, .bool false]) ∧ w = w' := by
  go_enter Try.func27, Try.ntmps27
  go_wp2
  go_ret2
  exact ⟨rfl, rfl⟩

theorem now_done {top lb mb n : Nat} {f : Int → Value} {own : Int → List Nat} (p : Int) (w : World) (h : LineIs w top lb mb n f own) (hp : -9223372036854775808 ≤ p ∧ p ≤ 9223372036854775807) (ho : own p = []) :
    Calls Try.prog 27 #[.pointer (some ⟨lb, 0, none⟩), .int .i64 p] w fun e w' => e = .returned (.tuple #[.int .i64 0, .bool false]) ∧ w = w' := by
  have c0 := h.cell
  have hlk := h.look hp
  obtain ⟨ao, b, o, cap, hv, _, _, _, _⟩ := h.rows p
  rw [ho] at hv
  rw [hv] at hlk
  clear hv h
  go_enter Try.func27, Try.ntmps27
  go_wp2
  go_ret2
  exact ⟨rfl, rfl⟩

set_option maxRecDepth 20000 in
theorem now_at {top lb mb n : Nat} {f : Int → Value} {own : Int → List Nat} (p : Int) (w : World) (h : LineIs w top lb mb n f own) (hp : -9223372036854775808 ≤ p ∧ p ≤ 9223372036854775807) {i : Nat} {r : List Nat} (ho : own p = i :: r) :
    Calls Try.prog 27 #[.pointer (some ⟨lb, 0, none⟩), .int .i64 p] w fun e w' => e = .returned (.tuple #[.int .i64 (i : Int), .bool true]) ∧ w = w' := by
  have c0 := h.cell
  have hlk := h.look hp
  obtain ⟨ao, b, o, cap, hv, ha, hc, hm, hx⟩ := h.rows p
  rw [ho] at hv ha hx hc
  rw [hv] at hlk
  obtain ⟨rfl, _⟩ := ha (by simp)
  have c1 := hx 0 i rfl
  rw [Nat.add_zero] at c1
  obtain ⟨m, hml, hm0⟩ : ∃ m, (i :: r).length = m ∧ 0 < m := ⟨_, rfl, by simp⟩
  rw [hml] at hc hlk
  have hr : m ≤ 9223372036854775807 := by omega
  clear hv h ha hx hml ho hc hm
  go_enter Try.func27, Try.ntmps27
  have i1 : (0 : Int) < (m : Int) := by omega
  go_wp2
  go_ret2
  exact ⟨rfl, rfl⟩

/-- calls lie in a row -/
structure CallV where
  t : Int
  o : Int
  k : Int
  a : Nat
  b : Nat
  c : Nat
def CallsAt (w : World) (b o : Nat) (l : List CallV) : Prop :=
  ∀ (i : Nat) (x : CallV), l[i]? = some x → w.cell? ⟨b, o + i * 6, none⟩ = some (.int .i64 x.t) ∧ w.cell? ⟨b, o + i * 6 + 1, none⟩ = some (.int .i64 x.o) ∧ w.cell? ⟨b, o + i * 6 + 2, none⟩ = some (.int .i64 x.k) ∧
    w.cell? ⟨b, o + i * 6 + 3, none⟩ = some (.int .u64 (x.a : Int)) ∧ w.cell? ⟨b, o + i * 6 + 4, none⟩ = some (.int .u64 (x.b : Int)) ∧ w.cell? ⟨b, o + i * 6 + 5, none⟩ = some (.int .u64 (x.c : Int)) ∧
    (-9223372036854775808 ≤ x.t ∧ x.t ≤ 9223372036854775807) ∧ (-9223372036854775808 ≤ x.o ∧ x.o ≤ 9223372036854775807) ∧ (-9223372036854775808 ≤ x.k ∧ x.k ≤ 9223372036854775807) ∧ x.a < 18446744073709551616 ∧ x.b < 18446744073709551616 ∧ x.c < 18446744073709551616
theorem CallsAt.stays {w wr : World} {b o B : Nat} {l : List CallV} (h : CallsAt w b o l) (hb : Below B w wr) (hB : 0 < l.length → b < B) : CallsAt wr b o l := by
  intro i x hx
  have hl : 0 < l.length := by have := (List.getElem?_eq_some_iff.1 hx).1; omega
  obtain ⟨h1, h2, h3, h4, h5, h6, h7⟩ := h i x hx
  have e := fun o => hb.cell (p := ⟨b, o, none⟩) (hB hl)
  exact ⟨(e _).trans h1, (e _).trans h2, (e _).trans h3, (e _).trans h4, (e _).trans h5, (e _).trans h6, h7⟩
def thr (l : List CallV) : List Int := l.map CallV.t
theorem thr_get {l : List CallV} {i : Nat} {x : CallV} (h : l[i]? = some x) : (thr l)[i]? = some x.t := by unfold thr; rw [List.getElem?_map, h]; rfl
theorem thr_len (l : List CallV) : (thr l).length = l.length := by unfold thr; simp

/-- bools lie in a row -/
def BoolsAt (w : World) (b o : Nat) (l : List Bool) : Prop := ∀ (i : Nat) (x : Bool), l[i]? = some x → w.cell? ⟨b, o + i, none⟩ = some (.bool x)

theorem nowI_some {ts : List Int} {fin : List Bool} {p : Int} {i : Nat} (h : nowOf ts fin p = some i) : nowI ts fin p = i := by unfold nowI; rw [h]
theorem nowI_none {ts : List Int} {fin : List Bool} {p : Int} (h : nowOf ts fin p = none) : nowI ts fin p = -1 := by unfold nowI; rw [h]

end Go.Proofs.Ytglpalomhhhmhaa
