/- Walks: a reading that ends too early, exactly; strings of bytes; what is known of scripts. -/
import Derived.Test.YticaheiomidanaaIL
import Derived.Laws.BytesArg
namespace Go.Proofs.Yticaheiomidanaa
open Go.RowKit

/-- too few bytes -/
def ShB (L : List Nat) (e : Ending) : Prop := e = .panicked [{ v := faultV (L.length : Int) 4, recovered := false }]

set_option maxHeartbeats 400000 in
theorem next_short (rb : Nat) (ao : Option Addr) (c : Nat) (L : List Nat) (w : World) (hr : RdS w rb ao L c L.length) :
    Calls Try.prog 41 #[.pointer (some ⟨rb, 0, none⟩)] w fun e w' => ShB L e ∧ But1 rb w w' := by
  have r0 := cell_of_heap hr (k := 0) rfl
  have r1 := cell_of_heap hr (k := 1) rfl
  clear hr
  go_enter Try.func41, Try.ntmps41
  go_wp2
  go_quiet (fail)
  go_wp2
  exact ⟨rfl, rfl, (But1.refl _ _).drewN _⟩

set_option maxHeartbeats 1000000 in
set_option maxRecDepth 100000 in
/-- one object, and nothing of it -/
theorem specs_short (rb : Nat) (ao : Option Addr) (b o c : Nat) (L : List Nat) (i : Nat) (w : World) (hs : Src w rb ao b o L) (hr : RdS w rb ao L c i) (hi : i + 1 = L.length) (hx : pNext (L.drop i) = some (1, [])) :
    Calls Try.prog 36 #[.pointer (some ⟨rb, 0, none⟩)] w fun e w' => ShB L e ∧ But1 rb w w' := by
  have hrw := lt_of_heap hr
  have X := next_any rb ao b o c L i w hs hr (by omega)
  rw [hx] at X
  have H1 := Lib.hid X
  have r1 := cell_of_heap hr (k := 1) rfl
  clear hs hr X
  go_enter Try.func36, Try.ntmps36
  go_wp2_with fail
  refine H1.out.mono ?_
  rintro e w1 ⟨hb, _, j0, rfl, rfl, hd, hj0, hr1⟩
  have hj : j0 = L.length := by
    have := congrArg List.length hd
    simp at this
    omega
  subst hj
  have hb' := Lib.hid hb
  have hr1' := Lib.hid hr1
  clear hb hr1 hd
  go_wp2
  go_loopw [5, 19] (fun v k wr => k = .int .i64 ((0 : Nat) : Int) ∧ Hid (But1 rb w wr) ∧ Hid (RdS wr rb ao L c L.length)) (fun _ _ _ => 1)
  case atStart => exact ⟨rfl, hb', hr1'⟩
  case round =>
    obtain ⟨rfl, hbt, hrd⟩ := hrel
    have HN := Lib.hid (next_short rb ao c L (wr.alloc (spO 0 0 0)) (hrd.out.alloc _))
    have HB := Lib.hid (hbt.out.alloc (spO 0 0 0))
    go_wp2_with fail
    refine HN.out.mono ?_
    rintro e w2 ⟨rfl, hb⟩
    have HB2 := Lib.hid (HB.out.trans hb)
    clear hb
    go_wp2_with fail
    exact ⟨rfl, rfl, HB2.out⟩

set_option maxHeartbeats 1000000 in
set_option maxRecDepth 100000 in
theorem script_short (rb : Nat) (ao : Option Addr) (b o c : Nat) (L : List Nat) (w : World) (hs : Src w rb ao b o L) (hr : RdS w rb ao L c 0) (hL : L = [1, 1]) :
    Calls Try.prog 30 #[.pointer (some ⟨rb, 0, none⟩)] w fun e w' => ShB L e ∧ But1 rb w w' := by
  have hrw := lt_of_heap hr
  have HL := Lib.hid hL
  clear hL
  have HS := Lib.hid hs
  have HB0 := Lib.hid ((But1.refl rb w).alloc (scO 0 nilV nilV nilV))
  have HR0 := Lib.hid (hr.alloc (scO 0 nilV nilV nilV))
  clear hs hr
  go_enter Try.func30, Try.ntmps30
  go_wp2_with fail
  generalize hW0 : w.alloc (scO 0 nilV nilV nilV) = W0 at HB0 HR0 ⊢
  clear hW0
  have X := threads_any rb ao b o c L 0 W0 (HS.out.keep hrw HB0.out) HR0.out (Nat.zero_le _)
  rw [show pThreads (L.drop 0) = some (1, [1]) by rw [HL.out]; rfl] at X
  refine X.mono ?_
  rintro e W1 ⟨hb, _, j, rfl, rfl, hd, hj, hr1⟩
  have hj1 : j = 1 := by
    have := congrArg List.length hd
    rw [HL.out] at this hj
    simp at this hj
    omega
  subst hj1
  have HB1 := Lib.hid (HB0.out.trans hb)
  have HP := Lib.hid (specs_short rb ao b o c L 1 W1 (HS.out.keep hrw HB1.out) hr1 (by rw [HL.out]; rfl) (by rw [HL.out]; rfl))
  clear hb hd hr1 X
  go_wp2_with fail
  refine HP.out.mono ?_
  rintro e W2 ⟨rfl, hb⟩
  have HB2 := Lib.hid (HB1.out.trans hb)
  clear hb
  go_wp2_with fail
  exact ⟨rfl, rfl, HB2.out⟩

/-- bytes as a string -/
theorem str_of (w : World) (ao : Option Addr) (b o c : Nat) (L : List Nat) (h0 : 0 < L.length → ao = some ⟨b, o, none⟩) (hc : BCells w b o L) :
    (convert 28 9 (.slice ao L.length c)).run Try.prog w = .ok (.string (strOfNums (L.map (fun x : Nat => (x : Int))))) w := by
  cases hL : L.length with
  | zero =>
    obtain rfl : L = [] := List.length_eq_zero_iff.1 hL
    cases ao with
    | none => exact run_convert_bytes_nil w 28 5 Try.underlying28 Try.underlying5 0 c 9 Try.underlying9
    | some a =>
      rw [run_convert_bytes_string w 28 9 5 _ 0 c Try.underlying28 Try.underlying5 Try.underlying9, run_bytesToString w a 0 c [] rfl]
      rfl
  | succ n =>
    rw [h0 (by omega), ← hL]
    refine run_convert_bytes_arg w 28 5 Try.underlying28 Try.underlying5 b o L.length c _ (by simp) ?_ 9 Try.underlying9
    intro i hi
    have := (hc i L[i] (List.getElem?_eq_getElem hi)).1
    rw [this]
    simp [List.getD, hi]
theorem bown_cells {w : World} {B : Nat} {v : Value} {l : List Nat} (h : BOwn w B v l) (h5 : ∀ x ∈ l, x < 256) : ∃ ao g c, v = .slice ao l.length c ∧ (0 < l.length → ao = some ⟨g, 0, none⟩) ∧ (0 < l.length → g < w.heap.size) ∧ BCells w g 0 l := by
  obtain ⟨ao, g, c, rfl, h1, _, h3, h4⟩ := owns_open h
  refine ⟨ao, g, c, rfl, h1, h3, fun i x hx => ⟨?_, h5 x (List.mem_of_getElem? hx)⟩⟩
  rw [Nat.zero_add]
  exact h4 i (bV x) (by rw [List.getElem?_map, hx]; rfl)

/-- Decode of two bytes that end too early -/
def DecSh (w : World) (e : Ending) (w' : World) : Prop := e = .returned (.tuple #[scA 0 nilV nilV nilV, .int .i64 2, .int .i64 4]) ∧ Below w.heap.size w w'
set_option maxHeartbeats 2000000 in
set_option maxRecDepth 100000 in
theorem decode_short (ao : Option Addr) (b o c : Nat) (L : List Nat) (w : World) (h0 : 0 < L.length → ao = some ⟨b, o, none⟩) (hb : 0 < L.length → b < w.heap.size) (hc : BCells w b o L) (hl : L.length ≤ 9223372036854775806) (hLL : L = [1, 1]) :
    Calls Try.prog 13 #[.slice ao L.length c] w (DecSh w) := by
  have HLL := Lib.hid hLL
  clear hLL
  have hmf : ∀ (fn : Fn) (first cap : Array Value) (w : World), (Instr.makeFunc fn first cap).run Try.prog w = .ok (.func fn first cap) w := fun _ _ _ _ => rfl
  have s1 : (w.alloc (scO 0 nilV nilV nilV)).heap.size = w.heap.size + 1 := by simp
  have s2 : ((w.alloc (scO 0 nilV nilV nilV)).alloc (.cells #[.int .i64 0] 3)).heap.size = w.heap.size + 2 := by simp
  have s3 : (((w.alloc (scO 0 nilV nilV nilV)).alloc (.cells #[.int .i64 0] 3)).alloc (.cells #[.int .i64 0] 29)).heap.size = w.heap.size + 3 := by simp
  have k0 := heap_new w (scO 0 nilV nilV nilV)
  have k1 := heap_new (w.alloc (scO 0 nilV nilV nilV)) (.cells #[.int .i64 0] 3)
  rw [s1] at k1
  have k2 := heap_new ((w.alloc (scO 0 nilV nilV nilV)).alloc (.cells #[.int .i64 0] 3)) (.cells #[.int .i64 0] 29)
  rw [s2] at k2
  have k3 := heap_new (((w.alloc (scO 0 nilV nilV nilV)).alloc (.cells #[.int .i64 0] 3)).alloc (.cells #[.int .i64 0] 29)) (.cells #[.slice ao L.length c, .int .i64 ((0 : Nat) : Int)] 74)
  rw [s3] at k3
  have B : Below w.heap.size w ((((w.alloc (scO 0 nilV nilV nilV)).alloc (.cells #[.int .i64 0] 3)).alloc (.cells #[.int .i64 0] 29)).alloc (.cells #[.slice ao L.length c, .int .i64 ((0 : Nat) : Int)] 74)) :=
    ((((Below.refl _ _).alloc (Nat.le_refl _) _).alloc (by omega) _).alloc (by omega) _).alloc (by omega) _
  have K0 := Lib.hid ((Below.heap_alloc _ (.cells #[.slice ao L.length c, .int .i64 ((0 : Nat) : Int)] 74) w.heap.size (by omega)).trans ((Below.heap_alloc _ (.cells #[.int .i64 0] 29) w.heap.size (by omega)).trans ((Below.heap_alloc _ (.cells #[.int .i64 0] 3) w.heap.size (by omega)).trans k0)))
  have K1 := Lib.hid ((Below.heap_alloc _ (.cells #[.slice ao L.length c, .int .i64 ((0 : Nat) : Int)] 74) (w.heap.size + 1) (by omega)).trans ((Below.heap_alloc _ (.cells #[.int .i64 0] 29) (w.heap.size + 1) (by omega)).trans k1))
  have K2 := Lib.hid ((Below.heap_alloc _ (.cells #[.slice ao L.length c, .int .i64 ((0 : Nat) : Int)] 74) (w.heap.size + 2) (by omega)).trans k2)
  have KR := Lib.hid k3
  have HB := Lib.hid B
  have HC := Lib.hid hc
  have HH0 := Lib.hid h0
  have HHB := Lib.hid hb
  clear k0 k1 k2 k3 B hc h0 hb s1 s2 s3
  go_enter_defers Try.func13, Try.ntmps13
  go_wp2_with fail
  generalize hW0 : ((((w.alloc (scO 0 nilV nilV nilV)).alloc (.cells #[.int .i64 0] 3)).alloc (.cells #[.int .i64 0] 29)).alloc (.cells #[.slice ao L.length c, .int .i64 0] 74)) = W0 at K0 K1 K2 KR HB ⊢
  clear hW0
  have HSrc : Src W0 (w.heap.size + 3) ao b o L := ⟨HH0.out, fun h => by have := HHB.out h; omega, HC.out.stays HB.out HHB.out, hl⟩
  have X := script_short (w.heap.size + 3) ao b o c L W0 HSrc KR.out HLL.out
  refine X.mono ?_
  rintro e w1 ⟨rfl, hb⟩
  have j0 := hb.at K0.out (by omega)
  have j1 := hb.at K1.out (by omega)
  have j2 := hb.at K2.out (by omega)
  have HB1 := Lib.hid (HB.out.trans (hb.below (B := w.heap.size) (by omega) HB.out.size))
  clear hb X
  go_wp2_with fail
  refine leaves_cons (f := 29) (args := #[.pointer (some ⟨w.heap.size + 1, 0, none⟩), .pointer (some ⟨w.heap.size + 2, 0, none⟩)]) (by simp) (by simp [go_sem]) ?_
  refine (catch_panicking (w.heap.size + 1) (w.heap.size + 2) 0 0 (L.length : Int) 4 [] w1 (by omega) j1 j2).mono ?_
  rintro e u' w2 ⟨rfl, rfl, m1, m2, h2⟩
  have m0 := (h2.block w.heap.size (lt_of_heap j0) (by omega) (by omega)).trans j0
  have e0 := cell_of_heap m0 (k := 0) (v := .int .i64 ((0 : Nat) : Int)) rfl
  have e1 := cell_of_heap m0 (k := 1) (v := nilV) rfl
  have e2 := cell_of_heap m0 (k := 2) (v := nilV) rfl
  have e3 := cell_of_heap m0 (k := 3) (v := nilV) rfl
  have e4 := cell_of_heap m1 (k := 0) (v := .int .i64 (L.length : Int)) rfl
  have e5 := cell_of_heap m2 (k := 0) (v := .int .i64 4) rfl
  have HD : DecSh w (.returned (.tuple #[scA 0 nilV nilV nilV, .int .i64 (L.length : Int), .int .i64 4])) w2 := by
    exact ⟨by rw [HLL.out]; rfl, ⟨h2.os.trans HB1.out.os, h2.tape.trans HB1.out.tape, h2.output.trans HB1.out.output, Nat.le_trans HB1.out.size h2.size, fun k hk => (h2.block k (by have := HB1.out.size; omega) (by omega) (by omega)).trans (HB1.out.block k hk)⟩⟩
  simp [Leaves, settle, results, Try.results13, go_sem, e0, e1, e2, e3, e4, e5]
  exact HD
end Go.Proofs.Yticaheiomidanaa
