/- Walk of Decode. -/
import Derived.Test.YticaheiomidanaaIF
namespace Go.Proofs.Yticaheiomidanaa
open Go.RowKit

theorem below_set {B : Nat} {a w : World} (h : Below B a w) {x : Addr} (hx : B ≤ x.block) (v : Value) : Below B a (w.setCell x v) :=
  ⟨h.os, h.tape, h.output, by simpa [World.setCell] using h.size, fun k hk => (Below.heap_setCell w x v k (by omega)).trans (h.block k hk)⟩

/-- what Decode gives -/
def DecP (L : List Nat) (w : World) (e : Ending) (w' : World) : Prop :=
  Below w.heap.size w w' ∧ match pScript L with
    | some (x, _) => ∃ u, e = .returned (.tuple #[u, .int .i64 0, .int .i64 0]) ∧ scriptV w.heap.size x u w'
    | none => ∃ P r : Int, 0 ≤ P ∧ P ≤ L.length ∧ 1 ≤ r ∧ r ≤ 10 ∧ e = .returned (.tuple #[scA 0 nilV nilV nilV, .int .i64 P, .int .i64 r])

set_option maxHeartbeats 2000000 in
set_option maxRecDepth 100000 in
theorem decode_any (ao : Option Addr) (b o c : Nat) (L : List Nat) (w : World) (h0 : 0 < L.length → ao = some ⟨b, o, none⟩) (hb : 0 < L.length → b < w.heap.size) (hc : BCells w b o L) (hl : L.length ≤ 9223372036854775806) :
    Calls Try.prog 13 #[.slice ao L.length c] w (DecP L w) := by
  have hmf : ∀ (fn : Fn) (first cap : Array Value) (w : World), (Instr.makeFunc fn first cap).run Try.prog w = .ok (.func fn first cap) w := fun _ _ _ _ => rfl
  have s1 : (w.alloc (scO 0 nilV nilV nilV)).heap.size = w.heap.size + 1 := by simp
  have s2 : ((w.alloc (scO 0 nilV nilV nilV)).alloc (.cells #[.int .i64 0] 3)).heap.size = w.heap.size + 2 := by simp
  have s3 : (((w.alloc (scO 0 nilV nilV nilV)).alloc (.cells #[.int .i64 0] 3)).alloc (.cells #[.int .i64 0] 29)).heap.size = w.heap.size + 3 := by simp
  have k0 := heap_new w (scO 0 nilV nilV nilV)
  have k1 := heap_new (w.alloc (scO 0 nilV nilV nilV)) (.cells #[.int .i64 0] 3)
  rw [s1] at k1
  have k2 := heap_new ((w.alloc (scO 0 nilV nilV nilV)).alloc (.cells #[.int .i64 0] 3)) (.cells #[.int .i64 0] 29)
  rw [s2] at k2
  have k3 := heap_new (((w.alloc (scO 0 nilV nilV nilV)).alloc (.cells #[.int .i64 0] 3)).alloc (.cells #[.int .i64 0] 29)) (.cells #[.slice ao L.length c, .int .i64 ((0 : Nat) : Int)] 74)
  rw [s3] at k3
  have B : Below w.heap.size w ((((w.alloc (scO 0 nilV nilV nilV)).alloc (.cells #[.int .i64 0] 3)).alloc (.cells #[.int .i64 0] 29)).alloc (.cells #[.slice ao L.length c, .int .i64 ((0 : Nat) : Int)] 74)) :=
    ((((Below.refl _ _).alloc (Nat.le_refl _) _).alloc (by omega) _).alloc (by omega) _).alloc (by omega) _
  have K0 := Lib.hid ((Below.heap_alloc _ (.cells #[.slice ao L.length c, .int .i64 ((0 : Nat) : Int)] 74) w.heap.size (by omega)).trans ((Below.heap_alloc _ (.cells #[.int .i64 0] 29) w.heap.size (by omega)).trans ((Below.heap_alloc _ (.cells #[.int .i64 0] 3) w.heap.size (by omega)).trans k0)))
  have K1 := Lib.hid ((Below.heap_alloc _ (.cells #[.slice ao L.length c, .int .i64 ((0 : Nat) : Int)] 74) (w.heap.size + 1) (by omega)).trans ((Below.heap_alloc _ (.cells #[.int .i64 0] 29) (w.heap.size + 1) (by omega)).trans k1))
  have K2 := Lib.hid ((Below.heap_alloc _ (.cells #[.slice ao L.length c, .int .i64 ((0 : Nat) : Int)] 74) (w.heap.size + 2) (by omega)).trans k2)
  have KR := Lib.hid k3
  have HB := Lib.hid B
  have HC := Lib.hid hc
  have HH0 := Lib.hid h0
  have HHB := Lib.hid hb
  clear k0 k1 k2 k3 B hc h0 hb s1 s2 s3
  go_enter_defers Try.func13, Try.ntmps13
  go_wp2_with fail
  generalize hW0 : ((((w.alloc (scO 0 nilV nilV nilV)).alloc (.cells #[.int .i64 0] 3)).alloc (.cells #[.int .i64 0] 29)).alloc (.cells #[.slice ao L.length c, .int .i64 0] 74)) = W0 at K0 K1 K2 KR HB ⊢
  clear hW0
  have HSrc : Src W0 (w.heap.size + 3) ao b o L := ⟨HH0.out, fun h => by have := HHB.out h; omega, HC.out.stays HB.out HHB.out, hl⟩
  have X := script_any (w.heap.size + 3) ao b o c L 0 W0 HSrc KR.out (Nat.zero_le _)
  rw [List.drop_zero] at X
  cases h1 : pScript L with
  | none =>
    rw [h1] at X
    refine X.mono ?_
    rintro e w1 ⟨hb, p, r, hp1, hp2, hr1, hr2, rfl⟩
    have E1 := Lib.hid h1
    have j0 := hb.at K0.out (by omega)
    have j1 := hb.at K1.out (by omega)
    have j2 := hb.at K2.out (by omega)
    have HB1 := Lib.hid (HB.out.trans (hb.below (B := w.heap.size) (by omega) HB.out.size))
    clear hb X h1
    go_wp2_with fail
    refine leaves_cons (f := 29) (args := #[.pointer (some ⟨w.heap.size + 1, 0, none⟩), .pointer (some ⟨w.heap.size + 2, 0, none⟩)]) (by simp) (by simp [go_sem]) ?_
    refine (catch_panicking (w.heap.size + 1) (w.heap.size + 2) 0 0 p r [] w1 (by omega) j1 j2).mono ?_
    rintro e u' w2 ⟨rfl, rfl, m1, m2, h2⟩
    have m0 := (h2.block w.heap.size (lt_of_heap j0) (by omega) (by omega)).trans j0
    have e0 := cell_of_heap m0 (k := 0) (v := .int .i64 ((0 : Nat) : Int)) rfl
    have e1 := cell_of_heap m0 (k := 1) (v := nilV) rfl
    have e2 := cell_of_heap m0 (k := 2) (v := nilV) rfl
    have e3 := cell_of_heap m0 (k := 3) (v := nilV) rfl
    have e4 := cell_of_heap m1 (k := 0) (v := .int .i64 p) rfl
    have e5 := cell_of_heap m2 (k := 0) (v := .int .i64 r) rfl
    have HD : DecP L w (.returned (.tuple #[scA 0 nilV nilV nilV, .int .i64 p, .int .i64 r])) w2 := by
      refine ⟨⟨h2.os.trans HB1.out.os, h2.tape.trans HB1.out.tape, h2.output.trans HB1.out.output, Nat.le_trans HB1.out.size h2.size, fun k hk => (h2.block k (by have := HB1.out.size; omega) (by omega) (by omega)).trans (HB1.out.block k hk)⟩, ?_⟩
      rw [E1.out]
      exact ⟨p, r, hp1, hp2, hr1, hr2, rfl⟩
    simp [Leaves, settle, results, Try.results13, go_sem, e0, e1, e2, e3, e4, e5]
    exact HD
  | some q =>
    obtain ⟨x, rr⟩ := q
    rw [h1] at X
    refine X.mono ?_
    rintro e w1 ⟨hb, u, j9, rfl, ⟨vs, vc, vp, rfl, o1, o2, o3⟩, rfl, hj9, hr9⟩
    have E1 := Lib.hid h1
    have j0 := hb.at K0.out (by omega)
    have j1 := hb.at K1.out (by omega)
    have j2 := hb.at K2.out (by omega)
    have HB1 := Lib.hid (HB.out.trans (hb.below (B := w.heap.size) (by omega) HB.out.size))
    obtain ⟨a2, g2, c2, rfl, -, -, -, -⟩ := owns_open o1
    obtain ⟨a3, g3, c3, rfl, -, -, -, -⟩ := owns_open o2
    obtain ⟨a4, g4, c4, rfl, -, -, -, -⟩ := owns_open o3
    have O1 := Lib.hid o1
    have O2 := Lib.hid o2
    have O3 := Lib.hid o3
    have q0 := cell_of_heap j0 (k := 0) rfl
    have q1 := cell_of_heap j0 (k := 1) rfl
    have q2 := cell_of_heap j0 (k := 2) rfl
    have q3 := cell_of_heap j0 (k := 3) rfl
    have q4 := cell_of_heap j1 (k := 0) rfl
    have q5 := cell_of_heap j2 (k := 0) rfl
    have f0 := fun k => free_of_heap (k := k) j0
    have f1 := fun k => free_of_heap (k := k) j1
    have f2 := fun k => free_of_heap (k := k) j2
    clear hb X h1 o1 o2 o3
    go_wp2_with fail
    refine leaves_cons (f := 29) (args := #[.pointer (some ⟨w.heap.size + 1, 0, none⟩), .pointer (some ⟨w.heap.size + 2, 0, none⟩)]) (by simp) (by simp [go_sem]) ?_
    refine (catch_idle ⟨w.heap.size + 1, 0, none⟩ ⟨w.heap.size + 2, 0, none⟩ _).mono ?_
    rintro e u' w2 ⟨rfl, rfl, rfl⟩
    have n1 := heap_set_self (k := 0) (v := .int .i64 (x.n : Int)) j0
    have n2 := heap_set_self (k := 1) (v := .slice a2 x.specs.length c2) n1
    have n3 := heap_set_self (k := 2) (v := .slice a3 x.calls.length c3) n2
    have n4 := heap_set_self (k := 3) (v := .slice a4 x.picks.length c4) n3
    have XA := ((((But1.refl w.heap.size w1).setCell (x := ⟨w.heap.size, 0, none⟩) (.inl rfl) (.int .i64 (x.n : Int))).setCell (x := ⟨w.heap.size, 1, none⟩) (.inl rfl) (.slice a2 x.specs.length c2)).setCell (x := ⟨w.heap.size, 2, none⟩) (.inl rfl) (.slice a3 x.calls.length c3)).setCell (x := ⟨w.heap.size, 3, none⟩) (.inl rfl) (.slice a4 x.picks.length c4)
    have BA := below_set (below_set (below_set (below_set HB1.out (x := ⟨w.heap.size, 0, none⟩) (Nat.le_refl _) (.int .i64 (x.n : Int))) (x := ⟨w.heap.size, 1, none⟩) (Nat.le_refl _) (.slice a2 x.specs.length c2)) (x := ⟨w.heap.size, 2, none⟩) (Nat.le_refl _) (.slice a3 x.calls.length c3)) (x := ⟨w.heap.size, 3, none⟩) (Nat.le_refl _) (.slice a4 x.picks.length c4)
    have l1 := XA.at j1 (by omega)
    have l2 := XA.at j2 (by omega)
    clear q0 q1 q2 q3 q4 q5 f0 f1 f2 n1 n2 n3
    generalize (((w1.setCell ⟨w.heap.size, 0, none⟩ (.int .i64 (x.n : Int))).setCell ⟨w.heap.size, 1, none⟩ (.slice a2 x.specs.length c2)).setCell ⟨w.heap.size, 2, none⟩ (.slice a3 x.calls.length c3)).setCell ⟨w.heap.size, 3, none⟩ (.slice a4 x.picks.length c4) = Wa at n4 XA BA l1 l2 ⊢
    have XB := (But1.refl (w.heap.size + 1) Wa).setCell (x := ⟨w.heap.size + 1, 0, none⟩) (.inl rfl) (.int .i64 0)
    have BB := below_set BA (x := ⟨w.heap.size + 1, 0, none⟩) (by simp) (.int .i64 0)
    have n5 := XB.at n4 (by omega)
    have l3 := heap_set_self (k := 0) (v := .int .i64 0) l1
    have l4 := XB.at l2 (by omega)
    generalize Wa.setCell ⟨w.heap.size + 1, 0, none⟩ (.int .i64 0) = Wb at XB BB n5 l3 l4 ⊢
    have XC := (But1.refl (w.heap.size + 2) Wb).setCell (x := ⟨w.heap.size + 2, 0, none⟩) (.inl rfl) (.int .i64 0)
    have BC := below_set BB (x := ⟨w.heap.size + 2, 0, none⟩) (by simp) (.int .i64 0)
    have n6 := XC.at n5 (by omega)
    have l5 := XC.at l3 (by omega)
    have l6 := heap_set_self (k := 0) (v := .int .i64 0) l4
    generalize Wb.setCell ⟨w.heap.size + 2, 0, none⟩ (.int .i64 0) = Wc at XC BC n6 l5 l6 ⊢
    have e0 := cell_of_heap n6 (k := 0) (v := .int .i64 (x.n : Int)) rfl
    have e1 := cell_of_heap n6 (k := 1) (v := .slice a2 x.specs.length c2) rfl
    have e2 := cell_of_heap n6 (k := 2) (v := .slice a3 x.calls.length c3) rfl
    have e3 := cell_of_heap n6 (k := 3) (v := .slice a4 x.picks.length c4) rfl
    have e4 := cell_of_heap l5 (k := 0) (v := .int .i64 0) rfl
    have e5 := cell_of_heap l6 (k := 0) (v := .int .i64 0) rfl
    have P1 : Wc.ownsRow (w.heap.size + 3 + 1) 62 3 (.slice a2 x.specs.length c2) x.specs.length (x.specs.flatMap SpV.cells) := XC.own (XB.own (XA.own O1.out (by omega)) (by omega)) (by omega)
    have P2 : Wc.ownsRow (w.heap.size + 3 + 1) 66 6 (.slice a3 x.calls.length c3) x.calls.length (x.calls.flatMap CaV.cells) := XC.own (XB.own (XA.own O2.out (by omega)) (by omega)) (by omega)
    have P3 : Wc.ownsRow (w.heap.size + 3 + 1) 3 1 (.slice a4 x.picks.length c4) x.picks.length (x.picks.map inV) := XC.own (XB.own (XA.own O3.out (by omega)) (by omega)) (by omega)
    have HD : DecP L w (.returned (.tuple #[scA x.n (.slice a2 x.specs.length c2) (.slice a3 x.calls.length c3) (.slice a4 x.picks.length c4), .int .i64 0, .int .i64 0])) Wc := by
      refine ⟨BC, ?_⟩
      rw [E1.out]
      exact ⟨_, rfl, _, _, _, rfl, own_lower P1 (by omega), own_lower P2 (by omega), own_lower P3 (by omega)⟩
    simp [Leaves, settle, results, Try.results13, go_sem, e0, e1, e2, e3, e4, e5]
    exact HD
end Go.Proofs.Yticaheiomidanaa
