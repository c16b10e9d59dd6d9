/- history: which event is ahead of which; the reference's, too. -/
import Derived.Test.YtkkkpobdjhmgfaaGreatDoorHA
import Derived.IntWalk
namespace Go.Proofs.YtkkkpobdjhmgfaaGreatDoor
set_option maxRecDepth 100000
open Go.RowKit
set_option linter.unusedVariables false
set_option linter.unusedSimpArgs false

def ahd (x y : EvL) : Bool := done x && decide (x.rs < y.iv)
def within (x : EvL) (at' : Int) : Bool := decide (x.iv ≤ at') && (decide (x.rs = 0) || decide (at' ≤ x.rs))
def aheadAt (l : List EvL) (i k : Int) : Bool := if 0 ≤ i ∧ i < l.length ∧ 0 ≤ k ∧ k < l.length then (match l[i.toNat]?, l[k.toNat]? with | some x, some y => ahd x y | _, _ => false) else false
theorem aheadAt_in {l : List EvL} {i k : Nat} {x y : EvL} (hx : l[i]? = some x) (hy : l[k]? = some y) : aheadAt l i k = ahd x y := by
  have h1 := (List.getElem?_eq_some_iff.1 hx).1
  have h2 := (List.getElem?_eq_some_iff.1 hy).1
  unfold aheadAt
  rw [if_pos ⟨by omega, by omega, by omega, by omega⟩, Int.toNat_natCast, Int.toNat_natCast, hx, hy]

set_option maxHeartbeats 1000000 in
theorem ahead_in (b o c : Nat) (l : List EvL) (i k : Nat) (x y : EvL) (w : World) (hl : l.length ≤ 100) (hb : b < w.heap.size) (hc : EvsAt w b o l) (hx : l[i]? = some x) (hy : l[k]? = some y) :
    Calls Tryz.prog 24 #[.slice (some ⟨b, o, none⟩) l.length c, .int .i64 (i : Int), .int .i64 (k : Int)] w fun e w' => e = .returned (.bool (ahd x y)) ∧ Below w.heap.size w w' := by
  have h1 := (List.getElem?_eq_some_iff.1 hx).1
  have h2 := (List.getElem?_eq_some_iff.1 hy).1
  obtain ⟨c0, c1, c2, c3, c4, c5, c6, c7⟩ := hc.cells hx
  obtain ⟨_, e1, _⟩ := hc.cells hy
  have l0 : ∀ p : BW w.heap.size w, p.v.cell? ⟨b, o + i * 8, none⟩ = some (.int .i64 x.ca) := fun p => p.cell hb c0
  have l1 : ∀ p : BW w.heap.size w, p.v.cell? ⟨b, o + i * 8 + 1, none⟩ = some (.int .i64 x.iv) := fun p => p.cell hb c1
  have l2 : ∀ p : BW w.heap.size w, p.v.cell? ⟨b, o + i * 8 + 2, none⟩ = some (.int .i64 x.rs) := fun p => p.cell hb c2
  have l3 : ∀ p : BW w.heap.size w, p.v.cell? ⟨b, o + i * 8 + 3, none⟩ = some (.int .i64 x.st) := fun p => p.cell hb c3
  have l4 : ∀ p : BW w.heap.size w, p.v.cell? ⟨b, o + i * 8 + 4, none⟩ = some (.int .i64 x.er) := fun p => p.cell hb c4
  have l5 : ∀ p : BW w.heap.size w, p.v.cell? ⟨b, o + i * 8 + 5, none⟩ = some (.int .u64 (x.vl : Int)) := fun p => p.cell hb c5
  have l6 : ∀ p : BW w.heap.size w, p.v.cell? ⟨b, o + i * 8 + 6, none⟩ = some (.slice x.la x.nl x.cl) := fun p => p.cell hb c6
  have l7 : ∀ p : BW w.heap.size w, p.v.cell? ⟨b, o + i * 8 + 7, none⟩ = some (.slice x.ka x.nk x.ck) := fun p => p.cell hb c7
  have m1 : ∀ p : BW w.heap.size w, p.v.cell? ⟨b, o + k * 8 + 1, none⟩ = some (.int .i64 y.iv) := fun p => p.cell hb e1
  have d1 : decide ((i : Int) < 0) = false := decide_eq_false (by omega)
  have d2 : decide ((l.length : Int) ≤ i) = false := decide_eq_false (by omega)
  have d3 : decide ((k : Int) < 0) = false := decide_eq_false (by omega)
  have d4 : decide ((l.length : Int) ≤ k) = false := decide_eq_false (by omega)
  have HD := Lib.hid (done_ok x)
  unfold ahd
  clear hc hx hy c0 c1 c2 c3 c4 c5 c6 c7 e1
  unfold EvL.v at HD
  obtain ⟨ca, iv, rs, st, er, vl, la, nl, cl, ka, nk, ck⟩ := x
  dsimp only at *
  generalize hD : done ⟨ca, iv, rs, st, er, vl, la, nl, cl, ka, nk, ck⟩ = D at *
  clear hD
  cases D with
  | false =>
    go_enter Tryz.func24, Tryz.ntmps24
    go_wp2
    refine wp_region_low (B := w.heap.size) (w := w) (by kernel_rfl) (by kernel_rfl) ?_
    repeat (go_big_quiet_step ((go_at_call 43; exact low_call (HD.out _) (Nat.le_refl _))))
    refine wpQuiet_nil ?_
    intro _ hw'
    obtain ⟨⟨w2, hb2⟩, rfl⟩ := hw'
    go_wp2
    go_ret
    exact ⟨rfl, hb2⟩
  | true =>
    go_enter Tryz.func24, Tryz.ntmps24
    go_wp2
    refine wp_region_low (B := w.heap.size) (w := w) (by kernel_rfl) (by kernel_rfl) ?_
    repeat (go_big_quiet_step ((go_at_call 43; exact low_call (HD.out _) (Nat.le_refl _))))
    refine wpQuiet_nil ?_
    intro _ hw'
    obtain ⟨⟨w2, hb2⟩, rfl⟩ := hw'
    go_wp2
    go_ret
    exact ⟨rfl, hb2⟩

set_option maxHeartbeats 1000000 in
theorem ahead_out (ao : Option Addr) (n : Nat) (c : Nat) (i k : Int) (w : World) (h : ¬ (0 ≤ i ∧ i < n ∧ 0 ≤ k ∧ k < n)) :
    Calls Tryz.prog 24 #[.slice ao n c, .int .i64 i, .int .i64 k] w fun e w' => e = .returned (.bool false) ∧ Below w.heap.size w w' := by
  by_cases h1 : i < 0
  · have d1 : decide (i < 0) = true := decide_eq_true h1
    clear h
    go_enter Tryz.func24, Tryz.ntmps24
    go_wp2
    go_ret
    exact ⟨rfl, Below.refl _ _⟩
  have d1 : decide (i < 0) = false := decide_eq_false h1
  by_cases h2 : (n : Int) ≤ i
  · have d2 : decide ((n : Int) ≤ i) = true := decide_eq_true h2
    clear h
    go_enter Tryz.func24, Tryz.ntmps24
    go_wp2
    go_ret
    exact ⟨rfl, Below.refl _ _⟩
  have d2 : decide ((n : Int) ≤ i) = false := decide_eq_false h2
  by_cases h3 : k < 0
  · have d3 : decide (k < 0) = true := decide_eq_true h3
    clear h
    go_enter Tryz.func24, Tryz.ntmps24
    go_wp2
    go_ret
    exact ⟨rfl, Below.refl _ _⟩
  have d3 : decide (k < 0) = false := decide_eq_false h3
  have d4 : decide ((n : Int) ≤ k) = true := decide_eq_true (by omega)
  clear h
  go_enter Tryz.func24, Tryz.ntmps24
  go_wp2
  go_ret
  exact ⟨rfl, Below.refl _ _⟩

theorem ahead_ok (ao : Option Addr) (b o c : Nat) (l : List EvL) (i k : Int) (w : World) (hl : l.length ≤ 100) (ha : 0 < l.length → ao = some ⟨b, o, none⟩) (hb : 0 < l.length → b < w.heap.size) (hc : EvsAt w b o l) :
    Calls Tryz.prog 24 #[.slice ao l.length c, .int .i64 i, .int .i64 k] w fun e w' => e = .returned (.bool (aheadAt l i k)) ∧ Below w.heap.size w w' := by
  by_cases h : 0 ≤ i ∧ i < l.length ∧ 0 ≤ k ∧ k < l.length
  · obtain ⟨i, rfl⟩ : ∃ j : Nat, i = j := ⟨i.toNat, by omega⟩
    obtain ⟨k, rfl⟩ : ∃ j : Nat, k = j := ⟨k.toNat, by omega⟩
    have hx := List.getElem?_eq_getElem (l := l) (i := i) (by omega)
    have hy := List.getElem?_eq_getElem (l := l) (i := k) (by omega)
    rw [aheadAt_in hx hy, ha (by omega)]
    exact ahead_in b o c l i k _ _ w hl (hb (by omega)) hc hx hy
  · have : aheadAt l i k = false := by unfold aheadAt; rw [if_neg h]
    rw [this]
    exact ahead_out ao l.length c i k w h

end Go.Proofs.YtkkkpobdjhmgfaaGreatDoor
