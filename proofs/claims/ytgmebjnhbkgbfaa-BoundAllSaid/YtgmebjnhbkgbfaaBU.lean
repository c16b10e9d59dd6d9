/- Opening: a spec, by value; specs in a row. -/
import Derived.Test.YtgmebjnhbkgbfaaK2
import Derived.Test.YtgmebjnhbkgbfaaBj
namespace Go.Proofs.Ytgmebjnhbkgbfaa
open Go.ChangeShapes Go.WideShapes Go.ChangeAt Go.RowKit

set_option maxRecDepth 100000 in
theorem spec_val {H : Type} {enc : TypeId × Value → H} {w : World} {base : Nat} {spare : Nat → Bool} {held : Bool} {r : Reach} {b0 : Nat} {v : Value} {d : DataW H} {ps : List MemPlace}
    (hv : Value.okWide Try.prog w r b0 23 v) (h : DataW.Trod enc Try.prog w base spare held 23 v d ps) :
    ∃ k p q : Int, v = specV k p q := by
  simp only [Value.okWide, Try.underlying23] at hv
  obtain ⟨cs, rfl, hcs, _⟩ := hv
  obtain ⟨fuel, h⟩ := h
  have h3 : Try.prog.cellsOf 23 = 3 := by kernel_rfl
  obtain ⟨c⟩ := cs
  rw [h3] at hcs
  match c, hcs with
  | [c0, c1, c2], _ =>
    simp only [Value.cells] at h
    obtain ⟨k, e0, _⟩ := field_cell Try.underlying23 h (i := 0) (o := 0) rfl rfl (by kernel_rfl) Try.underlying3
    obtain ⟨p, e1, _⟩ := field_cell Try.underlying23 h (i := 1) (o := 1) rfl rfl (by kernel_rfl) Try.underlying3
    obtain ⟨q, e2, _⟩ := field_cell Try.underlying23 h (i := 2) (o := 2) rfl rfl (by kernel_rfl) Try.underlying3
    simp at e0 e1 e2
    subst e0 e1 e2
    exact ⟨k, p, q, rfl⟩


set_option maxRecDepth 100000 in
theorem slice_specs {H : Type} {enc : TypeId × Value → H} {w : World} {base : Nat} {spare : Nat → Bool} {held : Bool} {fuel : Nat} {ao : Option Addr} {n cap : Nat} {x : DataW H × List MemPlace}
    (h : DataW.trod enc Try.prog w base spare held fuel 35 [.slice ao n cap] = some x) :
    ∃ (b off : Nat) (l : List SpecL), n = l.length ∧ l.length ≤ maxLen ∧ (0 < l.length → ao = some ⟨b, off, none⟩) ∧ (0 < l.length → b < w.heap.size) ∧ SpecsAt w b off l := by
  obtain ⟨ao', b, off, len, cap', hcs, hl, ha, hi⟩ := slice_cells Try.underlying35 (sz := 3) (by kernel_rfl) (by omega) h
  simp only [List.cons.injEq, Value.slice.injEq, and_true] at hcs
  obtain ⟨rfl, rfl, rfl⟩ := hcs
  have := list_of (n := n) (Q := fun i (x : SpecL) => w.cell? ⟨b, off + i * 3, none⟩ = some (.int .i64 x.k) ∧ w.cell? ⟨b, off + i * 3 + 1, none⟩ = some (.int .i64 x.p) ∧ w.cell? ⟨b, off + i * 3 + 2, none⟩ = some (.int .i64 x.q)) (fun i hil => by
    obtain ⟨cs', y, n', hcl, htr, hat⟩ := hi i hil
    obtain ⟨k, h0, _⟩ := field_cell Try.underlying23 htr (i := 0) (o := 0) rfl rfl (by kernel_rfl) Try.underlying3
    obtain ⟨p, h1, _⟩ := field_cell Try.underlying23 htr (i := 1) (o := 1) rfl rfl (by kernel_rfl) Try.underlying3
    obtain ⟨q, h2, _⟩ := field_cell Try.underlying23 htr (i := 2) (o := 2) rfl rfl (by kernel_rfl) Try.underlying3
    exact ⟨⟨k, p, q⟩, (hat 0 (by omega)).trans h0, (hat 1 (by omega)).trans h1, (hat 2 (by omega)).trans h2⟩)
  obtain ⟨l, rfl, hq⟩ := this
  exact ⟨b, off, l, rfl, hl, fun h => (ha h).1, fun h => (ha h).2, hq⟩
end Go.Proofs.Ytgmebjnhbkgbfaa
