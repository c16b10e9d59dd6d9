/- Opening: an argument of calls; two lists of numbers; three numbers. -/
import Derived.Test.YtglpalomhhhmhaaU3
import Derived.Test.YtglpalomhhhmhaaK2
import Derived.Test.YtglpalomhhhmhaaK5
namespace Go.Proofs.Ytglpalomhhhmhaa
open Go.ChangeShapes Go.WideShapes Go.ChangeAt Go.RowKit

/-- an argument of calls -/
theorem slice_calls {H : Type} {enc : TypeId × Value → H} {w : World} {base : Nat} {spare : Nat → Bool} {held : Bool} {fuel : Nat} {ao : Option Addr} {n cap : Nat} {x : DataW H × List MemPlace}
    (h : DataW.trod enc Try.prog w base spare held fuel 22 [.slice ao n cap] = some x) :
    ∃ (b off : Nat) (l : List CallV), n = l.length ∧ l.length ≤ maxLen ∧ (0 < l.length → ao = some ⟨b, off, none⟩) ∧ (0 < l.length → b < w.heap.size) ∧ CallsAt w b off l := by
  obtain ⟨ao', b, off, len, cap', hcs, hl, ha, hi⟩ := slice_cells Try.underlying22 (sz := 6) (by kernel_rfl) (by omega) h
  simp only [List.cons.injEq, Value.slice.injEq, and_true] at hcs
  obtain ⟨rfl, rfl, rfl⟩ := hcs
  have := list_of (n := n) (Q := fun i (x : CallV) => w.cell? ⟨b, off + i * 6, none⟩ = some (.int .i64 x.t) ∧ w.cell? ⟨b, off + i * 6 + 1, none⟩ = some (.int .i64 x.o) ∧ w.cell? ⟨b, off + i * 6 + 2, none⟩ = some (.int .i64 x.k) ∧
      w.cell? ⟨b, off + i * 6 + 3, none⟩ = some (.int .u64 (x.a : Int)) ∧ w.cell? ⟨b, off + i * 6 + 4, none⟩ = some (.int .u64 (x.b : Int)) ∧ w.cell? ⟨b, off + i * 6 + 5, none⟩ = some (.int .u64 (x.c : Int)) ∧
      (-9223372036854775808 ≤ x.t ∧ x.t ≤ 9223372036854775807) ∧ (-9223372036854775808 ≤ x.o ∧ x.o ≤ 9223372036854775807) ∧ (-9223372036854775808 ≤ x.k ∧ x.k ≤ 9223372036854775807) ∧ x.a < 18446744073709551616 ∧ x.b < 18446744073709551616 ∧ x.c < 18446744073709551616) (fun i hil => by
    obtain ⟨cs', y, n', hcl, htr, hat⟩ := hi i hil
    obtain ⟨t, h0, wt⟩ := field_cell Try.underlying43 htr (i := 0) (o := 0) rfl rfl (by kernel_rfl) Try.underlying3
    obtain ⟨o, h1, wo⟩ := field_cell Try.underlying43 htr (i := 1) (o := 1) rfl rfl (by kernel_rfl) Try.underlying3
    obtain ⟨k, h2, wk⟩ := field_cell Try.underlying43 htr (i := 2) (o := 2) rfl rfl (by kernel_rfl) Try.underlying3
    obtain ⟨a, h3, wa⟩ := field_cell Try.underlying43 htr (i := 3) (o := 3) rfl rfl (by kernel_rfl) Try.underlying37
    obtain ⟨bb, h4, wb⟩ := field_cell Try.underlying43 htr (i := 4) (o := 4) rfl rfl (by kernel_rfl) Try.underlying37
    obtain ⟨c, h5, wc⟩ := field_cell Try.underlying43 htr (i := 5) (o := 5) rfl rfl (by kernel_rfl) Try.underlying37
    have ba := u64_bounds wa
    have bB := u64_bounds wb
    have bC := u64_bounds wc
    obtain ⟨a, rfl⟩ : ∃ t : Nat, a = t := ⟨a.toNat, by omega⟩
    obtain ⟨bb, rfl⟩ : ∃ t : Nat, bb = t := ⟨bb.toNat, by omega⟩
    obtain ⟨c, rfl⟩ : ∃ t : Nat, c = t := ⟨c.toNat, by omega⟩
    exact ⟨⟨t, o, k, a, bb, c⟩, (hat 0 (by omega)).trans h0, (hat 1 (by omega)).trans h1, (hat 2 (by omega)).trans h2, (hat 3 (by omega)).trans h3, (hat 4 (by omega)).trans h4, (hat 5 (by omega)).trans h5, i64_bounds wt, i64_bounds wo, i64_bounds wk, by simp only; omega, by simp only; omega, by simp only; omega⟩)
  obtain ⟨l, rfl, hq⟩ := this
  exact ⟨b, off, l, rfl, hl, fun h => (ha h).1, fun h => (ha h).2, hq⟩

/-- a pair of lists of numbers -/
theorem arr2_lists {H : Type} {enc : TypeId × Value → H} {P : Program} {w : World} {base : Nat} {spare : Nat → Bool} {held : Bool} {t e : TypeId} {r : Reach} {b0 : Nat} {v : Value} {d : DataW H} {p : List MemPlace} (ht : P.underlying t = some (.array 2 e)) (hce : P.cellsOf e = 1) (hct : P.cellsOf t = 2)
    (hv : Value.okWide P w r b0 t v) (h : DataW.Trod enc P w base spare held t v d p) : ∃ (u0 u1 : Value) (n : Nat) (x0 x1 : DataW H × List MemPlace), v = .agg #[u0, u1] ∧ DataW.trod enc P w base spare held n e [u0] = some x0 ∧ DataW.trod enc P w base spare held n e [u1] = some x1 := by
  simp only [Value.okWide, ht] at hv
  obtain ⟨cs, rfl, hcs, _⟩ := hv
  obtain ⟨fuel, h⟩ := h
  obtain ⟨xs, m, _, _, _, _, hel⟩ := DataW.trod_array ht h
  obtain ⟨l⟩ := cs
  rw [hct] at hcs
  match l, hcs with
  | [c0, c1], _ =>
    have e0 := hel 0 (by omega)
    have e1 := hel 1 (by omega)
    rw [hce] at e0 e1
    have hx0 : xs[0]? = some (xs[0]'(by omega)) := List.getElem?_eq_getElem _
    have hx1 : xs[1]? = some (xs[1]'(by omega)) := List.getElem?_eq_getElem _
    rw [hx0] at e0
    rw [hx1] at e1
    simp [Value.cells] at e0 e1
    exact ⟨c0, c1, m, _, _, rfl, e0, e1⟩

/-- three numbers -/
theorem arr3_nums {H : Type} {enc : TypeId × Value → H} {P : Program} {w : World} {base : Nat} {spare : Nat → Bool} {held : Bool} {t e : TypeId} {k : IntKind} {r : Reach} {b0 : Nat} {v : Value} {d : DataW H} {p : List MemPlace} (ht : P.underlying t = some (.array 3 e)) (he : P.underlying e = some (.int k)) (hce : P.cellsOf e = 1) (hct : P.cellsOf t = 3)
    (hv : Value.okWide P w r b0 t v) (h : DataW.Trod enc P w base spare held t v d p) : ∃ a b c : Int, v = .agg #[.int k a, .int k b, .int k c] ∧ (Lit.int k a).wf = true ∧ (Lit.int k b).wf = true ∧ (Lit.int k c).wf = true := by
  simp only [Value.okWide, ht] at hv
  obtain ⟨cs, rfl, hcs, _⟩ := hv
  obtain ⟨fuel, h⟩ := h
  obtain ⟨xs, m, _, _, _, _, hel⟩ := DataW.trod_array ht h
  obtain ⟨l⟩ := cs
  rw [hct] at hcs
  match l, hcs with
  | [c0, c1, c2], _ =>
    have e0 := hel 0 (by omega)
    have e1 := hel 1 (by omega)
    have e2 := hel 2 (by omega)
    rw [hce] at e0 e1 e2
    have hx0 : xs[0]? = some (xs[0]'(by omega)) := List.getElem?_eq_getElem _
    have hx1 : xs[1]? = some (xs[1]'(by omega)) := List.getElem?_eq_getElem _
    have hx2 : xs[2]? = some (xs[2]'(by omega)) := List.getElem?_eq_getElem _
    rw [hx0] at e0
    rw [hx1] at e1
    rw [hx2] at e2
    obtain ⟨a, ha, _, wa⟩ := DataW.trod_int he e0
    obtain ⟨b, hb, _, wb⟩ := DataW.trod_int he e1
    obtain ⟨c, hc, _, wc⟩ := DataW.trod_int he e2
    simp [Value.cells] at ha hb hc
    subst ha; subst hb; subst hc
    exact ⟨a, b, c, rfl, wa, wb, wc⟩
end Go.Proofs.Ytglpalomhhhmhaa
