/- Opening: the threads of an argument of calls; three numbers. -/
import Derived.Test.YtigcmcmapbomoaaHA
namespace Go.Proofs.Ytigcmcmapbomoaa
open Go.ChangeShapes Go.WideShapes Go.ChangeAt Go.RowKit

theorem slice_threads {H : Type} {enc : TypeId × Value → H} {w : World} {base : Nat} {spare : Nat → Bool} {held : Bool} {fuel : Nat} {ao : Option Addr} {n cap : Nat} {x : DataW H × List MemPlace}
    (h : DataW.trod enc Try.prog w base spare held fuel 23 [.slice ao n cap] = some x) :
    ∃ (b off : Nat) (l : List Int), n = l.length ∧ l.length ≤ maxLen ∧ (0 < l.length → ao = some ⟨b, off, none⟩) ∧ (0 < l.length → b < w.heap.size) ∧ ThsAt w b off l := by
  obtain ⟨ao', b, off, len, cap', hcs, hl, ha, hi⟩ := slice_cells Try.underlying23 (sz := 6) (by kernel_rfl) (by omega) h
  simp only [List.cons.injEq, Value.slice.injEq, and_true] at hcs
  obtain ⟨rfl, rfl, rfl⟩ := hcs
  have := list_of (n := n) (Q := fun i (t : Int) => w.cell? ⟨b, off + i * 6, none⟩ = some (.int .i64 t) ∧ (-9223372036854775808 ≤ t ∧ t ≤ 9223372036854775807)) (fun i hil => by
    obtain ⟨cs', y, n', hcl, htr, hat⟩ := hi i hil
    obtain ⟨t, h0, wt⟩ := field_cell Try.underlying39 htr (i := 0) (o := 0) rfl rfl (by kernel_rfl) Try.underlying3
    exact ⟨t, (hat 0 (by omega)).trans h0, i64_bounds wt⟩)
  obtain ⟨l, rfl, hq⟩ := this
  exact ⟨b, off, l, rfl, hl, fun h => (ha h).1, fun h => (ha h).2, hq⟩

/-- three numbers -/
theorem arr3_nums {H : Type} {enc : TypeId × Value → H} {P : Program} {w : World} {base : Nat} {spare : Nat → Bool} {held : Bool} {t e : TypeId} {k : IntKind} {r : Reach} {b0 : Nat} {v : Value} {d : DataW H} {p : List MemPlace} (ht : P.underlying t = some (.array 3 e)) (he : P.underlying e = some (.int k)) (hce : P.cellsOf e = 1) (hct : P.cellsOf t = 3)
    (hv : Value.okWide P w r b0 t v) (h : DataW.Trod enc P w base spare held t v d p) : ∃ a b c : Int, v = .agg #[.int k a, .int k b, .int k c] ∧ (Lit.int k a).wf = true ∧ (Lit.int k b).wf = true ∧ (Lit.int k c).wf = true := by
  simp only [Value.okWide, ht] at hv
  obtain ⟨cs, rfl, hcs, _⟩ := hv
  obtain ⟨fuel, h⟩ := h
  obtain ⟨xs, m, _, _, _, _, hel⟩ := DataW.trod_array ht h
  obtain ⟨l⟩ := cs
  rw [hct] at hcs
  match l, hcs with
  | [c0, c1, c2], _ =>
    have e0 := hel 0 (by omega)
    have e1 := hel 1 (by omega)
    have e2 := hel 2 (by omega)
    rw [hce] at e0 e1 e2
    have hx0 : xs[0]? = some (xs[0]'(by omega)) := List.getElem?_eq_getElem _
    have hx1 : xs[1]? = some (xs[1]'(by omega)) := List.getElem?_eq_getElem _
    have hx2 : xs[2]? = some (xs[2]'(by omega)) := List.getElem?_eq_getElem _
    rw [hx0] at e0
    rw [hx1] at e1
    rw [hx2] at e2
    obtain ⟨a, ha, _, wa⟩ := DataW.trod_int he e0
    obtain ⟨b, hb, _, wb⟩ := DataW.trod_int he e1
    obtain ⟨c, hc, _, wc⟩ := DataW.trod_int he e2
    simp [Value.cells] at ha hb hc
    subst ha; subst hb; subst hc
    exact ⟨a, b, c, rfl, wa, wb, wc⟩
end Go.Proofs.Ytigcmcmapbomoaa
