/- Opening: three numbers; a descriptor, by value. -/
import Derived.Test.YtgfmidpcgoadlaaK2
import Derived.Test.YtgfmidpcgoadlaaDE
namespace Go.Proofs.Ytgfmidpcgoadlaa
open Go.ChangeShapes Go.WideShapes Go.ChangeAt Go.RowKit

/-- three numbers -/
theorem arr3_nums {H : Type} {enc : TypeId × Value → H} {P : Program} {w : World} {base : Nat} {spare : Nat → Bool} {held : Bool} {t e : TypeId} {k : IntKind} {r : Reach} {b0 : Nat} {v : Value} {d : DataW H} {p : List MemPlace} (ht : P.underlying t = some (.array 3 e)) (he : P.underlying e = some (.int k)) (hce : P.cellsOf e = 1) (hct : P.cellsOf t = 3)
    (hv : Value.okWide P w r b0 t v) (h : DataW.Trod enc P w base spare held t v d p) : ∃ a b c : Int, v = .agg #[.int k a, .int k b, .int k c] ∧ (Lit.int k a).wf = true ∧ (Lit.int k b).wf = true ∧ (Lit.int k c).wf = true := by
  simp only [Value.okWide, ht] at hv
  obtain ⟨cs, rfl, hcs, _⟩ := hv
  obtain ⟨fuel, h⟩ := h
  obtain ⟨xs, m, _, _, _, _, hel⟩ := DataW.trod_array ht h
  obtain ⟨l⟩ := cs
  rw [hct] at hcs
  match l, hcs with
  | [c0, c1, c2], _ =>
    have e0 := hel 0 (by omega)
    have e1 := hel 1 (by omega)
    have e2 := hel 2 (by omega)
    rw [hce] at e0 e1 e2
    have hx0 : xs[0]? = some (xs[0]'(by omega)) := List.getElem?_eq_getElem _
    have hx1 : xs[1]? = some (xs[1]'(by omega)) := List.getElem?_eq_getElem _
    have hx2 : xs[2]? = some (xs[2]'(by omega)) := List.getElem?_eq_getElem _
    rw [hx0] at e0
    rw [hx1] at e1
    rw [hx2] at e2
    obtain ⟨a, ha, _, wa⟩ := DataW.trod_int he e0
    obtain ⟨b, hb, _, wb⟩ := DataW.trod_int he e1
    obtain ⟨c, hc, _, wc⟩ := DataW.trod_int he e2
    simp [Value.cells] at ha hb hc
    subst ha; subst hb; subst hc
    exact ⟨a, b, c, rfl, wa, wb, wc⟩

/-- a cell of a struct that is a bool -/
theorem field_bool {H : Type} {enc : TypeId × Value → H} {P : Program} {w : World} {base : Nat} {spare : Nat → Bool} {held : Bool} {fs : Array Field} {t : TypeId} {fuel : Nat} {cs : List Value} {x : DataW H × List MemPlace} (ht : P.underlying t = some (.struct fs)) (h : DataW.trod enc P w base spare held fuel t cs = some x)
    {i o : Nat} {f : Field} (hf : fs[i]? = some f) (ho : f.offset = o) (hc : P.cellsOf f.type = 1) (hk : P.underlying f.type = some .bool) : ∃ b : Bool, cs[o]? = some (.bool b) := by
  obtain ⟨xs, n, _, _, _, hxl, hel⟩ := DataW.trod_struct ht h
  have e := hel i f hf
  have hi : i < fs.size := (Array.getElem?_eq_some_iff.1 hf).1
  have hx : xs[i]? = some (xs[i]'(by omega)) := List.getElem?_eq_getElem _
  rw [hx, hc, ho] at e
  obtain ⟨b, hz, _⟩ := DataW.trod_bool hk e
  refine ⟨b, ?_⟩
  have h1 : ((cs.drop o).take 1)[0]? = some (.bool b) := by rw [hz]; rfl
  rw [List.getElem?_take] at h1
  simpa using h1

theorem desc_val {H : Type} {enc : TypeId × Value → H} {w : World} {base : Nat} {spare : Nat → Bool} {held : Bool} {r : Reach} {b0 : Nat} {v : Value} {d : DataW H} {ps : List MemPlace}
    (hv : Value.okWide Try.prog w r b0 24 v) (h : DataW.Trod enc Try.prog w base spare held 24 v d ps) :
    ∃ (p t : Bool) (l f : Nat), v = dV p t l f ∧ l < 18446744073709551616 ∧ f < 18446744073709551616 := by
  simp only [Value.okWide, Try.underlying24] at hv
  obtain ⟨cs, rfl, hcs, _⟩ := hv
  obtain ⟨fuel, h⟩ := h
  have h4 : Try.prog.cellsOf 24 = 4 := by kernel_rfl
  obtain ⟨c⟩ := cs
  rw [h4] at hcs
  match c, hcs with
  | [c0, c1, c2, c3], _ =>
    simp only [Value.cells] at h
    obtain ⟨p, e0⟩ := field_bool Try.underlying24 h (i := 0) (o := 0) rfl rfl (by kernel_rfl) Try.underlying4
    obtain ⟨t, e1⟩ := field_bool Try.underlying24 h (i := 1) (o := 1) rfl rfl (by kernel_rfl) Try.underlying4
    obtain ⟨l, e2, wl⟩ := field_cell Try.underlying24 h (i := 2) (o := 2) rfl rfl (by kernel_rfl) Try.underlying22
    obtain ⟨f, e3, wf⟩ := field_cell Try.underlying24 h (i := 3) (o := 3) rfl rfl (by kernel_rfl) Try.underlying22
    simp at e0 e1 e2 e3
    subst e0 e1 e2 e3
    have bl := u64_bounds wl
    have bf := u64_bounds wf
    obtain ⟨l, rfl⟩ : ∃ t : Nat, l = t := ⟨l.toNat, by omega⟩
    obtain ⟨f, rfl⟩ : ∃ t : Nat, f = t := ⟨f.toNat, by omega⟩
    exact ⟨p, t, l, f, rfl, by omega, by omega⟩
end Go.Proofs.Ytgfmidpcgoadlaa
