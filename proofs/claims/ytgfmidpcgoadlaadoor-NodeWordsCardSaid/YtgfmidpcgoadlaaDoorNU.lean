/- The table that start-up lays, as the cards tie it; opening of four numbers. -/
import Derived.Test.YtgfmidpcgoadlaaDoorRows
import Derived.Test.YtgfmidpcgoadlaaDoorK2
import Derived.Test.YtgfmidpcgoadlaaDoorDN2
import Derived.ProofKit
import Derived.LaidMore
import Derived.OpenShut
import Derived.Stop.Joined
namespace Go.Proofs.YtgfmidpcgoadlaaDoor
open Go.ChangeShapes Go.WideShapes Go.ChangeAt Go.WideMaps Go.WideElems Go.RowKit

def seatLaid : List (String × DataW Unit) := [("roundelay/node.fields", Rows.laid_roundelay_node_fields)]
theorem gFields : Tryd.prog.globalNamed "roundelay/node.fields" = some 0 := by kernel_rfl
theorem tFields : (Tryd.prog.globals[0]?).map (·.type) = some 43 := by kernel_rfl

theorem door_met (os : Os) (args : Array Value) : laidMetH Tryd.prog seatLaid ((World.doorLaid Tryd.prog 400 os).forCall (fun _ _ => 0) ⟨#[], args, []⟩).memory :=
  laidMetH_of_parts3 (fuel := 8) (laidMet_of_run' 8 (by kernel_rfl) (by kernel_rfl)) (by kernel_rfl) (by kernel_rfl)

theorem of_laid {W : World} (h : laidMetH Tryd.prog seatLaid W) : Fx W := by
  rw [MakeChecks.laidMetH_plain _ _ _ (by kernel_rfl)] at h
  obtain ⟨ps, ⟨g0, t0, cs0, f0, p0, q0, hg0, ht0, hv0, hd0, _, _⟩, _, _⟩ := h
  obtain rfl := Option.some.inj (gFields.symm.trans hg0)
  obtain rfl := Option.some.inj (tFields.symm.trans ht0)
  obtain ⟨xs, m1, _, hx1, hlen, hn4, hel⟩ := DataW.trod_array Tryd.underlying43 hd0
  have c1 : Tryd.prog.cellsOf 3 = 1 := by kernel_rfl
  simp only [Rows.laid_roundelay_node_fields, Prod.mk.injEq, DataW.agg.injEq] at hx1
  have key : ∀ (i : Nat) (x : DataW Unit × List MemPlace) (n : Int), i < 4 → xs[i]? = some x → x.1 = .lit (.int .i64 n) → W.cell? ⟨0, i, none⟩ = some (.int .i64 n) := by
    intro i x n hi hx hd
    have e := hel i hi
    rw [hx, c1] at e
    obtain ⟨k, e1, e2, _⟩ := DataW.trod_int Tryd.underlying3 e
    rw [e2] at hd
    simp only [DataW.lit.injEq, Lit.int.injEq, true_and] at hd
    subst hd
    have h1 := World.var?_cell hg0 hv0 i
    have h2 : cs0[i]? = some (.int .i64 k) := by
      have h3 : ((cs0.toList.drop (i * 1)).take 1)[0]? = some (.int .i64 k) := by rw [e1]; rfl
      rw [List.getElem?_take] at h3
      simpa using h3
    rw [h2] at h1
    simpa using h1
  match xs, hn4, hx1, key with
  | [x0, x1, x2, x3], _, hx1, key =>
    simp only [List.map_cons, List.map_nil, List.cons.injEq] at hx1
    obtain ⟨⟨d0, d1, d2, d3, _⟩, _⟩ := hx1
    exact ⟨key 0 x0 0 (by decide) rfl d0.symm, key 1 x1 1 (by decide) rfl d1.symm, key 2 x2 2 (by decide) rfl d2.symm, key 3 x3 3 (by decide) rfl d3.symm⟩

/-- four numbers -/
theorem arr4_nums {H : Type} {enc : TypeId × Value → H} {P : Program} {w : World} {base : Nat} {spare : Nat → Bool} {held : Bool} {t e : TypeId} {k : IntKind} {r : Reach} {b0 : Nat} {v : Value} {d : DataW H} {p : List MemPlace} (ht : P.underlying t = some (.array 4 e)) (he : P.underlying e = some (.int k)) (hce : P.cellsOf e = 1) (hct : P.cellsOf t = 4)
    (hv : Value.okWide P w r b0 t v) (h : DataW.Trod enc P w base spare held t v d p) : ∃ a b c z : Int, v = .agg #[.int k a, .int k b, .int k c, .int k z] ∧ (Lit.int k a).wf = true ∧ (Lit.int k b).wf = true ∧ (Lit.int k c).wf = true ∧ (Lit.int k z).wf = true := by
  simp only [Value.okWide, ht] at hv
  obtain ⟨cs, rfl, hcs, _⟩ := hv
  obtain ⟨fuel, h⟩ := h
  obtain ⟨xs, m, _, _, _, _, hel⟩ := DataW.trod_array ht h
  obtain ⟨l⟩ := cs
  rw [hct] at hcs
  match l, hcs with
  | [c0, c1, c2, c3], _ =>
    have e0 := hel 0 (by omega)
    have e1 := hel 1 (by omega)
    have e2 := hel 2 (by omega)
    have e3 := hel 3 (by omega)
    rw [hce] at e0 e1 e2 e3
    have hx0 : xs[0]? = some (xs[0]'(by omega)) := List.getElem?_eq_getElem _
    have hx1 : xs[1]? = some (xs[1]'(by omega)) := List.getElem?_eq_getElem _
    have hx2 : xs[2]? = some (xs[2]'(by omega)) := List.getElem?_eq_getElem _
    have hx3 : xs[3]? = some (xs[3]'(by omega)) := List.getElem?_eq_getElem _
    rw [hx0] at e0
    rw [hx1] at e1
    rw [hx2] at e2
    rw [hx3] at e3
    obtain ⟨a, ha, _, wa⟩ := DataW.trod_int he e0
    obtain ⟨b, hb, _, wb⟩ := DataW.trod_int he e1
    obtain ⟨c, hc, _, wc⟩ := DataW.trod_int he e2
    obtain ⟨z, hz, _, wz⟩ := DataW.trod_int he e3
    simp [Value.cells] at ha hb hc hz
    subst ha; subst hb; subst hc; subst hz
    exact ⟨a, b, c, z, rfl, wa, wb, wc, wz⟩
end Go.Proofs.YtgfmidpcgoadlaaDoor
