/- AuditNames: the table of names that start-up lays, as the card ties it. -/
import Derived.Test.YtkkkpobdjhmgfaaGreatDoorRows
import Derived.Test.YtkkkpobdjhmgfaaGreatDoorK2
import Derived.Test.YtkkkpobdjhmgfaaGreatDoorAN5
import Derived.ProofKit
import Derived.LaidMore
import Derived.OpenShut
import Derived.Stop.Joined
namespace Go.Proofs.YtkkkpobdjhmgfaaGreatDoor
open Go.ChangeShapes Go.WideShapes Go.ChangeAt Go.WideMaps Go.WideElems Go.RowKit

def seatLaid : List (String × DataW Unit) := [("roundelay/audit.names", Rows.laid_roundelay_audit_names)]
theorem gNames : Tryz.prog.globalNamed "roundelay/audit.names" = some 0 := by kernel_rfl
theorem tNames : (Tryz.prog.globals[0]?).map (·.type) = some 25 := by kernel_rfl

theorem door_met (os : Os) (args : Array Value) : laidMetH Tryz.prog seatLaid ((World.doorLaid Tryz.prog 400 os).forCall (fun _ _ => 0) ⟨#[], args, []⟩).memory :=
  laidMetH_of_parts3 (fuel := 8) (laidMet_of_run' 8 (by kernel_rfl) (by kernel_rfl)) (by kernel_rfl) (by kernel_rfl)

theorem of_laid {W : World} (h : laidMetH Tryz.prog seatLaid W) : Nm W := by
  rw [MakeChecks.laidMetH_plain _ _ _ (by kernel_rfl)] at h
  obtain ⟨ps, ⟨g0, t0, cs0, f0, p0, q0, hg0, ht0, hv0, hd0, _, _⟩, _, _⟩ := h
  obtain rfl := Option.some.inj (gNames.symm.trans hg0)
  obtain rfl := Option.some.inj (tNames.symm.trans ht0)
  obtain ⟨xs, m1, _, hx1, hlen, hn4, hel⟩ := DataW.trod_array Tryz.underlying25 hd0
  have c1 : Tryz.prog.cellsOf 9 = 1 := by kernel_rfl
  simp only [Rows.laid_roundelay_audit_names, Prod.mk.injEq, DataW.agg.injEq] at hx1
  have key : ∀ (i : Nat) (x : DataW Unit × List MemPlace) (n : List UInt8), i < 8 → xs[i]? = some x → x.1 = .lit (.string n) → W.cell? ⟨0, i, none⟩ = some (.string ⟨n.toArray⟩) := by
    intro i x n hi hx hd
    have e := hel i hi
    rw [hx, c1] at e
    obtain ⟨k, e1, e2, _⟩ := DataW.trod_string Tryz.underlying9 e
    rw [e2] at hd
    simp only [DataW.lit.injEq, Lit.string.injEq] at hd
    subst hd
    have h1 := World.var?_cell hg0 hv0 i
    have h2 : cs0[i]? = some (.string k) := by
      have h3 : ((cs0.toList.drop (i * 1)).take 1)[0]? = some (.string k) := by rw [e1]; rfl
      rw [List.getElem?_take] at h3
      simpa using h3
    rw [h2] at h1
    obtain ⟨⟨k⟩⟩ := k
    simpa using h1
  match xs, hn4, hx1, key with
  | [x0, x1, x2, x3, x4, x5, x6, x7], _, hx1, key =>
    simp only [List.map_cons, List.map_nil, List.cons.injEq] at hx1
    obtain ⟨⟨d0, d1, d2, d3, d4, d5, d6, d7, _⟩, _⟩ := hx1
    exact ⟨key 0 x0 _ (by decide) rfl d0.symm, key 1 x1 _ (by decide) rfl d1.symm, key 2 x2 _ (by decide) rfl d2.symm, key 3 x3 _ (by decide) rfl d3.symm,
      key 4 x4 _ (by decide) rfl d4.symm, key 5 x5 _ (by decide) rfl d5.symm, key 6 x6 _ (by decide) rfl d6.symm, key 7 x7 _ (by decide) rfl d7.symm⟩
end Go.Proofs.YtkkkpobdjhmgfaaGreatDoor
