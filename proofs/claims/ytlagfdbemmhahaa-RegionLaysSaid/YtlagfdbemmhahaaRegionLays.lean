/- RegionLays: for every list of sizes, the law returns true, and its argument reads as it did. No condition. -/
import Derived.Test.YtlagfdbemmhahaaRows
import Derived.Test.YtlagfdbemmhahaaR4
import Derived.Test.YtlagfdbemmhahaaK2
namespace Go.Proofs.Ytlagfdbemmhahaa
open Go.ChangeShapes Go.WideShapes Go.ChangeAt Go.RowKit

theorem regionLays_own : ownKnob Try.prog.godebug = none := by kernel_rfl
theorem regionLays_laid : laidOutB Try.prog = true := by kernel_rfl

set_option maxRecDepth 100000 in
theorem regionLays_lifted (os : Os) (started : os.Started) (H : Type) (enc : TypeId × Value → H) :
    ReturnsInHanded {} Try.checked os 3 .any (Rows.regionLaysSpec.pre6 enc Try.prog Try.f3 Rows.regionLaysRow.domain false) (Rows.regionLaysSpec.post enc Try.prog Try.f3 false true false false) := by
  refine returnsInHanded_of_change (C := Try.checked) regionLays_own started (by kernel_rfl) Try.func3
    (ChangeSpec.witness6 (enc := enc) (C := Try.checked) false ⟨#[], #[.slice none 0 0], []⟩ 8 (by kernel_rfl) (by kernel_rfl) (by kernel_rfl) (by kernel_rfl)) ?_
  intro W base args ds gs before hval0 hW hcnd _
  have hval : ∀ (j : Nat) t v, Try.f3.params[j]? = some t → args[j]? = some v → Value.okWide Try.prog W .any base t v := hval0
  have hW' := hW
  obtain ⟨p, q, hA0, hV, rfl, hfz, hnd⟩ := hW
  have hA : DataW.TrodAll enc Try.prog W 0 (fun _ => true) true Try.f3.params.toList args.toList ds p := hA0
  rw [Try.params3] at hA hval
  obtain ⟨v0, d0, rfl, rfl, h0⟩ := trodAll_one hA
  obtain ⟨rfl, rfl⟩ := trodVars_none hV
  obtain ⟨a0, n0, c0, rfl⟩ := okWide_slice Try.underlying22 (hval 0 22 v0 rfl rfl)
  obtain ⟨fuel, hf⟩ := h0
  obtain ⟨ao, b, off, cap, l, hcs, hl, ha, hb, hq⟩ := slice_nums Try.underlying22 (by kernel_rfl) Try.underlying3 hf
  simp [Value.cells] at hcs
  obtain ⟨rfl, rfl, rfl⟩ := hcs
  clear hA0 hval0
  have hc : ICells W b off l := fun i x hx => ⟨(hq i x hx).1, i64_bounds (hq i x hx).2⟩
  unfold maxLen at hl
  have walk := lays_walk a0 b off c0 l W (by omega) hb ha hc
  refine walk.mono fun e W' ⟨he, hb⟩ => ?_
  subst he
  exact ⟨_, rfl, law_post regionLays_laid (by kernel_rfl) rfl hW' hb rfl (tb := 4) (by kernel_rfl) Try.underlying4⟩

theorem regionLays_holds : Rows.RegionLaysSaid :=
  OpenClaim.holds_of_wide 3 Try.f3 rfl rfl rfl rfl rfl rfl rfl ⟨rfl, rfl, rfl, rfl, rfl⟩ rfl rfl rfl rfl rfl (by kernel_rfl) Try.func3 (by kernel_rfl)
    (of_decide_eq_true (by kernel_rfl)) (by unfold Func.isWrapper; first | (rw [if_pos (by decide +kernel)]; kernel_rfl) | (rw [if_neg (by decide +kernel)]; exact ⟨rfl, rfl⟩))
    (fun os started H enc _ => regionLays_lifted os started H enc)
end Go.Proofs.Ytlagfdbemmhahaa
