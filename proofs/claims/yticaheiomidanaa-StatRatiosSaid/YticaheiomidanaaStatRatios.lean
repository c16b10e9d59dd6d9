/- StatRatios: for every two numbers and every list of numbers, the law returns true, and its arguments read as they did. No condition. -/
import Derived.Test.YticaheiomidanaaRows
import Derived.Test.YticaheiomidanaaGH
import Derived.Test.YticaheiomidanaaGU
namespace Go.Proofs.Yticaheiomidanaa
open Go.ChangeShapes Go.WideShapes Go.ChangeAt Go.RowKit

theorem statRatios_own : ownKnob Try.prog.godebug = none := by kernel_rfl
theorem statRatios_laid : laidOutB Try.prog = true := by kernel_rfl

set_option maxRecDepth 100000 in
theorem statRatios_lifted (os : Os) (started : os.Started) (H : Type) (enc : TypeId × Value → H) :
    ReturnsInHanded {} Try.checked os 5 .any (Rows.statRatiosSpec.pre6 enc Try.prog Try.f5 Rows.statRatiosRow.domain false) (Rows.statRatiosSpec.post enc Try.prog Try.f5 false true false false) := by
  refine returnsInHanded_of_change (C := Try.checked) statRatios_own started (by kernel_rfl) Try.func5
    (ChangeSpec.witness6 (enc := enc) (C := Try.checked) false ⟨#[], #[.int .i64 0, .int .i64 0, .slice none 0 0], []⟩ 8 (by kernel_rfl) (by kernel_rfl) (by kernel_rfl) (by kernel_rfl)) ?_
  intro W base args ds gs before hval0 hW hcnd _
  have hval : ∀ (j : Nat) t v, Try.f5.params[j]? = some t → args[j]? = some v → Value.okWide Try.prog W .any base t v := hval0
  have hW' := hW
  obtain ⟨p, q, hA0, hV, rfl, hfz, hnd⟩ := hW
  have hA : DataW.TrodAll enc Try.prog W 0 (fun _ => true) true Try.f5.params.toList args.toList ds p := hA0
  rw [Try.params5] at hA hval
  obtain ⟨v0, v1, v2, d0, d1, d2, p0, p1, p2, rfl, rfl, rfl, h0, h1, h2⟩ := trodAll_three hA
  obtain ⟨rfl, rfl⟩ := trodVars_none hV
  obtain ⟨x, rfl, rfl, rfl, wx⟩ := open_int Try.underlying3 (hval 0 3 v0 rfl rfl) h0
  obtain ⟨y, rfl, rfl, rfl, wy⟩ := open_int Try.underlying3 (hval 1 3 v1 rfl rfl) h1
  obtain ⟨aS, nS, cS, rfl⟩ := okWide_slice Try.underlying24 (hval 2 24 v2 rfl rfl)
  obtain ⟨fuelS, hfS⟩ := h2
  have hrS := slice_room Try.underlying24 hfS
  obtain ⟨aoS, bS, offS, capS, lS, hcsS, hlS, haS, hbS, hqS⟩ := slice_nums Try.underlying24 (by kernel_rfl) Try.underlying3 hfS
  simp [Value.cells] at hcsS
  obtain ⟨rfl, rfl, rfl⟩ := hcsS
  have hcS : ICells W bS offS lS := fun i x hx => ⟨(hqS i x hx).1, i64_bounds (hqS i x hx).2⟩
  unfold maxLen at hlS
  clear hA0 hval0
  have walk : Calls Try.prog 5 #[.int .i64 x, .int .i64 y, .slice aS lS.length cS] W fun e W' => e = .returned (.bool true) ∧ Below W.heap.size W W' := by
    exact ratios_walk x y aS bS offS cS lS W (by omega) hbS haS hcS
  refine walk.mono fun e W' ⟨he, hb⟩ => ?_
  subst he
  exact ⟨_, rfl, law_post statRatios_laid (by kernel_rfl) rfl hW' hb rfl (tb := 4) (by kernel_rfl) Try.underlying4⟩

theorem statRatios_holds : Rows.StatRatiosSaid :=
  OpenClaim.holds_of_wide 5 Try.f5 rfl rfl rfl rfl rfl rfl rfl ⟨rfl, rfl, rfl, rfl, rfl⟩ rfl rfl rfl rfl rfl (by kernel_rfl) Try.func5 (by kernel_rfl)
    (of_decide_eq_true (by kernel_rfl)) (by unfold Func.isWrapper; first | (rw [if_pos (by decide +kernel)]; kernel_rfl) | (rw [if_neg (by decide +kernel)]; exact ⟨rfl, rfl⟩))
    (fun os started H enc _ => statRatios_lifted os started H enc)
end Go.Proofs.Yticaheiomidanaa
