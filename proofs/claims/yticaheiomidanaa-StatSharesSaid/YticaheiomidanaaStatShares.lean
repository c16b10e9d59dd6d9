/- StatShares: for every list of bounds and every list of events, the law returns true, and its arguments read as they did. No condition. -/
import Derived.Test.YticaheiomidanaaRows
import Derived.Test.YticaheiomidanaaGJ
import Derived.Test.YticaheiomidanaaGU
namespace Go.Proofs.Yticaheiomidanaa
open Go.ChangeShapes Go.WideShapes Go.ChangeAt Go.RowKit

theorem statShares_own : ownKnob Try.prog.godebug = none := by kernel_rfl
theorem statShares_laid : laidOutB Try.prog = true := by kernel_rfl

set_option maxRecDepth 100000 in
theorem statShares_lifted (os : Os) (started : os.Started) (H : Type) (enc : TypeId × Value → H) :
    ReturnsInHanded {} Try.checked os 8 .any (Rows.statSharesSpec.pre6 enc Try.prog Try.f8 Rows.statSharesRow.domain false) (Rows.statSharesSpec.post enc Try.prog Try.f8 false true false false) := by
  refine returnsInHanded_of_change (C := Try.checked) statShares_own started (by kernel_rfl) Try.func8
    (ChangeSpec.witness6 (enc := enc) (C := Try.checked) false ⟨#[], #[.slice none 0 0, .slice none 0 0], []⟩ 8 (by kernel_rfl) (by kernel_rfl) (by kernel_rfl) (by kernel_rfl)) ?_
  intro W base args ds gs before hval0 hW hcnd _
  have hval : ∀ (j : Nat) t v, Try.f8.params[j]? = some t → args[j]? = some v → Value.okWide Try.prog W .any base t v := hval0
  have hW' := hW
  obtain ⟨p, q, hA0, hV, rfl, hfz, hnd⟩ := hW
  have hA : DataW.TrodAll enc Try.prog W 0 (fun _ => true) true Try.f8.params.toList args.toList ds p := hA0
  rw [Try.params8] at hA hval
  obtain ⟨v0, v1, d0, d1, p0, p1, rfl, rfl, rfl, h0, h1⟩ := trodAll_two hA
  obtain ⟨rfl, rfl⟩ := trodVars_none hV
  obtain ⟨aM, nM, cM, rfl⟩ := okWide_slice Try.underlying24 (hval 0 24 v0 rfl rfl)
  obtain ⟨fuelM, hfM⟩ := h0
  have hrM := slice_room Try.underlying24 hfM
  obtain ⟨aoM, bM, offM, capM, lM, hcsM, hlM, haM, hbM, hqM⟩ := slice_nums Try.underlying24 (by kernel_rfl) Try.underlying3 hfM
  simp [Value.cells] at hcsM
  obtain ⟨rfl, rfl, rfl⟩ := hcsM
  have hcM : ICells W bM offM lM := fun i x hx => ⟨(hqM i x hx).1, i64_bounds (hqM i x hx).2⟩
  unfold maxLen at hlM
  obtain ⟨aS, nS, cS, rfl⟩ := okWide_slice Try.underlying52 (hval 1 52 v1 rfl rfl)
  obtain ⟨fuelS, hfS⟩ := h1
  obtain ⟨bS, offS, lS, rfl, hlS, haS, hbS, hcS⟩ := slice_events hfS
  unfold maxLen at hlS
  clear hA0 hval0
  have walk : Calls Try.prog 8 #[.slice aM lM.length cM, .slice aS lS.length cS] W fun e W' => e = .returned (.bool true) ∧ Below W.heap.size W W' := by
    exact shares_walk aM bM offM cM lM aS bS offS cS lS W (by omega) (by omega) haM hbM hcM haS hbS hcS
  refine walk.mono fun e W' ⟨he, hb⟩ => ?_
  subst he
  exact ⟨_, rfl, law_post statShares_laid (by kernel_rfl) rfl hW' hb rfl (tb := 4) (by kernel_rfl) Try.underlying4⟩

theorem statShares_holds : Rows.StatSharesSaid :=
  OpenClaim.holds_of_wide 8 Try.f8 rfl rfl rfl rfl rfl rfl rfl ⟨rfl, rfl, rfl, rfl, rfl⟩ rfl rfl rfl rfl rfl (by kernel_rfl) Try.func8 (by kernel_rfl)
    (of_decide_eq_true (by kernel_rfl)) (by unfold Func.isWrapper; first | (rw [if_pos (by decide +kernel)]; kernel_rfl) | (rw [if_neg (by decide +kernel)]; exact ⟨rfl, rfl⟩))
    (fun os started H enc _ => statShares_lifted os started H enc)
end Go.Proofs.Yticaheiomidanaa
