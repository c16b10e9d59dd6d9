/- StatGreatest: for every two lists of floating-point numbers, the law returns true, and its arguments read as they did. No condition. -/
import Derived.Test.YticaheiomidanaaRows
import Derived.Test.YticaheiomidanaaGK
import Derived.Test.YticaheiomidanaaGU
namespace Go.Proofs.Yticaheiomidanaa
open Go.ChangeShapes Go.WideShapes Go.ChangeAt Go.RowKit

theorem statGreatest_own : ownKnob Try.prog.godebug = none := by kernel_rfl
theorem statGreatest_laid : laidOutB Try.prog = true := by kernel_rfl

set_option maxRecDepth 100000 in
theorem statGreatest_lifted (os : Os) (started : os.Started) (H : Type) (enc : TypeId × Value → H) :
    ReturnsInHanded {} Try.checked os 7 .any (Rows.statGreatestSpec.pre6 enc Try.prog Try.f7 Rows.statGreatestRow.domain false) (Rows.statGreatestSpec.post enc Try.prog Try.f7 false true false false) := by
  refine returnsInHanded_of_change (C := Try.checked) statGreatest_own started (by kernel_rfl) Try.func7
    (ChangeSpec.witness6 (enc := enc) (C := Try.checked) false ⟨#[], #[.slice none 0 0, .slice none 0 0], []⟩ 8 (by kernel_rfl) (by kernel_rfl) (by kernel_rfl) (by kernel_rfl)) ?_
  intro W base args ds gs before hval0 hW hcnd _
  have hval : ∀ (j : Nat) t v, Try.f7.params[j]? = some t → args[j]? = some v → Value.okWide Try.prog W .any base t v := hval0
  have hW' := hW
  obtain ⟨p, q, hA0, hV, rfl, hfz, hnd⟩ := hW
  have hA : DataW.TrodAll enc Try.prog W 0 (fun _ => true) true Try.f7.params.toList args.toList ds p := hA0
  rw [Try.params7] at hA hval
  obtain ⟨v0, v1, d0, d1, p0, p1, rfl, rfl, rfl, h0, h1⟩ := trodAll_two hA
  obtain ⟨rfl, rfl⟩ := trodVars_none hV
  obtain ⟨aA, nA, cA, rfl⟩ := okWide_slice Try.underlying49 (hval 0 49 v0 rfl rfl)
  obtain ⟨fuelA, hfA⟩ := h0
  have hrA : aA = none → cA = 0 := fun e => by subst e; exact nil_no_room Try.underlying49 hfA
  obtain ⟨bA, offA, lA, rfl, hlA, haA, hbA, hcA⟩ := slice_floats hfA
  unfold maxLen at hlA
  obtain ⟨aB, nB, cB, rfl⟩ := okWide_slice Try.underlying49 (hval 1 49 v1 rfl rfl)
  obtain ⟨fuelB, hfB⟩ := h1
  have hrB : aB = none → cB = 0 := fun e => by subst e; exact nil_no_room Try.underlying49 hfB
  obtain ⟨bB, offB, lB, rfl, hlB, haB, hbB, hcB⟩ := slice_floats hfB
  unfold maxLen at hlB
  clear hA0 hval0
  have walk : Calls Try.prog 7 #[.slice aA lA.length cA, .slice aB lB.length cB] W fun e W' => e = .returned (.bool true) ∧ Below W.heap.size W W' := by
    exact great_walk aA bA offA cA lA aB bB offB cB lB W (by omega) (by omega) haA hbA hcA hrA haB hbB hcB hrB
  refine walk.mono fun e W' ⟨he, hb⟩ => ?_
  subst he
  exact ⟨_, rfl, law_post statGreatest_laid (by kernel_rfl) rfl hW' hb rfl (tb := 4) (by kernel_rfl) Try.underlying4⟩

theorem statGreatest_holds : Rows.StatGreatestSaid :=
  OpenClaim.holds_of_wide 7 Try.f7 rfl rfl rfl rfl rfl rfl rfl ⟨rfl, rfl, rfl, rfl, rfl⟩ rfl rfl rfl rfl rfl (by kernel_rfl) Try.func7 (by kernel_rfl)
    (of_decide_eq_true (by kernel_rfl)) (by unfold Func.isWrapper; first | (rw [if_pos (by decide +kernel)]; kernel_rfl) | (rw [if_neg (by decide +kernel)]; exact ⟨rfl, rfl⟩))
    (fun os started H enc _ => statGreatest_lifted os started H enc)
end Go.Proofs.Yticaheiomidanaa
