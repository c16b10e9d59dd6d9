/- KeyCompares: for every two keys and every two ticks, the law returns true, and its arguments read as they did. No condition. -/
import Derived.Test.YtlagfdbemmhahaaRows
import Derived.Test.YtlagfdbemmhahaaVA
import Derived.Test.YtlagfdbemmhahaaK2
namespace Go.Proofs.Ytlagfdbemmhahaa
open Go.ChangeShapes Go.WideShapes Go.ChangeAt Go.RowKit

theorem keyCompares_own : ownKnob Try.prog.godebug = none := by kernel_rfl
theorem keyCompares_laid : laidOutB Try.prog = true := by kernel_rfl

set_option maxRecDepth 100000 in
theorem keyCompares_lifted (os : Os) (started : os.Started) (H : Type) (enc : TypeId × Value → H) :
    ReturnsInHanded {} Try.checked os 5 .any (Rows.keyComparesSpec.pre6 enc Try.prog Try.f5 Rows.keyComparesRow.domain false) (Rows.keyComparesSpec.post enc Try.prog Try.f5 false true false false) := by
  refine returnsInHanded_of_change (C := Try.checked) keyCompares_own started (by kernel_rfl) Try.func5
    (ChangeSpec.witness6 (enc := enc) (C := Try.checked) false ⟨#[], #[.slice none 0 0, .slice none 0 0, .agg #[.int .i64 0, .int .i64 0]], []⟩ 8 (by kernel_rfl) (by kernel_rfl) (by kernel_rfl) (by kernel_rfl)) ?_
  intro W base args ds gs before hval0 hW hcnd _
  have hval : ∀ (j : Nat) t v, Try.f5.params[j]? = some t → args[j]? = some v → Value.okWide Try.prog W .any base t v := hval0
  have hW' := hW
  obtain ⟨p, q, hA0, hV, rfl, hfz, hnd⟩ := hW
  have hA : DataW.TrodAll enc Try.prog W 0 (fun _ => true) true Try.f5.params.toList args.toList ds p := hA0
  rw [Try.params5] at hA hval
  obtain ⟨v0, v1, v2, d0, d1, d2, p0, p1, p2, rfl, rfl, rfl, h0, h1, h2⟩ := trodAll_three hA
  obtain ⟨rfl, rfl⟩ := trodVars_none hV
  obtain ⟨a0, n0, c0, rfl⟩ := okWide_slice Try.underlying22 (hval 0 22 v0 rfl rfl)
  obtain ⟨fuel0, hf0⟩ := h0
  obtain ⟨ao0, b0, o0, cap0, l0, hcs0, hl0, ha0, hb0, hq0⟩ := slice_nums Try.underlying22 (by kernel_rfl) Try.underlying3 hf0
  simp [Value.cells] at hcs0
  obtain ⟨rfl, rfl, rfl⟩ := hcs0
  have hc0 : ICells W b0 o0 l0 := fun i x hx => ⟨(hq0 i x hx).1, i64_bounds (hq0 i x hx).2⟩
  unfold maxLen at hl0
  obtain ⟨a1, n1, c1, rfl⟩ := okWide_slice Try.underlying22 (hval 1 22 v1 rfl rfl)
  obtain ⟨fuel1, hf1⟩ := h1
  obtain ⟨ao1, b1, o1, cap1, l1, hcs1, hl1, ha1, hb1, hq1⟩ := slice_nums Try.underlying22 (by kernel_rfl) Try.underlying3 hf1
  simp [Value.cells] at hcs1
  obtain ⟨rfl, rfl, rfl⟩ := hcs1
  have hc1 : ICells W b1 o1 l1 := fun i x hx => ⟨(hq1 i x hx).1, i64_bounds (hq1 i x hx).2⟩
  unfold maxLen at hl1
  obtain ⟨q0, q1, rfl, _, _⟩ := arr2_nums Try.underlying34 Try.underlying3 (by kernel_rfl) (by kernel_rfl) (hval 2 34 v2 rfl rfl) h2
  clear hA0 hval0
  have walk : Calls Try.prog 5 #[.slice a0 l0.length c0, .slice a1 l1.length c1, .agg #[.int .i64 q0, .int .i64 q1]] W fun e W' => e = .returned (.bool true) ∧ Below W.heap.size W W' := by
    by_cases hlong : 1000 < l0.length ∨ 1000 < l1.length
    · exact compares_long _ _ _ _ _ _ _ _ _ hlong
    · exact compares_walk a0 a1 b0 o0 c0 b1 o1 c1 l0 l1 q0 q1 W (by omega) (by omega) ha0 ha1 hb0 hb1 hc0 hc1
  refine walk.mono fun e W' ⟨he, hb⟩ => ?_
  subst he
  exact ⟨_, rfl, law_post keyCompares_laid (by kernel_rfl) rfl hW' hb rfl (tb := 4) (by kernel_rfl) Try.underlying4⟩

theorem keyCompares_holds : Rows.KeyComparesSaid :=
  OpenClaim.holds_of_wide 5 Try.f5 rfl rfl rfl rfl rfl rfl rfl ⟨rfl, rfl, rfl, rfl, rfl⟩ rfl rfl rfl rfl rfl (by kernel_rfl) Try.func5 (by kernel_rfl)
    (of_decide_eq_true (by kernel_rfl)) (by unfold Func.isWrapper; first | (rw [if_pos (by decide +kernel)]; kernel_rfl) | (rw [if_neg (by decide +kernel)]; exact ⟨rfl, rfl⟩))
    (fun os started H enc _ => keyCompares_lifted os started H enc)
end Go.Proofs.Ytlagfdbemmhahaa
