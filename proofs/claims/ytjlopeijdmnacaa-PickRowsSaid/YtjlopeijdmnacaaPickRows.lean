/- PickRows: for every number of threads, every calls, and every two lists of numbers, the law returns true, and its arguments read as they did. No condition. -/
import Derived.Test.YtjlopeijdmnacaaRows
import Derived.Test.YtjlopeijdmnacaaUC
import Derived.Test.YtjlopeijdmnacaaUO
namespace Go.Proofs.Ytjlopeijdmnacaa
open Go.ChangeShapes Go.WideShapes Go.ChangeAt Go.RowKit

theorem pickRows_own : ownKnob Try.prog.godebug = none := by kernel_rfl
theorem pickRows_laid : laidOutB Try.prog = true := by kernel_rfl

set_option maxRecDepth 100000 in
theorem pickRows_lifted (os : Os) (started : os.Started) (H : Type) (enc : TypeId × Value → H) :
    ReturnsInHanded {} Try.checked os 5 .any (Rows.pickRowsSpec.pre6 enc Try.prog Try.f5 Rows.pickRowsRow.domain false) (Rows.pickRowsSpec.post enc Try.prog Try.f5 false true false false) := by
  refine returnsInHanded_of_change (C := Try.checked) pickRows_own started (by kernel_rfl) Try.func5
    (ChangeSpec.witness6 (enc := enc) (C := Try.checked) false ⟨#[], #[.int .i64 0, .slice none 0 0, .agg #[.slice none 0 0, .slice none 0 0]], []⟩ 8 (by kernel_rfl) (by kernel_rfl) (by kernel_rfl) (by kernel_rfl)) ?_
  intro W base args ds gs before hval0 hW hcnd _
  have hval : ∀ (j : Nat) t v, Try.f5.params[j]? = some t → args[j]? = some v → Value.okWide Try.prog W .any base t v := hval0
  have hW' := hW
  obtain ⟨p, q, hA0, hV, rfl, hfz, hnd⟩ := hW
  have hA : DataW.TrodAll enc Try.prog W 0 (fun _ => true) true Try.f5.params.toList args.toList ds p := hA0
  rw [Try.params5] at hA hval
  obtain ⟨v0, v1, v2, d0, d1, d2, p0, p1, p2, rfl, rfl, rfl, h0, h1, h2⟩ := trodAll_three hA
  obtain ⟨rfl, rfl⟩ := trodVars_none hV
  obtain ⟨x0, rfl, rfl, rfl, wx0⟩ := open_int Try.underlying3 (hval 0 3 v0 rfl rfl) h0
  obtain ⟨a1, n1, c1, rfl⟩ := okWide_slice Try.underlying22 (hval 1 22 v1 rfl rfl)
  obtain ⟨fuel1, hf1⟩ := h1
  obtain ⟨b1, o1, l1, rfl, hl1, ha1, hb1, hc1⟩ := slice_calls hf1
  unfold maxLen at hl1
  obtain ⟨u0, u1, m2, y0, y1, rfl, g0, g1⟩ := arr2_lists Try.underlying37 (by kernel_rfl) (by kernel_rfl) (hval 2 37 v2 rfl rfl) h2
  obtain ⟨ao3, b3, o3, cap3, l3, hcs3, hl3, ha3, hb3, hq3⟩ := slice_nums Try.underlying23 (by kernel_rfl) Try.underlying3 g0
  simp only [List.cons.injEq, and_true] at hcs3
  subst hcs3
  have hc3 : ICells W b3 o3 l3 := fun i x hx => ⟨(hq3 i x hx).1, i64_bounds (hq3 i x hx).2⟩
  unfold maxLen at hl3
  obtain ⟨ao4, b4, o4, cap4, l4, hcs4, hl4, ha4, hb4, hq4⟩ := slice_nums Try.underlying23 (by kernel_rfl) Try.underlying3 g1
  simp only [List.cons.injEq, and_true] at hcs4
  subst hcs4
  have hc4 : ICells W b4 o4 l4 := fun i x hx => ⟨(hq4 i x hx).1, i64_bounds (hq4 i x hx).2⟩
  unfold maxLen at hl4
  clear hA0 hval0
  have walk : Calls Try.prog 5 #[.int .i64 x0, .slice a1 l1.length c1, .agg #[.slice ao3 l3.length cap3, .slice ao4 l4.length cap4]] W fun e W' => e = .returned (.bool true) ∧ Below W.heap.size W W' := by
    by_cases hlong : 300 < l1.length ∨ 300 < l3.length ∨ 1000 < l4.length
    · exact prows_long _ _ _ _ _ _ _ _ _ _ W hlong
    · exact prows_walk x0 a1 b1 o1 c1 l1 ao3 b3 o3 cap3 l3 ao4 b4 o4 cap4 l4 W (by omega) (by omega) (by omega) ha1 hb1 hc1 ha3 hb3 hc3 ha4 hb4 hc4
  refine walk.mono fun e W' ⟨he, hb⟩ => ?_
  subst he
  exact ⟨_, rfl, law_post pickRows_laid (by kernel_rfl) rfl hW' hb rfl (tb := 4) (by kernel_rfl) Try.underlying4⟩

theorem pickRows_holds : Rows.PickRowsSaid :=
  OpenClaim.holds_of_wide 5 Try.f5 rfl rfl rfl rfl rfl rfl rfl ⟨rfl, rfl, rfl, rfl, rfl⟩ rfl rfl rfl rfl rfl (by kernel_rfl) Try.func5 (by kernel_rfl)
    (of_decide_eq_true (by kernel_rfl)) (by unfold Func.isWrapper; first | (rw [if_pos (by decide +kernel)]; kernel_rfl) | (rw [if_neg (by decide +kernel)]; exact ⟨rfl, rfl⟩))
    (fun os started H enc _ => pickRows_lifted os started H enc)
end Go.Proofs.Ytjlopeijdmnacaa
