/- SoloAnswers: for every number of threads, any objects, any calls and any object asked for, the law returns true, and its arguments read as they did. No condition. -/
import Derived.Test.YtjjleghalajidaaGreatRows
import Derived.Test.YtjjleghalajidaaGreatGE7
namespace Go.Proofs.YtjjleghalajidaaGreat
open Go.ChangeShapes Go.WideShapes Go.ChangeAt Go.RowKit

theorem soloAnswers_own : ownKnob Tryz.prog.godebug = none := by kernel_rfl
theorem soloAnswers_laid : laidOutB Tryz.prog = true := by kernel_rfl

set_option maxRecDepth 100000 in
theorem soloAnswers_lifted (os : Os) (started : os.Started) (H : Type) (enc : TypeId × Value → H) :
    ReturnsInHanded {} Tryz.checked os 5 .any (Rows.soloAnswersSpec.pre6 enc Tryz.prog Tryz.f5 Rows.soloAnswersRow.domain false) (Rows.soloAnswersSpec.post enc Tryz.prog Tryz.f5 false true false false) := by
  refine returnsInHanded_of_change (C := Tryz.checked) soloAnswers_own started (by kernel_rfl) Tryz.func5
    (ChangeSpec.witness6 (enc := enc) (C := Tryz.checked) false ⟨#[], #[.agg #[.int .i64 0, .slice none 0 0, .slice none 0 0, .slice none 0 0], .int .i64 0], []⟩ 8 (by kernel_rfl) (by kernel_rfl) (by kernel_rfl) (by kernel_rfl)) ?_
  intro W base args ds gs before hval0 hW hcnd _
  have hval : ∀ (j : Nat) t v, Tryz.f5.params[j]? = some t → args[j]? = some v → Value.okWide Tryz.prog W .any base t v := hval0
  have hW' := hW
  obtain ⟨p, q, hA0, hV, rfl, hfz, hnd⟩ := hW
  have hA : DataW.TrodAll enc Tryz.prog W 0 (fun _ => true) true Tryz.f5.params.toList args.toList ds p := hA0
  rw [Tryz.params5] at hA hval
  obtain ⟨v0, v1, d0, d1, p0, p1, rfl, rfl, rfl, h0, h1⟩ := trodAll_two hA
  obtain ⟨rfl, rfl⟩ := trodVars_none hV
  obtain ⟨n, sao, cao, sb, so, sc, cb, co, cc, l, cs, pv, rfl, ⟨pa, pn, pc, rfl⟩, hargs⟩ := scene_val (hval 0 26 v0 rfl rfl) h0
  obtain ⟨ob, rfl, rfl, rfl, _⟩ := open_int Tryz.underlying3 (hval 1 3 v1 rfl rfl) h1
  clear hval0
  have walk : Calls Tryz.prog 5 #[sceneV n (.slice sao l.length sc) (.slice cao cs.length cc) (.slice pa pn pc), .int .i64 ob] W fun e W' => e = .returned (.bool true) ∧ Below W.heap.size W W' := by
    cases hbig : manyB l.length cs.length with
    | true => exact solo_big n ob sao cao pa sb so sc cb co cc pn pc l cs W hbig
    | false =>
      by_cases hok : soErr n l cs = 0
      · exact solo_ok n ob sao cao pa sb so sc cb co cc pn pc l cs W hargs hbig hok
      · refine solo_bad n ob sao cao pa sb so sc cb co cc pn pc l cs W hargs hbig ?_ hok
        unfold manyB at hbig
        simp only [Bool.or_eq_false_iff, decide_eq_false_iff_not] at hbig
        omega
  refine walk.mono fun e W' ⟨he, hb⟩ => ?_
  subst he
  exact ⟨_, rfl, law_post soloAnswers_laid (by kernel_rfl) rfl hW' hb rfl (tb := 4) (by kernel_rfl) Tryz.underlying4⟩

theorem soloAnswers_holds : Rows.SoloAnswersSaid :=
  OpenClaim.holds_of_wide 5 Tryz.f5 rfl rfl rfl rfl rfl rfl rfl ⟨rfl, rfl, rfl, rfl, rfl⟩ rfl rfl rfl rfl rfl (by kernel_rfl) Tryz.func5 (by kernel_rfl)
    (of_decide_eq_true (by kernel_rfl)) (by unfold Func.isWrapper; first | (rw [if_pos (by decide +kernel)]; kernel_rfl) | (rw [if_neg (by decide +kernel)]; exact ⟨rfl, rfl⟩))
    (fun os started H enc _ => soloAnswers_lifted os started H enc)
end Go.Proofs.YtjjleghalajidaaGreat
