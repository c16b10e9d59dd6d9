/- TextReports: for every row of calls, nil or not, and every report, the law returns true, and its arguments read as they did. No condition. -/
import Derived.Test.YthacohejdpjjeaaRows
import Derived.Test.YthacohejdpjjeaaNF
import Derived.Test.YthacohejdpjjeaaNF
namespace Go.Proofs.Ythacohejdpjjeaa
open Go.ChangeShapes Go.WideShapes Go.ChangeAt Go.RowKit

theorem textReports_own : ownKnob Try.prog.godebug = none := by kernel_rfl
theorem textReports_laid : laidOutB Try.prog = true := by kernel_rfl

set_option maxRecDepth 100000 in
theorem textReports_lifted (os : Os) (started : os.Started) (H : Type) (enc : TypeId × Value → H) :
    ReturnsInHanded {} Try.checked os 5 .any (Rows.textReportsSpec.pre6 enc Try.prog Try.f5 Rows.textReportsRow.domain false) (Rows.textReportsSpec.post enc Try.prog Try.f5 false true false false) := by
  refine returnsInHanded_of_change (C := Try.checked) textReports_own started (by kernel_rfl) Try.func5
    (ChangeSpec.witness6 (enc := enc) (C := Try.checked) false ⟨#[], #[.slice none 0 0, .agg #[.slice none 0 0, .slice none 0 0, .int .i64 0, .int .i64 0, .int .i64 0, .int .i64 0, .int .i64 0, .int .i64 0, .int .i64 0]], []⟩ 8 (by kernel_rfl) (by kernel_rfl) (by kernel_rfl) (by kernel_rfl)) ?_
  intro W base args ds gs before hval0 hW hcnd _
  have hval : ∀ (j : Nat) t v, Try.f5.params[j]? = some t → args[j]? = some v → Value.okWide Try.prog W .any base t v := hval0
  have hW' := hW
  obtain ⟨p, q, hA0, hV, rfl, hfz, hnd⟩ := hW
  have hA : DataW.TrodAll enc Try.prog W 0 (fun _ => true) true Try.f5.params.toList args.toList ds p := hA0
  rw [Try.params5] at hA hval
  obtain ⟨v0, v1, d0, d1, p0, p1, rfl, rfl, rfl, h0, h1⟩ := trodAll_two hA
  obtain ⟨rfl, rfl⟩ := trodVars_none hV
  obtain ⟨ao1, n1, c1, rfl⟩ := okWide_slice Try.underlying23 (hval 0 23 v0 rfl rfl)
  obtain ⟨fuel0, hf0⟩ := h0
  obtain ⟨x, ⟨rfl, rfl, rfl⟩, rfl, hx, hwf⟩ := report_val hf0 (hval 1 55 v1 rfl rfl) h1
  clear hA0 hval0
  have walk : Calls Try.prog 5 #[.slice x.ca x.cs.length x.cc, .agg #[.slice x.ea x.l.length x.ec, .slice x.wa x.wn x.wc, .int .i64 x.rr, .int .i64 x.wt, .int .i64 x.sw, .int .i64 x.ad, .int .i64 x.fa, .int .i64 x.tk, .int .i64 x.idl]] W fun e W' => e = .returned (.bool true) ∧ Below W.heap.size W W' := by
    exact reports_any x W hx hwf
  refine walk.mono fun e W' ⟨he, hb⟩ => ?_
  subst he
  exact ⟨_, rfl, law_post textReports_laid (by kernel_rfl) rfl hW' hb rfl (tb := 4) (by kernel_rfl) Try.underlying4⟩

theorem textReports_holds : Rows.TextReportsSaid :=
  OpenClaim.holds_of_wide 5 Try.f5 rfl rfl rfl rfl rfl rfl rfl ⟨rfl, rfl, rfl, rfl, rfl⟩ rfl rfl rfl rfl rfl (by kernel_rfl) Try.func5 (by kernel_rfl)
    (of_decide_eq_true (by kernel_rfl)) (by unfold Func.isWrapper; first | (rw [if_pos (by decide +kernel)]; kernel_rfl) | (rw [if_neg (by decide +kernel)]; exact ⟨rfl, rfl⟩))
    (fun os started H enc _ => textReports_lifted os started H enc)
end Go.Proofs.Ythacohejdpjjeaa
