/- HistoryRight: for every two numbers, every row of calls and every row of events, nil or not, the law returns true, and its arguments read as they did. No condition. -/
import Derived.Test.YtigcmcmapbomoaaRows
import Derived.Test.YtigcmcmapbomoaaHM
import Derived.Test.YtigcmcmapbomoaaHU
namespace Go.Proofs.Ytigcmcmapbomoaa
open Go.ChangeShapes Go.WideShapes Go.ChangeAt Go.RowKit

theorem historyRight_own : ownKnob Try.prog.godebug = none := by kernel_rfl
theorem historyRight_laid : laidOutB Try.prog = true := by kernel_rfl

set_option maxRecDepth 100000 in
theorem historyRight_lifted (os : Os) (started : os.Started) (H : Type) (enc : TypeId × Value → H) :
    ReturnsInHanded {} Try.checked os 3 .any (Rows.historyRightSpec.pre6 enc Try.prog Try.f3 Rows.historyRightRow.domain false) (Rows.historyRightSpec.post enc Try.prog Try.f3 false true false false) := by
  refine returnsInHanded_of_change (C := Try.checked) historyRight_own started (by kernel_rfl) Try.func3
    (ChangeSpec.witness6 (enc := enc) (C := Try.checked) false ⟨#[], #[.agg #[.int .i64 0, .int .i64 0], .slice none 0 0, .slice none 0 0], []⟩ 8 (by kernel_rfl) (by kernel_rfl) (by kernel_rfl) (by kernel_rfl)) ?_
  intro W base args ds gs before hval0 hW hcnd _
  have hval : ∀ (j : Nat) t v, Try.f3.params[j]? = some t → args[j]? = some v → Value.okWide Try.prog W .any base t v := hval0
  have hW' := hW
  obtain ⟨p, q, hA0, hV, rfl, hfz, hnd⟩ := hW
  have hA : DataW.TrodAll enc Try.prog W 0 (fun _ => true) true Try.f3.params.toList args.toList ds p := hA0
  rw [Try.params3] at hA hval
  obtain ⟨v0, v1, v2, d0, d1, d2, p0, p1, p2, rfl, rfl, rfl, h0, h1, h2⟩ := trodAll_three hA
  obtain ⟨rfl, rfl⟩ := trodVars_none hV
  obtain ⟨n, k, rfl, wn, wk⟩ := arr2_nums Try.underlying22 Try.underlying3 (by kernel_rfl) (by kernel_rfl) (hval 0 22 v0 rfl rfl) h0
  obtain ⟨ao1, n1, c1, rfl⟩ := okWide_slice Try.underlying23 (hval 1 23 v1 rfl rfl)
  obtain ⟨fuel1, hf1⟩ := h1
  obtain ⟨bT, oT, ts, rfl, htl, hta, htb, htc⟩ := slice_threads hf1
  obtain ⟨ao2, n2, c2, rfl⟩ := okWide_slice Try.underlying24 (hval 2 24 v2 rfl rfl)
  obtain ⟨fuel2, hf2⟩ := h2
  obtain ⟨b, o, l, rfl, hl, ha, hb, hc⟩ := slice_events hf2
  clear hA0 hval0
  have walk : Calls Try.prog 3 #[.agg #[.int .i64 n, .int .i64 k], .slice ao1 ts.length c1, .slice ao2 l.length c2] W fun e W' => e = .returned (.bool true) ∧ Below W.heap.size W W' := by
    exact history_right n k ao1 bT oT c1 ts ao2 b o c2 l W (i64_bounds wk) htl hta htb htc hl ha hb hc
  refine walk.mono fun e W' ⟨he, hb⟩ => ?_
  subst he
  exact ⟨_, rfl, law_post historyRight_laid (by kernel_rfl) rfl hW' hb rfl (tb := 4) (by kernel_rfl) Try.underlying4⟩

theorem historyRight_holds : Rows.HistoryRightSaid :=
  OpenClaim.holds_of_wide 3 Try.f3 rfl rfl rfl rfl rfl rfl rfl ⟨rfl, rfl, rfl, rfl, rfl⟩ rfl rfl rfl rfl rfl (by kernel_rfl) Try.func3 (by kernel_rfl)
    (of_decide_eq_true (by kernel_rfl)) (by unfold Func.isWrapper; first | (rw [if_pos (by decide +kernel)]; kernel_rfl) | (rw [if_neg (by decide +kernel)]; exact ⟨rfl, rfl⟩))
    (fun os started H enc _ => historyRight_lifted os started H enc)
end Go.Proofs.Ytigcmcmapbomoaa
