/- ModelNews: for every number of threads, every spec, every list of words and every call, the law returns true, and its argument reads as it did. No condition. -/
import Derived.Test.YtmocjpcnohnfpaaGreatRows
import Derived.Test.YtmocjpcnohnfpaaGreatJH
import Derived.Test.YtmocjpcnohnfpaaGreatJU
namespace Go.Proofs.YtmocjpcnohnfpaaGreat
open Go.ChangeShapes Go.WideShapes Go.ChangeAt Go.RowKit

theorem modelNews_own : ownKnob Tryz.prog.godebug = none := by kernel_rfl
theorem modelNews_laid : laidOutB Tryz.prog = true := by kernel_rfl

set_option maxRecDepth 100000 in
theorem modelNews_lifted (os : Os) (started : os.Started) (H : Type) (enc : TypeId × Value → H) :
    ReturnsInHanded {} Tryz.checked os 3 .any (Rows.modelNewsSpec.pre6 enc Tryz.prog Tryz.f3 Rows.modelNewsRow.domain false) (Rows.modelNewsSpec.post enc Tryz.prog Tryz.f3 false true false false) := by
  refine returnsInHanded_of_change (C := Tryz.checked) modelNews_own started (by kernel_rfl) Tryz.func3
    (ChangeSpec.witness6 (enc := enc) (C := Tryz.checked) false ⟨#[], #[.agg #[.int .i64 0, .int .i64 0, .int .i64 0, .int .i64 0, .slice none 0 0, .int .i64 0, .int .i64 0, .int .i64 0, .int .u64 0, .int .u64 0, .int .u64 0]], []⟩ 8 (by kernel_rfl) (by kernel_rfl) (by kernel_rfl) (by kernel_rfl)) ?_
  intro W base args ds gs before hval0 hW hcnd _
  have hval : ∀ (j : Nat) t v, Tryz.f3.params[j]? = some t → args[j]? = some v → Value.okWide Tryz.prog W .any base t v := hval0
  have hW' := hW
  obtain ⟨p, q, hA0, hV, rfl, hfz, hnd⟩ := hW
  have hA : DataW.TrodAll enc Tryz.prog W 0 (fun _ => true) true Tryz.f3.params.toList args.toList ds p := hA0
  rw [Tryz.params3] at hA hval
  obtain ⟨v0, d0, rfl, rfl, h0⟩ := trodAll_one hA
  obtain ⟨rfl, rfl⟩ := trodVars_none hV
  obtain ⟨n, k, p, q, v1, t, ob, kd, a, b, c, m, rfl, hA1, hR1, hl1⟩ := thing_val (hval 0 29 v0 rfl rfl) h0
  clear hval0
  have walk : Calls Tryz.prog 3 #[thingV n k p q v1 t ob kd a b c] W fun e W' => e = .returned (.bool true) ∧ Below W.heap.size W W' := by
    exact model_news n k p q v1 t ob kd a b c m W hA1 hR1 hl1
  refine walk.mono fun e W' ⟨he, hb⟩ => ?_
  subst he
  exact ⟨_, rfl, law_post modelNews_laid (by kernel_rfl) rfl hW' hb rfl (tb := 4) (by kernel_rfl) Tryz.underlying4⟩

theorem modelNews_holds : Rows.ModelNewsSaid :=
  OpenClaim.holds_of_wide 3 Tryz.f3 rfl rfl rfl rfl rfl rfl rfl ⟨rfl, rfl, rfl, rfl, rfl⟩ rfl rfl rfl rfl rfl (by kernel_rfl) Tryz.func3 (by kernel_rfl)
    (of_decide_eq_true (by kernel_rfl)) (by unfold Func.isWrapper; first | (rw [if_pos (by decide +kernel)]; kernel_rfl) | (rw [if_neg (by decide +kernel)]; exact ⟨rfl, rfl⟩))
    (fun os started H enc _ => modelNews_lifted os started H enc)
end Go.Proofs.YtmocjpcnohnfpaaGreat
