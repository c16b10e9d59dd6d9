/- DescFinishes: for every three numbers and either flag, the law returns true, and its arguments read as they did. No condition. -/
import Derived.Test.YtgfmidpcgoadlaaRows
import Derived.Test.YtgfmidpcgoadlaaDI
import Derived.Test.YtgfmidpcgoadlaaDU
namespace Go.Proofs.Ytgfmidpcgoadlaa
open Go.ChangeShapes Go.WideShapes Go.ChangeAt Go.RowKit

theorem descFinishes_own : ownKnob Try.prog.godebug = none := by kernel_rfl
theorem descFinishes_laid : laidOutB Try.prog = true := by kernel_rfl

set_option maxRecDepth 100000 in
theorem descFinishes_lifted (os : Os) (started : os.Started) (H : Type) (enc : TypeId × Value → H) :
    ReturnsInHanded {} Try.checked os 4 .any (Rows.descFinishesSpec.pre6 enc Try.prog Try.f4 Rows.descFinishesRow.domain false) (Rows.descFinishesSpec.post enc Try.prog Try.f4 false true false false) := by
  refine returnsInHanded_of_change (C := Try.checked) descFinishes_own started (by kernel_rfl) Try.func4
    (ChangeSpec.witness6 (enc := enc) (C := Try.checked) false ⟨#[], #[.agg #[.int .u64 0, .int .u64 0, .int .u64 0], .bool false], []⟩ 8 (by kernel_rfl) (by kernel_rfl) (by kernel_rfl) (by kernel_rfl)) ?_
  intro W base args ds gs before hval0 hW hcnd _
  have hval : ∀ (j : Nat) t v, Try.f4.params[j]? = some t → args[j]? = some v → Value.okWide Try.prog W .any base t v := hval0
  have hW' := hW
  obtain ⟨p, q, hA0, hV, rfl, hfz, hnd⟩ := hW
  have hA : DataW.TrodAll enc Try.prog W 0 (fun _ => true) true Try.f4.params.toList args.toList ds p := hA0
  rw [Try.params4] at hA hval
  obtain ⟨v0, v1, d0, d1, p0, p1, rfl, rfl, rfl, h0, h1⟩ := trodAll_two hA
  obtain ⟨rfl, rfl⟩ := trodVars_none hV
  obtain ⟨n, l, f, rfl, wn, wl, wf⟩ := arr3_nums Try.underlying35 Try.underlying22 (by kernel_rfl) (by kernel_rfl) (hval 0 35 v0 rfl rfl) h0
  obtain ⟨t, rfl, rfl, rfl⟩ := open_bool Try.underlying4 (hval 1 4 v1 rfl rfl) h1
  have bn := u64_bounds wn
  have bl := u64_bounds wl
  have bf := u64_bounds wf
  obtain ⟨n, rfl⟩ : ∃ t : Nat, n = t := ⟨n.toNat, by omega⟩
  obtain ⟨l, rfl⟩ : ∃ t : Nat, l = t := ⟨l.toNat, by omega⟩
  obtain ⟨f, rfl⟩ : ∃ t : Nat, f = t := ⟨f.toNat, by omega⟩
  clear hA0 hval0
  have walk : Calls Try.prog 4 #[.agg #[.int .u64 (n : Int), .int .u64 (l : Int), .int .u64 (f : Int)], .bool t] W fun e W' => e = .returned (.bool true) ∧ Below W.heap.size W W' := by
    by_cases hr : l < 1073741824
    · exact finishes_low n l f t W (by omega) hr
    · exact finishes_high n l f t W (by omega) (by omega) hr
  refine walk.mono fun e W' ⟨he, hb⟩ => ?_
  subst he
  exact ⟨_, rfl, law_post descFinishes_laid (by kernel_rfl) rfl hW' hb rfl (tb := 4) (by kernel_rfl) Try.underlying4⟩

theorem descFinishes_holds : Rows.DescFinishesSaid :=
  OpenClaim.holds_of_wide 4 Try.f4 rfl rfl rfl rfl rfl rfl rfl ⟨rfl, rfl, rfl, rfl, rfl⟩ rfl rfl rfl rfl rfl (by kernel_rfl) Try.func4 (by kernel_rfl)
    (of_decide_eq_true (by kernel_rfl)) (by unfold Func.isWrapper; first | (rw [if_pos (by decide +kernel)]; kernel_rfl) | (rw [if_neg (by decide +kernel)]; exact ⟨rfl, rfl⟩))
    (fun os started H enc _ => descFinishes_lifted os started H enc)
end Go.Proofs.Ytgfmidpcgoadlaa
