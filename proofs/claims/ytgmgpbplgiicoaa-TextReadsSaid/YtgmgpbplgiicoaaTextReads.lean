/- TextReads: for every line, the law returns true, and its argument reads as it did. No condition. -/
import Derived.Test.YtgmgpbplgiicoaaRows
import Derived.Test.YtgmgpbplgiicoaaCC
import Derived.Test.YtgmgpbplgiicoaaNO
import Derived.ChangeMaps5
namespace Go.Proofs.Ytgmgpbplgiicoaa
open Go.ChangeShapes Go.WideShapes Go.ChangeAt Go.RowKit

theorem textReads_own : ownKnob Try.prog.godebug = none := by kernel_rfl
theorem textReads_laid : laidOutB Try.prog = true := by kernel_rfl

set_option maxRecDepth 100000 in
theorem textReads_lifted (os : Os) (started : os.Started) (H : Type) (enc : TypeId × Value → H) :
    ReturnsInHanded {} Try.checked os 4 .any (Rows.textReadsSpec.pre6 enc Try.prog Try.f4 Rows.textReadsRow.domain false) (Rows.textReadsSpec.post enc Try.prog Try.f4 false true false false) := by
  refine returnsInHanded_of_change (C := Try.checked) textReads_own started (by kernel_rfl) Try.func4
    (ChangeSpec.witness6 (enc := enc) (C := Try.checked) false ⟨#[], #[.string ⟨#[]⟩], []⟩ 8 (by kernel_rfl) (by kernel_rfl) (by kernel_rfl) (by kernel_rfl)) ?_
  intro W base args ds gs before hval0 hW hcnd _
  have hval : ∀ (j : Nat) t v, Try.f4.params[j]? = some t → args[j]? = some v → Value.okWide Try.prog W .any base t v := hval0
  have hW' := hW
  obtain ⟨p, q, hA0, hV, rfl, hfz, hnd⟩ := hW
  have hA : DataW.TrodAll enc Try.prog W 0 (fun _ => true) true Try.f4.params.toList args.toList ds p := hA0
  rw [Try.params4] at hA hval
  obtain ⟨v0, d0, rfl, rfl, h0⟩ := trodAll_one hA
  obtain ⟨rfl, rfl⟩ := trodVars_none hV
  obtain ⟨s, rfl, rfl, rfl, ls⟩ := Go.ChangeMaps.open_string Try.underlying9 (hval 0 9 v0 rfl rfl) h0
  clear hA0 hval0
  have walk : Calls Try.prog 4 #[.string s] W fun e W' => e = .returned (.bool true) ∧ Below W.heap.size W W' := by
    have h := reads_any (bytesOfS s) W (bytesOfS_b s) (by rw [← strB_size, strB_of]; exact ls)
    rw [strB_of] at h
    exact h
  refine walk.mono fun e W' ⟨he, hb⟩ => ?_
  subst he
  exact ⟨_, rfl, law_post textReads_laid (by kernel_rfl) rfl hW' hb rfl (tb := 4) (by kernel_rfl) Try.underlying4⟩

theorem textReads_holds : Rows.TextReadsSaid :=
  OpenClaim.holds_of_wide 4 Try.f4 rfl rfl rfl rfl rfl rfl rfl ⟨rfl, rfl, rfl, rfl, rfl⟩ rfl rfl rfl rfl rfl (by kernel_rfl) Try.func4 (by kernel_rfl)
    (of_decide_eq_true (by kernel_rfl)) (by unfold Func.isWrapper; first | (rw [if_pos (by decide +kernel)]; kernel_rfl) | (rw [if_neg (by decide +kernel)]; exact ⟨rfl, rfl⟩))
    (fun os started H enc _ => textReads_lifted os started H enc)
end Go.Proofs.Ytgmgpbplgiicoaa
