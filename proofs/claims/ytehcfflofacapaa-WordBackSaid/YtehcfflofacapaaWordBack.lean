/- WordBack: for every word and every list of sizes, the law returns true, and its arguments read as they did. No condition. -/
import Derived.Test.YtehcfflofacapaaRows
import Derived.Test.YtehcfflofacapaaI
import Derived.Test.YtehcfflofacapaaK2
namespace Go.Proofs.Ytehcfflofacapaa
open Go.ChangeShapes Go.WideShapes Go.ChangeAt Go.RowKit

theorem wordBack_own : ownKnob Try.prog.godebug = none := by kernel_rfl
theorem wordBack_laid : laidOutB Try.prog = true := by kernel_rfl

set_option maxRecDepth 100000 in
theorem wordBack_lifted (os : Os) (started : os.Started) (H : Type) (enc : TypeId × Value → H) :
    ReturnsInHanded {} Try.checked os 6 .any (Rows.wordBackSpec.pre6 enc Try.prog Try.f6 Rows.wordBackRow.domain false) (Rows.wordBackSpec.post enc Try.prog Try.f6 false true false false) := by
  refine returnsInHanded_of_change (C := Try.checked) wordBack_own started (by kernel_rfl) Try.func6
    (ChangeSpec.witness6 (enc := enc) (C := Try.checked) false ⟨#[], #[.int .u64 0, .slice none 0 0], []⟩ 8 (by kernel_rfl) (by kernel_rfl) (by kernel_rfl) (by kernel_rfl)) ?_
  intro W base args ds gs before hval0 hW hcnd _
  have hval : ∀ (j : Nat) t v, Try.f6.params[j]? = some t → args[j]? = some v → Value.okWide Try.prog W .any base t v := hval0
  have hW' := hW
  obtain ⟨p, q, hA0, hV, rfl, hfz, hnd⟩ := hW
  have hA : DataW.TrodAll enc Try.prog W 0 (fun _ => true) true Try.f6.params.toList args.toList ds p := hA0
  rw [Try.params6] at hA hval
  obtain ⟨v0, v1, d0, d1, p0, p1, rfl, rfl, rfl, h0, h1⟩ := trodAll_two hA
  obtain ⟨rfl, rfl⟩ := trodVars_none hV
  obtain ⟨n, rfl, rfl, rfl, wn⟩ := open_int Try.underlying22 (hval 0 22 v0 rfl rfl) h0
  obtain ⟨a0, n0, c0, rfl⟩ := okWide_slice Try.underlying36 (hval 1 36 v1 rfl rfl)
  obtain ⟨fuel, hf⟩ := h1
  obtain ⟨ao, b, off, cap, l, hcs, hl, ha, hb, hq⟩ := slice_nums Try.underlying36 (by kernel_rfl) Try.underlying3 hf
  simp [Value.cells] at hcs
  obtain ⟨rfl, rfl, rfl⟩ := hcs
  clear hA0 hval0
  have hc : ICells W b off l := fun i x hx => ⟨(hq i x hx).1, i64_bounds (hq i x hx).2⟩
  have bn := u64_bounds wn
  obtain ⟨n, rfl⟩ : ∃ t : Nat, n = t := ⟨n.toNat, by omega⟩
  unfold maxLen at hl
  have walk : Calls Try.prog 6 #[.int .u64 n, .slice a0 l.length c0] W fun e w' => e = .returned (.bool true) ∧ Below W.heap.size W w' := by
    by_cases hs : 100 < l.length ∨ sizesGo l 0 = false
    · exact back_no n a0 b off c0 l W (by omega) (by omega) hb ha hc hs
    · exact back_yes n a0 b off c0 l W (by omega) (by omega) hb ha hc (by cases h : sizesGo l 0 with | true => rfl | false => exact absurd (.inr h) hs)
  refine walk.mono fun e W' ⟨he, hb⟩ => ?_
  subst he
  exact ⟨_, rfl, law_post wordBack_laid (by kernel_rfl) rfl hW' hb rfl (tb := 4) (by kernel_rfl) Try.underlying4⟩

theorem wordBack_holds : Rows.WordBackSaid :=
  OpenClaim.holds_of_wide 6 Try.f6 rfl rfl rfl rfl rfl rfl rfl ⟨rfl, rfl, rfl, rfl, rfl⟩ rfl rfl rfl rfl rfl (by kernel_rfl) Try.func6 (by kernel_rfl)
    (of_decide_eq_true (by kernel_rfl)) (by unfold Func.isWrapper; first | (rw [if_pos (by decide +kernel)]; kernel_rfl) | (rw [if_neg (by decide +kernel)]; exact ⟨rfl, rfl⟩))
    (fun os started H enc _ => wordBack_lifted os started H enc)
end Go.Proofs.Ytehcfflofacapaa
