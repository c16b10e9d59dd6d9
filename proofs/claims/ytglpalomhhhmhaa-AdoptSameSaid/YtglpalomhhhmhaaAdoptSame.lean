/- AdoptSame: for every number of threads, every number and every picks, the law returns true, and its arguments read as they did. No condition. -/
import Derived.Test.YtglpalomhhhmhaaRows
import Derived.Test.YtglpalomhhhmhaaADB
import Derived.Test.YtglpalomhhhmhaaUO
namespace Go.Proofs.Ytglpalomhhhmhaa
open Go.ChangeShapes Go.WideShapes Go.ChangeAt Go.RowKit

theorem adoptSame_own : ownKnob Try.prog.godebug = none := by kernel_rfl
theorem adoptSame_laid : laidOutB Try.prog = true := by kernel_rfl

theorem u32_bounds {z : Int} (h : (Lit.int .u32 z).wf = true) : 0 ≤ z ∧ z ≤ 4294967295 := by simpa [Lit.wf, IntKind.min, IntKind.max, IntKind.signed, IntKind.bits] using h

set_option maxRecDepth 100000 in
theorem adoptSame_lifted (os : Os) (started : os.Started) (H : Type) (enc : TypeId × Value → H) :
    ReturnsInHanded {} Try.checked os 5 .any (Rows.adoptSameSpec.pre6 enc Try.prog Try.f5 Rows.adoptSameRow.domain false) (Rows.adoptSameSpec.post enc Try.prog Try.f5 false true false false) := by
  refine returnsInHanded_of_change (C := Try.checked) adoptSame_own started (by kernel_rfl) Try.func5
    (ChangeSpec.witness6 (enc := enc) (C := Try.checked) false ⟨#[], #[.int .i64 0, .int .u32 0, .slice none 0 0], []⟩ 8 (by kernel_rfl) (by kernel_rfl) (by kernel_rfl) (by kernel_rfl)) ?_
  intro W base args ds gs before hval0 hW hcnd _
  have hval : ∀ (j : Nat) t v, Try.f5.params[j]? = some t → args[j]? = some v → Value.okWide Try.prog W .any base t v := hval0
  have hW' := hW
  obtain ⟨p, q, hA0, hV, rfl, hfz, hnd⟩ := hW
  have hA : DataW.TrodAll enc Try.prog W 0 (fun _ => true) true Try.f5.params.toList args.toList ds p := hA0
  rw [Try.params5] at hA hval
  obtain ⟨v0, v1, v2, d0, d1, d2, p0, p1, p2, rfl, rfl, rfl, h0, h1, h2⟩ := trodAll_three hA
  obtain ⟨rfl, rfl⟩ := trodVars_none hV
  obtain ⟨x0, rfl, rfl, rfl, wx0⟩ := open_int Try.underlying3 (hval 0 3 v0 rfl rfl) h0
  obtain ⟨x1, rfl, rfl, rfl, wx1⟩ := open_int Try.underlying46 (hval 1 46 v1 rfl rfl) h1
  have bx1 := u32_bounds wx1
  obtain ⟨x1, rfl⟩ : ∃ t : Nat, x1 = t := ⟨x1.toNat, by omega⟩
  obtain ⟨a2, n2, c2, rfl⟩ := okWide_slice Try.underlying23 (hval 2 23 v2 rfl rfl)
  obtain ⟨fuel2, hf2⟩ := h2
  obtain ⟨ao2, b2, o2, cap2, l2, hcs2, hl2, ha2, hb2, hq2⟩ := slice_nums Try.underlying23 (by kernel_rfl) Try.underlying3 hf2
  simp [Value.cells] at hcs2
  obtain ⟨rfl, rfl, rfl⟩ := hcs2
  have hc2 : ICells W b2 o2 l2 := fun i x hx => ⟨(hq2 i x hx).1, i64_bounds (hq2 i x hx).2⟩
  unfold maxLen at hl2
  clear hA0 hval0
  have walk : Calls Try.prog 5 #[.int .i64 x0, .int .u32 (x1 : Int), .slice a2 l2.length c2] W fun e W' => e = .returned (.bool true) ∧ Below W.heap.size W W' := by
    exact same_all x0 x1 a2 b2 o2 c2 l2 W (by omega) ha2 hb2 hc2 (by omega)
  refine walk.mono fun e W' ⟨he, hb⟩ => ?_
  subst he
  exact ⟨_, rfl, law_post adoptSame_laid (by kernel_rfl) rfl hW' hb rfl (tb := 4) (by kernel_rfl) Try.underlying4⟩

theorem adoptSame_holds : Rows.AdoptSameSaid :=
  OpenClaim.holds_of_wide 5 Try.f5 rfl rfl rfl rfl rfl rfl rfl ⟨rfl, rfl, rfl, rfl, rfl⟩ rfl rfl rfl rfl rfl (by kernel_rfl) Try.func5 (by kernel_rfl)
    (of_decide_eq_true (by kernel_rfl)) (by unfold Func.isWrapper; first | (rw [if_pos (by decide +kernel)]; kernel_rfl) | (rw [if_neg (by decide +kernel)]; exact ⟨rfl, rfl⟩))
    (fun os started H enc _ => adoptSame_lifted os started H enc)
end Go.Proofs.Ytglpalomhhhmhaa
