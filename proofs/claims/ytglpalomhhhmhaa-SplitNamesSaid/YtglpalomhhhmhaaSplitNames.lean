/- SplitNames: for every number of threads, every calls and every picks, the law returns true, and its arguments read as they did. No condition. -/
import Derived.Test.YtglpalomhhhmhaaRows
import Derived.Test.YtglpalomhhhmhaaSQ9
import Derived.Test.YtglpalomhhhmhaaUO
namespace Go.Proofs.Ytglpalomhhhmhaa
open Go.ChangeShapes Go.WideShapes Go.ChangeAt Go.RowKit

theorem splitNames_own : ownKnob Try.prog.godebug = none := by kernel_rfl
theorem splitNames_laid : laidOutB Try.prog = true := by kernel_rfl

set_option maxRecDepth 100000 in
theorem splitNames_lifted (os : Os) (started : os.Started) (H : Type) (enc : TypeId × Value → H) :
    ReturnsInHanded {} Try.checked os 3 .any (Rows.splitNamesSpec.pre6 enc Try.prog Try.f3 Rows.splitNamesRow.domain false) (Rows.splitNamesSpec.post enc Try.prog Try.f3 false true false false) := by
  refine returnsInHanded_of_change (C := Try.checked) splitNames_own started (by kernel_rfl) Try.func3
    (ChangeSpec.witness6 (enc := enc) (C := Try.checked) false ⟨#[], #[.int .i64 0, .slice none 0 0, .slice none 0 0], []⟩ 8 (by kernel_rfl) (by kernel_rfl) (by kernel_rfl) (by kernel_rfl)) ?_
  intro W base args ds gs before hval0 hW hcnd _
  have hval : ∀ (j : Nat) t v, Try.f3.params[j]? = some t → args[j]? = some v → Value.okWide Try.prog W .any base t v := hval0
  have hW' := hW
  obtain ⟨p, q, hA0, hV, rfl, hfz, hnd⟩ := hW
  have hA : DataW.TrodAll enc Try.prog W 0 (fun _ => true) true Try.f3.params.toList args.toList ds p := hA0
  rw [Try.params3] at hA hval
  obtain ⟨v0, v1, v2, d0, d1, d2, p0, p1, p2, rfl, rfl, rfl, h0, h1, h2⟩ := trodAll_three hA
  obtain ⟨rfl, rfl⟩ := trodVars_none hV
  obtain ⟨x0, rfl, rfl, rfl, wx0⟩ := open_int Try.underlying3 (hval 0 3 v0 rfl rfl) h0
  obtain ⟨a1, n1, c1, rfl⟩ := okWide_slice Try.underlying22 (hval 1 22 v1 rfl rfl)
  obtain ⟨fuel1, hf1⟩ := h1
  obtain ⟨b1, o1, l1, rfl, hl1, ha1, hb1, hc1⟩ := slice_calls hf1
  unfold maxLen at hl1
  have hk1 : a1 = none → c1 = 0 := fun e => by subst e; exact nil_no_room Try.underlying22 hf1
  obtain ⟨a2, n2, c2, rfl⟩ := okWide_slice Try.underlying23 (hval 2 23 v2 rfl rfl)
  obtain ⟨fuel2, hf2⟩ := h2
  obtain ⟨ao2, b2, o2, cap2, l2, hcs2, hl2, ha2, hb2, hq2⟩ := slice_nums Try.underlying23 (by kernel_rfl) Try.underlying3 hf2
  simp [Value.cells] at hcs2
  obtain ⟨rfl, rfl, rfl⟩ := hcs2
  have hc2 : ICells W b2 o2 l2 := fun i x hx => ⟨(hq2 i x hx).1, i64_bounds (hq2 i x hx).2⟩
  unfold maxLen at hl2
  clear hA0 hval0
  have walk : Calls Try.prog 3 #[.int .i64 x0, .slice a1 l1.length c1, .slice a2 l2.length c2] W fun e W' => e = .returned (.bool true) ∧ Below W.heap.size W W' := by
    exact names_all x0 a1 b1 o1 c1 l1 a2 b2 o2 c2 l2 W ha1 hb1 hc1 hk1 ha2 hb2 hc2 (by omega) (by omega)
  refine walk.mono fun e W' ⟨he, hb⟩ => ?_
  subst he
  exact ⟨_, rfl, law_post splitNames_laid (by kernel_rfl) rfl hW' hb rfl (tb := 4) (by kernel_rfl) Try.underlying4⟩

theorem splitNames_holds : Rows.SplitNamesSaid :=
  OpenClaim.holds_of_wide 3 Try.f3 rfl rfl rfl rfl rfl rfl rfl ⟨rfl, rfl, rfl, rfl, rfl⟩ rfl rfl rfl rfl rfl (by kernel_rfl) Try.func3 (by kernel_rfl)
    (of_decide_eq_true (by kernel_rfl)) (by unfold Func.isWrapper; first | (rw [if_pos (by decide +kernel)]; kernel_rfl) | (rw [if_neg (by decide +kernel)]; exact ⟨rfl, rfl⟩))
    (fun os started H enc _ => splitNames_lifted os started H enc)
end Go.Proofs.Ytglpalomhhhmhaa
