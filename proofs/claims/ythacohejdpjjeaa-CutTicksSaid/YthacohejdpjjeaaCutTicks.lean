/- CutTicks: for every scene and every row of events, nil or not, the law returns true, and its arguments read as they did. No condition. -/
import Derived.Test.YthacohejdpjjeaaRows
import Derived.Test.YthacohejdpjjeaaCTL
import Derived.Test.YthacohejdpjjeaaCTU
namespace Go.Proofs.Ythacohejdpjjeaa
open Go.ChangeShapes Go.WideShapes Go.ChangeAt Go.RowKit

theorem cutTicks_own : ownKnob Try.prog.godebug = none := by kernel_rfl
theorem cutTicks_laid : laidOutB Try.prog = true := by kernel_rfl

set_option maxRecDepth 100000 in
theorem cutTicks_lifted (os : Os) (started : os.Started) (H : Type) (enc : TypeId × Value → H) :
    ReturnsInHanded {} Try.checked os 3 .any (Rows.cutTicksSpec.pre6 enc Try.prog Try.f3 Rows.cutTicksRow.domain false) (Rows.cutTicksSpec.post enc Try.prog Try.f3 false true false false) := by
  refine returnsInHanded_of_change (C := Try.checked) cutTicks_own started (by kernel_rfl) Try.func3
    (ChangeSpec.witness6 (enc := enc) (C := Try.checked) false ⟨#[], #[.agg #[.int .i64 0, .slice none 0 0, .slice none 0 0, .slice none 0 0], .slice none 0 0], []⟩ 8 (by kernel_rfl) (by kernel_rfl) (by kernel_rfl) (by kernel_rfl)) ?_
  intro W base args ds gs before hval0 hW hcnd _
  have hval : ∀ (j : Nat) t v, Try.f3.params[j]? = some t → args[j]? = some v → Value.okWide Try.prog W .any base t v := hval0
  have hW' := hW
  obtain ⟨p, q, hA0, hV, rfl, hfz, hnd⟩ := hW
  have hA : DataW.TrodAll enc Try.prog W 0 (fun _ => true) true Try.f3.params.toList args.toList ds p := hA0
  rw [Try.params3] at hA hval
  obtain ⟨v0, v1, d0, d1, p0, p1, rfl, rfl, rfl, h0, h1⟩ := trodAll_two hA
  obtain ⟨rfl, rfl⟩ := trodVars_none hV
  obtain ⟨n, sao, na, sc, ao, b, o, cap, cs, pa, pb, po, pc, pk, rfl, ⟨hc1, hc2, hc3, hc4⟩, hp1, hp2, hp3, hp4⟩ := scene_open (hval 0 26 v0 rfl rfl) h0
  obtain ⟨ao1, n1, c1, rfl⟩ := okWide_slice Try.underlying27 (hval 1 27 v1 rfl rfl)
  obtain ⟨fuel1, hf1⟩ := h1
  obtain ⟨eb, eo, le, rfl, hl, hev, hsmall⟩ := slice_evs hf1
  have hsc : ScnAt W ao b o cs pa pb po pk ao1 eb eo le := ⟨hc1, hc2, hc3, hev, hp1, hp2, hp3, by unfold maxLen at hp4; omega, by unfold maxLen at hc4; omega⟩
  clear hA0 hval0
  have walk : Calls Try.prog 3 #[scnV n (.slice sao na sc) (.slice ao cs.length cap) (.slice pa pk.length pc), .slice ao1 le.length c1] W fun e W' => e = .returned (.bool true) ∧ Below W.heap.size W W' := by
    exact cticks_any n sao na sc ao b o cap cs pa pb po pc pk ao1 eb eo c1 le W hsc
  refine walk.mono fun e W' ⟨he, hb⟩ => ?_
  subst he
  exact ⟨_, rfl, law_post cutTicks_laid (by kernel_rfl) rfl hW' hb rfl (tb := 4) (by kernel_rfl) Try.underlying4⟩

theorem cutTicks_holds : Rows.CutTicksSaid :=
  OpenClaim.holds_of_wide 3 Try.f3 rfl rfl rfl rfl rfl rfl rfl ⟨rfl, rfl, rfl, rfl, rfl⟩ rfl rfl rfl rfl rfl (by kernel_rfl) Try.func3 (by kernel_rfl)
    (of_decide_eq_true (by kernel_rfl)) (by unfold Func.isWrapper; first | (rw [if_pos (by decide +kernel)]; kernel_rfl) | (rw [if_neg (by decide +kernel)]; exact ⟨rfl, rfl⟩))
    (fun os started H enc _ => cutTicks_lifted os started H enc)
end Go.Proofs.Ythacohejdpjjeaa
