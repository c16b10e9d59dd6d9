/- CutAt: for every scene, every row of events, nil or not, and every tick, the law returns true, and its arguments read as they did. No condition. -/
import Derived.Test.YthacohejdpjjeaaRows
import Derived.Test.YthacohejdpjjeaaCTM
import Derived.Test.YthacohejdpjjeaaCTU
namespace Go.Proofs.Ythacohejdpjjeaa
open Go.ChangeShapes Go.WideShapes Go.ChangeAt Go.RowKit

theorem cutAt_own : ownKnob Try.prog.godebug = none := by kernel_rfl
theorem cutAt_laid : laidOutB Try.prog = true := by kernel_rfl

set_option maxRecDepth 100000 in
theorem cutAt_lifted (os : Os) (started : os.Started) (H : Type) (enc : TypeId × Value → H) :
    ReturnsInHanded {} Try.checked os 4 .any (Rows.cutAtSpec.pre6 enc Try.prog Try.f4 Rows.cutAtRow.domain false) (Rows.cutAtSpec.post enc Try.prog Try.f4 false true false false) := by
  refine returnsInHanded_of_change_sized (C := Try.checked) cutAt_own started (by kernel_rfl) Try.func4
    (ChangeSpec.witness6 (enc := enc) (C := Try.checked) false ⟨#[], #[.agg #[.int .i64 0, .slice none 0 0, .slice none 0 0, .slice none 0 0], .slice none 0 0, .int .i64 0], []⟩ 8 (by kernel_rfl) (by kernel_rfl) (by kernel_rfl) (by kernel_rfl)) ?_
  intro W base args ds gs before hval0 hW hcnd hsz0 _
  have hsz : (DataW.weightsEach Try.prog (Try.f4.params.toList ++ Rows.cutAtSpec.plain.varTypes Try.prog) (ds ++ gs)).all (· ≤ reachBytes) = true := hsz0
  have hval : ∀ (j : Nat) t v, Try.f4.params[j]? = some t → args[j]? = some v → Value.okWide Try.prog W .any base t v := hval0
  have hW' := hW
  obtain ⟨p, q, hA0, hV, rfl, hfz, hnd⟩ := hW
  have hA : DataW.TrodAll enc Try.prog W 0 (fun _ => true) true Try.f4.params.toList args.toList ds p := hA0
  rw [Try.params4] at hA hval hsz
  obtain ⟨v0, v1, v2, d0, d1, d2, p0, p1, p2, rfl, rfl, rfl, h0, h1, h2⟩ := trodAll_three hA
  obtain ⟨rfl, rfl⟩ := trodVars_none hV
  have hw1 : ∀ m ∈ d1.weights Try.prog 27, m ≤ reachBytes := fun m hm => by
    have := List.all_eq_true.1 hsz m (DataW.weights_mem_each (j := 1) rfl rfl m hm)
    simpa using this
  obtain ⟨n, sao, na, sc, ao, b, o, cap, cs, pa, pb, po, pc, pk, rfl, ⟨hc1, hc2, hc3, hc4⟩, hp1, hp2, hp3, hp4⟩ := scene_open (hval 0 26 v0 rfl rfl) h0
  obtain ⟨ao1, n1, c1, rfl⟩ := okWide_slice Try.underlying27 (hval 1 27 v1 rfl rfl)
  obtain ⟨fuel1, hf1⟩ := h1
  obtain ⟨eb, eo, le, rfl, hl, hev, hsmall⟩ := slice_evs hf1
  have hsc : ScnAt W ao b o cs pa pb po pk ao1 eb eo le := ⟨hc1, hc2, hc3, hev, hp1, hp2, hp3, by unfold maxLen at hp4; omega, by unfold maxLen at hc4; omega⟩
  obtain ⟨tick, rfl, rfl, rfl, wt⟩ := open_int Try.underlying3 (hval 2 3 v2 rfl rfl) h2
  clear hA0 hval0
  have walk : Calls Try.prog 4 #[scnV n (.slice sao na sc) (.slice ao cs.length cap) (.slice pa pk.length pc), .slice ao1 le.length c1, .int .i64 tick] W fun e W' => e = .returned (.bool true) ∧ Below W.heap.size W W' := by
    exact cat_any n sao na sc ao b o cap cs pa pb po pc pk ao1 eb eo c1 le tick W hsc (hsmall hw1) (i64_bounds wt)
  refine walk.mono fun e W' ⟨he, hb⟩ => ?_
  subst he
  exact ⟨_, rfl, law_post cutAt_laid (by kernel_rfl) rfl hW' hb rfl (tb := 4) (by kernel_rfl) Try.underlying4⟩

theorem cutAt_holds : Rows.CutAtSaid :=
  OpenClaim.holds_of_wide 4 Try.f4 rfl rfl rfl rfl rfl rfl rfl ⟨rfl, rfl, rfl, rfl, rfl⟩ rfl rfl rfl rfl rfl (by kernel_rfl) Try.func4 (by kernel_rfl)
    (of_decide_eq_true (by kernel_rfl)) (by unfold Func.isWrapper; first | (rw [if_pos (by decide +kernel)]; kernel_rfl) | (rw [if_neg (by decide +kernel)]; exact ⟨rfl, rfl⟩))
    (fun os started H enc _ => cutAt_lifted os started H enc)
end Go.Proofs.Ythacohejdpjjeaa
