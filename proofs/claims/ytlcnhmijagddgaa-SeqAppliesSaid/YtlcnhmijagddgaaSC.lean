/- The effects' walks, continued: adding and removing elements; sets; swappers; tables; numbers that are replaced. -/
import Derived.Test.YtlcnhmijagddgaaSB
import Derived.WalkLawsBesides
import Derived.WalkSmall
namespace Go.Proofs.Ytlcnhmijagddgaa
open Go.ChangeShapes Go.WideShapes Go.ChangeAt Go.RowKit
set_option linter.unusedVariables false

theorem wU_snoc (l : List Nat) (a : Nat) : (l ++ [a]).map wU = l.map wU ++ [wU a] := by simp

set_option maxHeartbeats 400000 in
theorem eff_add (v : Value) (l : List Nat) (a B : Nat) (w : World) (h : OwnW w B v l) (hl : l.length ≤ 8) (hB : B ≤ w.heap.size) :
    Calls Try.prog 28 #[v, .int .u64 (a : Int)] w (EffP B w (if 8 ≤ l.length then (l, 0, 6) else (l ++ [a], 0, 0))) := by
  obtain ⟨iI, ia, ib, ic, id⟩ := info_parts info22
  obtain ⟨ao, cap, rfl⟩ := h.arg.isSlice
  have HO := Lib.hid h
  clear h
  by_cases h8 : 8 ≤ l.length
  · rw [if_pos h8]
    have e8 : l.length = 8 := by omega
    clear h8
    rw [e8]
    go_enter Try.func28, Try.ntmps28
    go_wp2_with fail
    go_ret3
    exact ⟨_, rfl, e8 ▸ HO.out, Below.refl _ _⟩
  · rw [if_neg h8]
    have h9 : l.length < 8 := by omega
    have HO0 : Hid (w.ownsRow B 29 1 (.slice ao l.length cap) l.length (l.map wU)) := Lib.hid HO.out
    have HM : Hid (List.map wU l ++ [Value.int .u64 (a : Int)] = (l ++ [a]).map wU) := Lib.hid (by rw [wU_snoc]; rfl)
    clear h8
    go_enter Try.func28, Try.ntmps28
    go_wp2_with (at_builtin; refine append_new rfl _ _ 22 rfl B 29 iI (.int .u64 0) 1 8 Try.underlying22 ia ib ic id rfl (by decide) (by decide) _ l.length _ rfl HO0.out [.int .u64 (a : Int)] rfl rfl rfl (by omega) hB ?_)
    intro v' w1 how hbl _ _
    rw [HM.out] at how
    have HO1 : Hid (OwnW w1 B v' (l ++ [a])) := Lib.hid (by unfold OwnW; rw [List.length_append]; exact how)
    have HB := Lib.hid hbl
    clear how hbl
    go_wp2
    go_ret3
    exact ⟨_, rfl, HO1.out, HB.out⟩

set_option maxHeartbeats 400000 in
theorem eff_removeLast (v : Value) (l : List Nat) (a B : Nat) (w : World) (h : OwnW w B v l) (hl : l.length ≤ 8) (hB : B ≤ w.heap.size) :
    Calls Try.prog 29 #[v, .int .u64 (a : Int)] w (EffP B w (if l.length = 0 then (l, 0, 7) else (l.dropLast, l.getLastD 0, 0))) := by
  have HC := Lib.hid (fun W (h1 : OwnW W B v l) => eff_showLast v l a B W h1 hl)
  by_cases h0 : l.length = 0
  · rw [if_pos h0]
    simp only [if_pos h0] at HC
    obtain rfl := List.length_eq_zero_iff.1 h0
    obtain ⟨ao, cap, rfl⟩ := h.arg.isSlice
    have HO := Lib.hid h
    clear h h0 hl
    go_enter Try.func29, Try.ntmps29
    go_wp2_with (go_at_call 30; refine (HC.out _ HO.out).mono ?_; rintro e w' ⟨rfl, m, rfl⟩)
    go_ret3
    exact ⟨_, rfl, HO.out.drewN _, below_drewN (Below.refl _ _) _⟩
  · rw [if_neg h0]
    simp only [if_neg h0] at HC
    obtain ⟨g, cap, rfl, hg, hlt, hc, hf⟩ := h.opened (by omega)
    obtain ⟨k, z, rfl⟩ : ∃ k z, l = k ++ [z] := ⟨l.dropLast, l.getLast (by intro e; simp [e] at h0), (List.dropLast_concat_getLast _).symm⟩
    have hz : (k ++ [z]).getLastD 0 = z := by simp
    rw [hz] at HC
    simp only [List.dropLast_concat, List.length_append, List.length_singleton] at *
    have HO := Lib.hid h
    have HO2 : Hid (OwnW w B (.slice (some ⟨g, 0, none⟩) k.length cap) k) := Lib.hid (by
      unfold OwnW at h ⊢
      rw [wU_snoc, List.length_append] at h
      exact ownsRow_pop (by simp) h)
    have hcap : k.length ≤ cap := by
      obtain ⟨_, ⟨e0, _⟩ | ⟨g', cap', cur, e0, _, _, h5, _⟩⟩ := h
      · cases e0
      · injection e0 with _ _ e3
        subst e3
        simp at h5; omega
    clear h hc hf h0 hz
    go_enter Try.func29, Try.ntmps29
    go_wp2_with (go_at_call 30; refine (HC.out _ HO.out).mono ?_; rintro e w' ⟨rfl, m, rfl⟩)
    go_ret3
    exact ⟨_, by simp, HO2.out.drewN _, below_drewN (Below.refl _ _) _⟩

theorem wU_oneCell : OneCell wU := fun _ => rfl
theorem wU_zero (w : World) : (zeroValue 29).run Try.prog w = .ok (wU 0) w := by
  have := Try.zeroValue29 w
  exact this

set_option maxHeartbeats 400000 in
theorem delete_first (g cap B x : Nat) (l : List Nat) (w : World) (h : OwnW w B (.slice (some ⟨g, 0, none⟩) (l.length + 1) cap) (x :: l)) (hB : B ≤ w.heap.size) :
    Calls Try.prog 41 #[.slice (some ⟨g, 0, none⟩) (l.length + 1) cap, .int .i64 0, .int .i64 1] w fun e w' => ∃ v', e = .returned v' ∧ OwnW w' B v' l ∧ Below B w w' := by
  obtain ⟨i0, hi0, hz0, hz1, hz2⟩ := info_parts info22
  have h1 := h
  unfold OwnW at h1
  have hlen : (x :: l).length = l.length + 1 := rfl
  obtain ⟨g', cap', e0, hg, hlt, hn, hm, hl, hH⟩ := Lib.holds_of_ownsRow h1 (by simp)
  cases e0
  have hsz : (x :: l).toArray.size = l.length + 1 := by simp
  have hC := Try.slices_Delete wU wU_oneCell 0 wU_zero i0 hi0 hz1 g 0 cap 0 1 (x :: l).toArray w hH (by rw [hsz]; omega) (by unfold maxLen at hm; omega) (by omega) (by rw [hsz]; omega)
  rw [hsz] at hC
  refine hC.mono ?_
  rintro e w' ⟨rfl, q, rfl⟩
  have e1 : l.length + 1 - (1 - 0) = l.length := by omega
  rw [e1]
  refine ⟨_, rfl, ?_, ?_⟩
  · have h2 := Lib.ownsRow_putRow (q := q) (k := l.length) (ys := ((x :: l).toArray.toList.take 0 ++ (x :: l).toArray.toList.drop 1 ++ List.replicate (1 - 0) 0)) h1 (by simp) (by simp)
    have e2 : ((x :: l).toArray.toList.take 0 ++ (x :: l).toArray.toList.drop 1 ++ List.replicate (1 - 0) 0).take l.length = l := by simp
    rw [e2] at h2
    exact h2
  · exact Lib.below_putRow (Below.refl _ _ |>.mono hB) hg
end Go.Proofs.Ytlcnhmijagddgaa
