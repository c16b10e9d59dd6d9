/- Walks of the laws NodePlaces and NodeApart. -/
import Derived.Test.YtgfmidpcgoadlaaDoorDN3
namespace Go.Proofs.YtgfmidpcgoadlaaDoor
open Go.RowKit

set_option maxHeartbeats 400000 in
theorem rowner_low (k i : Int) (w : World) (h : i < 2) :
    Calls Tryd.prog 19 #[.int .i64 k, .int .i64 i] w fun e w' => e = .returned (.int .i64 (-1)) ∧ w = w' := by
  go_enter Tryd.func19, Tryd.ntmps19
  go_wp2
  go_ret
  exact ⟨rfl, rfl⟩
set_option maxRecDepth 100000 in
set_option maxHeartbeats 400000 in
theorem rowner_any (k i : Int) (w : World) (h : 2 ≤ i) (h2 : i ≤ 1000) (h3 : 1 ≤ k) (h4 : k ≤ 32) :
    Calls Tryd.prog 19 #[.int .i64 k, .int .i64 i] w fun e w' => e = .returned (.int .i64 ((i - 2).tdiv k)) ∧ w = w' := by
  obtain ⟨a, rfl⟩ : ∃ a : Nat, i = a + 2 := ⟨(i - 2).toNat, by omega⟩
  obtain ⟨b, rfl⟩ : ∃ b : Nat, k = b := ⟨k.toNat, by omega⟩
  have e1 : ((a : Int) + 2 - 2) = a := by omega
  have hq : ((a : Int) + 2 - 2).tdiv b = ((a / b : Nat) : Int) := by rw [e1]; exact Int.ofNat_tdiv a b
  have hql : a / b ≤ a := Nat.div_le_self _ _
  rw [hq]
  have hw : wrap64 ((a : Int) / (b : Int)) = ((a / b : Nat) : Int) := by
    rw [← Int.natCast_ediv]; unfold wrap64; generalize a / b = q at *; omega
  have hk0 : ¬ ((b : Int) = 0) := by omega
  go_enter Tryd.func19, Tryd.ntmps19
  go_wp2
  go_ret
  exact ⟨ret_int hw, rfl⟩
theorem tdiv_nn {k i : Int} (h : 2 ≤ i) (h3 : 1 ≤ k) : 0 ≤ (i - 2).tdiv k := Int.tdiv_nonneg (by omega) (by omega)

set_option maxRecDepth 100000 in
set_option maxHeartbeats 2000000 in
theorem places_noq (n k i f : Int) (w : World) (hF : Fx w) (he : exB n k = false) :
    Calls Tryd.prog 4 #[.int .i64 n, .int .i64 k, .agg #[.int .i64 i, .int .i64 f]] w fun e w' => e = .returned (.bool true) ∧ Below w.heap.size w w' := by
  have hh : hasB n k i = false := by unfold hasB; rw [he]; rfl
  have HA : Hid (∀ W, Fx W → Calls Tryd.prog 13 #[.int .i64 n, .int .i64 k, .int .i64 i, .int .i64 f] W fun e w' => e = .returned (.tuple #[.int .i64 0, .bool false]) ∧ W = w') := Lib.hid (fun W hW => (fun _ => at_no1 n k i f W hh) hW)
  have HO : Hid (∀ W, Calls Tryd.prog 14 #[.int .i64 n, .int .i64 k, .int .i64 i] W fun e w' => e = .returned (.tuple #[.int .i64 0, .bool false]) ∧ W = w') := Lib.hid (fun W => by
    have h1 := nowner_any n k i W
    have h3 : ¬ (2 ≤ i ∧ hasB n k i = true) := by rw [hh]; simp
    rwa [if_neg h3, decide_eq_false h3] at h1)
  have HR : Hid (∀ W, Calls Tryd.prog 15 #[.int .i64 n, .int .i64 k] W fun e w' => e = .returned (.bool false) ∧ W = w') := Lib.hid (fun W => he ▸ rnright_any n k W)
  have HS : Hid (∀ W, Calls Tryd.prog 16 #[.int .i64 n, .int .i64 k] W fun e w' => e = .returned (.int .i64 0) ∧ W = w') := Lib.hid (fun W => nsize_no n k W he)
  have HB : Hid (Below w.heap.size w (w.alloc (.cells #[.int .i64 i, .int .i64 f] 34))) := Lib.hid ((Below.refl _ _).alloc (Nat.le_refl _) _)
  have HFa : Hid (Fx (w.alloc (.cells #[.int .i64 i, .int .i64 f] 34))) := Lib.hid (hF.below HB.out hF.lt)
  clear hF he hh
  go_enter Tryd.func4, Tryd.ntmps4
  go_wp2_with (first
    | (go_at_call 13; (with_reducible refine (HA.out _ HFa.out).mono ?_); rintro e w1 ⟨rfl, rfl⟩)
    | (go_at_call 14; (with_reducible refine (HO.out _).mono ?_); rintro e w1 ⟨rfl, rfl⟩)
    | (go_at_call 15; (with_reducible refine (HR.out _).mono ?_); rintro e w1 ⟨rfl, rfl⟩)
    | (go_at_call 16; (with_reducible refine (HS.out _).mono ?_); rintro e w1 ⟨rfl, rfl⟩)
    | (go_at_call 12; (refine (nknown_any _ HFa.out).mono ?_); rintro e w2 ⟨rfl, hb⟩; (have HBz := Lib.hid (HB.out.trans (hb.mono HB.out.size))); clear hb))
  go_ret
  exact ⟨rfl, HBz.out⟩

set_option maxRecDepth 100000 in
set_option maxHeartbeats 2000000 in
theorem places_non (n k i f : Int) (w : World) (hF : Fx w) (he : exB n k = true) (h : hasB n k i = false) :
    Calls Tryd.prog 4 #[.int .i64 n, .int .i64 k, .agg #[.int .i64 i, .int .i64 f]] w fun e w' => e = .returned (.bool true) ∧ Below w.heap.size w w' := by
  have hh := h
  have HA : Hid (∀ W, Fx W → Calls Tryd.prog 13 #[.int .i64 n, .int .i64 k, .int .i64 i, .int .i64 f] W fun e w' => e = .returned (.tuple #[.int .i64 0, .bool false]) ∧ W = w') := Lib.hid (fun W hW => (fun _ => at_no1 n k i f W hh) hW)
  have HO : Hid (∀ W, Calls Tryd.prog 14 #[.int .i64 n, .int .i64 k, .int .i64 i] W fun e w' => e = .returned (.tuple #[.int .i64 0, .bool false]) ∧ W = w') := Lib.hid (fun W => by
    have h1 := nowner_any n k i W
    have h3 : ¬ (2 ≤ i ∧ hasB n k i = true) := by rw [hh]; simp
    rwa [if_neg h3, decide_eq_false h3] at h1)
  have HR : Hid (∀ W, Calls Tryd.prog 15 #[.int .i64 n, .int .i64 k] W fun e w' => e = .returned (.bool true) ∧ W = w') := Lib.hid (fun W => he ▸ rnright_any n k W)
  have HS : Hid (∀ W, Calls Tryd.prog 16 #[.int .i64 n, .int .i64 k] W fun e w' => e = .returned (.int .i64 (nSize n k)) ∧ W = w') := Lib.hid (fun W => nsize_yes n k W he)
  have HT : Hid (∀ W, Calls Tryd.prog 17 #[.int .i64 n, .int .i64 k] W fun e w' => e = .returned (.int .i64 (nSize n k)) ∧ W = w') := Lib.hid (fun W => rsize_any n k W he)
  have HI : Hid (∀ W, Calls Tryd.prog 18 #[.int .i64 n, .int .i64 k, .int .i64 i] W fun e w' => e = .returned (.bool false) ∧ W = w') := Lib.hid (fun W => hh ▸ ris_any n k i W he)
  generalize nSize n k = Z at *
  have HB : Hid (Below w.heap.size w (w.alloc (.cells #[.int .i64 i, .int .i64 f] 34))) := Lib.hid ((Below.refl _ _).alloc (Nat.le_refl _) _)
  have HFa : Hid (Fx (w.alloc (.cells #[.int .i64 i, .int .i64 f] 34))) := Lib.hid (hF.below HB.out hF.lt)
  clear hF h hh he
  go_enter Tryd.func4, Tryd.ntmps4
  go_wp2_with (first
    | (go_at_call 13; (with_reducible refine (HA.out _ HFa.out).mono ?_); rintro e w1 ⟨rfl, rfl⟩)
    | (go_at_call 14; (with_reducible refine (HO.out _).mono ?_); rintro e w1 ⟨rfl, rfl⟩)
    | (go_at_call 15; (with_reducible refine (HR.out _).mono ?_); rintro e w1 ⟨rfl, rfl⟩)
    | (go_at_call 16; (with_reducible refine (HS.out _).mono ?_); rintro e w1 ⟨rfl, rfl⟩)
    | (go_at_call 17; (with_reducible refine (HT.out _).mono ?_); rintro e w1 ⟨rfl, rfl⟩)
    | (go_at_call 18; (with_reducible refine (HI.out _).mono ?_); rintro e w1 ⟨rfl, rfl⟩)
    | (go_at_call 12; (refine (nknown_any _ HFa.out).mono ?_); rintro e w2 ⟨rfl, hb⟩; (have HBz := Lib.hid (HB.out.trans (hb.mono HB.out.size))); clear hb))
  go_ret
  exact ⟨rfl, HBz.out⟩

set_option maxRecDepth 100000 in
set_option maxHeartbeats 2000000 in
theorem places_nof1 (n k i f : Int) (w : World) (hF : Fx w) (h : hasB n k i = true) (hf : ¬ (0 ≤ f ∧ f ≤ 3)) (h2 : ¬ 2 ≤ i) :
    Calls Tryd.prog 4 #[.int .i64 n, .int .i64 k, .agg #[.int .i64 i, .int .i64 f]] w fun e w' => e = .returned (.bool true) ∧ Below w.heap.size w w' := by
  obtain ⟨he, hi1, hi2⟩ := hasB_true h
  obtain ⟨a1, a2, a3, a4⟩ := exB_true he
  have hb := nk_le he
  have HA : Hid (∀ W, Fx W → Calls Tryd.prog 13 #[.int .i64 n, .int .i64 k, .int .i64 i, .int .i64 f] W fun e w' => e = .returned (.tuple #[.int .i64 0, .bool false]) ∧ W = w') := Lib.hid (fun W hW => at_no2 n k i f W hW h hf)
  have HO : Hid (∀ W, Calls Tryd.prog 14 #[.int .i64 n, .int .i64 k, .int .i64 i] W fun e w' => e = .returned (.tuple #[.int .i64 0, .bool false]) ∧ W = w') := Lib.hid (fun W => by
    have h1 := nowner_any n k i W
    have h3 : ¬ (2 ≤ i ∧ hasB n k i = true) := by omega
    rwa [if_neg h3, decide_eq_false h3] at h1)
  have HR : Hid (∀ W, Calls Tryd.prog 15 #[.int .i64 n, .int .i64 k] W fun e w' => e = .returned (.bool true) ∧ W = w') := Lib.hid (fun W => he ▸ rnright_any n k W)
  have HS : Hid (∀ W, Calls Tryd.prog 16 #[.int .i64 n, .int .i64 k] W fun e w' => e = .returned (.int .i64 (nSize n k)) ∧ W = w') := Lib.hid (fun W => nsize_yes n k W he)
  have HT : Hid (∀ W, Calls Tryd.prog 17 #[.int .i64 n, .int .i64 k] W fun e w' => e = .returned (.int .i64 (nSize n k)) ∧ W = w') := Lib.hid (fun W => rsize_any n k W he)
  have HI : Hid (∀ W, Calls Tryd.prog 18 #[.int .i64 n, .int .i64 k, .int .i64 i] W fun e w' => e = .returned (.bool true) ∧ W = w') := Lib.hid (fun W => h ▸ ris_any n k i W he)
  have HW : Hid (∀ W, Calls Tryd.prog 19 #[.int .i64 k, .int .i64 i] W fun e w' => e = .returned (.int .i64 (-1)) ∧ W = w') := Lib.hid (fun W => rowner_low k i W (by omega))
  generalize nSize n k = Z at *
  have f1 : f < 0 ∨ 3 < f := by omega
  have HB : Hid (Below w.heap.size w (w.alloc (.cells #[.int .i64 i, .int .i64 f] 34))) := Lib.hid ((Below.refl _ _).alloc (Nat.le_refl _) _)
  have HFa : Hid (Fx (w.alloc (.cells #[.int .i64 i, .int .i64 f] 34))) := Lib.hid (hF.below HB.out hF.lt)
  clear hF h he hb hi1 hi2 hf
  rcases f1 with f1 | f1
  · go_enter Tryd.func4, Tryd.ntmps4
    go_wp2_with (first
      | (go_at_call 13; (with_reducible refine (HA.out _ HFa.out).mono ?_); rintro e w1 ⟨rfl, rfl⟩)
      | (go_at_call 14; (with_reducible refine (HO.out _).mono ?_); rintro e w1 ⟨rfl, rfl⟩)
      | (go_at_call 15; (with_reducible refine (HR.out _).mono ?_); rintro e w1 ⟨rfl, rfl⟩)
      | (go_at_call 16; (with_reducible refine (HS.out _).mono ?_); rintro e w1 ⟨rfl, rfl⟩)
      | (go_at_call 17; (with_reducible refine (HT.out _).mono ?_); rintro e w1 ⟨rfl, rfl⟩)
      | (go_at_call 18; (with_reducible refine (HI.out _).mono ?_); rintro e w1 ⟨rfl, rfl⟩)
      | (go_at_call 19; (with_reducible refine (HW.out _).mono ?_); rintro e w1 ⟨rfl, rfl⟩)
      | (go_at_call 12; (refine (nknown_any _ HFa.out).mono ?_); rintro e w2 ⟨rfl, hb⟩; (have HBz := Lib.hid (HB.out.trans (hb.mono HB.out.size))); clear hb))
    go_ret
    exact ⟨rfl, HBz.out⟩
  · go_enter Tryd.func4, Tryd.ntmps4
    go_wp2_with (first
      | (go_at_call 13; (with_reducible refine (HA.out _ HFa.out).mono ?_); rintro e w1 ⟨rfl, rfl⟩)
      | (go_at_call 14; (with_reducible refine (HO.out _).mono ?_); rintro e w1 ⟨rfl, rfl⟩)
      | (go_at_call 15; (with_reducible refine (HR.out _).mono ?_); rintro e w1 ⟨rfl, rfl⟩)
      | (go_at_call 16; (with_reducible refine (HS.out _).mono ?_); rintro e w1 ⟨rfl, rfl⟩)
      | (go_at_call 17; (with_reducible refine (HT.out _).mono ?_); rintro e w1 ⟨rfl, rfl⟩)
      | (go_at_call 18; (with_reducible refine (HI.out _).mono ?_); rintro e w1 ⟨rfl, rfl⟩)
      | (go_at_call 19; (with_reducible refine (HW.out _).mono ?_); rintro e w1 ⟨rfl, rfl⟩)
      | (go_at_call 12; (refine (nknown_any _ HFa.out).mono ?_); rintro e w2 ⟨rfl, hb⟩; (have HBz := Lib.hid (HB.out.trans (hb.mono HB.out.size))); clear hb))
    go_ret
    exact ⟨rfl, HBz.out⟩

set_option maxRecDepth 100000 in
set_option maxHeartbeats 2000000 in
theorem places_nof2 (n k i f : Int) (w : World) (hF : Fx w) (h : hasB n k i = true) (hf : ¬ (0 ≤ f ∧ f ≤ 3)) (h2 : 2 ≤ i) :
    Calls Tryd.prog 4 #[.int .i64 n, .int .i64 k, .agg #[.int .i64 i, .int .i64 f]] w fun e w' => e = .returned (.bool true) ∧ Below w.heap.size w w' := by
  obtain ⟨he, hi1, hi2⟩ := hasB_true h
  obtain ⟨a1, a2, a3, a4⟩ := exB_true he
  have hb := nk_le he
  have HA : Hid (∀ W, Fx W → Calls Tryd.prog 13 #[.int .i64 n, .int .i64 k, .int .i64 i, .int .i64 f] W fun e w' => e = .returned (.tuple #[.int .i64 0, .bool false]) ∧ W = w') := Lib.hid (fun W hW => at_no2 n k i f W hW h hf)
  have HO : Hid (∀ W, Calls Tryd.prog 14 #[.int .i64 n, .int .i64 k, .int .i64 i] W fun e w' => e = .returned (.tuple #[.int .i64 ((i - 2).tdiv k), .bool true]) ∧ W = w') := Lib.hid (fun W => by
    have h1 := nowner_any n k i W
    rwa [if_pos ⟨h2, h⟩, decide_eq_true (show 2 ≤ i ∧ hasB n k i = true from ⟨h2, h⟩)] at h1)
  have HR : Hid (∀ W, Calls Tryd.prog 15 #[.int .i64 n, .int .i64 k] W fun e w' => e = .returned (.bool true) ∧ W = w') := Lib.hid (fun W => he ▸ rnright_any n k W)
  have HS : Hid (∀ W, Calls Tryd.prog 16 #[.int .i64 n, .int .i64 k] W fun e w' => e = .returned (.int .i64 (nSize n k)) ∧ W = w') := Lib.hid (fun W => nsize_yes n k W he)
  have HT : Hid (∀ W, Calls Tryd.prog 17 #[.int .i64 n, .int .i64 k] W fun e w' => e = .returned (.int .i64 (nSize n k)) ∧ W = w') := Lib.hid (fun W => rsize_any n k W he)
  have HI : Hid (∀ W, Calls Tryd.prog 18 #[.int .i64 n, .int .i64 k, .int .i64 i] W fun e w' => e = .returned (.bool true) ∧ W = w') := Lib.hid (fun W => h ▸ ris_any n k i W he)
  have HW : Hid (∀ W, Calls Tryd.prog 19 #[.int .i64 k, .int .i64 i] W fun e w' => e = .returned (.int .i64 ((i - 2).tdiv k)) ∧ W = w') := Lib.hid (fun W => rowner_any k i W h2 (by omega) a3 a4)
  have hnn := tdiv_nn h2 a3
  generalize (i - 2).tdiv k = Q at *
  generalize nSize n k = Z at *
  have f1 : f < 0 ∨ 3 < f := by omega
  have HB : Hid (Below w.heap.size w (w.alloc (.cells #[.int .i64 i, .int .i64 f] 34))) := Lib.hid ((Below.refl _ _).alloc (Nat.le_refl _) _)
  have HFa : Hid (Fx (w.alloc (.cells #[.int .i64 i, .int .i64 f] 34))) := Lib.hid (hF.below HB.out hF.lt)
  clear hF h he hb hi1 hi2 hf
  rcases f1 with f1 | f1
  · go_enter Tryd.func4, Tryd.ntmps4
    go_wp2_with (first
      | (go_at_call 13; (with_reducible refine (HA.out _ HFa.out).mono ?_); rintro e w1 ⟨rfl, rfl⟩)
      | (go_at_call 14; (with_reducible refine (HO.out _).mono ?_); rintro e w1 ⟨rfl, rfl⟩)
      | (go_at_call 15; (with_reducible refine (HR.out _).mono ?_); rintro e w1 ⟨rfl, rfl⟩)
      | (go_at_call 16; (with_reducible refine (HS.out _).mono ?_); rintro e w1 ⟨rfl, rfl⟩)
      | (go_at_call 17; (with_reducible refine (HT.out _).mono ?_); rintro e w1 ⟨rfl, rfl⟩)
      | (go_at_call 18; (with_reducible refine (HI.out _).mono ?_); rintro e w1 ⟨rfl, rfl⟩)
      | (go_at_call 19; (with_reducible refine (HW.out _).mono ?_); rintro e w1 ⟨rfl, rfl⟩)
      | (go_at_call 12; (refine (nknown_any _ HFa.out).mono ?_); rintro e w2 ⟨rfl, hb⟩; (have HBz := Lib.hid (HB.out.trans (hb.mono HB.out.size))); clear hb))
    go_ret
    exact ⟨rfl, HBz.out⟩
  · go_enter Tryd.func4, Tryd.ntmps4
    go_wp2_with (first
      | (go_at_call 13; (with_reducible refine (HA.out _ HFa.out).mono ?_); rintro e w1 ⟨rfl, rfl⟩)
      | (go_at_call 14; (with_reducible refine (HO.out _).mono ?_); rintro e w1 ⟨rfl, rfl⟩)
      | (go_at_call 15; (with_reducible refine (HR.out _).mono ?_); rintro e w1 ⟨rfl, rfl⟩)
      | (go_at_call 16; (with_reducible refine (HS.out _).mono ?_); rintro e w1 ⟨rfl, rfl⟩)
      | (go_at_call 17; (with_reducible refine (HT.out _).mono ?_); rintro e w1 ⟨rfl, rfl⟩)
      | (go_at_call 18; (with_reducible refine (HI.out _).mono ?_); rintro e w1 ⟨rfl, rfl⟩)
      | (go_at_call 19; (with_reducible refine (HW.out _).mono ?_); rintro e w1 ⟨rfl, rfl⟩)
      | (go_at_call 12; (refine (nknown_any _ HFa.out).mono ?_); rintro e w2 ⟨rfl, hb⟩; (have HBz := Lib.hid (HB.out.trans (hb.mono HB.out.size))); clear hb))
    go_ret
    exact ⟨rfl, HBz.out⟩

set_option maxRecDepth 100000 in
set_option maxHeartbeats 2000000 in
theorem places_f1 (n k i f : Int) (w : World) (hF : Fx w) (h : hasB n k i = true) (hf : 0 ≤ f ∧ f ≤ 3) (h2 : ¬ 2 ≤ i) :
    Calls Tryd.prog 4 #[.int .i64 n, .int .i64 k, .agg #[.int .i64 i, .int .i64 f]] w fun e w' => e = .returned (.bool true) ∧ Below w.heap.size w w' := by
  obtain ⟨he, hi1, hi2⟩ := hasB_true h
  obtain ⟨a1, a2, a3, a4⟩ := exB_true he
  have hb := nk_le he
  have HA : Hid (∀ W, Fx W → Calls Tryd.prog 13 #[.int .i64 n, .int .i64 k, .int .i64 i, .int .i64 f] W fun e w' => e = .returned (.tuple #[.int .i64 (atV n i f), .bool true]) ∧ W = w') := Lib.hid (fun W hW => at_yes n k i f W hW h hf.1 hf.2)
  have HO : Hid (∀ W, Calls Tryd.prog 14 #[.int .i64 n, .int .i64 k, .int .i64 i] W fun e w' => e = .returned (.tuple #[.int .i64 0, .bool false]) ∧ W = w') := Lib.hid (fun W => by
    have h1 := nowner_any n k i W
    have h3 : ¬ (2 ≤ i ∧ hasB n k i = true) := by omega
    rwa [if_neg h3, decide_eq_false h3] at h1)
  have HR : Hid (∀ W, Calls Tryd.prog 15 #[.int .i64 n, .int .i64 k] W fun e w' => e = .returned (.bool true) ∧ W = w') := Lib.hid (fun W => he ▸ rnright_any n k W)
  have HS : Hid (∀ W, Calls Tryd.prog 16 #[.int .i64 n, .int .i64 k] W fun e w' => e = .returned (.int .i64 (nSize n k)) ∧ W = w') := Lib.hid (fun W => nsize_yes n k W he)
  have HT : Hid (∀ W, Calls Tryd.prog 17 #[.int .i64 n, .int .i64 k] W fun e w' => e = .returned (.int .i64 (nSize n k)) ∧ W = w') := Lib.hid (fun W => rsize_any n k W he)
  have HI : Hid (∀ W, Calls Tryd.prog 18 #[.int .i64 n, .int .i64 k, .int .i64 i] W fun e w' => e = .returned (.bool true) ∧ W = w') := Lib.hid (fun W => h ▸ ris_any n k i W he)
  have HW : Hid (∀ W, Calls Tryd.prog 19 #[.int .i64 k, .int .i64 i] W fun e w' => e = .returned (.int .i64 (-1)) ∧ W = w') := Lib.hid (fun W => rowner_low k i W (by omega))
  have HAT : Hid (∀ W, Calls Tryd.prog 20 #[.int .i64 n, .int .i64 i, .int .i64 f] W fun e w' => e = .returned (.int .i64 (atV n i f)) ∧ W = w') := Lib.hid (fun W => rat_any n i f W a1 a2 hi1 (by omega) hf.1 hf.2)
  have hlt : atV n i f < nSize n k := by unfold atV nSize; omega
  generalize nSize n k = Z at *
  generalize atV n i f = A at *
  have f1 := hf.1
  have f2 := hf.2
  have HB : Hid (Below w.heap.size w (w.alloc (.cells #[.int .i64 i, .int .i64 f] 34))) := Lib.hid ((Below.refl _ _).alloc (Nat.le_refl _) _)
  have HFa : Hid (Fx (w.alloc (.cells #[.int .i64 i, .int .i64 f] 34))) := Lib.hid (hF.below HB.out hF.lt)
  clear hF h he hb hi1 hi2 hf
  go_enter Tryd.func4, Tryd.ntmps4
  go_wp2_with (first
    | (go_at_call 13; (with_reducible refine (HA.out _ HFa.out).mono ?_); rintro e w1 ⟨rfl, rfl⟩)
    | (go_at_call 14; (with_reducible refine (HO.out _).mono ?_); rintro e w1 ⟨rfl, rfl⟩)
    | (go_at_call 15; (with_reducible refine (HR.out _).mono ?_); rintro e w1 ⟨rfl, rfl⟩)
    | (go_at_call 16; (with_reducible refine (HS.out _).mono ?_); rintro e w1 ⟨rfl, rfl⟩)
    | (go_at_call 17; (with_reducible refine (HT.out _).mono ?_); rintro e w1 ⟨rfl, rfl⟩)
    | (go_at_call 18; (with_reducible refine (HI.out _).mono ?_); rintro e w1 ⟨rfl, rfl⟩)
    | (go_at_call 19; (with_reducible refine (HW.out _).mono ?_); rintro e w1 ⟨rfl, rfl⟩)
    | (go_at_call 20; (with_reducible refine (HAT.out _).mono ?_); rintro e w1 ⟨rfl, rfl⟩)
    | (go_at_call 12; (refine (nknown_any _ HFa.out).mono ?_); rintro e w2 ⟨rfl, hb⟩; (have HBz := Lib.hid (HB.out.trans (hb.mono HB.out.size))); clear hb))
  go_ret
  exact ⟨rfl, HBz.out⟩

set_option maxRecDepth 100000 in
set_option maxHeartbeats 2000000 in
theorem places_f2 (n k i f : Int) (w : World) (hF : Fx w) (h : hasB n k i = true) (hf : 0 ≤ f ∧ f ≤ 3) (h2 : 2 ≤ i) :
    Calls Tryd.prog 4 #[.int .i64 n, .int .i64 k, .agg #[.int .i64 i, .int .i64 f]] w fun e w' => e = .returned (.bool true) ∧ Below w.heap.size w w' := by
  obtain ⟨he, hi1, hi2⟩ := hasB_true h
  obtain ⟨a1, a2, a3, a4⟩ := exB_true he
  have hb := nk_le he
  have HA : Hid (∀ W, Fx W → Calls Tryd.prog 13 #[.int .i64 n, .int .i64 k, .int .i64 i, .int .i64 f] W fun e w' => e = .returned (.tuple #[.int .i64 (atV n i f), .bool true]) ∧ W = w') := Lib.hid (fun W hW => at_yes n k i f W hW h hf.1 hf.2)
  have HO : Hid (∀ W, Calls Tryd.prog 14 #[.int .i64 n, .int .i64 k, .int .i64 i] W fun e w' => e = .returned (.tuple #[.int .i64 ((i - 2).tdiv k), .bool true]) ∧ W = w') := Lib.hid (fun W => by
    have h1 := nowner_any n k i W
    rwa [if_pos ⟨h2, h⟩, decide_eq_true (show 2 ≤ i ∧ hasB n k i = true from ⟨h2, h⟩)] at h1)
  have HR : Hid (∀ W, Calls Tryd.prog 15 #[.int .i64 n, .int .i64 k] W fun e w' => e = .returned (.bool true) ∧ W = w') := Lib.hid (fun W => he ▸ rnright_any n k W)
  have HS : Hid (∀ W, Calls Tryd.prog 16 #[.int .i64 n, .int .i64 k] W fun e w' => e = .returned (.int .i64 (nSize n k)) ∧ W = w') := Lib.hid (fun W => nsize_yes n k W he)
  have HT : Hid (∀ W, Calls Tryd.prog 17 #[.int .i64 n, .int .i64 k] W fun e w' => e = .returned (.int .i64 (nSize n k)) ∧ W = w') := Lib.hid (fun W => rsize_any n k W he)
  have HI : Hid (∀ W, Calls Tryd.prog 18 #[.int .i64 n, .int .i64 k, .int .i64 i] W fun e w' => e = .returned (.bool true) ∧ W = w') := Lib.hid (fun W => h ▸ ris_any n k i W he)
  have HW : Hid (∀ W, Calls Tryd.prog 19 #[.int .i64 k, .int .i64 i] W fun e w' => e = .returned (.int .i64 ((i - 2).tdiv k)) ∧ W = w') := Lib.hid (fun W => rowner_any k i W h2 (by omega) a3 a4)
  have HAT : Hid (∀ W, Calls Tryd.prog 20 #[.int .i64 n, .int .i64 i, .int .i64 f] W fun e w' => e = .returned (.int .i64 (atV n i f)) ∧ W = w') := Lib.hid (fun W => rat_any n i f W a1 a2 hi1 (by omega) hf.1 hf.2)
  have hlt : atV n i f < nSize n k := by unfold atV nSize; omega
  have hnn := tdiv_nn h2 a3
  generalize (i - 2).tdiv k = Q at *
  generalize nSize n k = Z at *
  generalize atV n i f = A at *
  have f1 := hf.1
  have f2 := hf.2
  have HB : Hid (Below w.heap.size w (w.alloc (.cells #[.int .i64 i, .int .i64 f] 34))) := Lib.hid ((Below.refl _ _).alloc (Nat.le_refl _) _)
  have HFa : Hid (Fx (w.alloc (.cells #[.int .i64 i, .int .i64 f] 34))) := Lib.hid (hF.below HB.out hF.lt)
  clear hF h he hb hi1 hi2 hf
  go_enter Tryd.func4, Tryd.ntmps4
  go_wp2_with (first
    | (go_at_call 13; (with_reducible refine (HA.out _ HFa.out).mono ?_); rintro e w1 ⟨rfl, rfl⟩)
    | (go_at_call 14; (with_reducible refine (HO.out _).mono ?_); rintro e w1 ⟨rfl, rfl⟩)
    | (go_at_call 15; (with_reducible refine (HR.out _).mono ?_); rintro e w1 ⟨rfl, rfl⟩)
    | (go_at_call 16; (with_reducible refine (HS.out _).mono ?_); rintro e w1 ⟨rfl, rfl⟩)
    | (go_at_call 17; (with_reducible refine (HT.out _).mono ?_); rintro e w1 ⟨rfl, rfl⟩)
    | (go_at_call 18; (with_reducible refine (HI.out _).mono ?_); rintro e w1 ⟨rfl, rfl⟩)
    | (go_at_call 19; (with_reducible refine (HW.out _).mono ?_); rintro e w1 ⟨rfl, rfl⟩)
    | (go_at_call 20; (with_reducible refine (HAT.out _).mono ?_); rintro e w1 ⟨rfl, rfl⟩)
    | (go_at_call 12; (refine (nknown_any _ HFa.out).mono ?_); rintro e w2 ⟨rfl, hb⟩; (have HBz := Lib.hid (HB.out.trans (hb.mono HB.out.size))); clear hb))
  go_ret
  exact ⟨rfl, HBz.out⟩

theorem places_walk (n k i f : Int) (w : World) (hF : Fx w) :
    Calls Tryd.prog 4 #[.int .i64 n, .int .i64 k, .agg #[.int .i64 i, .int .i64 f]] w fun e w' => e = .returned (.bool true) ∧ Below w.heap.size w w' := by
  cases he : exB n k with
  | false => exact places_noq n k i f w hF he
  | true =>
    cases h : hasB n k i with
    | false => exact places_non n k i f w hF he h
    | true =>
      by_cases hf : 0 ≤ f ∧ f ≤ 3
      · by_cases h2 : 2 ≤ i
        · exact places_f2 n k i f w hF h hf h2
        · exact places_f1 n k i f w hF h hf h2
      · by_cases h2 : 2 ≤ i
        · exact places_nof2 n k i f w hF h hf h2
        · exact places_nof1 n k i f w hF h hf h2

theorem atB_true {n k i f : Int} (h : atB n k i f = true) : hasB n k i = true ∧ 0 ≤ f ∧ f ≤ 3 := by
  unfold atB at h; rw [Bool.and_eq_true, decide_eq_true_eq] at h; exact h

set_option maxRecDepth 100000 in
set_option maxHeartbeats 2000000 in
theorem apart_no1 (n k i f j g : Int) (w : World) (hF : Fx w) (h : atB n k i f = false) :
    Calls Tryd.prog 5 #[.int .i64 n, .int .i64 k, .agg #[.int .i64 i, .int .i64 f, .int .i64 j, .int .i64 g]] w fun e w' => e = .returned (.bool true) ∧ Below w.heap.size w w' := by
  have HA : Hid (∀ W, Fx W → Calls Tryd.prog 13 #[.int .i64 n, .int .i64 k, .int .i64 i, .int .i64 f] W fun e w' => e = .returned (.tuple #[.int .i64 0, .bool false]) ∧ W = w') := Lib.hid (fun W hW => by
    have h1 := at_any n k i f W hW
    rwa [h, if_neg (by decide)] at h1)
  have HC := Lib.hid (fun W (hW : Fx W) => at_any n k j g W hW)
  generalize (if atB n k j g = true then atV n j g else 0) = B at *
  generalize atB n k j g = b at *
  have HB : Hid (Below w.heap.size w (w.alloc (.cells #[.int .i64 i, .int .i64 f, .int .i64 j, .int .i64 g] 43))) := Lib.hid ((Below.refl _ _).alloc (Nat.le_refl _) _)
  have HFa : Hid (Fx (w.alloc (.cells #[.int .i64 i, .int .i64 f, .int .i64 j, .int .i64 g] 43))) := Lib.hid (hF.below HB.out hF.lt)
  clear hF
  clear h
  go_enter Tryd.func5, Tryd.ntmps5
  go_wp2_with (first
    | (go_at_call 13; (with_reducible refine (HA.out _ HFa.out).mono ?_); rintro e w1 ⟨rfl, rfl⟩)
    | (go_at_call 13; (with_reducible refine (HC.out _ HFa.out).mono ?_); rintro e w1 ⟨rfl, rfl⟩)
    | (go_at_call 12; (refine (nknown_any _ HFa.out).mono ?_); rintro e w2 ⟨rfl, hb⟩; (have HBz := Lib.hid (HB.out.trans (hb.mono HB.out.size))); clear hb))
  all_goals go_ret
  all_goals exact ⟨rfl, HBz.out⟩

set_option maxRecDepth 100000 in
set_option maxHeartbeats 2000000 in
theorem apart_no2 (n k i f j g : Int) (w : World) (hF : Fx w) (h : atB n k i f = true) (h2 : atB n k j g = false) :
    Calls Tryd.prog 5 #[.int .i64 n, .int .i64 k, .agg #[.int .i64 i, .int .i64 f, .int .i64 j, .int .i64 g]] w fun e w' => e = .returned (.bool true) ∧ Below w.heap.size w w' := by
  have HA : Hid (∀ W, Fx W → Calls Tryd.prog 13 #[.int .i64 n, .int .i64 k, .int .i64 i, .int .i64 f] W fun e w' => e = .returned (.tuple #[.int .i64 (atV n i f), .bool true]) ∧ W = w') := Lib.hid (fun W hW => by
    have h1 := at_any n k i f W hW
    rwa [h, if_pos rfl] at h1)
  have HC : Hid (∀ W, Fx W → Calls Tryd.prog 13 #[.int .i64 n, .int .i64 k, .int .i64 j, .int .i64 g] W fun e w' => e = .returned (.tuple #[.int .i64 0, .bool false]) ∧ W = w') := Lib.hid (fun W hW => by
    have h1 := at_any n k j g W hW
    rwa [h2, if_neg (by decide)] at h1)
  generalize atV n i f = A at *
  have HB : Hid (Below w.heap.size w (w.alloc (.cells #[.int .i64 i, .int .i64 f, .int .i64 j, .int .i64 g] 43))) := Lib.hid ((Below.refl _ _).alloc (Nat.le_refl _) _)
  have HFa : Hid (Fx (w.alloc (.cells #[.int .i64 i, .int .i64 f, .int .i64 j, .int .i64 g] 43))) := Lib.hid (hF.below HB.out hF.lt)
  clear hF
  clear h h2
  go_enter Tryd.func5, Tryd.ntmps5
  go_wp2_with (first
    | (go_at_call 13; (with_reducible refine (HA.out _ HFa.out).mono ?_); rintro e w1 ⟨rfl, rfl⟩)
    | (go_at_call 13; (with_reducible refine (HC.out _ HFa.out).mono ?_); rintro e w1 ⟨rfl, rfl⟩)
    | (go_at_call 12; (refine (nknown_any _ HFa.out).mono ?_); rintro e w2 ⟨rfl, hb⟩; (have HBz := Lib.hid (HB.out.trans (hb.mono HB.out.size))); clear hb))
  all_goals go_ret
  all_goals exact ⟨rfl, HBz.out⟩

set_option maxRecDepth 100000 in
set_option maxHeartbeats 2000000 in
theorem apart_same (n k i f j g : Int) (w : World) (hF : Fx w) (h : atB n k i f = true) (h2 : atB n k j g = true) (e1 : i = j) (e2 : f = g) :
    Calls Tryd.prog 5 #[.int .i64 n, .int .i64 k, .agg #[.int .i64 i, .int .i64 f, .int .i64 j, .int .i64 g]] w fun e w' => e = .returned (.bool true) ∧ Below w.heap.size w w' := by
  subst e1 e2
  obtain ⟨r1, f1, f2⟩ := atB_true h
  obtain ⟨r2, g1, g2⟩ := atB_true h2
  obtain ⟨a1, a2, a3, a4⟩ := at_pre r1
  obtain ⟨b1, b2, b3, b4⟩ := at_pre r2
  have hA : 2 + n ≤ atV n i f ∧ atV n i f ≤ 100000 := by unfold atV; omega
  have hB : 2 + n ≤ atV n i f ∧ atV n i f ≤ 100000 := by unfold atV; omega
  have HA : Hid (∀ W, Fx W → Calls Tryd.prog 13 #[.int .i64 n, .int .i64 k, .int .i64 i, .int .i64 f] W fun e w' => e = .returned (.tuple #[.int .i64 (atV n i f), .bool true]) ∧ W = w') := Lib.hid (fun W hW => by
    have h1 := at_any n k i f W hW
    rwa [h, if_pos rfl] at h1)
  have HC : Hid (∀ W, Fx W → Calls Tryd.prog 13 #[.int .i64 n, .int .i64 k, .int .i64 i, .int .i64 f] W fun e w' => e = .returned (.tuple #[.int .i64 (atV n i f), .bool true]) ∧ W = w') := Lib.hid (fun W hW => by
    have h1 := at_any n k i f W hW
    rwa [h2, if_pos rfl] at h1)
  generalize atV n i f = A at *
  clear h h2 r1 r2
  have HB : Hid (Below w.heap.size w (w.alloc (.cells #[.int .i64 i, .int .i64 f, .int .i64 i, .int .i64 f] 43))) := Lib.hid ((Below.refl _ _).alloc (Nat.le_refl _) _)
  have HFa : Hid (Fx (w.alloc (.cells #[.int .i64 i, .int .i64 f, .int .i64 i, .int .i64 f] 43))) := Lib.hid (hF.below HB.out hF.lt)
  clear hF
  go_enter Tryd.func5, Tryd.ntmps5
  go_wp2_with (first
    | (go_at_call 13; (with_reducible refine (HA.out _ HFa.out).mono ?_); rintro e w1 ⟨rfl, rfl⟩)
    | (go_at_call 13; (with_reducible refine (HC.out _ HFa.out).mono ?_); rintro e w1 ⟨rfl, rfl⟩)
    | (go_at_call 12; (refine (nknown_any _ HFa.out).mono ?_); rintro e w2 ⟨rfl, hb⟩; (have HBz := Lib.hid (HB.out.trans (hb.mono HB.out.size))); clear hb))
  all_goals go_ret
  all_goals exact ⟨rfl, HBz.out⟩

set_option maxRecDepth 100000 in
set_option maxHeartbeats 2000000 in
theorem apart_i (n k i f j g : Int) (w : World) (hF : Fx w) (h : atB n k i f = true) (h2 : atB n k j g = true) (e1 : ¬ i = j) :
    Calls Tryd.prog 5 #[.int .i64 n, .int .i64 k, .agg #[.int .i64 i, .int .i64 f, .int .i64 j, .int .i64 g]] w fun e w' => e = .returned (.bool true) ∧ Below w.heap.size w w' := by
  obtain ⟨r1, f1, f2⟩ := atB_true h
  obtain ⟨r2, g1, g2⟩ := atB_true h2
  obtain ⟨a1, a2, a3, a4⟩ := at_pre r1
  obtain ⟨b1, b2, b3, b4⟩ := at_pre r2
  have hA : 2 + n ≤ atV n i f ∧ atV n i f ≤ 100000 := by unfold atV; omega
  have hB : 2 + n ≤ atV n j g ∧ atV n j g ≤ 100000 := by unfold atV; omega
  have hne : ¬ atV n i f = atV n j g := by unfold atV; omega
  have HA : Hid (∀ W, Fx W → Calls Tryd.prog 13 #[.int .i64 n, .int .i64 k, .int .i64 i, .int .i64 f] W fun e w' => e = .returned (.tuple #[.int .i64 (atV n i f), .bool true]) ∧ W = w') := Lib.hid (fun W hW => by
    have h1 := at_any n k i f W hW
    rwa [h, if_pos rfl] at h1)
  have HC : Hid (∀ W, Fx W → Calls Tryd.prog 13 #[.int .i64 n, .int .i64 k, .int .i64 j, .int .i64 g] W fun e w' => e = .returned (.tuple #[.int .i64 (atV n j g), .bool true]) ∧ W = w') := Lib.hid (fun W hW => by
    have h1 := at_any n k j g W hW
    rwa [h2, if_pos rfl] at h1)
  generalize atV n i f = A at *
  generalize atV n j g = B at *
  have hq : (A == B) = false := beq_eq_false_iff_ne.2 hne
  clear h h2 r1 r2
  have HB : Hid (Below w.heap.size w (w.alloc (.cells #[.int .i64 i, .int .i64 f, .int .i64 j, .int .i64 g] 43))) := Lib.hid ((Below.refl _ _).alloc (Nat.le_refl _) _)
  have HFa : Hid (Fx (w.alloc (.cells #[.int .i64 i, .int .i64 f, .int .i64 j, .int .i64 g] 43))) := Lib.hid (hF.below HB.out hF.lt)
  clear hF
  go_enter Tryd.func5, Tryd.ntmps5
  go_wp2_with (first
    | (go_at_call 13; (with_reducible refine (HA.out _ HFa.out).mono ?_); rintro e w1 ⟨rfl, rfl⟩)
    | (go_at_call 13; (with_reducible refine (HC.out _ HFa.out).mono ?_); rintro e w1 ⟨rfl, rfl⟩)
    | (go_at_call 12; (refine (nknown_any _ HFa.out).mono ?_); rintro e w2 ⟨rfl, hb⟩; (have HBz := Lib.hid (HB.out.trans (hb.mono HB.out.size))); clear hb))
  all_goals go_ret
  all_goals exact ⟨rfl, HBz.out⟩

set_option maxRecDepth 100000 in
set_option maxHeartbeats 2000000 in
theorem apart_f (n k i f j g : Int) (w : World) (hF : Fx w) (h : atB n k i f = true) (h2 : atB n k j g = true) (e1 : i = j) (e2 : ¬ f = g) :
    Calls Tryd.prog 5 #[.int .i64 n, .int .i64 k, .agg #[.int .i64 i, .int .i64 f, .int .i64 j, .int .i64 g]] w fun e w' => e = .returned (.bool true) ∧ Below w.heap.size w w' := by
  subst e1
  obtain ⟨r1, f1, f2⟩ := atB_true h
  obtain ⟨r2, g1, g2⟩ := atB_true h2
  obtain ⟨a1, a2, a3, a4⟩ := at_pre r1
  obtain ⟨b1, b2, b3, b4⟩ := at_pre r2
  have hA : 2 + n ≤ atV n i f ∧ atV n i f ≤ 100000 := by unfold atV; omega
  have hB : 2 + n ≤ atV n i g ∧ atV n i g ≤ 100000 := by unfold atV; omega
  have hne : ¬ atV n i f = atV n i g := by unfold atV; omega
  have hg : (f == g) = false := beq_eq_false_iff_ne.2 e2
  have HA : Hid (∀ W, Fx W → Calls Tryd.prog 13 #[.int .i64 n, .int .i64 k, .int .i64 i, .int .i64 f] W fun e w' => e = .returned (.tuple #[.int .i64 (atV n i f), .bool true]) ∧ W = w') := Lib.hid (fun W hW => by
    have h1 := at_any n k i f W hW
    rwa [h, if_pos rfl] at h1)
  have HC : Hid (∀ W, Fx W → Calls Tryd.prog 13 #[.int .i64 n, .int .i64 k, .int .i64 i, .int .i64 g] W fun e w' => e = .returned (.tuple #[.int .i64 (atV n i g), .bool true]) ∧ W = w') := Lib.hid (fun W hW => by
    have h1 := at_any n k i g W hW
    rwa [h2, if_pos rfl] at h1)
  generalize atV n i f = A at *
  generalize atV n i g = B at *
  have hq : (A == B) = false := beq_eq_false_iff_ne.2 hne
  clear h h2 r1 r2
  have HB : Hid (Below w.heap.size w (w.alloc (.cells #[.int .i64 i, .int .i64 f, .int .i64 i, .int .i64 g] 43))) := Lib.hid ((Below.refl _ _).alloc (Nat.le_refl _) _)
  have HFa : Hid (Fx (w.alloc (.cells #[.int .i64 i, .int .i64 f, .int .i64 i, .int .i64 g] 43))) := Lib.hid (hF.below HB.out hF.lt)
  clear hF
  go_enter Tryd.func5, Tryd.ntmps5
  go_wp2_with (first
    | (go_at_call 13; (with_reducible refine (HA.out _ HFa.out).mono ?_); rintro e w1 ⟨rfl, rfl⟩)
    | (go_at_call 13; (with_reducible refine (HC.out _ HFa.out).mono ?_); rintro e w1 ⟨rfl, rfl⟩)
    | (go_at_call 12; (refine (nknown_any _ HFa.out).mono ?_); rintro e w2 ⟨rfl, hb⟩; (have HBz := Lib.hid (HB.out.trans (hb.mono HB.out.size))); clear hb))
  all_goals go_ret
  all_goals exact ⟨rfl, HBz.out⟩

theorem apart_walk (n k i f j g : Int) (w : World) (hF : Fx w) :
    Calls Tryd.prog 5 #[.int .i64 n, .int .i64 k, .agg #[.int .i64 i, .int .i64 f, .int .i64 j, .int .i64 g]] w fun e w' => e = .returned (.bool true) ∧ Below w.heap.size w w' := by
  cases h : atB n k i f with
  | false => exact apart_no1 n k i f j g w hF h
  | true =>
    cases h2 : atB n k j g with
    | false => exact apart_no2 n k i f j g w hF h h2
    | true =>
      by_cases e1 : i = j
      · by_cases e2 : f = g
        · exact apart_same n k i f j g w hF h h2 e1 e2
        · exact apart_f n k i f j g w hF h h2 e1 e2
      · exact apart_i n k i f j g w hF h h2 e1
end Go.Proofs.YtgfmidpcgoadlaaDoor
