/- Walks of the leaf functions: bit, get, exists, ones. -/
import Derived.Test.YtehcfflofacapaaProg
import Derived.Test.YtehcfflofacapaaM
import Derived.Test.YtehcfflofacapaaT
import Derived.WalkKit
import Derived.WalkSpells
import Derived.Deep.QuietTactic
import Derived.BigQuiet
import Derived.Lib.Hide
import Derived.WalkLawsBesides
namespace Go.Proofs.Ytehcfflofacapaa
open Go.RowKit

theorem and_fld (n a s : Nat) (hn : n < 18446744073709551616) (hs : s ≤ 64) : bits .and .u64 ((n : Int) / 2 ^ a) (ones s) = (fld n a s : Nat) := by
  have e : (n : Int) / 2 ^ a = ((n / 2 ^ a : Nat) : Int) := by rw [Int.natCast_ediv, Int.natCast_pow]; rfl
  have h1 := ones_le s hs
  have h2 : n / 2 ^ a ≤ n := Nat.div_le_self _ _
  rw [e, u64_and_nat _ _ (by omega) (by omega), and_ones]
  rfl
set_option maxHeartbeats 400000 in
theorem bit_any (n : Nat) (i : Nat) (w : World) (hn : n < 18446744073709551616) (hi : i ≤ 63) :
    Calls Try.prog 31 #[.int .u64 n, .int .i64 i] w fun e w' => e = .returned (.int .u64 (bt n i)) ∧ w = w' := by
  go_enter Try.func31, Try.ntmps31
  go_wp2
  go_loop [0, 6] (fun x k => ∃ j : Nat, j ≤ i ∧ k = .int .i64 j ∧ x = .int .u64 (sh n j)) (fun _ k => i - (intOf k).toNat)
  case atStart => exact ⟨0, Nat.zero_le _, rfl, by rw [sh_zero]⟩
  case round =>
    obtain ⟨j, hj, rfl, rfl⟩ := hrel
    have hs := sh_le n j
    by_cases hlt : j < i
    · go_wp2
      go_round
      case rel => exact ⟨j + 1, by omega, by go_num, by rw [sh_succ]; go_num⟩
      case measure => simp [intOf]; omega
    · go_wp2
      go_ret
      have : j = i := by omega
      subst this
      exact ⟨ret_int (by rw [bt_eq]; omega), rfl⟩

theorem bit_at (n i : Nat) (x : Int) (w : World) (hn : n < 18446744073709551616) (hi : i ≤ 63) (hx : x = i) :
    Calls Try.prog 31 #[.int .u64 n, .int .i64 x] w fun e w' => e = .returned (.int .u64 (bt n i)) ∧ w = w' := by
  subst hx; exact bit_any n i w hn hi
set_option maxHeartbeats 400000 in
theorem get_ref (n a s : Nat) (w : World) (hn : n < 18446744073709551616) (h1 : 1 ≤ s) (h : a + s ≤ 64) :
    Calls Try.prog 12 #[.int .u64 n, .int .i64 a, .int .i64 s] w fun e w' => e = .returned (.int .u64 (fld n a s)) ∧ w = w' := by
  go_enter Try.func12, Try.ntmps12
  go_wp2
  go_loop [7, 8] (fun x k => ∃ j : Nat, j ≤ s ∧ k = .int .i64 ((j : Int) - 1) ∧ x = .int .u64 (hi n a s j)) (fun _ k => (intOf k + 1).toNat)
  case atStart => exact ⟨s, Nat.le_refl _, rfl, by rw [hi_top]; rfl⟩
  case round =>
    obtain ⟨j, hj, rfl, rfl⟩ := hrel
    by_cases hlt : 0 < j
    · obtain ⟨i, rfl⟩ : ∃ i, j = i + 1 := ⟨j - 1, by omega⟩
      have hst := Nat.le_of_eq (hi_step n a s i (by omega)).symm
      have hle := hi_le n a s i
      have hle2 := hi_le n a s (i+1)
      have hb := bt_lt n (a + i)
      go_wp2_with (go_at_call 31; refine (bit_any _ (a + i) _ (by omega) (by omega)).mono ?_; rintro e w' ⟨rfl, rfl⟩)
      go_round
      case rel => exact ⟨i, by omega, by go_num, by rw [hi_step n a s i (by omega)]; go_num⟩
      case measure => simp [intOf]
    · have : j = 0 := by omega
      subst this
      go_wp2
      go_ret
      exact ⟨ret_int (by rw [hi_zero]), rfl⟩

theorem ones_sh (s : Nat) (h : s ≤ 64) : (18446744073709551615 : Int) / 2 ^ (64 - s) = (ones s : Nat) := by
  rw [← ones_eq s h, Int.natCast_ediv, Int.natCast_pow]; rfl
set_option maxHeartbeats 400000 in
theorem ones_any (s : Nat) (w : World) (h1 : 1 ≤ s) (h : s ≤ 64) :
    Calls Try.prog 30 #[.int .i64 s] w fun e w' => e = .returned (.int .u64 (ones s)) ∧ w = w' := by
  go_enter Try.func30, Try.ntmps30
  go_wp2
  go_ret
  exact ⟨ret_int (ones_sh s h), rfl⟩

def isB (a s : Int) : Bool := decide (0 ≤ a) && decide (1 ≤ s) && decide (a ≤ 64 - s)
theorem isB_yes {a s : Int} (h0 : 0 ≤ a) (h1 : 1 ≤ s) (h : a + s ≤ 64) : isB a s = true := by unfold isB; simp; omega
theorem isB_no {a s : Int} (h : a < 0 ∨ s < 1 ∨ 64 < a + s) : isB a s = false := by
  rw [Bool.eq_false_iff]; unfold isB; simp; omega
set_option maxHeartbeats 400000 in
theorem exists_any (a s : Int) (w : World) (h1 : -9223372036854775808 ≤ s) (h2 : s ≤ 9223372036854775807) :
    Calls Try.prog 29 #[.int .i64 a, .int .i64 s] w fun e w' => e = .returned (.bool (isB a s)) ∧ w = w' := by
  go_enter Try.func29, Try.ntmps29
  go_wp2
  all_goals go_ret
  all_goals refine ⟨ret_bool ?_, rfl⟩
  all_goals unfold isB
  all_goals rw [Bool.eq_iff_iff]
  all_goals simp
  all_goals omega

set_option maxHeartbeats 400000 in
theorem is_any (a s : Int) (w : World) (h1 : -9223372036854775808 ≤ a) (h2 : a ≤ 9223372036854775807) :
    Calls Try.prog 10 #[.int .i64 a, .int .i64 s] w fun e w' => e = .returned (.bool (isB a s)) ∧ w = w' := by
  go_enter Try.func10, Try.ntmps10
  go_wp2
  all_goals go_ret
  all_goals refine ⟨ret_bool ?_, rfl⟩
  all_goals unfold isB
  all_goals rw [Bool.eq_iff_iff]
  all_goals simp
  all_goals omega

set_option maxHeartbeats 400000 in
theorem wget_no (n : Nat) (a s : Int) (w : World) (h1 : -9223372036854775808 ≤ s) (h2 : s ≤ 9223372036854775807) (h : a < 0 ∨ s < 1 ∨ 64 < a + s) :
    Calls Try.prog 9 #[.int .u64 n, .int .i64 a, .int .i64 s] w fun e w' => e = .returned (.tuple #[.int .u64 0, .int .i64 1]) ∧ w = w' := by
  have hB := Lib.hid (isB_no h)
  go_enter Try.func9, Try.ntmps9
  go_wp2_with (go_at_call 29; refine (exists_any _ _ _ h1 h2).mono ?_; rw [hB.out]; rintro e w' ⟨rfl, rfl⟩)
  go_ret2
  exact ⟨rfl, rfl⟩

set_option maxHeartbeats 400000 in
theorem wget_yes (n a s : Nat) (w : World) (hn : n < 18446744073709551616) (h1 : 1 ≤ s) (h : a + s ≤ 64) :
    Calls Try.prog 9 #[.int .u64 n, .int .i64 a, .int .i64 s] w fun e w' => e = .returned (.tuple #[.int .u64 (fld n a s), .int .i64 0]) ∧ ∃ k, w' = w.drewN k := by
  have hB := Lib.hid (isB_yes (a := a) (s := s) (by omega) (by omega) (by omega))
  go_enter Try.func9, Try.ntmps9
  go_wp2_with (go_at_call 29; refine (exists_any _ _ _ (by omega) (by omega)).mono ?_; rw [hB.out]; rintro e w' ⟨rfl, rfl⟩)
  have ho := ones_le s (by omega)
  go_quiet ((go_at_call 30; exact call_keeps ⟨_, rfl⟩ (ones_any _ _ (by omega) (by omega))))
  go_wp2
  go_ret2
  refine ⟨ret_pair (and_fld n a s hn (by omega)) rfl, ?_⟩
  exact ⟨_, rfl⟩

set_option maxHeartbeats 400000 in
theorem wput_no (n : Nat) (a s : Int) (v : Nat) (w : World) (h1 : -9223372036854775808 ≤ s) (h2 : s ≤ 9223372036854775807) (h : a < 0 ∨ s < 1 ∨ 64 < a + s) :
    Calls Try.prog 13 #[.int .u64 n, .int .i64 a, .int .i64 s, .int .u64 v] w fun e w' => e = .returned (.tuple #[.int .u64 0, .int .i64 1]) ∧ w = w' := by
  have hB := Lib.hid (isB_no h)
  go_enter Try.func13, Try.ntmps13
  go_wp2_with (go_at_call 29; refine (exists_any _ _ _ h1 h2).mono ?_; rw [hB.out]; rintro e w' ⟨rfl, rfl⟩)
  go_ret2
  exact ⟨rfl, rfl⟩

set_option maxHeartbeats 400000 in
theorem fits_any (v s : Nat) (w : World) (hv : v < 18446744073709551616) (h1 : 1 ≤ s) (h : s ≤ 64) :
    Calls Try.prog 14 #[.int .u64 v, .int .i64 s] w fun e w' => e = .returned (.bool (decide (v < 2 ^ s))) ∧ w = w' := by
  go_enter Try.func14, Try.ntmps14
  go_wp2_with (go_at_call 12; refine (get_ref v 0 s _ hv h1 (by omega)).mono ?_; rintro e w' ⟨rfl, rfl⟩)
  go_ret
  exact ⟨ret_bool (beq_cast.trans (fits_bool v s)), rfl⟩

set_option maxHeartbeats 400000 in
theorem put_ref (n a s v : Nat) (w : World) (hn : n < 18446744073709551616) (hv : v < 2 ^ s) (h1 : 1 ≤ s) (h : a + s ≤ 64) :
    Calls Try.prog 15 #[.int .u64 n, .int .i64 a, .int .i64 s, .int .u64 v] w fun e w' => e = .returned (.int .u64 (pu n a s v)) ∧ w = w' := by
  have hv2 := lt_u64 hv (show s ≤ 64 by omega)
  have HV := Lib.hid hv
  clear hv
  go_enter Try.func15, Try.ntmps15
  go_wp2
  go_loop [9, 10] (fun x k => ∃ j : Nat, j ≤ 64 ∧ k = .int .i64 ((j : Int) - 1) ∧ x = .int .u64 (hip n a s v j)) (fun _ k => (intOf k + 1).toNat)
  case atStart => exact ⟨64, Nat.le_refl _, rfl, by rw [hip_top n a s v hn HV.out h]; rfl⟩
  case round =>
    obtain ⟨j, hj, rfl, rfl⟩ := hrel
    by_cases hlt : 0 < j
    · obtain ⟨i, rfl⟩ : ∃ i, j = i + 1 := ⟨j - 1, by omega⟩
      have hle2 := hip_le n a s v i hn HV.out h
      by_cases hc : a ≤ i ∧ i < a + s
      · obtain ⟨hc1, hc2⟩ := hc
        have hb := bt_lt v (i - a)
        have hst := Nat.le_of_eq (hip_in n a s v i HV.out h hc1 hc2).symm
        obtain ⟨d, rfl⟩ : ∃ d, i = a + d := ⟨i - a, by omega⟩
        have e : a + d - a = d := by omega
        rw [e] at hb hst
        clear e
        go_wp2_with (go_at_call 31; refine (bit_at v d _ _ hv2 (by omega) (by omega)).mono ?_; rintro e w' ⟨rfl, rfl⟩)
        go_round
        case rel => exact ⟨a + d, by omega, by go_num, by rw [hip_in n a s v (a + d) HV.out h hc1 hc2, Nat.add_sub_cancel_left]; go_num⟩
        case measure => simp [intOf]; omega
      · have hb := bt_lt n i
        have hst := Nat.le_of_eq (hip_out n a s v i HV.out h (by omega) hc).symm
        have hcut : i < a ∨ a + s ≤ i := by omega
        clear hc
        rcases hcut with hc | hc
        · go_wp2_with (go_at_call 31; refine (bit_at n i _ _ hn (by omega) (by omega)).mono ?_; rintro e w' ⟨rfl, rfl⟩)
          go_round
          case rel => exact ⟨i, by omega, by go_num, by rw [hip_out n a s v i HV.out h (by omega) (by omega)]; go_num⟩
          case measure => simp [intOf]
        · go_wp2_with (go_at_call 31; refine (bit_at n i _ _ hn (by omega) (by omega)).mono ?_; rintro e w' ⟨rfl, rfl⟩)
          go_round
          case rel => exact ⟨i, by omega, by go_num, by rw [hip_out n a s v i HV.out h (by omega) (by omega)]; go_num⟩
          case measure => simp [intOf]
    · have : j = 0 := by omega
      subst this
      go_wp2
      go_ret
      exact ⟨ret_int (by rw [hip_zero]), rfl⟩
end Go.Proofs.Ytehcfflofacapaa
