/- Walks of word.Put. -/
import Derived.Test.YtgfmidpcgoadlaaDoorDA
import Derived.Test.YtgfmidpcgoadlaaDoorShelf
import Derived.Lib.ItoaNum
namespace Go.Proofs.YtgfmidpcgoadlaaDoor
open Go.RowKit

theorem bl_gt (v s : Nat) (hv : v < 18446744073709551616) : (s < Lib.bitLen v) ↔ ¬ v < 2 ^ s := by
  by_cases h0 : v = 0
  · subst h0
    have : Lib.bitLen 0 = 0 := by decide
    have := Nat.two_pow_pos s
    omega
  · obtain ⟨h1, h2, h3⟩ := Lib.bitLenAux_bounds 64 v hv h0
    change 1 ≤ Lib.bitLen v at h1
    change 2 ^ (Lib.bitLen v - 1) ≤ v at h2
    change v < 2 ^ Lib.bitLen v at h3
    constructor
    · intro h hlt
      have := Nat.pow_le_pow_right (n := 2) (by decide) (show s ≤ Lib.bitLen v - 1 by omega)
      omega
    · intro h
      by_cases hc : s < Lib.bitLen v
      · exact hc
      · have := Nat.pow_le_pow_right (n := 2) (by decide) (show Lib.bitLen v ≤ s by omega)
        omega
set_option maxHeartbeats 400000 in
theorem wput_range (n a s v : Nat) (w : World) (hv : v < 18446744073709551616) (h1 : 1 ≤ s) (h : a + s ≤ 64) (hr : ¬ v < 2 ^ s) :
    Calls Tryd.prog 27 #[.int .u64 n, .int .i64 a, .int .i64 s, .int .u64 v] w fun e w' => e = .returned (.tuple #[.int .u64 0, .int .i64 10]) ∧ w = w' := by
  have hB := Lib.hid (isB_yes (a := a) (s := s) (by omega) (by omega) (by omega))
  have hl := (bl_gt v s hv).2 hr
  clear hr
  go_enter Tryd.func27, Tryd.ntmps27
  go_wp2_with (first | (go_at_call 29; refine (exists_any _ _ _ (by omega) (by omega)).mono ?_; rw [hB.out]; rintro e w' ⟨rfl, rfl⟩) | (go_at_call 30; refine (Tryd.bits_Len64 _ _ (by omega) (by omega)).mono ?_; rintro e w' ⟨rfl, rfl⟩))
  go_ret2
  exact ⟨rfl, rfl⟩
theorem andn_or (n a s v : Nat) (hn : n < 18446744073709551616) (hv : v < 2 ^ s) (h : a + s ≤ 64) :
    bits .or .u64 (bits .andNot .u64 (n : Int) (IntKind.u64.wrap ((ones s : Nat) * 2 ^ a))) (IntKind.u64.wrap ((v : Nat) * 2 ^ a)) = (pu n a s v : Nat) := by
  have h1 := ones_shift s a h
  have h2 := shift_le v s a hv h
  have e1 : ((ones s : Nat) : Int) * 2 ^ a = ((ones s * 2 ^ a : Nat) : Int) := by rw [Int.natCast_mul, Int.natCast_pow]; rfl
  have e2 : ((v : Nat) : Int) * 2 ^ a = ((v * 2 ^ a : Nat) : Int) := by rw [Int.natCast_mul, Int.natCast_pow]; rfl
  rw [e1, e2, IntWalk.u64_in _ (by omega), IntWalk.u64_in _ (by omega), u64_andNot_nat _ _ hn (by omega), u64_or_nat _ _ (Nat.lt_of_le_of_lt Nat.and_le_left hn) (by omega)]
  rfl
set_option maxHeartbeats 400000 in
theorem wput_yes (n a s v : Nat) (w : World) (hn : n < 18446744073709551616) (h1 : 1 ≤ s) (h : a + s ≤ 64) (hv : v < 2 ^ s) :
    Calls Tryd.prog 27 #[.int .u64 n, .int .i64 a, .int .i64 s, .int .u64 v] w fun e w' => e = .returned (.tuple #[.int .u64 (pu n a s v), .int .i64 0]) ∧ ∃ k, w' = w.drewN k := by
  have hB := Lib.hid (isB_yes (a := a) (s := s) (by omega) (by omega) (by omega))
  have hv64 := lt_u64 hv (show s ≤ 64 by omega)
  have hl : Lib.bitLen v ≤ s := by
    have := bl_gt v s hv64
    omega
  have ho := ones_le s (by omega)
  have HV := Lib.hid hv
  clear hv
  go_enter Tryd.func27, Tryd.ntmps27
  go_wp2_with (first | (go_at_call 29; refine (exists_any _ _ _ (by omega) (by omega)).mono ?_; rw [hB.out]; rintro e w' ⟨rfl, rfl⟩) | (go_at_call 30; refine (Tryd.bits_Len64 _ _ (by omega) (by omega)).mono ?_; rintro e w' ⟨rfl, rfl⟩))
  go_quiet ((go_at_call 31; exact call_keeps ⟨_, rfl⟩ (ones_any _ _ (by omega) (by omega))))
  go_wp2
  go_ret2
  refine ⟨ret_pair (andn_or n a s v hn HV.out h) rfl, ?_⟩
  exact ⟨_, rfl⟩
end Go.Proofs.YtgfmidpcgoadlaaDoor
