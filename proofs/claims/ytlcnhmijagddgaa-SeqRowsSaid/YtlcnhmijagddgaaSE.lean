/- The effects' walks, ended: sets of numbers below 64. -/
import Derived.Test.YtlcnhmijagddgaaSD
namespace Go.Proofs.Ytlcnhmijagddgaa
open Go.ChangeShapes Go.WideShapes Go.ChangeAt Go.RowKit
set_option linter.unusedVariables false

theorem bit_le (a : Nat) (ha : a < 64) : 2 ^ a ≤ 9223372036854775808 := by
  have := Nat.pow_le_pow_right (n := 2) (by decide) (show a ≤ 63 by omega)
  omega
theorem or_bit0 (x a : Nat) (h : x / 2 ^ a % 2 = 0) : x ||| 2 ^ a = x + 2 ^ a := by
  have hp := Nat.two_pow_pos a
  obtain ⟨p, hp2⟩ : ∃ p, x / 2 ^ a = 2 * p := ⟨x / 2 ^ a / 2, by omega⟩
  have hr := Nat.mod_lt x hp
  have hx : 2 ^ a * (2 * p) + x % 2 ^ a = x := by rw [← hp2]; exact Nat.div_add_mod x (2 ^ a)
  have e1 : 2 ^ a * (2 * p) = 2 ^ (a + 1) * p := by rw [Nat.pow_succ, Nat.mul_assoc]
  have e2 : 2 ^ a * (2 * p + 1) = 2 ^ (a + 1) * p + 2 ^ a := by rw [Nat.mul_add, e1, Nat.mul_one]
  have h1 := Nat.two_pow_add_eq_or_of_lt hr (2 * p)
  have h2 := Nat.two_pow_add_eq_or_of_lt hr (2 * p + 1)
  have h3 := Nat.two_pow_add_eq_or_of_lt (i := a + 1) (b := 2 ^ a) (by rw [Nat.pow_succ]; omega) p
  have e3 : x + 2 ^ a = 2 ^ a * (2 * p + 1) + x % 2 ^ a := by rw [e2, ← e1]; omega
  rw [e3, h2, e2, h3]
  conv => lhs; rw [← hx, h1, e1]
  rw [Nat.or_assoc, Nat.or_assoc, Nat.or_comm (x % 2 ^ a)]
theorem bit_set (x a : Nat) : (x / 2 ^ a % 2 = 1) ↔ x.testBit a = true := by
  rw [← Nat.toNat_testBit]; cases x.testBit a <;> simp
theorem or_bit1 (x a : Nat) (h : x / 2 ^ a % 2 = 1) : x ||| 2 ^ a = x := by
  apply Nat.eq_of_testBit_eq
  intro j
  rw [Nat.testBit_or, Nat.testBit_two_pow]
  by_cases hj : a = j
  · subst hj; rw [(bit_set x a).1 h]; simp
  · simp [hj]
theorem not_bit (a j : Nat) (ha : a < 64) (hj : j < 64) : (18446744073709551615 - 2 ^ a).testBit j = !decide (a = j) := by
  have hb := bit_le a ha
  have e : 18446744073709551615 - 2 ^ a = 2 ^ 64 - (2 ^ a + 1) := by omega
  rw [e, Nat.testBit_two_pow_sub_succ (by omega), Nat.testBit_two_pow]
  simp [hj]
theorem andn_bit0 (x a : Nat) (ha : a < 64) (hx : x < 18446744073709551616) (h : x / 2 ^ a % 2 = 0) : x &&& (18446744073709551615 - 2 ^ a) = x := by
  apply Nat.eq_of_testBit_eq
  intro j
  rw [Nat.testBit_and]
  by_cases hj : j < 64
  · rw [not_bit a j ha hj]
    by_cases h2 : a = j
    · subst h2
      have : x.testBit a = false := by
        cases hb : x.testBit a with
        | false => rfl
        | true => have := (bit_set x a).2 hb; omega
      rw [this]; rfl
    · simp [h2]
  · have : x.testBit j = false := Nat.testBit_lt_two_pow (Nat.lt_of_lt_of_le hx (Nat.pow_le_pow_right (n := 2) (i := 64) (j := j) (by decide) (by omega)))
    rw [this]; rfl
theorem andn_bit1 (x a : Nat) (ha : a < 64) (hx : x < 18446744073709551616) (h : x / 2 ^ a % 2 = 1) : x &&& (18446744073709551615 - 2 ^ a) = x - 2 ^ a := by
  have hp := Nat.two_pow_pos a
  have hle : 2 ^ a ≤ x := by
    rcases Nat.lt_or_ge x (2 ^ a) with h2 | h2
    · rw [Nat.div_eq_of_lt h2] at h; omega
    · exact h2
  obtain ⟨y, rfl⟩ : ∃ y, x = y + 2 ^ a := ⟨x - 2 ^ a, by omega⟩
  have hy : y / 2 ^ a % 2 = 0 := by
    rw [Nat.add_div_right _ hp] at h; omega
  have e := or_bit0 y a hy
  have hb : y.testBit a = false := by
    cases hb : y.testBit a with
    | false => rfl
    | true => have := (bit_set y a).2 hb; omega
  have e3 : y + 2 ^ a - 2 ^ a = y := by omega
  rw [e3, ← e]
  apply Nat.eq_of_testBit_eq
  intro j
  rw [Nat.testBit_and, Nat.testBit_or, Nat.testBit_two_pow]
  by_cases hj : j < 64
  · rw [not_bit a j ha hj]
    by_cases h2 : a = j
    · subst h2; rw [hb]; simp
    · simp [h2]
  · have : y.testBit j = false := Nat.testBit_lt_two_pow (Nat.lt_of_lt_of_le (show y < 2 ^ 64 by omega) (Nat.pow_le_pow_right (n := 2) (i := 64) (j := j) (by decide) (by omega)))
    rw [this]
    have : ¬ a = j := by omega
    simp [this]

set_option maxHeartbeats 400000 in
theorem has_any (v : Value) (x a B : Nat) (w : World) (h : OwnW w B v [x]) (hx : x < 18446744073709551616) (ha : a < 18446744073709551616) :
    Calls Try.prog 33 #[v, .int .u64 (a : Int)] w fun e w' => e = .returned (.tuple #[v, .int .u64 ((if 64 ≤ a then 0 else x / 2 ^ a % 2 : Nat) : Int), .int .i64 ((if 64 ≤ a then 10 else 0 : Nat) : Int)]) ∧ ∃ m, w' = w.drewN m := by
  obtain ⟨g, cap, rfl, hg, hlt, hc, hf⟩ := h.opened (by simp)
  have d0 := hc 0 x rfl
  simp only [List.length_singleton] at *
  by_cases h8 : 64 ≤ a
  · rw [if_pos h8, if_pos h8]
    clear h hc hf
    go_enter Try.func33, Try.ntmps33
    go_wp2_with fail
    go_ret3
    exact ⟨rfl, 0, rfl⟩
  · rw [if_neg h8, if_neg h8]
    have h9 : a < 64 := by omega
    have HA : Hid (bits .and .u64 ((x : Int) / 2 ^ a) 1 = ((x / 2 ^ a % 2 : Nat) : Int)) := Lib.hid (by
      have e : (x : Int) / 2 ^ a = ((x / 2 ^ a : Nat) : Int) := by rw [Int.natCast_ediv, Int.natCast_pow]; rfl
      have h2 : x / 2 ^ a ≤ x := Nat.div_le_self _ _
      have h3 := u64_and_nat (x / 2 ^ a) 1 (by omega) (by omega)
      rw [e]
      rw [Nat.and_one_is_mod] at h3
      exact h3)
    clear h hc hf h8
    go_enter Try.func33, Try.ntmps33
    go_wp2_with fail
    go_quiet (fail)
    go_wp2
    go_ret3
    exact ⟨by rw [HA.out]; rfl, _, rfl⟩
set_option maxHeartbeats 400000 in
theorem eff_include (v : Value) (x a B : Nat) (w : World) (h : OwnW w B v [x]) (hx : x < 18446744073709551616) (ha : a < 18446744073709551616) (hB : B ≤ w.heap.size) :
    Calls Try.prog 34 #[v, .int .u64 (a : Int)] w (EffP B w (if 64 ≤ a then ([x], 0, 10) else if x / 2 ^ a % 2 = 0 then ([x + 2 ^ a], 1, 0) else ([x], 0, 0))) := by
  have HC := Lib.hid (fun W (h1 : OwnW W B v [x]) => has_any v x a B W h1 hx ha)
  obtain ⟨g, cap, rfl, hg, hlt, hc, hf⟩ := h.opened (by simp)
  have HO := Lib.hid h
  have d0 := hc 0 x rfl
  have f0 := hf 0
  clear h hc hf
  simp only [List.length_singleton] at *
  by_cases h8 : 64 ≤ a
  · simp only [if_pos h8] at HC ⊢
    go_enter Try.func34, Try.ntmps34
    go_wp2_with (go_at_call 33; refine (HC.out _ HO.out).mono ?_; rintro e w' ⟨rfl, m, rfl⟩)
    go_ret3
    exact ⟨_, rfl, HO.out.drewN _, below_drewN (Below.refl _ _) _⟩
  · simp only [if_neg h8] at HC ⊢
    have h9 : a < 64 := by omega
    have hb2 := bit_le a h9
    have HS : Hid (bits .or .u64 (x : Int) (IntKind.u64.wrap (2 ^ a)) = ((x ||| 2 ^ a : Nat) : Int)) := Lib.hid (by
      have e : (2 : Int) ^ a = ((2 ^ a : Nat) : Int) := by rw [Int.natCast_pow]; rfl
      rw [e]
      generalize 2 ^ a = z at *
      rw [IntWalk.u64_in _ (by omega), u64_or_nat _ _ hx (by omega)])
    have HV : Hid (EffP B w (if x / 2 ^ a % 2 = 0 then ([x + 2 ^ a], 1, 0) else ([x], 0, 0)) = EffP B w ([x ||| 2 ^ a], 1 - x / 2 ^ a % 2, 0)) := Lib.hid (by
      split
      · rename_i h0; rw [or_bit0 x a h0, h0]
      · rename_i h0; rw [or_bit1 x a (by omega), show 1 - x / 2 ^ a % 2 = 0 by omega])
    rw [HV.out]
    have hd : x / 2 ^ a % 2 ≤ 1 := by omega
    generalize x / 2 ^ a % 2 = d at *
    clear h8 HV
    go_enter Try.func34, Try.ntmps34
    go_wp2_with (go_at_call 33; refine (HC.out _ HO.out).mono ?_; rintro e w' ⟨rfl, m, rfl⟩)
    go_ret3
    refine ⟨.slice (some ⟨g, 0, none⟩) 1 cap, ?_, ?_, ?_⟩
    · exact congrArg Ending.returned (congrArg Value.tuple (by simp; omega))
    · rw [HS.out]; exact (HO.out.drewN _).stored _ _
    · exact (below_drewN (Below.refl _ _) _).setCell hg _
set_option maxHeartbeats 400000 in
theorem eff_exclude (v : Value) (x a B : Nat) (w : World) (h : OwnW w B v [x]) (hx : x < 18446744073709551616) (ha : a < 18446744073709551616) (hB : B ≤ w.heap.size) :
    Calls Try.prog 35 #[v, .int .u64 (a : Int)] w (EffP B w (if 64 ≤ a then ([x], 0, 10) else if x / 2 ^ a % 2 = 1 then ([x - 2 ^ a], 1, 0) else ([x], 0, 0))) := by
  have HC := Lib.hid (fun W (h1 : OwnW W B v [x]) => has_any v x a B W h1 hx ha)
  obtain ⟨g, cap, rfl, hg, hlt, hc, hf⟩ := h.opened (by simp)
  have HO := Lib.hid h
  have d0 := hc 0 x rfl
  have f0 := hf 0
  clear h hc hf
  simp only [List.length_singleton] at *
  by_cases h8 : 64 ≤ a
  · simp only [if_pos h8] at HC ⊢
    go_enter Try.func35, Try.ntmps35
    go_wp2_with (go_at_call 33; refine (HC.out _ HO.out).mono ?_; rintro e w' ⟨rfl, m, rfl⟩)
    go_ret3
    exact ⟨_, rfl, HO.out.drewN _, below_drewN (Below.refl _ _) _⟩
  · simp only [if_neg h8] at HC ⊢
    have h9 : a < 64 := by omega
    have hb2 := bit_le a h9
    have HS : Hid (bits .andNot .u64 (x : Int) (IntKind.u64.wrap (2 ^ a)) = ((x &&& (18446744073709551615 - 2 ^ a) : Nat) : Int)) := Lib.hid (by
      have e : (2 : Int) ^ a = ((2 ^ a : Nat) : Int) := by rw [Int.natCast_pow]; rfl
      rw [e]
      generalize 2 ^ a = z at *
      rw [IntWalk.u64_in _ (by omega), u64_andNot_nat _ _ hx (by omega)])
    have HV : Hid (EffP B w (if x / 2 ^ a % 2 = 1 then ([x - 2 ^ a], 1, 0) else ([x], 0, 0)) = EffP B w ([x &&& (18446744073709551615 - 2 ^ a)], x / 2 ^ a % 2, 0)) := Lib.hid (by
      split
      · rename_i h0; rw [andn_bit1 x a h9 hx h0, h0]
      · rename_i h0; rw [andn_bit0 x a h9 hx (by omega), show x / 2 ^ a % 2 = 0 by omega])
    rw [HV.out]
    have hd : x / 2 ^ a % 2 ≤ 1 := by omega
    generalize x / 2 ^ a % 2 = d at *
    clear h8 HV
    go_enter Try.func35, Try.ntmps35
    go_wp2_with (go_at_call 33; refine (HC.out _ HO.out).mono ?_; rintro e w' ⟨rfl, m, rfl⟩)
    go_ret3
    refine ⟨.slice (some ⟨g, 0, none⟩) 1 cap, ?_, ?_, ?_⟩
    · exact congrArg Ending.returned (congrArg Value.tuple (by simp))
    · rw [HS.out]; exact (HO.out.drewN _).stored _ _
    · exact (below_drewN (Below.refl _ _) _).setCell hg _
end Go.Proofs.Ytlcnhmijagddgaa
