/- Plain numbers: bits, fields, and what puts and gets do. -/
namespace Go.Proofs.YtgfmidpcgoadlaaDoor

def sh (n i : Nat) : Nat := n / 2 ^ i
def bt (n i : Nat) : Nat := n / 2 ^ i % 2
def fld (n a s : Nat) : Nat := n / 2 ^ a % 2 ^ s
/-- the number of the bits of the field from i on -/
def hi (n a s i : Nat) : Nat := fld n a s / 2 ^ i
def ones (s : Nat) : Nat := 2 ^ s - 1
/-- v put into the field -/
def pu (w a s v : Nat) : Nat := (w &&& (18446744073709551615 - ones s * 2 ^ a)) ||| (v * 2 ^ a)

theorem sh_zero (n : Nat) : sh n 0 = n := by simp [sh]
theorem sh_succ (n j : Nat) : sh n (j + 1) = sh n j / 2 := by
  simp only [sh]; rw [Nat.pow_succ, Nat.div_div_eq_div_mul]
theorem sh_le (n j : Nat) : sh n j ≤ n := Nat.div_le_self _ _
theorem bt_eq (n i : Nat) : bt n i = sh n i % 2 := rfl
theorem bt_lt (n i : Nat) : bt n i ≤ 1 := by unfold bt; omega
theorem fld_le (n a s : Nat) : fld n a s ≤ n := Nat.le_trans (Nat.mod_le _ _) (Nat.div_le_self _ _)
theorem fld_lt (n a s : Nat) : fld n a s < 2 ^ s := Nat.mod_lt _ (Nat.two_pow_pos _)
theorem hi_le (n a s i : Nat) : hi n a s i ≤ n := Nat.le_trans (Nat.div_le_self _ _) (fld_le _ _ _)
theorem hi_top (n a s : Nat) : hi n a s s = 0 := by
  unfold hi; exact Nat.div_eq_of_lt (fld_lt _ _ _)
theorem hi_zero (n a s : Nat) : hi n a s 0 = fld n a s := by simp [hi]
theorem testBit_fld (n a s i : Nat) : (fld n a s).testBit i = (decide (i < s) && n.testBit (a + i)) := by
  unfold fld
  rw [Nat.testBit_mod_two_pow, Nat.testBit_div_two_pow, Nat.add_comm]
theorem half (x i : Nat) : x / 2 ^ i = 2 * (x / 2 ^ (i + 1)) + x / 2 ^ i % 2 := by
  have e1 : x / 2 ^ (i + 1) = x / 2 ^ i / 2 := by rw [Nat.pow_succ, Nat.div_div_eq_div_mul]
  rw [e1]; omega
theorem hi_step (n a s i : Nat) (h : i < s) : hi n a s i = 2 * hi n a s (i + 1) + bt n (a + i) := by
  unfold hi
  have e2 : bt n (a + i) = fld n a s / 2 ^ i % 2 := by
    unfold bt
    rw [← Nat.toNat_testBit, ← Nat.toNat_testBit, testBit_fld]; simp [h]
  rw [e2]; exact half _ _
theorem ones_le (s : Nat) (hs : s ≤ 64) : ones s ≤ 18446744073709551615 := by
  have := Nat.pow_le_pow_right (n := 2) (by decide) hs
  unfold ones; omega
theorem lt_u64 {v s : Nat} (hv : v < 2 ^ s) (h : s ≤ 64) : v < 18446744073709551616 := by
  have := Nat.pow_le_pow_right (n := 2) (by decide) h
  omega
theorem fits_bool (v s : Nat) : (fld v 0 s == v) = decide (v < 2 ^ s) := by
  rw [Bool.eq_iff_iff, beq_iff_eq, decide_eq_true_eq]
  unfold fld
  rw [Nat.pow_zero, Nat.div_one]
  constructor
  · intro h; rw [← h]; exact Nat.mod_lt _ (Nat.two_pow_pos _)
  · intro h; exact Nat.mod_eq_of_lt h
theorem ones_eq (s : Nat) (h : s ≤ 64) : 18446744073709551615 / 2 ^ (64 - s) = ones s := by
  unfold ones
  apply Nat.eq_of_testBit_eq
  intro i
  rw [Nat.testBit_div_two_pow, show (18446744073709551615 : Nat) = 2 ^ 64 - 1 from rfl, Nat.testBit_two_pow_sub_one, Nat.testBit_two_pow_sub_one]
  rw [Bool.eq_iff_iff]; simp only [decide_eq_true_eq]; omega
theorem testBit_ones (s i : Nat) : (ones s).testBit i = decide (i < s) := by
  unfold ones; rw [Nat.testBit_two_pow_sub_one]
theorem and_ones (x s : Nat) : x &&& ones s = x % 2 ^ s := by
  unfold ones; exact Nat.and_two_pow_sub_one_eq_mod _ _
theorem ones_shift (s a : Nat) (h : a + s ≤ 64) : ones s * 2 ^ a ≤ 18446744073709551615 := by
  have h1 : ones s * 2 ^ a ≤ (2 ^ s - 1) * 2 ^ a := Nat.le_refl _
  have h2 : (2 ^ s - 1) * 2 ^ a = 2 ^ (a + s) - 2 ^ a := by
    rw [Nat.sub_mul, Nat.one_mul, ← Nat.pow_add, Nat.add_comm]
  have h3 := Nat.pow_le_pow_right (n := 2) (by decide) h
  have h4 := Nat.two_pow_pos a
  omega
theorem shift_le (v s a : Nat) (hv : v < 2 ^ s) (h : a + s ≤ 64) : v * 2 ^ a ≤ 18446744073709551615 := by
  have : v * 2 ^ a ≤ ones s * 2 ^ a := Nat.mul_le_mul_right _ (by unfold ones; omega)
  have := ones_shift s a h
  omega
theorem testBit_mul_pow (x a i : Nat) : (x * 2 ^ a).testBit i = (decide (a ≤ i) && x.testBit (i - a)) := by
  rw [Nat.mul_comm, Nat.testBit_two_pow_mul]
theorem testBit_not64 (x i : Nat) (hx : x ≤ 18446744073709551615) (hi : i < 64) : (18446744073709551615 - x).testBit i = !x.testBit i := by
  have e : 18446744073709551615 - x = 2 ^ 64 - (x + 1) := by omega
  rw [e, Nat.testBit_two_pow_sub_succ (by omega)]
  simp [hi]
theorem pu_lt (w a s v : Nat) (hw : w < 18446744073709551616) (hv : v < 2 ^ s) (h : a + s ≤ 64) : pu w a s v < 18446744073709551616 := by
  unfold pu
  have h1 := shift_le v s a hv h
  exact Nat.or_lt_two_pow (n := 64) (Nat.lt_of_le_of_lt Nat.and_le_left (by omega)) (by omega)
theorem testBit_pu (w a s v i : Nat) (hv : v < 2 ^ s) (h : a + s ≤ 64) (hi : i < 64) :
    (pu w a s v).testBit i = if a ≤ i ∧ i < a + s then v.testBit (i - a) else w.testBit i := by
  unfold pu
  rw [Nat.testBit_or, Nat.testBit_and, testBit_not64 _ _ (ones_shift s a h) hi, testBit_mul_pow, testBit_mul_pow, testBit_ones]
  by_cases h1 : a ≤ i
  · by_cases h2 : i < a + s
    · have : i - a < s := by omega
      simp [h1, h2, this]
    · have h3 : ¬ (i - a < s) := by omega
      have h4 : v.testBit (i - a) = false := Nat.testBit_lt_two_pow (Nat.lt_of_lt_of_le hv (Nat.pow_le_pow_right (by decide) (by omega)))
      simp [h1, h2, h3, h4]
  · simp [h1]
/-- the number of a put word's bits from i on -/
def hip (w a s v i : Nat) : Nat := pu w a s v / 2 ^ i
theorem hip_le (w a s v i : Nat) (hw : w < 18446744073709551616) (hv : v < 2 ^ s) (h : a + s ≤ 64) : hip w a s v i ≤ 18446744073709551615 := by
  have := pu_lt w a s v hw hv h
  have h2 : hip w a s v i ≤ pu w a s v := Nat.div_le_self _ _
  omega
theorem hip_zero (w a s v : Nat) : hip w a s v 0 = pu w a s v := by simp [hip]
theorem hip_top (w a s v : Nat) (hw : w < 18446744073709551616) (hv : v < 2 ^ s) (h : a + s ≤ 64) : hip w a s v 64 = 0 :=
  Nat.div_eq_of_lt (pu_lt w a s v hw hv h)
theorem hip_in (w a s v i : Nat) (hv : v < 2 ^ s) (h : a + s ≤ 64) (h1 : a ≤ i) (h2 : i < a + s) : hip w a s v i = 2 * hip w a s v (i + 1) + bt v (i - a) := by
  have e : bt v (i - a) = pu w a s v / 2 ^ i % 2 := by
    unfold bt
    rw [← Nat.toNat_testBit, ← Nat.toNat_testBit, testBit_pu w a s v i hv h (by omega), if_pos ⟨h1, h2⟩]
  rw [e]; exact half _ _
theorem hip_out (w a s v i : Nat) (hv : v < 2 ^ s) (h : a + s ≤ 64) (hi : i < 64) (h1 : ¬ (a ≤ i ∧ i < a + s)) : hip w a s v i = 2 * hip w a s v (i + 1) + bt w i := by
  have e : bt w i = pu w a s v / 2 ^ i % 2 := by
    unfold bt
    rw [← Nat.toNat_testBit, ← Nat.toNat_testBit, testBit_pu w a s v i hv h hi, if_neg h1]
  rw [e]; exact half _ _
/-- WHAT IS PUT IS GOT -/
theorem fld_pu (w a s v : Nat) (hv : v < 2 ^ s) (h : a + s ≤ 64) : fld (pu w a s v) a s = v := by
  apply Nat.eq_of_testBit_eq
  intro i
  rw [testBit_fld]
  by_cases hi : i < s
  · rw [testBit_pu w a s v (a + i) hv h (by omega), if_pos ⟨by omega, by omega⟩]
    simp [hi]
  · have h4 : v.testBit i = false := Nat.testBit_lt_two_pow (Nat.lt_of_lt_of_le hv (Nat.pow_le_pow_right (by decide) (by omega)))
    simp [hi, h4]
theorem fits_iff (v s : Nat) : fld v 0 s = v ↔ v < 2 ^ s := by
  constructor
  · intro h; rw [← h]; exact fld_lt _ _ _
  · intro h; unfold fld; rw [Nat.pow_zero, Nat.div_one]; exact Nat.mod_eq_of_lt h
/-- the next field of a word, put above the lower ones -/
theorem pu_next (w a s : Nat) (h : a + s ≤ 64) : pu (fld w 0 a) a s (fld w a s) = fld w 0 (a + s) := by
  apply Nat.eq_of_testBit_eq
  intro i
  by_cases hi : i < 64
  · rw [testBit_pu _ a s _ i (fld_lt _ _ _) h hi, testBit_fld, testBit_fld, testBit_fld]
    by_cases h1 : a ≤ i
    · by_cases h2 : i < a + s
      · have e : a + (i - a) = i := by omega
        have e2 : i - a < s := by omega
        simp [h1, h2, e, e2]
      · have h3 : ¬ i < a := by omega
        simp [h2, h3]
    · have h2 : i < a := by omega
      have h3 : i < a + s := by omega
      simp [h1, h2, h3]
  · have hp : (2 : Nat) ^ 64 ≤ 2 ^ i := Nat.pow_le_pow_right (by decide) (by omega)
    have h5 : fld w 0 a < 18446744073709551616 := by
      have := fld_lt w 0 a
      have := Nat.pow_le_pow_right (n := 2) (by decide) (show a ≤ 64 by omega)
      omega
    have h6 := pu_lt (fld w 0 a) a s (fld w a s) h5 (fld_lt _ _ _) h
    have h7 := fld_lt w 0 (a + s)
    have h8 := Nat.pow_le_pow_right (n := 2) (by decide) h
    rw [Nat.testBit_lt_two_pow (by omega), Nat.testBit_lt_two_pow (by omega)]
end Go.Proofs.YtgfmidpcgoadlaaDoor
