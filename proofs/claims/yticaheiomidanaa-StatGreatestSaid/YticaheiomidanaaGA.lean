/- Floating-point numbers, plainly: a word's sign and rung, the number that a rung stands for, how two words stand to one another; rounding keeps the order. -/
import Derived.WalkLawsBesides
namespace Go.Proofs.Yticaheiomidanaa
set_option exponentiation.threshold 4000
abbrev fD : Ieee.Format := Ieee.double
theorem fD_binade : fD.binade = 4503599627370496 := by decide
theorem fD_inf : fD.infRung = 9218868437227405312 := by decide
theorem fD_sign : fD.signWeight = 9223372036854775808 := by decide
theorem fD_least : fD.leastPlace = -1074 := by decide
/-- a word's sign, and its rung -/
def sg (b : Nat) : Bool := b / 9223372036854775808 % 2 == 1
def rg (b : Nat) : Nat := b % 9223372036854775808
def mant (r : Nat) : Nat := if r < 4503599627370496 then r else 4503599627370496 + r % 4503599627370496
def plc (r : Nat) : Nat := if r < 4503599627370496 then 0 else r / 4503599627370496 - 1
/-- what a rung stands for, in units of the least place -/
def rv (r : Nat) : Nat := mant r * 2 ^ plc r
def sv (b : Nat) : Int := if sg b then -(rv (rg b) : Int) else (rv (rg b) : Int)
def isNB (b : Nat) : Bool := decide (9218868437227405312 < rg b)

theorem rv_succ (r : Nat) : rv r < rv (r + 1) := by
  unfold rv mant plc
  by_cases h1 : r + 1 < 4503599627370496
  · rw [if_pos (by omega), if_pos (by omega), if_pos h1, if_pos h1]; omega
  · by_cases h2 : r < 4503599627370496
    · have : r = 4503599627370495 := by omega
      subst this
      decide
    · rw [if_neg h2, if_neg h2, if_neg h1, if_neg h1]
      have hp : 0 < 2 ^ (r / 4503599627370496 - 1) := Nat.two_pow_pos _
      by_cases h3 : (r + 1) / 4503599627370496 = r / 4503599627370496
      · rw [h3]
        have : (r + 1) % 4503599627370496 = r % 4503599627370496 + 1 := by omega
        rw [this]
        exact Nat.mul_lt_mul_of_pos_right (by omega) hp
      · have h4 : (r + 1) / 4503599627370496 = r / 4503599627370496 + 1 := by omega
        have h5 : (r + 1) % 4503599627370496 = 0 := by omega
        have h6 : r / 4503599627370496 + 1 - 1 = (r / 4503599627370496 - 1) + 1 := by omega
        rw [h4, h5, h6, Nat.pow_succ]
        have h7 : r % 4503599627370496 < 4503599627370496 := Nat.mod_lt _ (by decide)
        calc (4503599627370496 + r % 4503599627370496) * 2 ^ (r / 4503599627370496 - 1) < (4503599627370496 * 2) * 2 ^ (r / 4503599627370496 - 1) := Nat.mul_lt_mul_of_pos_right (by omega) hp
          _ = (4503599627370496 + 0) * (2 ^ (r / 4503599627370496 - 1) * 2) := by rw [Nat.add_zero, Nat.mul_assoc, Nat.mul_comm 2]

theorem rv_lt {r s : Nat} (h : r < s) : rv r < rv s := by
  induction s with
  | zero => omega
  | succ s ih =>
    rcases Nat.lt_or_ge r s with h1 | h1
    · exact Nat.lt_trans (ih h1) (rv_succ s)
    · have : r = s := by omega
      subst this; exact rv_succ r

theorem rv_le {r s : Nat} (h : r ≤ s) : rv r ≤ rv s := by
  rcases Nat.lt_or_ge r s with h1 | h1
  · exact Nat.le_of_lt (rv_lt h1)
  · have : r = s := by omega
    subst this; exact Nat.le_refl _

theorem rv_lt_iff {r s : Nat} : rv r < rv s ↔ r < s :=
  ⟨fun h => by rcases Nat.lt_or_ge r s with h1 | h1; · exact h1
               · have := rv_le h1; omega, rv_lt⟩

theorem rv_inj {r s : Nat} (h : rv r = rv s) : r = s := by
  rcases Nat.lt_trichotomy r s with h1 | h1 | h1
  · have := rv_lt h1; omega
  · exact h1
  · have := rv_lt h1; omega

theorem rv_zero : rv 0 = 0 := by decide

theorem rv_pos {r : Nat} (h : 0 < r) : 0 < rv r := by have := rv_lt h; omega

/-- what a word reads as -/
theorem read_fin {b : Nat} (h : rg b < 9218868437227405312) : fD.read b = .number (sg b) (mant (rg b)) (-1074 + (plc (rg b) : Int)) := by
  unfold Ieee.Format.read
  simp only [fD_binade, fD_inf, fD_sign, fD_least]
  change (if rg b < 4503599627370496 then Ieee.Datum.number (sg b) (rg b) (-1074) else if rg b < 9218868437227405312 then _ else _) = _
  unfold mant plc
  by_cases h1 : rg b < 4503599627370496
  · rw [if_pos h1, if_pos h1, if_pos h1]; rfl
  · rw [if_neg h1, if_neg h1, if_neg h1, if_pos h]; rfl

theorem read_inf {b : Nat} (h : rg b = 9218868437227405312) : fD.read b = .infinity (sg b) := by
  unfold Ieee.Format.read
  simp only [fD_binade, fD_inf, fD_sign, fD_least]
  change (if rg b < 4503599627370496 then Ieee.Datum.number (sg b) (rg b) (-1074) else if rg b < 9218868437227405312 then _ else if rg b = 9218868437227405312 then _ else _) = _
  rw [if_neg (by omega), if_neg (by omega), if_pos h]; rfl

theorem read_nan {b : Nat} (h : isNB b = true) : fD.read b = .nan (sg b) (rg b - 9218868437227405312) := by
  have h := of_decide_eq_true h
  unfold Ieee.Format.read
  simp only [fD_binade, fD_inf, fD_sign, fD_least]
  change (if rg b < 4503599627370496 then Ieee.Datum.number (sg b) (rg b) (-1074) else if rg b < 9218868437227405312 then _ else if rg b = 9218868437227405312 then _ else _) = _
  rw [if_neg (by omega), if_neg (by omega), if_neg (by omega)]; rfl

theorem order_nan1 {x : Nat} (y : Nat) (h : isNB x = true) : fD.order x y = none := by
  unfold Ieee.Format.order
  rw [read_nan h]; rfl

theorem order_nan2 (x : Nat) {y : Nat} (h : isNB y = true) : fD.order x y = none := by
  unfold Ieee.Format.order
  rw [read_nan h]
  cases fD.read x <;> rfl

theorem cmp_same {a b c d : Int} (h1 : a < b ↔ c < d) (h2 : a = b ↔ c = d) : compare a b = compare c d := by
  show compareOfLessAndEq a b = compareOfLessAndEq c d
  unfold compareOfLessAndEq
  by_cases ha : a < b
  · rw [if_pos ha, if_pos (h1.1 ha)]
  · rw [if_neg ha, if_neg (fun h => ha (h1.2 h))]
    by_cases hb : a = b
    · rw [if_pos hb, if_pos (h2.1 hb)]
    · rw [if_neg hb, if_neg (fun h => hb (h2.2 h))]

theorem cmp_lt {a b : Int} : (compare a b = .lt) ↔ a < b := by
  show compareOfLessAndEq a b = .lt ↔ _
  unfold compareOfLessAndEq
  by_cases ha : a < b
  · simp [ha]
  · rw [if_neg ha]; by_cases hb : a = b <;> simp [ha, hb]
theorem cmp_eq {a b : Int} : (compare a b = .eq) ↔ a = b := by
  show compareOfLessAndEq a b = .eq ↔ _
  unfold compareOfLessAndEq
  by_cases ha : a < b
  · simp [ha]; omega
  · rw [if_neg ha]; by_cases hb : a = b <;> simp [hb]
theorem cmp_gt {a b : Int} : (compare a b = .gt) ↔ b < a := by
  show compareOfLessAndEq a b = .gt ↔ _
  unfold compareOfLessAndEq
  by_cases ha : a < b
  · simp [ha]; omega
  · rw [if_neg ha]; by_cases hb : a = b
    · simp [hb]
    · simp [hb]; omega

theorem mul_lt_iff {a b c : Int} (h : 0 < c) : a * c < b * c ↔ a < b := Int.mul_lt_mul_right h
theorem mul_eq_iff {a b c : Int} (h : 0 < c) : a * c = b * c ↔ a = b := Int.mul_eq_mul_right_iff (by omega)

theorem signed_mul (neg : Bool) (m k j : Nat) : Ieee.signed neg m k * (2 : Int) ^ j = if neg then -((m * 2 ^ (k + j) : Nat) : Int) else ((m * 2 ^ (k + j) : Nat) : Int) := by
  unfold Ieee.signed
  rw [Nat.shiftLeft_eq, Nat.pow_add, ← Nat.mul_assoc]
  cases neg
  · simp [Int.natCast_mul, Int.natCast_pow]
  · simp only [if_true]; rw [Int.neg_mul]; simp [Int.natCast_mul, Int.natCast_pow]

/-- HOW TWO WORDS STAND TO ONE ANOTHER, if none of them is none -/
theorem order_sv {x y : Nat} (hx : isNB x = false) (hy : isNB y = false) : fD.order x y = some (compare (sv x) (sv y)) := by
  have hx := of_decide_eq_false hx
  have hy := of_decide_eq_false hy
  unfold Ieee.Format.order
  rcases Nat.lt_or_ge (rg x) 9218868437227405312 with h1 | h1
  · rcases Nat.lt_or_ge (rg y) 9218868437227405312 with h2 | h2
    · rw [read_fin h1, read_fin h2]
      show some (compare (Ieee.signed _ _ _) (Ieee.signed _ _ _)) = _
      congr 1
      have e1 : (-1074 + (plc (rg x) : Int) - min (-1074 + (plc (rg x) : Int)) (-1074 + (plc (rg y) : Int))).toNat = plc (rg x) - min (plc (rg x)) (plc (rg y)) := by omega
      have e2 : (-1074 + (plc (rg y) : Int) - min (-1074 + (plc (rg x) : Int)) (-1074 + (plc (rg y) : Int))).toNat = plc (rg y) - min (plc (rg x)) (plc (rg y)) := by omega
      rw [e1, e2]
      have hp : (0 : Int) < 2 ^ (min (plc (rg x)) (plc (rg y))) := Int.pow_pos (by decide)
      have a1 : Ieee.signed (sg x) (mant (rg x)) (plc (rg x) - min (plc (rg x)) (plc (rg y))) * 2 ^ (min (plc (rg x)) (plc (rg y))) = sv x := by
        rw [signed_mul, Nat.sub_add_cancel (Nat.min_le_left _ _)]; rfl
      have a2 : Ieee.signed (sg y) (mant (rg y)) (plc (rg y) - min (plc (rg x)) (plc (rg y))) * 2 ^ (min (plc (rg x)) (plc (rg y))) = sv y := by
        rw [signed_mul, Nat.sub_add_cancel (Nat.min_le_right _ _)]; rfl
      rw [← a1, ← a2]
      exact (cmp_same (mul_lt_iff hp) (mul_eq_iff hp)).symm
    · have h2 : rg y = 9218868437227405312 := by omega
      rw [read_fin h1, read_inf h2]
      show some (if sg y then Ordering.gt else .lt) = _
      congr 1
      have hl : rv (rg x) < rv 9218868437227405312 := rv_lt h1
      have h0 : 0 ≤ rv (rg x) := Nat.zero_le _
      cases hs : sg y
      · rw [if_neg (by decide)]; symm; rw [cmp_lt]; unfold sv; simp only [hs, h2, Bool.false_eq_true, if_false]; split <;> omega
      · rw [if_pos rfl]; symm; rw [cmp_gt]; unfold sv; simp only [hs, h2, if_true]; split <;> omega
  · have h1 : rg x = 9218868437227405312 := by omega
    rcases Nat.lt_or_ge (rg y) 9218868437227405312 with h2 | h2
    · rw [read_inf h1, read_fin h2]
      show some (if sg x then Ordering.lt else .gt) = _
      congr 1
      have hl : rv (rg y) < rv 9218868437227405312 := rv_lt h2
      cases hs : sg x
      · rw [if_neg (by decide)]; symm; rw [cmp_gt]; unfold sv; simp only [hs, h1, Bool.false_eq_true, if_false]; split <;> omega
      · rw [if_pos rfl]; symm; rw [cmp_lt]; unfold sv; simp only [hs, h1, if_true]; split <;> omega
    · have h2 : rg y = 9218868437227405312 := by omega
      rw [read_inf h1, read_inf h2]
      show some (compare (sg y).toNat (sg x).toNat) = _
      congr 1
      have hp : 0 < rv 9218868437227405312 := rv_pos (by decide)
      unfold sv
      rw [h1, h2]
      generalize rv 9218868437227405312 = z at hp
      cases sg x <;> cases sg y
      · exact (cmp_eq.2 rfl).symm
      · exact (cmp_gt.2 (by simp only [Bool.false_eq_true, if_false, if_true]; omega)).symm
      · exact (cmp_lt.2 (by simp only [Bool.false_eq_true, if_false, if_true]; omega)).symm
      · exact (cmp_eq.2 rfl).symm

theorem order_self {x : Nat} (hx : isNB x = false) : fD.order x x = some .eq := by
  rw [order_sv hx hx, cmp_eq.2 rfl]

/-- what the model takes for a number that is none -/
theorem nan_cut (t : Nat) : isNB ((t % 2) * 2 ^ 63 + 0x7ff0000000000000 + 1 + (t / 2) % (2 ^ 52 - 1)) = true := by
  apply decide_eq_true
  unfold rg
  have h1 : (t / 2) % (2 ^ 52 - 1) < 2 ^ 52 - 1 := Nat.mod_lt _ (by decide)
  have h2 : t % 2 < 2 := Nat.mod_lt _ (by decide)
  simp only [show (2 : Nat) ^ 63 = 9223372036854775808 from by decide, show (2 : Nat) ^ 52 = 4503599627370496 from by decide] at h1 ⊢
  generalize (t / 2) % (4503599627370496 - 1) = b at h1 ⊢
  generalize t % 2 = a at h2 ⊢
  obtain rfl | rfl : a = 0 ∨ a = 1 := by omega
  · omega
  · omega
end Go.Proofs.Yticaheiomidanaa
