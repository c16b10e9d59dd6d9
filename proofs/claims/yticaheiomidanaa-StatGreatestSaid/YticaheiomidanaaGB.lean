/- Rounding, plainly: it keeps the order; whole numbers below 2^53 are exact; products of such; a quotient that is not above 1. -/
import Derived.Test.YticaheiomidanaaGA
namespace Go.Proofs.Yticaheiomidanaa
set_option exponentiation.threshold 4000
/-- n by 2^d, to the nearest, of two the even one -/
def re (n d : Nat) : Nat := n / 2 ^ d + (decide (2 ^ d < 2 * (n % 2 ^ d)) || (2 ^ d == 2 * (n % 2 ^ d) && n / 2 ^ d % 2 == 1)).toNat

theorem re_zero (n : Nat) : re n 0 = n := by
  unfold re
  simp [Nat.mod_one]

theorem re_scale (n d k : Nat) : re (n * 2 ^ k) (d + k) = re n d := by
  have hp : 0 < 2 ^ k := Nat.two_pow_pos k
  unfold re
  rw [Nat.pow_add, Nat.mul_div_mul_right _ _ hp, Nat.mul_mod_mul_right]
  have e1 : decide (2 ^ d * 2 ^ k < 2 * (n % 2 ^ d * 2 ^ k)) = decide (2 ^ d < 2 * (n % 2 ^ d)) := by
    rw [← Nat.mul_assoc]
    apply Bool.eq_iff_iff.2
    rw [decide_eq_true_iff, decide_eq_true_iff]
    exact Nat.mul_lt_mul_right hp
  have e2 : (2 ^ d * 2 ^ k == 2 * (n % 2 ^ d * 2 ^ k)) = (2 ^ d == 2 * (n % 2 ^ d)) := by
    rw [← Nat.mul_assoc]
    apply Bool.eq_iff_iff.2
    rw [beq_iff_eq, beq_iff_eq]
    exact ⟨fun h => Nat.eq_of_mul_eq_mul_right hp h, fun h => congrArg (· * 2 ^ k) h⟩
  rw [e1, e2]

theorem re_mono {n m : Nat} (d : Nat) (h : n ≤ m) : re n d ≤ re m d := by
  have hp : 0 < 2 ^ d := Nat.two_pow_pos d
  unfold re
  generalize 2 ^ d = g at hp
  have hq : n / g ≤ m / g := Nat.div_le_div_right h
  have b1 : ∀ b : Bool, b.toNat ≤ 1 := fun b => by cases b <;> decide
  rcases Nat.lt_or_ge (n / g) (m / g) with h1 | h1
  · have := b1 (decide (g < 2 * (n % g)) || (g == 2 * (n % g) && n / g % 2 == 1))
    omega
  · have he : n / g = m / g := by omega
    have hr : n % g ≤ m % g := by
      have a1 := Nat.div_add_mod n g
      have a2 := Nat.div_add_mod m g
      rw [he] at a1
      omega
    rw [he]
    apply Nat.add_le_add_left
    by_cases c1 : g < 2 * (n % g)
    · rw [decide_eq_true c1, decide_eq_true (show g < 2 * (m % g) by omega), Bool.true_or, Bool.true_or]; exact Nat.le_refl _
    · rw [decide_eq_false c1]
      by_cases c2 : g = 2 * (n % g)
      · by_cases c3 : g < 2 * (m % g)
        · rw [decide_eq_true c3]; exact b1 _
        · have e : n % g = m % g := by omega
          rw [decide_eq_false c3, e]
          exact Nat.le_refl _
      · have : (g == 2 * (n % g)) = false := beq_false_of_ne c2
        rw [this]
        exact Nat.zero_le _

theorem re_exact {d k : Nat} : re (k * 2 ^ d) d = k := by
  have := re_scale k 0 d
  rw [Nat.zero_add, re_zero] at this
  exact this

theorem log2_lt {n : Nat} : n < 2 ^ (n.log2 + 1) := by
  rcases Nat.eq_zero_or_pos n with rfl | h
  · decide
  · exact (Nat.log2_lt (by omega)).1 (Nat.lt_succ_self _)

theorem log2_le {n : Nat} (h : n ≠ 0) : 2 ^ n.log2 ≤ n := Nat.log2_self_le h

theorem log2_scale {n : Nat} (h : n ≠ 0) (k : Nat) : (n * 2 ^ k).log2 = n.log2 + k := by
  rw [Nat.log2_eq_iff (Nat.mul_ne_zero h (Nat.ne_of_gt (Nat.two_pow_pos k)))]
  constructor
  · rw [Nat.pow_add]; exact Nat.mul_le_mul_right _ (log2_le h)
  · have : n.log2 + k + 1 = (n.log2 + 1) + k := by omega
    rw [this, Nat.pow_add]
    exact Nat.mul_lt_mul_of_pos_right log2_lt (Nat.two_pow_pos k)

theorem cut_re (neg : Bool) (n d : Nat) : Ieee.Toward.even.cut neg n d = re n d := by
  unfold Ieee.Toward.cut re
  dsimp only
  rw [Nat.shiftLeft_eq, Nat.one_mul]
  rcases Nat.le_total d (n.log2 + 2) with h | h
  · rw [Nat.min_eq_left h]
  · rw [Nat.min_eq_right h]
    have h1 : n < 2 ^ (n.log2 + 1) := log2_lt
    have h2 : 2 ^ (n.log2 + 2) = 2 ^ (n.log2 + 1) * 2 := Nat.pow_succ ..
    have h3 : 2 ^ (n.log2 + 2) ≤ 2 ^ d := Nat.pow_le_pow_right (by decide) h
    generalize 2 ^ (n.log2 + 2) = g at h2 h3
    generalize 2 ^ d = G at h3
    rw [Nat.div_eq_of_lt (by omega), Nat.mod_eq_of_lt (by omega), Nat.div_eq_of_lt (show n < G by omega), Nat.mod_eq_of_lt (show n < G by omega)]
    rw [decide_eq_false (show ¬ g < 2 * n by omega), decide_eq_false (show ¬ G < 2 * n by omega)]
    simp

/-- the rung of X units of the least place -/
def rnd (X : Nat) : Nat := min ((X.log2 - 52) * 4503599627370496 + re X (X.log2 - 52)) 9218868437227405312

theorem rnd_zero : rnd 0 = 0 := by
  unfold rnd
  simp only [Nat.log2_zero]
  rw [show 0 - 52 = 0 from rfl, re_zero, Nat.zero_mul]; exact Nat.min_eq_left (Nat.zero_le _)

theorem word_false (r : Nat) : fD.word false r = r := by unfold Ieee.Format.word; rw [if_neg (by decide)]

theorem nearest_rnd {mag : Nat} {place : Int} (h : mag = 0 ∨ -1074 ≤ place) : fD.nearest false mag place = rnd (mag * 2 ^ (place + 1074).toNat) := by
  unfold Ieee.Format.nearest
  by_cases hm : mag = 0
  · subst hm; rw [if_pos rfl, Nat.zero_mul, rnd_zero]; rfl
  · rw [if_neg hm]
    have h : -1074 ≤ place := by rcases h with h | h; · exact absurd h hm
                                 · exact h
    simp only [fD_binade, fD_inf, fD_least, word_false, cut_re]
    unfold rnd
    rw [log2_scale hm, show (fD.fractionBits : Nat) = 52 from rfl]
    generalize hk : (place + 1074).toNat = k
    obtain rfl : place = (k : Int) - 1074 := by omega
    have e1 : (max ((k : Int) - 1074 + (mag.log2 : Int) - ((52 : Nat) : Int)) (-1074) - -1074).toNat = mag.log2 + k - 52 := by omega
    rw [e1]
    congr 2
    rcases Nat.le_total 52 mag.log2 with h1 | h1
    · have e2 : ((k : Int) - 1074 - max ((k : Int) - 1074 + (mag.log2 : Int) - ((52 : Nat) : Int)) (-1074)).toNat = 0 := by omega
      have e3 : (max ((k : Int) - 1074 + (mag.log2 : Int) - ((52 : Nat) : Int)) (-1074) - ((k : Int) - 1074)).toNat = mag.log2 - 52 := by omega
      rw [e2, e3, Nat.shiftLeft_zero, show mag.log2 + k - 52 = (mag.log2 - 52) + k by omega, re_scale]
    · have e3 : (max ((k : Int) - 1074 + (mag.log2 : Int) - ((52 : Nat) : Int)) (-1074) - ((k : Int) - 1074)).toNat = 0 := by omega
      have e2 : ((k : Int) - 1074 - max ((k : Int) - 1074 + (mag.log2 : Int) - ((52 : Nat) : Int)) (-1074)).toNat = k - (mag.log2 + k - 52) := by omega
      rw [e2, e3, re_zero, Nat.shiftLeft_eq]
      have : mag * 2 ^ k = (mag * 2 ^ (k - (mag.log2 + k - 52))) * 2 ^ (mag.log2 + k - 52) := by
        rw [Nat.mul_assoc, ← Nat.pow_add]; congr 2; omega
      rw [this, re_exact]

theorem re_top {X d : Nat} (h : X < 2 ^ (53 + d)) : re X d ≤ 9007199254740992 := by
  have h1 : X ≤ 9007199254740992 * 2 ^ d := by
    rw [show (9007199254740992 : Nat) = 2 ^ 53 from by decide, ← Nat.pow_add]; exact Nat.le_of_lt h
  have := re_mono d h1
  rw [re_exact] at this
  exact this

theorem re_bottom {X d : Nat} (h : 2 ^ (52 + d) ≤ X) : 4503599627370496 ≤ re X d := by
  have h1 : 4503599627370496 * 2 ^ d ≤ X := by
    rw [show (4503599627370496 : Nat) = 2 ^ 52 from by decide, ← Nat.pow_add]; exact h
  have := re_mono d h1
  rw [re_exact] at this
  exact this

/-- ROUNDING KEEPS THE ORDER -/
theorem rnd_mono {X Y : Nat} (h : X ≤ Y) : rnd X ≤ rnd Y := by
  unfold rnd
  have hl : X.log2 ≤ Y.log2 := by
    by_cases h0 : X = 0
    · subst h0; rw [Nat.log2_zero]; exact Nat.zero_le _
    · exact (Nat.le_log2 (by omega)).2 (Nat.le_trans (log2_le h0) h)
  have key : (X.log2 - 52) * 4503599627370496 + re X (X.log2 - 52) ≤ (Y.log2 - 52) * 4503599627370496 + re Y (Y.log2 - 52) := by
    by_cases he : X.log2 - 52 = Y.log2 - 52
    · rw [he]; exact Nat.add_le_add_left (re_mono _ h) _
    · have a1 : re X (X.log2 - 52) ≤ 9007199254740992 := by
        apply re_top
        refine Nat.lt_of_lt_of_le log2_lt (Nat.pow_le_pow_right (by decide) (by omega))
      have a2 : 4503599627370496 ≤ re Y (Y.log2 - 52) := by
        apply re_bottom
        have hY : Y ≠ 0 := fun h0 => by subst h0; simp only [Nat.log2_zero] at he hl; omega
        have := log2_le hY
        rwa [show 52 + (Y.log2 - 52) = Y.log2 by omega]
      omega
  omega

theorem rnd_le (X : Nat) : rnd X ≤ 9218868437227405312 := Nat.min_le_right _ _

/-- a whole number below 2^53 is exact -/
theorem rv_rnd_exact {n j : Nat} (h : n < 9007199254740992) (hj : j ≤ 1900) : rv (rnd (n * 2 ^ j)) = n * 2 ^ j := by
  by_cases hn : n = 0
  · subst hn; rw [Nat.zero_mul, rnd_zero, rv_zero]
  · have hL : n.log2 ≤ 52 := by
      have := (Nat.log2_lt hn).2 (show n < 2 ^ 53 from h)
      omega
    have key : ∀ e k : Nat, n.log2 + j - 52 = e → n * 2 ^ j = k * 2 ^ e → rv (rnd (n * 2 ^ j)) = n * 2 ^ j := by
      intro e k he hk
      have hlog : (n * 2 ^ j).log2 = n.log2 + j := log2_scale hn j
      have h0 : n * 2 ^ j ≠ 0 := Nat.mul_ne_zero hn (Nat.ne_of_gt (Nat.two_pow_pos j))
      have hr : rnd (n * 2 ^ j) = e * 4503599627370496 + k := by
        unfold rnd
        rw [hlog, he, hk, re_exact]
        apply Nat.min_eq_left
        have hk2 : k < 9007199254740992 := by
          have h1 : n * 2 ^ j < 2 ^ (n.log2 + j + 1) := by rw [← hlog]; exact log2_lt
          rw [hk] at h1
          have h2 : 2 ^ (n.log2 + j + 1) ≤ 9007199254740992 * 2 ^ e := by
            rw [show (9007199254740992 : Nat) = 2 ^ 53 from by decide, ← Nat.pow_add]
            exact Nat.pow_le_pow_right (by decide) (by omega)
          exact Nat.lt_of_mul_lt_mul_right (Nat.lt_of_lt_of_le h1 h2)
        omega
      have hk2 : k < 9007199254740992 := by
        have h1 : n * 2 ^ j < 2 ^ (n.log2 + j + 1) := by rw [← hlog]; exact log2_lt
        rw [hk] at h1
        have h2 : 2 ^ (n.log2 + j + 1) ≤ 9007199254740992 * 2 ^ e := by
          rw [show (9007199254740992 : Nat) = 2 ^ 53 from by decide, ← Nat.pow_add]
          exact Nat.pow_le_pow_right (by decide) (by omega)
        exact Nat.lt_of_mul_lt_mul_right (Nat.lt_of_lt_of_le h1 h2)
      rw [hr, hk]
      unfold rv mant plc
      by_cases he0 : e = 0
      · subst he0
        rw [Nat.zero_mul, Nat.zero_add]
        by_cases h1 : k < 4503599627370496
        · rw [if_pos h1, if_pos h1]
        · rw [if_neg h1, if_neg h1]
          have a1 : k / 4503599627370496 = 1 := by omega
          have a2 : 4503599627370496 + k % 4503599627370496 = k := by omega
          rw [a1, a2]
      · have hk1 : 4503599627370496 ≤ k := by
          have h1 : 2 ^ (n.log2 + j) ≤ n * 2 ^ j := by rw [← hlog]; exact log2_le h0
          rw [hk] at h1
          have h2 : 4503599627370496 * 2 ^ e ≤ 2 ^ (n.log2 + j) := by
            rw [show (4503599627370496 : Nat) = 2 ^ 52 from by decide, ← Nat.pow_add]
            exact Nat.pow_le_pow_right (by decide) (by omega)
          exact Nat.le_of_mul_le_mul_right (Nat.le_trans h2 h1) (Nat.two_pow_pos e)
        rw [if_neg (by omega), if_neg (by omega)]
        have a1 : (e * 4503599627370496 + k) / 4503599627370496 - 1 = e := by omega
        have a2 : 4503599627370496 + (e * 4503599627370496 + k) % 4503599627370496 = k := by omega
        rw [a1, a2]
    by_cases hb : 52 ≤ n.log2 + j
    · refine key (n.log2 + j - 52) (n * 2 ^ (52 - n.log2)) rfl ?_
      rw [Nat.mul_assoc, ← Nat.pow_add]
      congr 2
      omega
    · exact key 0 (n * 2 ^ j) (by omega) (by rw [Nat.pow_zero, Nat.mul_one])

/-- the rung of 1 -/
theorem rnd_one : rnd (2 ^ 1074) = 4607182418800017408 := by
  have h : rv (rnd (1 * 2 ^ 1074)) = 1 * 2 ^ 1074 := rv_rnd_exact (by decide) (by decide)
  rw [Nat.one_mul] at h
  apply rv_inj
  rw [h]
  have h1 : mant 4607182418800017408 = 4503599627370496 := by decide
  have h2 : plc 4607182418800017408 = 1022 := by decide
  unfold rv
  rw [h1, h2, show (4503599627370496 : Nat) = 2 ^ 52 from by decide, ← Nat.pow_add]
end Go.Proofs.Yticaheiomidanaa
