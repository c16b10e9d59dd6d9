/- Whole numbers as floating-point ones; products of such; a quotient that is not above 1. -/
import Derived.Test.YticaheiomidanaaGB
import Derived.Test.YticaheiomidanaaK
namespace Go.Proofs.Yticaheiomidanaa
set_option exponentiation.threshold 4000
/-- a number as a floating-point one -/
abbrev fof (n : Int) : Nat := floatOfInt .f64 n
theorem fof_nat (n : Nat) : fof (n : Int) = rnd (n * 2 ^ 1074) := by
  show fD.nearest (decide ((n : Int) < 0)) (n : Int).natAbs 0 = _
  rw [decide_eq_false (by omega), nearest_rnd (Or.inr (by decide))]
  rfl

theorem rg_small {r : Nat} (h : r < 9223372036854775808) : rg r = r := Nat.mod_eq_of_lt h
theorem sg_small {r : Nat} (h : r < 9223372036854775808) : sg r = false := by
  unfold sg
  rw [Nat.div_eq_of_lt h]; rfl
theorem isNB_small {r : Nat} (h : r ≤ 9218868437227405312) : isNB r = false := by
  unfold isNB
  rw [rg_small (by omega)]
  exact decide_eq_false (by omega)
theorem sv_small {r : Nat} (h : r < 9223372036854775808) : sv r = (rv r : Int) := by
  unfold sv
  rw [sg_small h, rg_small h]; rfl

theorem inf_far {j : Nat} (hj : j ≤ 2000) : 9007199254740992 * 2 ^ j < rv 9218868437227405312 := by
  have h1 : mant 9218868437227405312 = 4503599627370496 := by decide
  have h2 : plc 9218868437227405312 = 2046 := by decide
  unfold rv
  rw [h1, h2, show (9007199254740992 : Nat) = 2 ^ 53 from by decide, show (4503599627370496 : Nat) = 2 ^ 52 from by decide, ← Nat.pow_add, ← Nat.pow_add]
  exact Nat.pow_lt_pow_right (by decide) (by omega)

theorem rnd_fin {n : Nat} (h : n < 9007199254740992) : rnd (n * 2 ^ 1074) < 9218868437227405312 := by
  rw [← rv_lt_iff, rv_rnd_exact h (by decide)]
  refine Nat.lt_trans ?_ (inf_far (j := 1074) (by decide))
  exact Nat.mul_lt_mul_of_pos_right h (Nat.two_pow_pos _)

theorem one_le_rnd {n : Nat} (h : n ≠ 0) : 4607182418800017408 ≤ rnd (n * 2 ^ 1074) := by
  rw [← rnd_one]
  apply rnd_mono
  calc 2 ^ 1074 = 1 * 2 ^ 1074 := (Nat.one_mul _).symm
    _ ≤ n * 2 ^ 1074 := Nat.mul_le_mul_right _ (by omega)

theorem plc_ge {r : Nat} (h : 4607182418800017408 ≤ r) : 1022 ≤ plc r := by
  unfold plc
  rw [if_neg (by omega)]
  omega

theorem product_num (s t : Bool) (m n : Nat) (i j : Int) : Ieee.Datum.product (.number s m i) (.number t n j) = some (.number (s ^^ t) (m * n) (i + j)) := rfl
theorem write_num (m : Nat) (i : Int) : fD.write (.number false m i) = fD.nearest false m i := rfl
theorem quotient_num (d m n : Nat) (i j : Int) (hn : n ≠ 0) : Ieee.Datum.quotient d (.number false m i) (.number false n j) =
    some (.number false (2 * ((m <<< (d + n.log2 - m.log2)) / n) + ((m <<< (d + n.log2 - m.log2)) % n != 0).toNat) (i - j - (d + n.log2 - m.log2 : Nat) - 1)) := by
  unfold Ieee.Datum.quotient
  dsimp only
  rw [if_neg hn]
  rfl

theorem mul_aux {a b r s K : Nat} (hK : K = 1074) (h1 : r < 9218868437227405312) (h2 : s < 9218868437227405312) (e1 : rv r = a * 2 ^ K) (e2 : rv s = b * 2 ^ K)
    (o1 : a ≠ 0 → 4607182418800017408 ≤ r) (o2 : b ≠ 0 → 4607182418800017408 ≤ s) : fD.mul r s = some (rnd (a * b * 2 ^ K)) := by
  unfold Ieee.Format.mul
  rw [read_fin (by rw [rg_small (by omega)]; exact h1), read_fin (by rw [rg_small (by omega)]; exact h2), rg_small (by omega), rg_small (by omega), sg_small (by omega), sg_small (by omega)]
  rw [product_num, Option.map_some, show (false ^^ false) = false from rfl, write_num]
  congr 1
  by_cases hz : a = 0 ∨ b = 0
  · have hm : mant r * mant s = 0 := by
      rcases hz with rfl | rfl
      · rw [Nat.zero_mul] at e1
        have : r = 0 := rv_inj (e1.trans rv_zero.symm)
        subst this
        rw [show mant 0 = 0 from by decide, Nat.zero_mul]
      · rw [Nat.zero_mul] at e2
        have : s = 0 := rv_inj (e2.trans rv_zero.symm)
        subst this
        rw [show mant 0 = 0 from by decide, Nat.mul_zero]
    have hab : a * b = 0 := by rcases hz with rfl | rfl; · exact Nat.zero_mul _
                               · exact Nat.mul_zero _
    rw [nearest_rnd (Or.inl hm), hm, hab, Nat.zero_mul, Nat.zero_mul]
  · have p1 := plc_ge (o1 (fun h => hz (Or.inl h)))
    have p2 := plc_ge (o2 (fun h => hz (Or.inr h)))
    rw [nearest_rnd (Or.inr (by omega))]
    congr 1
    have e3 : (-1074 + (plc r : Int) + (-1074 + (plc s : Int)) + 1074).toNat = plc r + plc s - K := by omega
    rw [e3]
    apply Nat.eq_of_mul_eq_mul_right (Nat.two_pow_pos K)
    rw [Nat.mul_assoc, ← Nat.pow_add, Nat.sub_add_cancel (by omega), Nat.pow_add]
    unfold rv at e1 e2
    calc mant r * mant s * (2 ^ plc r * 2 ^ plc s) = (mant r * 2 ^ plc r) * (mant s * 2 ^ plc s) := by ac_rfl
      _ = (a * 2 ^ K) * (b * 2 ^ K) := by rw [e1, e2]
      _ = a * b * 2 ^ K * 2 ^ K := by ac_rfl

theorem mul_nat {a b : Nat} (ha : a < 9007199254740992) (hb : b < 9007199254740992) : fD.mul (fof a) (fof b) = some (rnd (a * b * 2 ^ 1074)) := by
  rw [fof_nat, fof_nat]
  exact mul_aux rfl (rnd_fin ha) (rnd_fin hb) (rv_rnd_exact ha (by decide)) (rv_rnd_exact hb (by decide)) one_le_rnd one_le_rnd

theorem mant_norm {r : Nat} (h : 4503599627370496 ≤ r) : 4503599627370496 ≤ mant r ∧ mant r < 9007199254740992 := by
  unfold mant
  rw [if_neg (by omega)]
  omega

theorem log_norm {m : Nat} (h : 4503599627370496 ≤ m ∧ m < 9007199254740992) : m.log2 = 52 := by
  rw [Nat.log2_eq_iff (by omega)]
  exact ⟨h.1, h.2⟩

/-- A QUOTIENT THAT IS NOT ABOVE 1 -/
theorem div_le_one {t b : Nat} (ht : 4607182418800017408 ≤ t) (htb : t ≤ b) (hb : b ≤ 4953959590107545600) :
    ∃ r, fD.div t b = some r ∧ r ≤ 4607182418800017408 := by
  have n1 := mant_norm (r := t) (by omega)
  have n2 := mant_norm (r := b) (by omega)
  have hle := rv_le htb
  have p1 := plc_ge ht
  have pb : plc b ≤ 1099 := by unfold plc; rw [if_neg (by omega)]; omega
  have ptb : plc t ≤ plc b := by
    unfold plc; rw [if_neg (by omega), if_neg (by omega)]
    have : t / 4503599627370496 ≤ b / 4503599627370496 := Nat.div_le_div_right htb
    omega
  unfold Ieee.Format.div
  rw [read_fin (by rw [rg_small (by omega)]; omega), read_fin (by rw [rg_small (by omega)]; omega), rg_small (by omega), rg_small (by omega), sg_small (by omega), sg_small (by omega)]
  unfold rv at hle
  generalize mant t = m at n1 hle
  generalize mant b = n at n2 hle
  generalize plc t = p at p1 ptb hle
  generalize plc b = q at pb ptb hle
  rw [quotient_num _ _ _ _ _ (by omega), Option.map_some, write_num, log_norm n1, log_norm n2, show (fD.fractionBits + 2 + 52 - 52 : Nat) = 54 from rfl, Nat.shiftLeft_eq]
  refine ⟨_, rfl, ?_⟩
  rw [nearest_rnd (Or.inr (by omega))]
  have e1 : (-1074 + (p : Int) - (-1074 + (q : Int)) - ((54 : Nat) : Int) - 1 + 1074).toNat = p + 1019 - q := by omega
  rw [e1, ← rnd_one]
  apply rnd_mono
  -- m * 2 ^ 54 ≤ n * 2 ^ E
  have h1 : m * 2 ^ 54 ≤ n * 2 ^ (54 + (q - p)) := by
    have : m * 2 ^ p ≤ (n * 2 ^ (q - p)) * 2 ^ p := by rw [Nat.mul_assoc, ← Nat.pow_add, Nat.sub_add_cancel ptb]; exact hle
    have := Nat.le_of_mul_le_mul_right this (Nat.two_pow_pos p)
    calc m * 2 ^ 54 ≤ n * 2 ^ (q - p) * 2 ^ 54 := Nat.mul_le_mul_right _ this
      _ = n * 2 ^ (54 + (q - p)) := by rw [Nat.mul_assoc, ← Nat.pow_add, Nat.add_comm 54]
  have hQ : 2 * (m * 2 ^ 54 / n) + (m * 2 ^ 54 % n != 0).toNat ≤ 2 * 2 ^ (54 + (q - p)) := by
    generalize m * 2 ^ 54 = d at h1
    generalize 2 ^ (54 + (q - p)) = g at h1
    have hn : 0 < n := by omega
    have b1 : ∀ b : Bool, b.toNat ≤ 1 := fun b => by cases b <;> decide
    rcases Nat.lt_or_ge (d / n) g with h2 | h2
    · have := b1 (d % n != 0)
      omega
    · have h3 : g * n ≤ d := (Nat.le_div_iff_mul_le hn).1 h2
      have h4 : d = n * g := by rw [Nat.mul_comm] at h3; omega
      subst h4
      rw [Nat.mul_div_cancel_left _ hn, Nat.mul_mod_right]
      simp
  calc (2 * (m * 2 ^ 54 / n) + (m * 2 ^ 54 % n != 0).toNat) * 2 ^ (p + 1019 - q) ≤ 2 * 2 ^ (54 + (q - p)) * 2 ^ (p + 1019 - q) := Nat.mul_le_mul_right _ hQ
    _ = 2 ^ (1 + (54 + (q - p)) + (p + 1019 - q)) := by rw [Nat.pow_add 2 (1 + (54 + (q - p))), Nat.pow_add 2 1, Nat.pow_one]
    _ = 2 ^ 1074 := by congr 1; omega
end Go.Proofs.Yticaheiomidanaa
