/- Plain: a descriptor's word, and what a word tells. -/
import Derived.Test.YtgfmidpcgoadlaaDoorP
namespace Go.Proofs.YtgfmidpcgoadlaaDoor

/-- what is put above a word that is 0 from the bit a on is added -/
theorem pu_low {w a s v : Nat} (hw : w < 2 ^ a) (h : a + s ≤ 64) : pu w a s v = w + v * 2 ^ a := by
  have e1 : w &&& (18446744073709551615 - ones s * 2 ^ a) = w := by
    apply Nat.eq_of_testBit_eq
    intro i
    rw [Nat.testBit_and]
    by_cases hi : i < a
    · rw [testBit_not64 _ _ (ones_shift s a h) (by omega), testBit_mul_pow]
      simp [show ¬ a ≤ i by omega]
    · rw [Nat.testBit_lt_two_pow (Nat.lt_of_lt_of_le hw (Nat.pow_le_pow_right (by decide) (by omega)))]; simp
  unfold pu
  rw [e1, Nat.or_comm, Nat.mul_comm v, ← Nat.two_pow_add_eq_or_of_lt hw]
  omega

/-- the word of a descriptor -/
def dWord (p t : Bool) (l f : Nat) : Nat := p.toNat + 2 * t.toNat + 4 * l + 4294967296 * f
/-- its fields, packed: the error, and the word -/
def dPk (p t : Bool) (l f : Nat) : Nat × Nat := packGo [(1, p.toNat), (1, t.toNat), (30, l), (32, f)] 0 0
theorem dPk_yes {p t : Bool} {l f : Nat} (hl : l < 1073741824) (hf : f < 4294967296) : dPk p t l f = (0, dWord p t l f) := by
  have bp : p.toNat < 2 := Bool.toNat_lt p
  have bt : t.toNat < 2 := Bool.toNat_lt t
  unfold dPk
  have h1 : pu 0 0 1 p.toNat = p.toNat := by rw [pu_low (by decide) (by decide)]; omega
  have h2 : pu p.toNat 1 1 t.toNat = p.toNat + t.toNat * 2 := by rw [pu_low (by omega) (by decide)]
  have h3 : pu (p.toNat + t.toNat * 2) 2 30 l = p.toNat + t.toNat * 2 + l * 4 := by rw [pu_low (by omega) (by decide)]
  have h4 : pu (p.toNat + t.toNat * 2 + l * 4) 32 32 f = p.toNat + t.toNat * 2 + l * 4 + f * 4294967296 := by rw [pu_low (by omega) (by decide)]
  rw [show ((1 : Int), p.toNat) = (((1 : Nat) : Int), p.toNat) from rfl, packGo_next (s := 1) (a := 0) (w := 0) (by decide) (by decide) (by simpa using bp), h1,
    show ((1 : Int), t.toNat) = (((1 : Nat) : Int), t.toNat) from rfl, packGo_next (s := 1) (by decide) (by decide) (by simpa using bt), h2,
    show ((30 : Int), l) = (((30 : Nat) : Int), l) from rfl, packGo_next (s := 30) (by decide) (by decide) (by omega), h3,
    show ((32 : Int), f) = (((32 : Nat) : Int), f) from rfl, packGo_next (s := 32) (by decide) (by decide) (by omega), h4]
  unfold packGo dWord
  rw [Prod.mk.injEq]; omega
theorem dPk_no {p t : Bool} {l f : Nat} (h : ¬ (l < 1073741824 ∧ f < 4294967296)) : dPk p t l f = (10, 0) := by
  have bp : p.toNat < 2 := Bool.toNat_lt p
  have bt : t.toNat < 2 := Bool.toNat_lt t
  unfold dPk
  rw [show ((1 : Int), p.toNat) = (((1 : Nat) : Int), p.toNat) from rfl, packGo_next (s := 1) (a := 0) (w := 0) (by decide) (by decide) (by simpa using bp),
    show ((1 : Int), t.toNat) = (((1 : Nat) : Int), t.toNat) from rfl, packGo_next (s := 1) (by decide) (by decide) (by simpa using bt)]
  by_cases hl : l < 1073741824
  · rw [show ((30 : Int), l) = (((30 : Nat) : Int), l) from rfl, packGo_next (s := 30) (by decide) (by decide) (by omega),
      show ((32 : Int), f) = (((32 : Nat) : Int), f) from rfl, packGo_range (s := 32) (by decide) (by decide) (by omega)]
  · rw [show ((30 : Int), l) = (((30 : Nat) : Int), l) from rfl, packGo_range (s := 30) (by decide) (by decide) (by omega)]
theorem dWord_lt {p t : Bool} {l f : Nat} (hl : l < 1073741824) (hf : f < 4294967296) : dWord p t l f < 18446744073709551616 := by
  have bp : p.toNat < 2 := Bool.toNat_lt p
  have bt : t.toNat < 2 := Bool.toNat_lt t
  unfold dWord; omega
/-- what a word tells -/
def dP (n : Nat) : Bool := n % 2 == 1
def dT (n : Nat) : Bool := n / 2 % 2 == 1
def dL (n : Nat) : Nat := n / 4 % 1073741824
def dF (n : Nat) : Nat := n / 4294967296
theorem dL_lt (n : Nat) : dL n < 1073741824 := Nat.mod_lt _ (by decide)
theorem dF_lt {n : Nat} (h : n < 18446744073709551616) : dF n < 4294967296 := by unfold dF; omega
theorem dP_fld (n : Nat) : (fld n 0 1 == 1) = dP n := by unfold fld dP; simp
theorem dT_fld (n : Nat) : (fld n 1 1 == 1) = dT n := by unfold fld dT; simp
theorem dL_fld (n : Nat) : fld n 2 30 = dL n := rfl
theorem dF_fld {n : Nat} (h : n < 18446744073709551616) : fld n 32 32 = dF n := by unfold fld dF; simp; omega
theorem toNat_dP (n : Nat) : (dP n).toNat = n % 2 := by
  unfold dP
  rcases Nat.mod_two_eq_zero_or_one n with h | h <;> simp [h]
theorem toNat_dT (n : Nat) : (dT n).toNat = n / 2 % 2 := by
  unfold dT
  rcases Nat.mod_two_eq_zero_or_one (n / 2) with h | h <;> simp [h]
/-- EACH WORD IS THE WORD OF ONE DESCRIPTOR -/
theorem dWord_of (n : Nat) : dWord (dP n) (dT n) (dL n) (dF n) = n := by
  unfold dWord; rw [toNat_dP, toNat_dT]; unfold dL dF; omega
theorem toNat_beq (b : Bool) : (b.toNat == 1) = b := by cases b <;> rfl
theorem dP_word {p t : Bool} {l f : Nat} : dP (dWord p t l f) = p := by
  have bp : p.toNat < 2 := Bool.toNat_lt p
  have e : dWord p t l f % 2 = p.toNat := by unfold dWord; omega
  unfold dP; rw [e]; exact toNat_beq p
theorem dT_word {p t : Bool} {l f : Nat} : dT (dWord p t l f) = t := by
  have bp : p.toNat < 2 := Bool.toNat_lt p
  have bt : t.toNat < 2 := Bool.toNat_lt t
  have e : dWord p t l f / 2 % 2 = t.toNat := by unfold dWord; omega
  unfold dT; rw [e]; exact toNat_beq t
theorem dL_word {p t : Bool} {l f : Nat} (hl : l < 1073741824) : dL (dWord p t l f) = l := by
  have bp : p.toNat < 2 := Bool.toNat_lt p
  have bt : t.toNat < 2 := Bool.toNat_lt t
  unfold dL dWord; omega
theorem dF_word {p t : Bool} {l f : Nat} (hl : l < 1073741824) : dF (dWord p t l f) = f := by
  have bp : p.toNat < 2 := Bool.toNat_lt p
  have bt : t.toNat < 2 := Bool.toNat_lt t
  unfold dF dWord; omega
end Go.Proofs.YtgfmidpcgoadlaaDoor
