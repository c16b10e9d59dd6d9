/- Plain: the table of objects, and the bounds. -/
import Derived.Test.YtmocjpcnohnfpaaGreatK3
namespace Go.Proofs.YtmocjpcnohnfpaaGreat.Tb
open Go.ChangeShapes Go.WideShapes Go.ChangeAt Go.RowKit
set_option linter.unusedVariables false
set_option linter.unusedSimpArgs false

/-- may an object be made so? -/
def tbIn (k p q : Int) : Prop :=
  (k = 0 → 1 ≤ p ∧ p ≤ 64) ∧ (k = 4 → 1 ≤ p ∧ p ≤ 12) ∧ (k = 5 → 1 ≤ p ∧ p ≤ 64) ∧ (k = 6 → (1 ≤ p ∧ p ≤ 16) ∧ 1 ≤ q ∧ q ≤ 64) ∧ (k = 7 → (0 ≤ p ∧ p ≤ 7) ∧ 1 ≤ q ∧ q ≤ 256) ∧ (k = 8 → (1 ≤ p ∧ p ≤ 32) ∧ 0 ≤ q ∧ q ≤ 3) ∧ (k = 9 → 1 ≤ p ∧ p ≤ 8)
instance (k p q : Int) : Decidable (tbIn k p q) := by unfold tbIn; infer_instance
/-- how many words -/
def tbSz (n k p q : Int) : Int :=
  if k = 0 then p else if k = 1 then 1 else if k = 2 then n else if k = 3 then 1 else if k = 4 then 2 ^ p.toNat - 1 else if k = 5 then n + n * p * (n + 1) else if k = 6 then p + n * q * (p + 1) else if k = 7 then n + q else if k = 8 then 6 + n + 4 * (n * p) else 1 + (n + 1) * (p + 1)
def tbErr (n k p q : Int) : Int := if ¬ (1 ≤ n ∧ n ≤ 16) then 1 else if ¬ (0 ≤ k ∧ k ≤ 9) then 9 else if tbIn k p q then 0 else 10
def tbN (n k p q : Int) : Int := if tbErr n k p q = 0 then tbSz n k p q else 0
/-- how many operations -/
def tbTyp (p : Int) : Int := if 0 ≤ p ∧ p ≤ 7 then (if p = 2 ∨ p = 3 ∨ p = 4 then 3 else 2) else 0
def tbKn (k p : Int) : Int := if ¬ (0 ≤ k ∧ k ≤ 9) then 0 else if k = 0 then 4 else if k = 3 then 3 else if k = 7 then tbTyp p else 2
/-- how many steps: the operation 0, each other one -/
def tbQ (n p q : Int) : Int := (n + 1) * (15 * (2 * n * n + 8) + 1) + p + 14 * q + n + 14
def tbF (n k p q : Int) : Int :=
  if k = 0 then 1 else if k = 1 then 2 else if k = 2 then 2 else if k = 3 then 1 else if k = 4 then p else if k = 5 then n * n + 3 * n + 2 else if k = 6 then p * (n + 3) + 2 else if k = 7 then 4 * q + 1 else if k = 8 then tbQ n p q else n + p + 1
def tbG (n k p q : Int) : Int :=
  if k = 0 then 1 else if k = 1 then 1 else if k = 2 then n else if k = 3 then 1 else if k = 4 then p else if k = 5 then n * n + 2 * n else if k = 6 then p * (n + 2) else if k = 7 then 4 * q + 1 else if k = 8 then tbQ n p q else p + 2
def tbM (n k p q d : Int) : Int × Int := if tbErr n k p q ≠ 0 then (0, tbErr n k p q) else if ¬ (0 ≤ d ∧ d < tbKn k p) then (0, 9) else (if d = 0 then tbF n k p q else tbG n k p q, 0)
theorem tb_nine {k : Int} (h : 0 ≤ k ∧ k ≤ 9) : k = 0 ∨ k = 1 ∨ k = 2 ∨ k = 3 ∨ k = 4 ∨ k = 5 ∨ k = 6 ∨ k = 7 ∨ k = 8 ∨ k = 9 := by omega
theorem mul_bd {a b A B : Int} (ha : 0 ≤ a ∧ a ≤ A) (hb : 0 ≤ b ∧ b ≤ B) : 0 ≤ a * b ∧ a * b ≤ A * B := ⟨Int.mul_nonneg ha.1 hb.1, Int.mul_le_mul ha.2 hb.2 hb.1 (by omega)⟩
theorem mul_pos1 {a b : Int} (ha : 1 ≤ a) (hb : 1 ≤ b) : 1 ≤ a * b := by have := Int.mul_pos (show 0 < a by omega) (show 0 < b by omega); omega
theorem ret_pairI {k l : IntKind} {a b c d : Int} (h : a = b) (h2 : c = d) : Ending.returned (.tuple #[.int k a, .int l c]) = .returned (.tuple #[.int k b, .int l d]) := by rw [h, h2]
theorem tbTyp_no {p : Int} (h : ¬ (0 ≤ p ∧ p ≤ 7)) : tbTyp p = 0 := by unfold tbTyp; rw [if_neg h]
theorem tbTyp_3 {p : Int} (h : p = 2 ∨ p = 3 ∨ p = 4) : tbTyp p = 3 := by unfold tbTyp; rw [if_pos (by omega), if_pos h]
theorem tbTyp_2 {p : Int} (h : 0 ≤ p ∧ p ≤ 7) (h3 : ¬ (p = 2 ∨ p = 3 ∨ p = 4)) : tbTyp p = 2 := by unfold tbTyp; rw [if_pos h, if_neg h3]
theorem free_of_blkT {w : World} {b k : Nat} {c : Array Value} {t : TypeId} (h : w.heap[b]? = some (.cells c t (0, 0))) : w.frozen? ⟨b, k, none⟩ = false := by simp [World.frozen?, h]
theorem cell_of_blkT {w : World} {b k : Nat} {c : Array Value} {t : TypeId} {fr : Nat × Nat} {v : Value} (h : w.heap[b]? = some (.cells c t fr)) (hv : c[k]? = some v) : w.cell? ⟨b, k, none⟩ = some v := by
  unfold World.cell?; rw [h]; simpa using hv
end Go.Proofs.YtmocjpcnohnfpaaGreat.Tb
