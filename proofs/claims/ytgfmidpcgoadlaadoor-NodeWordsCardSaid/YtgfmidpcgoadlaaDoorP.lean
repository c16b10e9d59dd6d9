/- Plain: packing. -/
import Derived.Test.YtgfmidpcgoadlaaDoorM
namespace Go.Proofs.YtgfmidpcgoadlaaDoor
/-- fields (size, number), packed from the bit a on, above w: the error, and the word -/
def packGo : List (Int × Nat) → Nat → Nat → Nat × Nat
  | [], _, w => (0, w)
  | (s, v) :: l, a, w => if s < 1 ∨ 64 < a + s then (1, 0) else if v < 2 ^ s.toNat then packGo l (a + s.toNat) (pu w a s.toNat v) else (10, 0)
theorem packGo_arg {s : Int} {v : Nat} {l : List (Int × Nat)} {a w : Nat} (h : s < 1 ∨ 64 < a + s) : packGo ((s, v) :: l) a w = (1, 0) := by
  rw [packGo, if_pos h]
theorem packGo_range {s v : Nat} {l : List (Int × Nat)} {a w : Nat} (h1 : 1 ≤ s) (h : a + s ≤ 64) (h2 : ¬ v < 2 ^ s) : packGo (((s : Int), v) :: l) a w = (10, 0) := by
  rw [packGo, if_neg (by omega), if_neg (by simpa using h2)]
theorem packGo_next {s v : Nat} {l : List (Int × Nat)} {a w : Nat} (h1 : 1 ≤ s) (h : a + s ≤ 64) (h2 : v < 2 ^ s) : packGo (((s : Int), v) :: l) a w = packGo l (a + s) (pu w a s v) := by
  rw [packGo, if_neg (by omega), if_pos (by simpa using h2)]; simp
/-- may fields have these sizes, from the bit a on? -/
def sizesGo : List Int → Nat → Bool
  | [], _ => true
  | s :: l, a => if s < 1 ∨ 64 < a + s then false else sizesGo l (a + s.toNat)
/-- the fields of n by these sizes, from the bit a on -/
def fields (n : Nat) : List Int → Nat → List Nat
  | [], _ => []
  | s :: l, a => fld n a s.toNat :: fields n l (a + s.toNat)
theorem fields_length (n : Nat) (l : List Int) : ∀ a, (fields n l a).length = l.length := by
  induction l with
  | nil => intro a; rfl
  | cons s l ih => intro a; simp [fields, ih]
/-- the sum of sizes -/
def total : List Int → Nat
  | [] => 0
  | s :: l => s.toNat + total l
theorem fields_get (n : Nat) (l : List Int) : ∀ (a i : Nat) (s : Int), l[i]? = some s → (fields n l a)[i]? = some (fld n (a + total (l.take i)) s.toNat) := by
  induction l with
  | nil => intro a i s h; simp at h
  | cons x l ih =>
    intro a i s h
    cases i with
    | zero => simp at h; subst h; simp [fields, total]
    | succ i => simp at h; simp [fields, total, ih _ i s h, Nat.add_assoc]
theorem total_succ (l : List Int) : ∀ (i : Nat) (s : Int), l[i]? = some s → total (l.take (i + 1)) = total (l.take i) + s.toNat := by
  induction l with
  | nil => intro i s h; simp at h
  | cons x l ih =>
    intro i s h
    cases i with
    | zero => simp at h; subst h; simp [total]
    | succ i => simp at h; simp [total, ih i s h, Nat.add_assoc]
/-- where sizes fit, each is a field's -/
theorem sizes_each (l : List Int) : ∀ a, sizesGo l a = true → ∀ (i : Nat) (s : Int), l[i]? = some s → 1 ≤ s ∧ (a + total (l.take i) : Nat) + s ≤ 64 := by
  induction l with
  | nil => intro a _ i s h; simp at h
  | cons x l ih =>
    intro a hs i s h
    rw [sizesGo] at hs
    split at hs
    · cases hs
    · rename_i hc
      cases i with
      | zero => simp at h; subst h; simp [total]; omega
      | succ i =>
        simp at h
        have := ih _ hs i s h
        simp only [List.take_succ_cons, total]
        omega
/-- WHAT IS UNPACKED IS PACKED TO THE LOWER BITS -/
theorem pack_fields (n : Nat) (l : List Int) : ∀ a, a ≤ 64 → sizesGo l a = true → packGo (l.zip (fields n l a)) a (fld n 0 a) = (0, fld n 0 (a + total l)) := by
  induction l with
  | nil => intro a _ _; rfl
  | cons x l ih =>
    intro a ha hs
    rw [sizesGo] at hs
    split at hs
    · cases hs
    · rename_i hc
      obtain ⟨t, rfl⟩ : ∃ t : Nat, x = t := ⟨x.toNat, by omega⟩
      simp only [fields, List.zip_cons_cons]
      simp only [Int.toNat_natCast] at hs ⊢
      rw [packGo_next (by omega) (by omega) (fld_lt _ _ _), pu_next n a t (by omega), ih (a + t) (by omega) hs]
      simp [total, Nat.add_assoc]
theorem total_le (l : List Int) : ∀ a, a ≤ 64 → sizesGo l a = true → a + total l ≤ 64 := by
  induction l with
  | nil => intro a h _; simpa [total] using h
  | cons x l ih =>
    intro a ha hs
    rw [sizesGo] at hs
    split at hs
    · cases hs
    · have := ih (a + x.toNat) (by omega) hs
      simp only [total]; omega
theorem fld_none (n : Nat) : fld n 0 0 = 0 := by unfold fld; omega
end Go.Proofs.YtgfmidpcgoadlaaDoor
