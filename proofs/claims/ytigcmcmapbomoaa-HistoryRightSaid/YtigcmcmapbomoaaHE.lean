/- history: Width, plainly: how many are under way at once. -/
import Derived.Test.YtigcmcmapbomoaaHD
namespace Go.Proofs.Ytigcmcmapbomoaa
open Go.RowKit
set_option linter.unusedVariables false
set_option linter.unusedSimpArgs false

def begOf (x : EvL) : List Int := if done x = false ∨ x.iv ≤ x.rs then [x.iv] else []
def endOf (x : EvL) : List Int := if done x = true ∧ x.iv ≤ x.rs then [x.rs] else []
def bgs (l : List EvL) : List Int := l.flatMap begOf
def ens (l : List EvL) : List Int := l.flatMap endOf
theorem bgs_snoc {l : List EvL} {j : Nat} {x : EvL} (h : l[j]? = some x) : bgs (l.take (j + 1)) = bgs (l.take j) ++ begOf x := by rw [take_snoc h]; simp [bgs]
theorem ens_snoc {l : List EvL} {j : Nat} {x : EvL} (h : l[j]? = some x) : ens (l.take (j + 1)) = ens (l.take j) ++ endOf x := by rw [take_snoc h]; simp [ens]
theorem begOf_len (x : EvL) : (begOf x).length ≤ 1 := by unfold begOf; split <;> simp
theorem endOf_len (x : EvL) : (endOf x).length ≤ 1 := by unfold endOf; split <;> simp
theorem flat_len (f : EvL → List Int) (hf : ∀ x, (f x).length ≤ 1) : ∀ l : List EvL, (l.flatMap f).length ≤ l.length
  | [] => by simp
  | x :: r => by
    have h1 := flat_len f hf r
    have h2 := hf x
    rw [List.flatMap_cons, List.length_append, List.length_cons]
    omega
theorem bgs_len (l : List EvL) (j : Nat) : (bgs (l.take j)).length ≤ j := Nat.le_trans (flat_len _ begOf_len _) (by rw [List.length_take]; omega)
theorem ens_len (l : List EvL) (j : Nat) : (ens (l.take j)).length ≤ j := Nat.le_trans (flat_len _ endOf_len _) (by rw [List.length_take]; omega)

/-- in an ascending list those that are low enough stand in front -/
theorem pre_count (p : Int → Bool) (hp : ∀ a b, a ≤ b → p b = true → p a = true) : ∀ (l : List Int), l.Pairwise (· ≤ ·) → ∀ (i : Nat) (x : Int), l[i]? = some x → (p x = true ↔ i < l.countP p)
  | [], _, i, x, hx => by simp at hx
  | a :: r, hs, i, x, hx => by
    rw [List.pairwise_cons] at hs
    rw [List.countP_cons]
    by_cases ha : p a = true
    · rw [if_pos ha]
      cases i with
      | zero =>
        simp at hx
        subst hx
        simp [ha]
      | succ i =>
        rw [pre_count p hp r hs.2 i x (by simpa using hx)]
        omega
    · rw [if_neg ha]
      have hz : r.countP p = 0 := by
        rw [List.countP_eq_zero]
        intro b hb hpb
        exact ha (hp a b (hs.1 b hb) hpb)
      rw [hz]
      constructor
      · intro hx1
        exfalso
        cases i with
        | zero => simp at hx; subst hx; exact ha hx1
        | succ i => exact ha (hp a x (hs.1 x (List.mem_of_getElem? (by simpa using hx))) hx1)
      · intro h; omega
theorem low_lt (v a b : Int) (h : a ≤ b) : decide (b < v) = true → decide (a < v) = true := by simp; omega
theorem low_le (v a b : Int) (h : a ≤ b) : decide (b ≤ v) = true → decide (a ≤ v) = true := by simp; omega

def lower (E : List Int) (v : Int) : Nat := E.countP fun e => decide (e < v)
def upto (B : List Int) (v : Int) : Nat := B.countP fun b => decide (b ≤ v)
theorem lower_mono {E : List Int} {v u : Int} (h : v ≤ u) : lower E v ≤ lower E u := List.countP_mono_left (fun x _ hx => by simp at hx ⊢; omega)

/-- what the sweep has found when k are over -/
def wdI (B E : List Int) : Nat → Int
  | 0 => 0
  | k + 1 => max (wdI B E k) ((k : Int) + 1 - (lower E (B[k]?.getD 0) : Int))
theorem wdI_nonneg (B E : List Int) : ∀ k, 0 ≤ wdI B E k
  | 0 => Int.le_refl _
  | k + 1 => Int.le_trans (wdI_nonneg B E k) (Int.le_max_left _ _)
theorem wdI_le (B E : List Int) : ∀ k, wdI B E k ≤ k
  | 0 => Int.le_refl _
  | k + 1 => by
    have := wdI_le B E k
    unfold wdI
    rw [Int.max_le]
    constructor <;> omega
theorem wdI_ge (B E : List Int) : ∀ k i : Nat, i < k → (i : Int) + 1 - (lower E (B[i]?.getD 0) : Int) ≤ wdI B E k
  | 0, i, h => by omega
  | k + 1, i, h => by
    unfold wdI
    by_cases hi : i = k
    · subst hi; exact Int.le_max_right _ _
    · exact Int.le_trans (wdI_ge B E k i (by omega)) (Int.le_max_left _ _)
theorem wdI_is (B E : List Int) : ∀ k, wdI B E k = 0 ∨ ∃ i, i < k ∧ wdI B E k = (i : Int) + 1 - (lower E (B[i]?.getD 0) : Int)
  | 0 => .inl rfl
  | k + 1 => by
    unfold wdI
    rcases Int.le_total (wdI B E k) ((k : Int) + 1 - (lower E (B[k]?.getD 0) : Int)) with h | h
    · rw [Int.max_eq_right h]; exact .inr ⟨k, by omega, rfl⟩
    · rw [Int.max_eq_left h]
      rcases wdI_is B E k with h0 | ⟨i, hi, h1⟩
      · exact .inl h0
      · exact .inr ⟨i, by omega, h1⟩

/-- how many events a tick lies within -/
def cnt (l : List EvL) (t : Int) : Nat := l.countP fun x => within x t
theorem cnt_eq (t : Int) : ∀ l : List EvL, (cnt l t : Int) = (upto (bgs l) t : Int) - (lower (ens l) t : Int)
  | [] => rfl
  | x :: r => by
    have ih := cnt_eq t r
    have e1 : bgs (x :: r) = begOf x ++ bgs r := rfl
    have e2 : ens (x :: r) = endOf x ++ ens r := rfl
    have h1 : (upto (begOf x) t : Int) - (lower (endOf x) t : Int) = if within x t = true then 1 else 0 := by
      unfold begOf endOf within upto lower done
      by_cases a1 : x.rs = 0
      · by_cases a2 : x.iv ≤ t <;> simp [a1, a2]
      · by_cases a2 : x.iv ≤ x.rs
        · by_cases a3 : x.iv ≤ t
          · by_cases a4 : t ≤ x.rs
            · have : ¬ x.rs < t := by omega
              simp [a1, a2, a3, a4, this]
            · have : x.rs < t := by omega
              simp [a1, a2, a3, a4, this]
          · have : ¬ x.rs < t := by omega
            simp [a1, a2, a3, this]
        · by_cases a3 : x.iv ≤ t
          · have : ¬ t ≤ x.rs := by omega
            simp [a1, a2, a3, this]
          · simp [a1, a2, a3]
    have h2 : upto (begOf x ++ bgs r) t = upto (begOf x) t + upto (bgs r) t := List.countP_append
    have h3 : lower (endOf x ++ ens r) t = lower (endOf x) t + lower (ens r) t := List.countP_append
    have h4 : cnt (x :: r) t = cnt r t + if within x t = true then 1 else 0 := List.countP_cons
    rw [e1, e2, h2, h3, h4]
    by_cases hw : within x t = true
    · rw [if_pos hw] at h1 ⊢; omega
    · rw [if_neg hw] at h1 ⊢; omega

def srt (l : List Int) : List Int := l.mergeSort fun x y => decide (x ≤ y)
theorem srt_perm (l : List Int) : (srt l).Perm l := List.mergeSort_perm _ _
theorem srt_sorted (l : List Int) : (srt l).Pairwise (· ≤ ·) := by
  have := List.pairwise_mergeSort (le := fun x y : Int => decide (x ≤ y)) (fun a b c h1 h2 => by simp at h1 h2 ⊢; omega) (fun a b => by simp; omega) l
  exact this.imp (fun h => by simpa using h)
theorem srt_len (l : List Int) : (srt l).length = l.length := (srt_perm l).length_eq
theorem srt_upto (l : List Int) (t : Int) : upto (srt l) t = upto l t := (srt_perm l).countP_eq _
theorem srt_lower (l : List Int) (t : Int) : lower (srt l) t = lower l t := (srt_perm l).countP_eq _

/-- what Width answers -/
def wdt (l : List EvL) : Int := wdI (srt (bgs l)) (srt (ens l)) (srt (bgs l)).length
/-- what the law reckons -/
def wdL (l : List EvL) : Nat → Int
  | 0 => 0
  | k + 1 => max (wdL l k) (cnt l ((l[k]?.map EvL.iv).getD 0) : Int)
theorem wdL_nonneg (l : List EvL) : ∀ k, 0 ≤ wdL l k
  | 0 => Int.le_refl _
  | k + 1 => Int.le_trans (wdL_nonneg l k) (Int.le_max_left _ _)
theorem wdL_ge (l : List EvL) : ∀ (k i : Nat) (x : EvL), i < k → l[i]? = some x → (cnt l x.iv : Int) ≤ wdL l k
  | 0, i, x, h, _ => by omega
  | k + 1, i, x, h, hx => by
    unfold wdL
    by_cases hi : i = k
    · subst hi; rw [hx]; exact Int.le_max_right _ _
    · exact Int.le_trans (wdL_ge l k i x (by omega) hx) (Int.le_max_left _ _)
theorem wdL_le (l : List EvL) {m : Int} (hm : 0 ≤ m) (h : ∀ t, (cnt l t : Int) ≤ m) : ∀ k, wdL l k ≤ m
  | 0 => hm
  | k + 1 => by unfold wdL; rw [Int.max_le]; exact ⟨wdL_le l hm h k, h _⟩

theorem width_eq (l : List EvL) : wdt l = wdL l l.length := by
  apply Int.le_antisymm
  · unfold wdt
    rcases wdI_is (srt (bgs l)) (srt (ens l)) (srt (bgs l)).length with h | ⟨i, hi, h⟩
    · rw [h]; exact wdL_nonneg l _
    · rw [h]
      obtain ⟨t, ht⟩ : ∃ t, (srt (bgs l))[i]? = some t := ⟨_, List.getElem?_eq_getElem hi⟩
      rw [ht, Option.getD_some]
      have h1 := (pre_count (fun b => decide (b ≤ t)) (fun a b hab hb => low_le t a b hab hb) _ (srt_sorted (bgs l)) i t ht).1 (by simp)
      change i < upto (srt (bgs l)) t at h1
      rw [srt_upto] at h1
      rw [srt_lower]
      have h2 := cnt_eq t l
      have hm : t ∈ bgs l := (srt_perm _).mem_iff.1 (List.mem_of_getElem? ht)
      obtain ⟨x, hx, hxt⟩ := List.mem_flatMap.1 hm
      have hiv : t = x.iv := by
        unfold begOf at hxt
        split at hxt
        · simpa using hxt
        · simp at hxt
      obtain ⟨k, hk⟩ := List.getElem?_of_mem hx
      have h3 := wdL_ge l l.length k x (List.getElem?_eq_some_iff.1 hk).1 hk
      rw [← hiv] at h3
      omega
  · refine wdL_le l (wdI_nonneg _ _ _) (fun t => ?_) _
    rw [cnt_eq t l, ← srt_upto, ← srt_lower]
    by_cases hz : upto (srt (bgs l)) t = 0
    · rw [hz]; have := wdI_nonneg (srt (bgs l)) (srt (ens l)) (srt (bgs l)).length; omega
    · have hle : upto (srt (bgs l)) t ≤ (srt (bgs l)).length := List.countP_le_length
      obtain ⟨m, hm⟩ : ∃ m, upto (srt (bgs l)) t = m + 1 := ⟨upto (srt (bgs l)) t - 1, by omega⟩
      obtain ⟨b, hb⟩ : ∃ b, (srt (bgs l))[m]? = some b := ⟨_, List.getElem?_eq_getElem (by omega)⟩
      have h1 := (pre_count (fun b => decide (b ≤ t)) (fun a b hab hb => low_le t a b hab hb) _ (srt_sorted (bgs l)) m b hb).2 (by show m < upto _ _; omega)
      have h2 : b ≤ t := by simpa using h1
      have h3 := wdI_ge (srt (bgs l)) (srt (ens l)) (srt (bgs l)).length m (by omega)
      rw [hb, Option.getD_some] at h3
      have h4 := lower_mono (E := srt (ens l)) h2
      rw [hm]
      omega
end Go.Proofs.Ytigcmcmapbomoaa
