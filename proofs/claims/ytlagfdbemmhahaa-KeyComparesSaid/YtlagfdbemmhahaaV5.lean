/- Plain: the place of a key among others. -/
import Derived.Test.YtlagfdbemmhahaaV4
namespace Go.Proofs.Ytlagfdbemmhahaa
open Go.RowKit

/-- does the k-th come ahead of the i-th? -/
def ltB (ls : List (List Int)) (k i : Nat) : Bool := decide (cfI ls k i < 0)
theorem ltB_iff (ls : List (List Int)) (k i : Nat) : ltB ls k i = true ↔ cmpL (atK ls k) (atK ls i) = -1 ∨ (cmpL (atK ls k) (atK ls i) = 0 ∧ k < i) := by
  unfold ltB cfI
  rw [decide_eq_true_iff]
  rcases cmpL_three (atK ls k) (atK ls i) with h | h | h
  · rw [h, orL_not _ (by decide)]; simp
  · rw [h, orL_zero]
    rcases Nat.lt_trichotomy k i with h1 | h1 | h1
    · rw [cmpI_lt (by omega), orL_not _ (by decide)]; simp [h1]
    · subst h1; rw [cmpI_eq, orL_zero]; simp [orL]
    · rw [cmpI_gt (by omega), orL_not _ (by decide)]; simp; omega
  · rw [h, orL_not _ (by decide)]; simp
theorem ltB_irrefl (ls : List (List Int)) (k : Nat) : ltB ls k k = false := by
  rw [Bool.eq_false_iff, ne_eq, ltB_iff, cmpL_self]; omega
theorem ltB_trans (ls : List (List Int)) {i j k : Nat} (h1 : ltB ls i j = true) (h2 : ltB ls j k = true) : ltB ls i k = true := by
  rw [ltB_iff] at *
  rcases h1 with h1 | ⟨h1, l1⟩
  · rcases h2 with h2 | ⟨h2, l2⟩
    · exact .inl (cmpL_trans _ _ _ h1 h2)
    · rw [← cmpL_zero _ _ h2]; exact .inl h1
  · rcases h2 with h2 | ⟨h2, l2⟩
    · rw [cmpL_zero _ _ h1]; exact .inl h2
    · rw [cmpL_zero _ _ h1]; exact .inr ⟨h2, by omega⟩
/-- of two places one comes ahead -/
theorem ltB_total (ls : List (List Int)) {i j : Nat} (h1 : ltB ls i j = false) (h2 : ltB ls j i = false) : i = j := by
  rw [Bool.eq_false_iff, ne_eq, ltB_iff] at h1 h2
  have hn := cmpL_neg (atK ls i) (atK ls j)
  rcases cmpL_three (atK ls i) (atK ls j) with h | h | h <;> rw [h] at hn h1 <;> rw [hn] at h2 <;> omega
theorem ltB_ntrans (ls : List (List Int)) {i j k : Nat} (h1 : ltB ls i j = false) (h2 : ltB ls j k = false) : ltB ls i k = false := by
  cases h : ltB ls i k with
  | false => rfl
  | true =>
    cases h3 : ltB ls k j with
    | true => rw [ltB_trans ls h h3] at h1; cases h1
    | false =>
      have := ltB_total ls h2 h3
      subst this
      rw [h] at h1; cases h1
/-- how many of the first j come ahead of the i-th -/
def cntTo (ls : List (List Int)) (i j : Nat) : Nat := (List.range j).countP fun k => ltB ls k i
theorem cntTo_succ (ls : List (List Int)) (i j : Nat) : cntTo ls i (j + 1) = cntTo ls i j + if ltB ls j i = true then 1 else 0 := by
  unfold cntTo; rw [List.range_succ, List.countP_append, List.countP_singleton]
theorem cntTo_le (ls : List (List Int)) (i j : Nat) : cntTo ls i j ≤ j := by
  unfold cntTo; have := List.countP_le_length (p := fun k => ltB ls k i) (l := List.range j); rwa [List.length_range] at this
/-- the place of the i-th -/
def rank (ls : List (List Int)) (i : Nat) : Nat := cntTo ls i ls.length
theorem range_fin (n : Nat) : (List.finRange n).map (fun x : Fin n => x.val) = List.range n := by
  apply List.ext_getElem
  · simp
  · intro i h1 h2; simp
/-- of a list in order, at the place i there is i -/
theorem place_of {n : Nat} (ls : List (List Int)) (hn : ls.length = n) (s : List (Fin n)) (hp : s.Perm (List.finRange n)) (hs : s.Pairwise fun x y : Fin n => ltB ls y x = false) (i : Fin n) : s[rank ls i]? = some i := by
  have hm : i ∈ s := hp.symm.subset (List.mem_finRange i)
  obtain ⟨a, b, rfl⟩ := List.append_of_mem hm
  have hnd : (a ++ i :: b).Nodup := hp.symm.nodup (List.nodup_finRange n)
  rw [List.pairwise_append] at hs
  obtain ⟨_, hs2, hs3⟩ := hs
  rw [List.pairwise_cons] at hs2
  have hc : (a ++ i :: b).countP (fun k : Fin n => ltB ls k i) = a.length := by
    rw [List.countP_append, List.countP_cons, ltB_irrefl, List.countP_eq_length.2, List.countP_eq_zero.2]
    · simp
    · intro x hx h
      have := hs2.1 x hx
      rw [h] at this; cases this
    · intro x hx
      cases h : ltB ls x i with
      | true => rfl
      | false =>
        have h2 := hs3 x hx i (by simp)
        have : x.val = i.val := ltB_total ls h h2
        have : x = i := Fin.ext this
        subst this
        rw [List.nodup_append] at hnd
        exact absurd rfl (hnd.2.2 x hx x (by simp))
  have hr : rank ls i = a.length := by
    rw [← hc, hp.countP_eq]
    unfold rank cntTo
    rw [hn, ← range_fin, List.countP_map]
    rfl
  rw [hr]
  simp
end Go.Proofs.Ytlagfdbemmhahaa
