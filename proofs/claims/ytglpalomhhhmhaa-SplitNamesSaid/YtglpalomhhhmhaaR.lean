/- Plain: regions laid one after the other. -/
import Derived.Test.YtglpalomhhhmhaaK
namespace Go.Proofs.Ytglpalomhhhmhaa
open Go.ChangeShapes Go.WideShapes Go.ChangeAt Go.RowKit
/-- why sizes may not be laid behind e (0: they may) -/
def wrongGo : List Int → Int → Nat
  | [], _ => 0
  | s :: l, e => if s < 0 then 1 else if 65536 - e < s then 3 else wrongGo l (e + s)
def sumZ : List Int → Int
  | [] => 0
  | s :: l => s + sumZ l
/-- where a region begins -/
def beg (l : List Int) (i : Nat) : Int := sumZ (l.take i)
theorem beg_zero (l : List Int) : beg l 0 = 0 := rfl
theorem sumZ_append (a b : List Int) : sumZ (a ++ b) = sumZ a + sumZ b := by
  induction a with
  | nil => simp [sumZ]
  | cons x a ih => simp [sumZ, ih, Int.add_assoc]
theorem beg_succ {l : List Int} {i : Nat} {s : Int} (h : l[i]? = some s) : beg l (i + 1) = beg l i + s := by
  unfold beg; rw [take_snoc h, sumZ_append]; simp [sumZ]
theorem wrongGo_arg {s e : Int} {l : List Int} (h : s < 0) : wrongGo (s :: l) e = 1 := by rw [wrongGo, if_pos h]
theorem wrongGo_long {s e : Int} {l : List Int} (h : 0 ≤ s) (h2 : 65536 - e < s) : wrongGo (s :: l) e = 3 := by rw [wrongGo, if_neg (by omega), if_pos h2]
theorem wrongGo_next {s e : Int} {l : List Int} (h : 0 ≤ s) (h2 : s ≤ 65536 - e) : wrongGo (s :: l) e = wrongGo l (e + s) := by rw [wrongGo, if_neg (by omega), if_neg (by omega)]
/-- of sizes that may be laid, each one fits -/
theorem laid_each (l : List Int) : ∀ e : Int, 0 ≤ e → e ≤ 65536 → wrongGo l e = 0 → ∀ i : Nat, i ≤ l.length → 0 ≤ beg l i ∧ e + beg l i ≤ 65536 ∧ ∀ s, l[i]? = some s → 0 ≤ s ∧ e + beg l i + s ≤ 65536 := by
  induction l with
  | nil => intro e h0 h1 _ i hi; refine ⟨by simp [beg, sumZ], by simp [beg, sumZ]; omega, fun s h => by simp at h⟩
  | cons x l ih =>
    intro e h0 h1 h i hi
    by_cases hx : x < 0
    · rw [wrongGo_arg hx] at h; cases h
    · by_cases hx2 : 65536 - e < x
      · rw [wrongGo_long (by omega) hx2] at h; cases h
      · rw [wrongGo_next (by omega) (by omega)] at h
        cases i with
        | zero =>
          refine ⟨by simp [beg, sumZ], by simp [beg, sumZ]; omega, fun s hs => ?_⟩
          simp at hs; subst hs
          simp [beg, sumZ]; omega
        | succ i =>
          obtain ⟨a, b, c⟩ := ih (e + x) (by omega) (by omega) h i (by simpa using hi)
          have eb : beg (x :: l) (i + 1) = x + beg l i := rfl
          rw [eb]
          refine ⟨by omega, by omega, fun s hs => ?_⟩
          have := c s (by simpa using hs)
          omega
theorem laid_at {l : List Int} (h : wrongGo l 0 = 0) {i : Nat} (hi : i ≤ l.length) : 0 ≤ beg l i ∧ beg l i ≤ 65536 := by
  have := laid_each l 0 (by omega) (by omega) h i hi; omega
theorem laid_size {l : List Int} (h : wrongGo l 0 = 0) {i : Nat} {s : Int} (hi : l[i]? = some s) : 0 ≤ s ∧ beg l i + s ≤ 65536 := by
  have hl := (List.getElem?_eq_some_iff.1 hi).1
  have := (laid_each l 0 (by omega) (by omega) h i (by omega)).2.2 s hi; omega
theorem beg_mono {l : List Int} (h : wrongGo l 0 = 0) {i k : Nat} (hik : i ≤ k) (hk : k ≤ l.length) : beg l i ≤ beg l k := by
  induction k with
  | zero => have : i = 0 := by omega
            subst this; omega
  | succ k ih =>
    by_cases he : i = k + 1
    · subst he; omega
    · have hx : l[k]? = some l[k] := List.getElem?_eq_getElem (by omega)
      have h1 := ih (by omega) (by omega)
      have h2 := beg_succ hx
      have h3 := laid_size h hx
      omega
/-- the end of a region is not behind the beginning of a later one -/
theorem beg_next {l : List Int} (h : wrongGo l 0 = 0) {i k : Nat} {s : Int} (hi : l[i]? = some s) (hik : i < k) (hk : k ≤ l.length) : beg l i + s ≤ beg l k := by
  rw [← beg_succ hi]; exact beg_mono h hik hk
/-- NO ADDRESS IS IN TWO REGIONS -/
theorem one_region {l : List Int} (h : wrongGo l 0 = 0) {i k : Nat} {s t a : Int} (hi : l[i]? = some s) (hk : l[k]? = some t) (ha : beg l i ≤ a ∧ a < beg l i + s) (hb : beg l k ≤ a ∧ a < beg l k + t) : i = k := by
  have li := (List.getElem?_eq_some_iff.1 hi).1
  have lk := (List.getElem?_eq_some_iff.1 hk).1
  rcases Nat.lt_trichotomy i k with h1 | h1 | h1
  · have := beg_next h hi h1 (by omega); omega
  · exact h1
  · have := beg_next h hk h1 (by omega); omega
/-- the beginnings of the first j -/
def bgs (l : List Int) (j : Nat) : List Value := (List.range j).map fun i => Value.int .i64 (beg l i)
theorem bgs_succ (l : List Int) (j : Nat) : bgs l (j + 1) = bgs l j ++ [Value.int .i64 (beg l j)] := by
  unfold bgs; rw [List.range_succ, List.map_append]; rfl
theorem bgs_get (l : List Int) {j i : Nat} (h : i < j) : (bgs l j)[i]? = some (Value.int .i64 (beg l i)) := by
  unfold bgs; rw [List.getElem?_map, List.getElem?_range h]; rfl
theorem drop_cons {l : List Int} {j : Nat} {x : Int} (h : l[j]? = some x) : l.drop j = x :: l.drop (j + 1) := by
  have hl := (List.getElem?_eq_some_iff.1 h).1
  rw [List.drop_eq_getElem_cons hl]
  rw [List.getElem?_eq_getElem hl, Option.some.injEq] at h
  rw [h]
/-- numbers lie in a row -/
def ICells (w : World) (b o : Nat) (l : List Int) : Prop :=
  ∀ (i : Nat) (x : Int), l[i]? = some x → w.cell? ⟨b, o + i, none⟩ = some (.int .i64 x) ∧ (-9223372036854775808 ≤ x ∧ x ≤ 9223372036854775807)
theorem ICells.stays {w wr : World} {b o B : Nat} {l : List Int} (h : ICells w b o l) (hb : Below B w wr) (hB : 0 < l.length → b < B) : ICells wr b o l := by
  intro i x hx
  have hl : 0 < l.length := by have := (List.getElem?_eq_some_iff.1 hx).1; omega
  obtain ⟨h1, h3⟩ := h i x hx
  exact ⟨(hb.cell (p := ⟨b, _, none⟩) (hB hl)).trans h1, h3⟩
end Go.Proofs.Ytglpalomhhhmhaa
