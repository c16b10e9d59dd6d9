/- Plain: keys in their order. -/
import Derived.Test.YtlagfdbemmhahaaR
namespace Go.Proofs.Ytlagfdbemmhahaa
open Go.ChangeShapes Go.WideShapes Go.ChangeAt Go.RowKit
def cmpI (x y : Int) : Int := if x < y then -1 else if y < x then 1 else 0
theorem cmpI_lt {x y : Int} (h : x < y) : cmpI x y = -1 := by unfold cmpI; rw [if_pos h]
theorem cmpI_gt {x y : Int} (h : y < x) : cmpI x y = 1 := by unfold cmpI; rw [if_neg (by omega), if_pos h]
theorem cmpI_eq (x : Int) : cmpI x x = 0 := by unfold cmpI; simp
/-- how a stands to b: -1, 0, 1 -/
def cmpL : List Int → List Int → Int
  | [], [] => 0
  | [], _ :: _ => -1
  | _ :: _, [] => 1
  | x :: a, y :: b => if x < y then -1 else if y < x then 1 else cmpL a b
theorem cmpL_lt {x y : Int} {a b : List Int} (h : x < y) : cmpL (x :: a) (y :: b) = -1 := by rw [cmpL, if_pos h]
theorem cmpL_gt {x y : Int} {a b : List Int} (h : y < x) : cmpL (x :: a) (y :: b) = 1 := by rw [cmpL, if_neg (by omega), if_pos h]
theorem cmpL_eq {x : Int} {a b : List Int} : cmpL (x :: a) (x :: b) = cmpL a b := by rw [cmpL, if_neg (by omega), if_neg (by omega)]
theorem cmpL_three (a : List Int) : ∀ b, cmpL a b = -1 ∨ cmpL a b = 0 ∨ cmpL a b = 1 := by
  induction a with
  | nil => intro b; cases b <;> simp [cmpL]
  | cons x a ih =>
    intro b
    cases b with
    | nil => simp [cmpL]
    | cons y b =>
      rcases Int.lt_trichotomy x y with h | h | h
      · left; exact cmpL_lt h
      · subst h; rw [cmpL_eq]; exact ih b
      · right; right; exact cmpL_gt h
theorem cmpL_neg (a : List Int) : ∀ b, cmpL b a = - cmpL a b := by
  induction a with
  | nil => intro b; cases b <;> rfl
  | cons x a ih =>
    intro b
    cases b with
    | nil => rfl
    | cons y b =>
      rcases Int.lt_trichotomy x y with h | h | h
      · rw [cmpL_lt h, cmpL_gt h]; rfl
      · subst h; rw [cmpL_eq, cmpL_eq]; exact ih b
      · rw [cmpL_lt h, cmpL_gt h]
theorem cmpL_self (a : List Int) : cmpL a a = 0 := by
  induction a with
  | nil => rfl
  | cons x a ih => rw [cmpL_eq, ih]
theorem cmpL_zero (a : List Int) : ∀ b, cmpL a b = 0 → a = b := by
  induction a with
  | nil => intro b h; cases b with | nil => rfl | cons y b => exact absurd (show (-1 : Int) = 0 from h) (by decide)
  | cons x a ih =>
    intro b h
    cases b with
    | nil => exact absurd (show (1 : Int) = 0 from h) (by decide)
    | cons y b =>
      rcases Int.lt_trichotomy x y with h1 | h1 | h1
      · rw [cmpL_lt h1] at h; exact absurd h (by decide)
      · subst h1; rw [cmpL_eq] at h; rw [ih b h]
      · rw [cmpL_gt h1] at h; exact absurd h (by decide)
/-- what stands ahead of what stands ahead of a third stands ahead of that -/
theorem cmpL_trans (a : List Int) : ∀ b c, cmpL a b = -1 → cmpL b c = -1 → cmpL a c = -1 := by
  induction a with
  | nil =>
    intro b c h1 h2
    cases c with
    | nil => cases b with | nil => exact absurd (show (0 : Int) = -1 from h1) (by decide) | cons y b => exact absurd (show (1 : Int) = -1 from h2) (by decide)
    | cons z c => rfl
  | cons x a ih =>
    intro b c h1 h2
    cases b with
    | nil => exact absurd (show (1 : Int) = -1 from h1) (by decide)
    | cons y b =>
      cases c with
      | nil => exact absurd (show (1 : Int) = -1 from h2) (by decide)
      | cons z c =>
        rcases Int.lt_trichotomy x y with k1 | k1 | k1
        · rcases Int.lt_trichotomy y z with k2 | k2 | k2
          · exact cmpL_lt (by omega)
          · exact cmpL_lt (by omega)
          · rw [cmpL_gt k2] at h2; exact absurd h2 (by decide)
        · subst k1
          rw [cmpL_eq] at h1
          rcases Int.lt_trichotomy x z with k2 | k2 | k2
          · exact cmpL_lt k2
          · subst k2; rw [cmpL_eq] at h2 ⊢; exact ih b c h1 h2
          · rw [cmpL_gt k2] at h2; exact absurd h2 (by decide)
        · rw [cmpL_gt k1] at h1; exact absurd h1 (by decide)
/-- does a stand ahead of b? -/
def aheadB (a b : List Int) : Bool := decide (cmpL a b = -1)
theorem aheadB_yes {a b : List Int} (h : cmpL a b = -1) : aheadB a b = true := decide_eq_true h
theorem aheadB_no {a b : List Int} (h : cmpL a b ≠ -1) : aheadB a b = false := decide_eq_false h
/-- does the key lie between the ticks? -/
def withinB (k : List Int) (inv resp : Int) : Bool :=
  match k with
  | [] => false
  | x :: _ => decide (0 ≤ x) && decide (inv ≤ x / 2) && (decide (resp = 0) || decide (x / 2 + x % 2 ≤ resp))
end Go.Proofs.Ytlagfdbemmhahaa
