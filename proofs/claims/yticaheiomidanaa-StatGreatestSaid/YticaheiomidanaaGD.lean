/- Sums of numbers that are cut, plainly; how even they are: it is never above 1. -/
import Derived.Test.YticaheiomidanaaGC
namespace Go.Proofs.Yticaheiomidanaa
set_option exponentiation.threshold 4000
def cut (lo hi x : Int) : Int := if x < lo then lo else if hi < x then hi else x
def sm (lo hi : Int) (l : List Int) : Int := (l.map (cut lo hi)).sum
def sq (lo hi : Int) (l : List Int) : Int := (l.map (fun x => cut lo hi x * cut lo hi x)).sum
theorem cut_low {lo hi x : Int} (h : x < lo) : cut lo hi x = lo := if_pos h
theorem cut_high {lo hi x : Int} (h1 : ¬ x < lo) (h : hi < x) : cut lo hi x = hi := by unfold cut; rw [if_neg h1, if_pos h]
theorem cut_mid {lo hi x : Int} (h1 : ¬ x < lo) (h : ¬ hi < x) : cut lo hi x = x := by unfold cut; rw [if_neg h1, if_neg h]
theorem cut_range {lo hi : Int} (h : lo ≤ hi) (x : Int) : lo ≤ cut lo hi x ∧ cut lo hi x ≤ hi := by unfold cut; split <;> (try split) <;> omega
theorem cut_minmax {lo hi : Int} (h : lo ≤ hi) (x : Int) : min (max x lo) hi = cut lo hi x := by unfold cut; split <;> (try split) <;> omega
theorem sm_nil (lo hi : Int) : sm lo hi [] = 0 := rfl
theorem sq_nil (lo hi : Int) : sq lo hi [] = 0 := rfl
theorem sm_snoc (lo hi : Int) (l : List Int) (x : Int) : sm lo hi (l ++ [x]) = sm lo hi l + cut lo hi x := by
  unfold sm; rw [List.map_append, List.sum_append]; simp
theorem sq_snoc (lo hi : Int) (l : List Int) (x : Int) : sq lo hi (l ++ [x]) = sq lo hi l + cut lo hi x * cut lo hi x := by
  unfold sq; rw [List.map_append, List.sum_append]; simp
theorem sm_bound (b : Nat) (lo hi : Int) (h : lo ≤ hi) (hl : -(b : Int) ≤ lo) (hh : hi ≤ b) (l : List Int) : -((b * l.length : Nat) : Int) ≤ sm lo hi l ∧ sm lo hi l ≤ ((b * l.length : Nat) : Int) := by
  unfold sm
  induction l with
  | nil => simp
  | cons x l ih =>
    have := cut_range h x
    rw [List.map_cons, List.sum_cons, List.length_cons, Nat.mul_add, Nat.mul_one]
    omega

def nsum (l : List Nat) : Nat := l.sum
def nsq (l : List Nat) : Nat := (l.map (fun x => x * x)).sum
theorem two_mul_sq (x t : Nat) : 2 * x * t ≤ x * x + t * t := by
  rcases Nat.le_total x t with h | h
  · obtain ⟨d, rfl⟩ := Nat.exists_eq_add_of_le h
    grind
  · obtain ⟨d, rfl⟩ := Nat.exists_eq_add_of_le h
    grind
theorem nsum_t (t : Nat) (l : List Nat) : 2 * l.sum * t ≤ (l.map (fun x => x * x)).sum + l.length * (t * t) := by
  induction l with
  | nil => simp
  | cons x l ih =>
    have := two_mul_sq x t
    rw [List.map_cons, List.sum_cons, List.sum_cons, List.length_cons]
    grind
theorem cauchy (l : List Nat) : l.sum * l.sum ≤ l.length * (l.map (fun x => x * x)).sum := by
  induction l with
  | nil => simp
  | cons x l ih =>
    have := nsum_t x l
    rw [List.map_cons, List.sum_cons, List.sum_cons, List.length_cons]
    grind
theorem nsum_le (b : Nat) (l : List Nat) (h : ∀ x ∈ l, x ≤ b) : l.sum ≤ l.length * b := by
  induction l with
  | nil => simp
  | cons x l ih =>
    have h1 := h x (by simp)
    have h2 := ih (fun y hy => h y (by simp [hy]))
    rw [List.sum_cons, List.length_cons, Nat.add_mul, Nat.one_mul]
    omega
theorem nsq_zero (l : List Nat) : (l.map (fun x => x * x)).sum = 0 ↔ l.sum = 0 := by
  induction l with
  | nil => simp
  | cons x l ih =>
    rw [List.map_cons, List.sum_cons, List.sum_cons]
    have : x * x = 0 ↔ x = 0 := ⟨fun h => by rcases Nat.mul_eq_zero.1 h with h | h <;> exact h, fun h => by rw [h]⟩
    omega

/-- what sums of cut numbers are -/
theorem even_sums (l : List Int) (hl : l.length ≤ 4096) : ∃ s q : Nat, sm 0 1048576 l = (s : Int) ∧ sq 0 1048576 l = (q : Int) ∧ s ≤ 4294967296 ∧ q ≤ 4503599627370496 ∧ s * s ≤ l.length * q ∧ (q = 0 ↔ s = 0) := by
  let m := l.map (fun x => (cut 0 1048576 x).toNat)
  have hm : ∀ x ∈ m, x ≤ 1048576 := by
    intro x hx
    obtain ⟨y, _, rfl⟩ := List.mem_map.1 hx
    have := cut_range (show (0 : Int) ≤ 1048576 by decide) y
    omega
  have e1 : sm 0 1048576 l = ((m.sum : Nat) : Int) := by
    show (l.map _).sum = (((l.map _).sum : Nat) : Int)
    clear hm hl m
    induction l with
    | nil => rfl
    | cons x l ih =>
      have := cut_range (show (0 : Int) ≤ 1048576 by decide) x
      rw [List.map_cons, List.map_cons, List.sum_cons, List.sum_cons, ih]
      omega
  have e2 : sq 0 1048576 l = (((m.map (fun x => x * x)).sum : Nat) : Int) := by
    show (l.map _).sum = ((((l.map _).map _).sum : Nat) : Int)
    clear hm hl m e1
    induction l with
    | nil => rfl
    | cons x l ih =>
      have h := cut_range (show (0 : Int) ≤ 1048576 by decide) x
      rw [List.map_cons, List.map_cons, List.map_cons, List.sum_cons, List.sum_cons, ih]
      rw [Int.natCast_add, Int.natCast_mul, Int.toNat_of_nonneg h.1]
  have hlen : m.length = l.length := List.length_map ..
  refine ⟨m.sum, (m.map (fun x => x * x)).sum, e1, e2, ?_, ?_, ?_, nsq_zero m⟩
  · have := nsum_le 1048576 m hm
    rw [hlen] at this
    omega
  · have := nsum_le 1099511627776 (m.map (fun x => x * x)) (by
      intro x hx
      obtain ⟨y, hy, rfl⟩ := List.mem_map.1 hx
      have := hm y hy
      calc y * y ≤ 1048576 * 1048576 := Nat.mul_le_mul this this
        _ = 1099511627776 := by decide)
    rw [List.length_map, hlen] at this
    omega
  · rw [← hlen]; exact cauchy m

theorem rnd_top {x : Nat} (h : x ≤ 18446744073709551616) : rnd (x * 2 ^ 1074) ≤ 4953959590107545600 := by
  have h1 : rnd (x * 2 ^ 1074) ≤ rnd (1 * 2 ^ 1138) := by
    apply rnd_mono
    calc x * 2 ^ 1074 ≤ 18446744073709551616 * 2 ^ 1074 := Nat.mul_le_mul_right _ h
      _ = 1 * 2 ^ 1138 := by rw [show (18446744073709551616 : Nat) = 2 ^ 64 from by decide, ← Nat.pow_add]
  refine Nat.le_trans h1 (Nat.le_of_lt ?_)
  rw [← rv_lt_iff, rv_rnd_exact (by decide) (by decide)]
  have h1 : mant 4953959590107545600 = 4503599627370496 := by decide
  have h2 : plc 4953959590107545600 = 1099 := by decide
  unfold rv
  rw [h1, h2, show (4503599627370496 : Nat) = 2 ^ 52 from by decide, ← Nat.pow_add, Nat.one_mul]
  exact Nat.pow_lt_pow_right (by decide) (by decide)

/-- HOW EVEN: NEVER ABOVE 1, and none just if there is nothing -/
theorem even_div {s q n : Nat} (hs : s ≤ 4294967296) (hq : q ≤ 4503599627370496) (hn : n ≤ 4096) (hsq : s * s ≤ n * q) (h0 : q = 0 ↔ s = 0) :
    (q = 0 → fD.div (rnd (s * s * 2 ^ 1074)) (rnd (n * q * 2 ^ 1074)) = none) ∧
    (q ≠ 0 → ∃ r, fD.div (rnd (s * s * 2 ^ 1074)) (rnd (n * q * 2 ^ 1074)) = some r ∧ r ≤ 4607182418800017408) := by
  constructor
  · intro h
    have hs0 := h0.1 h
    subst h; subst hs0
    rw [Nat.mul_zero, Nat.mul_zero, Nat.zero_mul, rnd_zero]
    decide
  · intro h
    have hs0 : s ≠ 0 := fun h' => h (h0.2 h')
    refine div_le_one (one_le_rnd (Nat.mul_ne_zero hs0 hs0)) (rnd_mono (Nat.mul_le_mul_right _ hsq)) (rnd_top ?_)
    calc n * q ≤ 4096 * 4503599627370496 := Nat.mul_le_mul hn hq
      _ = 18446744073709551616 := by decide

/-- a quotient: what it is, or none -/
def Quo (x y z : Nat) : Prop := match fD.div x y with | some r => z = r | none => isNB z = true
theorem quo_some {x y z r : Nat} (h : fD.div x y = some r) (hq : Quo x y z) : z = r := by unfold Quo at hq; rw [h] at hq; exact hq
theorem quo_none {x y z : Nat} (h : fD.div x y = none) (hq : Quo x y z) : isNB z = true := by unfold Quo at hq; rw [h] at hq; exact hq

/-- are two words alike? -/
def alikeB (x y : Nat) : Bool :=
  if isNB x || isNB y then isNB x && isNB y else if sv x = sv y then (if sv x = 0 then sg x == sg y else true) else false
theorem alike_self (x : Nat) : alikeB x x = true := by unfold alikeB; cases isNB x <;> simp
theorem alike_nan {x y : Nat} (hx : isNB x = true) (hy : isNB y = true) : alikeB x y = true := by unfold alikeB; simp [hx, hy]
theorem quo_alike {x y a b : Nat} (h1 : Quo x y a) (h2 : Quo x y b) : alikeB a b = true := by
  unfold Quo at h1 h2
  cases h : fD.div x y with
  | some r => rw [h] at h1 h2; simp only at h1 h2; subst h1; subst h2; exact alike_self _
  | none => rw [h] at h1 h2; exact alike_nan h1 h2

theorem mag_inf (m : Nat) (t : Bool) (i j : Int) (hm : m ≠ 0) : Ieee.Datum.quotient 54 (.number false m i) (.number t 0 j) = some (.infinity t) := by
  unfold Ieee.Datum.quotient
  dsimp only
  rw [if_pos rfl, if_neg hm]
  cases t <;> rfl

/-- 1 by a nought -/
theorem one_div_zero {x : Nat} (h : rg x = 0) : fD.div 4607182418800017408 x = some (if sg x then 18442240474082181120 else 9218868437227405312) := by
  unfold Ieee.Format.div
  rw [read_fin (b := 4607182418800017408) (by decide), read_fin (b := x) (by omega), h, show sg 4607182418800017408 = false from by decide, show mant 0 = 0 from by decide, show fD.fractionBits + 2 = 54 from rfl,
    mag_inf _ _ _ _ (by decide)]
  cases sg x <;> decide

theorem sv_zero {x : Nat} : sv x = 0 ↔ rg x = 0 := by
  unfold sv
  have : rv (rg x) = 0 ↔ rg x = 0 := ⟨fun h => rv_inj (h.trans rv_zero.symm), fun h => by rw [h, rv_zero]⟩
  split <;> omega
end Go.Proofs.Yticaheiomidanaa
