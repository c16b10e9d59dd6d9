/- Walks of the alikeness of two floating-point numbers, of a quotient; how a quotient runs. -/
import Derived.Test.YticaheiomidanaaProg
import Derived.Test.YticaheiomidanaaR
import Derived.Test.YticaheiomidanaaK3
import Derived.Test.YticaheiomidanaaGD
import Derived.WalkLawsBesides
import Derived.WalkSmall
namespace Go.Proofs.Yticaheiomidanaa
open Go.RowKit

/-- what a quotient gives in a world, and how often it draws -/
def qv (x y : Nat) (w : World) : Nat := match fD.div x y with | some r => r | none => (Question.nanBits .f64 x y).cut (w.tape w.drawn (Question.nanBits .f64 x y))
def qn (x y : Nat) : Nat := match fD.div x y with | some _ => 0 | none => 1
theorem quo_qv (x y : Nat) (w : World) : Quo x y (qv x y w) := by
  unfold Quo qv
  cases fD.div x y with
  | some r => rfl
  | none => exact nan_cut _
theorem run_quo {P : Program} (w : World) (t : TypeId) (x y : Nat) : (binOp .quo t (.float .f64 x) (.float .f64 y)).run P w = .ok (.float .f64 (qv x y w)) (w.drewN (qn x y)) := by
  unfold qv qn
  cases h : fD.div x y with
  | some r => exact run_float_arith w .quo t .f64 x y r h
  | none =>
    have h' : FloatKind.f64.format.div x y = none := h
    simp [binOp, Op.floatArith, h', Question.forced]
    rfl

/-- how a product runs -/
theorem run_mul {P : Program} (w : World) (t : TypeId) (x y r : Nat) (h : fD.mul x y = some r) : (binOp .mul t (.float .f64 x) (.float .f64 y)).run P w = .ok (.float .f64 r) w :=
  run_float_arith w .mul t .f64 x y r h

theorem order_eq_zero {x : Nat} (hx : isNB x = false) : fD.order x 0 = some .eq ↔ sv x = 0 := by
  rw [order_sv hx (by decide), show sv 0 = 0 from by decide]
  simp only [Option.some.injEq]
  exact cmp_eq

theorem alike_false {x y : Nat} (hx : isNB x = false) (hy : isNB y = false) (h : sv x ≠ sv y) : alikeB x y = false := by unfold alikeB; simp [hx, hy, h]
theorem alike_num {x y : Nat} (hx : isNB x = false) (hy : isNB y = false) (h : sv x = sv y) (h0 : sv x ≠ 0) : alikeB x y = true := by unfold alikeB; rw [hx, hy]; rw [h] at h0; simp [h, h0]
theorem alike_zero {x y : Nat} (hx : isNB x = false) (hy : isNB y = false) (h : sv x = sv y) (h0 : sv x = 0) : alikeB x y = (sg x == sg y) := by unfold alikeB; rw [hx, hy]; simp [← h, h0]
theorem alike_nanl {x y : Nat} (hx : isNB x = true) : alikeB x y = isNB y := by unfold alikeB; simp [hx]
theorem alike_nanr {x y : Nat} (hx : isNB x = false) (hy : isNB y = true) : alikeB x y = false := by unfold alikeB; simp [hx, hy]

abbrev one64 : Nat := 4607182418800017408
abbrev pinf : Nat := 9218868437227405312
abbrev ninf : Nat := 18442240474082181120
theorem pinf_gt : fD.order pinf 0 = some .gt := by decide
theorem ninf_lt : fD.order ninf 0 = some .lt := by decide

theorem quo_zero {P : Program} {x : Nat} (h : sv x = 0) (w : World) (t : TypeId) : (binOp .quo t (.float .f64 one64) (.float .f64 x)).run P w = .ok (.float .f64 (if sg x then ninf else pinf)) w :=
  run_float_arith w .quo t .f64 _ x _ (one_div_zero (sv_zero.1 h))

set_option maxHeartbeats 400000 in
theorem same_any (x y : Nat) (w : World) : Calls Try.prog 18 #[.float .f64 x, .float .f64 y] w fun e w' => e = .returned (.bool (alikeB x y)) ∧ w = w' := by
  have hfm : FloatKind.f64.format = fD := rfl
  by_cases hx : isNB x = true
  · have o1 : fD.order x x = none := order_nan1 x hx
    rw [alike_nanl hx]
    by_cases hy : isNB y = true
    · have o2 : fD.order y y = none := order_nan1 y hy
      rw [hy]
      clear hx hy
      go_enter Try.func18, Try.ntmps18
      go_wp2
      go_ret
      exact ⟨rfl, rfl⟩
    · have hy := Bool.eq_false_iff.2 hy
      have o2 : fD.order y y = some .eq := order_self hy
      rw [hy]
      clear hx hy
      go_enter Try.func18, Try.ntmps18
      go_wp2
      go_ret
      exact ⟨rfl, rfl⟩
  · have hx := Bool.eq_false_iff.2 hx
    have o1 : fD.order x x = some .eq := order_self hx
    by_cases hy : isNB y = true
    · have o2 : fD.order y y = none := order_nan1 y hy
      rw [alike_nanr hx hy]
      clear hx hy
      go_enter Try.func18, Try.ntmps18
      go_wp2
      go_ret
      exact ⟨rfl, rfl⟩
    · have hy := Bool.eq_false_iff.2 hy
      have o2 : fD.order y y = some .eq := order_self hy
      have o3 := order_sv hx hy
      by_cases he : sv x = sv y
      · have o4 : fD.order x y = some .eq := by rw [o3, cmp_eq.2 he]
        clear o3
        by_cases h0 : sv x = 0
        · have o5 : fD.order x 0 = some .eq := (order_eq_zero hx).2 h0
          rw [alike_zero hx hy he h0]
          have q1 := fun w => quo_zero (P := Try.prog) (x := x) h0 w 44
          have q2 := fun w => quo_zero (P := Try.prog) (x := y) (he ▸ h0) w 44
          have g1 := pinf_gt
          have g2 := ninf_lt
          clear hx hy he h0
          cases hs : sg x <;> cases ht : sg y <;> simp only [hs, ht, if_true, if_false, Bool.false_eq_true] at q1 q2
          all_goals (
            go_enter Try.func18, Try.ntmps18
            go_wp2
            go_ret
            exact ⟨rfl, rfl⟩)
        · have o5 : (fD.order x 0 == some Ordering.eq) = false := by
            apply beq_false_of_ne
            intro h
            exact h0 ((order_eq_zero hx).1 h)
          have o6 : (fD.order x 0 != some Ordering.eq) = true := by unfold bne; rw [o5]; rfl
          rw [alike_num hx hy he h0]
          clear hx hy he h0
          go_enter Try.func18, Try.ntmps18
          go_wp2
          go_ret
          exact ⟨rfl, rfl⟩
      · have o4 : (fD.order x y == some Ordering.eq) = false := by
          apply beq_false_of_ne
          intro h
          rw [o3, Option.some.injEq] at h
          exact he (cmp_eq.1 h)
        rw [alike_false hx hy he]
        clear hx hy he o3
        go_enter Try.func18, Try.ntmps18
        go_wp2
        go_ret
        exact ⟨rfl, rfl⟩
end Go.Proofs.Yticaheiomidanaa
