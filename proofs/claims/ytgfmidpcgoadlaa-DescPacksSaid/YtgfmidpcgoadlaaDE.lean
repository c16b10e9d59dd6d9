/- Walks of desc: flag, part, Unpack. -/
import Derived.Test.YtgfmidpcgoadlaaDA
import Derived.Test.YtgfmidpcgoadlaaDC
import Derived.Deep.RegionHeld3
namespace Go.Proofs.Ytgfmidpcgoadlaa
open Go.RowKit

set_option maxHeartbeats 400000 in
theorem flag_any (b : Bool) (w : World) :
    Calls Try.prog 20 #[.bool b] w fun e w' => e = .returned (.int .u64 (b.toNat : Nat)) ∧ w = w' := by
  cases b
  all_goals go_enter Try.func20, Try.ntmps20
  all_goals go_wp2
  all_goals go_ret
  all_goals exact ⟨rfl, rfl⟩

set_option maxHeartbeats 400000 in
theorem part_any (n a s : Nat) (w : World) (hn : n < 18446744073709551616) (h1 : 1 ≤ s) (h : a + s ≤ 64) :
    Calls Try.prog 21 #[.int .u64 n, .int .i64 a, .int .i64 s] w fun e w' => e = .returned (.int .u64 (fld n a s)) ∧ ∃ k, w' = w.drewN k := by
  go_enter Try.func21, Try.ntmps21
  go_wp2_with fail
  refine (wget_yes n a s _ hn h1 h).mono ?_
  rintro e w' ⟨rfl, k, rfl⟩
  go_wp2_with fail
  go_ret
  exact ⟨rfl, _, rfl⟩

/-- a descriptor, as a value -/
abbrev dV (p t : Bool) (l f : Nat) : Value := .agg #[.bool p, .bool t, .int .u64 l, .int .u64 f]

theorem one_beq (b : Bool) : (((b.toNat : Nat) : Int) == 1) = b := by cases b <;> rfl

set_option maxHeartbeats 1000000 in
theorem dunpack_any (n : Nat) (w : World) (hn : n < 18446744073709551616) :
    Calls Try.prog 8 #[.int .u64 n] w fun e w' => e = .returned (dV (dP n) (dT n) (dL n) (dF n)) ∧ Below w.heap.size w w' := by
  have HF : Hid (∀ W, Calls Try.prog 20 #[.bool true] W fun e w' => e = .returned (.int .u64 1) ∧ W = w') := Lib.hid (fun W => flag_any true W)
  have H0 : Hid (∀ W, Calls Try.prog 21 #[.int .u64 n, .int .i64 0, .int .i64 1] W fun e w' => e = .returned (.int .u64 ((dP n).toNat : Nat)) ∧ ∃ k, w' = W.drewN k) := Lib.hid (fun W => by
    have h := part_any n 0 1 W hn (by decide) (by decide)
    rwa [show fld n 0 1 = (dP n).toNat by rw [toNat_dP]; simp [fld]] at h)
  have H1 : Hid (∀ W, Calls Try.prog 21 #[.int .u64 n, .int .i64 1, .int .i64 1] W fun e w' => e = .returned (.int .u64 ((dT n).toNat : Nat)) ∧ ∃ k, w' = W.drewN k) := Lib.hid (fun W => by
    have h := part_any n 1 1 W hn (by decide) (by decide)
    rwa [show fld n 1 1 = (dT n).toNat by rw [toNat_dT]; simp [fld]] at h)
  have H2 : Hid (∀ W, Calls Try.prog 21 #[.int .u64 n, .int .i64 2, .int .i64 30] W fun e w' => e = .returned (.int .u64 (dL n : Nat)) ∧ ∃ k, w' = W.drewN k) := Lib.hid (fun W => part_any n 2 30 W hn (by decide) (by decide))
  have H3 : Hid (∀ W, Calls Try.prog 21 #[.int .u64 n, .int .i64 32, .int .i64 32] W fun e w' => e = .returned (.int .u64 (dF n : Nat)) ∧ ∃ k, w' = W.drewN k) := Lib.hid (fun W => by
    have h := part_any n 32 32 W hn (by decide) (by decide)
    rwa [dF_fld hn] at h)
  have HB : Hid (Below w.heap.size w (w.alloc (.cells #[.bool false, .bool false, .int .u64 0, .int .u64 0] 24))) := Lib.hid ((Below.refl _ _).alloc (Nat.le_refl _) _)
  generalize dP n = p at *
  generalize dT n = t at *
  generalize dL n = l at *
  generalize dF n = f at *
  have e0 := one_beq p
  have e1 := one_beq t
  clear hn
  go_enter Try.func8, Try.ntmps8
  go_wp2_with (first
    | (go_at_call 20; (with_reducible refine (HF.out _).mono ?_); rintro e w1 ⟨rfl, rfl⟩)
    | (go_at_call 21; (with_reducible refine (H0.out _).mono ?_); rintro e w1 ⟨rfl, k1, rfl⟩)
    | (go_at_call 21; (with_reducible refine (H1.out _).mono ?_); rintro e w1 ⟨rfl, k2, rfl⟩)
    | (go_at_call 21; (with_reducible refine (H2.out _).mono ?_); rintro e w1 ⟨rfl, k3, rfl⟩)
    | (go_at_call 21; (with_reducible refine (H3.out _).mono ?_); rintro e w1 ⟨rfl, k4, rfl⟩))
  exact bodyPost_ret (v := dV p t l f) (by simp [results, Try.results8, go_sem]) rfl ⟨rfl, ((((below_drewN HB.out _).setCell (Nat.le_refl _) _).setCell (Nat.le_refl _) _).setCell (Nat.le_refl _) _).setCell (Nat.le_refl _) _⟩
end Go.Proofs.Ytgfmidpcgoadlaa
