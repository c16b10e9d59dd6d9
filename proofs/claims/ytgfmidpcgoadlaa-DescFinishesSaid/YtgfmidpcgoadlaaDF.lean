/- Walks of the reference of layer 19. -/
import Derived.Test.YtgfmidpcgoadlaaDE
namespace Go.Proofs.Ytgfmidpcgoadlaa
open Go.RowKit

theorem div4 (n : Nat) : (n : Int) / 4 = ((n / 4 : Nat) : Int) := by omega
set_option maxHeartbeats 400000 in
theorem rright_int (l f : Int) (w : World) :
    Calls Try.prog 6 #[.int .u64 l, .int .u64 f] w fun e w' => e = .returned (.bool (decide (l < 1073741824) && decide (f < 4294967296))) ∧ w = w' := by
  by_cases h1 : l < 1073741824 <;> by_cases h2 : f < 4294967296
  all_goals go_enter Try.func6, Try.ntmps6
  all_goals go_wp2
  all_goals go_ret
  all_goals exact ⟨ret_bool (by simp [h1, h2]), rfl⟩
theorem rright_any (l f : Nat) (w : World) :
    Calls Try.prog 6 #[.int .u64 l, .int .u64 f] w fun e w' => e = .returned (.bool (decide ((l : Int) < 1073741824) && decide ((f : Int) < 4294967296))) ∧ w = w' := rright_int l f w

set_option maxHeartbeats 400000 in
theorem rword_any (p t : Bool) (l f : Nat) (w : World) (hl : l < 1073741824) (hf : f < 4294967296) :
    Calls Try.prog 7 #[.bool p, .bool t, .int .u64 l, .int .u64 f] w fun e w' => e = .returned (.int .u64 (dWord p t l f : Nat)) ∧ w = w' := by
  cases p <;> cases t
  all_goals go_enter Try.func7, Try.ntmps7
  all_goals go_wp2
  all_goals go_ret
  all_goals exact ⟨ret_int (by simp only [dWord, Bool.toNat_true, Bool.toNat_false]; omega), rfl⟩

set_option maxHeartbeats 400000 in
theorem rpending_any (n : Nat) (w : World) (hn : n < 18446744073709551616) :
    Calls Try.prog 9 #[.int .u64 n] w fun e w' => e = .returned (.bool (dP n)) ∧ w = w' := by
  go_enter Try.func9, Try.ntmps9
  go_wp2
  go_ret
  exact ⟨ret_bool (by unfold dP; rw [Bool.eq_iff_iff, beq_iff_eq, beq_iff_eq]; omega), rfl⟩
set_option maxHeartbeats 400000 in
theorem rtake_any (n : Nat) (w : World) (hn : n < 18446744073709551616) :
    Calls Try.prog 10 #[.int .u64 n] w fun e w' => e = .returned (.bool (dT n)) ∧ w = w' := by
  go_enter Try.func10, Try.ntmps10
  go_wp2
  go_ret
  exact ⟨ret_bool (by unfold dT; rw [Bool.eq_iff_iff, beq_iff_eq, beq_iff_eq]; omega), rfl⟩
set_option maxHeartbeats 400000 in
theorem rload_any (n : Nat) (w : World) (hn : n < 18446744073709551616) :
    Calls Try.prog 11 #[.int .u64 n] w fun e w' => e = .returned (.int .u64 (dL n : Nat)) ∧ w = w' := by
  go_enter Try.func11, Try.ntmps11
  go_wp2
  go_ret
  exact ⟨ret_int (by unfold dL; omega), rfl⟩
set_option maxHeartbeats 400000 in
theorem rphase_any (n : Nat) (w : World) (hn : n < 18446744073709551616) :
    Calls Try.prog 12 #[.int .u64 n] w fun e w' => e = .returned (.int .u64 (dF n : Nat)) ∧ w = w' := by
  go_enter Try.func12, Try.ntmps12
  go_wp2
  go_ret
  exact ⟨ret_int (by unfold dF; omega), rfl⟩
set_option maxHeartbeats 400000 in
theorem rwith_any (n load : Nat) (p : Bool) (w : World) (hn : n < 18446744073709551616) (hl : load < 1073741824) :
    Calls Try.prog 16 #[.int .u64 n, .int .u64 load, .bool p] w fun e w' => e = .returned (.int .u64 (dWord p (dT n) load (dF n) : Nat)) ∧ w = w' := by
  have hf := dF_lt hn
  go_enter Try.func16, Try.ntmps16
  go_wp2_with (first
    | (go_at_call 10; (refine (rtake_any _ _ hn).mono ?_); rintro e w1 ⟨rfl, rfl⟩)
    | (go_at_call 12; (refine (rphase_any _ _ hn).mono ?_); rintro e w1 ⟨rfl, rfl⟩)
    | (go_at_call 7; (refine (rword_any _ _ _ _ _ hl hf).mono ?_); rintro e w1 ⟨rfl, rfl⟩))
  go_ret
  exact ⟨rfl, rfl⟩
/-- does a word wait so? -/
def dW (n f : Nat) (t : Bool) : Bool := dP n && dF n == f && dT n == t
set_option maxHeartbeats 400000 in
theorem rwaits_any (n f : Nat) (t : Bool) (w : World) (hn : n < 18446744073709551616) :
    Calls Try.prog 18 #[.int .u64 n, .int .u64 f, .bool t] w fun e w' => e = .returned (.bool (dW n f t)) ∧ w = w' := by
  have HP := Lib.hid (fun W => rpending_any n W hn)
  have HT := Lib.hid (fun W => rtake_any n W hn)
  have HF := Lib.hid (fun W => rphase_any n W hn)
  unfold dW
  generalize dP n = p at *
  generalize dT n = t1 at *
  generalize dF n = f1 at *
  by_cases hf : (f1 : Int) = f
  · have e : (f1 == f) = true := by rw [beq_iff_eq]; omega
    rw [e]
    cases p <;> cases t1 <;> cases t
    all_goals go_enter Try.func18, Try.ntmps18
    all_goals go_wp2_with (first
      | (go_at_call 9; (refine (HP.out _).mono ?_); rintro e w1 ⟨rfl, rfl⟩)
      | (go_at_call 10; (refine (HT.out _).mono ?_); rintro e w1 ⟨rfl, rfl⟩)
      | (go_at_call 12; (refine (HF.out _).mono ?_); rintro e w1 ⟨rfl, rfl⟩))
    all_goals go_ret
    all_goals exact ⟨ret_bool (by simp), rfl⟩
  · have e : (f1 == f) = false := by rw [beq_eq_false_iff_ne]; omega
    rw [e]
    cases p <;> cases t1 <;> cases t
    all_goals go_enter Try.func18, Try.ntmps18
    all_goals go_wp2_with (first
      | (go_at_call 9; (refine (HP.out _).mono ?_); rintro e w1 ⟨rfl, rfl⟩)
      | (go_at_call 10; (refine (HT.out _).mono ?_); rintro e w1 ⟨rfl, rfl⟩)
      | (go_at_call 12; (refine (HF.out _).mono ?_); rintro e w1 ⟨rfl, rfl⟩))
    all_goals go_ret
    all_goals exact ⟨ret_bool (by simp), rfl⟩
end Go.Proofs.Ytgfmidpcgoadlaa
