/- Walks of the leaf functions of word (get, put) that other layers call. -/
import Derived.Test.YtgfmidpcgoadlaaDoorProg
import Derived.Test.YtgfmidpcgoadlaaDoorM
import Derived.Test.YtgfmidpcgoadlaaDoorT
import Derived.WalkKit
import Derived.WalkSpells
import Derived.Deep.QuietTactic
import Derived.BigQuiet
import Derived.Lib.Hide
import Derived.WalkLawsBesides
namespace Go.Proofs.YtgfmidpcgoadlaaDoor
open Go.RowKit

theorem and_fld (n a s : Nat) (hn : n < 18446744073709551616) (hs : s ≤ 64) : bits .and .u64 ((n : Int) / 2 ^ a) (ones s) = (fld n a s : Nat) := by
  have e : (n : Int) / 2 ^ a = ((n / 2 ^ a : Nat) : Int) := by rw [Int.natCast_ediv, Int.natCast_pow]; rfl
  have h1 := ones_le s hs
  have h2 : n / 2 ^ a ≤ n := Nat.div_le_self _ _
  rw [e, u64_and_nat _ _ (by omega) (by omega), and_ones]
  rfl
theorem ones_sh (s : Nat) (h : s ≤ 64) : (18446744073709551615 : Int) / 2 ^ (64 - s) = (ones s : Nat) := by
  rw [← ones_eq s h, Int.natCast_ediv, Int.natCast_pow]; rfl
set_option maxHeartbeats 400000 in
theorem ones_any (s : Nat) (w : World) (h1 : 1 ≤ s) (h : s ≤ 64) :
    Calls Tryd.prog 31 #[.int .i64 s] w fun e w' => e = .returned (.int .u64 (ones s)) ∧ w = w' := by
  go_enter Tryd.func31, Tryd.ntmps31
  go_wp2
  go_ret
  exact ⟨ret_int (ones_sh s h), rfl⟩
def isB (a s : Int) : Bool := decide (0 ≤ a) && decide (1 ≤ s) && decide (a ≤ 64 - s)
theorem isB_yes {a s : Int} (h0 : 0 ≤ a) (h1 : 1 ≤ s) (h : a + s ≤ 64) : isB a s = true := by unfold isB; simp; omega
theorem isB_no {a s : Int} (h : a < 0 ∨ s < 1 ∨ 64 < a + s) : isB a s = false := by
  rw [Bool.eq_false_iff]; unfold isB; simp; omega
set_option maxHeartbeats 400000 in
theorem exists_any (a s : Int) (w : World) (h1 : -9223372036854775808 ≤ s) (h2 : s ≤ 9223372036854775807) :
    Calls Tryd.prog 29 #[.int .i64 a, .int .i64 s] w fun e w' => e = .returned (.bool (isB a s)) ∧ w = w' := by
  go_enter Tryd.func29, Tryd.ntmps29
  go_wp2
  all_goals go_ret
  all_goals refine ⟨ret_bool ?_, rfl⟩
  all_goals unfold isB
  all_goals rw [Bool.eq_iff_iff]
  all_goals simp
  all_goals omega
set_option maxHeartbeats 400000 in
theorem wget_yes (n a s : Nat) (w : World) (hn : n < 18446744073709551616) (h1 : 1 ≤ s) (h : a + s ≤ 64) :
    Calls Tryd.prog 28 #[.int .u64 n, .int .i64 a, .int .i64 s] w fun e w' => e = .returned (.tuple #[.int .u64 (fld n a s), .int .i64 0]) ∧ ∃ k, w' = w.drewN k := by
  have hB := Lib.hid (isB_yes (a := a) (s := s) (by omega) (by omega) (by omega))
  go_enter Tryd.func28, Tryd.ntmps28
  go_wp2_with (go_at_call 29; refine (exists_any _ _ _ (by omega) (by omega)).mono ?_; rw [hB.out]; rintro e w' ⟨rfl, rfl⟩)
  have ho := ones_le s (by omega)
  go_quiet ((go_at_call 31; exact call_keeps ⟨_, rfl⟩ (ones_any _ _ (by omega) (by omega))))
  go_wp2
  go_ret2
  refine ⟨ret_pair (and_fld n a s hn (by omega)) rfl, ?_⟩
  exact ⟨_, rfl⟩
set_option maxHeartbeats 400000 in
theorem wput_no (n : Nat) (a s : Int) (v : Nat) (w : World) (h1 : -9223372036854775808 ≤ s) (h2 : s ≤ 9223372036854775807) (h : a < 0 ∨ s < 1 ∨ 64 < a + s) :
    Calls Tryd.prog 27 #[.int .u64 n, .int .i64 a, .int .i64 s, .int .u64 v] w fun e w' => e = .returned (.tuple #[.int .u64 0, .int .i64 1]) ∧ w = w' := by
  have hB := Lib.hid (isB_no h)
  go_enter Tryd.func27, Tryd.ntmps27
  go_wp2_with (go_at_call 29; refine (exists_any _ _ _ h1 h2).mono ?_; rw [hB.out]; rintro e w' ⟨rfl, rfl⟩)
  go_ret2
  exact ⟨rfl, rfl⟩
end Go.Proofs.YtgfmidpcgoadlaaDoor
