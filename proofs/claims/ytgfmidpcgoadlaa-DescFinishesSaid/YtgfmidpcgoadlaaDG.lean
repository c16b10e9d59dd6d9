/- Walks of desc: Finish, Load, Waits; and of the law's descriptor that is known. -/
import Derived.Test.YtgfmidpcgoadlaaDD
import Derived.Test.YtgfmidpcgoadlaaDF
namespace Go.Proofs.Ytgfmidpcgoadlaa
open Go.RowKit

set_option maxHeartbeats 1000000 in
theorem finish_any (n load : Nat) (w : World) (hn : n < 18446744073709551616) (hl : load < 18446744073709551616) :
    Calls Try.prog 14 #[.int .u64 n, .int .u64 load] w fun e w' => e = .returned (.tuple #[.int .u64 ((dPk false (dT n) load (dF n)).2 : Nat), .int .i64 ((dPk false (dT n) load (dF n)).1 : Nat)]) ∧ Below w.heap.size w w' := by
  have HU := Lib.hid (fun W => dunpack_any n W hn)
  have HP := Lib.hid (fun W => dpack_any false (dT n) load (dF n) W hl (by have := dF_lt hn; omega))
  generalize (dPk false (dT n) load (dF n)).2 = r2 at *
  generalize (dPk false (dT n) load (dF n)).1 = r1 at *
  generalize dP n = p at *
  generalize dT n = t at *
  generalize dL n = l at *
  generalize dF n = f at *
  clear hn hl
  go_enter Try.func14, Try.ntmps14
  go_wp2_with (first
    | (go_at_call 8; (with_reducible refine (HU.out _).mono ?_); rintro e w1 ⟨rfl, hb⟩; (have HB1 := Lib.hid (fun o => hb.alloc hb.size o)); (have hsz := hb.size); clear hb)
    | (go_at_call 5; (with_reducible refine (HP.out _).mono ?_); rintro e w2 ⟨rfl, hb⟩; (have HB2 := Lib.hid ((HB1.out _).trans (hb.mono (by simp; omega)))); clear hb))
  go_ret2
  exact ⟨rfl, HB2.out⟩
set_option maxHeartbeats 1000000 in
theorem load_any (n load : Nat) (w : World) (hn : n < 18446744073709551616) (hl : load < 18446744073709551616) :
    Calls Try.prog 15 #[.int .u64 n, .int .u64 load] w fun e w' => e = .returned (.tuple #[.int .u64 ((dPk (dP n) (dT n) load (dF n)).2 : Nat), .int .i64 ((dPk (dP n) (dT n) load (dF n)).1 : Nat)]) ∧ Below w.heap.size w w' := by
  have HU := Lib.hid (fun W => dunpack_any n W hn)
  have HP := Lib.hid (fun W => dpack_any (dP n) (dT n) load (dF n) W hl (by have := dF_lt hn; omega))
  generalize (dPk (dP n) (dT n) load (dF n)).2 = r2 at *
  generalize (dPk (dP n) (dT n) load (dF n)).1 = r1 at *
  generalize dP n = p at *
  generalize dT n = t at *
  generalize dL n = l at *
  generalize dF n = f at *
  clear hn hl
  go_enter Try.func15, Try.ntmps15
  go_wp2_with (first
    | (go_at_call 8; (with_reducible refine (HU.out _).mono ?_); rintro e w1 ⟨rfl, hb⟩; (have HB1 := Lib.hid (fun o => hb.alloc hb.size o)); (have hsz := hb.size); clear hb)
    | (go_at_call 5; (with_reducible refine (HP.out _).mono ?_); rintro e w2 ⟨rfl, hb⟩; (have HB2 := Lib.hid ((HB1.out _).trans (hb.mono (by simp; omega)))); clear hb))
  go_ret2
  exact ⟨rfl, HB2.out⟩
set_option maxHeartbeats 1000000 in
theorem waits_any (n f : Nat) (t : Bool) (w : World) (hn : n < 18446744073709551616) :
    Calls Try.prog 17 #[.int .u64 n, .int .u64 f, .bool t] w fun e w' => e = .returned (.bool (dW n f t)) ∧ Below w.heap.size w w' := by
  have HU := Lib.hid (fun W => dunpack_any n W hn)
  have he : (dW n f t) = (dP n && (dF n == f && dT n == t)) := by unfold dW; rw [Bool.and_assoc]
  rw [he]
  clear he hn
  generalize dP n = p at *
  generalize dT n = t1 at *
  generalize dL n = l at *
  generalize dF n = f1 at *
  go_enter Try.func17, Try.ntmps17
  go_wp2_with (first
    | (go_at_call 8; (with_reducible refine (HU.out _).mono ?_); rintro e w1 ⟨rfl, hb⟩; (have HB1 := Lib.hid (fun o => hb.alloc hb.size o)); (have hsz := hb.size); clear hb))
  all_goals go_ret
  all_goals refine ⟨ret_bool ?_, HB1.out _⟩
  all_goals (try have hi : (f1 == f) = true := by (rw [beq_iff_eq]; omega))
  all_goals (try have hi : (f1 == f) = false := by (rw [beq_eq_false_iff_ne]; omega))
  all_goals simp_all

set_option maxHeartbeats 1000000 in
theorem put_any (w : World) :
    Calls Try.prog 13 #[] w fun e w' => e = .returned (.bool true) ∧ Below w.heap.size w w' := by
  have HP : Hid (∀ W, Calls Try.prog 5 #[.agg #[.bool true, .bool false, .int .u64 3, .int .u64 1]] W fun e w' => e = .returned (.tuple #[.int .u64 4294967309, .int .i64 0]) ∧ Below W.heap.size W w') := Lib.hid (fun W => by
    have h := dpack_any true false 3 1 W (by decide) (by decide)
    rw [dPk_yes (by decide) (by decide)] at h
    exact h)
  have HU : Hid (∀ W, Calls Try.prog 8 #[.int .u64 4294967309] W fun e w' => e = .returned (.agg #[.bool true, .bool false, .int .u64 3, .int .u64 1]) ∧ Below W.heap.size W w') := Lib.hid (fun W => dunpack_any 4294967309 W (by decide))
  have HW : Hid (∀ W, Calls Try.prog 17 #[.int .u64 4294967309, .int .u64 1, .bool false] W fun e w' => e = .returned (.bool true) ∧ Below W.heap.size W w') := Lib.hid (fun W => waits_any 4294967309 1 false W (by decide))
  go_enter Try.func13, Try.ntmps13
  go_wp2_with (first
    | (go_at_call 5; (with_reducible refine (HP.out _).mono ?_); rintro e w1 ⟨rfl, hb⟩; (have HB1 := Lib.hid hb); clear hb)
    | (go_at_call 8; (with_reducible refine (HU.out _).mono ?_); rintro e w2 ⟨rfl, hb⟩; (have HB2 := Lib.hid (HB1.out.trans (hb.mono HB1.out.size))); clear hb)
    | (go_at_call 17; (with_reducible refine (HW.out _).mono ?_); rintro e w3 ⟨rfl, hb⟩; (have HB3 := Lib.hid (HB2.out.trans (hb.mono HB2.out.size))); clear hb))
  go_ret
  exact ⟨rfl, HB3.out⟩
end Go.Proofs.Ytgfmidpcgoadlaa
