/- bound: steps. -/
import Derived.Test.YtgmebjnhbkgbfaaBg
namespace Go.Proofs.Ytgmebjnhbkgbfaa
open Go.ChangeShapes Go.WideShapes Go.ChangeAt Go.RowKit
set_option linter.unusedVariables false
set_option linter.unusedSimpArgs false

set_option maxHeartbeats 400000 in
theorem ofQueue_any (n p q : Int) (c m g d : Int) (hc : 2 * n * n = c) (hc2 : 0 ≤ c ∧ c ≤ 512) (hm : n + 1 = m) (hm2 : 0 ≤ m ∧ m ≤ 17) (hg : 15 * (c + 8) + 1 = g) (hg2 : 0 ≤ g ∧ g ≤ 7801) (hd : m * g = d) (hd2 : 0 ≤ d ∧ d ≤ 132617) (hn : 1 ≤ n ∧ n ≤ 16) (hp : 0 ≤ p ∧ p ≤ 32) (hq : 0 ≤ q ∧ q ≤ 3) (w : World) : Calls Try.prog 30 #[.int .i64 n, .int .i64 p, .int .i64 q] w fun e w' => e = .returned (.int .i64 (d + p + 14 * q + n + 14)) ∧ w = w' := by
  go_enter Try.func30, Try.ntmps30
  go_wp2_with fail
  go_ret
  exact ⟨rfl, rfl⟩
theorem both_any (x : Int) (w : World) : Calls Try.prog 29 #[.int .i64 x] w fun e w' => e = .returned (.tuple #[.int .i64 x, .int .i64 x]) ∧ w = w' := by
  go_enter Try.func29, Try.ntmps29
  go_wp2_with fail
  go_ret2
  exact ⟨rfl, rfl⟩

set_option maxHeartbeats 400000 in
theorem steps_0 (n p q : Int)  (w : World) : Calls Try.prog 23 #[.int .i64 0, .int .i64 n, .int .i64 p, .int .i64 q] w fun e w' => e = .returned (.tuple #[.int .i64 (1), .int .i64 (1)]) ∧ w = w' := by
  go_enter Try.func23, Try.ntmps23
  go_wp2_with fail
  go_ret2
  exact ⟨rfl, rfl⟩

set_option maxHeartbeats 400000 in
theorem steps_1 (n p q : Int)  (w : World) : Calls Try.prog 23 #[.int .i64 1, .int .i64 n, .int .i64 p, .int .i64 q] w fun e w' => e = .returned (.tuple #[.int .i64 (2), .int .i64 (1)]) ∧ w = w' := by
  go_enter Try.func23, Try.ntmps23
  go_wp2_with fail
  go_ret2
  exact ⟨rfl, rfl⟩

set_option maxHeartbeats 400000 in
theorem steps_2 (n p q : Int)  (w : World) : Calls Try.prog 23 #[.int .i64 2, .int .i64 n, .int .i64 p, .int .i64 q] w fun e w' => e = .returned (.tuple #[.int .i64 (2), .int .i64 (n)]) ∧ w = w' := by
  go_enter Try.func23, Try.ntmps23
  go_wp2_with fail
  go_ret2
  exact ⟨rfl, rfl⟩

set_option maxHeartbeats 400000 in
theorem steps_3 (n p q : Int)  (w : World) : Calls Try.prog 23 #[.int .i64 3, .int .i64 n, .int .i64 p, .int .i64 q] w fun e w' => e = .returned (.tuple #[.int .i64 (1), .int .i64 (1)]) ∧ w = w' := by
  go_enter Try.func23, Try.ntmps23
  go_wp2_with fail
  go_ret2
  exact ⟨rfl, rfl⟩

set_option maxHeartbeats 400000 in
theorem steps_4 (n p q : Int)  (w : World) : Calls Try.prog 23 #[.int .i64 4, .int .i64 n, .int .i64 p, .int .i64 q] w fun e w' => e = .returned (.tuple #[.int .i64 (p), .int .i64 (p)]) ∧ w = w' := by
  go_enter Try.func23, Try.ntmps23
  go_wp2_with fail
  go_ret2
  exact ⟨rfl, rfl⟩

set_option maxHeartbeats 400000 in
theorem steps_5 (n p q : Int) (a : Int) (ha : n * n = a) (ha2 : 0 ≤ a ∧ a ≤ 256) (hn : 1 ≤ n ∧ n ≤ 16) (w : World) : Calls Try.prog 23 #[.int .i64 5, .int .i64 n, .int .i64 p, .int .i64 q] w fun e w' => e = .returned (.tuple #[.int .i64 (a + 3 * n + 2), .int .i64 (a + 2 * n)]) ∧ w = w' := by
  go_enter Try.func23, Try.ntmps23
  go_wp2_with fail
  go_ret2
  exact ⟨rfl, rfl⟩

set_option maxHeartbeats 400000 in
theorem steps_6 (n p q : Int) (r a s b : Int) (hr : n + 3 = r) (ha : p * r = a) (ha2 : 0 ≤ a ∧ a ≤ 1000) (hs : n + 2 = s) (hb : p * s = b) (hb2 : 0 ≤ b ∧ b ≤ 1000) (hn : 1 ≤ n ∧ n ≤ 16) (w : World) : Calls Try.prog 23 #[.int .i64 6, .int .i64 n, .int .i64 p, .int .i64 q] w fun e w' => e = .returned (.tuple #[.int .i64 (a + 2), .int .i64 (b)]) ∧ w = w' := by
  go_enter Try.func23, Try.ntmps23
  go_wp2_with fail
  go_ret2
  exact ⟨rfl, rfl⟩

set_option maxHeartbeats 400000 in
theorem steps_7 (n p q : Int) (hq : 1 ≤ q ∧ q ≤ 256) (w : World) : Calls Try.prog 23 #[.int .i64 7, .int .i64 n, .int .i64 p, .int .i64 q] w fun e w' => e = .returned (.tuple #[.int .i64 (4 * q + 1), .int .i64 (4 * q + 1)]) ∧ w = w' := by
  go_enter Try.func23, Try.ntmps23
  go_wp2_with (go_at_call 29; refine (both_any _ _).mono ?_; rintro e w5 ⟨rfl, rfl⟩)
  go_ret2
  exact ⟨rfl, rfl⟩

set_option maxHeartbeats 400000 in
theorem steps_8 (n p q : Int) (c m g d : Int) (hc : 2 * n * n = c) (hc2 : 0 ≤ c ∧ c ≤ 512) (hm : n + 1 = m) (hm2 : 0 ≤ m ∧ m ≤ 17) (hg : 15 * (c + 8) + 1 = g) (hg2 : 0 ≤ g ∧ g ≤ 7801) (hd : m * g = d) (hd2 : 0 ≤ d ∧ d ≤ 132617) (hn : 1 ≤ n ∧ n ≤ 16) (hp : 0 ≤ p ∧ p ≤ 32) (hq : 0 ≤ q ∧ q ≤ 3) (w : World) : Calls Try.prog 23 #[.int .i64 8, .int .i64 n, .int .i64 p, .int .i64 q] w fun e w' => e = .returned (.tuple #[.int .i64 (d + p + 14 * q + n + 14), .int .i64 (d + p + 14 * q + n + 14)]) ∧ w = w' := by
  have HQ := Lib.hid (fun w => ofQueue_any n p q c m g d hc hc2 hm hm2 hg hg2 hd hd2 hn hp hq w)
  clear hc hm hg hd
  go_enter Try.func23, Try.ntmps23
  go_wp2_with (first
    | (go_at_call 30; refine (HQ.out _).mono ?_; rintro e w5 ⟨rfl, rfl⟩)
    | (go_at_call 29; refine (both_any _ _).mono ?_; rintro e w5 ⟨rfl, rfl⟩))
  go_ret2
  exact ⟨rfl, rfl⟩

set_option maxHeartbeats 400000 in
theorem steps_9 (n p q : Int) (hn : 1 ≤ n ∧ n ≤ 16) (hp : 1 ≤ p ∧ p ≤ 8) (w : World) : Calls Try.prog 23 #[.int .i64 9, .int .i64 n, .int .i64 p, .int .i64 q] w fun e w' => e = .returned (.tuple #[.int .i64 (n + p + 1), .int .i64 (p + 2)]) ∧ w = w' := by
  go_enter Try.func23, Try.ntmps23
  go_wp2_with fail
  go_ret2
  exact ⟨rfl, rfl⟩
end Go.Proofs.Ytgmebjnhbkgbfaa
