/- bound: the reference's Most. -/
import Derived.Test.YtgmebjnhbkgbfaaBg
namespace Go.Proofs.Ytgmebjnhbkgbfaa
open Go.ChangeShapes Go.WideShapes Go.ChangeAt Go.RowKit
set_option linter.unusedVariables false
set_option linter.unusedSimpArgs false

set_option maxRecDepth 100000 in
set_option maxHeartbeats 2000000 in
theorem rmost_0_one (n p q : Int) (hp : 1 ≤ p ∧ p ≤ 64) (hn : 1 ≤ n ∧ n ≤ 16) (w : World) : Calls Try.prog 14 #[.int .i64 n, specV 0 p q, .int .i64 1] w fun e w' => e = .returned (.int .i64 (1)) ∧ Below w.heap.size w w' := by
  unfold specV
  go_enter Try.func14, Try.ntmps14
  go_wp2_with fail
  go_ret
  exact ⟨rfl, (((Below.refl _ _).alloc (Nat.le_refl _) _).alloc (by simp) _).alloc (by simp; omega) _⟩

set_option maxRecDepth 100000 in
set_option maxHeartbeats 2000000 in
theorem rmost_0_other (n p q : Int) (hp : 1 ≤ p ∧ p ≤ 64) (hn : 1 ≤ n ∧ n ≤ 16) (d0 : Int) (hd1 : ¬ d0 = 1) (w : World) : Calls Try.prog 14 #[.int .i64 n, specV 0 p q, .int .i64 d0] w fun e w' => e = .returned (.int .i64 (1)) ∧ Below w.heap.size w w' := by
  unfold specV
  go_enter Try.func14, Try.ntmps14
  go_wp2_with fail
  go_ret
  exact ⟨rfl, (((Below.refl _ _).alloc (Nat.le_refl _) _).alloc (by simp) _).alloc (by simp; omega) _⟩

set_option maxRecDepth 100000 in
set_option maxHeartbeats 2000000 in
theorem rmost_1_one (n p q : Int)  (hn : 1 ≤ n ∧ n ≤ 16) (w : World) : Calls Try.prog 14 #[.int .i64 n, specV 1 p q, .int .i64 1] w fun e w' => e = .returned (.int .i64 (1)) ∧ Below w.heap.size w w' := by
  unfold specV
  go_enter Try.func14, Try.ntmps14
  go_wp2_with fail
  go_ret
  exact ⟨rfl, (((Below.refl _ _).alloc (Nat.le_refl _) _).alloc (by simp) _).alloc (by simp; omega) _⟩

set_option maxRecDepth 100000 in
set_option maxHeartbeats 2000000 in
theorem rmost_1_other (n p q : Int)  (hn : 1 ≤ n ∧ n ≤ 16) (d0 : Int) (hd1 : ¬ d0 = 1) (w : World) : Calls Try.prog 14 #[.int .i64 n, specV 1 p q, .int .i64 d0] w fun e w' => e = .returned (.int .i64 (2)) ∧ Below w.heap.size w w' := by
  unfold specV
  go_enter Try.func14, Try.ntmps14
  go_wp2_with fail
  go_ret
  exact ⟨rfl, (((Below.refl _ _).alloc (Nat.le_refl _) _).alloc (by simp) _).alloc (by simp; omega) _⟩

set_option maxRecDepth 100000 in
set_option maxHeartbeats 2000000 in
theorem rmost_2_one (n p q : Int)  (hn : 1 ≤ n ∧ n ≤ 16) (w : World) : Calls Try.prog 14 #[.int .i64 n, specV 2 p q, .int .i64 1] w fun e w' => e = .returned (.int .i64 (n)) ∧ Below w.heap.size w w' := by
  unfold specV
  go_enter Try.func14, Try.ntmps14
  go_wp2_with fail
  go_ret
  exact ⟨rfl, (((Below.refl _ _).alloc (Nat.le_refl _) _).alloc (by simp) _).alloc (by simp; omega) _⟩

set_option maxRecDepth 100000 in
set_option maxHeartbeats 2000000 in
theorem rmost_2_other (n p q : Int)  (hn : 1 ≤ n ∧ n ≤ 16) (d0 : Int) (hd1 : ¬ d0 = 1) (w : World) : Calls Try.prog 14 #[.int .i64 n, specV 2 p q, .int .i64 d0] w fun e w' => e = .returned (.int .i64 (2)) ∧ Below w.heap.size w w' := by
  unfold specV
  go_enter Try.func14, Try.ntmps14
  go_wp2_with fail
  go_ret
  exact ⟨rfl, (((Below.refl _ _).alloc (Nat.le_refl _) _).alloc (by simp) _).alloc (by simp; omega) _⟩

set_option maxRecDepth 100000 in
set_option maxHeartbeats 2000000 in
theorem rmost_3_one (n p q : Int)  (hn : 1 ≤ n ∧ n ≤ 16) (w : World) : Calls Try.prog 14 #[.int .i64 n, specV 3 p q, .int .i64 1] w fun e w' => e = .returned (.int .i64 (1)) ∧ Below w.heap.size w w' := by
  unfold specV
  go_enter Try.func14, Try.ntmps14
  go_wp2_with fail
  go_ret
  exact ⟨rfl, (((Below.refl _ _).alloc (Nat.le_refl _) _).alloc (by simp) _).alloc (by simp; omega) _⟩

set_option maxRecDepth 100000 in
set_option maxHeartbeats 2000000 in
theorem rmost_3_other (n p q : Int)  (hn : 1 ≤ n ∧ n ≤ 16) (d0 : Int) (hd1 : ¬ d0 = 1) (w : World) : Calls Try.prog 14 #[.int .i64 n, specV 3 p q, .int .i64 d0] w fun e w' => e = .returned (.int .i64 (1)) ∧ Below w.heap.size w w' := by
  unfold specV
  go_enter Try.func14, Try.ntmps14
  go_wp2_with fail
  go_ret
  exact ⟨rfl, (((Below.refl _ _).alloc (Nat.le_refl _) _).alloc (by simp) _).alloc (by simp; omega) _⟩

set_option maxRecDepth 100000 in
set_option maxHeartbeats 2000000 in
theorem rmost_4_one (n p q : Int) (hp : 1 ≤ p ∧ p ≤ 12) (hn : 1 ≤ n ∧ n ≤ 16) (w : World) : Calls Try.prog 14 #[.int .i64 n, specV 4 p q, .int .i64 1] w fun e w' => e = .returned (.int .i64 (p)) ∧ Below w.heap.size w w' := by
  unfold specV
  go_enter Try.func14, Try.ntmps14
  go_wp2_with fail
  go_ret
  exact ⟨rfl, (((Below.refl _ _).alloc (Nat.le_refl _) _).alloc (by simp) _).alloc (by simp; omega) _⟩

set_option maxRecDepth 100000 in
set_option maxHeartbeats 2000000 in
theorem rmost_4_other (n p q : Int) (hp : 1 ≤ p ∧ p ≤ 12) (hn : 1 ≤ n ∧ n ≤ 16) (d0 : Int) (hd1 : ¬ d0 = 1) (w : World) : Calls Try.prog 14 #[.int .i64 n, specV 4 p q, .int .i64 d0] w fun e w' => e = .returned (.int .i64 (p)) ∧ Below w.heap.size w w' := by
  unfold specV
  go_enter Try.func14, Try.ntmps14
  go_wp2_with fail
  go_ret
  exact ⟨rfl, (((Below.refl _ _).alloc (Nat.le_refl _) _).alloc (by simp) _).alloc (by simp; omega) _⟩

set_option maxRecDepth 100000 in
set_option maxHeartbeats 2000000 in
theorem rmost_5_one (n p q : Int) (a : Int) (ha : n * n = a) (ha2 : 0 ≤ a ∧ a ≤ 256) (hn : 1 ≤ n ∧ n ≤ 16) (hp : 1 ≤ p ∧ p ≤ 64) (w : World) : Calls Try.prog 14 #[.int .i64 n, specV 5 p q, .int .i64 1] w fun e w' => e = .returned (.int .i64 (a + 2 * n)) ∧ Below w.heap.size w w' := by
  unfold specV
  go_enter Try.func14, Try.ntmps14
  go_wp2_with fail
  go_ret
  exact ⟨rfl, (((Below.refl _ _).alloc (Nat.le_refl _) _).alloc (by simp) _).alloc (by simp; omega) _⟩

set_option maxRecDepth 100000 in
set_option maxHeartbeats 2000000 in
theorem rmost_5_other (n p q : Int) (a : Int) (ha : n * n = a) (ha2 : 0 ≤ a ∧ a ≤ 256) (hn : 1 ≤ n ∧ n ≤ 16) (hp : 1 ≤ p ∧ p ≤ 64) (d0 : Int) (hd1 : ¬ d0 = 1) (w : World) : Calls Try.prog 14 #[.int .i64 n, specV 5 p q, .int .i64 d0] w fun e w' => e = .returned (.int .i64 (a + 3 * n + 2)) ∧ Below w.heap.size w w' := by
  unfold specV
  go_enter Try.func14, Try.ntmps14
  go_wp2_with fail
  go_ret
  exact ⟨rfl, (((Below.refl _ _).alloc (Nat.le_refl _) _).alloc (by simp) _).alloc (by simp; omega) _⟩

set_option maxRecDepth 100000 in
set_option maxHeartbeats 2000000 in
theorem rmost_6_one (n p q : Int) (r a s b : Int) (hr : n + 3 = r) (ha : p * r = a) (ha2 : 0 ≤ a ∧ a ≤ 1000) (hs : n + 2 = s) (hb : p * s = b) (hb2 : 0 ≤ b ∧ b ≤ 1000) (hn : 1 ≤ n ∧ n ≤ 16) (hp : 1 ≤ p ∧ p ≤ 16) (w : World) : Calls Try.prog 14 #[.int .i64 n, specV 6 p q, .int .i64 1] w fun e w' => e = .returned (.int .i64 (b)) ∧ Below w.heap.size w w' := by
  unfold specV
  go_enter Try.func14, Try.ntmps14
  go_wp2_with fail
  go_ret
  exact ⟨rfl, (((Below.refl _ _).alloc (Nat.le_refl _) _).alloc (by simp) _).alloc (by simp; omega) _⟩

set_option maxRecDepth 100000 in
set_option maxHeartbeats 2000000 in
theorem rmost_6_other (n p q : Int) (r a s b : Int) (hr : n + 3 = r) (ha : p * r = a) (ha2 : 0 ≤ a ∧ a ≤ 1000) (hs : n + 2 = s) (hb : p * s = b) (hb2 : 0 ≤ b ∧ b ≤ 1000) (hn : 1 ≤ n ∧ n ≤ 16) (hp : 1 ≤ p ∧ p ≤ 16) (d0 : Int) (hd1 : ¬ d0 = 1) (w : World) : Calls Try.prog 14 #[.int .i64 n, specV 6 p q, .int .i64 d0] w fun e w' => e = .returned (.int .i64 (a + 2)) ∧ Below w.heap.size w w' := by
  unfold specV
  go_enter Try.func14, Try.ntmps14
  go_wp2_with fail
  go_ret
  exact ⟨rfl, (((Below.refl _ _).alloc (Nat.le_refl _) _).alloc (by simp) _).alloc (by simp; omega) _⟩

set_option maxRecDepth 100000 in
set_option maxHeartbeats 2000000 in
theorem rmost_7_one (n p q : Int) (hq : 1 ≤ q ∧ q ≤ 256) (hn : 1 ≤ n ∧ n ≤ 16) (w : World) : Calls Try.prog 14 #[.int .i64 n, specV 7 p q, .int .i64 1] w fun e w' => e = .returned (.int .i64 (4 * q + 1)) ∧ Below w.heap.size w w' := by
  unfold specV
  go_enter Try.func14, Try.ntmps14
  go_wp2_with fail
  go_ret
  exact ⟨rfl, (((Below.refl _ _).alloc (Nat.le_refl _) _).alloc (by simp) _).alloc (by simp; omega) _⟩

set_option maxRecDepth 100000 in
set_option maxHeartbeats 2000000 in
theorem rmost_7_other (n p q : Int) (hq : 1 ≤ q ∧ q ≤ 256) (hn : 1 ≤ n ∧ n ≤ 16) (d0 : Int) (hd1 : ¬ d0 = 1) (w : World) : Calls Try.prog 14 #[.int .i64 n, specV 7 p q, .int .i64 d0] w fun e w' => e = .returned (.int .i64 (4 * q + 1)) ∧ Below w.heap.size w w' := by
  unfold specV
  go_enter Try.func14, Try.ntmps14
  go_wp2_with fail
  go_ret
  exact ⟨rfl, (((Below.refl _ _).alloc (Nat.le_refl _) _).alloc (by simp) _).alloc (by simp; omega) _⟩

set_option maxRecDepth 100000 in
set_option maxHeartbeats 2000000 in
theorem rmost_8_one (n p q : Int) (c m g d : Int) (hc : 2 * n * n = c) (hc2 : 0 ≤ c ∧ c ≤ 512) (hm : n + 1 = m) (hm2 : 0 ≤ m ∧ m ≤ 17) (hg : 15 * (c + 8) + 1 = g) (hg2 : 0 ≤ g ∧ g ≤ 7801) (hd : m * g = d) (hd2 : 0 ≤ d ∧ d ≤ 132617) (hp : 0 ≤ p ∧ p ≤ 32) (hq : 0 ≤ q ∧ q ≤ 3) (hn : 1 ≤ n ∧ n ≤ 16) (w : World) : Calls Try.prog 14 #[.int .i64 n, specV 8 p q, .int .i64 1] w fun e w' => e = .returned (.int .i64 (d + p + 14 * q + n + 14)) ∧ Below w.heap.size w w' := by
  unfold specV
  go_enter Try.func14, Try.ntmps14
  go_wp2_with fail
  go_ret
  exact ⟨rfl, (((Below.refl _ _).alloc (Nat.le_refl _) _).alloc (by simp) _).alloc (by simp; omega) _⟩

set_option maxRecDepth 100000 in
set_option maxHeartbeats 2000000 in
theorem rmost_8_other (n p q : Int) (c m g d : Int) (hc : 2 * n * n = c) (hc2 : 0 ≤ c ∧ c ≤ 512) (hm : n + 1 = m) (hm2 : 0 ≤ m ∧ m ≤ 17) (hg : 15 * (c + 8) + 1 = g) (hg2 : 0 ≤ g ∧ g ≤ 7801) (hd : m * g = d) (hd2 : 0 ≤ d ∧ d ≤ 132617) (hp : 0 ≤ p ∧ p ≤ 32) (hq : 0 ≤ q ∧ q ≤ 3) (hn : 1 ≤ n ∧ n ≤ 16) (d0 : Int) (hd1 : ¬ d0 = 1) (w : World) : Calls Try.prog 14 #[.int .i64 n, specV 8 p q, .int .i64 d0] w fun e w' => e = .returned (.int .i64 (d + p + 14 * q + n + 14)) ∧ Below w.heap.size w w' := by
  unfold specV
  go_enter Try.func14, Try.ntmps14
  go_wp2_with fail
  go_ret
  exact ⟨rfl, (((Below.refl _ _).alloc (Nat.le_refl _) _).alloc (by simp) _).alloc (by simp; omega) _⟩

set_option maxRecDepth 100000 in
set_option maxHeartbeats 2000000 in
theorem rmost_9_one (n p q : Int) (hp : 1 ≤ p ∧ p ≤ 8) (hn : 1 ≤ n ∧ n ≤ 16) (w : World) : Calls Try.prog 14 #[.int .i64 n, specV 9 p q, .int .i64 1] w fun e w' => e = .returned (.int .i64 (p + 2)) ∧ Below w.heap.size w w' := by
  unfold specV
  go_enter Try.func14, Try.ntmps14
  go_wp2_with fail
  go_ret
  exact ⟨rfl, (((Below.refl _ _).alloc (Nat.le_refl _) _).alloc (by simp) _).alloc (by simp; omega) _⟩

set_option maxRecDepth 100000 in
set_option maxHeartbeats 2000000 in
theorem rmost_9_other (n p q : Int) (hp : 1 ≤ p ∧ p ≤ 8) (hn : 1 ≤ n ∧ n ≤ 16) (d0 : Int) (hd1 : ¬ d0 = 1) (w : World) : Calls Try.prog 14 #[.int .i64 n, specV 9 p q, .int .i64 d0] w fun e w' => e = .returned (.int .i64 (n + p + 1)) ∧ Below w.heap.size w w' := by
  unfold specV
  go_enter Try.func14, Try.ntmps14
  go_wp2_with fail
  go_ret
  exact ⟨rfl, (((Below.refl _ _).alloc (Nat.le_refl _) _).alloc (by simp) _).alloc (by simp; omega) _⟩
end Go.Proofs.Ytgmebjnhbkgbfaa
