/- The objects' Size. -/
import Derived.Test.YtmocjpcnohnfpaaGreatBb
namespace Go.Proofs.YtmocjpcnohnfpaaGreat.Tb
open Go.ChangeShapes Go.WideShapes Go.ChangeAt Go.RowKit
set_option linter.unusedVariables false
set_option linter.unusedSimpArgs false

theorem ret_two {a b c d : Int} (h : a = b) (h2 : c = d) : Ending.returned (.tuple #[.int .i64 a, .int .i64 c]) = .returned (.tuple #[.int .i64 b, .int .i64 d]) := by rw [h, h2]

set_option maxHeartbeats 400000 in
theorem consSize_ok (n : Int) (W : World) : Calls Tryz.prog 215 #[.agg #[], .int .i64 n] W fun e w' => e = .returned (.tuple #[.int .i64 1, .int .i64 0]) ∧ Below W.heap.size W w' := by
  go_enter Tryz.func215, Tryz.ntmps215
  go_wp2_with fail
  go_ret2
  exact ⟨rfl, (Below.refl _ _).alloc (Nat.le_refl _) _⟩

set_option maxHeartbeats 400000 in
theorem tallySize_ok (n : Int) (W : World) : Calls Tryz.prog 217 #[.agg #[], .int .i64 n] W fun e w' => e = .returned (.tuple #[.int .i64 n, .int .i64 0]) ∧ Below W.heap.size W w' := by
  go_enter Tryz.func217, Tryz.ntmps217
  go_wp2_with fail
  go_ret2
  exact ⟨rfl, (Below.refl _ _).alloc (Nat.le_refl _) _⟩

set_option maxHeartbeats 400000 in
theorem adderSize_ok (n : Int) (W : World) : Calls Tryz.prog 219 #[.agg #[], .int .i64 n] W fun e w' => e = .returned (.tuple #[.int .i64 1, .int .i64 0]) ∧ Below W.heap.size W w' := by
  go_enter Tryz.func219, Tryz.ntmps219
  go_wp2_with fail
  go_ret2
  exact ⟨rfl, (Below.refl _ _).alloc (Nat.le_refl _) _⟩

set_option maxHeartbeats 400000 in
theorem cellsSize_low (n p : Int) (h : p < 1) (W : World) : Calls Tryz.prog 213 #[.agg #[.int .i64 p], .int .i64 n] W fun e w' => e = .returned (.tuple #[.int .i64 0, .int .i64 10]) ∧ Below W.heap.size W w' := by
  go_enter Tryz.func213, Tryz.ntmps213
  go_wp2_with fail
  go_ret2
  exact ⟨rfl, (Below.refl _ _).alloc (Nat.le_refl _) _⟩

set_option maxHeartbeats 400000 in
theorem cellsSize_high (n p : Int) (h : 64 < p) (W : World) : Calls Tryz.prog 213 #[.agg #[.int .i64 p], .int .i64 n] W fun e w' => e = .returned (.tuple #[.int .i64 0, .int .i64 10]) ∧ Below W.heap.size W w' := by
  have h1 : ¬ p < 1 := by omega
  go_enter Tryz.func213, Tryz.ntmps213
  go_wp2_with fail
  go_ret2
  exact ⟨rfl, (Below.refl _ _).alloc (Nat.le_refl _) _⟩

set_option maxHeartbeats 400000 in
theorem maxSize_low (n p : Int) (h : p < 1) (W : World) : Calls Tryz.prog 221 #[.agg #[.int .i64 p], .int .i64 n] W fun e w' => e = .returned (.tuple #[.int .i64 0, .int .i64 10]) ∧ Below W.heap.size W w' := by
  go_enter Tryz.func221, Tryz.ntmps221
  go_wp2_with fail
  go_ret2
  exact ⟨rfl, (Below.refl _ _).alloc (Nat.le_refl _) _⟩

set_option maxHeartbeats 400000 in
theorem maxSize_high (n p : Int) (h : 12 < p) (W : World) : Calls Tryz.prog 221 #[.agg #[.int .i64 p], .int .i64 n] W fun e w' => e = .returned (.tuple #[.int .i64 0, .int .i64 10]) ∧ Below W.heap.size W w' := by
  have h1 : ¬ p < 1 := by omega
  go_enter Tryz.func221, Tryz.ntmps221
  go_wp2_with fail
  go_ret2
  exact ⟨rfl, (Below.refl _ _).alloc (Nat.le_refl _) _⟩

set_option maxHeartbeats 400000 in
theorem snapSize_low (n p : Int) (h : p < 1) (W : World) : Calls Tryz.prog 223 #[.agg #[.int .i64 p], .int .i64 n] W fun e w' => e = .returned (.tuple #[.int .i64 0, .int .i64 10]) ∧ Below W.heap.size W w' := by
  go_enter Tryz.func223, Tryz.ntmps223
  go_wp2_with fail
  go_ret2
  exact ⟨rfl, (Below.refl _ _).alloc (Nat.le_refl _) _⟩

set_option maxHeartbeats 400000 in
theorem snapSize_high (n p : Int) (h : 64 < p) (W : World) : Calls Tryz.prog 223 #[.agg #[.int .i64 p], .int .i64 n] W fun e w' => e = .returned (.tuple #[.int .i64 0, .int .i64 10]) ∧ Below W.heap.size W w' := by
  have h1 : ¬ p < 1 := by omega
  go_enter Tryz.func223, Tryz.ntmps223
  go_wp2_with fail
  go_ret2
  exact ⟨rfl, (Below.refl _ _).alloc (Nat.le_refl _) _⟩

set_option maxHeartbeats 400000 in
theorem pinSize_low (n p : Int) (h : p < 1) (W : World) : Calls Tryz.prog 238 #[.agg #[.int .i64 p], .int .i64 n] W fun e w' => e = .returned (.tuple #[.int .i64 0, .int .i64 10]) ∧ Below W.heap.size W w' := by
  go_enter Tryz.func238, Tryz.ntmps238
  go_wp2_with fail
  go_ret2
  exact ⟨rfl, (Below.refl _ _).alloc (Nat.le_refl _) _⟩

set_option maxHeartbeats 400000 in
theorem pinSize_high (n p : Int) (h : 8 < p) (W : World) : Calls Tryz.prog 238 #[.agg #[.int .i64 p], .int .i64 n] W fun e w' => e = .returned (.tuple #[.int .i64 0, .int .i64 10]) ∧ Below W.heap.size W w' := by
  have h1 : ¬ p < 1 := by omega
  go_enter Tryz.func238, Tryz.ntmps238
  go_wp2_with fail
  go_ret2
  exact ⟨rfl, (Below.refl _ _).alloc (Nat.le_refl _) _⟩

set_option maxHeartbeats 400000 in
theorem cellsSize_ok (n p : Int) (h : 1 ≤ p ∧ p ≤ 64) (W : World) : Calls Tryz.prog 213 #[.agg #[.int .i64 p], .int .i64 n] W fun e w' => e = .returned (.tuple #[.int .i64 p, .int .i64 0]) ∧ Below W.heap.size W w' := by
  have h1 : ¬ p < 1 := by omega
  have h2 : ¬ 64 < p := by omega
  go_enter Tryz.func213, Tryz.ntmps213
  go_wp2_with fail
  go_ret2
  exact ⟨rfl, (Below.refl _ _).alloc (Nat.le_refl _) _⟩

set_option maxHeartbeats 400000 in
theorem maxSize_1 (n : Int) (W : World) : Calls Tryz.prog 221 #[.agg #[.int .i64 1], .int .i64 n] W fun e w' => e = .returned (.tuple #[.int .i64 1, .int .i64 0]) ∧ Below W.heap.size W w' := by
  go_enter Tryz.func221, Tryz.ntmps221
  go_wp2_with fail
  go_ret2
  exact ⟨rfl, (Below.refl _ _).alloc (Nat.le_refl _) _⟩

set_option maxHeartbeats 400000 in
theorem maxSize_2 (n : Int) (W : World) : Calls Tryz.prog 221 #[.agg #[.int .i64 2], .int .i64 n] W fun e w' => e = .returned (.tuple #[.int .i64 3, .int .i64 0]) ∧ Below W.heap.size W w' := by
  go_enter Tryz.func221, Tryz.ntmps221
  go_wp2_with fail
  go_ret2
  exact ⟨rfl, (Below.refl _ _).alloc (Nat.le_refl _) _⟩

set_option maxHeartbeats 400000 in
theorem maxSize_3 (n : Int) (W : World) : Calls Tryz.prog 221 #[.agg #[.int .i64 3], .int .i64 n] W fun e w' => e = .returned (.tuple #[.int .i64 7, .int .i64 0]) ∧ Below W.heap.size W w' := by
  go_enter Tryz.func221, Tryz.ntmps221
  go_wp2_with fail
  go_ret2
  exact ⟨rfl, (Below.refl _ _).alloc (Nat.le_refl _) _⟩

set_option maxHeartbeats 400000 in
theorem maxSize_4 (n : Int) (W : World) : Calls Tryz.prog 221 #[.agg #[.int .i64 4], .int .i64 n] W fun e w' => e = .returned (.tuple #[.int .i64 15, .int .i64 0]) ∧ Below W.heap.size W w' := by
  go_enter Tryz.func221, Tryz.ntmps221
  go_wp2_with fail
  go_ret2
  exact ⟨rfl, (Below.refl _ _).alloc (Nat.le_refl _) _⟩

set_option maxHeartbeats 400000 in
theorem maxSize_5 (n : Int) (W : World) : Calls Tryz.prog 221 #[.agg #[.int .i64 5], .int .i64 n] W fun e w' => e = .returned (.tuple #[.int .i64 31, .int .i64 0]) ∧ Below W.heap.size W w' := by
  go_enter Tryz.func221, Tryz.ntmps221
  go_wp2_with fail
  go_ret2
  exact ⟨rfl, (Below.refl _ _).alloc (Nat.le_refl _) _⟩

set_option maxHeartbeats 400000 in
theorem maxSize_6 (n : Int) (W : World) : Calls Tryz.prog 221 #[.agg #[.int .i64 6], .int .i64 n] W fun e w' => e = .returned (.tuple #[.int .i64 63, .int .i64 0]) ∧ Below W.heap.size W w' := by
  go_enter Tryz.func221, Tryz.ntmps221
  go_wp2_with fail
  go_ret2
  exact ⟨rfl, (Below.refl _ _).alloc (Nat.le_refl _) _⟩

set_option maxHeartbeats 400000 in
theorem maxSize_7 (n : Int) (W : World) : Calls Tryz.prog 221 #[.agg #[.int .i64 7], .int .i64 n] W fun e w' => e = .returned (.tuple #[.int .i64 127, .int .i64 0]) ∧ Below W.heap.size W w' := by
  go_enter Tryz.func221, Tryz.ntmps221
  go_wp2_with fail
  go_ret2
  exact ⟨rfl, (Below.refl _ _).alloc (Nat.le_refl _) _⟩

set_option maxHeartbeats 400000 in
theorem maxSize_8 (n : Int) (W : World) : Calls Tryz.prog 221 #[.agg #[.int .i64 8], .int .i64 n] W fun e w' => e = .returned (.tuple #[.int .i64 255, .int .i64 0]) ∧ Below W.heap.size W w' := by
  go_enter Tryz.func221, Tryz.ntmps221
  go_wp2_with fail
  go_ret2
  exact ⟨rfl, (Below.refl _ _).alloc (Nat.le_refl _) _⟩

set_option maxHeartbeats 400000 in
theorem maxSize_9 (n : Int) (W : World) : Calls Tryz.prog 221 #[.agg #[.int .i64 9], .int .i64 n] W fun e w' => e = .returned (.tuple #[.int .i64 511, .int .i64 0]) ∧ Below W.heap.size W w' := by
  go_enter Tryz.func221, Tryz.ntmps221
  go_wp2_with fail
  go_ret2
  exact ⟨rfl, (Below.refl _ _).alloc (Nat.le_refl _) _⟩

set_option maxHeartbeats 400000 in
theorem maxSize_10 (n : Int) (W : World) : Calls Tryz.prog 221 #[.agg #[.int .i64 10], .int .i64 n] W fun e w' => e = .returned (.tuple #[.int .i64 1023, .int .i64 0]) ∧ Below W.heap.size W w' := by
  go_enter Tryz.func221, Tryz.ntmps221
  go_wp2_with fail
  go_ret2
  exact ⟨rfl, (Below.refl _ _).alloc (Nat.le_refl _) _⟩

set_option maxHeartbeats 400000 in
theorem maxSize_11 (n : Int) (W : World) : Calls Tryz.prog 221 #[.agg #[.int .i64 11], .int .i64 n] W fun e w' => e = .returned (.tuple #[.int .i64 2047, .int .i64 0]) ∧ Below W.heap.size W w' := by
  go_enter Tryz.func221, Tryz.ntmps221
  go_wp2_with fail
  go_ret2
  exact ⟨rfl, (Below.refl _ _).alloc (Nat.le_refl _) _⟩

set_option maxHeartbeats 400000 in
theorem maxSize_12 (n : Int) (W : World) : Calls Tryz.prog 221 #[.agg #[.int .i64 12], .int .i64 n] W fun e w' => e = .returned (.tuple #[.int .i64 4095, .int .i64 0]) ∧ Below W.heap.size W w' := by
  go_enter Tryz.func221, Tryz.ntmps221
  go_wp2_with fail
  go_ret2
  exact ⟨rfl, (Below.refl _ _).alloc (Nat.le_refl _) _⟩

theorem snapRec (n r : Int) (h : n + 1 = r) (hb : 0 ≤ n ∧ n ≤ 16) (W : World) : Calls Tryz.prog 224 #[.int .i64 n] W fun e w' => e = .returned (.int .i64 r) ∧ W = w' := by
  go_enter Tryz.func224, Tryz.ntmps224
  go_wp2
  go_ret
  exact ⟨ret_int (by omega), rfl⟩

theorem multiRec (p r : Int) (h : p + 1 = r) (hb : 0 ≤ p ∧ p ≤ 16) (W : World) : Calls Tryz.prog 227 #[.int .i64 p] W fun e w' => e = .returned (.int .i64 r) ∧ W = w' := by
  go_enter Tryz.func227, Tryz.ntmps227
  go_wp2
  go_ret
  exact ⟨ret_int (by omega), rfl⟩

theorem pinBufs (n r : Int) (h : n + 1 = r) (hb : 0 ≤ n ∧ n ≤ 16) (W : World) : Calls Tryz.prog 239 #[.int .i64 n] W fun e w' => e = .returned (.int .i64 r) ∧ W = w' := by
  go_enter Tryz.func239, Tryz.ntmps239
  go_wp2
  go_ret
  exact ⟨ret_int (by omega), rfl⟩

set_option maxHeartbeats 1000000 in
theorem snapSize_ok (n p a r b : Int) (hn : 1 ≤ n ∧ n ≤ 16) (hp : 1 ≤ p ∧ p ≤ 64) (ha : n * p = a) (ha2 : 0 ≤ a ∧ a ≤ 1024) (hr : n + 1 = r) (hb : a * r = b) (hb2 : 0 ≤ b ∧ b ≤ 17408) (W : World) : Calls Tryz.prog 223 #[.agg #[.int .i64 p], .int .i64 n] W fun e w' => e = .returned (.tuple #[.int .i64 (n + b), .int .i64 0]) ∧ Below W.heap.size W w' := by
  have h2 : ¬ p < 1 := by omega
  have h3 : ¬ 64 < p := by omega
  have h2b : decide (p < 1) = false := decide_eq_false h2
  have h3b : decide (64 < p) = false := decide_eq_false h3
  have HR : Hid (∀ W, Calls Tryz.prog 224 #[.int .i64 n] W fun e w' => e = .returned (.int .i64 r) ∧ W = w') := Lib.hid (fun W => snapRec n r hr (by omega) W)
  have hr9 : 0 ≤ r ∧ r ≤ 17 := by omega
  clear hr
  go_enter Tryz.func223, Tryz.ntmps223
  go_wp2_with fail
  go_quiet ((go_at_call 224; exact call_keeps ⟨_, rfl⟩ (HR.out _)))
  go_wp2_with fail
  go_ret2
  exact ⟨ret_two (by omega) rfl, below_drewN ((Below.refl _ _).alloc (Nat.le_refl _) _) _⟩

set_option maxHeartbeats 400000 in
theorem multiSize_bad0 (n p q : Int) (h : p < 1) (W : World) : Calls Tryz.prog 226 #[.agg #[.int .i64 p, .int .i64 q], .int .i64 n] W fun e w' => e = .returned (.tuple #[.int .i64 0, .int .i64 10]) ∧ Below W.heap.size W w' := by
  go_enter Tryz.func226, Tryz.ntmps226
  go_wp2_with fail
  go_ret2
  exact ⟨rfl, (Below.refl _ _).alloc (Nat.le_refl _) _⟩

set_option maxHeartbeats 400000 in
theorem multiSize_bad1 (n p q : Int) (h : 16 < p) (W : World) : Calls Tryz.prog 226 #[.agg #[.int .i64 p, .int .i64 q], .int .i64 n] W fun e w' => e = .returned (.tuple #[.int .i64 0, .int .i64 10]) ∧ Below W.heap.size W w' := by
  have g0 : ¬ p < 1 := by omega
  go_enter Tryz.func226, Tryz.ntmps226
  go_wp2_with fail
  go_ret2
  exact ⟨rfl, (Below.refl _ _).alloc (Nat.le_refl _) _⟩

set_option maxHeartbeats 400000 in
theorem multiSize_bad2 (n p q : Int) (h : q < 1) (hp : 1 ≤ p ∧ p ≤ 16) (W : World) : Calls Tryz.prog 226 #[.agg #[.int .i64 p, .int .i64 q], .int .i64 n] W fun e w' => e = .returned (.tuple #[.int .i64 0, .int .i64 10]) ∧ Below W.heap.size W w' := by
  have g0 : ¬ p < 1 := by omega
  have g1 : ¬ 16 < p := by omega
  clear hp
  go_enter Tryz.func226, Tryz.ntmps226
  go_wp2_with fail
  go_ret2
  exact ⟨rfl, (Below.refl _ _).alloc (Nat.le_refl _) _⟩

set_option maxHeartbeats 400000 in
theorem multiSize_bad3 (n p q : Int) (h : 64 < q) (hp : 1 ≤ p ∧ p ≤ 16) (W : World) : Calls Tryz.prog 226 #[.agg #[.int .i64 p, .int .i64 q], .int .i64 n] W fun e w' => e = .returned (.tuple #[.int .i64 0, .int .i64 10]) ∧ Below W.heap.size W w' := by
  have g0 : ¬ p < 1 := by omega
  have g1 : ¬ 16 < p := by omega
  have g2 : ¬ q < 1 := by omega
  clear hp
  go_enter Tryz.func226, Tryz.ntmps226
  go_wp2_with fail
  go_ret2
  exact ⟨rfl, (Below.refl _ _).alloc (Nat.le_refl _) _⟩

set_option maxHeartbeats 1000000 in
theorem multiSize_ok (n p q a r b : Int) (hn : 1 ≤ n ∧ n ≤ 16) (hp : 1 ≤ p ∧ p ≤ 16) (hq : 1 ≤ q ∧ q ≤ 64) (ha : n * q = a) (ha2 : 0 ≤ a ∧ a ≤ 1024) (hr : p + 1 = r) (hb : a * r = b) (hb2 : 0 ≤ b ∧ b ≤ 17408) (W : World) : Calls Tryz.prog 226 #[.agg #[.int .i64 p, .int .i64 q], .int .i64 n] W fun e w' => e = .returned (.tuple #[.int .i64 (p + b), .int .i64 0]) ∧ Below W.heap.size W w' := by
  have h2 : ¬ p < 1 := by omega
  have h3 : ¬ 16 < p := by omega
  have h4 : ¬ q < 1 := by omega
  have h5 : ¬ 64 < q := by omega
  have h2b : decide (p < 1) = false := decide_eq_false h2
  have h3b : decide (16 < p) = false := decide_eq_false h3
  have h4b : decide (q < 1) = false := decide_eq_false h4
  have h5b : decide (64 < q) = false := decide_eq_false h5
  have HR : Hid (∀ W, Calls Tryz.prog 227 #[.int .i64 p] W fun e w' => e = .returned (.int .i64 r) ∧ W = w') := Lib.hid (fun W => multiRec p r hr (by omega) W)
  have hr9 : 0 ≤ r ∧ r ≤ 17 := by omega
  clear hr
  go_enter Tryz.func226, Tryz.ntmps226
  go_wp2_with fail
  go_quiet ((go_at_call 227; exact call_keeps ⟨_, rfl⟩ (HR.out _)))
  go_wp2_with fail
  go_ret2
  exact ⟨ret_two (by omega) rfl, below_drewN ((Below.refl _ _).alloc (Nat.le_refl _) _) _⟩

set_option maxHeartbeats 1000000 in
theorem pinSize_ok (n p r s b : Int) (hn : 1 ≤ n ∧ n ≤ 16) (hp : 1 ≤ p ∧ p ≤ 8) (hr : n + 1 = r) (hs : p + 1 = s) (hb : r * s = b) (hb2 : 0 ≤ b ∧ b ≤ 153) (W : World) : Calls Tryz.prog 238 #[.agg #[.int .i64 p], .int .i64 n] W fun e w' => e = .returned (.tuple #[.int .i64 (1 + b), .int .i64 0]) ∧ Below W.heap.size W w' := by
  have h2 : ¬ p < 1 := by omega
  have h3 : ¬ 8 < p := by omega
  have h2b : decide (p < 1) = false := decide_eq_false h2
  have h3b : decide (8 < p) = false := decide_eq_false h3
  have HR : Hid (∀ W, Calls Tryz.prog 239 #[.int .i64 n] W fun e w' => e = .returned (.int .i64 r) ∧ W = w') := Lib.hid (fun W => pinBufs n r hr (by omega) W)
  have hs1 : 1 + p = s := by omega
  have hr9 : 0 ≤ r ∧ r ≤ 17 := by omega
  have hs9 : 0 ≤ s ∧ s ≤ 9 := by omega
  clear hr hs
  go_enter Tryz.func238, Tryz.ntmps238
  go_wp2_with fail
  go_quiet ((go_at_call 239; exact call_keeps ⟨_, rfl⟩ (HR.out _)))
  go_wp2_with fail
  go_ret2
  exact ⟨ret_two (by omega) rfl, below_drewN ((Below.refl _ _).alloc (Nat.le_refl _) _) _⟩

set_option maxHeartbeats 1000000 in
theorem univSize_bad0 (n p q : Int) (h : ¬ (0 ≤ p ∧ p ≤ 7)) (W : World) : Calls Tryz.prog 229 #[.agg #[.int .i64 p, .int .i64 q], .int .i64 n] W fun e w' => e = .returned (.tuple #[.int .i64 0, .int .i64 10]) ∧ Below W.heap.size W w' := by
  have HK : Hid (∀ w, Calls Tryz.prog 164 #[.int .i64 p] w fun e w' => e = .returned (.int .i64 0) ∧ Below w.heap.size w w') := Lib.hid (fun w => by have := seqKinds_any p w; rw [tbTyp_no h] at this; exact this)
  clear h
  go_enter Tryz.func229, Tryz.ntmps229
  go_wp2_with (go_at_call 164; refine (HK.out _).mono ?_; rintro e w5 ⟨rfl, hb⟩; (have hbk : w5.heap[W.heap.size]? = some (Obj.cells #[.int .i64 p, .int .i64 q] 194) := (hb.block _ (by simp)).trans (heap_alloc_new _ _)); (have k0 := cell_of_blkT (k := 0) hbk rfl); (have k1 := cell_of_blkT (k := 1) hbk rfl); (have HB := Lib.hid hb); clear hb hbk)
  go_ret2
  exact ⟨rfl, ((Below.refl _ _).alloc (Nat.le_refl _) _).trans (HB.out.mono (by simp))⟩

set_option maxHeartbeats 1000000 in
theorem univSize_bad1 (n p q : Int) (h : q < 1) (hp : 0 ≤ p ∧ p ≤ 7) (W : World) : Calls Tryz.prog 229 #[.agg #[.int .i64 p, .int .i64 q], .int .i64 n] W fun e w' => e = .returned (.tuple #[.int .i64 0, .int .i64 10]) ∧ Below W.heap.size W w' := by
  obtain ⟨t, ht, ht2⟩ : ∃ t, tbTyp p = t ∧ 2 ≤ t := by
    unfold tbTyp; rw [if_pos hp]; split
    · exact ⟨_, rfl, by omega⟩
    · exact ⟨_, rfl, by omega⟩
  have HK : Hid (∀ w, Calls Tryz.prog 164 #[.int .i64 p] w fun e w' => e = .returned (.int .i64 t) ∧ Below w.heap.size w w') := Lib.hid (fun w => by have := seqKinds_any p w; rw [ht] at this; exact this)
  have ht3 : ¬ t = 0 := by omega
  clear ht
  clear hp
  go_enter Tryz.func229, Tryz.ntmps229
  go_wp2_with (go_at_call 164; refine (HK.out _).mono ?_; rintro e w5 ⟨rfl, hb⟩; (have hbk : w5.heap[W.heap.size]? = some (Obj.cells #[.int .i64 p, .int .i64 q] 194) := (hb.block _ (by simp)).trans (heap_alloc_new _ _)); (have k0 := cell_of_blkT (k := 0) hbk rfl); (have k1 := cell_of_blkT (k := 1) hbk rfl); (have HB := Lib.hid hb); clear hb hbk)
  go_ret2
  exact ⟨rfl, ((Below.refl _ _).alloc (Nat.le_refl _) _).trans (HB.out.mono (by simp))⟩

set_option maxHeartbeats 1000000 in
theorem univSize_bad2 (n p q : Int) (h : 256 < q) (hp : 0 ≤ p ∧ p ≤ 7) (W : World) : Calls Tryz.prog 229 #[.agg #[.int .i64 p, .int .i64 q], .int .i64 n] W fun e w' => e = .returned (.tuple #[.int .i64 0, .int .i64 10]) ∧ Below W.heap.size W w' := by
  have g0 : ¬ q < 1 := by omega
  obtain ⟨t, ht, ht2⟩ : ∃ t, tbTyp p = t ∧ 2 ≤ t := by
    unfold tbTyp; rw [if_pos hp]; split
    · exact ⟨_, rfl, by omega⟩
    · exact ⟨_, rfl, by omega⟩
  have HK : Hid (∀ w, Calls Tryz.prog 164 #[.int .i64 p] w fun e w' => e = .returned (.int .i64 t) ∧ Below w.heap.size w w') := Lib.hid (fun w => by have := seqKinds_any p w; rw [ht] at this; exact this)
  have ht3 : ¬ t = 0 := by omega
  clear ht
  clear hp
  go_enter Tryz.func229, Tryz.ntmps229
  go_wp2_with (go_at_call 164; refine (HK.out _).mono ?_; rintro e w5 ⟨rfl, hb⟩; (have hbk : w5.heap[W.heap.size]? = some (Obj.cells #[.int .i64 p, .int .i64 q] 194) := (hb.block _ (by simp)).trans (heap_alloc_new _ _)); (have k0 := cell_of_blkT (k := 0) hbk rfl); (have k1 := cell_of_blkT (k := 1) hbk rfl); (have HB := Lib.hid hb); clear hb hbk)
  go_ret2
  exact ⟨rfl, ((Below.refl _ _).alloc (Nat.le_refl _) _).trans (HB.out.mono (by simp))⟩

set_option maxHeartbeats 1000000 in
theorem univSize_ok (n p q : Int) (hn : 1 ≤ n ∧ n ≤ 16) (hp : 0 ≤ p ∧ p ≤ 7) (hq : 1 ≤ q ∧ q ≤ 256) (W : World) : Calls Tryz.prog 229 #[.agg #[.int .i64 p, .int .i64 q], .int .i64 n] W fun e w' => e = .returned (.tuple #[.int .i64 (n + q), .int .i64 0]) ∧ Below W.heap.size W w' := by
  have g0 : decide (q < 1) = false := decide_eq_false (by omega)
  have g1 : decide (256 < q) = false := decide_eq_false (by omega)
  obtain ⟨t, ht, ht2⟩ : ∃ t, tbTyp p = t ∧ 2 ≤ t := by
    unfold tbTyp; rw [if_pos hp]; split
    · exact ⟨_, rfl, by omega⟩
    · exact ⟨_, rfl, by omega⟩
  have HK : Hid (∀ w, Calls Tryz.prog 164 #[.int .i64 p] w fun e w' => e = .returned (.int .i64 t) ∧ Below w.heap.size w w') := Lib.hid (fun w => by have := seqKinds_any p w; rw [ht] at this; exact this)
  have ht3 : ¬ t = 0 := by omega
  clear ht
  have g2 : (t == 0) = false := beq_false_of_ne ht3
  clear hp
  go_enter Tryz.func229, Tryz.ntmps229
  go_wp2_with (go_at_call 164; refine (HK.out _).mono ?_; rintro e w5 ⟨rfl, hb⟩; (have hbk : w5.heap[W.heap.size]? = some (Obj.cells #[.int .i64 p, .int .i64 q] 194) := (hb.block _ (by simp)).trans (heap_alloc_new _ _)); (have k0 := cell_of_blkT (k := 0) hbk rfl); (have k1 := cell_of_blkT (k := 1) hbk rfl); (have HB := Lib.hid hb); clear hb hbk)
  go_ret2
  exact ⟨rfl, ((Below.refl _ _).alloc (Nat.le_refl _) _).trans (HB.out.mono (by simp))⟩

set_option maxHeartbeats 400000 in
theorem exists_any (n k : Int) (W : World) : Calls Tryz.prog 234 #[.int .i64 n, .int .i64 k] W fun e w' => e = .returned (.bool (decide ((1 ≤ n ∧ n ≤ 16) ∧ 1 ≤ k ∧ k ≤ 32))) ∧ W = w' := by
  by_cases h1 : 1 ≤ n
  · by_cases h2 : n ≤ 16
    · by_cases h3 : 1 ≤ k
      · by_cases h4 : k ≤ 32
        · go_enter Tryz.func234, Tryz.ntmps234
          go_wp2_with fail
          go_ret
          exact ⟨ret_bool (by simp [h1, h2, h3, h4]), rfl⟩
        · go_enter Tryz.func234, Tryz.ntmps234
          go_wp2_with fail
          go_ret
          exact ⟨ret_bool (by simp; omega), rfl⟩
      · go_enter Tryz.func234, Tryz.ntmps234
        go_wp2_with fail
        go_ret
        exact ⟨ret_bool (by simp; omega), rfl⟩
    · go_enter Tryz.func234, Tryz.ntmps234
      go_wp2_with fail
      go_ret
      exact ⟨ret_bool (by simp; omega), rfl⟩
  · go_enter Tryz.func234, Tryz.ntmps234
    go_wp2_with fail
    go_ret
    exact ⟨ret_bool (by simp; omega), rfl⟩
theorem nodes_any (n k a : Int) (ha : n * k = a) (ha2 : 0 ≤ a ∧ a ≤ 512) (W : World) : Calls Tryz.prog 236 #[.int .i64 n, .int .i64 k] W fun e w' => e = .returned (.int .i64 (1 + a)) ∧ W = w' := by
  go_enter Tryz.func236, Tryz.ntmps236
  go_wp2_with fail
  go_ret
  exact ⟨rfl, rfl⟩
theorem begin_node (n i : Int) (hn : 0 ≤ n ∧ n ≤ 16) (hi : 0 ≤ i ∧ i ≤ 600) (W : World) : Calls Tryz.prog 235 #[.int .i64 n, .int .i64 i] W fun e w' => e = .returned (.int .i64 (2 + n + 4 * (i - 1))) ∧ W = w' := by
  go_enter Tryz.func235, Tryz.ntmps235
  go_wp2_with fail
  go_ret
  exact ⟨rfl, rfl⟩
set_option maxHeartbeats 400000 in
theorem nodeSize_ok (n k a : Int) (hn : 1 ≤ n ∧ n ≤ 16) (hk : 1 ≤ k ∧ k ≤ 32) (ha : n * k = a) (ha2 : 0 ≤ a ∧ a ≤ 512) (W : World) : Calls Tryz.prog 233 #[.int .i64 n, .int .i64 k] W fun e w' => e = .returned (.int .i64 (6 + n + 4 * a)) ∧ W = w' := by
  have HE : Hid (∀ W, Calls Tryz.prog 234 #[.int .i64 n, .int .i64 k] W fun e w' => e = .returned (.bool true) ∧ W = w') := Lib.hid (fun W => by have := exists_any n k W; rw [decide_eq_true (⟨hn, hk⟩ : (1 ≤ n ∧ n ≤ 16) ∧ 1 ≤ k ∧ k ≤ 32)] at this; exact this)
  have HN := Lib.hid (fun W => nodes_any n k a ha ha2 W)
  have HBg := Lib.hid (fun W => begin_node n (1 + a + 1) (by omega) (by omega) W)
  clear ha
  go_enter Tryz.func233, Tryz.ntmps233
  go_wp2_with (first
    | (go_at_call 234; refine (HE.out _).mono ?_; rintro e w5 ⟨rfl, rfl⟩)
    | (go_at_call 236; refine (HN.out _).mono ?_; rintro e w5 ⟨rfl, rfl⟩)
    | (go_at_call 235; refine (HBg.out _).mono ?_; rintro e w5 ⟨rfl, rfl⟩))
  go_ret
  exact ⟨ret_int (by omega), rfl⟩
set_option maxHeartbeats 400000 in
theorem nodeSize_no (n k : Int) (h : ¬ ((1 ≤ n ∧ n ≤ 16) ∧ 1 ≤ k ∧ k ≤ 32)) (W : World) : Calls Tryz.prog 233 #[.int .i64 n, .int .i64 k] W fun e w' => e = .returned (.int .i64 0) ∧ W = w' := by
  have HE : Hid (∀ W, Calls Tryz.prog 234 #[.int .i64 n, .int .i64 k] W fun e w' => e = .returned (.bool false) ∧ W = w') := Lib.hid (fun W => by have := exists_any n k W; rw [decide_eq_false h] at this; exact this)
  clear h
  go_enter Tryz.func233, Tryz.ntmps233
  go_wp2_with (go_at_call 234; refine (HE.out _).mono ?_; rintro e w5 ⟨rfl, rfl⟩)
  go_ret
  exact ⟨rfl, rfl⟩

set_option maxHeartbeats 1000000 in
theorem queueSize_bad0 (n p q : Int) (h : ¬ ((1 ≤ n ∧ n ≤ 16) ∧ 1 ≤ p ∧ p ≤ 32)) (W : World) : Calls Tryz.prog 231 #[.agg #[.int .i64 p, .int .i64 q], .int .i64 n] W fun e w' => e = .returned (.tuple #[.int .i64 0, .int .i64 10]) ∧ Below W.heap.size W w' := by
  have HS := Lib.hid (fun W => nodeSize_no n p h W)
  clear h
  go_enter Tryz.func231, Tryz.ntmps231
  go_wp2_with (go_at_call 233; refine (HS.out _).mono ?_; rintro e w5 ⟨rfl, rfl⟩)
  go_ret2
  exact ⟨rfl, (Below.refl _ _).alloc (Nat.le_refl _) _⟩

set_option maxHeartbeats 1000000 in
theorem queueSize_bad1 (n p q a : Int) (h : q < 0) (hn : 1 ≤ n ∧ n ≤ 16) (hp : 1 ≤ p ∧ p ≤ 32) (ha : n * p = a) (ha2 : 0 ≤ a ∧ a ≤ 512) (W : World) : Calls Tryz.prog 231 #[.agg #[.int .i64 p, .int .i64 q], .int .i64 n] W fun e w' => e = .returned (.tuple #[.int .i64 0, .int .i64 10]) ∧ Below W.heap.size W w' := by
  obtain ⟨s, hs, hs0⟩ : ∃ s, 6 + n + 4 * a = s ∧ ¬ s = 0 := ⟨_, rfl, by omega⟩
  have HS : Hid (∀ W, Calls Tryz.prog 233 #[.int .i64 n, .int .i64 p] W fun e w' => e = .returned (.int .i64 s) ∧ W = w') := Lib.hid (fun W => by have := nodeSize_ok n p a hn hp ha ha2 W; rw [hs] at this; exact this)
  clear hn hp ha ha2 hs
  go_enter Tryz.func231, Tryz.ntmps231
  go_wp2_with (go_at_call 233; refine (HS.out _).mono ?_; rintro e w5 ⟨rfl, rfl⟩)
  go_ret2
  exact ⟨rfl, (Below.refl _ _).alloc (Nat.le_refl _) _⟩

set_option maxHeartbeats 1000000 in
theorem queueSize_bad2 (n p q a : Int) (h : 3 < q) (hn : 1 ≤ n ∧ n ≤ 16) (hp : 1 ≤ p ∧ p ≤ 32) (ha : n * p = a) (ha2 : 0 ≤ a ∧ a ≤ 512) (W : World) : Calls Tryz.prog 231 #[.agg #[.int .i64 p, .int .i64 q], .int .i64 n] W fun e w' => e = .returned (.tuple #[.int .i64 0, .int .i64 10]) ∧ Below W.heap.size W w' := by
  have g0 : ¬ q < 0 := by omega
  obtain ⟨s, hs, hs0⟩ : ∃ s, 6 + n + 4 * a = s ∧ ¬ s = 0 := ⟨_, rfl, by omega⟩
  have HS : Hid (∀ W, Calls Tryz.prog 233 #[.int .i64 n, .int .i64 p] W fun e w' => e = .returned (.int .i64 s) ∧ W = w') := Lib.hid (fun W => by have := nodeSize_ok n p a hn hp ha ha2 W; rw [hs] at this; exact this)
  clear hn hp ha ha2 hs
  go_enter Tryz.func231, Tryz.ntmps231
  go_wp2_with (go_at_call 233; refine (HS.out _).mono ?_; rintro e w5 ⟨rfl, rfl⟩)
  go_ret2
  exact ⟨rfl, (Below.refl _ _).alloc (Nat.le_refl _) _⟩

set_option maxHeartbeats 1000000 in
theorem queueSize_ok (n p q a : Int) (hq : 0 ≤ q ∧ q ≤ 3) (hn : 1 ≤ n ∧ n ≤ 16) (hp : 1 ≤ p ∧ p ≤ 32) (ha : n * p = a) (ha2 : 0 ≤ a ∧ a ≤ 512) (W : World) : Calls Tryz.prog 231 #[.agg #[.int .i64 p, .int .i64 q], .int .i64 n] W fun e w' => e = .returned (.tuple #[.int .i64 (6 + n + 4 * a), .int .i64 0]) ∧ Below W.heap.size W w' := by
  have g0 : decide (q < 0) = false := decide_eq_false (by omega)
  have g1 : decide (3 < q) = false := decide_eq_false (by omega)
  obtain ⟨s, hs, hs0⟩ : ∃ s, 6 + n + 4 * a = s ∧ ¬ s = 0 := ⟨_, rfl, by omega⟩
  have HS : Hid (∀ W, Calls Tryz.prog 233 #[.int .i64 n, .int .i64 p] W fun e w' => e = .returned (.int .i64 s) ∧ W = w') := Lib.hid (fun W => by have := nodeSize_ok n p a hn hp ha ha2 W; rw [hs] at this; exact this)
  have g2 : (s == 0) = false := beq_false_of_ne hs0
  rw [hs]
  clear hn hp ha ha2 hs
  go_enter Tryz.func231, Tryz.ntmps231
  go_wp2_with (go_at_call 233; refine (HS.out _).mono ?_; rintro e w5 ⟨rfl, rfl⟩)
  go_ret2
  exact ⟨rfl, (Below.refl _ _).alloc (Nat.le_refl _) _⟩
end Go.Proofs.YtmocjpcnohnfpaaGreat.Tb
