/- The reference of table: Size, Kinds. -/
import Derived.Test.YtjjleghalajidaaGreatGB1
namespace Go.Proofs.YtjjleghalajidaaGreat.Tb
set_option maxRecDepth 100000
open Go.ChangeShapes Go.WideShapes Go.ChangeAt Go.RowKit
set_option linter.unusedVariables false
set_option linter.unusedSimpArgs false

def specV (k p q : Int) : Value := .agg #[.int .i64 k, .int .i64 p, .int .i64 q]
def specO (k p q : Int) : Obj := .cells #[.int .i64 k, .int .i64 p, .int .i64 q] 63
theorem spec_in {w w5 : World} {k p q : Int} (hb : Below (w.alloc (specO k p q)).heap.size (w.alloc (specO k p q)) w5) :
    w5.heap[w.heap.size]? = some (specO k p q) ∧ Below w.heap.size w w5 ∧ w.heap.size < w5.heap.size := by
  have h1 : w5.heap[w.heap.size]? = some (specO k p q) := (hb.block _ (by rw [World.size_alloc]; omega)).trans (heap_alloc_new _ _)
  exact ⟨h1, ((Below.refl _ _).alloc (Nat.le_refl _) _).trans (hb.mono (by rw [World.size_alloc]; omega)), blk_lt h1⟩

set_option maxHeartbeats 400000 in
theorem rtyp_0 (w : World) : Calls Tryz.prog 57 #[.int .i64 0] w fun e w' => e = .returned (.int .i64 (tbTyp 0)) ∧ Below w.heap.size w w' := by
  go_enter Tryz.func57, Tryz.ntmps57
  go_wp2_with fail
  go_ret
  exact ⟨rfl, (Below.refl _ _).alloc (Nat.le_refl _) _⟩

set_option maxHeartbeats 400000 in
theorem rtyp_1 (w : World) : Calls Tryz.prog 57 #[.int .i64 1] w fun e w' => e = .returned (.int .i64 (tbTyp 1)) ∧ Below w.heap.size w w' := by
  go_enter Tryz.func57, Tryz.ntmps57
  go_wp2_with fail
  go_ret
  exact ⟨rfl, (Below.refl _ _).alloc (Nat.le_refl _) _⟩

set_option maxHeartbeats 400000 in
theorem rtyp_2 (w : World) : Calls Tryz.prog 57 #[.int .i64 2] w fun e w' => e = .returned (.int .i64 (tbTyp 2)) ∧ Below w.heap.size w w' := by
  go_enter Tryz.func57, Tryz.ntmps57
  go_wp2_with fail
  go_ret
  exact ⟨rfl, (Below.refl _ _).alloc (Nat.le_refl _) _⟩

set_option maxHeartbeats 400000 in
theorem rtyp_3 (w : World) : Calls Tryz.prog 57 #[.int .i64 3] w fun e w' => e = .returned (.int .i64 (tbTyp 3)) ∧ Below w.heap.size w w' := by
  go_enter Tryz.func57, Tryz.ntmps57
  go_wp2_with fail
  go_ret
  exact ⟨rfl, (Below.refl _ _).alloc (Nat.le_refl _) _⟩

set_option maxHeartbeats 400000 in
theorem rtyp_4 (w : World) : Calls Tryz.prog 57 #[.int .i64 4] w fun e w' => e = .returned (.int .i64 (tbTyp 4)) ∧ Below w.heap.size w w' := by
  go_enter Tryz.func57, Tryz.ntmps57
  go_wp2_with fail
  go_ret
  exact ⟨rfl, (Below.refl _ _).alloc (Nat.le_refl _) _⟩

set_option maxHeartbeats 400000 in
theorem rtyp_5 (w : World) : Calls Tryz.prog 57 #[.int .i64 5] w fun e w' => e = .returned (.int .i64 (tbTyp 5)) ∧ Below w.heap.size w w' := by
  go_enter Tryz.func57, Tryz.ntmps57
  go_wp2_with fail
  go_ret
  exact ⟨rfl, (Below.refl _ _).alloc (Nat.le_refl _) _⟩

set_option maxHeartbeats 400000 in
theorem rtyp_6 (w : World) : Calls Tryz.prog 57 #[.int .i64 6] w fun e w' => e = .returned (.int .i64 (tbTyp 6)) ∧ Below w.heap.size w w' := by
  go_enter Tryz.func57, Tryz.ntmps57
  go_wp2_with fail
  go_ret
  exact ⟨rfl, (Below.refl _ _).alloc (Nat.le_refl _) _⟩

set_option maxHeartbeats 400000 in
theorem rtyp_7 (w : World) : Calls Tryz.prog 57 #[.int .i64 7] w fun e w' => e = .returned (.int .i64 (tbTyp 7)) ∧ Below w.heap.size w w' := by
  go_enter Tryz.func57, Tryz.ntmps57
  go_wp2_with fail
  go_ret
  exact ⟨rfl, (Below.refl _ _).alloc (Nat.le_refl _) _⟩

set_option maxHeartbeats 400000 in
theorem rtyp_any (t : Int) (w : World) : Calls Tryz.prog 57 #[.int .i64 t] w fun e w' => e = .returned (.int .i64 (tbTyp t)) ∧ Below w.heap.size w w' := by
  by_cases h : 0 ≤ t ∧ t ≤ 7
  · have : t = 0 ∨ t = 1 ∨ t = 2 ∨ t = 3 ∨ t = 4 ∨ t = 5 ∨ t = 6 ∨ t = 7 := by omega
    rcases this with rfl | rfl | rfl | rfl | rfl | rfl | rfl | rfl
    · exact rtyp_0 w
    · exact rtyp_1 w
    · exact rtyp_2 w
    · exact rtyp_3 w
    · exact rtyp_4 w
    · exact rtyp_5 w
    · exact rtyp_6 w
    · exact rtyp_7 w
  · rw [tbTyp_no h]
    by_cases h0 : t < 0
    · clear h
      go_enter Tryz.func57, Tryz.ntmps57
      go_wp2_with fail
      go_ret
      exact ⟨rfl, Below.refl _ _⟩
    · have h7 : 7 < t := by omega
      clear h
      go_enter Tryz.func57, Tryz.ntmps57
      go_wp2_with fail
      go_ret
      exact ⟨rfl, Below.refl _ _⟩
set_option maxHeartbeats 1000000 in
theorem beside_any (n k p q : Int) (h : 0 ≤ k ∧ k ≤ 9) (w : World) : Calls Tryz.prog 59 #[.int .i64 n, specV k p q] w fun e w' => e = .returned (.int .i64 (-1)) ∧ Below w.heap.size w w' := by
  have h10 : ¬ k = 10 := by omega
  have h11 : ¬ k = 11 := by omega
  have h12 : ¬ k = 12 := by omega
  have h13 : ¬ k = 13 := by omega
  have h14 : ¬ k = 14 := by omega
  have h15 : ¬ k = 15 := by omega
  have h16 : ¬ k = 16 := by omega
  have h17 : ¬ k = 17 := by omega
  clear h
  unfold specV
  go_enter Tryz.func59, Tryz.ntmps59
  go_wp2_with fail
  go_ret
  exact ⟨rfl, (Below.refl _ _).alloc (Nat.le_refl _) _⟩
theorem rsize20 (n k a : Int) (hn : 1 ≤ n ∧ n ≤ 16) (ha : n * k = a) (ha2 : 0 ≤ a ∧ a ≤ 512) (w : World) : Calls Tryz.prog 58 #[.int .i64 n, .int .i64 k] w fun e w' => e = .returned (.int .i64 (6 + n + 4 * a)) ∧ w = w' := by
  go_enter Tryz.func58, Tryz.ntmps58
  go_wp2_with fail
  go_ret
  exact ⟨ret_int (by omega), rfl⟩

set_option maxRecDepth 100000 in
set_option maxHeartbeats 1000000 in
theorem psize_0_no0 (n p q : Int)  (h : ¬ 1 ≤ p) (w : World) : Calls Tryz.prog 33 #[.int .i64 n, specV 0 p q] w fun e w' => e = .returned (.int .i64 (-1)) ∧ Below w.heap.size w w' := by
  unfold specV
  have HBe : Hid (∀ n p q w, Calls Tryz.prog 59 #[.int .i64 n, .agg #[.int .i64 0, .int .i64 p, .int .i64 q]] w fun e w' => e = .returned (.int .i64 (-1)) ∧ Below w.heap.size w w') := Lib.hid (fun n p q w => beside_any n 0 p q (by omega) w)
  have d0 : decide (1 ≤ p) = false := decide_eq_false h
  go_enter Tryz.func33, Tryz.ntmps33
  go_wp2_with (go_at_call 59; refine (HBe.out _ _ _ _).mono ?_; rintro e w6 ⟨rfl, hb⟩; (have HB6 := Lib.hid hb); clear hb)
  go_ret
  exact ⟨rfl, ((Below.refl _ _).alloc (Nat.le_refl _) _).trans (HB6.out.mono (by simp))⟩

set_option maxRecDepth 100000 in
set_option maxHeartbeats 1000000 in
theorem psize_0_no1 (n p q : Int) (g0 : 1 ≤ p) (h : ¬ p ≤ 64) (w : World) : Calls Tryz.prog 33 #[.int .i64 n, specV 0 p q] w fun e w' => e = .returned (.int .i64 (-1)) ∧ Below w.heap.size w w' := by
  unfold specV
  have HBe : Hid (∀ n p q w, Calls Tryz.prog 59 #[.int .i64 n, .agg #[.int .i64 0, .int .i64 p, .int .i64 q]] w fun e w' => e = .returned (.int .i64 (-1)) ∧ Below w.heap.size w w') := Lib.hid (fun n p q w => beside_any n 0 p q (by omega) w)
  have d0 : decide (1 ≤ p) = true := decide_eq_true g0
  have d1 : decide (p ≤ 64) = false := decide_eq_false h
  go_enter Tryz.func33, Tryz.ntmps33
  go_wp2_with (go_at_call 59; refine (HBe.out _ _ _ _).mono ?_; rintro e w6 ⟨rfl, hb⟩; (have HB6 := Lib.hid hb); clear hb)
  go_ret
  exact ⟨rfl, ((Below.refl _ _).alloc (Nat.le_refl _) _).trans (HB6.out.mono (by simp))⟩

set_option maxRecDepth 100000 in
set_option maxHeartbeats 1000000 in
theorem psize_0 (n p q : Int) (g0 : 1 ≤ p) (g1 : p ≤ 64) (w : World) : Calls Tryz.prog 33 #[.int .i64 n, specV 0 p q] w fun e w' => e = .returned (.int .i64 (p)) ∧ Below w.heap.size w w' := by
  unfold specV
  have d0 : decide (1 ≤ p) = true := decide_eq_true g0
  have d1 : decide (p ≤ 64) = true := decide_eq_true g1
  go_enter Tryz.func33, Tryz.ntmps33
  go_wp2_with fail
  go_ret
  exact ⟨ret_int (by omega), (Below.refl _ _).alloc (Nat.le_refl _) _⟩

set_option maxRecDepth 100000 in
set_option maxHeartbeats 1000000 in
theorem psize_1 (n p q : Int) (w : World) : Calls Tryz.prog 33 #[.int .i64 n, specV 1 p q] w fun e w' => e = .returned (.int .i64 (1)) ∧ Below w.heap.size w w' := by
  unfold specV
  go_enter Tryz.func33, Tryz.ntmps33
  go_wp2_with fail
  go_ret
  exact ⟨rfl, (Below.refl _ _).alloc (Nat.le_refl _) _⟩

set_option maxRecDepth 100000 in
set_option maxHeartbeats 1000000 in
theorem psize_2 (n p q : Int) (w : World) : Calls Tryz.prog 33 #[.int .i64 n, specV 2 p q] w fun e w' => e = .returned (.int .i64 (n)) ∧ Below w.heap.size w w' := by
  unfold specV
  go_enter Tryz.func33, Tryz.ntmps33
  go_wp2_with fail
  go_ret
  exact ⟨rfl, (Below.refl _ _).alloc (Nat.le_refl _) _⟩

set_option maxRecDepth 100000 in
set_option maxHeartbeats 1000000 in
theorem psize_3 (n p q : Int) (w : World) : Calls Tryz.prog 33 #[.int .i64 n, specV 3 p q] w fun e w' => e = .returned (.int .i64 (1)) ∧ Below w.heap.size w w' := by
  unfold specV
  go_enter Tryz.func33, Tryz.ntmps33
  go_wp2_with fail
  go_ret
  exact ⟨rfl, (Below.refl _ _).alloc (Nat.le_refl _) _⟩

set_option maxRecDepth 100000 in
set_option maxHeartbeats 1000000 in
theorem psize_4_no0 (n p q : Int)  (h : ¬ 1 ≤ p) (w : World) : Calls Tryz.prog 33 #[.int .i64 n, specV 4 p q] w fun e w' => e = .returned (.int .i64 (-1)) ∧ Below w.heap.size w w' := by
  unfold specV
  have HBe : Hid (∀ n p q w, Calls Tryz.prog 59 #[.int .i64 n, .agg #[.int .i64 4, .int .i64 p, .int .i64 q]] w fun e w' => e = .returned (.int .i64 (-1)) ∧ Below w.heap.size w w') := Lib.hid (fun n p q w => beside_any n 4 p q (by omega) w)
  have d0 : decide (1 ≤ p) = false := decide_eq_false h
  go_enter Tryz.func33, Tryz.ntmps33
  go_wp2_with (go_at_call 59; refine (HBe.out _ _ _ _).mono ?_; rintro e w6 ⟨rfl, hb⟩; (have HB6 := Lib.hid hb); clear hb)
  go_ret
  exact ⟨rfl, ((Below.refl _ _).alloc (Nat.le_refl _) _).trans (HB6.out.mono (by simp))⟩

set_option maxRecDepth 100000 in
set_option maxHeartbeats 1000000 in
theorem psize_4_no1 (n p q : Int) (g0 : 1 ≤ p) (h : ¬ p ≤ 12) (w : World) : Calls Tryz.prog 33 #[.int .i64 n, specV 4 p q] w fun e w' => e = .returned (.int .i64 (-1)) ∧ Below w.heap.size w w' := by
  unfold specV
  have HBe : Hid (∀ n p q w, Calls Tryz.prog 59 #[.int .i64 n, .agg #[.int .i64 4, .int .i64 p, .int .i64 q]] w fun e w' => e = .returned (.int .i64 (-1)) ∧ Below w.heap.size w w') := Lib.hid (fun n p q w => beside_any n 4 p q (by omega) w)
  have d0 : decide (1 ≤ p) = true := decide_eq_true g0
  have d1 : decide (p ≤ 12) = false := decide_eq_false h
  go_enter Tryz.func33, Tryz.ntmps33
  go_wp2_with (go_at_call 59; refine (HBe.out _ _ _ _).mono ?_; rintro e w6 ⟨rfl, hb⟩; (have HB6 := Lib.hid hb); clear hb)
  go_ret
  exact ⟨rfl, ((Below.refl _ _).alloc (Nat.le_refl _) _).trans (HB6.out.mono (by simp))⟩

set_option maxRecDepth 100000 in
set_option maxHeartbeats 1000000 in
theorem psize_4_1 (n q : Int) (w : World) : Calls Tryz.prog 33 #[.int .i64 n, specV 4 1 q] w fun e w' => e = .returned (.int .i64 (1)) ∧ Below w.heap.size w w' := by
  unfold specV
  go_enter Tryz.func33, Tryz.ntmps33
  go_wp2_with fail
  go_ret
  exact ⟨ret_int (by omega), (Below.refl _ _).alloc (Nat.le_refl _) _⟩

set_option maxRecDepth 100000 in
set_option maxHeartbeats 1000000 in
theorem psize_4_2 (n q : Int) (w : World) : Calls Tryz.prog 33 #[.int .i64 n, specV 4 2 q] w fun e w' => e = .returned (.int .i64 (3)) ∧ Below w.heap.size w w' := by
  unfold specV
  go_enter Tryz.func33, Tryz.ntmps33
  go_wp2_with fail
  go_ret
  exact ⟨ret_int (by omega), (Below.refl _ _).alloc (Nat.le_refl _) _⟩

set_option maxRecDepth 100000 in
set_option maxHeartbeats 1000000 in
theorem psize_4_3 (n q : Int) (w : World) : Calls Tryz.prog 33 #[.int .i64 n, specV 4 3 q] w fun e w' => e = .returned (.int .i64 (7)) ∧ Below w.heap.size w w' := by
  unfold specV
  go_enter Tryz.func33, Tryz.ntmps33
  go_wp2_with fail
  go_ret
  exact ⟨ret_int (by omega), (Below.refl _ _).alloc (Nat.le_refl _) _⟩

set_option maxRecDepth 100000 in
set_option maxHeartbeats 1000000 in
theorem psize_4_4 (n q : Int) (w : World) : Calls Tryz.prog 33 #[.int .i64 n, specV 4 4 q] w fun e w' => e = .returned (.int .i64 (15)) ∧ Below w.heap.size w w' := by
  unfold specV
  go_enter Tryz.func33, Tryz.ntmps33
  go_wp2_with fail
  go_ret
  exact ⟨ret_int (by omega), (Below.refl _ _).alloc (Nat.le_refl _) _⟩

set_option maxRecDepth 100000 in
set_option maxHeartbeats 1000000 in
theorem psize_4_5 (n q : Int) (w : World) : Calls Tryz.prog 33 #[.int .i64 n, specV 4 5 q] w fun e w' => e = .returned (.int .i64 (31)) ∧ Below w.heap.size w w' := by
  unfold specV
  go_enter Tryz.func33, Tryz.ntmps33
  go_wp2_with fail
  go_ret
  exact ⟨ret_int (by omega), (Below.refl _ _).alloc (Nat.le_refl _) _⟩

set_option maxRecDepth 100000 in
set_option maxHeartbeats 1000000 in
theorem psize_4_6 (n q : Int) (w : World) : Calls Tryz.prog 33 #[.int .i64 n, specV 4 6 q] w fun e w' => e = .returned (.int .i64 (63)) ∧ Below w.heap.size w w' := by
  unfold specV
  go_enter Tryz.func33, Tryz.ntmps33
  go_wp2_with fail
  go_ret
  exact ⟨ret_int (by omega), (Below.refl _ _).alloc (Nat.le_refl _) _⟩

set_option maxRecDepth 100000 in
set_option maxHeartbeats 1000000 in
theorem psize_4_7 (n q : Int) (w : World) : Calls Tryz.prog 33 #[.int .i64 n, specV 4 7 q] w fun e w' => e = .returned (.int .i64 (127)) ∧ Below w.heap.size w w' := by
  unfold specV
  go_enter Tryz.func33, Tryz.ntmps33
  go_wp2_with fail
  go_ret
  exact ⟨ret_int (by omega), (Below.refl _ _).alloc (Nat.le_refl _) _⟩

set_option maxRecDepth 100000 in
set_option maxHeartbeats 1000000 in
theorem psize_4_8 (n q : Int) (w : World) : Calls Tryz.prog 33 #[.int .i64 n, specV 4 8 q] w fun e w' => e = .returned (.int .i64 (255)) ∧ Below w.heap.size w w' := by
  unfold specV
  go_enter Tryz.func33, Tryz.ntmps33
  go_wp2_with fail
  go_ret
  exact ⟨ret_int (by omega), (Below.refl _ _).alloc (Nat.le_refl _) _⟩

set_option maxRecDepth 100000 in
set_option maxHeartbeats 1000000 in
theorem psize_4_9 (n q : Int) (w : World) : Calls Tryz.prog 33 #[.int .i64 n, specV 4 9 q] w fun e w' => e = .returned (.int .i64 (511)) ∧ Below w.heap.size w w' := by
  unfold specV
  go_enter Tryz.func33, Tryz.ntmps33
  go_wp2_with fail
  go_ret
  exact ⟨ret_int (by omega), (Below.refl _ _).alloc (Nat.le_refl _) _⟩

set_option maxRecDepth 100000 in
set_option maxHeartbeats 1000000 in
theorem psize_4_10 (n q : Int) (w : World) : Calls Tryz.prog 33 #[.int .i64 n, specV 4 10 q] w fun e w' => e = .returned (.int .i64 (1023)) ∧ Below w.heap.size w w' := by
  unfold specV
  go_enter Tryz.func33, Tryz.ntmps33
  go_wp2_with fail
  go_ret
  exact ⟨ret_int (by omega), (Below.refl _ _).alloc (Nat.le_refl _) _⟩

set_option maxRecDepth 100000 in
set_option maxHeartbeats 1000000 in
theorem psize_4_11 (n q : Int) (w : World) : Calls Tryz.prog 33 #[.int .i64 n, specV 4 11 q] w fun e w' => e = .returned (.int .i64 (2047)) ∧ Below w.heap.size w w' := by
  unfold specV
  go_enter Tryz.func33, Tryz.ntmps33
  go_wp2_with fail
  go_ret
  exact ⟨ret_int (by omega), (Below.refl _ _).alloc (Nat.le_refl _) _⟩

set_option maxRecDepth 100000 in
set_option maxHeartbeats 1000000 in
theorem psize_4_12 (n q : Int) (w : World) : Calls Tryz.prog 33 #[.int .i64 n, specV 4 12 q] w fun e w' => e = .returned (.int .i64 (4095)) ∧ Below w.heap.size w w' := by
  unfold specV
  go_enter Tryz.func33, Tryz.ntmps33
  go_wp2_with fail
  go_ret
  exact ⟨ret_int (by omega), (Below.refl _ _).alloc (Nat.le_refl _) _⟩

set_option maxRecDepth 100000 in
set_option maxHeartbeats 1000000 in
theorem psize_5_no0 (n p q : Int)  (h : ¬ 1 ≤ p) (w : World) : Calls Tryz.prog 33 #[.int .i64 n, specV 5 p q] w fun e w' => e = .returned (.int .i64 (-1)) ∧ Below w.heap.size w w' := by
  unfold specV
  have HBe : Hid (∀ n p q w, Calls Tryz.prog 59 #[.int .i64 n, .agg #[.int .i64 5, .int .i64 p, .int .i64 q]] w fun e w' => e = .returned (.int .i64 (-1)) ∧ Below w.heap.size w w') := Lib.hid (fun n p q w => beside_any n 5 p q (by omega) w)
  have d0 : decide (1 ≤ p) = false := decide_eq_false h
  go_enter Tryz.func33, Tryz.ntmps33
  go_wp2_with (go_at_call 59; refine (HBe.out _ _ _ _).mono ?_; rintro e w6 ⟨rfl, hb⟩; (have HB6 := Lib.hid hb); clear hb)
  go_ret
  exact ⟨rfl, ((Below.refl _ _).alloc (Nat.le_refl _) _).trans (HB6.out.mono (by simp))⟩

set_option maxRecDepth 100000 in
set_option maxHeartbeats 1000000 in
theorem psize_5_no1 (n p q : Int) (g0 : 1 ≤ p) (h : ¬ p ≤ 64) (w : World) : Calls Tryz.prog 33 #[.int .i64 n, specV 5 p q] w fun e w' => e = .returned (.int .i64 (-1)) ∧ Below w.heap.size w w' := by
  unfold specV
  have HBe : Hid (∀ n p q w, Calls Tryz.prog 59 #[.int .i64 n, .agg #[.int .i64 5, .int .i64 p, .int .i64 q]] w fun e w' => e = .returned (.int .i64 (-1)) ∧ Below w.heap.size w w') := Lib.hid (fun n p q w => beside_any n 5 p q (by omega) w)
  have d0 : decide (1 ≤ p) = true := decide_eq_true g0
  have d1 : decide (p ≤ 64) = false := decide_eq_false h
  go_enter Tryz.func33, Tryz.ntmps33
  go_wp2_with (go_at_call 59; refine (HBe.out _ _ _ _).mono ?_; rintro e w6 ⟨rfl, hb⟩; (have HB6 := Lib.hid hb); clear hb)
  go_ret
  exact ⟨rfl, ((Below.refl _ _).alloc (Nat.le_refl _) _).trans (HB6.out.mono (by simp))⟩

set_option maxRecDepth 100000 in
set_option maxHeartbeats 1000000 in
theorem psize_5 (n p q a r b : Int) (g0 : 1 ≤ p) (g1 : p ≤ 64) (hn : 1 ≤ n ∧ n ≤ 16) (ha : n * p = a) (ha2 : 0 ≤ a ∧ a ≤ 1024) (hr : n + 1 = r) (hr2 : 0 ≤ r ∧ r ≤ 17) (hb : a * r = b) (hb2 : 0 ≤ b ∧ b ≤ 17408) (w : World) : Calls Tryz.prog 33 #[.int .i64 n, specV 5 p q] w fun e w' => e = .returned (.int .i64 (n + b)) ∧ Below w.heap.size w w' := by
  unfold specV
  have d0 : decide (1 ≤ p) = true := decide_eq_true g0
  have d1 : decide (p ≤ 64) = true := decide_eq_true g1
  go_enter Tryz.func33, Tryz.ntmps33
  go_wp2_with fail
  go_ret
  exact ⟨ret_int (by omega), (Below.refl _ _).alloc (Nat.le_refl _) _⟩

set_option maxRecDepth 100000 in
set_option maxHeartbeats 1000000 in
theorem psize_6_no0 (n p q : Int)  (h : ¬ 1 ≤ p) (w : World) : Calls Tryz.prog 33 #[.int .i64 n, specV 6 p q] w fun e w' => e = .returned (.int .i64 (-1)) ∧ Below w.heap.size w w' := by
  unfold specV
  have HBe : Hid (∀ n p q w, Calls Tryz.prog 59 #[.int .i64 n, .agg #[.int .i64 6, .int .i64 p, .int .i64 q]] w fun e w' => e = .returned (.int .i64 (-1)) ∧ Below w.heap.size w w') := Lib.hid (fun n p q w => beside_any n 6 p q (by omega) w)
  have d0 : decide (1 ≤ p) = false := decide_eq_false h
  go_enter Tryz.func33, Tryz.ntmps33
  go_wp2_with (go_at_call 59; refine (HBe.out _ _ _ _).mono ?_; rintro e w6 ⟨rfl, hb⟩; (have HB6 := Lib.hid hb); clear hb)
  go_ret
  exact ⟨rfl, ((Below.refl _ _).alloc (Nat.le_refl _) _).trans (HB6.out.mono (by simp))⟩

set_option maxRecDepth 100000 in
set_option maxHeartbeats 1000000 in
theorem psize_6_no1 (n p q : Int) (g0 : 1 ≤ p) (h : ¬ p ≤ 16) (w : World) : Calls Tryz.prog 33 #[.int .i64 n, specV 6 p q] w fun e w' => e = .returned (.int .i64 (-1)) ∧ Below w.heap.size w w' := by
  unfold specV
  have HBe : Hid (∀ n p q w, Calls Tryz.prog 59 #[.int .i64 n, .agg #[.int .i64 6, .int .i64 p, .int .i64 q]] w fun e w' => e = .returned (.int .i64 (-1)) ∧ Below w.heap.size w w') := Lib.hid (fun n p q w => beside_any n 6 p q (by omega) w)
  have d0 : decide (1 ≤ p) = true := decide_eq_true g0
  have d1 : decide (p ≤ 16) = false := decide_eq_false h
  go_enter Tryz.func33, Tryz.ntmps33
  go_wp2_with (go_at_call 59; refine (HBe.out _ _ _ _).mono ?_; rintro e w6 ⟨rfl, hb⟩; (have HB6 := Lib.hid hb); clear hb)
  go_ret
  exact ⟨rfl, ((Below.refl _ _).alloc (Nat.le_refl _) _).trans (HB6.out.mono (by simp))⟩

set_option maxRecDepth 100000 in
set_option maxHeartbeats 1000000 in
theorem psize_6_no2 (n p q : Int) (g0 : 1 ≤ p) (g1 : p ≤ 16) (h : ¬ 1 ≤ q) (w : World) : Calls Tryz.prog 33 #[.int .i64 n, specV 6 p q] w fun e w' => e = .returned (.int .i64 (-1)) ∧ Below w.heap.size w w' := by
  unfold specV
  have HBe : Hid (∀ n p q w, Calls Tryz.prog 59 #[.int .i64 n, .agg #[.int .i64 6, .int .i64 p, .int .i64 q]] w fun e w' => e = .returned (.int .i64 (-1)) ∧ Below w.heap.size w w') := Lib.hid (fun n p q w => beside_any n 6 p q (by omega) w)
  have d0 : decide (1 ≤ p) = true := decide_eq_true g0
  have d1 : decide (p ≤ 16) = true := decide_eq_true g1
  have d2 : decide (1 ≤ q) = false := decide_eq_false h
  go_enter Tryz.func33, Tryz.ntmps33
  go_wp2_with (go_at_call 59; refine (HBe.out _ _ _ _).mono ?_; rintro e w6 ⟨rfl, hb⟩; (have HB6 := Lib.hid hb); clear hb)
  go_ret
  exact ⟨rfl, ((Below.refl _ _).alloc (Nat.le_refl _) _).trans (HB6.out.mono (by simp))⟩

set_option maxRecDepth 100000 in
set_option maxHeartbeats 1000000 in
theorem psize_6_no3 (n p q : Int) (g0 : 1 ≤ p) (g1 : p ≤ 16) (g2 : 1 ≤ q) (h : ¬ q ≤ 64) (w : World) : Calls Tryz.prog 33 #[.int .i64 n, specV 6 p q] w fun e w' => e = .returned (.int .i64 (-1)) ∧ Below w.heap.size w w' := by
  unfold specV
  have HBe : Hid (∀ n p q w, Calls Tryz.prog 59 #[.int .i64 n, .agg #[.int .i64 6, .int .i64 p, .int .i64 q]] w fun e w' => e = .returned (.int .i64 (-1)) ∧ Below w.heap.size w w') := Lib.hid (fun n p q w => beside_any n 6 p q (by omega) w)
  have d0 : decide (1 ≤ p) = true := decide_eq_true g0
  have d1 : decide (p ≤ 16) = true := decide_eq_true g1
  have d2 : decide (1 ≤ q) = true := decide_eq_true g2
  have d3 : decide (q ≤ 64) = false := decide_eq_false h
  go_enter Tryz.func33, Tryz.ntmps33
  go_wp2_with (go_at_call 59; refine (HBe.out _ _ _ _).mono ?_; rintro e w6 ⟨rfl, hb⟩; (have HB6 := Lib.hid hb); clear hb)
  go_ret
  exact ⟨rfl, ((Below.refl _ _).alloc (Nat.le_refl _) _).trans (HB6.out.mono (by simp))⟩

set_option maxRecDepth 100000 in
set_option maxHeartbeats 1000000 in
theorem psize_6 (n p q a r b : Int) (g0 : 1 ≤ p) (g1 : p ≤ 16) (g2 : 1 ≤ q) (g3 : q ≤ 64) (hn : 1 ≤ n ∧ n ≤ 16) (ha : n * q = a) (ha2 : 0 ≤ a ∧ a ≤ 1024) (hr : p + 1 = r) (hr2 : 0 ≤ r ∧ r ≤ 17) (hb : a * r = b) (hb2 : 0 ≤ b ∧ b ≤ 17408) (w : World) : Calls Tryz.prog 33 #[.int .i64 n, specV 6 p q] w fun e w' => e = .returned (.int .i64 (p + b)) ∧ Below w.heap.size w w' := by
  unfold specV
  have d0 : decide (1 ≤ p) = true := decide_eq_true g0
  have d1 : decide (p ≤ 16) = true := decide_eq_true g1
  have d2 : decide (1 ≤ q) = true := decide_eq_true g2
  have d3 : decide (q ≤ 64) = true := decide_eq_true g3
  go_enter Tryz.func33, Tryz.ntmps33
  go_wp2_with fail
  go_ret
  exact ⟨ret_int (by omega), (Below.refl _ _).alloc (Nat.le_refl _) _⟩

set_option maxRecDepth 100000 in
set_option maxHeartbeats 1000000 in
theorem psize_7_no0 (n p q : Int) (h : ¬ (0 ≤ p ∧ p ≤ 7)) (w : World) : Calls Tryz.prog 33 #[.int .i64 n, specV 7 p q] w fun e w' => e = .returned (.int .i64 (-1)) ∧ Below w.heap.size w w' := by
  unfold specV
  have HBe : Hid (∀ n p q w, Calls Tryz.prog 59 #[.int .i64 n, .agg #[.int .i64 7, .int .i64 p, .int .i64 q]] w fun e w' => e = .returned (.int .i64 (-1)) ∧ Below w.heap.size w w') := Lib.hid (fun n p q w => beside_any n 7 p q (by omega) w)
  have HK : Hid (∀ w, Calls Tryz.prog 57 #[.int .i64 p] w fun e w' => e = .returned (.int .i64 0) ∧ Below w.heap.size w w') := Lib.hid (fun w => by have := rtyp_any p w; rw [tbTyp_no h] at this; exact this)
  clear h
  go_enter Tryz.func33, Tryz.ntmps33
  go_wp2_with (first
    | (go_at_call 57; refine (HK.out _).mono ?_; rintro e w5 ⟨rfl, hb⟩; (obtain ⟨hs, hbw, hlt⟩ := spec_in hb); (have HB := Lib.hid hbw); (have s0 := cell_of_blkT (k := 0) hs rfl); (have s1 := cell_of_blkT (k := 1) hs rfl); (have s2 := cell_of_blkT (k := 2) hs rfl); (have HS := Lib.hid hs); clear hb hbw hs)
    | (go_at_call 59; refine (HBe.out _ _ _ _).mono ?_; rintro e w6 ⟨rfl, hb⟩; (have HB6 := Lib.hid hb); clear hb))
  go_ret
  exact ⟨rfl, HB.out.trans (HB6.out.mono (Nat.le_of_lt hlt))⟩

set_option maxRecDepth 100000 in
set_option maxHeartbeats 1000000 in
theorem psize_7_no1 (n p q : Int) (hp : 0 ≤ p ∧ p ≤ 7) (h : ¬ 1 ≤ q) (w : World) : Calls Tryz.prog 33 #[.int .i64 n, specV 7 p q] w fun e w' => e = .returned (.int .i64 (-1)) ∧ Below w.heap.size w w' := by
  unfold specV
  have HBe : Hid (∀ n p q w, Calls Tryz.prog 59 #[.int .i64 n, .agg #[.int .i64 7, .int .i64 p, .int .i64 q]] w fun e w' => e = .returned (.int .i64 (-1)) ∧ Below w.heap.size w w') := Lib.hid (fun n p q w => beside_any n 7 p q (by omega) w)
  have d1 : decide (1 ≤ q) = false := decide_eq_false h
  obtain ⟨t, ht, ht2⟩ : ∃ t, tbTyp p = t ∧ 2 ≤ t := by
    unfold tbTyp; rw [if_pos hp]; split
    · exact ⟨_, rfl, by omega⟩
    · exact ⟨_, rfl, by omega⟩
  have HK : Hid (∀ w, Calls Tryz.prog 57 #[.int .i64 p] w fun e w' => e = .returned (.int .i64 t) ∧ Below w.heap.size w w') := Lib.hid (fun w => by have := rtyp_any p w; rw [ht] at this; exact this)
  have ht3 : 0 < t := by omega
  have ht4 : decide (0 < t) = true := decide_eq_true ht3
  clear ht ht2 hp
  go_enter Tryz.func33, Tryz.ntmps33
  go_wp2_with (first
    | (go_at_call 57; refine (HK.out _).mono ?_; rintro e w5 ⟨rfl, hb⟩; (obtain ⟨hs, hbw, hlt⟩ := spec_in hb); (have HB := Lib.hid hbw); (have s0 := cell_of_blkT (k := 0) hs rfl); (have s1 := cell_of_blkT (k := 1) hs rfl); (have s2 := cell_of_blkT (k := 2) hs rfl); (have HS := Lib.hid hs); clear hb hbw hs)
    | (go_at_call 59; refine (HBe.out _ _ _ _).mono ?_; rintro e w6 ⟨rfl, hb⟩; (have HB6 := Lib.hid hb); clear hb))
  go_ret
  exact ⟨rfl, HB.out.trans (HB6.out.mono (Nat.le_of_lt hlt))⟩

set_option maxRecDepth 100000 in
set_option maxHeartbeats 1000000 in
theorem psize_7_no2 (n p q : Int) (g1 : 1 ≤ q) (hp : 0 ≤ p ∧ p ≤ 7) (h : ¬ q ≤ 256) (w : World) : Calls Tryz.prog 33 #[.int .i64 n, specV 7 p q] w fun e w' => e = .returned (.int .i64 (-1)) ∧ Below w.heap.size w w' := by
  unfold specV
  have HBe : Hid (∀ n p q w, Calls Tryz.prog 59 #[.int .i64 n, .agg #[.int .i64 7, .int .i64 p, .int .i64 q]] w fun e w' => e = .returned (.int .i64 (-1)) ∧ Below w.heap.size w w') := Lib.hid (fun n p q w => beside_any n 7 p q (by omega) w)
  have d1 : decide (1 ≤ q) = true := decide_eq_true g1
  have d2 : decide (q ≤ 256) = false := decide_eq_false h
  obtain ⟨t, ht, ht2⟩ : ∃ t, tbTyp p = t ∧ 2 ≤ t := by
    unfold tbTyp; rw [if_pos hp]; split
    · exact ⟨_, rfl, by omega⟩
    · exact ⟨_, rfl, by omega⟩
  have HK : Hid (∀ w, Calls Tryz.prog 57 #[.int .i64 p] w fun e w' => e = .returned (.int .i64 t) ∧ Below w.heap.size w w') := Lib.hid (fun w => by have := rtyp_any p w; rw [ht] at this; exact this)
  have ht3 : 0 < t := by omega
  have ht4 : decide (0 < t) = true := decide_eq_true ht3
  clear ht ht2 hp
  go_enter Tryz.func33, Tryz.ntmps33
  go_wp2_with (first
    | (go_at_call 57; refine (HK.out _).mono ?_; rintro e w5 ⟨rfl, hb⟩; (obtain ⟨hs, hbw, hlt⟩ := spec_in hb); (have HB := Lib.hid hbw); (have s0 := cell_of_blkT (k := 0) hs rfl); (have s1 := cell_of_blkT (k := 1) hs rfl); (have s2 := cell_of_blkT (k := 2) hs rfl); (have HS := Lib.hid hs); clear hb hbw hs)
    | (go_at_call 59; refine (HBe.out _ _ _ _).mono ?_; rintro e w6 ⟨rfl, hb⟩; (have HB6 := Lib.hid hb); clear hb))
  go_ret
  exact ⟨rfl, HB.out.trans (HB6.out.mono (Nat.le_of_lt hlt))⟩

set_option maxRecDepth 100000 in
set_option maxHeartbeats 1000000 in
theorem psize_7 (n p q : Int) (g1 : 1 ≤ q) (g2 : q ≤ 256) (hn : 1 ≤ n ∧ n ≤ 16) (hp : 0 ≤ p ∧ p ≤ 7) (w : World) : Calls Tryz.prog 33 #[.int .i64 n, specV 7 p q] w fun e w' => e = .returned (.int .i64 (n + q)) ∧ Below w.heap.size w w' := by
  unfold specV
  have d1 : decide (1 ≤ q) = true := decide_eq_true g1
  have d2 : decide (q ≤ 256) = true := decide_eq_true g2
  obtain ⟨t, ht, ht2⟩ : ∃ t, tbTyp p = t ∧ 2 ≤ t := by
    unfold tbTyp; rw [if_pos hp]; split
    · exact ⟨_, rfl, by omega⟩
    · exact ⟨_, rfl, by omega⟩
  have HK : Hid (∀ w, Calls Tryz.prog 57 #[.int .i64 p] w fun e w' => e = .returned (.int .i64 t) ∧ Below w.heap.size w w') := Lib.hid (fun w => by have := rtyp_any p w; rw [ht] at this; exact this)
  have ht3 : 0 < t := by omega
  have ht4 : decide (0 < t) = true := decide_eq_true ht3
  clear ht ht2 hp
  go_enter Tryz.func33, Tryz.ntmps33
  go_wp2_with (go_at_call 57; refine (HK.out _).mono ?_; rintro e w5 ⟨rfl, hb⟩; (obtain ⟨hs, hbw, hlt⟩ := spec_in hb); (have HB := Lib.hid hbw); (have s0 := cell_of_blkT (k := 0) hs rfl); (have s1 := cell_of_blkT (k := 1) hs rfl); (have s2 := cell_of_blkT (k := 2) hs rfl); (have HS := Lib.hid hs); clear hb hbw hs)
  go_ret
  exact ⟨ret_int (by omega), HB.out⟩

set_option maxRecDepth 100000 in
set_option maxHeartbeats 1000000 in
theorem psize_8_no0 (n p q : Int)  (h : ¬ 1 ≤ p) (w : World) : Calls Tryz.prog 33 #[.int .i64 n, specV 8 p q] w fun e w' => e = .returned (.int .i64 (-1)) ∧ Below w.heap.size w w' := by
  unfold specV
  have HBe : Hid (∀ n p q w, Calls Tryz.prog 59 #[.int .i64 n, .agg #[.int .i64 8, .int .i64 p, .int .i64 q]] w fun e w' => e = .returned (.int .i64 (-1)) ∧ Below w.heap.size w w') := Lib.hid (fun n p q w => beside_any n 8 p q (by omega) w)
  have d0 : decide (1 ≤ p) = false := decide_eq_false h
  go_enter Tryz.func33, Tryz.ntmps33
  go_wp2_with (go_at_call 59; refine (HBe.out _ _ _ _).mono ?_; rintro e w6 ⟨rfl, hb⟩; (have HB6 := Lib.hid hb); clear hb)
  go_ret
  exact ⟨rfl, ((Below.refl _ _).alloc (Nat.le_refl _) _).trans (HB6.out.mono (by simp))⟩

set_option maxRecDepth 100000 in
set_option maxHeartbeats 1000000 in
theorem psize_8_no1 (n p q : Int) (g0 : 1 ≤ p) (h : ¬ p ≤ 32) (w : World) : Calls Tryz.prog 33 #[.int .i64 n, specV 8 p q] w fun e w' => e = .returned (.int .i64 (-1)) ∧ Below w.heap.size w w' := by
  unfold specV
  have HBe : Hid (∀ n p q w, Calls Tryz.prog 59 #[.int .i64 n, .agg #[.int .i64 8, .int .i64 p, .int .i64 q]] w fun e w' => e = .returned (.int .i64 (-1)) ∧ Below w.heap.size w w') := Lib.hid (fun n p q w => beside_any n 8 p q (by omega) w)
  have d0 : decide (1 ≤ p) = true := decide_eq_true g0
  have d1 : decide (p ≤ 32) = false := decide_eq_false h
  go_enter Tryz.func33, Tryz.ntmps33
  go_wp2_with (go_at_call 59; refine (HBe.out _ _ _ _).mono ?_; rintro e w6 ⟨rfl, hb⟩; (have HB6 := Lib.hid hb); clear hb)
  go_ret
  exact ⟨rfl, ((Below.refl _ _).alloc (Nat.le_refl _) _).trans (HB6.out.mono (by simp))⟩

set_option maxRecDepth 100000 in
set_option maxHeartbeats 1000000 in
theorem psize_8_no2 (n p q : Int) (g0 : 1 ≤ p) (g1 : p ≤ 32) (h : ¬ 0 ≤ q) (w : World) : Calls Tryz.prog 33 #[.int .i64 n, specV 8 p q] w fun e w' => e = .returned (.int .i64 (-1)) ∧ Below w.heap.size w w' := by
  unfold specV
  have HBe : Hid (∀ n p q w, Calls Tryz.prog 59 #[.int .i64 n, .agg #[.int .i64 8, .int .i64 p, .int .i64 q]] w fun e w' => e = .returned (.int .i64 (-1)) ∧ Below w.heap.size w w') := Lib.hid (fun n p q w => beside_any n 8 p q (by omega) w)
  have d0 : decide (1 ≤ p) = true := decide_eq_true g0
  have d1 : decide (p ≤ 32) = true := decide_eq_true g1
  have d2 : decide (0 ≤ q) = false := decide_eq_false h
  go_enter Tryz.func33, Tryz.ntmps33
  go_wp2_with (go_at_call 59; refine (HBe.out _ _ _ _).mono ?_; rintro e w6 ⟨rfl, hb⟩; (have HB6 := Lib.hid hb); clear hb)
  go_ret
  exact ⟨rfl, ((Below.refl _ _).alloc (Nat.le_refl _) _).trans (HB6.out.mono (by simp))⟩

set_option maxRecDepth 100000 in
set_option maxHeartbeats 1000000 in
theorem psize_8_no3 (n p q : Int) (g0 : 1 ≤ p) (g1 : p ≤ 32) (g2 : 0 ≤ q) (h : ¬ q ≤ 3) (w : World) : Calls Tryz.prog 33 #[.int .i64 n, specV 8 p q] w fun e w' => e = .returned (.int .i64 (-1)) ∧ Below w.heap.size w w' := by
  unfold specV
  have HBe : Hid (∀ n p q w, Calls Tryz.prog 59 #[.int .i64 n, .agg #[.int .i64 8, .int .i64 p, .int .i64 q]] w fun e w' => e = .returned (.int .i64 (-1)) ∧ Below w.heap.size w w') := Lib.hid (fun n p q w => beside_any n 8 p q (by omega) w)
  have d0 : decide (1 ≤ p) = true := decide_eq_true g0
  have d1 : decide (p ≤ 32) = true := decide_eq_true g1
  have d2 : decide (0 ≤ q) = true := decide_eq_true g2
  have d3 : decide (q ≤ 3) = false := decide_eq_false h
  go_enter Tryz.func33, Tryz.ntmps33
  go_wp2_with (go_at_call 59; refine (HBe.out _ _ _ _).mono ?_; rintro e w6 ⟨rfl, hb⟩; (have HB6 := Lib.hid hb); clear hb)
  go_ret
  exact ⟨rfl, ((Below.refl _ _).alloc (Nat.le_refl _) _).trans (HB6.out.mono (by simp))⟩

set_option maxRecDepth 100000 in
set_option maxHeartbeats 1000000 in
theorem psize_8 (n p q a : Int) (g0 : 1 ≤ p) (g1 : p ≤ 32) (g2 : 0 ≤ q) (g3 : q ≤ 3) (hn : 1 ≤ n ∧ n ≤ 16) (ha : n * p = a) (ha2 : 0 ≤ a ∧ a ≤ 512) (w : World) : Calls Tryz.prog 33 #[.int .i64 n, specV 8 p q] w fun e w' => e = .returned (.int .i64 (6 + n + 4 * a)) ∧ Below w.heap.size w w' := by
  unfold specV
  have d0 : decide (1 ≤ p) = true := decide_eq_true g0
  have d1 : decide (p ≤ 32) = true := decide_eq_true g1
  have d2 : decide (0 ≤ q) = true := decide_eq_true g2
  have d3 : decide (q ≤ 3) = true := decide_eq_true g3
  have HQ := Lib.hid (fun w => rsize20 n p a hn ha ha2 w)
  clear ha ha2
  go_enter Tryz.func33, Tryz.ntmps33
  go_wp2_with (go_at_call 58; refine (HQ.out _).mono ?_; rintro e w5 ⟨rfl, rfl⟩)
  go_ret
  exact ⟨rfl, (Below.refl _ _).alloc (Nat.le_refl _) _⟩

set_option maxRecDepth 100000 in
set_option maxHeartbeats 1000000 in
theorem psize_9_no0 (n p q : Int)  (h : ¬ 1 ≤ p) (w : World) : Calls Tryz.prog 33 #[.int .i64 n, specV 9 p q] w fun e w' => e = .returned (.int .i64 (-1)) ∧ Below w.heap.size w w' := by
  unfold specV
  have HBe : Hid (∀ n p q w, Calls Tryz.prog 59 #[.int .i64 n, .agg #[.int .i64 9, .int .i64 p, .int .i64 q]] w fun e w' => e = .returned (.int .i64 (-1)) ∧ Below w.heap.size w w') := Lib.hid (fun n p q w => beside_any n 9 p q (by omega) w)
  have d0 : decide (1 ≤ p) = false := decide_eq_false h
  go_enter Tryz.func33, Tryz.ntmps33
  go_wp2_with (go_at_call 59; refine (HBe.out _ _ _ _).mono ?_; rintro e w6 ⟨rfl, hb⟩; (have HB6 := Lib.hid hb); clear hb)
  go_ret
  exact ⟨rfl, ((Below.refl _ _).alloc (Nat.le_refl _) _).trans (HB6.out.mono (by simp))⟩

set_option maxRecDepth 100000 in
set_option maxHeartbeats 1000000 in
theorem psize_9_no1 (n p q : Int) (g0 : 1 ≤ p) (h : ¬ p ≤ 8) (w : World) : Calls Tryz.prog 33 #[.int .i64 n, specV 9 p q] w fun e w' => e = .returned (.int .i64 (-1)) ∧ Below w.heap.size w w' := by
  unfold specV
  have HBe : Hid (∀ n p q w, Calls Tryz.prog 59 #[.int .i64 n, .agg #[.int .i64 9, .int .i64 p, .int .i64 q]] w fun e w' => e = .returned (.int .i64 (-1)) ∧ Below w.heap.size w w') := Lib.hid (fun n p q w => beside_any n 9 p q (by omega) w)
  have d0 : decide (1 ≤ p) = true := decide_eq_true g0
  have d1 : decide (p ≤ 8) = false := decide_eq_false h
  go_enter Tryz.func33, Tryz.ntmps33
  go_wp2_with (go_at_call 59; refine (HBe.out _ _ _ _).mono ?_; rintro e w6 ⟨rfl, hb⟩; (have HB6 := Lib.hid hb); clear hb)
  go_ret
  exact ⟨rfl, ((Below.refl _ _).alloc (Nat.le_refl _) _).trans (HB6.out.mono (by simp))⟩

set_option maxRecDepth 100000 in
set_option maxHeartbeats 1000000 in
theorem psize_9 (n p q r s b : Int) (g0 : 1 ≤ p) (g1 : p ≤ 8) (hn : 1 ≤ n ∧ n ≤ 16) (hr : n + 1 = r) (hs : p + 1 = s) (hb : r * s = b) (hb2 : 0 ≤ b ∧ b ≤ 153) (w : World) : Calls Tryz.prog 33 #[.int .i64 n, specV 9 p q] w fun e w' => e = .returned (.int .i64 (1 + b)) ∧ Below w.heap.size w w' := by
  unfold specV
  have d0 : decide (1 ≤ p) = true := decide_eq_true g0
  have d1 : decide (p ≤ 8) = true := decide_eq_true g1
  go_enter Tryz.func33, Tryz.ntmps33
  go_wp2_with fail
  go_ret
  exact ⟨ret_int (by omega), (Below.refl _ _).alloc (Nat.le_refl _) _⟩

end Go.Proofs.YtjjleghalajidaaGreat.Tb
