/- Apply, whatever it is given; the reference's Kinds, New and Right. -/
import Derived.Test.YtlcnhmijagddgaaSI
namespace Go.Proofs.Ytlcnhmijagddgaa
open Go.ChangeShapes Go.WideShapes Go.ChangeAt Go.RowKit
set_option linter.unusedVariables false

theorem apply_any (t k : Int) (v : Value) (l : List Nat) (a : Nat) (w : World) (hA : ArgW w v l) (hl : l.length ≤ 4294967296) (hx : ∀ x ∈ l, x < 18446744073709551616) (ha : a < 18446744073709551616) :
    Calls Try.prog 14 #[.int .i64 t, v, .int .i64 k, .int .u64 (a : Int)] w (ApP w (sqAp t k l a)) := by
  unfold sqAp sqRight
  by_cases h : 0 ≤ t ∧ t ≤ 7
  · rw [sqIs_yes h, Bool.true_and]
    obtain ⟨n, rfl⟩ : ∃ n : Nat, t = n := ⟨t.toNat, by omega⟩
    have hn : n ≤ 7 := by omega
    rw [Int.toNat_natCast]
    have hN : sqN n = 3 ∨ sqN n = 2 := by unfold sqN; split <;> omega
    cases hr : (decide (sqLo n ≤ l.length) && decide (l.length ≤ sqHi n)) with
    | false =>
      rw [if_neg (by decide)]
      rcases hN with hN | hN
      · exact apply3_wrong n k v l a w hA hl hn hN hr
      · exact apply2_wrong n k v l a w hA hl hn hN hr
    | true =>
      rw [if_pos rfl]
      rcases hN with hN | hN
      · rw [hN]
        by_cases hk : 0 ≤ k ∧ k < ((3 : Nat) : Int)
        · rw [if_pos hk]
          have : k = 0 ∨ k = 1 ∨ k = 2 := by omega
          rcases this with rfl | rfl | rfl
          · exact apply3_0 n v l a w hA hl hn hN hr hx ha
          · exact apply3_1 n v l a w hA hl hn hN hr hx ha
          · exact apply3_2 n v l a w hA hl hn hN hr hx ha
        · rw [if_neg hk]
          exact apply3_kind n k v l a w hA hl hn hN hr hk
      · rw [hN]
        by_cases hk : 0 ≤ k ∧ k < ((2 : Nat) : Int)
        · rw [if_pos hk]
          have : k = 0 ∨ k = 1 := by omega
          rcases this with rfl | rfl
          · exact apply2_0 n v l a w hA hl hn hN hr hx ha
          · exact apply2_1 n v l a w hA hl hn hN hr hx ha
        · rw [if_neg hk]
          exact apply2_kind n k v l a w hA hl hn hN hr hk
  · rw [sqIs_no h, Bool.false_and, if_neg (by decide)]
    exact apply_none t k v l a w hA hl h

set_option maxHeartbeats 400000 in
theorem refKinds_any (t : Int) (w : World) :
    Calls Try.prog 7 #[.int .i64 t] w fun e w' => e = .returned (.int .i64 (sqKinds t : Int)) ∧ Below w.heap.size w w' := by
  unfold sqKinds
  by_cases h : 0 ≤ t ∧ t ≤ 7
  · rw [sqIs_yes h, if_pos rfl]
    obtain ⟨n, rfl⟩ : ∃ n : Nat, t = n := ⟨t.toNat, by omega⟩
    have hn : n ≤ 7 := by omega
    rw [Int.toNat_natCast]
    clear h
    match n, hn with
    | 0, _ =>
      go_enter Try.func7, Try.ntmps7
      go_wp2_with fail
      go_ret
      exact ⟨rfl, (Below.refl _ _).alloc (Nat.le_refl _) _⟩
    | 1, _ =>
      go_enter Try.func7, Try.ntmps7
      go_wp2_with fail
      go_ret
      exact ⟨rfl, (Below.refl _ _).alloc (Nat.le_refl _) _⟩
    | 2, _ =>
      go_enter Try.func7, Try.ntmps7
      go_wp2_with fail
      go_ret
      exact ⟨rfl, (Below.refl _ _).alloc (Nat.le_refl _) _⟩
    | 3, _ =>
      go_enter Try.func7, Try.ntmps7
      go_wp2_with fail
      go_ret
      exact ⟨rfl, (Below.refl _ _).alloc (Nat.le_refl _) _⟩
    | 4, _ =>
      go_enter Try.func7, Try.ntmps7
      go_wp2_with fail
      go_ret
      exact ⟨rfl, (Below.refl _ _).alloc (Nat.le_refl _) _⟩
    | 5, _ =>
      go_enter Try.func7, Try.ntmps7
      go_wp2_with fail
      go_ret
      exact ⟨rfl, (Below.refl _ _).alloc (Nat.le_refl _) _⟩
    | 6, _ =>
      go_enter Try.func7, Try.ntmps7
      go_wp2_with fail
      go_ret
      exact ⟨rfl, (Below.refl _ _).alloc (Nat.le_refl _) _⟩
    | 7, _ =>
      go_enter Try.func7, Try.ntmps7
      go_wp2_with fail
      go_ret
      exact ⟨rfl, (Below.refl _ _).alloc (Nat.le_refl _) _⟩
  · rw [sqIs_no h, if_neg (by simp)]
    by_cases h0 : t < 0
    · clear h
      go_enter Try.func7, Try.ntmps7
      go_wp2_with fail
      go_ret
      exact ⟨rfl, Below.refl _ _⟩
    · have h7 : 7 < t := by omega
      clear h
      go_enter Try.func7, Try.ntmps7
      go_wp2_with fail
      go_ret
      exact ⟨rfl, Below.refl _ _⟩

def GivesN (l : List Nat) (w : World) (e : Ending) (w' : World) : Prop := ∃ v, e = .returned v ∧ ArgW w' v l ∧ Below w.heap.size w w'
theorem arg_new (w : World) (l : List Nat) (b : Nat) (hb : b = w.heap.size) (n : Nat) (hn : n = l.length) : ArgW (w.alloc (.cells (l.map wU).toArray 29)) (.slice (some ⟨b, 0, none⟩) n n) l := by
  subst hb; subst hn
  refine ⟨_, w.heap.size, 0, l.length, rfl, fun _ => rfl, (fun h => by cases h), fun i x hx => ?_⟩
  rw [Nat.zero_add]
  exact cell_of_blk (heap_alloc_new _ _) (by simp [hx])

set_option maxHeartbeats 400000 in
theorem refNew_any (t : Int) (w : World) :
    Calls Try.prog 10 #[.int .i64 t] w (GivesN (if sqIs t then List.replicate (sqLo t.toNat) 0 else []) w) := by
  have HM : ∀ w : World, (Instr.makeSlice 22 (.int .i64 8) (.int .i64 8)).run Try.prog w = .ok (.slice (some ⟨w.heap.size, 0, none⟩) 8 8) (w.alloc (.cells (Array.replicate 8 (wU 0)) 29)) := run_mkW 8 (by omega)
  by_cases h : 0 ≤ t ∧ t ≤ 7
  · rw [sqIs_yes h, if_pos rfl]
    obtain ⟨n, rfl⟩ : ∃ n : Nat, t = n := ⟨t.toNat, by omega⟩
    have hn : n ≤ 7 := by omega
    rw [Int.toNat_natCast]
    clear h
    match n, hn with
    | 0, _ =>
      go_enter Try.func10, Try.ntmps10
      go_wp2_with fail
      go_ret
      exact ⟨_, rfl, arg_new _ [0] _ rfl _ rfl, (Below.refl _ _).alloc (Nat.le_refl _) _⟩
    | 1, _ =>
      go_enter Try.func10, Try.ntmps10
      go_wp2_with fail
      go_ret
      exact ⟨_, rfl, arg_new _ [0] _ rfl _ rfl, (Below.refl _ _).alloc (Nat.le_refl _) _⟩
    | 2, _ =>
      go_enter Try.func10, Try.ntmps10
      go_wp2_with fail
      go_ret
      exact ⟨_, rfl, ArgW.nil _, Below.refl _ _⟩
    | 3, _ =>
      go_enter Try.func10, Try.ntmps10
      go_wp2_with fail
      go_ret
      exact ⟨_, rfl, ArgW.nil _, Below.refl _ _⟩
    | 4, _ =>
      go_enter Try.func10, Try.ntmps10
      go_wp2_with fail
      go_ret
      exact ⟨_, rfl, arg_new _ [0] _ rfl _ rfl, (Below.refl _ _).alloc (Nat.le_refl _) _⟩
    | 5, _ =>
      go_enter Try.func10, Try.ntmps10
      go_wp2_with fail
      go_ret
      exact ⟨_, rfl, arg_new _ [0] _ rfl _ rfl, (Below.refl _ _).alloc (Nat.le_refl _) _⟩
    | 6, _ =>
      go_enter Try.func10, Try.ntmps10
      go_wp2_with fail
      go_ret
      exact ⟨_, rfl, arg_new _ [0] _ rfl _ rfl, (Below.refl _ _).alloc (Nat.le_refl _) _⟩
    | 7, _ =>
      go_enter Try.func10, Try.ntmps10
      go_wp2_with fail
      go_ret
      exact ⟨_, rfl, (made_own _ 8 0 _ rfl (by omega) (by omega)).arg, (Below.refl _ _).alloc (Nat.le_refl _) _⟩
  · rw [sqIs_no h, if_neg (by simp)]
    have n0 : ¬ t = 0 := by omega
    have n1 : ¬ t = 1 := by omega
    have n2 : ¬ t = 2 := by omega
    have n3 : ¬ t = 3 := by omega
    have n4 : ¬ t = 4 := by omega
    have n5 : ¬ t = 5 := by omega
    have n6 : ¬ t = 6 := by omega
    have n7 : ¬ t = 7 := by omega
    clear h
    go_enter Try.func10, Try.ntmps10
    go_wp2_with fail
    go_ret
    exact ⟨_, rfl, ArgW.nil _, Below.refl _ _⟩

theorem cast_eq1 (n m : Nat) : ((n : Int) == (m : Int)) = decide (n = m) := by rw [Bool.eq_iff_iff, beq_iff_eq, decide_eq_true_eq]; omega
theorem cast_le1 (n m : Nat) : decide ((n : Int) ≤ (m : Int)) = decide (n ≤ m) := by rw [Bool.eq_iff_iff, decide_eq_true_eq, decide_eq_true_eq]; omega
set_option maxHeartbeats 400000 in
theorem refRight_any (t : Int) (v : Value) (l : List Nat) (w : World) (ha : ArgW w v l) (hl : l.length ≤ 9223372036854775807) :
    Calls Try.prog 12 #[.int .i64 t, v] w fun e w' => e = .returned (.bool (sqRight t l)) ∧ w = w' := by
  obtain ⟨ao, cap, rfl⟩ := ha.isSlice
  clear ha
  unfold sqRight
  generalize l.length = n at *
  by_cases h : 0 ≤ t ∧ t ≤ 7
  · rw [sqIs_yes h, Bool.true_and]
    obtain ⟨tn, rfl⟩ : ∃ n : Nat, t = n := ⟨t.toNat, by omega⟩
    have hn : tn ≤ 7 := by omega
    rw [Int.toNat_natCast]
    clear h
    match tn, hn with
    | 0, _ =>
      have h1 : sqLo 0 = 1 := rfl
      have h2 : sqHi 0 = 1 := rfl
      have hd : (decide (sqLo 0 ≤ n) && decide (n ≤ sqHi 0)) = decide (n = 1) := by
        rw [h1, h2, Bool.eq_iff_iff]; simp only [Bool.and_eq_true, decide_eq_true_eq]; omega
      rw [hd]
      clear hd h1 h2
      by_cases hc : n = 1
      · subst hc
        go_enter Try.func12, Try.ntmps12
        go_wp2_with fail
        go_ret
        exact ⟨ret_bool (by first | rfl | exact cast_eq1 _ _ | exact cast_le1 _ _), rfl⟩
      · go_enter Try.func12, Try.ntmps12
        go_wp2_with fail
        go_ret
        exact ⟨ret_bool (by first | rfl | exact cast_eq1 _ _ | exact cast_le1 _ _), rfl⟩
    | 1, _ =>
      have h1 : sqLo 1 = 1 := rfl
      have h2 : sqHi 1 = 1 := rfl
      have hd : (decide (sqLo 1 ≤ n) && decide (n ≤ sqHi 1)) = decide (n = 1) := by
        rw [h1, h2, Bool.eq_iff_iff]; simp only [Bool.and_eq_true, decide_eq_true_eq]; omega
      rw [hd]
      clear hd h1 h2
      by_cases hc : n = 1
      · subst hc
        go_enter Try.func12, Try.ntmps12
        go_wp2_with fail
        go_ret
        exact ⟨ret_bool (by first | rfl | exact cast_eq1 _ _ | exact cast_le1 _ _), rfl⟩
      · go_enter Try.func12, Try.ntmps12
        go_wp2_with fail
        go_ret
        exact ⟨ret_bool (by first | rfl | exact cast_eq1 _ _ | exact cast_le1 _ _), rfl⟩
    | 2, _ =>
      have h1 : sqLo 2 = 0 := rfl
      have h2 : sqHi 2 = 8 := rfl
      have hd : (decide (sqLo 2 ≤ n) && decide (n ≤ sqHi 2)) = decide (n ≤ 8) := by
        rw [h1, h2, Bool.eq_iff_iff]; simp only [Bool.and_eq_true, decide_eq_true_eq]; omega
      rw [hd]
      clear hd h1 h2
      by_cases hc : n ≤ 8
      · skip
        go_enter Try.func12, Try.ntmps12
        go_wp2_with fail
        go_ret
        exact ⟨ret_bool (by first | rfl | exact cast_eq1 _ _ | exact cast_le1 _ _), rfl⟩
      · go_enter Try.func12, Try.ntmps12
        go_wp2_with fail
        go_ret
        exact ⟨ret_bool (by first | rfl | exact cast_eq1 _ _ | exact cast_le1 _ _), rfl⟩
    | 3, _ =>
      have h1 : sqLo 3 = 0 := rfl
      have h2 : sqHi 3 = 8 := rfl
      have hd : (decide (sqLo 3 ≤ n) && decide (n ≤ sqHi 3)) = decide (n ≤ 8) := by
        rw [h1, h2, Bool.eq_iff_iff]; simp only [Bool.and_eq_true, decide_eq_true_eq]; omega
      rw [hd]
      clear hd h1 h2
      by_cases hc : n ≤ 8
      · skip
        go_enter Try.func12, Try.ntmps12
        go_wp2_with fail
        go_ret
        exact ⟨ret_bool (by first | rfl | exact cast_eq1 _ _ | exact cast_le1 _ _), rfl⟩
      · go_enter Try.func12, Try.ntmps12
        go_wp2_with fail
        go_ret
        exact ⟨ret_bool (by first | rfl | exact cast_eq1 _ _ | exact cast_le1 _ _), rfl⟩
    | 4, _ =>
      have h1 : sqLo 4 = 1 := rfl
      have h2 : sqHi 4 = 1 := rfl
      have hd : (decide (sqLo 4 ≤ n) && decide (n ≤ sqHi 4)) = decide (n = 1) := by
        rw [h1, h2, Bool.eq_iff_iff]; simp only [Bool.and_eq_true, decide_eq_true_eq]; omega
      rw [hd]
      clear hd h1 h2
      by_cases hc : n = 1
      · subst hc
        go_enter Try.func12, Try.ntmps12
        go_wp2_with fail
        go_ret
        exact ⟨ret_bool (by first | rfl | exact cast_eq1 _ _ | exact cast_le1 _ _), rfl⟩
      · go_enter Try.func12, Try.ntmps12
        go_wp2_with fail
        go_ret
        exact ⟨ret_bool (by first | rfl | exact cast_eq1 _ _ | exact cast_le1 _ _), rfl⟩
    | 5, _ =>
      have h1 : sqLo 5 = 1 := rfl
      have h2 : sqHi 5 = 1 := rfl
      have hd : (decide (sqLo 5 ≤ n) && decide (n ≤ sqHi 5)) = decide (n = 1) := by
        rw [h1, h2, Bool.eq_iff_iff]; simp only [Bool.and_eq_true, decide_eq_true_eq]; omega
      rw [hd]
      clear hd h1 h2
      by_cases hc : n = 1
      · subst hc
        go_enter Try.func12, Try.ntmps12
        go_wp2_with fail
        go_ret
        exact ⟨ret_bool (by first | rfl | exact cast_eq1 _ _ | exact cast_le1 _ _), rfl⟩
      · go_enter Try.func12, Try.ntmps12
        go_wp2_with fail
        go_ret
        exact ⟨ret_bool (by first | rfl | exact cast_eq1 _ _ | exact cast_le1 _ _), rfl⟩
    | 6, _ =>
      have h1 : sqLo 6 = 1 := rfl
      have h2 : sqHi 6 = 1 := rfl
      have hd : (decide (sqLo 6 ≤ n) && decide (n ≤ sqHi 6)) = decide (n = 1) := by
        rw [h1, h2, Bool.eq_iff_iff]; simp only [Bool.and_eq_true, decide_eq_true_eq]; omega
      rw [hd]
      clear hd h1 h2
      by_cases hc : n = 1
      · subst hc
        go_enter Try.func12, Try.ntmps12
        go_wp2_with fail
        go_ret
        exact ⟨ret_bool (by first | rfl | exact cast_eq1 _ _ | exact cast_le1 _ _), rfl⟩
      · go_enter Try.func12, Try.ntmps12
        go_wp2_with fail
        go_ret
        exact ⟨ret_bool (by first | rfl | exact cast_eq1 _ _ | exact cast_le1 _ _), rfl⟩
    | 7, _ =>
      have h1 : sqLo 7 = 8 := rfl
      have h2 : sqHi 7 = 8 := rfl
      have hd : (decide (sqLo 7 ≤ n) && decide (n ≤ sqHi 7)) = decide (n = 8) := by
        rw [h1, h2, Bool.eq_iff_iff]; simp only [Bool.and_eq_true, decide_eq_true_eq]; omega
      rw [hd]
      clear hd h1 h2
      by_cases hc : n = 8
      · subst hc
        go_enter Try.func12, Try.ntmps12
        go_wp2_with fail
        go_ret
        exact ⟨ret_bool (by first | rfl | exact cast_eq1 _ _ | exact cast_le1 _ _), rfl⟩
      · go_enter Try.func12, Try.ntmps12
        go_wp2_with fail
        go_ret
        exact ⟨ret_bool (by first | rfl | exact cast_eq1 _ _ | exact cast_le1 _ _), rfl⟩
  · rw [sqIs_no h, Bool.false_and]
    have n0 : ¬ t = 0 := by omega
    have n1 : ¬ t = 1 := by omega
    have n2 : ¬ t = 2 := by omega
    have n3 : ¬ t = 3 := by omega
    have n4 : ¬ t = 4 := by omega
    have n5 : ¬ t = 5 := by omega
    have n6 : ¬ t = 6 := by omega
    have n7 : ¬ t = 7 := by omega
    clear h
    go_enter Try.func12, Try.ntmps12
    go_wp2_with fail
    go_ret
    exact ⟨rfl, rfl⟩
end Go.Proofs.Ytlcnhmijagddgaa
