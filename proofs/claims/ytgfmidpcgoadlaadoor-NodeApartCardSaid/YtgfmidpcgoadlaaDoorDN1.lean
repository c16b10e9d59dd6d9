/- node: plain; walks of the leaf functions, and of the reference's. -/
import Derived.Test.YtgfmidpcgoadlaaDoorDB
import Derived.Test.YtgfmidpcgoadlaaDoorK
namespace Go.Proofs.YtgfmidpcgoadlaaDoor
open Go.RowKit

theorem ret_intb {k : IntKind} {a b : Int} {c d : Bool} (h : a = b) (h2 : c = d) : Ending.returned (.tuple #[.int k a, .bool c]) = .returned (.tuple #[.int k b, .bool d]) := by rw [h, h2]
def exB (n k : Int) : Bool := decide (1 ≤ n ∧ n ≤ 16 ∧ 1 ≤ k ∧ k ≤ 32)
def hasB (n k i : Int) : Bool := exB n k && decide (1 ≤ i ∧ i ≤ 1 + n * k)
theorem exB_true {n k : Int} (h : exB n k = true) : 1 ≤ n ∧ n ≤ 16 ∧ 1 ≤ k ∧ k ≤ 32 := by simpa [exB] using h
theorem hasB_true {n k i : Int} (h : hasB n k i = true) : exB n k = true ∧ 1 ≤ i ∧ i ≤ 1 + n * k := by
  unfold hasB at h; rw [Bool.and_eq_true, decide_eq_true_eq] at h; exact h
theorem nk_le {n k : Int} (h : exB n k = true) : 1 ≤ n * k ∧ n * k ≤ 512 := by
  obtain ⟨h1, h2, h3, h4⟩ := exB_true h
  obtain ⟨a, rfl⟩ : ∃ a : Nat, n = a := ⟨n.toNat, by omega⟩
  obtain ⟨b, rfl⟩ : ∃ b : Nat, k = b := ⟨k.toNat, by omega⟩
  have := Nat.mul_le_mul (show a ≤ 16 by omega) (show b ≤ 32 by omega)
  have h5 := Nat.mul_le_mul (show 1 ≤ a by omega) (show 1 ≤ b by omega)
  have e : (a : Int) * (b : Int) = ((a * b : Nat) : Int) := by rw [Int.natCast_mul]
  rw [e]; omega

set_option maxHeartbeats 400000 in
theorem nexists_any (n k : Int) (w : World) :
    Calls Tryd.prog 25 #[.int .i64 n, .int .i64 k] w fun e w' => e = .returned (.bool (exB n k)) ∧ w = w' := by
  go_enter Tryd.func25, Tryd.ntmps25
  go_wp2
  all_goals go_ret
  all_goals refine ⟨ret_bool ?_, rfl⟩
  all_goals unfold exB
  all_goals rw [Bool.eq_iff_iff]
  all_goals simp
  all_goals omega
set_option maxHeartbeats 400000 in
theorem rnright_any (n k : Int) (w : World) :
    Calls Tryd.prog 15 #[.int .i64 n, .int .i64 k] w fun e w' => e = .returned (.bool (exB n k)) ∧ w = w' := by
  go_enter Tryd.func15, Tryd.ntmps15
  go_wp2
  all_goals go_ret
  all_goals refine ⟨ret_bool ?_, rfl⟩
  all_goals unfold exB
  all_goals rw [Bool.eq_iff_iff]
  all_goals simp
  all_goals omega
set_option maxHeartbeats 400000 in
theorem nodes_any (n k : Int) (w : World) (h : exB n k = true) :
    Calls Tryd.prog 26 #[.int .i64 n, .int .i64 k] w fun e w' => e = .returned (.int .i64 (1 + n * k)) ∧ w = w' := by
  have := nk_le h
  go_enter Tryd.func26, Tryd.ntmps26
  go_wp2
  go_ret
  exact ⟨rfl, rfl⟩
set_option maxHeartbeats 400000 in
theorem nbegin_any (n i : Int) (w : World) (h1 : 1 ≤ n) (h2 : n ≤ 16) (h3 : 1 ≤ i) (h4 : i ≤ 1000) :
    Calls Tryd.prog 24 #[.int .i64 n, .int .i64 i] w fun e w' => e = .returned (.int .i64 (2 + n + 4 * (i - 1))) ∧ w = w' := by
  go_enter Tryd.func24, Tryd.ntmps24
  go_wp2
  go_ret
  exact ⟨rfl, rfl⟩
set_option maxHeartbeats 400000 in
theorem nhas_any (n k i : Int) (w : World) :
    Calls Tryd.prog 23 #[.int .i64 n, .int .i64 k, .int .i64 i] w fun e w' => e = .returned (.bool (hasB n k i)) ∧ w = w' := by
  have HE := Lib.hid (fun W => nexists_any n k W)
  cases h : exB n k with
  | false =>
    have hh : hasB n k i = false := by unfold hasB; rw [h]; rfl
    rw [h] at HE
    rw [hh]
    clear h hh
    go_enter Tryd.func23, Tryd.ntmps23
    go_wp2_with (first
      | (go_at_call 25; (with_reducible refine (HE.out _).mono ?_); rintro e w1 ⟨rfl, rfl⟩))
    go_ret
    exact ⟨rfl, rfl⟩
  | true =>
    have hh : hasB n k i = decide (1 ≤ i ∧ i ≤ 1 + n * k) := by unfold hasB; rw [h]; rfl
    rw [h] at HE
    rw [hh]
    have HN := Lib.hid (fun W => nodes_any n k W h)
    have hb := nk_le h
    generalize n * k = m at *
    clear h hh
    go_enter Tryd.func23, Tryd.ntmps23
    go_wp2_with (first
      | (go_at_call 25; (with_reducible refine (HE.out _).mono ?_); rintro e w1 ⟨rfl, rfl⟩)
      | (go_at_call 26; (with_reducible refine (HN.out _).mono ?_); rintro e w1 ⟨rfl, rfl⟩))
    all_goals go_ret
    all_goals refine ⟨ret_bool ?_, rfl⟩
    all_goals rw [Bool.eq_iff_iff]
    all_goals simp
    all_goals omega
set_option maxHeartbeats 400000 in
theorem ris_any (n k i : Int) (w : World) (h : exB n k = true) :
    Calls Tryd.prog 18 #[.int .i64 n, .int .i64 k, .int .i64 i] w fun e w' => e = .returned (.bool (hasB n k i)) ∧ w = w' := by
  have hh : hasB n k i = decide (1 ≤ i ∧ i ≤ 1 + n * k) := by unfold hasB; rw [h]; rfl
  rw [hh]
  have hb := nk_le h
  clear h hh
  go_enter Tryd.func18, Tryd.ntmps18
  go_wp2
  all_goals go_ret
  all_goals refine ⟨ret_bool ?_, rfl⟩
  all_goals rw [Bool.eq_iff_iff]
  all_goals simp
  all_goals omega
/-- how many words a queue has -/
def nSize (n k : Int) : Int := 2 + n + 4 * (1 + n * k)
set_option maxHeartbeats 400000 in
theorem nsize_yes (n k : Int) (w : World) (h : exB n k = true) :
    Calls Tryd.prog 16 #[.int .i64 n, .int .i64 k] w fun e w' => e = .returned (.int .i64 (nSize n k)) ∧ w = w' := by
  have HE := Lib.hid (fun W => nexists_any n k W)
  rw [h] at HE
  have HN := Lib.hid (fun W => nodes_any n k W h)
  have hb := nk_le h
  have ⟨h1, h2, _, _⟩ := exB_true h
  have HB := Lib.hid (fun W => nbegin_any n (1 + n * k + 1) W h1 h2 (by omega) (by omega))
  unfold nSize
  generalize n * k = m at *
  clear h
  go_enter Tryd.func16, Tryd.ntmps16
  go_wp2_with (first
    | (go_at_call 25; (with_reducible refine (HE.out _).mono ?_); rintro e w1 ⟨rfl, rfl⟩)
    | (go_at_call 26; (with_reducible refine (HN.out _).mono ?_); rintro e w1 ⟨rfl, rfl⟩)
    | (go_at_call 24; (with_reducible refine (HB.out _).mono ?_); rintro e w1 ⟨rfl, rfl⟩))
  go_ret
  exact ⟨rfl, rfl⟩
set_option maxHeartbeats 400000 in
theorem nsize_no (n k : Int) (w : World) (h : exB n k = false) :
    Calls Tryd.prog 16 #[.int .i64 n, .int .i64 k] w fun e w' => e = .returned (.int .i64 0) ∧ w = w' := by
  have HE := Lib.hid (fun W => nexists_any n k W)
  rw [h] at HE
  clear h
  go_enter Tryd.func16, Tryd.ntmps16
  go_wp2_with (first
    | (go_at_call 25; (with_reducible refine (HE.out _).mono ?_); rintro e w1 ⟨rfl, rfl⟩))
  go_ret
  exact ⟨rfl, rfl⟩
set_option maxHeartbeats 400000 in
theorem rsize_any (n k : Int) (w : World) (h : exB n k = true) :
    Calls Tryd.prog 17 #[.int .i64 n, .int .i64 k] w fun e w' => e = .returned (.int .i64 (nSize n k)) ∧ w = w' := by
  have hb := nk_le h
  have ⟨h1, h2, _, _⟩ := exB_true h
  unfold nSize
  clear h
  go_enter Tryd.func17, Tryd.ntmps17
  go_wp2
  go_ret
  exact ⟨rfl, rfl⟩
set_option maxHeartbeats 400000 in
/-- the reference's place of a field -/
theorem rat_any (n i f : Int) (w : World) (h1 : 1 ≤ n) (h2 : n ≤ 16) (h3 : 1 ≤ i) (h4 : i ≤ 1000) (h5 : 0 ≤ f) (h6 : f ≤ 3) :
    Calls Tryd.prog 20 #[.int .i64 n, .int .i64 i, .int .i64 f] w fun e w' => e = .returned (.int .i64 (2 + n + 4 * (i - 1) + f)) ∧ w = w' := by
  go_enter Tryd.func20, Tryd.ntmps20
  go_wp2
  go_loop [7, 8] (fun x k => ∃ j : Int, 1 ≤ j ∧ j ≤ i ∧ k = .int .i64 j ∧ x = .int .i64 (2 + n + 4 * (j - 1))) (fun _ k => (i - intOf k).toNat)
  case atStart => exact ⟨1, by omega, by omega, rfl, by go_num⟩
  case round =>
    obtain ⟨j, hj1, hj2, rfl, rfl⟩ := hrel
    by_cases hlt : j < i
    · go_wp2
      go_round
      case rel => exact ⟨j + 1, by omega, by omega, by go_num, by go_num⟩
      case measure => simp [intOf]; omega
    · have : j = i := by omega
      subst this
      go_wp2
      go_ret
      exact ⟨rfl, rfl⟩

set_option maxHeartbeats 400000 in
/-- who owns a node -/
theorem nowner_any (n k i : Int) (w : World) :
    Calls Tryd.prog 14 #[.int .i64 n, .int .i64 k, .int .i64 i] w fun e w' => e = .returned (.tuple #[.int .i64 (if 2 ≤ i ∧ hasB n k i = true then (i - 2).tdiv k else 0), .bool (decide (2 ≤ i ∧ hasB n k i = true))]) ∧ w = w' := by
  have HH := Lib.hid (fun W => nhas_any n k i W)
  cases h : hasB n k i with
  | false =>
    rw [h] at HH
    simp only [Bool.false_eq_true, and_false, if_false, decide_false]
    by_cases h1 : i = 1
    · subst h1
      clear h
      go_enter Tryd.func14, Tryd.ntmps14
      go_wp2
      go_ret2
      exact ⟨rfl, rfl⟩
    · clear h
      go_enter Tryd.func14, Tryd.ntmps14
      go_wp2_with (first
        | (go_at_call 23; (with_reducible refine (HH.out _).mono ?_); rintro e w1 ⟨rfl, rfl⟩))
      go_ret2
      exact ⟨rfl, rfl⟩
  | true =>
    rw [h] at HH
    obtain ⟨he, hi1, hi2⟩ := hasB_true h
    have hb := nk_le he
    obtain ⟨a1, a2, a3, a4⟩ := exB_true he
    generalize n * k = m at *
    by_cases h1 : i = 1
    · subst h1
      simp only [show ¬ ((2 : Int) ≤ 1) by decide, false_and, if_false, decide_false]
      clear h he hi1 hi2
      go_enter Tryd.func14, Tryd.ntmps14
      go_wp2
      go_ret2
      exact ⟨rfl, rfl⟩
    · simp only [show (2 : Int) ≤ i by omega, true_and, if_true, decide_true]
      obtain ⟨a, rfl⟩ : ∃ a : Nat, i = a + 2 := ⟨(i - 2).toNat, by omega⟩
      obtain ⟨b, rfl⟩ : ∃ b : Nat, k = b := ⟨k.toNat, by omega⟩
      have e1 : ((a : Int) + 2 - 2) = a := by omega
      have hq : ((a : Int) + 2 - 2).tdiv b = ((a / b : Nat) : Int) := by rw [e1]; exact Int.ofNat_tdiv a b
      have hql : a / b ≤ a := Nat.div_le_self _ _
      rw [hq]
      have hw : wrap64 ((a : Int) / (b : Int)) = ((a / b : Nat) : Int) := by
        rw [← Int.natCast_ediv]; unfold wrap64; generalize a / b = q at *; omega
      have hk0 : ¬ ((b : Int) = 0) := by omega
      clear h he
      go_enter Tryd.func14, Tryd.ntmps14
      go_wp2_with (first
        | (go_at_call 23; (with_reducible refine (HH.out _).mono ?_); rintro e w1 ⟨rfl, rfl⟩))
      go_ret2
      exact ⟨ret_intb hw rfl, rfl⟩
end Go.Proofs.YtgfmidpcgoadlaaDoor
