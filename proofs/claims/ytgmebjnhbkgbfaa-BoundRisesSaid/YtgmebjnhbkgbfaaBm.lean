/- bound: Most, both; All; known. -/
import Derived.Test.YtgmebjnhbkgbfaaBi
import Derived.Test.YtgmebjnhbkgbfaaBk
import Derived.Test.YtgmebjnhbkgbfaaBl
namespace Go.Proofs.Ytgmebjnhbkgbfaa
open Go.ChangeShapes Go.WideShapes Go.ChangeAt Go.RowKit
set_option linter.unusedVariables false
set_option linter.unusedSimpArgs false
theorem tbF_0 (n p q : Int) : tbF n 0 p q = 1 := by rfl
theorem tbG_0 (n p q : Int) : tbG n 0 p q = 1 := by rfl
theorem tbF_1 (n p q : Int) : tbF n 1 p q = 2 := by rfl
theorem tbG_1 (n p q : Int) : tbG n 1 p q = 1 := by rfl
theorem tbF_2 (n p q : Int) : tbF n 2 p q = 2 := by rfl
theorem tbG_2 (n p q : Int) : tbG n 2 p q = n := by rfl
theorem tbF_3 (n p q : Int) : tbF n 3 p q = 1 := by rfl
theorem tbG_3 (n p q : Int) : tbG n 3 p q = 1 := by rfl
theorem tbF_4 (n p q : Int) : tbF n 4 p q = p := by rfl
theorem tbG_4 (n p q : Int) : tbG n 4 p q = p := by rfl
theorem tbF_5 (n p q : Int) : tbF n 5 p q = n * n + 3 * n + 2 := by rfl
theorem tbG_5 (n p q : Int) : tbG n 5 p q = n * n + 2 * n := by rfl
theorem tbF_6 (n p q : Int) : tbF n 6 p q = p * (n + 3) + 2 := by rfl
theorem tbG_6 (n p q : Int) : tbG n 6 p q = p * (n + 2) := by rfl
theorem tbF_7 (n p q : Int) : tbF n 7 p q = 4 * q + 1 := by rfl
theorem tbG_7 (n p q : Int) : tbG n 7 p q = 4 * q + 1 := by rfl
theorem tbF_8 (n p q : Int) : tbF n 8 p q = tbQ n p q := by rfl
theorem tbG_8 (n p q : Int) : tbG n 8 p q = tbQ n p q := by rfl
theorem tbF_9 (n p q : Int) : tbF n 9 p q = n + p + 1 := by rfl
theorem tbG_9 (n p q : Int) : tbG n 9 p q = p + 2 := by rfl
theorem tbQ_eq (n p q : Int) : tbQ n p q = (n + 1) * (15 * (2 * n * n + 8) + 1) + p + 14 * q + n + 14 := rfl
theorem tb_c {n : Int} (hn : 1 ≤ n ∧ n ≤ 16) : 0 ≤ 2 * n * n ∧ 2 * n * n ≤ 512 := mul_bd (a := 2 * n) (b := n) (A := 32) (B := 16) (by omega) (by omega)
theorem tb_d {n : Int} (hn : 1 ≤ n ∧ n ≤ 16) : 0 ≤ (n + 1) * (15 * (2 * n * n + 8) + 1) ∧ (n + 1) * (15 * (2 * n * n + 8) + 1) ≤ 132617 := by
  have := tb_c hn
  exact mul_bd (a := n + 1) (b := 15 * (2 * n * n + 8) + 1) (A := 17) (B := 7801) (by omega) (by omega)
theorem tbErr_zero {n k p q : Int} (h : tbErr n k p q = 0) : (1 ≤ n ∧ n ≤ 16) ∧ (0 ≤ k ∧ k ≤ 9) ∧ tbIn k p q := by
  rcases Classical.em (1 ≤ n ∧ n ≤ 16) with hn | hn
  · rcases Classical.em (0 ≤ k ∧ k ≤ 9) with hk | hk
    · rcases Classical.em (tbIn k p q) with hi | hi
      · exact ⟨hn, hk, hi⟩
      · rw [(tbErr_out hn hk hi).1] at h; cases h
    · rw [(tbErr_none p q hn hk).1] at h; cases h
  · rw [(tbErr_far k p q hn).1] at h; cases h
theorem steps_any (n k p q : Int) (hn : 1 ≤ n ∧ n ≤ 16) (hk : 0 ≤ k ∧ k ≤ 9) (h : tbIn k p q) (w : World) : Calls Try.prog 23 #[.int .i64 k, .int .i64 n, .int .i64 p, .int .i64 q] w fun e w' => e = .returned (.tuple #[.int .i64 (tbF n k p q), .int .i64 (tbG n k p q)]) ∧ w = w' := by
  rcases tb_nine hk with rfl | rfl | rfl | rfl | rfl | rfl | rfl | rfl | rfl | rfl
  · rw [tbF_0, tbG_0]; rw [tbIn_0] at h
    exact steps_0 n p q  w
  · rw [tbF_1, tbG_1]; rw [tbIn_1] at h
    exact steps_1 n p q  w
  · rw [tbF_2, tbG_2]; rw [tbIn_2] at h
    exact steps_2 n p q  w
  · rw [tbF_3, tbG_3]; rw [tbIn_3] at h
    exact steps_3 n p q  w
  · rw [tbF_4, tbG_4]; rw [tbIn_4] at h
    exact steps_4 n p q  w
  · rw [tbF_5, tbG_5]; rw [tbIn_5] at h
    have b1 := mul_bd (a := n) (b := n) (A := 16) (B := 16) (by omega) (by omega)
    exact steps_5 n p q (n * n) rfl b1 hn w
  · rw [tbF_6, tbG_6]; rw [tbIn_6] at h
    have b1 := mul_bd (a := p) (b := n + 3) (A := 16) (B := 19) (by omega) (by omega)
    have b2 := mul_bd (a := p) (b := n + 2) (A := 16) (B := 18) (by omega) (by omega)
    exact steps_6 n p q (n + 3) (p * (n + 3)) (n + 2) (p * (n + 2)) rfl rfl (by omega) rfl rfl (by omega) hn w
  · rw [tbF_7, tbG_7]; rw [tbIn_7] at h
    exact steps_7 n p q (by omega) w
  · rw [tbF_8, tbG_8]; rw [tbIn_8] at h
    have b1 := tb_c hn
    have b2 := tb_d hn
    exact steps_8 n p q (2 * n * n) (n + 1) (15 * (2 * n * n + 8) + 1) _ rfl b1 rfl (by omega) rfl (by omega) rfl b2 hn (by omega) (by omega) w
  · rw [tbF_9, tbG_9]; rw [tbIn_9] at h
    exact steps_9 n p q hn (by omega) w

/-- the reference's Most -/
theorem rmost_any (n k p q d : Int) (hn : 1 ≤ n ∧ n ≤ 16) (hk : 0 ≤ k ∧ k ≤ 9) (h : tbIn k p q) (w : World) : Calls Try.prog 14 #[.int .i64 n, specV k p q, .int .i64 d] w fun e w' => e = .returned (.int .i64 (if d = 1 then tbG n k p q else tbF n k p q)) ∧ Below w.heap.size w w' := by
  by_cases hd : d = 1
  · subst hd
    rw [if_pos rfl]
    rcases tb_nine hk with rfl | rfl | rfl | rfl | rfl | rfl | rfl | rfl | rfl | rfl
    · rw [tbG_0]; rw [tbIn_0] at h
      exact rmost_0_one n p q (by omega) hn w
    · rw [tbG_1]; rw [tbIn_1] at h
      exact rmost_1_one n p q hn w
    · rw [tbG_2]; rw [tbIn_2] at h
      exact rmost_2_one n p q hn w
    · rw [tbG_3]; rw [tbIn_3] at h
      exact rmost_3_one n p q hn w
    · rw [tbG_4]; rw [tbIn_4] at h
      exact rmost_4_one n p q (by omega) hn w
    · rw [tbG_5]; rw [tbIn_5] at h
      have b1 := mul_bd (a := n) (b := n) (A := 16) (B := 16) (by omega) (by omega)
      exact rmost_5_one n p q (n * n) rfl b1 hn (by omega) w
    · rw [tbG_6]; rw [tbIn_6] at h
      have b1 := mul_bd (a := p) (b := n + 3) (A := 16) (B := 19) (by omega) (by omega)
      have b2 := mul_bd (a := p) (b := n + 2) (A := 16) (B := 18) (by omega) (by omega)
      exact rmost_6_one n p q (n + 3) (p * (n + 3)) (n + 2) (p * (n + 2)) rfl rfl (by omega) rfl rfl (by omega) hn (by omega) w
    · rw [tbG_7]; rw [tbIn_7] at h
      exact rmost_7_one n p q (by omega) hn w
    · rw [tbG_8]; rw [tbIn_8] at h
      have b1 := tb_c hn
      have b2 := tb_d hn
      exact rmost_8_one n p q (2 * n * n) (n + 1) (15 * (2 * n * n + 8) + 1) _ rfl b1 rfl (by omega) rfl (by omega) rfl b2 (by omega) (by omega) hn w
    · rw [tbG_9]; rw [tbIn_9] at h
      exact rmost_9_one n p q (by omega) hn w
  · rw [if_neg hd]
    rcases tb_nine hk with rfl | rfl | rfl | rfl | rfl | rfl | rfl | rfl | rfl | rfl
    · rw [tbF_0]; rw [tbIn_0] at h
      exact rmost_0_other n p q (by omega) hn d hd w
    · rw [tbF_1]; rw [tbIn_1] at h
      exact rmost_1_other n p q hn d hd w
    · rw [tbF_2]; rw [tbIn_2] at h
      exact rmost_2_other n p q hn d hd w
    · rw [tbF_3]; rw [tbIn_3] at h
      exact rmost_3_other n p q hn d hd w
    · rw [tbF_4]; rw [tbIn_4] at h
      exact rmost_4_other n p q (by omega) hn d hd w
    · rw [tbF_5]; rw [tbIn_5] at h
      have b1 := mul_bd (a := n) (b := n) (A := 16) (B := 16) (by omega) (by omega)
      exact rmost_5_other n p q (n * n) rfl b1 hn (by omega) d hd w
    · rw [tbF_6]; rw [tbIn_6] at h
      have b1 := mul_bd (a := p) (b := n + 3) (A := 16) (B := 19) (by omega) (by omega)
      have b2 := mul_bd (a := p) (b := n + 2) (A := 16) (B := 18) (by omega) (by omega)
      exact rmost_6_other n p q (n + 3) (p * (n + 3)) (n + 2) (p * (n + 2)) rfl rfl (by omega) rfl rfl (by omega) hn (by omega) d hd w
    · rw [tbF_7]; rw [tbIn_7] at h
      exact rmost_7_other n p q (by omega) hn d hd w
    · rw [tbF_8]; rw [tbIn_8] at h
      have b1 := tb_c hn
      have b2 := tb_d hn
      exact rmost_8_other n p q (2 * n * n) (n + 1) (15 * (2 * n * n + 8) + 1) _ rfl b1 rfl (by omega) rfl (by omega) rfl b2 (by omega) (by omega) hn d hd w
    · rw [tbF_9]; rw [tbIn_9] at h
      exact rmost_9_other n p q (by omega) hn d hd w

set_option maxRecDepth 100000 in
set_option maxHeartbeats 1000000 in
theorem most_err (n k p q d : Int) (he : tbErr n k p q ≠ 0) (w : World) : Calls Try.prog 12 #[.int .i64 n, specV k p q, .int .i64 d] w fun e w' => e = .returned (.tuple #[.int .i64 0, .int .i64 (tbErr n k p q)]) ∧ Below w.heap.size w w' := by
  have HC0 := Lib.hid (SpCtx.init w k p q)
  obtain ⟨s, hs⟩ : ∃ s, tbN n k p q = s := ⟨_, rfl⟩
  obtain ⟨er, her⟩ : ∃ er, tbErr n k p q = er := ⟨_, rfl⟩
  have HS := Lib.hid (fun w => size_any n k p q w)
  rw [hs, her] at HS
  rw [her] at he ⊢
  clear hs her
  unfold specV specO at *
  go_enter Try.func12, Try.ntmps12
  go_wp2_with (first
    | (go_at_call 7; refine (HS.out _).mono ?_; rintro e w1 ⟨rfl, hb⟩; (have HC1 := Lib.hid (HC0.out.next hb)); (obtain ⟨b0, b1, b2⟩ := HC1.out.cells); clear hb))
  go_ret2
  exact ⟨rfl, HC1.out.bel⟩

set_option maxRecDepth 100000 in
set_option maxHeartbeats 1000000 in
theorem most_low (n k p q d : Int) (he : tbErr n k p q = 0) (hd : d < 0) (w : World) : Calls Try.prog 12 #[.int .i64 n, specV k p q, .int .i64 d] w fun e w' => e = .returned (.tuple #[.int .i64 0, .int .i64 9]) ∧ Below w.heap.size w w' := by
  have HC0 := Lib.hid (SpCtx.init w k p q)
  obtain ⟨s, hs⟩ : ∃ s, tbN n k p q = s := ⟨_, rfl⟩
  have HS := Lib.hid (fun w => size_any n k p q w)
  rw [hs, he] at HS
  have d1 : decide (d < 0) = true := decide_eq_true hd
  clear hs he
  unfold specV specO at *
  go_enter Try.func12, Try.ntmps12
  go_wp2_with (first
    | (go_at_call 7; refine (HS.out _).mono ?_; rintro e w1 ⟨rfl, hb⟩; (have HC1 := Lib.hid (HC0.out.next hb)); (obtain ⟨b0, b1, b2⟩ := HC1.out.cells); clear hb))
  go_ret2
  exact ⟨rfl, HC1.out.bel⟩

set_option maxRecDepth 100000 in
set_option maxHeartbeats 1000000 in
theorem most_high (n k p q d : Int) (he : tbErr n k p q = 0) (hd : 0 ≤ d) (hd2 : tbKn k p ≤ d) (w : World) : Calls Try.prog 12 #[.int .i64 n, specV k p q, .int .i64 d] w fun e w' => e = .returned (.tuple #[.int .i64 0, .int .i64 9]) ∧ Below w.heap.size w w' := by
  have HC0 := Lib.hid (SpCtx.init w k p q)
  obtain ⟨s, hs⟩ : ∃ s, tbN n k p q = s := ⟨_, rfl⟩
  have HS := Lib.hid (fun w => size_any n k p q w)
  rw [hs, he] at HS
  obtain ⟨kn, hkn⟩ : ∃ kn, tbKn k p = kn := ⟨_, rfl⟩
  have HK := Lib.hid (fun w => kinds_any k p q w)
  rw [hkn] at HK hd2
  have d1 : decide (d < 0) = false := decide_eq_false (by omega)
  have d2 : decide (kn ≤ d) = true := decide_eq_true hd2
  clear hs he hkn
  unfold specV specO at *
  go_enter Try.func12, Try.ntmps12
  go_wp2_with (first
    | (go_at_call 7; refine (HS.out _).mono ?_; rintro e w1 ⟨rfl, hb⟩; (have HC1 := Lib.hid (HC0.out.next hb)); (obtain ⟨b0, b1, b2⟩ := HC1.out.cells); clear hb)
    | (go_at_call 9; refine (HK.out _).mono ?_; rintro e w2 ⟨rfl, hb⟩; (have HC2 := Lib.hid (HC1.out.next hb)); clear b0 b1 b2; (obtain ⟨b0, b1, b2⟩ := HC2.out.cells); clear hb))
  go_ret2
  exact ⟨rfl, HC2.out.bel⟩

set_option maxRecDepth 100000 in
set_option maxHeartbeats 1000000 in
theorem most_first (n k p q d : Int) (he : tbErr n k p q = 0) (hd : d = 0) (hd2 : d < tbKn k p) (w : World) : Calls Try.prog 12 #[.int .i64 n, specV k p q, .int .i64 d] w fun e w' => e = .returned (.tuple #[.int .i64 (tbF n k p q), .int .i64 0]) ∧ Below w.heap.size w w' := by
  have HC0 := Lib.hid (SpCtx.init w k p q)
  obtain ⟨s, hs⟩ : ∃ s, tbN n k p q = s := ⟨_, rfl⟩
  have HS := Lib.hid (fun w => size_any n k p q w)
  rw [hs, he] at HS
  obtain ⟨kn, hkn⟩ : ∃ kn, tbKn k p = kn := ⟨_, rfl⟩
  have HK := Lib.hid (fun w => kinds_any k p q w)
  rw [hkn] at HK hd2
  have d1 : decide (d < 0) = false := decide_eq_false (by omega)
  obtain ⟨f, hf⟩ : ∃ f, tbF n k p q = f := ⟨_, rfl⟩
  obtain ⟨g, hg⟩ : ∃ g, tbG n k p q = g := ⟨_, rfl⟩
  have HT := Lib.hid (fun w => steps_any n k p q (tbErr_zero he).1 (tbErr_zero he).2.1 (tbErr_zero he).2.2 w)
  rw [hf, hg] at HT
  rw [hf]
  subst hd
  have d2 : decide (kn ≤ 0) = false := decide_eq_false (by omega)
  clear hs he hkn hf hg
  unfold specV specO at *
  go_enter Try.func12, Try.ntmps12
  go_wp2_with (first
    | (go_at_call 7; refine (HS.out _).mono ?_; rintro e w1 ⟨rfl, hb⟩; (have HC1 := Lib.hid (HC0.out.next hb)); (obtain ⟨b0, b1, b2⟩ := HC1.out.cells); clear hb)
    | (go_at_call 9; refine (HK.out _).mono ?_; rintro e w2 ⟨rfl, hb⟩; (have HC2 := Lib.hid (HC1.out.next hb)); clear b0 b1 b2; (obtain ⟨b0, b1, b2⟩ := HC2.out.cells); clear hb)
    | (go_at_call 23; refine (HT.out _).mono ?_; rintro e w3 ⟨rfl, rfl⟩))
  go_ret2
  exact ⟨rfl, HC2.out.bel⟩

set_option maxRecDepth 100000 in
set_option maxHeartbeats 1000000 in
theorem most_more (n k p q d : Int) (he : tbErr n k p q = 0) (hd : 0 < d) (hd2 : d < tbKn k p) (w : World) : Calls Try.prog 12 #[.int .i64 n, specV k p q, .int .i64 d] w fun e w' => e = .returned (.tuple #[.int .i64 (tbG n k p q), .int .i64 0]) ∧ Below w.heap.size w w' := by
  have HC0 := Lib.hid (SpCtx.init w k p q)
  obtain ⟨s, hs⟩ : ∃ s, tbN n k p q = s := ⟨_, rfl⟩
  have HS := Lib.hid (fun w => size_any n k p q w)
  rw [hs, he] at HS
  obtain ⟨kn, hkn⟩ : ∃ kn, tbKn k p = kn := ⟨_, rfl⟩
  have HK := Lib.hid (fun w => kinds_any k p q w)
  rw [hkn] at HK hd2
  have d1 : decide (d < 0) = false := decide_eq_false (by omega)
  obtain ⟨f, hf⟩ : ∃ f, tbF n k p q = f := ⟨_, rfl⟩
  obtain ⟨g, hg⟩ : ∃ g, tbG n k p q = g := ⟨_, rfl⟩
  have HT := Lib.hid (fun w => steps_any n k p q (tbErr_zero he).1 (tbErr_zero he).2.1 (tbErr_zero he).2.2 w)
  rw [hf, hg] at HT
  rw [hg]
  have d2 : decide (kn ≤ d) = false := decide_eq_false (by omega)
  have d3 : ¬ d = 0 := by omega
  clear hs he hkn hf hg
  unfold specV specO at *
  go_enter Try.func12, Try.ntmps12
  go_wp2_with (first
    | (go_at_call 7; refine (HS.out _).mono ?_; rintro e w1 ⟨rfl, hb⟩; (have HC1 := Lib.hid (HC0.out.next hb)); (obtain ⟨b0, b1, b2⟩ := HC1.out.cells); clear hb)
    | (go_at_call 9; refine (HK.out _).mono ?_; rintro e w2 ⟨rfl, hb⟩; (have HC2 := Lib.hid (HC1.out.next hb)); clear b0 b1 b2; (obtain ⟨b0, b1, b2⟩ := HC2.out.cells); clear hb)
    | (go_at_call 23; refine (HT.out _).mono ?_; rintro e w3 ⟨rfl, rfl⟩))
  go_ret2
  exact ⟨rfl, HC2.out.bel⟩

/-- bound.Most -/
theorem most_any (n k p q d : Int) (w : World) : Calls Try.prog 12 #[.int .i64 n, specV k p q, .int .i64 d] w fun e w' => e = .returned (.tuple #[.int .i64 (tbM n k p q d).1, .int .i64 (tbM n k p q d).2]) ∧ Below w.heap.size w w' := by
  by_cases he : tbErr n k p q = 0
  · by_cases h0 : d < 0
    · have e1 : tbM n k p q d = (0, 9) := by unfold tbM; rw [if_neg (by omega), if_pos (by omega)]
      rw [e1]; exact most_low n k p q d he h0 w
    · by_cases h1 : tbKn k p ≤ d
      · have e1 : tbM n k p q d = (0, 9) := by unfold tbM; rw [if_neg (by omega), if_pos (by omega)]
        rw [e1]; exact most_high n k p q d he (by omega) h1 w
      · have e1 : tbM n k p q d = (if d = 0 then tbF n k p q else tbG n k p q, 0) := by unfold tbM; rw [if_neg (by omega), if_neg (by omega)]
        by_cases h2 : d = 0
        · rw [e1, if_pos h2]; exact most_first n k p q d he h2 (by omega) w
        · rw [e1, if_neg h2]; exact most_more n k p q d he (by omega) (by omega) w
  · have e1 : tbM n k p q d = (0, tbErr n k p q) := by unfold tbM; rw [if_pos he]
    rw [e1]; exact most_err n k p q d he w
end Go.Proofs.Ytgmebjnhbkgbfaa
