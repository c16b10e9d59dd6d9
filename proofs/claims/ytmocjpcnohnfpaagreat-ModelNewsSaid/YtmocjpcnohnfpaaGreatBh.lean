/- Size and Kinds, the program's and the reference's. -/
import Derived.Test.YtmocjpcnohnfpaaGreatBf
namespace Go.Proofs.YtmocjpcnohnfpaaGreat.Tb
open Go.ChangeShapes Go.WideShapes Go.ChangeAt Go.RowKit
set_option linter.unusedVariables false
set_option linter.unusedSimpArgs false

theorem tbErr_far {n : Int} (k p q : Int) (hn : ¬ (1 ≤ n ∧ n ≤ 16)) : tbErr n k p q = 1 ∧ tbN n k p q = 0 := by
  have h : tbErr n k p q = 1 := by unfold tbErr; rw [if_pos hn]
  exact ⟨h, by unfold tbN; rw [h, if_neg (by decide)]⟩
theorem tbErr_none {n k : Int} (p q : Int) (hn : 1 ≤ n ∧ n ≤ 16) (hk : ¬ (0 ≤ k ∧ k ≤ 9)) : tbErr n k p q = 9 ∧ tbN n k p q = 0 := by
  have h : tbErr n k p q = 9 := by unfold tbErr; rw [if_neg (by omega), if_pos hk]
  exact ⟨h, by unfold tbN; rw [h, if_neg (by decide)]⟩
theorem tbErr_in {n k p q : Int} (hn : 1 ≤ n ∧ n ≤ 16) (hk : 0 ≤ k ∧ k ≤ 9) (h : tbIn k p q) : tbErr n k p q = 0 ∧ tbN n k p q = tbSz n k p q := by
  have e : tbErr n k p q = 0 := by unfold tbErr; rw [if_neg (by omega), if_neg (by omega), if_pos h]
  exact ⟨e, by unfold tbN; rw [e, if_pos rfl]⟩
theorem tbErr_out {n k p q : Int} (hn : 1 ≤ n ∧ n ≤ 16) (hk : 0 ≤ k ∧ k ≤ 9) (h : ¬ tbIn k p q) : tbErr n k p q = 10 ∧ tbN n k p q = 0 := by
  have e : tbErr n k p q = 10 := by unfold tbErr; rw [if_neg (by omega), if_neg (by omega), if_neg h]
  exact ⟨e, by unfold tbN; rw [e, if_neg (by decide)]⟩
theorem tbIn_0 (p q : Int) : tbIn 0 p q ↔ (1 ≤ p ∧ p ≤ 64) := by unfold tbIn; omega
theorem tbSz_0 (n p q : Int) : tbSz n 0 p q = p := by rfl
theorem tbIn_1 (p q : Int) : tbIn 1 p q ↔ (True) := by unfold tbIn; simp
theorem tbSz_1 (n p q : Int) : tbSz n 1 p q = 1 := by rfl
theorem tbIn_2 (p q : Int) : tbIn 2 p q ↔ (True) := by unfold tbIn; simp
theorem tbSz_2 (n p q : Int) : tbSz n 2 p q = n := by rfl
theorem tbIn_3 (p q : Int) : tbIn 3 p q ↔ (True) := by unfold tbIn; simp
theorem tbSz_3 (n p q : Int) : tbSz n 3 p q = 1 := by rfl
theorem tbIn_4 (p q : Int) : tbIn 4 p q ↔ (1 ≤ p ∧ p ≤ 12) := by unfold tbIn; omega
theorem tbSz_4 (n p q : Int) : tbSz n 4 p q = 2 ^ p.toNat - 1 := by rfl
theorem tbIn_5 (p q : Int) : tbIn 5 p q ↔ (1 ≤ p ∧ p ≤ 64) := by unfold tbIn; omega
theorem tbSz_5 (n p q : Int) : tbSz n 5 p q = n + n * p * (n + 1) := by rfl
theorem tbIn_6 (p q : Int) : tbIn 6 p q ↔ ((1 ≤ p ∧ p ≤ 16) ∧ 1 ≤ q ∧ q ≤ 64) := by unfold tbIn; omega
theorem tbSz_6 (n p q : Int) : tbSz n 6 p q = p + n * q * (p + 1) := by rfl
theorem tbIn_7 (p q : Int) : tbIn 7 p q ↔ ((0 ≤ p ∧ p ≤ 7) ∧ 1 ≤ q ∧ q ≤ 256) := by unfold tbIn; omega
theorem tbSz_7 (n p q : Int) : tbSz n 7 p q = n + q := by rfl
theorem tbIn_8 (p q : Int) : tbIn 8 p q ↔ ((1 ≤ p ∧ p ≤ 32) ∧ 0 ≤ q ∧ q ≤ 3) := by unfold tbIn; omega
theorem tbSz_8 (n p q : Int) : tbSz n 8 p q = 6 + n + 4 * (n * p) := by rfl
theorem tbIn_9 (p q : Int) : tbIn 9 p q ↔ (1 ≤ p ∧ p ≤ 8) := by unfold tbIn; omega
theorem tbSz_9 (n p q : Int) : tbSz n 9 p q = 1 + (n + 1) * (p + 1) := by rfl

theorem osize_0 (n p q : Int) (hn : 1 ≤ n ∧ n ≤ 16) (W : World) : Calls Tryz.prog 213 #[.agg #[.int .i64 p], .int .i64 n] W fun e w' => e = .returned (.tuple #[.int .i64 (tbN n 0 p q), .int .i64 (tbErr n 0 p q)]) ∧ Below W.heap.size W w' := by
  by_cases h : tbIn 0 p q
  · obtain ⟨e1, e2⟩ := tbErr_in hn (by omega) h
    rw [e1, e2, tbSz_0]
    rw [tbIn_0] at h
    exact cellsSize_ok n p h W
  · obtain ⟨e1, e2⟩ := tbErr_out hn (by omega) h
    rw [e1, e2]
    rw [tbIn_0] at h
    by_cases h1 : p < 1
    · exact cellsSize_low n p h1 W
    · exact cellsSize_high n p (by omega) W

theorem osize_1 (n p q : Int) (hn : 1 ≤ n ∧ n ≤ 16) (W : World) : Calls Tryz.prog 215 #[.agg #[], .int .i64 n] W fun e w' => e = .returned (.tuple #[.int .i64 (tbN n 1 p q), .int .i64 (tbErr n 1 p q)]) ∧ Below W.heap.size W w' := by
  by_cases h : tbIn 1 p q
  · obtain ⟨e1, e2⟩ := tbErr_in hn (by omega) h
    rw [e1, e2, tbSz_1]
    rw [tbIn_1] at h
    exact consSize_ok n W
  · obtain ⟨e1, e2⟩ := tbErr_out hn (by omega) h
    rw [e1, e2]
    rw [tbIn_1] at h
    exact absurd trivial h

theorem osize_2 (n p q : Int) (hn : 1 ≤ n ∧ n ≤ 16) (W : World) : Calls Tryz.prog 217 #[.agg #[], .int .i64 n] W fun e w' => e = .returned (.tuple #[.int .i64 (tbN n 2 p q), .int .i64 (tbErr n 2 p q)]) ∧ Below W.heap.size W w' := by
  by_cases h : tbIn 2 p q
  · obtain ⟨e1, e2⟩ := tbErr_in hn (by omega) h
    rw [e1, e2, tbSz_2]
    rw [tbIn_2] at h
    exact tallySize_ok n W
  · obtain ⟨e1, e2⟩ := tbErr_out hn (by omega) h
    rw [e1, e2]
    rw [tbIn_2] at h
    exact absurd trivial h

theorem osize_3 (n p q : Int) (hn : 1 ≤ n ∧ n ≤ 16) (W : World) : Calls Tryz.prog 219 #[.agg #[], .int .i64 n] W fun e w' => e = .returned (.tuple #[.int .i64 (tbN n 3 p q), .int .i64 (tbErr n 3 p q)]) ∧ Below W.heap.size W w' := by
  by_cases h : tbIn 3 p q
  · obtain ⟨e1, e2⟩ := tbErr_in hn (by omega) h
    rw [e1, e2, tbSz_3]
    rw [tbIn_3] at h
    exact adderSize_ok n W
  · obtain ⟨e1, e2⟩ := tbErr_out hn (by omega) h
    rw [e1, e2]
    rw [tbIn_3] at h
    exact absurd trivial h

theorem osize_4 (n p q : Int) (hn : 1 ≤ n ∧ n ≤ 16) (W : World) : Calls Tryz.prog 221 #[.agg #[.int .i64 p], .int .i64 n] W fun e w' => e = .returned (.tuple #[.int .i64 (tbN n 4 p q), .int .i64 (tbErr n 4 p q)]) ∧ Below W.heap.size W w' := by
  by_cases h : tbIn 4 p q
  · obtain ⟨e1, e2⟩ := tbErr_in hn (by omega) h
    rw [e1, e2, tbSz_4]
    rw [tbIn_4] at h
    have : p = 1 ∨ p = 2 ∨ p = 3 ∨ p = 4 ∨ p = 5 ∨ p = 6 ∨ p = 7 ∨ p = 8 ∨ p = 9 ∨ p = 10 ∨ p = 11 ∨ p = 12 := by omega
    rcases this with rfl | rfl | rfl | rfl | rfl | rfl | rfl | rfl | rfl | rfl | rfl | rfl
    · exact maxSize_1 n W
    · exact maxSize_2 n W
    · exact maxSize_3 n W
    · exact maxSize_4 n W
    · exact maxSize_5 n W
    · exact maxSize_6 n W
    · exact maxSize_7 n W
    · exact maxSize_8 n W
    · exact maxSize_9 n W
    · exact maxSize_10 n W
    · exact maxSize_11 n W
    · exact maxSize_12 n W
  · obtain ⟨e1, e2⟩ := tbErr_out hn (by omega) h
    rw [e1, e2]
    rw [tbIn_4] at h
    by_cases h1 : p < 1
    · exact maxSize_low n p h1 W
    · exact maxSize_high n p (by omega) W

theorem osize_5 (n p q : Int) (hn : 1 ≤ n ∧ n ≤ 16) (W : World) : Calls Tryz.prog 223 #[.agg #[.int .i64 p], .int .i64 n] W fun e w' => e = .returned (.tuple #[.int .i64 (tbN n 5 p q), .int .i64 (tbErr n 5 p q)]) ∧ Below W.heap.size W w' := by
  by_cases h : tbIn 5 p q
  · obtain ⟨e1, e2⟩ := tbErr_in hn (by omega) h
    rw [e1, e2, tbSz_5]
    rw [tbIn_5] at h
    have b1 := mul_bd (a := n) (b := p) (A := 16) (B := 64) (by omega) (by omega)
    have b2 := mul_bd (a := n * p) (b := n + 1) (A := 1024) (B := 17) (by omega) (by omega)
    exact snapSize_ok n p (n * p) (n + 1) (n * p * (n + 1)) hn h rfl b1 rfl rfl b2 W
  · obtain ⟨e1, e2⟩ := tbErr_out hn (by omega) h
    rw [e1, e2]
    rw [tbIn_5] at h
    by_cases h1 : p < 1
    · exact snapSize_low n p h1 W
    · exact snapSize_high n p (by omega) W

theorem osize_6 (n p q : Int) (hn : 1 ≤ n ∧ n ≤ 16) (W : World) : Calls Tryz.prog 226 #[.agg #[.int .i64 p, .int .i64 q], .int .i64 n] W fun e w' => e = .returned (.tuple #[.int .i64 (tbN n 6 p q), .int .i64 (tbErr n 6 p q)]) ∧ Below W.heap.size W w' := by
  by_cases h : tbIn 6 p q
  · obtain ⟨e1, e2⟩ := tbErr_in hn (by omega) h
    rw [e1, e2, tbSz_6]
    rw [tbIn_6] at h
    have b1 := mul_bd (a := n) (b := q) (A := 16) (B := 64) (by omega) (by omega)
    have b2 := mul_bd (a := n * q) (b := p + 1) (A := 1024) (B := 17) (by omega) (by omega)
    exact multiSize_ok n p q (n * q) (p + 1) (n * q * (p + 1)) hn h.1 h.2 rfl b1 rfl rfl b2 W
  · obtain ⟨e1, e2⟩ := tbErr_out hn (by omega) h
    rw [e1, e2]
    rw [tbIn_6] at h
    by_cases h1 : p < 1
    · exact multiSize_bad0 n p q h1 W
    · by_cases h2 : 16 < p
      · exact multiSize_bad1 n p q h2 W
      · by_cases h3 : q < 1
        · exact multiSize_bad2 n p q h3 (by omega) W
        · exact multiSize_bad3 n p q (by omega) (by omega) W

theorem osize_7 (n p q : Int) (hn : 1 ≤ n ∧ n ≤ 16) (W : World) : Calls Tryz.prog 229 #[.agg #[.int .i64 p, .int .i64 q], .int .i64 n] W fun e w' => e = .returned (.tuple #[.int .i64 (tbN n 7 p q), .int .i64 (tbErr n 7 p q)]) ∧ Below W.heap.size W w' := by
  by_cases h : tbIn 7 p q
  · obtain ⟨e1, e2⟩ := tbErr_in hn (by omega) h
    rw [e1, e2, tbSz_7]
    rw [tbIn_7] at h
    exact univSize_ok n p q hn h.1 h.2 W
  · obtain ⟨e1, e2⟩ := tbErr_out hn (by omega) h
    rw [e1, e2]
    rw [tbIn_7] at h
    by_cases h1 : 0 ≤ p ∧ p ≤ 7
    · by_cases h2 : q < 1
      · exact univSize_bad1 n p q h2 h1 W
      · exact univSize_bad2 n p q (by omega) h1 W
    · exact univSize_bad0 n p q h1 W

theorem osize_8 (n p q : Int) (hn : 1 ≤ n ∧ n ≤ 16) (W : World) : Calls Tryz.prog 231 #[.agg #[.int .i64 p, .int .i64 q], .int .i64 n] W fun e w' => e = .returned (.tuple #[.int .i64 (tbN n 8 p q), .int .i64 (tbErr n 8 p q)]) ∧ Below W.heap.size W w' := by
  by_cases h : tbIn 8 p q
  · obtain ⟨e1, e2⟩ := tbErr_in hn (by omega) h
    rw [e1, e2, tbSz_8]
    rw [tbIn_8] at h
    have b1 := mul_bd (a := n) (b := p) (A := 16) (B := 32) (by omega) (by omega)
    exact queueSize_ok n p q (n * p) h.2 hn h.1 rfl b1 W
  · obtain ⟨e1, e2⟩ := tbErr_out hn (by omega) h
    rw [e1, e2]
    rw [tbIn_8] at h
    by_cases h1 : 1 ≤ p ∧ p ≤ 32
    · have b1 := mul_bd (a := n) (b := p) (A := 16) (B := 32) (by omega) (by omega)
      by_cases h2 : q < 0
      · exact queueSize_bad1 n p q (n * p) h2 hn h1 rfl b1 W
      · exact queueSize_bad2 n p q (n * p) (by omega) hn h1 rfl b1 W
    · exact queueSize_bad0 n p q (fun hh => h1 hh.2) W

theorem osize_9 (n p q : Int) (hn : 1 ≤ n ∧ n ≤ 16) (W : World) : Calls Tryz.prog 238 #[.agg #[.int .i64 p], .int .i64 n] W fun e w' => e = .returned (.tuple #[.int .i64 (tbN n 9 p q), .int .i64 (tbErr n 9 p q)]) ∧ Below W.heap.size W w' := by
  by_cases h : tbIn 9 p q
  · obtain ⟨e1, e2⟩ := tbErr_in hn (by omega) h
    rw [e1, e2, tbSz_9]
    rw [tbIn_9] at h
    have b1 := mul_bd (a := n + 1) (b := p + 1) (A := 17) (B := 9) (by omega) (by omega)
    exact pinSize_ok n p (n + 1) (p + 1) ((n + 1) * (p + 1)) hn h rfl rfl rfl b1 W
  · obtain ⟨e1, e2⟩ := tbErr_out hn (by omega) h
    rw [e1, e2]
    rw [tbIn_9] at h
    by_cases h1 : p < 1
    · exact pinSize_low n p h1 W
    · exact pinSize_high n p (by omega) W

/-- table.Size -/
theorem size_any (n k p q : Int) (w : World) : Calls Tryz.prog 20 #[.int .i64 n, specV k p q] w fun e w' => e = .returned (.tuple #[.int .i64 (tbN n k p q), .int .i64 (tbErr n k p q)]) ∧ Below w.heap.size w w' := by
  by_cases hn : 1 ≤ n ∧ n ≤ 16
  · by_cases hk : 0 ≤ k ∧ k ≤ 9
    · rcases tb_nine hk with rfl | rfl | rfl | rfl | rfl | rfl | rfl | rfl | rfl | rfl
      · exact size_0 n p q _ _ hn (fun W => osize_0 n p q hn W) w
      · exact size_1 n p q _ _ hn (fun W => osize_1 n p q hn W) w
      · exact size_2 n p q _ _ hn (fun W => osize_2 n p q hn W) w
      · exact size_3 n p q _ _ hn (fun W => osize_3 n p q hn W) w
      · exact size_4 n p q _ _ hn (fun W => osize_4 n p q hn W) w
      · exact size_5 n p q _ _ hn (fun W => osize_5 n p q hn W) w
      · exact size_6 n p q _ _ hn (fun W => osize_6 n p q hn W) w
      · exact size_7 n p q _ _ hn (fun W => osize_7 n p q hn W) w
      · exact size_8 n p q _ _ hn (fun W => osize_8 n p q hn W) w
      · exact size_9 n p q _ _ hn (fun W => osize_9 n p q hn W) w
    · obtain ⟨e1, e2⟩ := tbErr_none (n := n) p q hn hk
      rw [e1, e2]; exact size_none n k p q hn hk w
  · obtain ⟨e1, e2⟩ := tbErr_far (n := n) k p q hn
    rw [e1, e2]; exact size_far n k p q hn w
/-- table.Kinds -/
theorem kinds_any (k p q : Int) (w : World) : Calls Tryz.prog 104 #[specV k p q] w fun e w' => e = .returned (.int .i64 (tbKn k p)) ∧ Below w.heap.size w w' := by
  by_cases hk : 0 ≤ k ∧ k ≤ 9
  · rcases tb_nine hk with rfl | rfl | rfl | rfl | rfl | rfl | rfl | rfl | rfl | rfl
    · exact tkinds_0 p q w
    · exact tkinds_1 p q w
    · exact tkinds_2 p q w
    · exact tkinds_3 p q w
    · exact tkinds_4 p q w
    · exact tkinds_5 p q w
    · exact tkinds_6 p q w
    · exact tkinds_7 p q w
    · exact tkinds_8 p q w
    · exact tkinds_9 p q w
  · have e : tbKn k p = 0 := by unfold tbKn; rw [if_pos hk]
    rw [e]; exact tkinds_none k p q hk w
theorem psize_any_0 (n p q : Int) (hn : 1 ≤ n ∧ n ≤ 16) (w : World) : Calls Tryz.prog 23 #[.int .i64 n, specV 0 p q] w fun e w' => e = .returned (.int .i64 (if tbIn 0 p q then tbSz n 0 p q else -1)) ∧ Below w.heap.size w w' := by
  by_cases h : tbIn 0 p q
  · rw [if_pos h, tbSz_0]
    rw [tbIn_0] at h
    exact psize_0 n p q h.1 h.2 w
  · rw [if_neg h]
    rw [tbIn_0] at h
    by_cases c0 : 1 ≤ p
    · skip
      exact psize_0_no1 n p q c0 (by omega) w
    · exact psize_0_no0 n p q  c0 w

theorem psize_any_1 (n p q : Int) (hn : 1 ≤ n ∧ n ≤ 16) (w : World) : Calls Tryz.prog 23 #[.int .i64 n, specV 1 p q] w fun e w' => e = .returned (.int .i64 (if tbIn 1 p q then tbSz n 1 p q else -1)) ∧ Below w.heap.size w w' := by
  rw [if_pos ((tbIn_1 p q).2 trivial), tbSz_1]; exact psize_1 n p q w

theorem psize_any_2 (n p q : Int) (hn : 1 ≤ n ∧ n ≤ 16) (w : World) : Calls Tryz.prog 23 #[.int .i64 n, specV 2 p q] w fun e w' => e = .returned (.int .i64 (if tbIn 2 p q then tbSz n 2 p q else -1)) ∧ Below w.heap.size w w' := by
  rw [if_pos ((tbIn_2 p q).2 trivial), tbSz_2]; exact psize_2 n p q w

theorem psize_any_3 (n p q : Int) (hn : 1 ≤ n ∧ n ≤ 16) (w : World) : Calls Tryz.prog 23 #[.int .i64 n, specV 3 p q] w fun e w' => e = .returned (.int .i64 (if tbIn 3 p q then tbSz n 3 p q else -1)) ∧ Below w.heap.size w w' := by
  rw [if_pos ((tbIn_3 p q).2 trivial), tbSz_3]; exact psize_3 n p q w

theorem psize_any_4 (n p q : Int) (hn : 1 ≤ n ∧ n ≤ 16) (w : World) : Calls Tryz.prog 23 #[.int .i64 n, specV 4 p q] w fun e w' => e = .returned (.int .i64 (if tbIn 4 p q then tbSz n 4 p q else -1)) ∧ Below w.heap.size w w' := by
  by_cases h : tbIn 4 p q
  · rw [if_pos h, tbSz_4]
    rw [tbIn_4] at h
    have : p = 1 ∨ p = 2 ∨ p = 3 ∨ p = 4 ∨ p = 5 ∨ p = 6 ∨ p = 7 ∨ p = 8 ∨ p = 9 ∨ p = 10 ∨ p = 11 ∨ p = 12 := by omega
    rcases this with rfl | rfl | rfl | rfl | rfl | rfl | rfl | rfl | rfl | rfl | rfl | rfl
    · exact psize_4_1 n q w
    · exact psize_4_2 n q w
    · exact psize_4_3 n q w
    · exact psize_4_4 n q w
    · exact psize_4_5 n q w
    · exact psize_4_6 n q w
    · exact psize_4_7 n q w
    · exact psize_4_8 n q w
    · exact psize_4_9 n q w
    · exact psize_4_10 n q w
    · exact psize_4_11 n q w
    · exact psize_4_12 n q w
  · rw [if_neg h]
    rw [tbIn_4] at h
    by_cases c0 : 1 ≤ p
    · skip
      exact psize_4_no1 n p q c0 (by omega) w
    · exact psize_4_no0 n p q  c0 w

theorem psize_any_5 (n p q : Int) (hn : 1 ≤ n ∧ n ≤ 16) (w : World) : Calls Tryz.prog 23 #[.int .i64 n, specV 5 p q] w fun e w' => e = .returned (.int .i64 (if tbIn 5 p q then tbSz n 5 p q else -1)) ∧ Below w.heap.size w w' := by
  by_cases h : tbIn 5 p q
  · rw [if_pos h, tbSz_5]
    rw [tbIn_5] at h
    have b1 := mul_bd (a := n) (b := p) (A := 16) (B := 64) (by omega) (by omega)
    have b2 := mul_bd (a := n * p) (b := n + 1) (A := 1024) (B := 17) (by omega) (by omega)
    exact psize_5 n p q (n * p) (n + 1) (n * p * (n + 1)) h.1 h.2 hn rfl b1 rfl (by omega) rfl b2 w
  · rw [if_neg h]
    rw [tbIn_5] at h
    by_cases c0 : 1 ≤ p
    · skip
      exact psize_5_no1 n p q c0 (by omega) w
    · exact psize_5_no0 n p q  c0 w

theorem psize_any_6 (n p q : Int) (hn : 1 ≤ n ∧ n ≤ 16) (w : World) : Calls Tryz.prog 23 #[.int .i64 n, specV 6 p q] w fun e w' => e = .returned (.int .i64 (if tbIn 6 p q then tbSz n 6 p q else -1)) ∧ Below w.heap.size w w' := by
  by_cases h : tbIn 6 p q
  · rw [if_pos h, tbSz_6]
    rw [tbIn_6] at h
    have b1 := mul_bd (a := n) (b := q) (A := 16) (B := 64) (by omega) (by omega)
    have b2 := mul_bd (a := n * q) (b := p + 1) (A := 1024) (B := 17) (by omega) (by omega)
    exact psize_6 n p q (n * q) (p + 1) (n * q * (p + 1)) h.1.1 h.1.2 h.2.1 h.2.2 hn rfl b1 rfl (by omega) rfl b2 w
  · rw [if_neg h]
    rw [tbIn_6] at h
    by_cases c0 : 1 ≤ p
    · skip
      by_cases c1 : p ≤ 16
      · skip
        by_cases c2 : 1 ≤ q
        · skip
          exact psize_6_no3 n p q c0 c1 c2 (by omega) w
        · exact psize_6_no2 n p q c0 c1 c2 w
      · exact psize_6_no1 n p q c0 c1 w
    · exact psize_6_no0 n p q  c0 w

theorem psize_any_7 (n p q : Int) (hn : 1 ≤ n ∧ n ≤ 16) (w : World) : Calls Tryz.prog 23 #[.int .i64 n, specV 7 p q] w fun e w' => e = .returned (.int .i64 (if tbIn 7 p q then tbSz n 7 p q else -1)) ∧ Below w.heap.size w w' := by
  by_cases h : tbIn 7 p q
  · rw [if_pos h, tbSz_7]
    rw [tbIn_7] at h
    exact psize_7 n p q h.2.1 h.2.2 hn h.1 w
  · rw [if_neg h]
    rw [tbIn_7] at h
    by_cases hp : 0 ≤ p ∧ p ≤ 7
    · by_cases c1 : 1 ≤ q
      · exact psize_7_no2 n p q c1 hp (by omega) w
      · exact psize_7_no1 n p q hp c1 w
    · exact psize_7_no0 n p q hp w

theorem psize_any_8 (n p q : Int) (hn : 1 ≤ n ∧ n ≤ 16) (w : World) : Calls Tryz.prog 23 #[.int .i64 n, specV 8 p q] w fun e w' => e = .returned (.int .i64 (if tbIn 8 p q then tbSz n 8 p q else -1)) ∧ Below w.heap.size w w' := by
  by_cases h : tbIn 8 p q
  · rw [if_pos h, tbSz_8]
    rw [tbIn_8] at h
    have b1 := mul_bd (a := n) (b := p) (A := 16) (B := 32) (by omega) (by omega)
    exact psize_8 n p q (n * p) h.1.1 h.1.2 h.2.1 h.2.2 hn rfl b1 w
  · rw [if_neg h]
    rw [tbIn_8] at h
    by_cases c0 : 1 ≤ p
    · skip
      by_cases c1 : p ≤ 32
      · skip
        by_cases c2 : 0 ≤ q
        · skip
          exact psize_8_no3 n p q c0 c1 c2 (by omega) w
        · exact psize_8_no2 n p q c0 c1 c2 w
      · exact psize_8_no1 n p q c0 c1 w
    · exact psize_8_no0 n p q  c0 w

theorem psize_any_9 (n p q : Int) (hn : 1 ≤ n ∧ n ≤ 16) (w : World) : Calls Tryz.prog 23 #[.int .i64 n, specV 9 p q] w fun e w' => e = .returned (.int .i64 (if tbIn 9 p q then tbSz n 9 p q else -1)) ∧ Below w.heap.size w w' := by
  by_cases h : tbIn 9 p q
  · rw [if_pos h, tbSz_9]
    rw [tbIn_9] at h
    have b1 := mul_bd (a := n + 1) (b := p + 1) (A := 17) (B := 9) (by omega) (by omega)
    exact psize_9 n p q (n + 1) (p + 1) ((n + 1) * (p + 1)) h.1 h.2 hn rfl rfl rfl b1 w
  · rw [if_neg h]
    rw [tbIn_9] at h
    by_cases c0 : 1 ≤ p
    · skip
      exact psize_9_no1 n p q c0 (by omega) w
    · exact psize_9_no0 n p q  c0 w

theorem tbSz_ge {n k p q : Int} (hn : 1 ≤ n ∧ n ≤ 16) (hk : 0 ≤ k ∧ k ≤ 9) (h : tbIn k p q) : 1 ≤ tbSz n k p q ∧ tbSz n k p q ≤ 20000 := by
  rcases tb_nine hk with rfl | rfl | rfl | rfl | rfl | rfl | rfl | rfl | rfl | rfl
  · rw [tbSz_0]; rw [tbIn_0] at h
    omega
  · rw [tbSz_1]; rw [tbIn_1] at h
    omega
  · rw [tbSz_2]; rw [tbIn_2] at h
    omega
  · rw [tbSz_3]; rw [tbIn_3] at h
    omega
  · rw [tbSz_4]; rw [tbIn_4] at h
    have : p = 1 ∨ p = 2 ∨ p = 3 ∨ p = 4 ∨ p = 5 ∨ p = 6 ∨ p = 7 ∨ p = 8 ∨ p = 9 ∨ p = 10 ∨ p = 11 ∨ p = 12 := by omega
    rcases this with rfl | rfl | rfl | rfl | rfl | rfl | rfl | rfl | rfl | rfl | rfl | rfl <;> decide
  · rw [tbSz_5]; rw [tbIn_5] at h
    have b1 := mul_bd (a := n) (b := p) (A := 16) (B := 64) (by omega) (by omega)
    have b2 := mul_bd (a := n * p) (b := n + 1) (A := 1024) (B := 17) (by omega) (by omega)
    omega
  · rw [tbSz_6]; rw [tbIn_6] at h
    have b1 := mul_bd (a := n) (b := q) (A := 16) (B := 64) (by omega) (by omega)
    have b2 := mul_bd (a := n * q) (b := p + 1) (A := 1024) (B := 17) (by omega) (by omega)
    omega
  · rw [tbSz_7]; rw [tbIn_7] at h
    omega
  · rw [tbSz_8]; rw [tbIn_8] at h
    have b1 := mul_bd (a := n) (b := p) (A := 16) (B := 32) (by omega) (by omega)
    omega
  · rw [tbSz_9]; rw [tbIn_9] at h
    have b1 := mul_bd (a := n + 1) (b := p + 1) (A := 17) (B := 9) (by omega) (by omega)
    omega

set_option maxHeartbeats 1000000 in
theorem rsize_far (n k p q : Int) (hn : ¬ (1 ≤ n ∧ n ≤ 16)) (w : World) : Calls Tryz.prog 7 #[.int .i64 n, specV k p q] w fun e w' => e = .returned (.tuple #[.int .i64 0, .int .i64 1]) ∧ Below w.heap.size w w' := by
  unfold specV
  by_cases h : n < 1
  · have d : decide (n < 1) = true := decide_eq_true h
    clear hn
    go_enter Tryz.func7, Tryz.ntmps7
    go_wp2_with fail
    go_ret2
    exact ⟨rfl, (Below.refl _ _).alloc (Nat.le_refl _) _⟩
  · have d : decide (n < 1) = false := decide_eq_false h
    have d2 : decide (16 < n) = true := decide_eq_true (by omega)
    clear hn
    go_enter Tryz.func7, Tryz.ntmps7
    go_wp2_with fail
    go_ret2
    exact ⟨rfl, (Below.refl _ _).alloc (Nat.le_refl _) _⟩
set_option maxHeartbeats 1000000 in
theorem rsize_none (n k p q : Int) (hn : 1 ≤ n ∧ n ≤ 16) (hk : ¬ (0 ≤ k ∧ k ≤ 9)) (w : World) : Calls Tryz.prog 7 #[.int .i64 n, specV k p q] w fun e w' => e = .returned (.tuple #[.int .i64 0, .int .i64 9]) ∧ Below w.heap.size w w' := by
  unfold specV
  have d : decide (n < 1) = false := decide_eq_false (by omega)
  have d2 : decide (16 < n) = false := decide_eq_false (by omega)
  by_cases h : k < 0
  · have d3 : decide (k < 0) = true := decide_eq_true h
    clear hn hk
    go_enter Tryz.func7, Tryz.ntmps7
    go_wp2_with fail
    go_ret2
    exact ⟨rfl, (Below.refl _ _).alloc (Nat.le_refl _) _⟩
  · have d3 : decide (k < 0) = false := decide_eq_false h
    have d4 : decide (9 < k) = true := decide_eq_true (by omega)
    clear hn hk
    go_enter Tryz.func7, Tryz.ntmps7
    go_wp2_with fail
    go_ret2
    exact ⟨rfl, (Below.refl _ _).alloc (Nat.le_refl _) _⟩
set_option maxHeartbeats 1000000 in
theorem rsize_in (n k p q s : Int) (hn : 1 ≤ n ∧ n ≤ 16) (hk : 0 ≤ k ∧ k ≤ 9) (hs : 0 ≤ s) (hS : ∀ w, Calls Tryz.prog 23 #[.int .i64 n, specV k p q] w fun e w' => e = .returned (.int .i64 s) ∧ Below w.heap.size w w') (w : World) :
    Calls Tryz.prog 7 #[.int .i64 n, specV k p q] w fun e w' => e = .returned (.tuple #[.int .i64 s, .int .i64 0]) ∧ Below w.heap.size w w' := by
  have HS := Lib.hid hS
  clear hS
  unfold specV at *
  have d : decide (n < 1) = false := decide_eq_false (by omega)
  have d2 : decide (16 < n) = false := decide_eq_false (by omega)
  have d3 : decide (k < 0) = false := decide_eq_false (by omega)
  have d4 : decide (9 < k) = false := decide_eq_false (by omega)
  have d5 : ¬ s < 0 := by omega
  clear hn hk
  go_enter Tryz.func7, Tryz.ntmps7
  go_wp2_with (go_at_call 23; refine (HS.out _).mono ?_; rintro e w5 ⟨rfl, hb⟩; (have HB := Lib.hid hb); clear hb)
  go_ret2
  exact ⟨rfl, ((Below.refl _ _).alloc (Nat.le_refl _) _).trans (HB.out.mono (by simp))⟩
set_option maxHeartbeats 1000000 in
theorem rsize_out (n k p q : Int) (hn : 1 ≤ n ∧ n ≤ 16) (hk : 0 ≤ k ∧ k ≤ 9) (hS : ∀ w, Calls Tryz.prog 23 #[.int .i64 n, specV k p q] w fun e w' => e = .returned (.int .i64 (-1)) ∧ Below w.heap.size w w') (w : World) :
    Calls Tryz.prog 7 #[.int .i64 n, specV k p q] w fun e w' => e = .returned (.tuple #[.int .i64 0, .int .i64 10]) ∧ Below w.heap.size w w' := by
  have HS := Lib.hid hS
  clear hS
  unfold specV at *
  have d : decide (n < 1) = false := decide_eq_false (by omega)
  have d2 : decide (16 < n) = false := decide_eq_false (by omega)
  have d3 : decide (k < 0) = false := decide_eq_false (by omega)
  have d4 : decide (9 < k) = false := decide_eq_false (by omega)
  clear hn hk
  go_enter Tryz.func7, Tryz.ntmps7
  go_wp2_with (go_at_call 23; refine (HS.out _).mono ?_; rintro e w5 ⟨rfl, hb⟩; (have HB := Lib.hid hb); clear hb)
  go_ret2
  exact ⟨rfl, ((Below.refl _ _).alloc (Nat.le_refl _) _).trans (HB.out.mono (by simp))⟩
theorem psize_any (n k p q : Int) (hn : 1 ≤ n ∧ n ≤ 16) (hk : 0 ≤ k ∧ k ≤ 9) (w : World) : Calls Tryz.prog 23 #[.int .i64 n, specV k p q] w fun e w' => e = .returned (.int .i64 (if tbIn k p q then tbSz n k p q else -1)) ∧ Below w.heap.size w w' := by
  rcases tb_nine hk with rfl | rfl | rfl | rfl | rfl | rfl | rfl | rfl | rfl | rfl
  · exact psize_any_0 n p q hn w
  · exact psize_any_1 n p q hn w
  · exact psize_any_2 n p q hn w
  · exact psize_any_3 n p q hn w
  · exact psize_any_4 n p q hn w
  · exact psize_any_5 n p q hn w
  · exact psize_any_6 n p q hn w
  · exact psize_any_7 n p q hn w
  · exact psize_any_8 n p q hn w
  · exact psize_any_9 n p q hn w
/-- the reference's Size -/
theorem rsize_any (n k p q : Int) (w : World) : Calls Tryz.prog 7 #[.int .i64 n, specV k p q] w fun e w' => e = .returned (.tuple #[.int .i64 (tbN n k p q), .int .i64 (tbErr n k p q)]) ∧ Below w.heap.size w w' := by
  by_cases hn : 1 ≤ n ∧ n ≤ 16
  · by_cases hk : 0 ≤ k ∧ k ≤ 9
    · by_cases h : tbIn k p q
      · obtain ⟨e1, e2⟩ := tbErr_in (n := n) hn hk h
        rw [e1, e2]
        exact rsize_in n k p q _ hn hk (by have := tbSz_ge hn hk h; omega) (fun w => by have := psize_any n k p q hn hk w; rw [if_pos h] at this; exact this) w
      · obtain ⟨e1, e2⟩ := tbErr_out (n := n) hn hk h
        rw [e1, e2]
        exact rsize_out n k p q hn hk (fun w => by have := psize_any n k p q hn hk w; rw [if_neg h] at this; exact this) w
    · obtain ⟨e1, e2⟩ := tbErr_none (n := n) p q hn hk
      rw [e1, e2]; exact rsize_none n k p q hn hk w
  · obtain ⟨e1, e2⟩ := tbErr_far (n := n) k p q hn
    rw [e1, e2]; exact rsize_far n k p q hn w
end Go.Proofs.YtmocjpcnohnfpaaGreat.Tb
