/- Size and Kinds, the program's and the reference's. | Specs in a row; table.Lay; pair. | Opening: a spec, by value; specs in a row. -/
import Derived.Test.YtjjleghalajidaaGreatBf
import Derived.Test.YtjjleghalajidaaGreatGK
import Derived.Lib.AppendZeros
namespace Go.Proofs.YtjjleghalajidaaGreat.Tb
section
set_option maxRecDepth 100000
open Go.ChangeShapes Go.WideShapes Go.ChangeAt Go.RowKit
set_option linter.unusedVariables false
set_option linter.unusedSimpArgs false

theorem tbErr_far {n : Int} (k p q : Int) (hn : ¬ (1 ≤ n ∧ n ≤ 16)) : tbErr n k p q = 1 ∧ tbN n k p q = 0 := by
  have h : tbErr n k p q = 1 := by unfold tbErr; rw [if_pos hn]
  exact ⟨h, by unfold tbN; rw [h, if_neg (by decide)]⟩
theorem tbErr_none {n k : Int} (p q : Int) (hn : 1 ≤ n ∧ n ≤ 16) (hk : ¬ (0 ≤ k ∧ k ≤ 9)) : tbErr n k p q = 9 ∧ tbN n k p q = 0 := by
  have h : tbErr n k p q = 9 := by unfold tbErr; rw [if_neg (by omega), if_pos hk]
  exact ⟨h, by unfold tbN; rw [h, if_neg (by decide)]⟩
theorem tbErr_in {n k p q : Int} (hn : 1 ≤ n ∧ n ≤ 16) (hk : 0 ≤ k ∧ k ≤ 9) (h : tbIn k p q) : tbErr n k p q = 0 ∧ tbN n k p q = tbSz n k p q := by
  have e : tbErr n k p q = 0 := by unfold tbErr; rw [if_neg (by omega), if_neg (by omega), if_pos h]
  exact ⟨e, by unfold tbN; rw [e, if_pos rfl]⟩
theorem tbErr_out {n k p q : Int} (hn : 1 ≤ n ∧ n ≤ 16) (hk : 0 ≤ k ∧ k ≤ 9) (h : ¬ tbIn k p q) : tbErr n k p q = 10 ∧ tbN n k p q = 0 := by
  have e : tbErr n k p q = 10 := by unfold tbErr; rw [if_neg (by omega), if_neg (by omega), if_neg h]
  exact ⟨e, by unfold tbN; rw [e, if_neg (by decide)]⟩
theorem tbIn_0 (p q : Int) : tbIn 0 p q ↔ (1 ≤ p ∧ p ≤ 64) := by unfold tbIn; omega
theorem tbSz_0 (n p q : Int) : tbSz n 0 p q = p := by rfl
theorem tbIn_1 (p q : Int) : tbIn 1 p q ↔ (True) := by unfold tbIn; simp
theorem tbSz_1 (n p q : Int) : tbSz n 1 p q = 1 := by rfl
theorem tbIn_2 (p q : Int) : tbIn 2 p q ↔ (True) := by unfold tbIn; simp
theorem tbSz_2 (n p q : Int) : tbSz n 2 p q = n := by rfl
theorem tbIn_3 (p q : Int) : tbIn 3 p q ↔ (True) := by unfold tbIn; simp
theorem tbSz_3 (n p q : Int) : tbSz n 3 p q = 1 := by rfl
theorem tbIn_4 (p q : Int) : tbIn 4 p q ↔ (1 ≤ p ∧ p ≤ 12) := by unfold tbIn; omega
theorem tbSz_4 (n p q : Int) : tbSz n 4 p q = 2 ^ p.toNat - 1 := by rfl
theorem tbIn_5 (p q : Int) : tbIn 5 p q ↔ (1 ≤ p ∧ p ≤ 64) := by unfold tbIn; omega
theorem tbSz_5 (n p q : Int) : tbSz n 5 p q = n + n * p * (n + 1) := by rfl
theorem tbIn_6 (p q : Int) : tbIn 6 p q ↔ ((1 ≤ p ∧ p ≤ 16) ∧ 1 ≤ q ∧ q ≤ 64) := by unfold tbIn; omega
theorem tbSz_6 (n p q : Int) : tbSz n 6 p q = p + n * q * (p + 1) := by rfl
theorem tbIn_7 (p q : Int) : tbIn 7 p q ↔ ((0 ≤ p ∧ p ≤ 7) ∧ 1 ≤ q ∧ q ≤ 256) := by unfold tbIn; omega
theorem tbSz_7 (n p q : Int) : tbSz n 7 p q = n + q := by rfl
theorem tbIn_8 (p q : Int) : tbIn 8 p q ↔ ((1 ≤ p ∧ p ≤ 32) ∧ 0 ≤ q ∧ q ≤ 3) := by unfold tbIn; omega
theorem tbSz_8 (n p q : Int) : tbSz n 8 p q = 6 + n + 4 * (n * p) := by rfl
theorem tbIn_9 (p q : Int) : tbIn 9 p q ↔ (1 ≤ p ∧ p ≤ 8) := by unfold tbIn; omega
theorem tbSz_9 (n p q : Int) : tbSz n 9 p q = 1 + (n + 1) * (p + 1) := by rfl

theorem osize_0 (n p q : Int) (hn : 1 ≤ n ∧ n ≤ 16) (W : World) : Calls Tryz.prog 221 #[.agg #[.int .i64 p], .int .i64 n] W fun e w' => e = .returned (.tuple #[.int .i64 (tbN n 0 p q), .int .i64 (tbErr n 0 p q)]) ∧ Below W.heap.size W w' := by
  by_cases h : tbIn 0 p q
  · obtain ⟨e1, e2⟩ := tbErr_in hn (by omega) h
    rw [e1, e2, tbSz_0]
    rw [tbIn_0] at h
    exact cellsSize_ok n p h W
  · obtain ⟨e1, e2⟩ := tbErr_out hn (by omega) h
    rw [e1, e2]
    rw [tbIn_0] at h
    by_cases h1 : p < 1
    · exact cellsSize_low n p h1 W
    · exact cellsSize_high n p (by omega) W

theorem osize_1 (n p q : Int) (hn : 1 ≤ n ∧ n ≤ 16) (W : World) : Calls Tryz.prog 223 #[.agg #[], .int .i64 n] W fun e w' => e = .returned (.tuple #[.int .i64 (tbN n 1 p q), .int .i64 (tbErr n 1 p q)]) ∧ Below W.heap.size W w' := by
  by_cases h : tbIn 1 p q
  · obtain ⟨e1, e2⟩ := tbErr_in hn (by omega) h
    rw [e1, e2, tbSz_1]
    rw [tbIn_1] at h
    exact consSize_ok n W
  · obtain ⟨e1, e2⟩ := tbErr_out hn (by omega) h
    rw [e1, e2]
    rw [tbIn_1] at h
    exact absurd trivial h

theorem osize_2 (n p q : Int) (hn : 1 ≤ n ∧ n ≤ 16) (W : World) : Calls Tryz.prog 225 #[.agg #[], .int .i64 n] W fun e w' => e = .returned (.tuple #[.int .i64 (tbN n 2 p q), .int .i64 (tbErr n 2 p q)]) ∧ Below W.heap.size W w' := by
  by_cases h : tbIn 2 p q
  · obtain ⟨e1, e2⟩ := tbErr_in hn (by omega) h
    rw [e1, e2, tbSz_2]
    rw [tbIn_2] at h
    exact tallySize_ok n W
  · obtain ⟨e1, e2⟩ := tbErr_out hn (by omega) h
    rw [e1, e2]
    rw [tbIn_2] at h
    exact absurd trivial h

theorem osize_3 (n p q : Int) (hn : 1 ≤ n ∧ n ≤ 16) (W : World) : Calls Tryz.prog 227 #[.agg #[], .int .i64 n] W fun e w' => e = .returned (.tuple #[.int .i64 (tbN n 3 p q), .int .i64 (tbErr n 3 p q)]) ∧ Below W.heap.size W w' := by
  by_cases h : tbIn 3 p q
  · obtain ⟨e1, e2⟩ := tbErr_in hn (by omega) h
    rw [e1, e2, tbSz_3]
    rw [tbIn_3] at h
    exact adderSize_ok n W
  · obtain ⟨e1, e2⟩ := tbErr_out hn (by omega) h
    rw [e1, e2]
    rw [tbIn_3] at h
    exact absurd trivial h

theorem osize_4 (n p q : Int) (hn : 1 ≤ n ∧ n ≤ 16) (W : World) : Calls Tryz.prog 229 #[.agg #[.int .i64 p], .int .i64 n] W fun e w' => e = .returned (.tuple #[.int .i64 (tbN n 4 p q), .int .i64 (tbErr n 4 p q)]) ∧ Below W.heap.size W w' := by
  by_cases h : tbIn 4 p q
  · obtain ⟨e1, e2⟩ := tbErr_in hn (by omega) h
    rw [e1, e2, tbSz_4]
    rw [tbIn_4] at h
    have : p = 1 ∨ p = 2 ∨ p = 3 ∨ p = 4 ∨ p = 5 ∨ p = 6 ∨ p = 7 ∨ p = 8 ∨ p = 9 ∨ p = 10 ∨ p = 11 ∨ p = 12 := by omega
    rcases this with rfl | rfl | rfl | rfl | rfl | rfl | rfl | rfl | rfl | rfl | rfl | rfl
    · exact maxSize_1 n W
    · exact maxSize_2 n W
    · exact maxSize_3 n W
    · exact maxSize_4 n W
    · exact maxSize_5 n W
    · exact maxSize_6 n W
    · exact maxSize_7 n W
    · exact maxSize_8 n W
    · exact maxSize_9 n W
    · exact maxSize_10 n W
    · exact maxSize_11 n W
    · exact maxSize_12 n W
  · obtain ⟨e1, e2⟩ := tbErr_out hn (by omega) h
    rw [e1, e2]
    rw [tbIn_4] at h
    by_cases h1 : p < 1
    · exact maxSize_low n p h1 W
    · exact maxSize_high n p (by omega) W

theorem osize_5 (n p q : Int) (hn : 1 ≤ n ∧ n ≤ 16) (W : World) : Calls Tryz.prog 231 #[.agg #[.int .i64 p], .int .i64 n] W fun e w' => e = .returned (.tuple #[.int .i64 (tbN n 5 p q), .int .i64 (tbErr n 5 p q)]) ∧ Below W.heap.size W w' := by
  by_cases h : tbIn 5 p q
  · obtain ⟨e1, e2⟩ := tbErr_in hn (by omega) h
    rw [e1, e2, tbSz_5]
    rw [tbIn_5] at h
    have b1 := mul_bd (a := n) (b := p) (A := 16) (B := 64) (by omega) (by omega)
    have b2 := mul_bd (a := n * p) (b := n + 1) (A := 1024) (B := 17) (by omega) (by omega)
    exact snapSize_ok n p (n * p) (n + 1) (n * p * (n + 1)) hn h rfl b1 rfl rfl b2 W
  · obtain ⟨e1, e2⟩ := tbErr_out hn (by omega) h
    rw [e1, e2]
    rw [tbIn_5] at h
    by_cases h1 : p < 1
    · exact snapSize_low n p h1 W
    · exact snapSize_high n p (by omega) W

theorem osize_6 (n p q : Int) (hn : 1 ≤ n ∧ n ≤ 16) (W : World) : Calls Tryz.prog 234 #[.agg #[.int .i64 p, .int .i64 q], .int .i64 n] W fun e w' => e = .returned (.tuple #[.int .i64 (tbN n 6 p q), .int .i64 (tbErr n 6 p q)]) ∧ Below W.heap.size W w' := by
  by_cases h : tbIn 6 p q
  · obtain ⟨e1, e2⟩ := tbErr_in hn (by omega) h
    rw [e1, e2, tbSz_6]
    rw [tbIn_6] at h
    have b1 := mul_bd (a := n) (b := q) (A := 16) (B := 64) (by omega) (by omega)
    have b2 := mul_bd (a := n * q) (b := p + 1) (A := 1024) (B := 17) (by omega) (by omega)
    exact multiSize_ok n p q (n * q) (p + 1) (n * q * (p + 1)) hn h.1 h.2 rfl b1 rfl rfl b2 W
  · obtain ⟨e1, e2⟩ := tbErr_out hn (by omega) h
    rw [e1, e2]
    rw [tbIn_6] at h
    by_cases h1 : p < 1
    · exact multiSize_bad0 n p q h1 W
    · by_cases h2 : 16 < p
      · exact multiSize_bad1 n p q h2 W
      · by_cases h3 : q < 1
        · exact multiSize_bad2 n p q h3 (by omega) W
        · exact multiSize_bad3 n p q (by omega) (by omega) W

theorem osize_7 (n p q : Int) (hn : 1 ≤ n ∧ n ≤ 16) (W : World) : Calls Tryz.prog 237 #[.agg #[.int .i64 p, .int .i64 q], .int .i64 n] W fun e w' => e = .returned (.tuple #[.int .i64 (tbN n 7 p q), .int .i64 (tbErr n 7 p q)]) ∧ Below W.heap.size W w' := by
  by_cases h : tbIn 7 p q
  · obtain ⟨e1, e2⟩ := tbErr_in hn (by omega) h
    rw [e1, e2, tbSz_7]
    rw [tbIn_7] at h
    exact univSize_ok n p q hn h.1 h.2 W
  · obtain ⟨e1, e2⟩ := tbErr_out hn (by omega) h
    rw [e1, e2]
    rw [tbIn_7] at h
    by_cases h1 : 0 ≤ p ∧ p ≤ 7
    · by_cases h2 : q < 1
      · exact univSize_bad1 n p q h2 h1 W
      · exact univSize_bad2 n p q (by omega) h1 W
    · exact univSize_bad0 n p q h1 W

theorem osize_8 (n p q : Int) (hn : 1 ≤ n ∧ n ≤ 16) (W : World) : Calls Tryz.prog 239 #[.agg #[.int .i64 p, .int .i64 q], .int .i64 n] W fun e w' => e = .returned (.tuple #[.int .i64 (tbN n 8 p q), .int .i64 (tbErr n 8 p q)]) ∧ Below W.heap.size W w' := by
  by_cases h : tbIn 8 p q
  · obtain ⟨e1, e2⟩ := tbErr_in hn (by omega) h
    rw [e1, e2, tbSz_8]
    rw [tbIn_8] at h
    have b1 := mul_bd (a := n) (b := p) (A := 16) (B := 32) (by omega) (by omega)
    exact queueSize_ok n p q (n * p) h.2 hn h.1 rfl b1 W
  · obtain ⟨e1, e2⟩ := tbErr_out hn (by omega) h
    rw [e1, e2]
    rw [tbIn_8] at h
    by_cases h1 : 1 ≤ p ∧ p ≤ 32
    · have b1 := mul_bd (a := n) (b := p) (A := 16) (B := 32) (by omega) (by omega)
      by_cases h2 : q < 0
      · exact queueSize_bad1 n p q (n * p) h2 hn h1 rfl b1 W
      · exact queueSize_bad2 n p q (n * p) (by omega) hn h1 rfl b1 W
    · exact queueSize_bad0 n p q (fun hh => h1 hh.2) W

theorem osize_9 (n p q : Int) (hn : 1 ≤ n ∧ n ≤ 16) (W : World) : Calls Tryz.prog 246 #[.agg #[.int .i64 p], .int .i64 n] W fun e w' => e = .returned (.tuple #[.int .i64 (tbN n 9 p q), .int .i64 (tbErr n 9 p q)]) ∧ Below W.heap.size W w' := by
  by_cases h : tbIn 9 p q
  · obtain ⟨e1, e2⟩ := tbErr_in hn (by omega) h
    rw [e1, e2, tbSz_9]
    rw [tbIn_9] at h
    have b1 := mul_bd (a := n + 1) (b := p + 1) (A := 17) (B := 9) (by omega) (by omega)
    exact pinSize_ok n p (n + 1) (p + 1) ((n + 1) * (p + 1)) hn h rfl rfl rfl b1 W
  · obtain ⟨e1, e2⟩ := tbErr_out hn (by omega) h
    rw [e1, e2]
    rw [tbIn_9] at h
    by_cases h1 : p < 1
    · exact pinSize_low n p h1 W
    · exact pinSize_high n p (by omega) W

/-- table.Size -/
theorem size_any (n k p q : Int) (w : World) : Calls Tryz.prog 88 #[.int .i64 n, specV k p q] w fun e w' => e = .returned (.tuple #[.int .i64 (tbN n k p q), .int .i64 (tbErr n k p q)]) ∧ Below w.heap.size w w' := by
  by_cases hn : 1 ≤ n ∧ n ≤ 16
  · by_cases hk : 0 ≤ k ∧ k ≤ 9
    · rcases tb_nine hk with rfl | rfl | rfl | rfl | rfl | rfl | rfl | rfl | rfl | rfl
      · exact size_0 n p q _ _ hn (fun W => osize_0 n p q hn W) w
      · exact size_1 n p q _ _ hn (fun W => osize_1 n p q hn W) w
      · exact size_2 n p q _ _ hn (fun W => osize_2 n p q hn W) w
      · exact size_3 n p q _ _ hn (fun W => osize_3 n p q hn W) w
      · exact size_4 n p q _ _ hn (fun W => osize_4 n p q hn W) w
      · exact size_5 n p q _ _ hn (fun W => osize_5 n p q hn W) w
      · exact size_6 n p q _ _ hn (fun W => osize_6 n p q hn W) w
      · exact size_7 n p q _ _ hn (fun W => osize_7 n p q hn W) w
      · exact size_8 n p q _ _ hn (fun W => osize_8 n p q hn W) w
      · exact size_9 n p q _ _ hn (fun W => osize_9 n p q hn W) w
    · obtain ⟨e1, e2⟩ := tbErr_none (n := n) p q hn hk
      rw [e1, e2]; exact size_none n k p q hn hk w
  · obtain ⟨e1, e2⟩ := tbErr_far (n := n) k p q hn
    rw [e1, e2]; exact size_far n k p q hn w
/-- table.Kinds -/
theorem kinds_any (k p q : Int) (w : World) : Calls Tryz.prog 112 #[specV k p q] w fun e w' => e = .returned (.int .i64 (tbKn k p)) ∧ Below w.heap.size w w' := by
  by_cases hk : 0 ≤ k ∧ k ≤ 9
  · rcases tb_nine hk with rfl | rfl | rfl | rfl | rfl | rfl | rfl | rfl | rfl | rfl
    · exact tkinds_0 p q w
    · exact tkinds_1 p q w
    · exact tkinds_2 p q w
    · exact tkinds_3 p q w
    · exact tkinds_4 p q w
    · exact tkinds_5 p q w
    · exact tkinds_6 p q w
    · exact tkinds_7 p q w
    · exact tkinds_8 p q w
    · exact tkinds_9 p q w
  · have e : tbKn k p = 0 := by unfold tbKn; rw [if_pos hk]
    rw [e]; exact tkinds_none k p q hk w
theorem psize_any_0 (n p q : Int) (hn : 1 ≤ n ∧ n ≤ 16) (w : World) : Calls Tryz.prog 33 #[.int .i64 n, specV 0 p q] w fun e w' => e = .returned (.int .i64 (if tbIn 0 p q then tbSz n 0 p q else -1)) ∧ Below w.heap.size w w' := by
  by_cases h : tbIn 0 p q
  · rw [if_pos h, tbSz_0]
    rw [tbIn_0] at h
    exact psize_0 n p q h.1 h.2 w
  · rw [if_neg h]
    rw [tbIn_0] at h
    by_cases c0 : 1 ≤ p
    · skip
      exact psize_0_no1 n p q c0 (by omega) w
    · exact psize_0_no0 n p q  c0 w

theorem psize_any_1 (n p q : Int) (hn : 1 ≤ n ∧ n ≤ 16) (w : World) : Calls Tryz.prog 33 #[.int .i64 n, specV 1 p q] w fun e w' => e = .returned (.int .i64 (if tbIn 1 p q then tbSz n 1 p q else -1)) ∧ Below w.heap.size w w' := by
  rw [if_pos ((tbIn_1 p q).2 trivial), tbSz_1]; exact psize_1 n p q w

theorem psize_any_2 (n p q : Int) (hn : 1 ≤ n ∧ n ≤ 16) (w : World) : Calls Tryz.prog 33 #[.int .i64 n, specV 2 p q] w fun e w' => e = .returned (.int .i64 (if tbIn 2 p q then tbSz n 2 p q else -1)) ∧ Below w.heap.size w w' := by
  rw [if_pos ((tbIn_2 p q).2 trivial), tbSz_2]; exact psize_2 n p q w

theorem psize_any_3 (n p q : Int) (hn : 1 ≤ n ∧ n ≤ 16) (w : World) : Calls Tryz.prog 33 #[.int .i64 n, specV 3 p q] w fun e w' => e = .returned (.int .i64 (if tbIn 3 p q then tbSz n 3 p q else -1)) ∧ Below w.heap.size w w' := by
  rw [if_pos ((tbIn_3 p q).2 trivial), tbSz_3]; exact psize_3 n p q w

theorem psize_any_4 (n p q : Int) (hn : 1 ≤ n ∧ n ≤ 16) (w : World) : Calls Tryz.prog 33 #[.int .i64 n, specV 4 p q] w fun e w' => e = .returned (.int .i64 (if tbIn 4 p q then tbSz n 4 p q else -1)) ∧ Below w.heap.size w w' := by
  by_cases h : tbIn 4 p q
  · rw [if_pos h, tbSz_4]
    rw [tbIn_4] at h
    have : p = 1 ∨ p = 2 ∨ p = 3 ∨ p = 4 ∨ p = 5 ∨ p = 6 ∨ p = 7 ∨ p = 8 ∨ p = 9 ∨ p = 10 ∨ p = 11 ∨ p = 12 := by omega
    rcases this with rfl | rfl | rfl | rfl | rfl | rfl | rfl | rfl | rfl | rfl | rfl | rfl
    · exact psize_4_1 n q w
    · exact psize_4_2 n q w
    · exact psize_4_3 n q w
    · exact psize_4_4 n q w
    · exact psize_4_5 n q w
    · exact psize_4_6 n q w
    · exact psize_4_7 n q w
    · exact psize_4_8 n q w
    · exact psize_4_9 n q w
    · exact psize_4_10 n q w
    · exact psize_4_11 n q w
    · exact psize_4_12 n q w
  · rw [if_neg h]
    rw [tbIn_4] at h
    by_cases c0 : 1 ≤ p
    · skip
      exact psize_4_no1 n p q c0 (by omega) w
    · exact psize_4_no0 n p q  c0 w

theorem psize_any_5 (n p q : Int) (hn : 1 ≤ n ∧ n ≤ 16) (w : World) : Calls Tryz.prog 33 #[.int .i64 n, specV 5 p q] w fun e w' => e = .returned (.int .i64 (if tbIn 5 p q then tbSz n 5 p q else -1)) ∧ Below w.heap.size w w' := by
  by_cases h : tbIn 5 p q
  · rw [if_pos h, tbSz_5]
    rw [tbIn_5] at h
    have b1 := mul_bd (a := n) (b := p) (A := 16) (B := 64) (by omega) (by omega)
    have b2 := mul_bd (a := n * p) (b := n + 1) (A := 1024) (B := 17) (by omega) (by omega)
    exact psize_5 n p q (n * p) (n + 1) (n * p * (n + 1)) h.1 h.2 hn rfl b1 rfl (by omega) rfl b2 w
  · rw [if_neg h]
    rw [tbIn_5] at h
    by_cases c0 : 1 ≤ p
    · skip
      exact psize_5_no1 n p q c0 (by omega) w
    · exact psize_5_no0 n p q  c0 w

theorem psize_any_6 (n p q : Int) (hn : 1 ≤ n ∧ n ≤ 16) (w : World) : Calls Tryz.prog 33 #[.int .i64 n, specV 6 p q] w fun e w' => e = .returned (.int .i64 (if tbIn 6 p q then tbSz n 6 p q else -1)) ∧ Below w.heap.size w w' := by
  by_cases h : tbIn 6 p q
  · rw [if_pos h, tbSz_6]
    rw [tbIn_6] at h
    have b1 := mul_bd (a := n) (b := q) (A := 16) (B := 64) (by omega) (by omega)
    have b2 := mul_bd (a := n * q) (b := p + 1) (A := 1024) (B := 17) (by omega) (by omega)
    exact psize_6 n p q (n * q) (p + 1) (n * q * (p + 1)) h.1.1 h.1.2 h.2.1 h.2.2 hn rfl b1 rfl (by omega) rfl b2 w
  · rw [if_neg h]
    rw [tbIn_6] at h
    by_cases c0 : 1 ≤ p
    · skip
      by_cases c1 : p ≤ 16
      · skip
        by_cases c2 : 1 ≤ q
        · skip
          exact psize_6_no3 n p q c0 c1 c2 (by omega) w
        · exact psize_6_no2 n p q c0 c1 c2 w
      · exact psize_6_no1 n p q c0 c1 w
    · exact psize_6_no0 n p q  c0 w

theorem psize_any_7 (n p q : Int) (hn : 1 ≤ n ∧ n ≤ 16) (w : World) : Calls Tryz.prog 33 #[.int .i64 n, specV 7 p q] w fun e w' => e = .returned (.int .i64 (if tbIn 7 p q then tbSz n 7 p q else -1)) ∧ Below w.heap.size w w' := by
  by_cases h : tbIn 7 p q
  · rw [if_pos h, tbSz_7]
    rw [tbIn_7] at h
    exact psize_7 n p q h.2.1 h.2.2 hn h.1 w
  · rw [if_neg h]
    rw [tbIn_7] at h
    by_cases hp : 0 ≤ p ∧ p ≤ 7
    · by_cases c1 : 1 ≤ q
      · exact psize_7_no2 n p q c1 hp (by omega) w
      · exact psize_7_no1 n p q hp c1 w
    · exact psize_7_no0 n p q hp w

theorem psize_any_8 (n p q : Int) (hn : 1 ≤ n ∧ n ≤ 16) (w : World) : Calls Tryz.prog 33 #[.int .i64 n, specV 8 p q] w fun e w' => e = .returned (.int .i64 (if tbIn 8 p q then tbSz n 8 p q else -1)) ∧ Below w.heap.size w w' := by
  by_cases h : tbIn 8 p q
  · rw [if_pos h, tbSz_8]
    rw [tbIn_8] at h
    have b1 := mul_bd (a := n) (b := p) (A := 16) (B := 32) (by omega) (by omega)
    exact psize_8 n p q (n * p) h.1.1 h.1.2 h.2.1 h.2.2 hn rfl b1 w
  · rw [if_neg h]
    rw [tbIn_8] at h
    by_cases c0 : 1 ≤ p
    · skip
      by_cases c1 : p ≤ 32
      · skip
        by_cases c2 : 0 ≤ q
        · skip
          exact psize_8_no3 n p q c0 c1 c2 (by omega) w
        · exact psize_8_no2 n p q c0 c1 c2 w
      · exact psize_8_no1 n p q c0 c1 w
    · exact psize_8_no0 n p q  c0 w

theorem psize_any_9 (n p q : Int) (hn : 1 ≤ n ∧ n ≤ 16) (w : World) : Calls Tryz.prog 33 #[.int .i64 n, specV 9 p q] w fun e w' => e = .returned (.int .i64 (if tbIn 9 p q then tbSz n 9 p q else -1)) ∧ Below w.heap.size w w' := by
  by_cases h : tbIn 9 p q
  · rw [if_pos h, tbSz_9]
    rw [tbIn_9] at h
    have b1 := mul_bd (a := n + 1) (b := p + 1) (A := 17) (B := 9) (by omega) (by omega)
    exact psize_9 n p q (n + 1) (p + 1) ((n + 1) * (p + 1)) h.1 h.2 hn rfl rfl rfl b1 w
  · rw [if_neg h]
    rw [tbIn_9] at h
    by_cases c0 : 1 ≤ p
    · skip
      exact psize_9_no1 n p q c0 (by omega) w
    · exact psize_9_no0 n p q  c0 w

theorem tbSz_ge {n k p q : Int} (hn : 1 ≤ n ∧ n ≤ 16) (hk : 0 ≤ k ∧ k ≤ 9) (h : tbIn k p q) : 1 ≤ tbSz n k p q ∧ tbSz n k p q ≤ 20000 := by
  rcases tb_nine hk with rfl | rfl | rfl | rfl | rfl | rfl | rfl | rfl | rfl | rfl
  · rw [tbSz_0]; rw [tbIn_0] at h
    omega
  · rw [tbSz_1]; rw [tbIn_1] at h
    omega
  · rw [tbSz_2]; rw [tbIn_2] at h
    omega
  · rw [tbSz_3]; rw [tbIn_3] at h
    omega
  · rw [tbSz_4]; rw [tbIn_4] at h
    have : p = 1 ∨ p = 2 ∨ p = 3 ∨ p = 4 ∨ p = 5 ∨ p = 6 ∨ p = 7 ∨ p = 8 ∨ p = 9 ∨ p = 10 ∨ p = 11 ∨ p = 12 := by omega
    rcases this with rfl | rfl | rfl | rfl | rfl | rfl | rfl | rfl | rfl | rfl | rfl | rfl <;> decide
  · rw [tbSz_5]; rw [tbIn_5] at h
    have b1 := mul_bd (a := n) (b := p) (A := 16) (B := 64) (by omega) (by omega)
    have b2 := mul_bd (a := n * p) (b := n + 1) (A := 1024) (B := 17) (by omega) (by omega)
    omega
  · rw [tbSz_6]; rw [tbIn_6] at h
    have b1 := mul_bd (a := n) (b := q) (A := 16) (B := 64) (by omega) (by omega)
    have b2 := mul_bd (a := n * q) (b := p + 1) (A := 1024) (B := 17) (by omega) (by omega)
    omega
  · rw [tbSz_7]; rw [tbIn_7] at h
    omega
  · rw [tbSz_8]; rw [tbIn_8] at h
    have b1 := mul_bd (a := n) (b := p) (A := 16) (B := 32) (by omega) (by omega)
    omega
  · rw [tbSz_9]; rw [tbIn_9] at h
    have b1 := mul_bd (a := n + 1) (b := p + 1) (A := 17) (B := 9) (by omega) (by omega)
    omega

set_option maxHeartbeats 1000000 in
theorem rsize_far (n k p q : Int) (hn : ¬ (1 ≤ n ∧ n ≤ 16)) (w : World) : Calls Tryz.prog 31 #[.int .i64 n, specV k p q] w fun e w' => e = .returned (.tuple #[.int .i64 0, .int .i64 1]) ∧ Below w.heap.size w w' := by
  unfold specV
  by_cases h : n < 1
  · have d : decide (n < 1) = true := decide_eq_true h
    clear hn
    go_enter Tryz.func31, Tryz.ntmps31
    go_wp2_with fail
    go_ret2
    exact ⟨rfl, (Below.refl _ _).alloc (Nat.le_refl _) _⟩
  · have d : decide (n < 1) = false := decide_eq_false h
    have d2 : decide (16 < n) = true := decide_eq_true (by omega)
    clear hn
    go_enter Tryz.func31, Tryz.ntmps31
    go_wp2_with fail
    go_ret2
    exact ⟨rfl, (Below.refl _ _).alloc (Nat.le_refl _) _⟩
set_option maxHeartbeats 1000000 in
theorem rsize_none (n k p q : Int) (hn : 1 ≤ n ∧ n ≤ 16) (hk : ¬ (0 ≤ k ∧ k ≤ 9)) (w : World) : Calls Tryz.prog 31 #[.int .i64 n, specV k p q] w fun e w' => e = .returned (.tuple #[.int .i64 0, .int .i64 9]) ∧ Below w.heap.size w w' := by
  unfold specV
  have d : decide (n < 1) = false := decide_eq_false (by omega)
  have d2 : decide (16 < n) = false := decide_eq_false (by omega)
  by_cases h : k < 0
  · have d3 : decide (k < 0) = true := decide_eq_true h
    clear hn hk
    go_enter Tryz.func31, Tryz.ntmps31
    go_wp2_with fail
    go_ret2
    exact ⟨rfl, (Below.refl _ _).alloc (Nat.le_refl _) _⟩
  · have d3 : decide (k < 0) = false := decide_eq_false h
    have d4 : decide (9 < k) = true := decide_eq_true (by omega)
    clear hn hk
    go_enter Tryz.func31, Tryz.ntmps31
    go_wp2_with fail
    go_ret2
    exact ⟨rfl, (Below.refl _ _).alloc (Nat.le_refl _) _⟩
set_option maxHeartbeats 1000000 in
theorem rsize_in (n k p q s : Int) (hn : 1 ≤ n ∧ n ≤ 16) (hk : 0 ≤ k ∧ k ≤ 9) (hs : 0 ≤ s) (hS : ∀ w, Calls Tryz.prog 33 #[.int .i64 n, specV k p q] w fun e w' => e = .returned (.int .i64 s) ∧ Below w.heap.size w w') (w : World) :
    Calls Tryz.prog 31 #[.int .i64 n, specV k p q] w fun e w' => e = .returned (.tuple #[.int .i64 s, .int .i64 0]) ∧ Below w.heap.size w w' := by
  have HS := Lib.hid hS
  clear hS
  unfold specV at *
  have d : decide (n < 1) = false := decide_eq_false (by omega)
  have d2 : decide (16 < n) = false := decide_eq_false (by omega)
  have d3 : decide (k < 0) = false := decide_eq_false (by omega)
  have d4 : decide (9 < k) = false := decide_eq_false (by omega)
  have d5 : ¬ s < 0 := by omega
  clear hn hk
  go_enter Tryz.func31, Tryz.ntmps31
  go_wp2_with (go_at_call 33; refine (HS.out _).mono ?_; rintro e w5 ⟨rfl, hb⟩; (have HB := Lib.hid hb); clear hb)
  go_ret2
  exact ⟨rfl, ((Below.refl _ _).alloc (Nat.le_refl _) _).trans (HB.out.mono (by simp))⟩
set_option maxHeartbeats 1000000 in
theorem rsize_out (n k p q : Int) (hn : 1 ≤ n ∧ n ≤ 16) (hk : 0 ≤ k ∧ k ≤ 9) (hS : ∀ w, Calls Tryz.prog 33 #[.int .i64 n, specV k p q] w fun e w' => e = .returned (.int .i64 (-1)) ∧ Below w.heap.size w w') (w : World) :
    Calls Tryz.prog 31 #[.int .i64 n, specV k p q] w fun e w' => e = .returned (.tuple #[.int .i64 0, .int .i64 10]) ∧ Below w.heap.size w w' := by
  have HS := Lib.hid hS
  clear hS
  unfold specV at *
  have d : decide (n < 1) = false := decide_eq_false (by omega)
  have d2 : decide (16 < n) = false := decide_eq_false (by omega)
  have d3 : decide (k < 0) = false := decide_eq_false (by omega)
  have d4 : decide (9 < k) = false := decide_eq_false (by omega)
  clear hn hk
  go_enter Tryz.func31, Tryz.ntmps31
  go_wp2_with (go_at_call 33; refine (HS.out _).mono ?_; rintro e w5 ⟨rfl, hb⟩; (have HB := Lib.hid hb); clear hb)
  go_ret2
  exact ⟨rfl, ((Below.refl _ _).alloc (Nat.le_refl _) _).trans (HB.out.mono (by simp))⟩
theorem psize_any (n k p q : Int) (hn : 1 ≤ n ∧ n ≤ 16) (hk : 0 ≤ k ∧ k ≤ 9) (w : World) : Calls Tryz.prog 33 #[.int .i64 n, specV k p q] w fun e w' => e = .returned (.int .i64 (if tbIn k p q then tbSz n k p q else -1)) ∧ Below w.heap.size w w' := by
  rcases tb_nine hk with rfl | rfl | rfl | rfl | rfl | rfl | rfl | rfl | rfl | rfl
  · exact psize_any_0 n p q hn w
  · exact psize_any_1 n p q hn w
  · exact psize_any_2 n p q hn w
  · exact psize_any_3 n p q hn w
  · exact psize_any_4 n p q hn w
  · exact psize_any_5 n p q hn w
  · exact psize_any_6 n p q hn w
  · exact psize_any_7 n p q hn w
  · exact psize_any_8 n p q hn w
  · exact psize_any_9 n p q hn w
/-- the reference's Size -/
theorem rsize_any (n k p q : Int) (w : World) : Calls Tryz.prog 31 #[.int .i64 n, specV k p q] w fun e w' => e = .returned (.tuple #[.int .i64 (tbN n k p q), .int .i64 (tbErr n k p q)]) ∧ Below w.heap.size w w' := by
  by_cases hn : 1 ≤ n ∧ n ≤ 16
  · by_cases hk : 0 ≤ k ∧ k ≤ 9
    · by_cases h : tbIn k p q
      · obtain ⟨e1, e2⟩ := tbErr_in (n := n) hn hk h
        rw [e1, e2]
        exact rsize_in n k p q _ hn hk (by have := tbSz_ge hn hk h; omega) (fun w => by have := psize_any n k p q hn hk w; rw [if_pos h] at this; exact this) w
      · obtain ⟨e1, e2⟩ := tbErr_out (n := n) hn hk h
        rw [e1, e2]
        exact rsize_out n k p q hn hk (fun w => by have := psize_any n k p q hn hk w; rw [if_neg h] at this; exact this) w
    · obtain ⟨e1, e2⟩ := tbErr_none (n := n) p q hn hk
      rw [e1, e2]; exact rsize_none n k p q hn hk w
  · obtain ⟨e1, e2⟩ := tbErr_far (n := n) k p q hn
    rw [e1, e2]; exact rsize_far n k p q hn w
end
section
set_option maxRecDepth 100000
open Go.ChangeShapes Go.WideShapes Go.ChangeAt Go.RowKit
set_option linter.unusedVariables false
set_option linter.unusedSimpArgs false

theorem infoI : (Tryz.prog.info? 3).map (fun i => (i.zero, i.size, i.bytes)) = some (some (.int .i64 0), 1, 8) := by kernel_rfl
/-- what Lay gives -/
def LayPost (l : List Int) (w : World) (e : Ending) (w' : World) : Prop :=
  ∃ v, (wrongGo l 0 = 0 → e = .returned (.tuple #[v, .int .i64 (beg l l.length), .int .i64 0]) ∧ w'.ownsRow w.heap.size 3 1 v l.length (bgs l l.length)) ∧
    (wrongGo l 0 ≠ 0 → e = .returned (.tuple #[.slice none 0 0, .int .i64 0, .int .i64 (wrongGo l 0 : Nat)])) ∧ Below w.heap.size w w'

set_option maxHeartbeats 400000 in
theorem lay_any (ao : Option Addr) (b o c : Nat) (l : List Int) (w : World) (hl : l.length ≤ 4294967296) (ha : 0 < l.length → ao = some ⟨b, o, none⟩) (hb : 0 < l.length → b < w.heap.size) (hc : ICells w b o l) :
    Calls Tryz.prog 87 #[.slice ao l.length c] w (LayPost l w) := by
  obtain ⟨iI, ia, ib, ic, id⟩ := info_parts infoI
  have HC := Lib.hid hc
  have HA := Lib.hid ha
  have HB := Lib.hid hb
  clear hc ha hb
  go_enter Tryz.func87, Tryz.ntmps87
  go_wp2
  go_loopw [5, 6, 11] (fun v x k wr => ∃ (j : Nat), j ≤ l.length ∧ 0 ≤ beg l j ∧ beg l j ≤ 65536 ∧ k = .int .i64 j ∧ x = .int .i64 (beg l j) ∧ Hid (wrongGo (l.drop j) (beg l j) = wrongGo l 0) ∧
     wr.ownsRow w.heap.size 3 1 v j (bgs l j) ∧ Below w.heap.size w wr) (fun _ _ k _ => l.length - (intOf k).toNat)
  case atStart => exact ⟨0, Nat.zero_le _, by rw [beg_zero]; omega, by rw [beg_zero]; omega, rfl, rfl, Lib.hid rfl, World.ownsRow_nil _ _ _ _, Below.refl _ _⟩
  case round =>
    obtain ⟨j, hj, he0, he1, rfl, rfl, hp, hown, hbl⟩ := hrel
    have hsz := hbl.size
    by_cases hlt : j < l.length
    · obtain rfl := HA.out (by omega)
      obtain ⟨s, hx⟩ : ∃ x, l[j]? = some x := ⟨l[j], List.getElem?_eq_getElem (by omega)⟩
      obtain ⟨c1, hs⟩ := HC.out.stays hbl HB.out j _ hx
      have hd := Lib.hid (drop_cons hx)
      have hsc := Lib.hid (beg_succ hx)
      clear hx
      by_cases h1 : s < 0
      · have hres : Hid (wrongGo l 0 = 1) := Lib.hid (by rw [← hp.out, hd.out]; exact wrongGo_arg h1)
        go_wp2
        go_ret3
        exact ⟨.slice none 0 0, fun h => absurd (hres.out.symm.trans h) (by decide), fun _ => by rw [hres.out]; rfl, hbl⟩
      · by_cases h2 : 65536 - beg l j < s
        · have hres : Hid (wrongGo l 0 = 3) := Lib.hid (by rw [← hp.out, hd.out]; exact wrongGo_long (by omega) h2)
          go_wp2
          go_ret3
          exact ⟨.slice none 0 0, fun h => absurd (hres.out.symm.trans h) (by decide), fun _ => by rw [hres.out]; rfl, hbl⟩
        · have hN : Hid (wrongGo (l.drop (j + 1)) (beg l (j + 1)) = wrongGo l 0) := Lib.hid (by rw [← hp.out, hd.out, wrongGo_next (by omega) (by omega), hsc.out])
          have hj' : j ≤ 4294967296 := by omega
          have e1 : 0 ≤ beg l (j + 1) ∧ beg l (j + 1) ≤ 65536 := by rw [hsc.out]; omega
          go_wp2_with (at_builtin; refine append_new rfl _ _ 24 rfl w.heap.size 3 iI (.int .i64 0) 1 8 Tryz.underlying24 ia ib ic id rfl (by decide) (by decide) _ j _ rfl hown [.int .i64 (beg l j)] rfl rfl rfl hj' hsz ?_)
          intro v1 w1 hown1 hbl1 _ _
          have hown1' : w1.ownsRow w.heap.size 3 1 v1 (j + 1) (bgs l (j + 1)) := by rw [bgs_succ]; exact hown1
          have hb2 := hbl.trans hbl1
          clear hown1 hown hbl hbl1 c1
          go_wp2
          go_roundw
          case rel => exact ⟨j + 1, by omega, e1.1, e1.2, by go_num, by rw [hsc.out], hN, hown1', hb2⟩
          case measure => simp [intOf]; omega
    · have : j = l.length := by omega
      subst this
      have hres : Hid (wrongGo l 0 = 0) := Lib.hid (by rw [← hp.out, List.drop_length]; rfl)
      go_wp2
      go_ret3
      exact ⟨_, fun _ => ⟨rfl, hown⟩, fun h => absurd hres.out h, hbl⟩

structure SpecL where
  k : Int
  p : Int
  q : Int
/-- specs lie in a row -/
def SpecsAt (w : World) (b o : Nat) (l : List SpecL) : Prop :=
  ∀ (i : Nat) (x : SpecL), l[i]? = some x → w.cell? ⟨b, o + i * 3, none⟩ = some (.int .i64 x.k) ∧ w.cell? ⟨b, o + i * 3 + 1, none⟩ = some (.int .i64 x.p) ∧ w.cell? ⟨b, o + i * 3 + 2, none⟩ = some (.int .i64 x.q)
theorem SpecsAt.stays {w wr : World} {b o B : Nat} {l : List SpecL} (h : SpecsAt w b o l) (hb : Below B w wr) (hB : 0 < l.length → b < B) : SpecsAt wr b o l := by
  intro i x hx
  have hl : 0 < l.length := by have := (List.getElem?_eq_some_iff.1 hx).1; omega
  obtain ⟨h1, h2, h3⟩ := h i x hx
  exact ⟨(hb.cell (p := ⟨b, _, none⟩) (hB hl)).trans h1, (hb.cell (p := ⟨b, _, none⟩) (hB hl)).trans h2, (hb.cell (p := ⟨b, _, none⟩) (hB hl)).trans h3⟩
def szs (n : Int) (l : List SpecL) : List Int := l.map fun x => tbN n x.k x.p x.q
def szV (n : Int) (l : List SpecL) (j : Nat) : List Value := ((szs n l).take j).map (Value.int .i64)
theorem szV_succ {n : Int} {l : List SpecL} {j : Nat} {x : SpecL} (h : l[j]? = some x) : szV n l (j + 1) = szV n l j ++ [.int .i64 (tbN n x.k x.p x.q)] := by
  unfold szV
  have : (szs n l)[j]? = some (tbN n x.k x.p x.q) := by unfold szs; rw [List.getElem?_map, h]; rfl
  rw [take_snoc this, List.map_append]; rfl

set_option maxRecDepth 100000 in
set_option maxHeartbeats 1000000 in
theorem sizesOf_ok (n : Int) (ao : Option Addr) (b o c : Nat) (l : List SpecL) (w : World) (hn : 1 ≤ n ∧ n ≤ 16) (hl : l.length ≤ 8) (ha : 0 < l.length → ao = some ⟨b, o, none⟩) (hb : 0 < l.length → b < w.heap.size) (hc : SpecsAt w b o l) (hok : ∀ x ∈ l, tbErr n x.k x.p x.q = 0) :
    Calls Tryz.prog 86 #[.int .i64 n, .slice ao l.length c] w fun e w' => ∃ v, e = .returned (.tuple #[v, .int .i64 0]) ∧ w'.ownsRow w.heap.size 3 1 v l.length (szV n l l.length) ∧ Below w.heap.size w w' := by
  obtain ⟨iI, ia, ib, ic, id⟩ := info_parts infoI
  have HC := Lib.hid hc
  have HA := Lib.hid ha
  have HB := Lib.hid hb
  have HK := Lib.hid hok
  have HP : Hid (∀ W, Calls Tryz.prog 107 #[.int .i64 n] W fun e w' => e = .returned (.bool true) ∧ W = w') := Lib.hid (fun W => by have := canPlay_any n W; rw [decide_eq_true hn] at this; exact this)
  clear hc ha hb hok hn
  go_enter Tryz.func86, Tryz.ntmps86
  go_wp2_with (go_at_call 107; refine (HP.out _).mono ?_; rintro e w4 ⟨rfl, rfl⟩)
  go_loopw [6, 19] (fun v k wr => ∃ (j : Nat), j ≤ l.length ∧ k = .int .i64 j ∧ wr.ownsRow w.heap.size 3 1 v j (szV n l j) ∧ Below w.heap.size w wr) (fun _ k _ => l.length - (intOf k).toNat)
  case atStart => exact ⟨0, Nat.zero_le _, rfl, World.ownsRow_nil _ _ _ _, Below.refl _ _⟩
  case round =>
    obtain ⟨j, hj, rfl, hown, hbl⟩ := hrel
    have hsz := hbl.size
    by_cases hlt : j < l.length
    · obtain rfl := HA.out (by omega)
      obtain ⟨x, hx⟩ : ∃ x, l[j]? = some x := ⟨l[j], List.getElem?_eq_getElem (by omega)⟩
      obtain ⟨c0, c1, c2⟩ := HC.out.stays hbl HB.out j _ hx
      obtain ⟨s, hs⟩ : ∃ s, tbN n x.k x.p x.q = s := ⟨_, rfl⟩
      have HS : Hid (∀ w, Calls Tryz.prog 88 #[.int .i64 n, specV x.k x.p x.q] w fun e w' => e = .returned (.tuple #[.int .i64 s, .int .i64 0]) ∧ Below w.heap.size w w') := Lib.hid (fun w => by have := size_any n x.k x.p x.q w; rw [HK.out x (List.mem_of_getElem? hx), hs] at this; exact this)
      have HV : Hid (szV n l (j + 1) = szV n l j ++ [.int .i64 s]) := Lib.hid (by rw [← hs]; exact szV_succ hx)
      clear hx hs
      unfold specV at HS
      go_wp2_with (first
        | (go_at_call 88; refine (HS.out _).mono ?_; rintro e w5 ⟨rfl, hb5⟩; (have hown5 := owns_below (hown.alloc _) hb5); (have hbl5 := (hbl.alloc hsz _).trans (hb5.mono (by simp; omega))); (have hsz5 := hbl5.size); clear hb5)
        | (at_builtin; refine append_new rfl _ _ 24 rfl w.heap.size 3 iI (.int .i64 0) 1 8 Tryz.underlying24 ia ib ic id rfl (by decide) (by decide) _ j _ rfl hown5 [.int .i64 s] rfl rfl rfl (by omega) hsz5 ?_; intro v1 w1 hown1 hbl1 _ _; (have hown1' : Hid (w1.ownsRow w.heap.size 3 1 v1 (j + 1) (szV n l (j + 1))) := Lib.hid (by rw [HV.out]; exact hown1)); (have hb2 := Lib.hid (hbl5.trans hbl1)); clear hown1 hown hown5 hbl hbl1 hbl5 c0 c1 c2))
      go_roundw
      case rel => exact ⟨j + 1, by omega, by go_num, hown1'.out, hb2.out⟩
      case measure => simp [intOf]; omega
    · have : j = l.length := by omega
      subst this
      go_wp2
      go_ret2
      exact ⟨_, rfl, hown, hbl⟩

theorem two_cells {w : World} {g : Nat} (h4 : ∀ (i : Nat) (u : Value), [Value.int .i64 2, Value.int .i64 16][i]? = some u → w.cell? ⟨g, i, none⟩ = some u) : ICells w g 0 [2, 16] := by
  intro i x hx
  match i, hx with
  | 0, hx => cases hx; exact ⟨h4 0 _ rfl, by omega⟩
  | 1, hx => cases hx; exact ⟨h4 1 _ rfl, by omega⟩
def pairO : Obj := .cells #[.int .i64 2, .int .i64 0, .int .i64 0, .int .i64 8, .int .i64 1, .int .i64 0] 63
def PairP (w : World) (e : Ending) (w' : World) : Prop := ∃ g cap, e = .returned (.tuple #[.slice (some ⟨g, 0, none⟩) 2 cap, .int .i64 18, .int .i64 0]) ∧ w'.cell? ⟨g, 0, none⟩ = some (.int .i64 0) ∧ w'.cell? ⟨g, 1, none⟩ = some (.int .i64 2) ∧ Below w.heap.size w w'
set_option maxRecDepth 100000 in
set_option maxHeartbeats 1000000 in
theorem lay_pair (b c : Nat) (w : World) (h : w.heap[b]? = some pairO) : Calls Tryz.prog 52 #[.int .i64 2, .slice (some ⟨b, 0, none⟩) 2 c] w (PairP w) := by
  have hlt := blk_lt h
  have HSp : SpecsAt w b 0 [⟨2, 0, 0⟩, ⟨8, 1, 0⟩] := by
    intro i x hx
    match i, hx with
    | 0, hx => cases hx; exact ⟨cell_of_blkT h rfl, cell_of_blkT h rfl, cell_of_blkT h rfl⟩
    | 1, hx => cases hx; exact ⟨cell_of_blkT h rfl, cell_of_blkT h rfl, cell_of_blkT h rfl⟩
  have HZ := Lib.hid (sizesOf_ok 2 _ b 0 c [⟨2, 0, 0⟩, ⟨8, 1, 0⟩] w (by omega) (by decide) (fun _ => rfl) (fun _ => hlt) HSp (by decide))
  have e1 : szV 2 [⟨2, 0, 0⟩, ⟨8, 1, 0⟩] 2 = [.int .i64 2, .int .i64 16] := by rfl
  simp only [List.length_cons, List.length_nil, Nat.zero_add, Nat.reduceAdd, e1] at HZ
  clear HSp h
  go_enter Tryz.func52, Tryz.ntmps52
  go_wp2_with (first
    | (go_at_call 86; refine HZ.out.mono ?_; rintro e w5 ⟨v, rfl, hown, hb5⟩; (obtain ⟨ao, g, cap, rfl, h1, h2, h3, h4⟩ := owns_open hown); (obtain rfl := h1 (by decide)); (have HI : ICells w5 g 0 [2, 16] := two_cells h4); (have HL := Lib.hid (lay_any _ g 0 cap [2, 16] w5 (by decide) (fun _ => rfl) (fun _ => h3 (by decide)) HI)); (have HB5 := Lib.hid hb5); clear hown h1 h2 h3 h4 HI hb5)
    | (go_at_call 87; refine HL.out.mono ?_; rintro e w6 ⟨v6, hy, _, hb6⟩; (obtain ⟨rfl, hown6⟩ := hy (by decide)); (obtain ⟨ao, g6, cap6, rfl, h1, h2, h3, h4⟩ := owns_open hown6); (obtain rfl := h1 (by decide)); (have HC0 := Lib.hid (h4 0 _ rfl)); (have HC1 := Lib.hid (h4 1 _ rfl)); (have HB6 := Lib.hid hb6); clear hy hown6 h1 h2 h3 h4 hb6))
  go_ret3
  exact ⟨g6, cap6, rfl, HC0.out, HC1.out, HB5.out.trans (HB6.out.mono HB5.out.size)⟩

end
section
set_option maxRecDepth 100000
open Go.ChangeShapes Go.WideShapes Go.ChangeAt Go.RowKit

set_option maxRecDepth 100000 in
theorem spec_val {H : Type} {enc : TypeId × Value → H} {w : World} {base : Nat} {spare : Nat → Bool} {held : Bool} {r : Reach} {b0 : Nat} {v : Value} {d : DataW H} {ps : List MemPlace}
    (hv : Value.okWide Tryz.prog w r b0 63 v) (h : DataW.Trod enc Tryz.prog w base spare held 63 v d ps) :
    ∃ k p q : Int, v = specV k p q := by
  simp only [Value.okWide, Tryz.underlying63] at hv
  obtain ⟨cs, rfl, hcs, _⟩ := hv
  obtain ⟨fuel, h⟩ := h
  have h3 : Tryz.prog.cellsOf 63 = 3 := by kernel_rfl
  obtain ⟨c⟩ := cs
  rw [h3] at hcs
  match c, hcs with
  | [c0, c1, c2], _ =>
    simp only [Value.cells] at h
    obtain ⟨k, e0, _⟩ := field_cell Tryz.underlying63 h (i := 0) (o := 0) rfl rfl (by kernel_rfl) Tryz.underlying3
    obtain ⟨p, e1, _⟩ := field_cell Tryz.underlying63 h (i := 1) (o := 1) rfl rfl (by kernel_rfl) Tryz.underlying3
    obtain ⟨q, e2, _⟩ := field_cell Tryz.underlying63 h (i := 2) (o := 2) rfl rfl (by kernel_rfl) Tryz.underlying3
    simp at e0 e1 e2
    subst e0 e1 e2
    exact ⟨k, p, q, rfl⟩


set_option maxRecDepth 100000 in
theorem slice_specs {H : Type} {enc : TypeId × Value → H} {w : World} {base : Nat} {spare : Nat → Bool} {held : Bool} {fuel : Nat} {ao : Option Addr} {n cap : Nat} {x : DataW H × List MemPlace}
    (h : DataW.trod enc Tryz.prog w base spare held fuel 22 [.slice ao n cap] = some x) :
    ∃ (b off : Nat) (l : List SpecL), n = l.length ∧ l.length ≤ maxLen ∧ (0 < l.length → ao = some ⟨b, off, none⟩) ∧ (0 < l.length → b < w.heap.size) ∧ SpecsAt w b off l := by
  obtain ⟨ao', b, off, len, cap', hcs, hl, ha, hi⟩ := slice_cells Tryz.underlying22 (sz := 3) (by kernel_rfl) (by omega) h
  simp only [List.cons.injEq, Value.slice.injEq, and_true] at hcs
  obtain ⟨rfl, rfl, rfl⟩ := hcs
  have := list_of (n := n) (Q := fun i (x : SpecL) => w.cell? ⟨b, off + i * 3, none⟩ = some (.int .i64 x.k) ∧ w.cell? ⟨b, off + i * 3 + 1, none⟩ = some (.int .i64 x.p) ∧ w.cell? ⟨b, off + i * 3 + 2, none⟩ = some (.int .i64 x.q)) (fun i hil => by
    obtain ⟨cs', y, n', hcl, htr, hat⟩ := hi i hil
    obtain ⟨k, h0, _⟩ := field_cell Tryz.underlying63 htr (i := 0) (o := 0) rfl rfl (by kernel_rfl) Tryz.underlying3
    obtain ⟨p, h1, _⟩ := field_cell Tryz.underlying63 htr (i := 1) (o := 1) rfl rfl (by kernel_rfl) Tryz.underlying3
    obtain ⟨q, h2, _⟩ := field_cell Tryz.underlying63 htr (i := 2) (o := 2) rfl rfl (by kernel_rfl) Tryz.underlying3
    exact ⟨⟨k, p, q⟩, (hat 0 (by omega)).trans h0, (hat 1 (by omega)).trans h1, (hat 2 (by omega)).trans h2⟩)
  obtain ⟨l, rfl, hq⟩ := this
  exact ⟨b, off, l, rfl, hl, fun h => (ha h).1, fun h => (ha h).2, hq⟩
end
end Go.Proofs.YtjjleghalajidaaGreat.Tb
