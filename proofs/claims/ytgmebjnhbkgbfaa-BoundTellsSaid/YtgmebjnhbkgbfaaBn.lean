/- BoundTells and BoundRises: their walks. -/
import Derived.Test.YtgmebjnhbkgbfaaBo
namespace Go.Proofs.Ytgmebjnhbkgbfaa
open Go.ChangeShapes Go.WideShapes Go.ChangeAt Go.RowKit
set_option linter.unusedVariables false
set_option linter.unusedSimpArgs false

theorem tb_same {n k p q d : Int} (hk : 0 ≤ k ∧ k ≤ 9) (hd : 2 ≤ d) (hd2 : d < tbKn k p) : tbF n k p q = tbG n k p q := by
  rcases tb_nine hk with rfl | rfl | rfl | rfl | rfl | rfl | rfl | rfl | rfl | rfl
  · rfl
  · exact absurd (show d < 2 from hd2) (by omega)
  · exact absurd (show d < 2 from hd2) (by omega)
  · rfl
  · exact absurd (show d < 2 from hd2) (by omega)
  · exact absurd (show d < 2 from hd2) (by omega)
  · exact absurd (show d < 2 from hd2) (by omega)
  · rfl
  · exact absurd (show d < 2 from hd2) (by omega)
  · exact absurd (show d < 2 from hd2) (by omega)

theorem tbM_err {n k p q : Int} (d : Int) (h : tbErr n k p q ≠ 0) : tbM n k p q d = (0, tbErr n k p q) := by unfold tbM; rw [if_pos h]
theorem tbM_kind {n k p q d : Int} (h : tbErr n k p q = 0) (hd : ¬ (0 ≤ d ∧ d < tbKn k p)) : tbM n k p q d = (0, 9) := by unfold tbM; rw [if_neg (by omega), if_pos hd]
theorem tbM_ok {n k p q d : Int} (h : tbErr n k p q = 0) (hd : 0 ≤ d ∧ d < tbKn k p) : tbM n k p q d = (if d = 1 then tbG n k p q else tbF n k p q, 0) := by
  unfold tbM; rw [if_neg (by omega), if_neg (by omega)]
  by_cases h0 : d = 0
  · rw [if_pos h0, if_neg (by omega)]
  · rw [if_neg h0]
    by_cases h1 : d = 1
    · rw [if_pos h1]
    · rw [if_neg h1, tb_same (tbErr_zero h).2.1 (by omega) hd.2]

set_option maxRecDepth 100000 in
set_option maxHeartbeats 1000000 in
theorem tells_err (n k p q d : Int) (he : tbErr n k p q ≠ 0) (w : World) : Calls Try.prog 4 #[.int .i64 n, specV k p q, .int .i64 d] w fun e w' => e = .returned (.bool true) ∧ Below w.heap.size w w' := by
  have HC0 := Lib.hid (SpCtx.init w k p q)
  obtain ⟨s, hs⟩ : ∃ s, tbN n k p q = s := ⟨_, rfl⟩
  have HR := Lib.hid (fun w => rsize_any n k p q w)
  rw [hs] at HR
  have HM := Lib.hid (fun w => most_any n k p q d w)
  rw [tbM_err d he] at HM
  obtain ⟨er, her⟩ : ∃ er, tbErr n k p q = er := ⟨_, rfl⟩
  rw [her] at HR HM he
  clear hs her
  unfold specV specO at *
  go_enter Try.func4, Try.ntmps4
  go_wp2_with (first
    | (go_at_call 12; refine (HM.out _).mono ?_; rintro e w1 ⟨rfl, hb⟩; (have HC1 := Lib.hid (HC0.out.next hb)); (obtain ⟨b0, b1, b2⟩ := HC1.out.cells); clear hb)
    | (go_at_call 8; refine (HR.out _).mono ?_; rintro e w2 ⟨rfl, hb⟩; (have HC2 := Lib.hid (HC1.out.next hb)); clear b0 b1 b2; (obtain ⟨b0, b1, b2⟩ := HC2.out.cells); clear hb)
    | (go_at_call 13; refine (known_any _).mono ?_; rintro e w9 ⟨rfl, hb⟩; (have HC9 := Lib.hid (HC2.out.next hb)); clear hb))
  go_ret
  exact ⟨rfl, HC9.out.bel⟩

set_option maxRecDepth 100000 in
set_option maxHeartbeats 1000000 in
theorem tells_low (n k p q d : Int) (he : tbErr n k p q = 0) (hd : d < 0) (w : World) : Calls Try.prog 4 #[.int .i64 n, specV k p q, .int .i64 d] w fun e w' => e = .returned (.bool true) ∧ Below w.heap.size w w' := by
  have HC0 := Lib.hid (SpCtx.init w k p q)
  obtain ⟨s, hs⟩ : ∃ s, tbN n k p q = s := ⟨_, rfl⟩
  have HR := Lib.hid (fun w => rsize_any n k p q w)
  rw [hs] at HR
  have HM := Lib.hid (fun w => most_any n k p q d w)
  rw [tbM_kind he (by omega)] at HM
  rw [he] at HR
  have d1 : decide (d < 0) = true := decide_eq_true hd
  clear hs he
  unfold specV specO at *
  go_enter Try.func4, Try.ntmps4
  go_wp2_with (first
    | (go_at_call 12; refine (HM.out _).mono ?_; rintro e w1 ⟨rfl, hb⟩; (have HC1 := Lib.hid (HC0.out.next hb)); (obtain ⟨b0, b1, b2⟩ := HC1.out.cells); clear hb)
    | (go_at_call 8; refine (HR.out _).mono ?_; rintro e w2 ⟨rfl, hb⟩; (have HC2 := Lib.hid (HC1.out.next hb)); clear b0 b1 b2; (obtain ⟨b0, b1, b2⟩ := HC2.out.cells); clear hb)
    | (go_at_call 13; refine (known_any _).mono ?_; rintro e w9 ⟨rfl, hb⟩; (have HC9 := Lib.hid (HC2.out.next hb)); clear hb))
  go_ret
  exact ⟨rfl, HC9.out.bel⟩

set_option maxRecDepth 100000 in
set_option maxHeartbeats 1000000 in
theorem tells_high (n k p q d : Int) (he : tbErr n k p q = 0) (hd : 0 ≤ d) (hd2 : tbKn k p ≤ d) (w : World) : Calls Try.prog 4 #[.int .i64 n, specV k p q, .int .i64 d] w fun e w' => e = .returned (.bool true) ∧ Below w.heap.size w w' := by
  have HC0 := Lib.hid (SpCtx.init w k p q)
  obtain ⟨s, hs⟩ : ∃ s, tbN n k p q = s := ⟨_, rfl⟩
  have HR := Lib.hid (fun w => rsize_any n k p q w)
  rw [hs] at HR
  have HM := Lib.hid (fun w => most_any n k p q d w)
  rw [tbM_kind he (by omega)] at HM
  rw [he] at HR
  obtain ⟨kn, hkn⟩ : ∃ kn, tbKn k p = kn := ⟨_, rfl⟩
  have HK := Lib.hid (fun w => rkinds_any k p q w)
  rw [hkn] at HK hd2
  have d1 : decide (d < 0) = false := decide_eq_false (by omega)
  have d2 : decide (kn ≤ d) = true := decide_eq_true hd2
  clear hs he hkn
  unfold specV specO at *
  go_enter Try.func4, Try.ntmps4
  go_wp2_with (first
    | (go_at_call 12; refine (HM.out _).mono ?_; rintro e w1 ⟨rfl, hb⟩; (have HC1 := Lib.hid (HC0.out.next hb)); (obtain ⟨b0, b1, b2⟩ := HC1.out.cells); clear hb)
    | (go_at_call 8; refine (HR.out _).mono ?_; rintro e w2 ⟨rfl, hb⟩; (have HC2 := Lib.hid (HC1.out.next hb)); clear b0 b1 b2; (obtain ⟨b0, b1, b2⟩ := HC2.out.cells); clear hb)
    | (go_at_call 10; refine (HK.out _).mono ?_; rintro e w3 ⟨rfl, hb⟩; (have HC3 := Lib.hid (HC2.out.next hb)); clear b0 b1 b2; (obtain ⟨b0, b1, b2⟩ := HC3.out.cells); clear hb)
    | (go_at_call 13; refine (known_any _).mono ?_; rintro e w9 ⟨rfl, hb⟩; (have HC9 := Lib.hid (HC3.out.next hb)); clear hb))
  go_ret
  exact ⟨rfl, HC9.out.bel⟩

set_option maxRecDepth 100000 in
set_option maxHeartbeats 1000000 in
theorem tells_ok (n k p q d : Int) (he : tbErr n k p q = 0) (hd : 0 ≤ d) (hd2 : d < tbKn k p) (w : World) : Calls Try.prog 4 #[.int .i64 n, specV k p q, .int .i64 d] w fun e w' => e = .returned (.bool true) ∧ Below w.heap.size w w' := by
  have HC0 := Lib.hid (SpCtx.init w k p q)
  obtain ⟨s, hs⟩ : ∃ s, tbN n k p q = s := ⟨_, rfl⟩
  have HR := Lib.hid (fun w => rsize_any n k p q w)
  rw [hs] at HR
  have HM := Lib.hid (fun w => most_any n k p q d w)
  rw [tbM_ok he ⟨hd, hd2⟩] at HM
  have HRM := Lib.hid (fun w => rmost_any n k p q d (tbErr_zero he).1 (tbErr_zero he).2.1 (tbErr_zero he).2.2 w)
  rw [he] at HR
  obtain ⟨kn, hkn⟩ : ∃ kn, tbKn k p = kn := ⟨_, rfl⟩
  have HK := Lib.hid (fun w => rkinds_any k p q w)
  rw [hkn] at HK hd2
  obtain ⟨x, hx⟩ : ∃ x, (if d = 1 then tbG n k p q else tbF n k p q) = x := ⟨_, rfl⟩
  rw [hx] at HM HRM
  have d1 : decide (d < 0) = false := decide_eq_false (by omega)
  have d2 : decide (kn ≤ d) = false := decide_eq_false (by omega)
  clear hs he hkn hx
  unfold specV specO at *
  go_enter Try.func4, Try.ntmps4
  go_wp2_with (first
    | (go_at_call 12; refine (HM.out _).mono ?_; rintro e w1 ⟨rfl, hb⟩; (have HC1 := Lib.hid (HC0.out.next hb)); (obtain ⟨b0, b1, b2⟩ := HC1.out.cells); clear hb)
    | (go_at_call 8; refine (HR.out _).mono ?_; rintro e w2 ⟨rfl, hb⟩; (have HC2 := Lib.hid (HC1.out.next hb)); clear b0 b1 b2; (obtain ⟨b0, b1, b2⟩ := HC2.out.cells); clear hb)
    | (go_at_call 10; refine (HK.out _).mono ?_; rintro e w3 ⟨rfl, hb⟩; (have HC3 := Lib.hid (HC2.out.next hb)); clear b0 b1 b2; (obtain ⟨b0, b1, b2⟩ := HC3.out.cells); clear hb)
    | (go_at_call 14; refine (HRM.out _).mono ?_; rintro e w4 ⟨rfl, hb⟩; (have HC4 := Lib.hid (HC3.out.next hb)); clear b0 b1 b2; (obtain ⟨b0, b1, b2⟩ := HC4.out.cells); clear hb)
    | (go_at_call 13; refine (known_any _).mono ?_; rintro e w9 ⟨rfl, hb⟩; (have HC9 := Lib.hid (HC4.out.next hb)); clear hb))
  go_ret
  exact ⟨rfl, HC9.out.bel⟩

theorem bound_tells (n k p q d : Int) (w : World) : Calls Try.prog 4 #[.int .i64 n, specV k p q, .int .i64 d] w fun e w' => e = .returned (.bool true) ∧ Below w.heap.size w w' := by
  by_cases he : tbErr n k p q = 0
  · by_cases h0 : d < 0
    · exact tells_low n k p q d he h0 w
    · by_cases h1 : tbKn k p ≤ d
      · exact tells_high n k p q d he (by omega) h1 w
      · exact tells_ok n k p q d he (by omega) (by omega) w
  · exact tells_err n k p q d he w

theorem tb_mono {n m k p q : Int} (hn : 1 ≤ n ∧ n ≤ 16) (hm : 1 ≤ m ∧ m ≤ 16) (hnm : n ≤ m) (hk : 0 ≤ k ∧ k ≤ 9) (h : tbIn k p q) : tbF n k p q ≤ tbF m k p q ∧ tbG n k p q ≤ tbG m k p q := by
  rcases tb_nine hk with rfl | rfl | rfl | rfl | rfl | rfl | rfl | rfl | rfl | rfl
  · rw [tbF_0, tbG_0, tbF_0, tbG_0]; rw [tbIn_0] at h
    omega
  · rw [tbF_1, tbG_1, tbF_1, tbG_1]; rw [tbIn_1] at h
    omega
  · rw [tbF_2, tbG_2, tbF_2, tbG_2]; rw [tbIn_2] at h
    omega
  · rw [tbF_3, tbG_3, tbF_3, tbG_3]; rw [tbIn_3] at h
    omega
  · rw [tbF_4, tbG_4, tbF_4, tbG_4]; rw [tbIn_4] at h
    omega
  · rw [tbF_5, tbG_5, tbF_5, tbG_5]; rw [tbIn_5] at h
    have b1 := Int.mul_le_mul hnm hnm (show 0 ≤ n by omega) (show 0 ≤ m by omega)
    omega
  · rw [tbF_6, tbG_6, tbF_6, tbG_6]; rw [tbIn_6] at h
    have b1 := Int.mul_le_mul_of_nonneg_left (show n + 3 ≤ m + 3 by omega) (show 0 ≤ p by omega)
    have b2 := Int.mul_le_mul_of_nonneg_left (show n + 2 ≤ m + 2 by omega) (show 0 ≤ p by omega)
    omega
  · rw [tbF_7, tbG_7, tbF_7, tbG_7]; rw [tbIn_7] at h
    omega
  · rw [tbF_8, tbG_8, tbF_8, tbG_8]; rw [tbIn_8] at h
    have b0 : 2 * n * n ≤ 2 * m * m := Int.mul_le_mul (show 2 * n ≤ 2 * m by omega) hnm (show 0 ≤ n by omega) (show 0 ≤ 2 * m by omega)
    have b1 : 0 ≤ 2 * n * n := (tb_c hn).1
    have b2 := Int.mul_le_mul (show n + 1 ≤ m + 1 by omega) (show 15 * (2 * n * n + 8) + 1 ≤ 15 * (2 * m * m + 8) + 1 by omega) (show 0 ≤ 15 * (2 * n * n + 8) + 1 by omega) (show 0 ≤ m + 1 by omega)
    rw [tbQ_eq, tbQ_eq]
    omega
  · rw [tbF_9, tbG_9, tbF_9, tbG_9]; rw [tbIn_9] at h
    omega

/-- a bound is 0 just where there is an error -/
theorem tbM_cases (n k p q d : Int) : ((tbM n k p q d).1 = 0 ∧ (tbM n k p q d).2 ≠ 0) ∨ (1 ≤ (tbM n k p q d).1 ∧ (tbM n k p q d).2 = 0) := by
  by_cases he : tbErr n k p q = 0
  · by_cases hd : 0 ≤ d ∧ d < tbKn k p
    · obtain ⟨z1, z2, z3⟩ := tbErr_zero he
      have := tb_le z1 z2 z3
      rw [tbM_ok he hd]
      right
      refine ⟨?_, rfl⟩
      show 1 ≤ (if d = 1 then tbG n k p q else tbF n k p q)
      split <;> omega
    · rw [tbM_kind he hd]; exact .inl ⟨rfl, by decide⟩
  · rw [tbM_err d he]; exact .inl ⟨rfl, he⟩
theorem tbM_mono {n m k p q d : Int} (h1 : (tbM n k p q d).2 = 0) (h2 : (tbM m k p q d).2 = 0) (hnm : n ≤ m) : (tbM n k p q d).1 ≤ (tbM m k p q d).1 := by
  by_cases he : tbErr n k p q = 0
  · by_cases hf : tbErr m k p q = 0
    · by_cases hd : 0 ≤ d ∧ d < tbKn k p
      · obtain ⟨z1, z2, z3⟩ := tbErr_zero he
        obtain ⟨y1, _, _⟩ := tbErr_zero hf
        have := tb_mono z1 y1 hnm z2 z3
        rw [tbM_ok he hd, tbM_ok hf hd]
        show (if d = 1 then tbG n k p q else tbF n k p q) ≤ (if d = 1 then tbG m k p q else tbF m k p q)
        split <;> omega
      · rw [tbM_kind he hd] at h1; cases h1
    · rw [tbM_err d hf] at h2; exact absurd h2 hf
  · rw [tbM_err d he] at h1; exact absurd h1 he

/-- the two boxes, and what has grown since -/
structure RsCtx (w w' : World) (n m k p q : Int) : Prop where
  arr : w'.heap[w.heap.size]? = some (.cells #[.int .i64 n, .int .i64 m] 39)
  box : w'.heap[w.heap.size + 1]? = some (specO k p q)
  bel : Below w.heap.size w w'
def rsW (w : World) (n m k p q : Int) : World := (w.alloc (.cells #[.int .i64 n, .int .i64 m] 39)).alloc (specO k p q)
theorem RsCtx.init (w : World) (n m k p q : Int) : RsCtx w (rsW w n m k p q) n m k p q := by
  have hs : (w.alloc (.cells #[.int .i64 n, .int .i64 m] 39)).heap.size = w.heap.size + 1 := World.size_alloc _ _
  refine ⟨(Below.heap_alloc _ _ _ (by rw [hs]; omega)).trans (heap_alloc_new _ _), ?_, ((Below.refl _ _).alloc (Nat.le_refl _) _).alloc (by rw [hs]; omega) _⟩
  rw [← hs]; exact heap_alloc_new _ _
theorem RsCtx.next {w w' w'' : World} {n m k p q : Int} (h : RsCtx w w' n m k p q) (hb : Below w'.heap.size w' w'') : RsCtx w w'' n m k p q :=
  ⟨(hb.block _ (blk_lt h.arr)).trans h.arr, (hb.block _ (blk_lt h.box)).trans h.box, h.bel.trans (hb.mono (Nat.le_of_lt (blk_lt h.arr)))⟩
theorem RsCtx.cells {w w' : World} {n m k p q : Int} (h : RsCtx w w' n m k p q) : w'.cell? ⟨w.heap.size + 1, 0, none⟩ = some (.int .i64 k) ∧ w'.cell? ⟨w.heap.size + 1, 1, none⟩ = some (.int .i64 p) ∧ w'.cell? ⟨w.heap.size + 1, 2, none⟩ = some (.int .i64 q) ∧ w'.cell? ⟨w.heap.size, 0, none⟩ = some (.int .i64 n) ∧ w'.cell? ⟨w.heap.size, 1, none⟩ = some (.int .i64 m) :=
  ⟨cell_of_blkT h.box rfl, cell_of_blkT h.box rfl, cell_of_blkT h.box rfl, cell_of_blkT h.arr rfl, cell_of_blkT h.arr rfl⟩

set_option maxRecDepth 100000 in
set_option maxHeartbeats 2000000 in
theorem rises_more (n m k p q d x e1 y f1 : Int) (hM : ∀ w, Calls Try.prog 12 #[.int .i64 n, specV k p q, .int .i64 d] w fun e w' => e = .returned (.tuple #[.int .i64 x, .int .i64 e1]) ∧ Below w.heap.size w w')
    (hM2 : ∀ w, Calls Try.prog 12 #[.int .i64 m, specV k p q, .int .i64 d] w fun e w' => e = .returned (.tuple #[.int .i64 y, .int .i64 f1]) ∧ Below w.heap.size w w') (hx : 1 ≤ x) (he : e1 = 0) (hy : 1 ≤ y) (hf : f1 = 0) (hnm : m < n) (w : World) :
    Calls Try.prog 6 #[.agg #[.int .i64 n, .int .i64 m], specV k p q, .int .i64 d] w fun e w' => e = .returned (.bool true) ∧ Below w.heap.size w w' := by
  have HC0 := Lib.hid (RsCtx.init w n m k p q)
  have HM := Lib.hid hM
  have HM2 := Lib.hid hM2
  clear hM hM2
  subst he
  have hx1 : ¬ x = 0 := by omega
  have hx2 : (x == 0) = false := beq_false_of_ne hx1
  have hx3 : decide (1 ≤ x) = true := decide_eq_true hx
  subst hf
  have hy1 : ¬ y = 0 := by omega
  have hy2 : (y == 0) = false := beq_false_of_ne hy1
  have hnm2 : decide (m < n) = true := decide_eq_true hnm
  unfold rsW specV specO at *
  obtain ⟨b0, b1, b2, a0, a1⟩ := HC0.out.cells
  clear b0 b1 b2 a0 a1
  go_enter Try.func6, Try.ntmps6
  go_wp2_with (first
    | (go_at_call 12; (with_reducible refine (HM.out _).mono ?_); rintro e w1 ⟨rfl, hb⟩; (have HC1 := Lib.hid (HC0.out.next hb)); clear HM; (obtain ⟨b0, b1, b2, a0, a1⟩ := HC1.out.cells); clear hb)
    | (go_at_call 12; (with_reducible refine (HM2.out _).mono ?_); rintro e w2 ⟨rfl, hb⟩; (have HC2 := Lib.hid (HC1.out.next hb)); clear b0 b1 b2 a0 a1; (obtain ⟨b0, b1, b2, a0, a1⟩ := HC2.out.cells); clear hb)
    | (go_at_call 13; refine (known_any _).mono ?_; rintro e w9 ⟨rfl, hb⟩; (have HC9 := Lib.hid (HC2.out.next hb)); clear hb))
  go_ret
  exact ⟨ret_bool (by first | rfl | (simp [he, hf]; done) | (simp [hf]; done) | (simp [he]; done)), HC9.out.bel⟩

set_option maxRecDepth 100000 in
set_option maxHeartbeats 2000000 in
theorem rises_ok (n m k p q d x e1 y f1 : Int) (hM : ∀ w, Calls Try.prog 12 #[.int .i64 n, specV k p q, .int .i64 d] w fun e w' => e = .returned (.tuple #[.int .i64 x, .int .i64 e1]) ∧ Below w.heap.size w w')
    (hM2 : ∀ w, Calls Try.prog 12 #[.int .i64 m, specV k p q, .int .i64 d] w fun e w' => e = .returned (.tuple #[.int .i64 y, .int .i64 f1]) ∧ Below w.heap.size w w') (hx : 1 ≤ x) (he : e1 = 0) (hy : 1 ≤ y) (hf : f1 = 0) (hnm : n ≤ m) (hxy : x ≤ y) (w : World) :
    Calls Try.prog 6 #[.agg #[.int .i64 n, .int .i64 m], specV k p q, .int .i64 d] w fun e w' => e = .returned (.bool true) ∧ Below w.heap.size w w' := by
  have HC0 := Lib.hid (RsCtx.init w n m k p q)
  have HM := Lib.hid hM
  have HM2 := Lib.hid hM2
  clear hM hM2
  subst he
  have hx1 : ¬ x = 0 := by omega
  have hx2 : (x == 0) = false := beq_false_of_ne hx1
  have hx3 : decide (1 ≤ x) = true := decide_eq_true hx
  subst hf
  have hy1 : ¬ y = 0 := by omega
  have hy2 : (y == 0) = false := beq_false_of_ne hy1
  have hnm2 : decide (m < n) = false := decide_eq_false (by omega)
  have hxy2 : decide (x ≤ y) = true := decide_eq_true hxy
  unfold rsW specV specO at *
  obtain ⟨b0, b1, b2, a0, a1⟩ := HC0.out.cells
  clear b0 b1 b2 a0 a1
  go_enter Try.func6, Try.ntmps6
  go_wp2_with (first
    | (go_at_call 12; (with_reducible refine (HM.out _).mono ?_); rintro e w1 ⟨rfl, hb⟩; (have HC1 := Lib.hid (HC0.out.next hb)); clear HM; (obtain ⟨b0, b1, b2, a0, a1⟩ := HC1.out.cells); clear hb)
    | (go_at_call 12; (with_reducible refine (HM2.out _).mono ?_); rintro e w2 ⟨rfl, hb⟩; (have HC2 := Lib.hid (HC1.out.next hb)); clear b0 b1 b2 a0 a1; (obtain ⟨b0, b1, b2, a0, a1⟩ := HC2.out.cells); clear hb)
    | (go_at_call 13; refine (known_any _).mono ?_; rintro e w9 ⟨rfl, hb⟩; (have HC9 := Lib.hid (HC2.out.next hb)); clear hb))
  go_ret
  exact ⟨ret_bool (by first | rfl | (simp [he, hf]; done) | (simp [hf]; done) | (simp [he]; done)), HC9.out.bel⟩

set_option maxRecDepth 100000 in
set_option maxHeartbeats 2000000 in
theorem rises_01 (n m k p q d x e1 y f1 : Int) (hM : ∀ w, Calls Try.prog 12 #[.int .i64 n, specV k p q, .int .i64 d] w fun e w' => e = .returned (.tuple #[.int .i64 x, .int .i64 e1]) ∧ Below w.heap.size w w')
    (hM2 : ∀ w, Calls Try.prog 12 #[.int .i64 m, specV k p q, .int .i64 d] w fun e w' => e = .returned (.tuple #[.int .i64 y, .int .i64 f1]) ∧ Below w.heap.size w w') (hx : 1 ≤ x) (he : e1 = 0) (hy : y = 0) (hf : f1 ≠ 0) (w : World) :
    Calls Try.prog 6 #[.agg #[.int .i64 n, .int .i64 m], specV k p q, .int .i64 d] w fun e w' => e = .returned (.bool true) ∧ Below w.heap.size w w' := by
  have HC0 := Lib.hid (RsCtx.init w n m k p q)
  have HM := Lib.hid hM
  have HM2 := Lib.hid hM2
  clear hM hM2
  subst he
  have hx1 : ¬ x = 0 := by omega
  have hx2 : (x == 0) = false := beq_false_of_ne hx1
  have hx3 : decide (1 ≤ x) = true := decide_eq_true hx
  subst hy
  have hf2 : (f1 == 0) = false := beq_false_of_ne hf
  have hf3 : decide (f1 = 0) = false := decide_eq_false hf
  unfold rsW specV specO at *
  obtain ⟨b0, b1, b2, a0, a1⟩ := HC0.out.cells
  clear b0 b1 b2 a0 a1
  go_enter Try.func6, Try.ntmps6
  go_wp2_with (first
    | (go_at_call 12; (with_reducible refine (HM.out _).mono ?_); rintro e w1 ⟨rfl, hb⟩; (have HC1 := Lib.hid (HC0.out.next hb)); clear HM; (obtain ⟨b0, b1, b2, a0, a1⟩ := HC1.out.cells); clear hb)
    | (go_at_call 12; (with_reducible refine (HM2.out _).mono ?_); rintro e w2 ⟨rfl, hb⟩; (have HC2 := Lib.hid (HC1.out.next hb)); clear b0 b1 b2 a0 a1; (obtain ⟨b0, b1, b2, a0, a1⟩ := HC2.out.cells); clear hb)
    | (go_at_call 13; refine (known_any _).mono ?_; rintro e w9 ⟨rfl, hb⟩; (have HC9 := Lib.hid (HC2.out.next hb)); clear hb))
  go_ret
  exact ⟨ret_bool (by first | rfl | (simp [he, hf]; done) | (simp [hf]; done) | (simp [he]; done)), HC9.out.bel⟩

set_option maxRecDepth 100000 in
set_option maxHeartbeats 2000000 in
theorem rises_10 (n m k p q d x e1 y f1 : Int) (hM : ∀ w, Calls Try.prog 12 #[.int .i64 n, specV k p q, .int .i64 d] w fun e w' => e = .returned (.tuple #[.int .i64 x, .int .i64 e1]) ∧ Below w.heap.size w w')
    (hM2 : ∀ w, Calls Try.prog 12 #[.int .i64 m, specV k p q, .int .i64 d] w fun e w' => e = .returned (.tuple #[.int .i64 y, .int .i64 f1]) ∧ Below w.heap.size w w') (hx : x = 0) (he : e1 ≠ 0) (hy : 1 ≤ y) (hf : f1 = 0) (w : World) :
    Calls Try.prog 6 #[.agg #[.int .i64 n, .int .i64 m], specV k p q, .int .i64 d] w fun e w' => e = .returned (.bool true) ∧ Below w.heap.size w w' := by
  have HC0 := Lib.hid (RsCtx.init w n m k p q)
  have HM := Lib.hid hM
  have HM2 := Lib.hid hM2
  clear hM hM2
  subst hx
  have he2 : (e1 == 0) = false := beq_false_of_ne he
  have he3 : decide (e1 = 0) = false := decide_eq_false he
  subst hf
  have hy1 : ¬ y = 0 := by omega
  have hy2 : (y == 0) = false := beq_false_of_ne hy1
  unfold rsW specV specO at *
  obtain ⟨b0, b1, b2, a0, a1⟩ := HC0.out.cells
  clear b0 b1 b2 a0 a1
  go_enter Try.func6, Try.ntmps6
  go_wp2_with (first
    | (go_at_call 12; (with_reducible refine (HM.out _).mono ?_); rintro e w1 ⟨rfl, hb⟩; (have HC1 := Lib.hid (HC0.out.next hb)); clear HM; (obtain ⟨b0, b1, b2, a0, a1⟩ := HC1.out.cells); clear hb)
    | (go_at_call 12; (with_reducible refine (HM2.out _).mono ?_); rintro e w2 ⟨rfl, hb⟩; (have HC2 := Lib.hid (HC1.out.next hb)); clear b0 b1 b2 a0 a1; (obtain ⟨b0, b1, b2, a0, a1⟩ := HC2.out.cells); clear hb)
    | (go_at_call 13; refine (known_any _).mono ?_; rintro e w9 ⟨rfl, hb⟩; (have HC9 := Lib.hid (HC2.out.next hb)); clear hb))
  go_ret
  exact ⟨ret_bool (by first | rfl | (simp [he, hf]; done) | (simp [hf]; done) | (simp [he]; done)), HC9.out.bel⟩

set_option maxRecDepth 100000 in
set_option maxHeartbeats 2000000 in
theorem rises_11 (n m k p q d x e1 y f1 : Int) (hM : ∀ w, Calls Try.prog 12 #[.int .i64 n, specV k p q, .int .i64 d] w fun e w' => e = .returned (.tuple #[.int .i64 x, .int .i64 e1]) ∧ Below w.heap.size w w')
    (hM2 : ∀ w, Calls Try.prog 12 #[.int .i64 m, specV k p q, .int .i64 d] w fun e w' => e = .returned (.tuple #[.int .i64 y, .int .i64 f1]) ∧ Below w.heap.size w w') (hx : x = 0) (he : e1 ≠ 0) (hy : y = 0) (hf : f1 ≠ 0) (w : World) :
    Calls Try.prog 6 #[.agg #[.int .i64 n, .int .i64 m], specV k p q, .int .i64 d] w fun e w' => e = .returned (.bool true) ∧ Below w.heap.size w w' := by
  have HC0 := Lib.hid (RsCtx.init w n m k p q)
  have HM := Lib.hid hM
  have HM2 := Lib.hid hM2
  clear hM hM2
  subst hx
  have he2 : (e1 == 0) = false := beq_false_of_ne he
  have he3 : decide (e1 = 0) = false := decide_eq_false he
  subst hy
  have hf2 : (f1 == 0) = false := beq_false_of_ne hf
  have hf3 : decide (f1 = 0) = false := decide_eq_false hf
  unfold rsW specV specO at *
  obtain ⟨b0, b1, b2, a0, a1⟩ := HC0.out.cells
  clear b0 b1 b2 a0 a1
  go_enter Try.func6, Try.ntmps6
  go_wp2_with (first
    | (go_at_call 12; (with_reducible refine (HM.out _).mono ?_); rintro e w1 ⟨rfl, hb⟩; (have HC1 := Lib.hid (HC0.out.next hb)); clear HM; (obtain ⟨b0, b1, b2, a0, a1⟩ := HC1.out.cells); clear hb)
    | (go_at_call 12; (with_reducible refine (HM2.out _).mono ?_); rintro e w2 ⟨rfl, hb⟩; (have HC2 := Lib.hid (HC1.out.next hb)); clear b0 b1 b2 a0 a1; (obtain ⟨b0, b1, b2, a0, a1⟩ := HC2.out.cells); clear hb)
    | (go_at_call 13; refine (known_any _).mono ?_; rintro e w9 ⟨rfl, hb⟩; (have HC9 := Lib.hid (HC2.out.next hb)); clear hb))
  go_ret
  exact ⟨ret_bool (by first | rfl | (simp [he, hf]; done) | (simp [hf]; done) | (simp [he]; done)), HC9.out.bel⟩

theorem bound_rises (n m k p q d : Int) (w : World) : Calls Try.prog 6 #[.agg #[.int .i64 n, .int .i64 m], specV k p q, .int .i64 d] w fun e w' => e = .returned (.bool true) ∧ Below w.heap.size w w' := by
  have h1 := fun w => most_any n k p q d w
  have h2 := fun w => most_any m k p q d w
  have h3 := @tbM_mono n m k p q d
  rcases tbM_cases n k p q d with ⟨hx, he⟩ | ⟨hx, he⟩
  · rcases tbM_cases m k p q d with ⟨hy, hf⟩ | ⟨hy, hf⟩
    · exact rises_11 n m k p q d _ _ _ _ h1 h2 hx he hy hf w
    · exact rises_10 n m k p q d _ _ _ _ h1 h2 hx he hy hf w
  · rcases tbM_cases m k p q d with ⟨hy, hf⟩ | ⟨hy, hf⟩
    · exact rises_01 n m k p q d _ _ _ _ h1 h2 hx he hy hf w
    · by_cases hnm : m < n
      · exact rises_more n m k p q d _ _ _ _ h1 h2 hx he hy hf hnm w
      · exact rises_ok n m k p q d _ _ _ _ h1 h2 hx he hy hf (by omega) (h3 he hf (by omega)) w
end Go.Proofs.Ytgmebjnhbkgbfaa
