/- table: object, Size, Kinds. -/
import Derived.Test.YtgmebjnhbkgbfaaBe
import Derived.Test.YtgmebjnhbkgbfaaBg
namespace Go.Proofs.Ytgmebjnhbkgbfaa
open Go.ChangeShapes Go.WideShapes Go.ChangeAt Go.RowKit
set_option linter.unusedVariables false
set_option linter.unusedSimpArgs false

theorem cell_allocT {w : World} {a : Addr} {v : Value} (h : w.cell? a = some v) (o : Obj) : (w.alloc o).cell? a = some v :=
  (((Below.refl w.heap.size w).alloc (Nat.le_refl _) o).cell (World.block_lt_of_cell? w _ h)).trans h
set_option maxHeartbeats 400000 in
theorem canPlay_any (n : Int) (W : World) : Calls Try.prog 17 #[.int .i64 n] W fun e w' => e = .returned (.bool (decide (1 ≤ n ∧ n ≤ 16))) ∧ W = w' := by
  by_cases h1 : 1 ≤ n
  · by_cases h2 : n ≤ 16
    · go_enter Try.func17, Try.ntmps17
      go_wp2_with fail
      go_ret
      exact ⟨ret_bool (by simp [h1, h2]), rfl⟩
    · go_enter Try.func17, Try.ntmps17
      go_wp2_with fail
      go_ret
      exact ⟨ret_bool (by simp; omega), rfl⟩
  · go_enter Try.func17, Try.ntmps17
    go_wp2_with fail
    go_ret
    exact ⟨ret_bool (by simp; omega), rfl⟩
theorem always1_any (b : Nat) (v p : Int) (W : World) (h : W.cell? ⟨b, 0, none⟩ = some (.int .i64 v)) : Calls Try.prog 48 #[.int .i64 p, .pointer (some ⟨b, 0, none⟩)] W fun e w' => e = .returned (.int .i64 v) ∧ W = w' := by
  go_enter Try.func48, Try.ntmps48
  go_wp2_with fail
  go_ret
  exact ⟨rfl, rfl⟩

theorem new_0 (p : Int) (W : World) : Calls Try.prog 34 #[.int .i64 p] W fun e w' => e = .returned (.iface 74 (.agg #[.int .i64 p])) ∧ W = w' := by
  go_enter Try.func34, Try.ntmps34
  go_wp2_with fail
  go_ret
  exact ⟨rfl, rfl⟩

set_option maxHeartbeats 400000 in
theorem made_0 (b : Nat) (p q : Int) (W : World) (h : W.cell? ⟨b, 0, none⟩ = some (.func (.func 34) #[] #[])) : Calls Try.prog 47 #[.int .i64 p, .int .i64 q, .pointer (some ⟨b, 0, none⟩)] W fun e w' => e = .returned (.iface 74 (.agg #[.int .i64 p])) ∧ W = w' := by
  go_enter Try.func47, Try.ntmps47
  go_wp2_with (go_at_call 34; refine (new_0 p _).mono ?_; rintro e w5 ⟨rfl, rfl⟩)
  go_ret
  exact ⟨rfl, rfl⟩

set_option maxRecDepth 100000 in
set_option maxHeartbeats 1000000 in
theorem object_0 (p q : Int) (w : World) : Calls Try.prog 18 #[specV 0 p q] w fun e w' => e = .returned (.tuple #[.iface 74 (.agg #[.int .i64 p]), .int .i64 0]) ∧ Below w.heap.size w w' := by
  unfold specV
  go_enter Try.func18, Try.ntmps18
  go_wp2_with (first
    | (go_at_call 20; refine (tfind_0 _).mono ?_; rintro e w5 ⟨b0, b1, rfl, c0, c1, hb⟩; (have HC0 := Lib.hid c0); (have HC1 := Lib.hid c1); (obtain ⟨hs, hbw, hlt⟩ := spec_in hb); (have HB := Lib.hid hbw); (have s0 : w5.cell? ⟨w.heap.size, 0, none⟩ = some (.int .i64 0) := cell_of_blkT hs rfl); (have s1 : w5.cell? ⟨w.heap.size, 1, none⟩ = some (.int .i64 p) := cell_of_blkT hs rfl); (have s2 : w5.cell? ⟨w.heap.size, 2, none⟩ = some (.int .i64 q) := cell_of_blkT hs rfl); clear hb hs c0 c1 hbw)
    | (go_at_call 47; refine (made_0 _ _ _ _ (cell_allocT HC0.out _)).mono ?_; rintro e w6 ⟨rfl, rfl⟩))
  go_ret2
  exact ⟨rfl, HB.out.alloc (Nat.le_of_lt hlt) _⟩

set_option maxRecDepth 100000 in
set_option maxHeartbeats 1000000 in
theorem size_0 (n p q s er : Int) (hn : 1 ≤ n ∧ n ≤ 16) (hS : ∀ W, Calls Try.prog 88 #[.agg #[.int .i64 p], .int .i64 n] W fun e w' => e = .returned (.tuple #[.int .i64 s, .int .i64 er]) ∧ Below W.heap.size W w') (w : World) :
    Calls Try.prog 7 #[.int .i64 n, specV 0 p q] w fun e w' => e = .returned (.tuple #[.int .i64 s, .int .i64 er]) ∧ Below w.heap.size w w' := by
  have HS := Lib.hid hS
  have HP : Hid (∀ W, Calls Try.prog 17 #[.int .i64 n] W fun e w' => e = .returned (.bool true) ∧ W = w') := Lib.hid (fun W => by have := canPlay_any n W; rw [decide_eq_true hn] at this; exact this)
  have hm : ∀ w' : World, (method 242 74 (.agg #[.int .i64 p]) "Size").run Try.prog w' = .ok (88, .agg #[.int .i64 p]) w' := fun w' => by kernel_rfl
  clear hS hn
  unfold specV
  go_enter Try.func7, Try.ntmps7
  go_wp2_with (first
    | (go_at_call 17; refine (HP.out _).mono ?_; rintro e w4 ⟨rfl, rfl⟩)
    | (go_at_call 18; refine (object_0 p q _).mono ?_; rintro e w5 ⟨rfl, hb⟩; (obtain ⟨hs, hbw, hlt⟩ := spec_in hb); (have HB := Lib.hid hbw); clear hs hbw hb)
    | (go_at_call 88; refine (HS.out _).mono ?_; rintro e w6 ⟨rfl, hb⟩; (have HB6 := Lib.hid hb); clear hb))
  go_ret2
  exact ⟨rfl, HB.out.trans (HB6.out.mono (Nat.le_of_lt hlt))⟩

set_option maxRecDepth 100000 in
set_option maxHeartbeats 1000000 in
theorem tkinds_0 (p q : Int) (w : World) : Calls Try.prog 9 #[specV 0 p q] w fun e w' => e = .returned (.int .i64 4) ∧ Below w.heap.size w w' := by
  unfold specV
  go_enter Try.func9, Try.ntmps9
  go_wp2_with (first
    | (go_at_call 20; refine (tfind_0 _).mono ?_; rintro e w5 ⟨b0, b1, rfl, c0, c1, hb⟩; (have HC0 := Lib.hid c0); (have HC1 := Lib.hid c1); (obtain ⟨hs, hbw, hlt⟩ := spec_in hb); (have HB := Lib.hid hbw); (have s0 : w5.cell? ⟨w.heap.size, 0, none⟩ = some (.int .i64 0) := cell_of_blkT hs rfl); (have s1 : w5.cell? ⟨w.heap.size, 1, none⟩ = some (.int .i64 p) := cell_of_blkT hs rfl); (have s2 : w5.cell? ⟨w.heap.size, 2, none⟩ = some (.int .i64 q) := cell_of_blkT hs rfl); clear hb hs c0 c1 hbw)
    | (go_at_call 48; refine (always1_any _ _ _ _ (cell_allocT HC1.out _)).mono ?_; rintro e w6 ⟨rfl, rfl⟩))
  go_ret
  exact ⟨rfl, HB.out.alloc (Nat.le_of_lt hlt) _⟩

theorem new_1  (W : World) : Calls Try.prog 37 #[] W fun e w' => e = .returned (.iface 76 (.agg #[])) ∧ W = w' := by
  go_enter Try.func37, Try.ntmps37
  go_wp2_with fail
  go_ret
  exact ⟨rfl, rfl⟩

set_option maxHeartbeats 400000 in
theorem made_1 (b : Nat) (p q : Int) (W : World) (h : W.cell? ⟨b, 0, none⟩ = some (.func (.func 37) #[] #[])) : Calls Try.prog 49 #[.int .i64 p, .int .i64 q, .pointer (some ⟨b, 0, none⟩)] W fun e w' => e = .returned (.iface 76 (.agg #[])) ∧ W = w' := by
  go_enter Try.func49, Try.ntmps49
  go_wp2_with (go_at_call 37; refine (new_1 _).mono ?_; rintro e w5 ⟨rfl, rfl⟩)
  go_ret
  exact ⟨rfl, rfl⟩

set_option maxRecDepth 100000 in
set_option maxHeartbeats 1000000 in
theorem object_1 (p q : Int) (w : World) : Calls Try.prog 18 #[specV 1 p q] w fun e w' => e = .returned (.tuple #[.iface 76 (.agg #[]), .int .i64 0]) ∧ Below w.heap.size w w' := by
  unfold specV
  go_enter Try.func18, Try.ntmps18
  go_wp2_with (first
    | (go_at_call 20; refine (tfind_1 _).mono ?_; rintro e w5 ⟨b0, b1, rfl, c0, c1, hb⟩; (have HC0 := Lib.hid c0); (have HC1 := Lib.hid c1); (obtain ⟨hs, hbw, hlt⟩ := spec_in hb); (have HB := Lib.hid hbw); (have s0 : w5.cell? ⟨w.heap.size, 0, none⟩ = some (.int .i64 1) := cell_of_blkT hs rfl); (have s1 : w5.cell? ⟨w.heap.size, 1, none⟩ = some (.int .i64 p) := cell_of_blkT hs rfl); (have s2 : w5.cell? ⟨w.heap.size, 2, none⟩ = some (.int .i64 q) := cell_of_blkT hs rfl); clear hb hs c0 c1 hbw)
    | (go_at_call 49; refine (made_1 _ _ _ _ (cell_allocT HC0.out _)).mono ?_; rintro e w6 ⟨rfl, rfl⟩))
  go_ret2
  exact ⟨rfl, HB.out.alloc (Nat.le_of_lt hlt) _⟩

set_option maxRecDepth 100000 in
set_option maxHeartbeats 1000000 in
theorem size_1 (n p q s er : Int) (hn : 1 ≤ n ∧ n ≤ 16) (hS : ∀ W, Calls Try.prog 90 #[.agg #[], .int .i64 n] W fun e w' => e = .returned (.tuple #[.int .i64 s, .int .i64 er]) ∧ Below W.heap.size W w') (w : World) :
    Calls Try.prog 7 #[.int .i64 n, specV 1 p q] w fun e w' => e = .returned (.tuple #[.int .i64 s, .int .i64 er]) ∧ Below w.heap.size w w' := by
  have HS := Lib.hid hS
  have HP : Hid (∀ W, Calls Try.prog 17 #[.int .i64 n] W fun e w' => e = .returned (.bool true) ∧ W = w') := Lib.hid (fun W => by have := canPlay_any n W; rw [decide_eq_true hn] at this; exact this)
  have hm : ∀ w' : World, (method 242 76 (.agg #[]) "Size").run Try.prog w' = .ok (90, .agg #[]) w' := fun w' => by kernel_rfl
  clear hS hn
  unfold specV
  go_enter Try.func7, Try.ntmps7
  go_wp2_with (first
    | (go_at_call 17; refine (HP.out _).mono ?_; rintro e w4 ⟨rfl, rfl⟩)
    | (go_at_call 18; refine (object_1 p q _).mono ?_; rintro e w5 ⟨rfl, hb⟩; (obtain ⟨hs, hbw, hlt⟩ := spec_in hb); (have HB := Lib.hid hbw); clear hs hbw hb)
    | (go_at_call 90; refine (HS.out _).mono ?_; rintro e w6 ⟨rfl, hb⟩; (have HB6 := Lib.hid hb); clear hb))
  go_ret2
  exact ⟨rfl, HB.out.trans (HB6.out.mono (Nat.le_of_lt hlt))⟩

set_option maxRecDepth 100000 in
set_option maxHeartbeats 1000000 in
theorem tkinds_1 (p q : Int) (w : World) : Calls Try.prog 9 #[specV 1 p q] w fun e w' => e = .returned (.int .i64 2) ∧ Below w.heap.size w w' := by
  unfold specV
  go_enter Try.func9, Try.ntmps9
  go_wp2_with (first
    | (go_at_call 20; refine (tfind_1 _).mono ?_; rintro e w5 ⟨b0, b1, rfl, c0, c1, hb⟩; (have HC0 := Lib.hid c0); (have HC1 := Lib.hid c1); (obtain ⟨hs, hbw, hlt⟩ := spec_in hb); (have HB := Lib.hid hbw); (have s0 : w5.cell? ⟨w.heap.size, 0, none⟩ = some (.int .i64 1) := cell_of_blkT hs rfl); (have s1 : w5.cell? ⟨w.heap.size, 1, none⟩ = some (.int .i64 p) := cell_of_blkT hs rfl); (have s2 : w5.cell? ⟨w.heap.size, 2, none⟩ = some (.int .i64 q) := cell_of_blkT hs rfl); clear hb hs c0 c1 hbw)
    | (go_at_call 48; refine (always1_any _ _ _ _ (cell_allocT HC1.out _)).mono ?_; rintro e w6 ⟨rfl, rfl⟩))
  go_ret
  exact ⟨rfl, HB.out.alloc (Nat.le_of_lt hlt) _⟩

theorem new_2  (W : World) : Calls Try.prog 38 #[] W fun e w' => e = .returned (.iface 77 (.agg #[])) ∧ W = w' := by
  go_enter Try.func38, Try.ntmps38
  go_wp2_with fail
  go_ret
  exact ⟨rfl, rfl⟩

set_option maxHeartbeats 400000 in
theorem made_2 (b : Nat) (p q : Int) (W : World) (h : W.cell? ⟨b, 0, none⟩ = some (.func (.func 38) #[] #[])) : Calls Try.prog 49 #[.int .i64 p, .int .i64 q, .pointer (some ⟨b, 0, none⟩)] W fun e w' => e = .returned (.iface 77 (.agg #[])) ∧ W = w' := by
  go_enter Try.func49, Try.ntmps49
  go_wp2_with (go_at_call 38; refine (new_2 _).mono ?_; rintro e w5 ⟨rfl, rfl⟩)
  go_ret
  exact ⟨rfl, rfl⟩

set_option maxRecDepth 100000 in
set_option maxHeartbeats 1000000 in
theorem object_2 (p q : Int) (w : World) : Calls Try.prog 18 #[specV 2 p q] w fun e w' => e = .returned (.tuple #[.iface 77 (.agg #[]), .int .i64 0]) ∧ Below w.heap.size w w' := by
  unfold specV
  go_enter Try.func18, Try.ntmps18
  go_wp2_with (first
    | (go_at_call 20; refine (tfind_2 _).mono ?_; rintro e w5 ⟨b0, b1, rfl, c0, c1, hb⟩; (have HC0 := Lib.hid c0); (have HC1 := Lib.hid c1); (obtain ⟨hs, hbw, hlt⟩ := spec_in hb); (have HB := Lib.hid hbw); (have s0 : w5.cell? ⟨w.heap.size, 0, none⟩ = some (.int .i64 2) := cell_of_blkT hs rfl); (have s1 : w5.cell? ⟨w.heap.size, 1, none⟩ = some (.int .i64 p) := cell_of_blkT hs rfl); (have s2 : w5.cell? ⟨w.heap.size, 2, none⟩ = some (.int .i64 q) := cell_of_blkT hs rfl); clear hb hs c0 c1 hbw)
    | (go_at_call 49; refine (made_2 _ _ _ _ (cell_allocT HC0.out _)).mono ?_; rintro e w6 ⟨rfl, rfl⟩))
  go_ret2
  exact ⟨rfl, HB.out.alloc (Nat.le_of_lt hlt) _⟩

set_option maxRecDepth 100000 in
set_option maxHeartbeats 1000000 in
theorem size_2 (n p q s er : Int) (hn : 1 ≤ n ∧ n ≤ 16) (hS : ∀ W, Calls Try.prog 92 #[.agg #[], .int .i64 n] W fun e w' => e = .returned (.tuple #[.int .i64 s, .int .i64 er]) ∧ Below W.heap.size W w') (w : World) :
    Calls Try.prog 7 #[.int .i64 n, specV 2 p q] w fun e w' => e = .returned (.tuple #[.int .i64 s, .int .i64 er]) ∧ Below w.heap.size w w' := by
  have HS := Lib.hid hS
  have HP : Hid (∀ W, Calls Try.prog 17 #[.int .i64 n] W fun e w' => e = .returned (.bool true) ∧ W = w') := Lib.hid (fun W => by have := canPlay_any n W; rw [decide_eq_true hn] at this; exact this)
  have hm : ∀ w' : World, (method 242 77 (.agg #[]) "Size").run Try.prog w' = .ok (92, .agg #[]) w' := fun w' => by kernel_rfl
  clear hS hn
  unfold specV
  go_enter Try.func7, Try.ntmps7
  go_wp2_with (first
    | (go_at_call 17; refine (HP.out _).mono ?_; rintro e w4 ⟨rfl, rfl⟩)
    | (go_at_call 18; refine (object_2 p q _).mono ?_; rintro e w5 ⟨rfl, hb⟩; (obtain ⟨hs, hbw, hlt⟩ := spec_in hb); (have HB := Lib.hid hbw); clear hs hbw hb)
    | (go_at_call 92; refine (HS.out _).mono ?_; rintro e w6 ⟨rfl, hb⟩; (have HB6 := Lib.hid hb); clear hb))
  go_ret2
  exact ⟨rfl, HB.out.trans (HB6.out.mono (Nat.le_of_lt hlt))⟩

set_option maxRecDepth 100000 in
set_option maxHeartbeats 1000000 in
theorem tkinds_2 (p q : Int) (w : World) : Calls Try.prog 9 #[specV 2 p q] w fun e w' => e = .returned (.int .i64 2) ∧ Below w.heap.size w w' := by
  unfold specV
  go_enter Try.func9, Try.ntmps9
  go_wp2_with (first
    | (go_at_call 20; refine (tfind_2 _).mono ?_; rintro e w5 ⟨b0, b1, rfl, c0, c1, hb⟩; (have HC0 := Lib.hid c0); (have HC1 := Lib.hid c1); (obtain ⟨hs, hbw, hlt⟩ := spec_in hb); (have HB := Lib.hid hbw); (have s0 : w5.cell? ⟨w.heap.size, 0, none⟩ = some (.int .i64 2) := cell_of_blkT hs rfl); (have s1 : w5.cell? ⟨w.heap.size, 1, none⟩ = some (.int .i64 p) := cell_of_blkT hs rfl); (have s2 : w5.cell? ⟨w.heap.size, 2, none⟩ = some (.int .i64 q) := cell_of_blkT hs rfl); clear hb hs c0 c1 hbw)
    | (go_at_call 48; refine (always1_any _ _ _ _ (cell_allocT HC1.out _)).mono ?_; rintro e w6 ⟨rfl, rfl⟩))
  go_ret
  exact ⟨rfl, HB.out.alloc (Nat.le_of_lt hlt) _⟩

theorem new_3  (W : World) : Calls Try.prog 39 #[] W fun e w' => e = .returned (.iface 78 (.agg #[])) ∧ W = w' := by
  go_enter Try.func39, Try.ntmps39
  go_wp2_with fail
  go_ret
  exact ⟨rfl, rfl⟩

set_option maxHeartbeats 400000 in
theorem made_3 (b : Nat) (p q : Int) (W : World) (h : W.cell? ⟨b, 0, none⟩ = some (.func (.func 39) #[] #[])) : Calls Try.prog 49 #[.int .i64 p, .int .i64 q, .pointer (some ⟨b, 0, none⟩)] W fun e w' => e = .returned (.iface 78 (.agg #[])) ∧ W = w' := by
  go_enter Try.func49, Try.ntmps49
  go_wp2_with (go_at_call 39; refine (new_3 _).mono ?_; rintro e w5 ⟨rfl, rfl⟩)
  go_ret
  exact ⟨rfl, rfl⟩

set_option maxRecDepth 100000 in
set_option maxHeartbeats 1000000 in
theorem object_3 (p q : Int) (w : World) : Calls Try.prog 18 #[specV 3 p q] w fun e w' => e = .returned (.tuple #[.iface 78 (.agg #[]), .int .i64 0]) ∧ Below w.heap.size w w' := by
  unfold specV
  go_enter Try.func18, Try.ntmps18
  go_wp2_with (first
    | (go_at_call 20; refine (tfind_3 _).mono ?_; rintro e w5 ⟨b0, b1, rfl, c0, c1, hb⟩; (have HC0 := Lib.hid c0); (have HC1 := Lib.hid c1); (obtain ⟨hs, hbw, hlt⟩ := spec_in hb); (have HB := Lib.hid hbw); (have s0 : w5.cell? ⟨w.heap.size, 0, none⟩ = some (.int .i64 3) := cell_of_blkT hs rfl); (have s1 : w5.cell? ⟨w.heap.size, 1, none⟩ = some (.int .i64 p) := cell_of_blkT hs rfl); (have s2 : w5.cell? ⟨w.heap.size, 2, none⟩ = some (.int .i64 q) := cell_of_blkT hs rfl); clear hb hs c0 c1 hbw)
    | (go_at_call 49; refine (made_3 _ _ _ _ (cell_allocT HC0.out _)).mono ?_; rintro e w6 ⟨rfl, rfl⟩))
  go_ret2
  exact ⟨rfl, HB.out.alloc (Nat.le_of_lt hlt) _⟩

set_option maxRecDepth 100000 in
set_option maxHeartbeats 1000000 in
theorem size_3 (n p q s er : Int) (hn : 1 ≤ n ∧ n ≤ 16) (hS : ∀ W, Calls Try.prog 94 #[.agg #[], .int .i64 n] W fun e w' => e = .returned (.tuple #[.int .i64 s, .int .i64 er]) ∧ Below W.heap.size W w') (w : World) :
    Calls Try.prog 7 #[.int .i64 n, specV 3 p q] w fun e w' => e = .returned (.tuple #[.int .i64 s, .int .i64 er]) ∧ Below w.heap.size w w' := by
  have HS := Lib.hid hS
  have HP : Hid (∀ W, Calls Try.prog 17 #[.int .i64 n] W fun e w' => e = .returned (.bool true) ∧ W = w') := Lib.hid (fun W => by have := canPlay_any n W; rw [decide_eq_true hn] at this; exact this)
  have hm : ∀ w' : World, (method 242 78 (.agg #[]) "Size").run Try.prog w' = .ok (94, .agg #[]) w' := fun w' => by kernel_rfl
  clear hS hn
  unfold specV
  go_enter Try.func7, Try.ntmps7
  go_wp2_with (first
    | (go_at_call 17; refine (HP.out _).mono ?_; rintro e w4 ⟨rfl, rfl⟩)
    | (go_at_call 18; refine (object_3 p q _).mono ?_; rintro e w5 ⟨rfl, hb⟩; (obtain ⟨hs, hbw, hlt⟩ := spec_in hb); (have HB := Lib.hid hbw); clear hs hbw hb)
    | (go_at_call 94; refine (HS.out _).mono ?_; rintro e w6 ⟨rfl, hb⟩; (have HB6 := Lib.hid hb); clear hb))
  go_ret2
  exact ⟨rfl, HB.out.trans (HB6.out.mono (Nat.le_of_lt hlt))⟩

set_option maxRecDepth 100000 in
set_option maxHeartbeats 1000000 in
theorem tkinds_3 (p q : Int) (w : World) : Calls Try.prog 9 #[specV 3 p q] w fun e w' => e = .returned (.int .i64 3) ∧ Below w.heap.size w w' := by
  unfold specV
  go_enter Try.func9, Try.ntmps9
  go_wp2_with (first
    | (go_at_call 20; refine (tfind_3 _).mono ?_; rintro e w5 ⟨b0, b1, rfl, c0, c1, hb⟩; (have HC0 := Lib.hid c0); (have HC1 := Lib.hid c1); (obtain ⟨hs, hbw, hlt⟩ := spec_in hb); (have HB := Lib.hid hbw); (have s0 : w5.cell? ⟨w.heap.size, 0, none⟩ = some (.int .i64 3) := cell_of_blkT hs rfl); (have s1 : w5.cell? ⟨w.heap.size, 1, none⟩ = some (.int .i64 p) := cell_of_blkT hs rfl); (have s2 : w5.cell? ⟨w.heap.size, 2, none⟩ = some (.int .i64 q) := cell_of_blkT hs rfl); clear hb hs c0 c1 hbw)
    | (go_at_call 48; refine (always1_any _ _ _ _ (cell_allocT HC1.out _)).mono ?_; rintro e w6 ⟨rfl, rfl⟩))
  go_ret
  exact ⟨rfl, HB.out.alloc (Nat.le_of_lt hlt) _⟩

theorem new_4 (p : Int) (W : World) : Calls Try.prog 40 #[.int .i64 p] W fun e w' => e = .returned (.iface 80 (.agg #[.int .i64 p])) ∧ W = w' := by
  go_enter Try.func40, Try.ntmps40
  go_wp2_with fail
  go_ret
  exact ⟨rfl, rfl⟩

set_option maxHeartbeats 400000 in
theorem made_4 (b : Nat) (p q : Int) (W : World) (h : W.cell? ⟨b, 0, none⟩ = some (.func (.func 40) #[] #[])) : Calls Try.prog 47 #[.int .i64 p, .int .i64 q, .pointer (some ⟨b, 0, none⟩)] W fun e w' => e = .returned (.iface 80 (.agg #[.int .i64 p])) ∧ W = w' := by
  go_enter Try.func47, Try.ntmps47
  go_wp2_with (go_at_call 40; refine (new_4 p _).mono ?_; rintro e w5 ⟨rfl, rfl⟩)
  go_ret
  exact ⟨rfl, rfl⟩

set_option maxRecDepth 100000 in
set_option maxHeartbeats 1000000 in
theorem object_4 (p q : Int) (w : World) : Calls Try.prog 18 #[specV 4 p q] w fun e w' => e = .returned (.tuple #[.iface 80 (.agg #[.int .i64 p]), .int .i64 0]) ∧ Below w.heap.size w w' := by
  unfold specV
  go_enter Try.func18, Try.ntmps18
  go_wp2_with (first
    | (go_at_call 20; refine (tfind_4 _).mono ?_; rintro e w5 ⟨b0, b1, rfl, c0, c1, hb⟩; (have HC0 := Lib.hid c0); (have HC1 := Lib.hid c1); (obtain ⟨hs, hbw, hlt⟩ := spec_in hb); (have HB := Lib.hid hbw); (have s0 : w5.cell? ⟨w.heap.size, 0, none⟩ = some (.int .i64 4) := cell_of_blkT hs rfl); (have s1 : w5.cell? ⟨w.heap.size, 1, none⟩ = some (.int .i64 p) := cell_of_blkT hs rfl); (have s2 : w5.cell? ⟨w.heap.size, 2, none⟩ = some (.int .i64 q) := cell_of_blkT hs rfl); clear hb hs c0 c1 hbw)
    | (go_at_call 47; refine (made_4 _ _ _ _ (cell_allocT HC0.out _)).mono ?_; rintro e w6 ⟨rfl, rfl⟩))
  go_ret2
  exact ⟨rfl, HB.out.alloc (Nat.le_of_lt hlt) _⟩

set_option maxRecDepth 100000 in
set_option maxHeartbeats 1000000 in
theorem size_4 (n p q s er : Int) (hn : 1 ≤ n ∧ n ≤ 16) (hS : ∀ W, Calls Try.prog 96 #[.agg #[.int .i64 p], .int .i64 n] W fun e w' => e = .returned (.tuple #[.int .i64 s, .int .i64 er]) ∧ Below W.heap.size W w') (w : World) :
    Calls Try.prog 7 #[.int .i64 n, specV 4 p q] w fun e w' => e = .returned (.tuple #[.int .i64 s, .int .i64 er]) ∧ Below w.heap.size w w' := by
  have HS := Lib.hid hS
  have HP : Hid (∀ W, Calls Try.prog 17 #[.int .i64 n] W fun e w' => e = .returned (.bool true) ∧ W = w') := Lib.hid (fun W => by have := canPlay_any n W; rw [decide_eq_true hn] at this; exact this)
  have hm : ∀ w' : World, (method 242 80 (.agg #[.int .i64 p]) "Size").run Try.prog w' = .ok (96, .agg #[.int .i64 p]) w' := fun w' => by kernel_rfl
  clear hS hn
  unfold specV
  go_enter Try.func7, Try.ntmps7
  go_wp2_with (first
    | (go_at_call 17; refine (HP.out _).mono ?_; rintro e w4 ⟨rfl, rfl⟩)
    | (go_at_call 18; refine (object_4 p q _).mono ?_; rintro e w5 ⟨rfl, hb⟩; (obtain ⟨hs, hbw, hlt⟩ := spec_in hb); (have HB := Lib.hid hbw); clear hs hbw hb)
    | (go_at_call 96; refine (HS.out _).mono ?_; rintro e w6 ⟨rfl, hb⟩; (have HB6 := Lib.hid hb); clear hb))
  go_ret2
  exact ⟨rfl, HB.out.trans (HB6.out.mono (Nat.le_of_lt hlt))⟩

set_option maxRecDepth 100000 in
set_option maxHeartbeats 1000000 in
theorem tkinds_4 (p q : Int) (w : World) : Calls Try.prog 9 #[specV 4 p q] w fun e w' => e = .returned (.int .i64 2) ∧ Below w.heap.size w w' := by
  unfold specV
  go_enter Try.func9, Try.ntmps9
  go_wp2_with (first
    | (go_at_call 20; refine (tfind_4 _).mono ?_; rintro e w5 ⟨b0, b1, rfl, c0, c1, hb⟩; (have HC0 := Lib.hid c0); (have HC1 := Lib.hid c1); (obtain ⟨hs, hbw, hlt⟩ := spec_in hb); (have HB := Lib.hid hbw); (have s0 : w5.cell? ⟨w.heap.size, 0, none⟩ = some (.int .i64 4) := cell_of_blkT hs rfl); (have s1 : w5.cell? ⟨w.heap.size, 1, none⟩ = some (.int .i64 p) := cell_of_blkT hs rfl); (have s2 : w5.cell? ⟨w.heap.size, 2, none⟩ = some (.int .i64 q) := cell_of_blkT hs rfl); clear hb hs c0 c1 hbw)
    | (go_at_call 48; refine (always1_any _ _ _ _ (cell_allocT HC1.out _)).mono ?_; rintro e w6 ⟨rfl, rfl⟩))
  go_ret
  exact ⟨rfl, HB.out.alloc (Nat.le_of_lt hlt) _⟩

theorem new_5 (p : Int) (W : World) : Calls Try.prog 41 #[.int .i64 p] W fun e w' => e = .returned (.iface 82 (.agg #[.int .i64 p])) ∧ W = w' := by
  go_enter Try.func41, Try.ntmps41
  go_wp2_with fail
  go_ret
  exact ⟨rfl, rfl⟩

set_option maxHeartbeats 400000 in
theorem made_5 (b : Nat) (p q : Int) (W : World) (h : W.cell? ⟨b, 0, none⟩ = some (.func (.func 41) #[] #[])) : Calls Try.prog 47 #[.int .i64 p, .int .i64 q, .pointer (some ⟨b, 0, none⟩)] W fun e w' => e = .returned (.iface 82 (.agg #[.int .i64 p])) ∧ W = w' := by
  go_enter Try.func47, Try.ntmps47
  go_wp2_with (go_at_call 41; refine (new_5 p _).mono ?_; rintro e w5 ⟨rfl, rfl⟩)
  go_ret
  exact ⟨rfl, rfl⟩

set_option maxRecDepth 100000 in
set_option maxHeartbeats 1000000 in
theorem object_5 (p q : Int) (w : World) : Calls Try.prog 18 #[specV 5 p q] w fun e w' => e = .returned (.tuple #[.iface 82 (.agg #[.int .i64 p]), .int .i64 0]) ∧ Below w.heap.size w w' := by
  unfold specV
  go_enter Try.func18, Try.ntmps18
  go_wp2_with (first
    | (go_at_call 20; refine (tfind_5 _).mono ?_; rintro e w5 ⟨b0, b1, rfl, c0, c1, hb⟩; (have HC0 := Lib.hid c0); (have HC1 := Lib.hid c1); (obtain ⟨hs, hbw, hlt⟩ := spec_in hb); (have HB := Lib.hid hbw); (have s0 : w5.cell? ⟨w.heap.size, 0, none⟩ = some (.int .i64 5) := cell_of_blkT hs rfl); (have s1 : w5.cell? ⟨w.heap.size, 1, none⟩ = some (.int .i64 p) := cell_of_blkT hs rfl); (have s2 : w5.cell? ⟨w.heap.size, 2, none⟩ = some (.int .i64 q) := cell_of_blkT hs rfl); clear hb hs c0 c1 hbw)
    | (go_at_call 47; refine (made_5 _ _ _ _ (cell_allocT HC0.out _)).mono ?_; rintro e w6 ⟨rfl, rfl⟩))
  go_ret2
  exact ⟨rfl, HB.out.alloc (Nat.le_of_lt hlt) _⟩

set_option maxRecDepth 100000 in
set_option maxHeartbeats 1000000 in
theorem size_5 (n p q s er : Int) (hn : 1 ≤ n ∧ n ≤ 16) (hS : ∀ W, Calls Try.prog 98 #[.agg #[.int .i64 p], .int .i64 n] W fun e w' => e = .returned (.tuple #[.int .i64 s, .int .i64 er]) ∧ Below W.heap.size W w') (w : World) :
    Calls Try.prog 7 #[.int .i64 n, specV 5 p q] w fun e w' => e = .returned (.tuple #[.int .i64 s, .int .i64 er]) ∧ Below w.heap.size w w' := by
  have HS := Lib.hid hS
  have HP : Hid (∀ W, Calls Try.prog 17 #[.int .i64 n] W fun e w' => e = .returned (.bool true) ∧ W = w') := Lib.hid (fun W => by have := canPlay_any n W; rw [decide_eq_true hn] at this; exact this)
  have hm : ∀ w' : World, (method 242 82 (.agg #[.int .i64 p]) "Size").run Try.prog w' = .ok (98, .agg #[.int .i64 p]) w' := fun w' => by kernel_rfl
  clear hS hn
  unfold specV
  go_enter Try.func7, Try.ntmps7
  go_wp2_with (first
    | (go_at_call 17; refine (HP.out _).mono ?_; rintro e w4 ⟨rfl, rfl⟩)
    | (go_at_call 18; refine (object_5 p q _).mono ?_; rintro e w5 ⟨rfl, hb⟩; (obtain ⟨hs, hbw, hlt⟩ := spec_in hb); (have HB := Lib.hid hbw); clear hs hbw hb)
    | (go_at_call 98; refine (HS.out _).mono ?_; rintro e w6 ⟨rfl, hb⟩; (have HB6 := Lib.hid hb); clear hb))
  go_ret2
  exact ⟨rfl, HB.out.trans (HB6.out.mono (Nat.le_of_lt hlt))⟩

set_option maxRecDepth 100000 in
set_option maxHeartbeats 1000000 in
theorem tkinds_5 (p q : Int) (w : World) : Calls Try.prog 9 #[specV 5 p q] w fun e w' => e = .returned (.int .i64 2) ∧ Below w.heap.size w w' := by
  unfold specV
  go_enter Try.func9, Try.ntmps9
  go_wp2_with (first
    | (go_at_call 20; refine (tfind_5 _).mono ?_; rintro e w5 ⟨b0, b1, rfl, c0, c1, hb⟩; (have HC0 := Lib.hid c0); (have HC1 := Lib.hid c1); (obtain ⟨hs, hbw, hlt⟩ := spec_in hb); (have HB := Lib.hid hbw); (have s0 : w5.cell? ⟨w.heap.size, 0, none⟩ = some (.int .i64 5) := cell_of_blkT hs rfl); (have s1 : w5.cell? ⟨w.heap.size, 1, none⟩ = some (.int .i64 p) := cell_of_blkT hs rfl); (have s2 : w5.cell? ⟨w.heap.size, 2, none⟩ = some (.int .i64 q) := cell_of_blkT hs rfl); clear hb hs c0 c1 hbw)
    | (go_at_call 48; refine (always1_any _ _ _ _ (cell_allocT HC1.out _)).mono ?_; rintro e w6 ⟨rfl, rfl⟩))
  go_ret
  exact ⟨rfl, HB.out.alloc (Nat.le_of_lt hlt) _⟩

theorem new_6 (p q : Int) (W : World) : Calls Try.prog 42 #[.int .i64 p, .int .i64 q] W fun e w' => e = .returned (.iface 84 (.agg #[.int .i64 p, .int .i64 q])) ∧ W = w' := by
  go_enter Try.func42, Try.ntmps42
  go_wp2_with fail
  go_ret
  exact ⟨rfl, rfl⟩

set_option maxRecDepth 100000 in
set_option maxHeartbeats 1000000 in
theorem object_6 (p q : Int) (w : World) : Calls Try.prog 18 #[specV 6 p q] w fun e w' => e = .returned (.tuple #[.iface 84 (.agg #[.int .i64 p, .int .i64 q]), .int .i64 0]) ∧ Below w.heap.size w w' := by
  unfold specV
  go_enter Try.func18, Try.ntmps18
  go_wp2_with (first
    | (go_at_call 20; refine (tfind_6 _).mono ?_; rintro e w5 ⟨b1, rfl, c1, hb⟩; (have HC1 := Lib.hid c1); (obtain ⟨hs, hbw, hlt⟩ := spec_in hb); (have HB := Lib.hid hbw); (have s0 : w5.cell? ⟨w.heap.size, 0, none⟩ = some (.int .i64 6) := cell_of_blkT hs rfl); (have s1 : w5.cell? ⟨w.heap.size, 1, none⟩ = some (.int .i64 p) := cell_of_blkT hs rfl); (have s2 : w5.cell? ⟨w.heap.size, 2, none⟩ = some (.int .i64 q) := cell_of_blkT hs rfl); clear hb hs c1 hbw)
    | (go_at_call 42; refine (new_6 _ _ _).mono ?_; rintro e w6 ⟨rfl, rfl⟩))
  go_ret2
  exact ⟨rfl, HB.out.alloc (Nat.le_of_lt hlt) _⟩

set_option maxRecDepth 100000 in
set_option maxHeartbeats 1000000 in
theorem size_6 (n p q s er : Int) (hn : 1 ≤ n ∧ n ≤ 16) (hS : ∀ W, Calls Try.prog 101 #[.agg #[.int .i64 p, .int .i64 q], .int .i64 n] W fun e w' => e = .returned (.tuple #[.int .i64 s, .int .i64 er]) ∧ Below W.heap.size W w') (w : World) :
    Calls Try.prog 7 #[.int .i64 n, specV 6 p q] w fun e w' => e = .returned (.tuple #[.int .i64 s, .int .i64 er]) ∧ Below w.heap.size w w' := by
  have HS := Lib.hid hS
  have HP : Hid (∀ W, Calls Try.prog 17 #[.int .i64 n] W fun e w' => e = .returned (.bool true) ∧ W = w') := Lib.hid (fun W => by have := canPlay_any n W; rw [decide_eq_true hn] at this; exact this)
  have hm : ∀ w' : World, (method 242 84 (.agg #[.int .i64 p, .int .i64 q]) "Size").run Try.prog w' = .ok (101, .agg #[.int .i64 p, .int .i64 q]) w' := fun w' => by kernel_rfl
  clear hS hn
  unfold specV
  go_enter Try.func7, Try.ntmps7
  go_wp2_with (first
    | (go_at_call 17; refine (HP.out _).mono ?_; rintro e w4 ⟨rfl, rfl⟩)
    | (go_at_call 18; refine (object_6 p q _).mono ?_; rintro e w5 ⟨rfl, hb⟩; (obtain ⟨hs, hbw, hlt⟩ := spec_in hb); (have HB := Lib.hid hbw); clear hs hbw hb)
    | (go_at_call 101; refine (HS.out _).mono ?_; rintro e w6 ⟨rfl, hb⟩; (have HB6 := Lib.hid hb); clear hb))
  go_ret2
  exact ⟨rfl, HB.out.trans (HB6.out.mono (Nat.le_of_lt hlt))⟩

set_option maxRecDepth 100000 in
set_option maxHeartbeats 1000000 in
theorem tkinds_6 (p q : Int) (w : World) : Calls Try.prog 9 #[specV 6 p q] w fun e w' => e = .returned (.int .i64 2) ∧ Below w.heap.size w w' := by
  unfold specV
  go_enter Try.func9, Try.ntmps9
  go_wp2_with (first
    | (go_at_call 20; refine (tfind_6 _).mono ?_; rintro e w5 ⟨b1, rfl, c1, hb⟩; (have HC1 := Lib.hid c1); (obtain ⟨hs, hbw, hlt⟩ := spec_in hb); (have HB := Lib.hid hbw); (have s0 : w5.cell? ⟨w.heap.size, 0, none⟩ = some (.int .i64 6) := cell_of_blkT hs rfl); (have s1 : w5.cell? ⟨w.heap.size, 1, none⟩ = some (.int .i64 p) := cell_of_blkT hs rfl); (have s2 : w5.cell? ⟨w.heap.size, 2, none⟩ = some (.int .i64 q) := cell_of_blkT hs rfl); clear hb hs c1 hbw)
    | (go_at_call 48; refine (always1_any _ _ _ _ (cell_allocT HC1.out _)).mono ?_; rintro e w6 ⟨rfl, rfl⟩))
  go_ret
  exact ⟨rfl, HB.out.alloc (Nat.le_of_lt hlt) _⟩

theorem new_7 (p q : Int) (W : World) : Calls Try.prog 43 #[.int .i64 p, .int .i64 q] W fun e w' => e = .returned (.iface 86 (.agg #[.int .i64 p, .int .i64 q])) ∧ W = w' := by
  go_enter Try.func43, Try.ntmps43
  go_wp2_with fail
  go_ret
  exact ⟨rfl, rfl⟩

set_option maxRecDepth 100000 in
set_option maxHeartbeats 1000000 in
theorem object_7 (p q : Int) (w : World) : Calls Try.prog 18 #[specV 7 p q] w fun e w' => e = .returned (.tuple #[.iface 86 (.agg #[.int .i64 p, .int .i64 q]), .int .i64 0]) ∧ Below w.heap.size w w' := by
  unfold specV
  go_enter Try.func18, Try.ntmps18
  go_wp2_with (first
    | (go_at_call 20; refine (tfind_7 _).mono ?_; rintro e w5 ⟨rfl, hb⟩; (obtain ⟨hs, hbw, hlt⟩ := spec_in hb); (have HB := Lib.hid hbw); (have s0 : w5.cell? ⟨w.heap.size, 0, none⟩ = some (.int .i64 7) := cell_of_blkT hs rfl); (have s1 : w5.cell? ⟨w.heap.size, 1, none⟩ = some (.int .i64 p) := cell_of_blkT hs rfl); (have s2 : w5.cell? ⟨w.heap.size, 2, none⟩ = some (.int .i64 q) := cell_of_blkT hs rfl); clear hb hs hbw)
    | (go_at_call 43; refine (new_7 _ _ _).mono ?_; rintro e w6 ⟨rfl, rfl⟩))
  go_ret2
  exact ⟨rfl, HB.out.alloc (Nat.le_of_lt hlt) _⟩

set_option maxRecDepth 100000 in
set_option maxHeartbeats 1000000 in
theorem size_7 (n p q s er : Int) (hn : 1 ≤ n ∧ n ≤ 16) (hS : ∀ W, Calls Try.prog 104 #[.agg #[.int .i64 p, .int .i64 q], .int .i64 n] W fun e w' => e = .returned (.tuple #[.int .i64 s, .int .i64 er]) ∧ Below W.heap.size W w') (w : World) :
    Calls Try.prog 7 #[.int .i64 n, specV 7 p q] w fun e w' => e = .returned (.tuple #[.int .i64 s, .int .i64 er]) ∧ Below w.heap.size w w' := by
  have HS := Lib.hid hS
  have HP : Hid (∀ W, Calls Try.prog 17 #[.int .i64 n] W fun e w' => e = .returned (.bool true) ∧ W = w') := Lib.hid (fun W => by have := canPlay_any n W; rw [decide_eq_true hn] at this; exact this)
  have hm : ∀ w' : World, (method 242 86 (.agg #[.int .i64 p, .int .i64 q]) "Size").run Try.prog w' = .ok (104, .agg #[.int .i64 p, .int .i64 q]) w' := fun w' => by kernel_rfl
  clear hS hn
  unfold specV
  go_enter Try.func7, Try.ntmps7
  go_wp2_with (first
    | (go_at_call 17; refine (HP.out _).mono ?_; rintro e w4 ⟨rfl, rfl⟩)
    | (go_at_call 18; refine (object_7 p q _).mono ?_; rintro e w5 ⟨rfl, hb⟩; (obtain ⟨hs, hbw, hlt⟩ := spec_in hb); (have HB := Lib.hid hbw); clear hs hbw hb)
    | (go_at_call 104; refine (HS.out _).mono ?_; rintro e w6 ⟨rfl, hb⟩; (have HB6 := Lib.hid hb); clear hb))
  go_ret2
  exact ⟨rfl, HB.out.trans (HB6.out.mono (Nat.le_of_lt hlt))⟩

set_option maxRecDepth 100000 in
set_option maxHeartbeats 1000000 in
theorem tkinds_7 (p q : Int) (w : World) : Calls Try.prog 9 #[specV 7 p q] w fun e w' => e = .returned (.int .i64 (tbTyp p)) ∧ Below w.heap.size w w' := by
  unfold specV
  go_enter Try.func9, Try.ntmps9
  go_wp2_with (first
    | (go_at_call 20; refine (tfind_7 _).mono ?_; rintro e w5 ⟨rfl, hb⟩; (obtain ⟨hs, hbw, hlt⟩ := spec_in hb); (have HB := Lib.hid hbw); (have s0 : w5.cell? ⟨w.heap.size, 0, none⟩ = some (.int .i64 7) := cell_of_blkT hs rfl); (have s1 : w5.cell? ⟨w.heap.size, 1, none⟩ = some (.int .i64 p) := cell_of_blkT hs rfl); (have s2 : w5.cell? ⟨w.heap.size, 2, none⟩ = some (.int .i64 q) := cell_of_blkT hs rfl); clear hb hs hbw)
    | (go_at_call 44; refine (seqKinds_any _ _).mono ?_; rintro e w6 ⟨rfl, hb⟩; (have HB6 := Lib.hid hb); clear hb))
  go_ret
  exact ⟨rfl, (HB.out.alloc (Nat.le_of_lt hlt) _).trans (HB6.out.mono (by simp; omega))⟩

theorem new_8 (p q : Int) (W : World) : Calls Try.prog 45 #[.int .i64 p, .int .i64 q] W fun e w' => e = .returned (.iface 95 (.agg #[.int .i64 p, .int .i64 q])) ∧ W = w' := by
  go_enter Try.func45, Try.ntmps45
  go_wp2_with fail
  go_ret
  exact ⟨rfl, rfl⟩

set_option maxRecDepth 100000 in
set_option maxHeartbeats 1000000 in
theorem object_8 (p q : Int) (w : World) : Calls Try.prog 18 #[specV 8 p q] w fun e w' => e = .returned (.tuple #[.iface 95 (.agg #[.int .i64 p, .int .i64 q]), .int .i64 0]) ∧ Below w.heap.size w w' := by
  unfold specV
  go_enter Try.func18, Try.ntmps18
  go_wp2_with (first
    | (go_at_call 20; refine (tfind_8 _).mono ?_; rintro e w5 ⟨b1, rfl, c1, hb⟩; (have HC1 := Lib.hid c1); (obtain ⟨hs, hbw, hlt⟩ := spec_in hb); (have HB := Lib.hid hbw); (have s0 : w5.cell? ⟨w.heap.size, 0, none⟩ = some (.int .i64 8) := cell_of_blkT hs rfl); (have s1 : w5.cell? ⟨w.heap.size, 1, none⟩ = some (.int .i64 p) := cell_of_blkT hs rfl); (have s2 : w5.cell? ⟨w.heap.size, 2, none⟩ = some (.int .i64 q) := cell_of_blkT hs rfl); clear hb hs c1 hbw)
    | (go_at_call 45; refine (new_8 _ _ _).mono ?_; rintro e w6 ⟨rfl, rfl⟩))
  go_ret2
  exact ⟨rfl, HB.out.alloc (Nat.le_of_lt hlt) _⟩

set_option maxRecDepth 100000 in
set_option maxHeartbeats 1000000 in
theorem size_8 (n p q s er : Int) (hn : 1 ≤ n ∧ n ≤ 16) (hS : ∀ W, Calls Try.prog 106 #[.agg #[.int .i64 p, .int .i64 q], .int .i64 n] W fun e w' => e = .returned (.tuple #[.int .i64 s, .int .i64 er]) ∧ Below W.heap.size W w') (w : World) :
    Calls Try.prog 7 #[.int .i64 n, specV 8 p q] w fun e w' => e = .returned (.tuple #[.int .i64 s, .int .i64 er]) ∧ Below w.heap.size w w' := by
  have HS := Lib.hid hS
  have HP : Hid (∀ W, Calls Try.prog 17 #[.int .i64 n] W fun e w' => e = .returned (.bool true) ∧ W = w') := Lib.hid (fun W => by have := canPlay_any n W; rw [decide_eq_true hn] at this; exact this)
  have hm : ∀ w' : World, (method 242 95 (.agg #[.int .i64 p, .int .i64 q]) "Size").run Try.prog w' = .ok (106, .agg #[.int .i64 p, .int .i64 q]) w' := fun w' => by kernel_rfl
  clear hS hn
  unfold specV
  go_enter Try.func7, Try.ntmps7
  go_wp2_with (first
    | (go_at_call 17; refine (HP.out _).mono ?_; rintro e w4 ⟨rfl, rfl⟩)
    | (go_at_call 18; refine (object_8 p q _).mono ?_; rintro e w5 ⟨rfl, hb⟩; (obtain ⟨hs, hbw, hlt⟩ := spec_in hb); (have HB := Lib.hid hbw); clear hs hbw hb)
    | (go_at_call 106; refine (HS.out _).mono ?_; rintro e w6 ⟨rfl, hb⟩; (have HB6 := Lib.hid hb); clear hb))
  go_ret2
  exact ⟨rfl, HB.out.trans (HB6.out.mono (Nat.le_of_lt hlt))⟩

set_option maxRecDepth 100000 in
set_option maxHeartbeats 1000000 in
theorem tkinds_8 (p q : Int) (w : World) : Calls Try.prog 9 #[specV 8 p q] w fun e w' => e = .returned (.int .i64 2) ∧ Below w.heap.size w w' := by
  unfold specV
  go_enter Try.func9, Try.ntmps9
  go_wp2_with (first
    | (go_at_call 20; refine (tfind_8 _).mono ?_; rintro e w5 ⟨b1, rfl, c1, hb⟩; (have HC1 := Lib.hid c1); (obtain ⟨hs, hbw, hlt⟩ := spec_in hb); (have HB := Lib.hid hbw); (have s0 : w5.cell? ⟨w.heap.size, 0, none⟩ = some (.int .i64 8) := cell_of_blkT hs rfl); (have s1 : w5.cell? ⟨w.heap.size, 1, none⟩ = some (.int .i64 p) := cell_of_blkT hs rfl); (have s2 : w5.cell? ⟨w.heap.size, 2, none⟩ = some (.int .i64 q) := cell_of_blkT hs rfl); clear hb hs c1 hbw)
    | (go_at_call 48; refine (always1_any _ _ _ _ (cell_allocT HC1.out _)).mono ?_; rintro e w6 ⟨rfl, rfl⟩))
  go_ret
  exact ⟨rfl, HB.out.alloc (Nat.le_of_lt hlt) _⟩

theorem new_9 (p : Int) (W : World) : Calls Try.prog 46 #[.int .i64 p] W fun e w' => e = .returned (.iface 97 (.agg #[.int .i64 p])) ∧ W = w' := by
  go_enter Try.func46, Try.ntmps46
  go_wp2_with fail
  go_ret
  exact ⟨rfl, rfl⟩

set_option maxHeartbeats 400000 in
theorem made_9 (b : Nat) (p q : Int) (W : World) (h : W.cell? ⟨b, 0, none⟩ = some (.func (.func 46) #[] #[])) : Calls Try.prog 47 #[.int .i64 p, .int .i64 q, .pointer (some ⟨b, 0, none⟩)] W fun e w' => e = .returned (.iface 97 (.agg #[.int .i64 p])) ∧ W = w' := by
  go_enter Try.func47, Try.ntmps47
  go_wp2_with (go_at_call 46; refine (new_9 p _).mono ?_; rintro e w5 ⟨rfl, rfl⟩)
  go_ret
  exact ⟨rfl, rfl⟩

set_option maxRecDepth 100000 in
set_option maxHeartbeats 1000000 in
theorem object_9 (p q : Int) (w : World) : Calls Try.prog 18 #[specV 9 p q] w fun e w' => e = .returned (.tuple #[.iface 97 (.agg #[.int .i64 p]), .int .i64 0]) ∧ Below w.heap.size w w' := by
  unfold specV
  go_enter Try.func18, Try.ntmps18
  go_wp2_with (first
    | (go_at_call 20; refine (tfind_9 _).mono ?_; rintro e w5 ⟨b0, b1, rfl, c0, c1, hb⟩; (have HC0 := Lib.hid c0); (have HC1 := Lib.hid c1); (obtain ⟨hs, hbw, hlt⟩ := spec_in hb); (have HB := Lib.hid hbw); (have s0 : w5.cell? ⟨w.heap.size, 0, none⟩ = some (.int .i64 9) := cell_of_blkT hs rfl); (have s1 : w5.cell? ⟨w.heap.size, 1, none⟩ = some (.int .i64 p) := cell_of_blkT hs rfl); (have s2 : w5.cell? ⟨w.heap.size, 2, none⟩ = some (.int .i64 q) := cell_of_blkT hs rfl); clear hb hs c0 c1 hbw)
    | (go_at_call 47; refine (made_9 _ _ _ _ (cell_allocT HC0.out _)).mono ?_; rintro e w6 ⟨rfl, rfl⟩))
  go_ret2
  exact ⟨rfl, HB.out.alloc (Nat.le_of_lt hlt) _⟩

set_option maxRecDepth 100000 in
set_option maxHeartbeats 1000000 in
theorem size_9 (n p q s er : Int) (hn : 1 ≤ n ∧ n ≤ 16) (hS : ∀ W, Calls Try.prog 113 #[.agg #[.int .i64 p], .int .i64 n] W fun e w' => e = .returned (.tuple #[.int .i64 s, .int .i64 er]) ∧ Below W.heap.size W w') (w : World) :
    Calls Try.prog 7 #[.int .i64 n, specV 9 p q] w fun e w' => e = .returned (.tuple #[.int .i64 s, .int .i64 er]) ∧ Below w.heap.size w w' := by
  have HS := Lib.hid hS
  have HP : Hid (∀ W, Calls Try.prog 17 #[.int .i64 n] W fun e w' => e = .returned (.bool true) ∧ W = w') := Lib.hid (fun W => by have := canPlay_any n W; rw [decide_eq_true hn] at this; exact this)
  have hm : ∀ w' : World, (method 242 97 (.agg #[.int .i64 p]) "Size").run Try.prog w' = .ok (113, .agg #[.int .i64 p]) w' := fun w' => by kernel_rfl
  clear hS hn
  unfold specV
  go_enter Try.func7, Try.ntmps7
  go_wp2_with (first
    | (go_at_call 17; refine (HP.out _).mono ?_; rintro e w4 ⟨rfl, rfl⟩)
    | (go_at_call 18; refine (object_9 p q _).mono ?_; rintro e w5 ⟨rfl, hb⟩; (obtain ⟨hs, hbw, hlt⟩ := spec_in hb); (have HB := Lib.hid hbw); clear hs hbw hb)
    | (go_at_call 113; refine (HS.out _).mono ?_; rintro e w6 ⟨rfl, hb⟩; (have HB6 := Lib.hid hb); clear hb))
  go_ret2
  exact ⟨rfl, HB.out.trans (HB6.out.mono (Nat.le_of_lt hlt))⟩

set_option maxRecDepth 100000 in
set_option maxHeartbeats 1000000 in
theorem tkinds_9 (p q : Int) (w : World) : Calls Try.prog 9 #[specV 9 p q] w fun e w' => e = .returned (.int .i64 2) ∧ Below w.heap.size w w' := by
  unfold specV
  go_enter Try.func9, Try.ntmps9
  go_wp2_with (first
    | (go_at_call 20; refine (tfind_9 _).mono ?_; rintro e w5 ⟨b0, b1, rfl, c0, c1, hb⟩; (have HC0 := Lib.hid c0); (have HC1 := Lib.hid c1); (obtain ⟨hs, hbw, hlt⟩ := spec_in hb); (have HB := Lib.hid hbw); (have s0 : w5.cell? ⟨w.heap.size, 0, none⟩ = some (.int .i64 9) := cell_of_blkT hs rfl); (have s1 : w5.cell? ⟨w.heap.size, 1, none⟩ = some (.int .i64 p) := cell_of_blkT hs rfl); (have s2 : w5.cell? ⟨w.heap.size, 2, none⟩ = some (.int .i64 q) := cell_of_blkT hs rfl); clear hb hs c0 c1 hbw)
    | (go_at_call 48; refine (always1_any _ _ _ _ (cell_allocT HC1.out _)).mono ?_; rintro e w6 ⟨rfl, rfl⟩))
  go_ret
  exact ⟨rfl, HB.out.alloc (Nat.le_of_lt hlt) _⟩

set_option maxRecDepth 100000 in
set_option maxHeartbeats 1000000 in
theorem object_none (k p q : Int) (hk : ¬ (0 ≤ k ∧ k ≤ 9)) (w : World) : Calls Try.prog 18 #[specV k p q] w fun e w' => e = .returned (.tuple #[.nilIface, .int .i64 9]) ∧ Below w.heap.size w w' := by
  have HF := Lib.hid (fun w => tfind_none k w hk)
  clear hk
  unfold specV
  go_enter Try.func18, Try.ntmps18
  go_wp2_with (go_at_call 20; refine (HF.out _).mono ?_; rintro e w5 ⟨rfl, hb⟩; (obtain ⟨hs, hbw, hlt⟩ := spec_in hb); (have HB := Lib.hid hbw); (have s0 : w5.cell? ⟨w.heap.size, 0, none⟩ = some (.int .i64 k) := cell_of_blkT hs rfl); clear hb hs hbw)
  go_ret2
  exact ⟨rfl, HB.out.alloc (Nat.le_of_lt hlt) _⟩
set_option maxRecDepth 100000 in
set_option maxHeartbeats 1000000 in
theorem tkinds_none (k p q : Int) (hk : ¬ (0 ≤ k ∧ k ≤ 9)) (w : World) : Calls Try.prog 9 #[specV k p q] w fun e w' => e = .returned (.int .i64 0) ∧ Below w.heap.size w w' := by
  have HF := Lib.hid (fun w => tfind_none k w hk)
  clear hk
  unfold specV
  go_enter Try.func9, Try.ntmps9
  go_wp2_with (go_at_call 20; refine (HF.out _).mono ?_; rintro e w5 ⟨rfl, hb⟩; (obtain ⟨hs, hbw, hlt⟩ := spec_in hb); (have HB := Lib.hid hbw); (have s0 : w5.cell? ⟨w.heap.size, 0, none⟩ = some (.int .i64 k) := cell_of_blkT hs rfl); clear hb hs hbw)
  go_ret
  exact ⟨rfl, HB.out.alloc (Nat.le_of_lt hlt) _⟩
set_option maxRecDepth 100000 in
set_option maxHeartbeats 1000000 in
theorem size_none (n k p q : Int) (hn : 1 ≤ n ∧ n ≤ 16) (hk : ¬ (0 ≤ k ∧ k ≤ 9)) (w : World) :
    Calls Try.prog 7 #[.int .i64 n, specV k p q] w fun e w' => e = .returned (.tuple #[.int .i64 0, .int .i64 9]) ∧ Below w.heap.size w w' := by
  have HO := Lib.hid (fun w => object_none k p q hk w)
  have HP : Hid (∀ W, Calls Try.prog 17 #[.int .i64 n] W fun e w' => e = .returned (.bool true) ∧ W = w') := Lib.hid (fun W => by have := canPlay_any n W; rw [decide_eq_true hn] at this; exact this)
  clear hn hk
  unfold specV at *
  go_enter Try.func7, Try.ntmps7
  go_wp2_with (first
    | (go_at_call 17; refine (HP.out _).mono ?_; rintro e w4 ⟨rfl, rfl⟩)
    | (go_at_call 18; refine (HO.out _).mono ?_; rintro e w5 ⟨rfl, hb⟩; (obtain ⟨hs, hbw, hlt⟩ := spec_in hb); (have HB := Lib.hid hbw); clear hs hbw hb))
  go_ret2
  exact ⟨rfl, HB.out⟩
set_option maxHeartbeats 1000000 in
theorem size_far (n k p q : Int) (hn : ¬ (1 ≤ n ∧ n ≤ 16)) (w : World) :
    Calls Try.prog 7 #[.int .i64 n, specV k p q] w fun e w' => e = .returned (.tuple #[.int .i64 0, .int .i64 1]) ∧ Below w.heap.size w w' := by
  have HP : Hid (∀ W, Calls Try.prog 17 #[.int .i64 n] W fun e w' => e = .returned (.bool false) ∧ W = w') := Lib.hid (fun W => by have := canPlay_any n W; rw [decide_eq_false hn] at this; exact this)
  clear hn
  unfold specV
  go_enter Try.func7, Try.ntmps7
  go_wp2_with (go_at_call 17; refine (HP.out _).mono ?_; rintro e w4 ⟨rfl, rfl⟩)
  go_ret2
  exact ⟨rfl, (Below.refl _ _).alloc (Nat.le_refl _) _⟩
end Go.Proofs.Ytgmebjnhbkgbfaa
