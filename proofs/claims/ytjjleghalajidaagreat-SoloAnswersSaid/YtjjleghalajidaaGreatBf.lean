/- table: object, Size, Kinds. -/
import Derived.Test.YtjjleghalajidaaGreatGB1
import Derived.Test.YtjjleghalajidaaGreatBg
namespace Go.Proofs.YtjjleghalajidaaGreat.Tb
set_option maxRecDepth 100000
open Go.ChangeShapes Go.WideShapes Go.ChangeAt Go.RowKit
set_option linter.unusedVariables false
set_option linter.unusedSimpArgs false

theorem cell_allocT {w : World} {a : Addr} {v : Value} (h : w.cell? a = some v) (o : Obj) : (w.alloc o).cell? a = some v :=
  (((Below.refl w.heap.size w).alloc (Nat.le_refl _) o).cell (World.block_lt_of_cell? w _ h)).trans h
set_option maxHeartbeats 400000 in
theorem canPlay_any (n : Int) (W : World) : Calls Tryz.prog 107 #[.int .i64 n] W fun e w' => e = .returned (.bool (decide (1 ≤ n ∧ n ≤ 16))) ∧ W = w' := by
  by_cases h1 : 1 ≤ n
  · by_cases h2 : n ≤ 16
    · go_enter Tryz.func107, Tryz.ntmps107
      go_wp2_with fail
      go_ret
      exact ⟨ret_bool (by simp [h1, h2]), rfl⟩
    · go_enter Tryz.func107, Tryz.ntmps107
      go_wp2_with fail
      go_ret
      exact ⟨ret_bool (by simp; omega), rfl⟩
  · go_enter Tryz.func107, Tryz.ntmps107
    go_wp2_with fail
    go_ret
    exact ⟨ret_bool (by simp; omega), rfl⟩
theorem always1_any (b : Nat) (v p : Int) (W : World) (h : W.cell? ⟨b, 0, none⟩ = some (.int .i64 v)) : Calls Tryz.prog 200 #[.int .i64 p, .pointer (some ⟨b, 0, none⟩)] W fun e w' => e = .returned (.int .i64 v) ∧ W = w' := by
  go_enter Tryz.func200, Tryz.ntmps200
  go_wp2_with fail
  go_ret
  exact ⟨rfl, rfl⟩

theorem new_0 (p : Int) (W : World) : Calls Tryz.prog 185 #[.int .i64 p] W fun e w' => e = .returned (.iface 218 (.agg #[.int .i64 p])) ∧ W = w' := by
  go_enter Tryz.func185, Tryz.ntmps185
  go_wp2_with fail
  go_ret
  exact ⟨rfl, rfl⟩

set_option maxHeartbeats 400000 in
theorem made_0 (b : Nat) (p q : Int) (W : World) (h : W.cell? ⟨b, 0, none⟩ = some (.func (.func 185) #[] #[])) : Calls Tryz.prog 199 #[.int .i64 p, .int .i64 q, .pointer (some ⟨b, 0, none⟩)] W fun e w' => e = .returned (.iface 218 (.agg #[.int .i64 p])) ∧ W = w' := by
  go_enter Tryz.func199, Tryz.ntmps199
  go_wp2_with (go_at_call 185; refine (new_0 p _).mono ?_; rintro e w5 ⟨rfl, rfl⟩)
  go_ret
  exact ⟨rfl, rfl⟩

set_option maxRecDepth 100000 in
set_option maxHeartbeats 1000000 in
theorem object_0 (p q : Int) (w : World) : Calls Tryz.prog 108 #[specV 0 p q] w fun e w' => e = .returned (.tuple #[.iface 218 (.agg #[.int .i64 p]), .int .i64 0]) ∧ Below w.heap.size w w' := by
  unfold specV
  go_enter Tryz.func108, Tryz.ntmps108
  go_wp2_with (first
    | (go_at_call 128; refine (tfind_0 _).mono ?_; rintro e w5 ⟨b0, b1, rfl, c0, c1, hb⟩; (have HC0 := Lib.hid c0); (have HC1 := Lib.hid c1); (obtain ⟨hs, hbw, hlt⟩ := spec_in hb); (have HB := Lib.hid hbw); (have s0 : w5.cell? ⟨w.heap.size, 0, none⟩ = some (.int .i64 0) := cell_of_blkT hs rfl); (have s1 : w5.cell? ⟨w.heap.size, 1, none⟩ = some (.int .i64 p) := cell_of_blkT hs rfl); (have s2 : w5.cell? ⟨w.heap.size, 2, none⟩ = some (.int .i64 q) := cell_of_blkT hs rfl); clear hb hs c0 c1 hbw)
    | (go_at_call 199; refine (made_0 _ _ _ _ (cell_allocT HC0.out _)).mono ?_; rintro e w6 ⟨rfl, rfl⟩))
  go_ret2
  exact ⟨rfl, HB.out.alloc (Nat.le_of_lt hlt) _⟩

set_option maxRecDepth 100000 in
set_option maxHeartbeats 1000000 in
theorem size_0 (n p q s er : Int) (hn : 1 ≤ n ∧ n ≤ 16) (hS : ∀ W, Calls Tryz.prog 221 #[.agg #[.int .i64 p], .int .i64 n] W fun e w' => e = .returned (.tuple #[.int .i64 s, .int .i64 er]) ∧ Below W.heap.size W w') (w : World) :
    Calls Tryz.prog 88 #[.int .i64 n, specV 0 p q] w fun e w' => e = .returned (.tuple #[.int .i64 s, .int .i64 er]) ∧ Below w.heap.size w w' := by
  have HS := Lib.hid hS
  have HP : Hid (∀ W, Calls Tryz.prog 107 #[.int .i64 n] W fun e w' => e = .returned (.bool true) ∧ W = w') := Lib.hid (fun W => by have := canPlay_any n W; rw [decide_eq_true hn] at this; exact this)
  have hm : ∀ w' : World, (method 367 218 (.agg #[.int .i64 p]) "Size").run Tryz.prog w' = .ok (221, .agg #[.int .i64 p]) w' := fun w' => by kernel_rfl
  clear hS hn
  unfold specV
  go_enter Tryz.func88, Tryz.ntmps88
  go_wp2_with (first
    | (go_at_call 107; refine (HP.out _).mono ?_; rintro e w4 ⟨rfl, rfl⟩)
    | (go_at_call 108; refine (object_0 p q _).mono ?_; rintro e w5 ⟨rfl, hb⟩; (obtain ⟨hs, hbw, hlt⟩ := spec_in hb); (have HB := Lib.hid hbw); clear hs hbw hb)
    | (go_at_call 221; refine (HS.out _).mono ?_; rintro e w6 ⟨rfl, hb⟩; (have HB6 := Lib.hid hb); clear hb))
  go_ret2
  exact ⟨rfl, HB.out.trans (HB6.out.mono (Nat.le_of_lt hlt))⟩

set_option maxRecDepth 100000 in
set_option maxHeartbeats 1000000 in
theorem tkinds_0 (p q : Int) (w : World) : Calls Tryz.prog 112 #[specV 0 p q] w fun e w' => e = .returned (.int .i64 4) ∧ Below w.heap.size w w' := by
  unfold specV
  go_enter Tryz.func112, Tryz.ntmps112
  go_wp2_with (first
    | (go_at_call 128; refine (tfind_0 _).mono ?_; rintro e w5 ⟨b0, b1, rfl, c0, c1, hb⟩; (have HC0 := Lib.hid c0); (have HC1 := Lib.hid c1); (obtain ⟨hs, hbw, hlt⟩ := spec_in hb); (have HB := Lib.hid hbw); (have s0 : w5.cell? ⟨w.heap.size, 0, none⟩ = some (.int .i64 0) := cell_of_blkT hs rfl); (have s1 : w5.cell? ⟨w.heap.size, 1, none⟩ = some (.int .i64 p) := cell_of_blkT hs rfl); (have s2 : w5.cell? ⟨w.heap.size, 2, none⟩ = some (.int .i64 q) := cell_of_blkT hs rfl); clear hb hs c0 c1 hbw)
    | (go_at_call 200; refine (always1_any _ _ _ _ (cell_allocT HC1.out _)).mono ?_; rintro e w6 ⟨rfl, rfl⟩))
  go_ret
  exact ⟨rfl, HB.out.alloc (Nat.le_of_lt hlt) _⟩

theorem new_1  (W : World) : Calls Tryz.prog 188 #[] W fun e w' => e = .returned (.iface 220 (.agg #[])) ∧ W = w' := by
  go_enter Tryz.func188, Tryz.ntmps188
  go_wp2_with fail
  go_ret
  exact ⟨rfl, rfl⟩

set_option maxHeartbeats 400000 in
theorem made_1 (b : Nat) (p q : Int) (W : World) (h : W.cell? ⟨b, 0, none⟩ = some (.func (.func 188) #[] #[])) : Calls Tryz.prog 201 #[.int .i64 p, .int .i64 q, .pointer (some ⟨b, 0, none⟩)] W fun e w' => e = .returned (.iface 220 (.agg #[])) ∧ W = w' := by
  go_enter Tryz.func201, Tryz.ntmps201
  go_wp2_with (go_at_call 188; refine (new_1 _).mono ?_; rintro e w5 ⟨rfl, rfl⟩)
  go_ret
  exact ⟨rfl, rfl⟩

set_option maxRecDepth 100000 in
set_option maxHeartbeats 1000000 in
theorem object_1 (p q : Int) (w : World) : Calls Tryz.prog 108 #[specV 1 p q] w fun e w' => e = .returned (.tuple #[.iface 220 (.agg #[]), .int .i64 0]) ∧ Below w.heap.size w w' := by
  unfold specV
  go_enter Tryz.func108, Tryz.ntmps108
  go_wp2_with (first
    | (go_at_call 128; refine (tfind_1 _).mono ?_; rintro e w5 ⟨b0, b1, rfl, c0, c1, hb⟩; (have HC0 := Lib.hid c0); (have HC1 := Lib.hid c1); (obtain ⟨hs, hbw, hlt⟩ := spec_in hb); (have HB := Lib.hid hbw); (have s0 : w5.cell? ⟨w.heap.size, 0, none⟩ = some (.int .i64 1) := cell_of_blkT hs rfl); (have s1 : w5.cell? ⟨w.heap.size, 1, none⟩ = some (.int .i64 p) := cell_of_blkT hs rfl); (have s2 : w5.cell? ⟨w.heap.size, 2, none⟩ = some (.int .i64 q) := cell_of_blkT hs rfl); clear hb hs c0 c1 hbw)
    | (go_at_call 201; refine (made_1 _ _ _ _ (cell_allocT HC0.out _)).mono ?_; rintro e w6 ⟨rfl, rfl⟩))
  go_ret2
  exact ⟨rfl, HB.out.alloc (Nat.le_of_lt hlt) _⟩

set_option maxRecDepth 100000 in
set_option maxHeartbeats 1000000 in
theorem size_1 (n p q s er : Int) (hn : 1 ≤ n ∧ n ≤ 16) (hS : ∀ W, Calls Tryz.prog 223 #[.agg #[], .int .i64 n] W fun e w' => e = .returned (.tuple #[.int .i64 s, .int .i64 er]) ∧ Below W.heap.size W w') (w : World) :
    Calls Tryz.prog 88 #[.int .i64 n, specV 1 p q] w fun e w' => e = .returned (.tuple #[.int .i64 s, .int .i64 er]) ∧ Below w.heap.size w w' := by
  have HS := Lib.hid hS
  have HP : Hid (∀ W, Calls Tryz.prog 107 #[.int .i64 n] W fun e w' => e = .returned (.bool true) ∧ W = w') := Lib.hid (fun W => by have := canPlay_any n W; rw [decide_eq_true hn] at this; exact this)
  have hm : ∀ w' : World, (method 367 220 (.agg #[]) "Size").run Tryz.prog w' = .ok (223, .agg #[]) w' := fun w' => by kernel_rfl
  clear hS hn
  unfold specV
  go_enter Tryz.func88, Tryz.ntmps88
  go_wp2_with (first
    | (go_at_call 107; refine (HP.out _).mono ?_; rintro e w4 ⟨rfl, rfl⟩)
    | (go_at_call 108; refine (object_1 p q _).mono ?_; rintro e w5 ⟨rfl, hb⟩; (obtain ⟨hs, hbw, hlt⟩ := spec_in hb); (have HB := Lib.hid hbw); clear hs hbw hb)
    | (go_at_call 223; refine (HS.out _).mono ?_; rintro e w6 ⟨rfl, hb⟩; (have HB6 := Lib.hid hb); clear hb))
  go_ret2
  exact ⟨rfl, HB.out.trans (HB6.out.mono (Nat.le_of_lt hlt))⟩

set_option maxRecDepth 100000 in
set_option maxHeartbeats 1000000 in
theorem tkinds_1 (p q : Int) (w : World) : Calls Tryz.prog 112 #[specV 1 p q] w fun e w' => e = .returned (.int .i64 2) ∧ Below w.heap.size w w' := by
  unfold specV
  go_enter Tryz.func112, Tryz.ntmps112
  go_wp2_with (first
    | (go_at_call 128; refine (tfind_1 _).mono ?_; rintro e w5 ⟨b0, b1, rfl, c0, c1, hb⟩; (have HC0 := Lib.hid c0); (have HC1 := Lib.hid c1); (obtain ⟨hs, hbw, hlt⟩ := spec_in hb); (have HB := Lib.hid hbw); (have s0 : w5.cell? ⟨w.heap.size, 0, none⟩ = some (.int .i64 1) := cell_of_blkT hs rfl); (have s1 : w5.cell? ⟨w.heap.size, 1, none⟩ = some (.int .i64 p) := cell_of_blkT hs rfl); (have s2 : w5.cell? ⟨w.heap.size, 2, none⟩ = some (.int .i64 q) := cell_of_blkT hs rfl); clear hb hs c0 c1 hbw)
    | (go_at_call 200; refine (always1_any _ _ _ _ (cell_allocT HC1.out _)).mono ?_; rintro e w6 ⟨rfl, rfl⟩))
  go_ret
  exact ⟨rfl, HB.out.alloc (Nat.le_of_lt hlt) _⟩

theorem new_2  (W : World) : Calls Tryz.prog 189 #[] W fun e w' => e = .returned (.iface 221 (.agg #[])) ∧ W = w' := by
  go_enter Tryz.func189, Tryz.ntmps189
  go_wp2_with fail
  go_ret
  exact ⟨rfl, rfl⟩

set_option maxHeartbeats 400000 in
theorem made_2 (b : Nat) (p q : Int) (W : World) (h : W.cell? ⟨b, 0, none⟩ = some (.func (.func 189) #[] #[])) : Calls Tryz.prog 201 #[.int .i64 p, .int .i64 q, .pointer (some ⟨b, 0, none⟩)] W fun e w' => e = .returned (.iface 221 (.agg #[])) ∧ W = w' := by
  go_enter Tryz.func201, Tryz.ntmps201
  go_wp2_with (go_at_call 189; refine (new_2 _).mono ?_; rintro e w5 ⟨rfl, rfl⟩)
  go_ret
  exact ⟨rfl, rfl⟩

set_option maxRecDepth 100000 in
set_option maxHeartbeats 1000000 in
theorem object_2 (p q : Int) (w : World) : Calls Tryz.prog 108 #[specV 2 p q] w fun e w' => e = .returned (.tuple #[.iface 221 (.agg #[]), .int .i64 0]) ∧ Below w.heap.size w w' := by
  unfold specV
  go_enter Tryz.func108, Tryz.ntmps108
  go_wp2_with (first
    | (go_at_call 128; refine (tfind_2 _).mono ?_; rintro e w5 ⟨b0, b1, rfl, c0, c1, hb⟩; (have HC0 := Lib.hid c0); (have HC1 := Lib.hid c1); (obtain ⟨hs, hbw, hlt⟩ := spec_in hb); (have HB := Lib.hid hbw); (have s0 : w5.cell? ⟨w.heap.size, 0, none⟩ = some (.int .i64 2) := cell_of_blkT hs rfl); (have s1 : w5.cell? ⟨w.heap.size, 1, none⟩ = some (.int .i64 p) := cell_of_blkT hs rfl); (have s2 : w5.cell? ⟨w.heap.size, 2, none⟩ = some (.int .i64 q) := cell_of_blkT hs rfl); clear hb hs c0 c1 hbw)
    | (go_at_call 201; refine (made_2 _ _ _ _ (cell_allocT HC0.out _)).mono ?_; rintro e w6 ⟨rfl, rfl⟩))
  go_ret2
  exact ⟨rfl, HB.out.alloc (Nat.le_of_lt hlt) _⟩

set_option maxRecDepth 100000 in
set_option maxHeartbeats 1000000 in
theorem size_2 (n p q s er : Int) (hn : 1 ≤ n ∧ n ≤ 16) (hS : ∀ W, Calls Tryz.prog 225 #[.agg #[], .int .i64 n] W fun e w' => e = .returned (.tuple #[.int .i64 s, .int .i64 er]) ∧ Below W.heap.size W w') (w : World) :
    Calls Tryz.prog 88 #[.int .i64 n, specV 2 p q] w fun e w' => e = .returned (.tuple #[.int .i64 s, .int .i64 er]) ∧ Below w.heap.size w w' := by
  have HS := Lib.hid hS
  have HP : Hid (∀ W, Calls Tryz.prog 107 #[.int .i64 n] W fun e w' => e = .returned (.bool true) ∧ W = w') := Lib.hid (fun W => by have := canPlay_any n W; rw [decide_eq_true hn] at this; exact this)
  have hm : ∀ w' : World, (method 367 221 (.agg #[]) "Size").run Tryz.prog w' = .ok (225, .agg #[]) w' := fun w' => by kernel_rfl
  clear hS hn
  unfold specV
  go_enter Tryz.func88, Tryz.ntmps88
  go_wp2_with (first
    | (go_at_call 107; refine (HP.out _).mono ?_; rintro e w4 ⟨rfl, rfl⟩)
    | (go_at_call 108; refine (object_2 p q _).mono ?_; rintro e w5 ⟨rfl, hb⟩; (obtain ⟨hs, hbw, hlt⟩ := spec_in hb); (have HB := Lib.hid hbw); clear hs hbw hb)
    | (go_at_call 225; refine (HS.out _).mono ?_; rintro e w6 ⟨rfl, hb⟩; (have HB6 := Lib.hid hb); clear hb))
  go_ret2
  exact ⟨rfl, HB.out.trans (HB6.out.mono (Nat.le_of_lt hlt))⟩

set_option maxRecDepth 100000 in
set_option maxHeartbeats 1000000 in
theorem tkinds_2 (p q : Int) (w : World) : Calls Tryz.prog 112 #[specV 2 p q] w fun e w' => e = .returned (.int .i64 2) ∧ Below w.heap.size w w' := by
  unfold specV
  go_enter Tryz.func112, Tryz.ntmps112
  go_wp2_with (first
    | (go_at_call 128; refine (tfind_2 _).mono ?_; rintro e w5 ⟨b0, b1, rfl, c0, c1, hb⟩; (have HC0 := Lib.hid c0); (have HC1 := Lib.hid c1); (obtain ⟨hs, hbw, hlt⟩ := spec_in hb); (have HB := Lib.hid hbw); (have s0 : w5.cell? ⟨w.heap.size, 0, none⟩ = some (.int .i64 2) := cell_of_blkT hs rfl); (have s1 : w5.cell? ⟨w.heap.size, 1, none⟩ = some (.int .i64 p) := cell_of_blkT hs rfl); (have s2 : w5.cell? ⟨w.heap.size, 2, none⟩ = some (.int .i64 q) := cell_of_blkT hs rfl); clear hb hs c0 c1 hbw)
    | (go_at_call 200; refine (always1_any _ _ _ _ (cell_allocT HC1.out _)).mono ?_; rintro e w6 ⟨rfl, rfl⟩))
  go_ret
  exact ⟨rfl, HB.out.alloc (Nat.le_of_lt hlt) _⟩

theorem new_3  (W : World) : Calls Tryz.prog 190 #[] W fun e w' => e = .returned (.iface 222 (.agg #[])) ∧ W = w' := by
  go_enter Tryz.func190, Tryz.ntmps190
  go_wp2_with fail
  go_ret
  exact ⟨rfl, rfl⟩

set_option maxHeartbeats 400000 in
theorem made_3 (b : Nat) (p q : Int) (W : World) (h : W.cell? ⟨b, 0, none⟩ = some (.func (.func 190) #[] #[])) : Calls Tryz.prog 201 #[.int .i64 p, .int .i64 q, .pointer (some ⟨b, 0, none⟩)] W fun e w' => e = .returned (.iface 222 (.agg #[])) ∧ W = w' := by
  go_enter Tryz.func201, Tryz.ntmps201
  go_wp2_with (go_at_call 190; refine (new_3 _).mono ?_; rintro e w5 ⟨rfl, rfl⟩)
  go_ret
  exact ⟨rfl, rfl⟩

set_option maxRecDepth 100000 in
set_option maxHeartbeats 1000000 in
theorem object_3 (p q : Int) (w : World) : Calls Tryz.prog 108 #[specV 3 p q] w fun e w' => e = .returned (.tuple #[.iface 222 (.agg #[]), .int .i64 0]) ∧ Below w.heap.size w w' := by
  unfold specV
  go_enter Tryz.func108, Tryz.ntmps108
  go_wp2_with (first
    | (go_at_call 128; refine (tfind_3 _).mono ?_; rintro e w5 ⟨b0, b1, rfl, c0, c1, hb⟩; (have HC0 := Lib.hid c0); (have HC1 := Lib.hid c1); (obtain ⟨hs, hbw, hlt⟩ := spec_in hb); (have HB := Lib.hid hbw); (have s0 : w5.cell? ⟨w.heap.size, 0, none⟩ = some (.int .i64 3) := cell_of_blkT hs rfl); (have s1 : w5.cell? ⟨w.heap.size, 1, none⟩ = some (.int .i64 p) := cell_of_blkT hs rfl); (have s2 : w5.cell? ⟨w.heap.size, 2, none⟩ = some (.int .i64 q) := cell_of_blkT hs rfl); clear hb hs c0 c1 hbw)
    | (go_at_call 201; refine (made_3 _ _ _ _ (cell_allocT HC0.out _)).mono ?_; rintro e w6 ⟨rfl, rfl⟩))
  go_ret2
  exact ⟨rfl, HB.out.alloc (Nat.le_of_lt hlt) _⟩

set_option maxRecDepth 100000 in
set_option maxHeartbeats 1000000 in
theorem size_3 (n p q s er : Int) (hn : 1 ≤ n ∧ n ≤ 16) (hS : ∀ W, Calls Tryz.prog 227 #[.agg #[], .int .i64 n] W fun e w' => e = .returned (.tuple #[.int .i64 s, .int .i64 er]) ∧ Below W.heap.size W w') (w : World) :
    Calls Tryz.prog 88 #[.int .i64 n, specV 3 p q] w fun e w' => e = .returned (.tuple #[.int .i64 s, .int .i64 er]) ∧ Below w.heap.size w w' := by
  have HS := Lib.hid hS
  have HP : Hid (∀ W, Calls Tryz.prog 107 #[.int .i64 n] W fun e w' => e = .returned (.bool true) ∧ W = w') := Lib.hid (fun W => by have := canPlay_any n W; rw [decide_eq_true hn] at this; exact this)
  have hm : ∀ w' : World, (method 367 222 (.agg #[]) "Size").run Tryz.prog w' = .ok (227, .agg #[]) w' := fun w' => by kernel_rfl
  clear hS hn
  unfold specV
  go_enter Tryz.func88, Tryz.ntmps88
  go_wp2_with (first
    | (go_at_call 107; refine (HP.out _).mono ?_; rintro e w4 ⟨rfl, rfl⟩)
    | (go_at_call 108; refine (object_3 p q _).mono ?_; rintro e w5 ⟨rfl, hb⟩; (obtain ⟨hs, hbw, hlt⟩ := spec_in hb); (have HB := Lib.hid hbw); clear hs hbw hb)
    | (go_at_call 227; refine (HS.out _).mono ?_; rintro e w6 ⟨rfl, hb⟩; (have HB6 := Lib.hid hb); clear hb))
  go_ret2
  exact ⟨rfl, HB.out.trans (HB6.out.mono (Nat.le_of_lt hlt))⟩

set_option maxRecDepth 100000 in
set_option maxHeartbeats 1000000 in
theorem tkinds_3 (p q : Int) (w : World) : Calls Tryz.prog 112 #[specV 3 p q] w fun e w' => e = .returned (.int .i64 3) ∧ Below w.heap.size w w' := by
  unfold specV
  go_enter Tryz.func112, Tryz.ntmps112
  go_wp2_with (first
    | (go_at_call 128; refine (tfind_3 _).mono ?_; rintro e w5 ⟨b0, b1, rfl, c0, c1, hb⟩; (have HC0 := Lib.hid c0); (have HC1 := Lib.hid c1); (obtain ⟨hs, hbw, hlt⟩ := spec_in hb); (have HB := Lib.hid hbw); (have s0 : w5.cell? ⟨w.heap.size, 0, none⟩ = some (.int .i64 3) := cell_of_blkT hs rfl); (have s1 : w5.cell? ⟨w.heap.size, 1, none⟩ = some (.int .i64 p) := cell_of_blkT hs rfl); (have s2 : w5.cell? ⟨w.heap.size, 2, none⟩ = some (.int .i64 q) := cell_of_blkT hs rfl); clear hb hs c0 c1 hbw)
    | (go_at_call 200; refine (always1_any _ _ _ _ (cell_allocT HC1.out _)).mono ?_; rintro e w6 ⟨rfl, rfl⟩))
  go_ret
  exact ⟨rfl, HB.out.alloc (Nat.le_of_lt hlt) _⟩

theorem new_4 (p : Int) (W : World) : Calls Tryz.prog 191 #[.int .i64 p] W fun e w' => e = .returned (.iface 224 (.agg #[.int .i64 p])) ∧ W = w' := by
  go_enter Tryz.func191, Tryz.ntmps191
  go_wp2_with fail
  go_ret
  exact ⟨rfl, rfl⟩

set_option maxHeartbeats 400000 in
theorem made_4 (b : Nat) (p q : Int) (W : World) (h : W.cell? ⟨b, 0, none⟩ = some (.func (.func 191) #[] #[])) : Calls Tryz.prog 199 #[.int .i64 p, .int .i64 q, .pointer (some ⟨b, 0, none⟩)] W fun e w' => e = .returned (.iface 224 (.agg #[.int .i64 p])) ∧ W = w' := by
  go_enter Tryz.func199, Tryz.ntmps199
  go_wp2_with (go_at_call 191; refine (new_4 p _).mono ?_; rintro e w5 ⟨rfl, rfl⟩)
  go_ret
  exact ⟨rfl, rfl⟩

set_option maxRecDepth 100000 in
set_option maxHeartbeats 1000000 in
theorem object_4 (p q : Int) (w : World) : Calls Tryz.prog 108 #[specV 4 p q] w fun e w' => e = .returned (.tuple #[.iface 224 (.agg #[.int .i64 p]), .int .i64 0]) ∧ Below w.heap.size w w' := by
  unfold specV
  go_enter Tryz.func108, Tryz.ntmps108
  go_wp2_with (first
    | (go_at_call 128; refine (tfind_4 _).mono ?_; rintro e w5 ⟨b0, b1, rfl, c0, c1, hb⟩; (have HC0 := Lib.hid c0); (have HC1 := Lib.hid c1); (obtain ⟨hs, hbw, hlt⟩ := spec_in hb); (have HB := Lib.hid hbw); (have s0 : w5.cell? ⟨w.heap.size, 0, none⟩ = some (.int .i64 4) := cell_of_blkT hs rfl); (have s1 : w5.cell? ⟨w.heap.size, 1, none⟩ = some (.int .i64 p) := cell_of_blkT hs rfl); (have s2 : w5.cell? ⟨w.heap.size, 2, none⟩ = some (.int .i64 q) := cell_of_blkT hs rfl); clear hb hs c0 c1 hbw)
    | (go_at_call 199; refine (made_4 _ _ _ _ (cell_allocT HC0.out _)).mono ?_; rintro e w6 ⟨rfl, rfl⟩))
  go_ret2
  exact ⟨rfl, HB.out.alloc (Nat.le_of_lt hlt) _⟩

set_option maxRecDepth 100000 in
set_option maxHeartbeats 1000000 in
theorem size_4 (n p q s er : Int) (hn : 1 ≤ n ∧ n ≤ 16) (hS : ∀ W, Calls Tryz.prog 229 #[.agg #[.int .i64 p], .int .i64 n] W fun e w' => e = .returned (.tuple #[.int .i64 s, .int .i64 er]) ∧ Below W.heap.size W w') (w : World) :
    Calls Tryz.prog 88 #[.int .i64 n, specV 4 p q] w fun e w' => e = .returned (.tuple #[.int .i64 s, .int .i64 er]) ∧ Below w.heap.size w w' := by
  have HS := Lib.hid hS
  have HP : Hid (∀ W, Calls Tryz.prog 107 #[.int .i64 n] W fun e w' => e = .returned (.bool true) ∧ W = w') := Lib.hid (fun W => by have := canPlay_any n W; rw [decide_eq_true hn] at this; exact this)
  have hm : ∀ w' : World, (method 367 224 (.agg #[.int .i64 p]) "Size").run Tryz.prog w' = .ok (229, .agg #[.int .i64 p]) w' := fun w' => by kernel_rfl
  clear hS hn
  unfold specV
  go_enter Tryz.func88, Tryz.ntmps88
  go_wp2_with (first
    | (go_at_call 107; refine (HP.out _).mono ?_; rintro e w4 ⟨rfl, rfl⟩)
    | (go_at_call 108; refine (object_4 p q _).mono ?_; rintro e w5 ⟨rfl, hb⟩; (obtain ⟨hs, hbw, hlt⟩ := spec_in hb); (have HB := Lib.hid hbw); clear hs hbw hb)
    | (go_at_call 229; refine (HS.out _).mono ?_; rintro e w6 ⟨rfl, hb⟩; (have HB6 := Lib.hid hb); clear hb))
  go_ret2
  exact ⟨rfl, HB.out.trans (HB6.out.mono (Nat.le_of_lt hlt))⟩

set_option maxRecDepth 100000 in
set_option maxHeartbeats 1000000 in
theorem tkinds_4 (p q : Int) (w : World) : Calls Tryz.prog 112 #[specV 4 p q] w fun e w' => e = .returned (.int .i64 2) ∧ Below w.heap.size w w' := by
  unfold specV
  go_enter Tryz.func112, Tryz.ntmps112
  go_wp2_with (first
    | (go_at_call 128; refine (tfind_4 _).mono ?_; rintro e w5 ⟨b0, b1, rfl, c0, c1, hb⟩; (have HC0 := Lib.hid c0); (have HC1 := Lib.hid c1); (obtain ⟨hs, hbw, hlt⟩ := spec_in hb); (have HB := Lib.hid hbw); (have s0 : w5.cell? ⟨w.heap.size, 0, none⟩ = some (.int .i64 4) := cell_of_blkT hs rfl); (have s1 : w5.cell? ⟨w.heap.size, 1, none⟩ = some (.int .i64 p) := cell_of_blkT hs rfl); (have s2 : w5.cell? ⟨w.heap.size, 2, none⟩ = some (.int .i64 q) := cell_of_blkT hs rfl); clear hb hs c0 c1 hbw)
    | (go_at_call 200; refine (always1_any _ _ _ _ (cell_allocT HC1.out _)).mono ?_; rintro e w6 ⟨rfl, rfl⟩))
  go_ret
  exact ⟨rfl, HB.out.alloc (Nat.le_of_lt hlt) _⟩

theorem new_5 (p : Int) (W : World) : Calls Tryz.prog 192 #[.int .i64 p] W fun e w' => e = .returned (.iface 226 (.agg #[.int .i64 p])) ∧ W = w' := by
  go_enter Tryz.func192, Tryz.ntmps192
  go_wp2_with fail
  go_ret
  exact ⟨rfl, rfl⟩

set_option maxHeartbeats 400000 in
theorem made_5 (b : Nat) (p q : Int) (W : World) (h : W.cell? ⟨b, 0, none⟩ = some (.func (.func 192) #[] #[])) : Calls Tryz.prog 199 #[.int .i64 p, .int .i64 q, .pointer (some ⟨b, 0, none⟩)] W fun e w' => e = .returned (.iface 226 (.agg #[.int .i64 p])) ∧ W = w' := by
  go_enter Tryz.func199, Tryz.ntmps199
  go_wp2_with (go_at_call 192; refine (new_5 p _).mono ?_; rintro e w5 ⟨rfl, rfl⟩)
  go_ret
  exact ⟨rfl, rfl⟩

set_option maxRecDepth 100000 in
set_option maxHeartbeats 1000000 in
theorem object_5 (p q : Int) (w : World) : Calls Tryz.prog 108 #[specV 5 p q] w fun e w' => e = .returned (.tuple #[.iface 226 (.agg #[.int .i64 p]), .int .i64 0]) ∧ Below w.heap.size w w' := by
  unfold specV
  go_enter Tryz.func108, Tryz.ntmps108
  go_wp2_with (first
    | (go_at_call 128; refine (tfind_5 _).mono ?_; rintro e w5 ⟨b0, b1, rfl, c0, c1, hb⟩; (have HC0 := Lib.hid c0); (have HC1 := Lib.hid c1); (obtain ⟨hs, hbw, hlt⟩ := spec_in hb); (have HB := Lib.hid hbw); (have s0 : w5.cell? ⟨w.heap.size, 0, none⟩ = some (.int .i64 5) := cell_of_blkT hs rfl); (have s1 : w5.cell? ⟨w.heap.size, 1, none⟩ = some (.int .i64 p) := cell_of_blkT hs rfl); (have s2 : w5.cell? ⟨w.heap.size, 2, none⟩ = some (.int .i64 q) := cell_of_blkT hs rfl); clear hb hs c0 c1 hbw)
    | (go_at_call 199; refine (made_5 _ _ _ _ (cell_allocT HC0.out _)).mono ?_; rintro e w6 ⟨rfl, rfl⟩))
  go_ret2
  exact ⟨rfl, HB.out.alloc (Nat.le_of_lt hlt) _⟩

set_option maxRecDepth 100000 in
set_option maxHeartbeats 1000000 in
theorem size_5 (n p q s er : Int) (hn : 1 ≤ n ∧ n ≤ 16) (hS : ∀ W, Calls Tryz.prog 231 #[.agg #[.int .i64 p], .int .i64 n] W fun e w' => e = .returned (.tuple #[.int .i64 s, .int .i64 er]) ∧ Below W.heap.size W w') (w : World) :
    Calls Tryz.prog 88 #[.int .i64 n, specV 5 p q] w fun e w' => e = .returned (.tuple #[.int .i64 s, .int .i64 er]) ∧ Below w.heap.size w w' := by
  have HS := Lib.hid hS
  have HP : Hid (∀ W, Calls Tryz.prog 107 #[.int .i64 n] W fun e w' => e = .returned (.bool true) ∧ W = w') := Lib.hid (fun W => by have := canPlay_any n W; rw [decide_eq_true hn] at this; exact this)
  have hm : ∀ w' : World, (method 367 226 (.agg #[.int .i64 p]) "Size").run Tryz.prog w' = .ok (231, .agg #[.int .i64 p]) w' := fun w' => by kernel_rfl
  clear hS hn
  unfold specV
  go_enter Tryz.func88, Tryz.ntmps88
  go_wp2_with (first
    | (go_at_call 107; refine (HP.out _).mono ?_; rintro e w4 ⟨rfl, rfl⟩)
    | (go_at_call 108; refine (object_5 p q _).mono ?_; rintro e w5 ⟨rfl, hb⟩; (obtain ⟨hs, hbw, hlt⟩ := spec_in hb); (have HB := Lib.hid hbw); clear hs hbw hb)
    | (go_at_call 231; refine (HS.out _).mono ?_; rintro e w6 ⟨rfl, hb⟩; (have HB6 := Lib.hid hb); clear hb))
  go_ret2
  exact ⟨rfl, HB.out.trans (HB6.out.mono (Nat.le_of_lt hlt))⟩

set_option maxRecDepth 100000 in
set_option maxHeartbeats 1000000 in
theorem tkinds_5 (p q : Int) (w : World) : Calls Tryz.prog 112 #[specV 5 p q] w fun e w' => e = .returned (.int .i64 2) ∧ Below w.heap.size w w' := by
  unfold specV
  go_enter Tryz.func112, Tryz.ntmps112
  go_wp2_with (first
    | (go_at_call 128; refine (tfind_5 _).mono ?_; rintro e w5 ⟨b0, b1, rfl, c0, c1, hb⟩; (have HC0 := Lib.hid c0); (have HC1 := Lib.hid c1); (obtain ⟨hs, hbw, hlt⟩ := spec_in hb); (have HB := Lib.hid hbw); (have s0 : w5.cell? ⟨w.heap.size, 0, none⟩ = some (.int .i64 5) := cell_of_blkT hs rfl); (have s1 : w5.cell? ⟨w.heap.size, 1, none⟩ = some (.int .i64 p) := cell_of_blkT hs rfl); (have s2 : w5.cell? ⟨w.heap.size, 2, none⟩ = some (.int .i64 q) := cell_of_blkT hs rfl); clear hb hs c0 c1 hbw)
    | (go_at_call 200; refine (always1_any _ _ _ _ (cell_allocT HC1.out _)).mono ?_; rintro e w6 ⟨rfl, rfl⟩))
  go_ret
  exact ⟨rfl, HB.out.alloc (Nat.le_of_lt hlt) _⟩

theorem new_6 (p q : Int) (W : World) : Calls Tryz.prog 193 #[.int .i64 p, .int .i64 q] W fun e w' => e = .returned (.iface 228 (.agg #[.int .i64 p, .int .i64 q])) ∧ W = w' := by
  go_enter Tryz.func193, Tryz.ntmps193
  go_wp2_with fail
  go_ret
  exact ⟨rfl, rfl⟩

set_option maxRecDepth 100000 in
set_option maxHeartbeats 1000000 in
theorem object_6 (p q : Int) (w : World) : Calls Tryz.prog 108 #[specV 6 p q] w fun e w' => e = .returned (.tuple #[.iface 228 (.agg #[.int .i64 p, .int .i64 q]), .int .i64 0]) ∧ Below w.heap.size w w' := by
  unfold specV
  go_enter Tryz.func108, Tryz.ntmps108
  go_wp2_with (first
    | (go_at_call 128; refine (tfind_6 _).mono ?_; rintro e w5 ⟨b1, rfl, c1, hb⟩; (have HC1 := Lib.hid c1); (obtain ⟨hs, hbw, hlt⟩ := spec_in hb); (have HB := Lib.hid hbw); (have s0 : w5.cell? ⟨w.heap.size, 0, none⟩ = some (.int .i64 6) := cell_of_blkT hs rfl); (have s1 : w5.cell? ⟨w.heap.size, 1, none⟩ = some (.int .i64 p) := cell_of_blkT hs rfl); (have s2 : w5.cell? ⟨w.heap.size, 2, none⟩ = some (.int .i64 q) := cell_of_blkT hs rfl); clear hb hs c1 hbw)
    | (go_at_call 193; refine (new_6 _ _ _).mono ?_; rintro e w6 ⟨rfl, rfl⟩))
  go_ret2
  exact ⟨rfl, HB.out.alloc (Nat.le_of_lt hlt) _⟩

set_option maxRecDepth 100000 in
set_option maxHeartbeats 1000000 in
theorem size_6 (n p q s er : Int) (hn : 1 ≤ n ∧ n ≤ 16) (hS : ∀ W, Calls Tryz.prog 234 #[.agg #[.int .i64 p, .int .i64 q], .int .i64 n] W fun e w' => e = .returned (.tuple #[.int .i64 s, .int .i64 er]) ∧ Below W.heap.size W w') (w : World) :
    Calls Tryz.prog 88 #[.int .i64 n, specV 6 p q] w fun e w' => e = .returned (.tuple #[.int .i64 s, .int .i64 er]) ∧ Below w.heap.size w w' := by
  have HS := Lib.hid hS
  have HP : Hid (∀ W, Calls Tryz.prog 107 #[.int .i64 n] W fun e w' => e = .returned (.bool true) ∧ W = w') := Lib.hid (fun W => by have := canPlay_any n W; rw [decide_eq_true hn] at this; exact this)
  have hm : ∀ w' : World, (method 367 228 (.agg #[.int .i64 p, .int .i64 q]) "Size").run Tryz.prog w' = .ok (234, .agg #[.int .i64 p, .int .i64 q]) w' := fun w' => by kernel_rfl
  clear hS hn
  unfold specV
  go_enter Tryz.func88, Tryz.ntmps88
  go_wp2_with (first
    | (go_at_call 107; refine (HP.out _).mono ?_; rintro e w4 ⟨rfl, rfl⟩)
    | (go_at_call 108; refine (object_6 p q _).mono ?_; rintro e w5 ⟨rfl, hb⟩; (obtain ⟨hs, hbw, hlt⟩ := spec_in hb); (have HB := Lib.hid hbw); clear hs hbw hb)
    | (go_at_call 234; refine (HS.out _).mono ?_; rintro e w6 ⟨rfl, hb⟩; (have HB6 := Lib.hid hb); clear hb))
  go_ret2
  exact ⟨rfl, HB.out.trans (HB6.out.mono (Nat.le_of_lt hlt))⟩

set_option maxRecDepth 100000 in
set_option maxHeartbeats 1000000 in
theorem tkinds_6 (p q : Int) (w : World) : Calls Tryz.prog 112 #[specV 6 p q] w fun e w' => e = .returned (.int .i64 2) ∧ Below w.heap.size w w' := by
  unfold specV
  go_enter Tryz.func112, Tryz.ntmps112
  go_wp2_with (first
    | (go_at_call 128; refine (tfind_6 _).mono ?_; rintro e w5 ⟨b1, rfl, c1, hb⟩; (have HC1 := Lib.hid c1); (obtain ⟨hs, hbw, hlt⟩ := spec_in hb); (have HB := Lib.hid hbw); (have s0 : w5.cell? ⟨w.heap.size, 0, none⟩ = some (.int .i64 6) := cell_of_blkT hs rfl); (have s1 : w5.cell? ⟨w.heap.size, 1, none⟩ = some (.int .i64 p) := cell_of_blkT hs rfl); (have s2 : w5.cell? ⟨w.heap.size, 2, none⟩ = some (.int .i64 q) := cell_of_blkT hs rfl); clear hb hs c1 hbw)
    | (go_at_call 200; refine (always1_any _ _ _ _ (cell_allocT HC1.out _)).mono ?_; rintro e w6 ⟨rfl, rfl⟩))
  go_ret
  exact ⟨rfl, HB.out.alloc (Nat.le_of_lt hlt) _⟩

theorem new_7 (p q : Int) (W : World) : Calls Tryz.prog 194 #[.int .i64 p, .int .i64 q] W fun e w' => e = .returned (.iface 230 (.agg #[.int .i64 p, .int .i64 q])) ∧ W = w' := by
  go_enter Tryz.func194, Tryz.ntmps194
  go_wp2_with fail
  go_ret
  exact ⟨rfl, rfl⟩

set_option maxRecDepth 100000 in
set_option maxHeartbeats 1000000 in
theorem object_7 (p q : Int) (w : World) : Calls Tryz.prog 108 #[specV 7 p q] w fun e w' => e = .returned (.tuple #[.iface 230 (.agg #[.int .i64 p, .int .i64 q]), .int .i64 0]) ∧ Below w.heap.size w w' := by
  unfold specV
  go_enter Tryz.func108, Tryz.ntmps108
  go_wp2_with (first
    | (go_at_call 128; refine (tfind_7 _).mono ?_; rintro e w5 ⟨rfl, hb⟩; (obtain ⟨hs, hbw, hlt⟩ := spec_in hb); (have HB := Lib.hid hbw); (have s0 : w5.cell? ⟨w.heap.size, 0, none⟩ = some (.int .i64 7) := cell_of_blkT hs rfl); (have s1 : w5.cell? ⟨w.heap.size, 1, none⟩ = some (.int .i64 p) := cell_of_blkT hs rfl); (have s2 : w5.cell? ⟨w.heap.size, 2, none⟩ = some (.int .i64 q) := cell_of_blkT hs rfl); clear hb hs hbw)
    | (go_at_call 194; refine (new_7 _ _ _).mono ?_; rintro e w6 ⟨rfl, rfl⟩))
  go_ret2
  exact ⟨rfl, HB.out.alloc (Nat.le_of_lt hlt) _⟩

set_option maxRecDepth 100000 in
set_option maxHeartbeats 1000000 in
theorem size_7 (n p q s er : Int) (hn : 1 ≤ n ∧ n ≤ 16) (hS : ∀ W, Calls Tryz.prog 237 #[.agg #[.int .i64 p, .int .i64 q], .int .i64 n] W fun e w' => e = .returned (.tuple #[.int .i64 s, .int .i64 er]) ∧ Below W.heap.size W w') (w : World) :
    Calls Tryz.prog 88 #[.int .i64 n, specV 7 p q] w fun e w' => e = .returned (.tuple #[.int .i64 s, .int .i64 er]) ∧ Below w.heap.size w w' := by
  have HS := Lib.hid hS
  have HP : Hid (∀ W, Calls Tryz.prog 107 #[.int .i64 n] W fun e w' => e = .returned (.bool true) ∧ W = w') := Lib.hid (fun W => by have := canPlay_any n W; rw [decide_eq_true hn] at this; exact this)
  have hm : ∀ w' : World, (method 367 230 (.agg #[.int .i64 p, .int .i64 q]) "Size").run Tryz.prog w' = .ok (237, .agg #[.int .i64 p, .int .i64 q]) w' := fun w' => by kernel_rfl
  clear hS hn
  unfold specV
  go_enter Tryz.func88, Tryz.ntmps88
  go_wp2_with (first
    | (go_at_call 107; refine (HP.out _).mono ?_; rintro e w4 ⟨rfl, rfl⟩)
    | (go_at_call 108; refine (object_7 p q _).mono ?_; rintro e w5 ⟨rfl, hb⟩; (obtain ⟨hs, hbw, hlt⟩ := spec_in hb); (have HB := Lib.hid hbw); clear hs hbw hb)
    | (go_at_call 237; refine (HS.out _).mono ?_; rintro e w6 ⟨rfl, hb⟩; (have HB6 := Lib.hid hb); clear hb))
  go_ret2
  exact ⟨rfl, HB.out.trans (HB6.out.mono (Nat.le_of_lt hlt))⟩

set_option maxRecDepth 100000 in
set_option maxHeartbeats 1000000 in
theorem tkinds_7 (p q : Int) (w : World) : Calls Tryz.prog 112 #[specV 7 p q] w fun e w' => e = .returned (.int .i64 (tbTyp p)) ∧ Below w.heap.size w w' := by
  unfold specV
  go_enter Tryz.func112, Tryz.ntmps112
  go_wp2_with (first
    | (go_at_call 128; refine (tfind_7 _).mono ?_; rintro e w5 ⟨rfl, hb⟩; (obtain ⟨hs, hbw, hlt⟩ := spec_in hb); (have HB := Lib.hid hbw); (have s0 : w5.cell? ⟨w.heap.size, 0, none⟩ = some (.int .i64 7) := cell_of_blkT hs rfl); (have s1 : w5.cell? ⟨w.heap.size, 1, none⟩ = some (.int .i64 p) := cell_of_blkT hs rfl); (have s2 : w5.cell? ⟨w.heap.size, 2, none⟩ = some (.int .i64 q) := cell_of_blkT hs rfl); clear hb hs hbw)
    | (go_at_call 195; refine (seqKinds_any _ _).mono ?_; rintro e w6 ⟨rfl, hb⟩; (have HB6 := Lib.hid hb); clear hb))
  go_ret
  exact ⟨rfl, (HB.out.alloc (Nat.le_of_lt hlt) _).trans (HB6.out.mono (by simp; omega))⟩

theorem new_8 (p q : Int) (W : World) : Calls Tryz.prog 196 #[.int .i64 p, .int .i64 q] W fun e w' => e = .returned (.iface 233 (.agg #[.int .i64 p, .int .i64 q])) ∧ W = w' := by
  go_enter Tryz.func196, Tryz.ntmps196
  go_wp2_with fail
  go_ret
  exact ⟨rfl, rfl⟩

set_option maxRecDepth 100000 in
set_option maxHeartbeats 1000000 in
theorem object_8 (p q : Int) (w : World) : Calls Tryz.prog 108 #[specV 8 p q] w fun e w' => e = .returned (.tuple #[.iface 233 (.agg #[.int .i64 p, .int .i64 q]), .int .i64 0]) ∧ Below w.heap.size w w' := by
  unfold specV
  go_enter Tryz.func108, Tryz.ntmps108
  go_wp2_with (first
    | (go_at_call 128; refine (tfind_8 _).mono ?_; rintro e w5 ⟨b1, rfl, c1, hb⟩; (have HC1 := Lib.hid c1); (obtain ⟨hs, hbw, hlt⟩ := spec_in hb); (have HB := Lib.hid hbw); (have s0 : w5.cell? ⟨w.heap.size, 0, none⟩ = some (.int .i64 8) := cell_of_blkT hs rfl); (have s1 : w5.cell? ⟨w.heap.size, 1, none⟩ = some (.int .i64 p) := cell_of_blkT hs rfl); (have s2 : w5.cell? ⟨w.heap.size, 2, none⟩ = some (.int .i64 q) := cell_of_blkT hs rfl); clear hb hs c1 hbw)
    | (go_at_call 196; refine (new_8 _ _ _).mono ?_; rintro e w6 ⟨rfl, rfl⟩))
  go_ret2
  exact ⟨rfl, HB.out.alloc (Nat.le_of_lt hlt) _⟩

set_option maxRecDepth 100000 in
set_option maxHeartbeats 1000000 in
theorem size_8 (n p q s er : Int) (hn : 1 ≤ n ∧ n ≤ 16) (hS : ∀ W, Calls Tryz.prog 239 #[.agg #[.int .i64 p, .int .i64 q], .int .i64 n] W fun e w' => e = .returned (.tuple #[.int .i64 s, .int .i64 er]) ∧ Below W.heap.size W w') (w : World) :
    Calls Tryz.prog 88 #[.int .i64 n, specV 8 p q] w fun e w' => e = .returned (.tuple #[.int .i64 s, .int .i64 er]) ∧ Below w.heap.size w w' := by
  have HS := Lib.hid hS
  have HP : Hid (∀ W, Calls Tryz.prog 107 #[.int .i64 n] W fun e w' => e = .returned (.bool true) ∧ W = w') := Lib.hid (fun W => by have := canPlay_any n W; rw [decide_eq_true hn] at this; exact this)
  have hm : ∀ w' : World, (method 367 233 (.agg #[.int .i64 p, .int .i64 q]) "Size").run Tryz.prog w' = .ok (239, .agg #[.int .i64 p, .int .i64 q]) w' := fun w' => by kernel_rfl
  clear hS hn
  unfold specV
  go_enter Tryz.func88, Tryz.ntmps88
  go_wp2_with (first
    | (go_at_call 107; refine (HP.out _).mono ?_; rintro e w4 ⟨rfl, rfl⟩)
    | (go_at_call 108; refine (object_8 p q _).mono ?_; rintro e w5 ⟨rfl, hb⟩; (obtain ⟨hs, hbw, hlt⟩ := spec_in hb); (have HB := Lib.hid hbw); clear hs hbw hb)
    | (go_at_call 239; refine (HS.out _).mono ?_; rintro e w6 ⟨rfl, hb⟩; (have HB6 := Lib.hid hb); clear hb))
  go_ret2
  exact ⟨rfl, HB.out.trans (HB6.out.mono (Nat.le_of_lt hlt))⟩

set_option maxRecDepth 100000 in
set_option maxHeartbeats 1000000 in
theorem tkinds_8 (p q : Int) (w : World) : Calls Tryz.prog 112 #[specV 8 p q] w fun e w' => e = .returned (.int .i64 2) ∧ Below w.heap.size w w' := by
  unfold specV
  go_enter Tryz.func112, Tryz.ntmps112
  go_wp2_with (first
    | (go_at_call 128; refine (tfind_8 _).mono ?_; rintro e w5 ⟨b1, rfl, c1, hb⟩; (have HC1 := Lib.hid c1); (obtain ⟨hs, hbw, hlt⟩ := spec_in hb); (have HB := Lib.hid hbw); (have s0 : w5.cell? ⟨w.heap.size, 0, none⟩ = some (.int .i64 8) := cell_of_blkT hs rfl); (have s1 : w5.cell? ⟨w.heap.size, 1, none⟩ = some (.int .i64 p) := cell_of_blkT hs rfl); (have s2 : w5.cell? ⟨w.heap.size, 2, none⟩ = some (.int .i64 q) := cell_of_blkT hs rfl); clear hb hs c1 hbw)
    | (go_at_call 200; refine (always1_any _ _ _ _ (cell_allocT HC1.out _)).mono ?_; rintro e w6 ⟨rfl, rfl⟩))
  go_ret
  exact ⟨rfl, HB.out.alloc (Nat.le_of_lt hlt) _⟩

theorem new_9 (p : Int) (W : World) : Calls Tryz.prog 197 #[.int .i64 p] W fun e w' => e = .returned (.iface 235 (.agg #[.int .i64 p])) ∧ W = w' := by
  go_enter Tryz.func197, Tryz.ntmps197
  go_wp2_with fail
  go_ret
  exact ⟨rfl, rfl⟩

set_option maxHeartbeats 400000 in
theorem made_9 (b : Nat) (p q : Int) (W : World) (h : W.cell? ⟨b, 0, none⟩ = some (.func (.func 197) #[] #[])) : Calls Tryz.prog 199 #[.int .i64 p, .int .i64 q, .pointer (some ⟨b, 0, none⟩)] W fun e w' => e = .returned (.iface 235 (.agg #[.int .i64 p])) ∧ W = w' := by
  go_enter Tryz.func199, Tryz.ntmps199
  go_wp2_with (go_at_call 197; refine (new_9 p _).mono ?_; rintro e w5 ⟨rfl, rfl⟩)
  go_ret
  exact ⟨rfl, rfl⟩

set_option maxRecDepth 100000 in
set_option maxHeartbeats 1000000 in
theorem object_9 (p q : Int) (w : World) : Calls Tryz.prog 108 #[specV 9 p q] w fun e w' => e = .returned (.tuple #[.iface 235 (.agg #[.int .i64 p]), .int .i64 0]) ∧ Below w.heap.size w w' := by
  unfold specV
  go_enter Tryz.func108, Tryz.ntmps108
  go_wp2_with (first
    | (go_at_call 128; refine (tfind_9 _).mono ?_; rintro e w5 ⟨b0, b1, rfl, c0, c1, hb⟩; (have HC0 := Lib.hid c0); (have HC1 := Lib.hid c1); (obtain ⟨hs, hbw, hlt⟩ := spec_in hb); (have HB := Lib.hid hbw); (have s0 : w5.cell? ⟨w.heap.size, 0, none⟩ = some (.int .i64 9) := cell_of_blkT hs rfl); (have s1 : w5.cell? ⟨w.heap.size, 1, none⟩ = some (.int .i64 p) := cell_of_blkT hs rfl); (have s2 : w5.cell? ⟨w.heap.size, 2, none⟩ = some (.int .i64 q) := cell_of_blkT hs rfl); clear hb hs c0 c1 hbw)
    | (go_at_call 199; refine (made_9 _ _ _ _ (cell_allocT HC0.out _)).mono ?_; rintro e w6 ⟨rfl, rfl⟩))
  go_ret2
  exact ⟨rfl, HB.out.alloc (Nat.le_of_lt hlt) _⟩

set_option maxRecDepth 100000 in
set_option maxHeartbeats 1000000 in
theorem size_9 (n p q s er : Int) (hn : 1 ≤ n ∧ n ≤ 16) (hS : ∀ W, Calls Tryz.prog 246 #[.agg #[.int .i64 p], .int .i64 n] W fun e w' => e = .returned (.tuple #[.int .i64 s, .int .i64 er]) ∧ Below W.heap.size W w') (w : World) :
    Calls Tryz.prog 88 #[.int .i64 n, specV 9 p q] w fun e w' => e = .returned (.tuple #[.int .i64 s, .int .i64 er]) ∧ Below w.heap.size w w' := by
  have HS := Lib.hid hS
  have HP : Hid (∀ W, Calls Tryz.prog 107 #[.int .i64 n] W fun e w' => e = .returned (.bool true) ∧ W = w') := Lib.hid (fun W => by have := canPlay_any n W; rw [decide_eq_true hn] at this; exact this)
  have hm : ∀ w' : World, (method 367 235 (.agg #[.int .i64 p]) "Size").run Tryz.prog w' = .ok (246, .agg #[.int .i64 p]) w' := fun w' => by kernel_rfl
  clear hS hn
  unfold specV
  go_enter Tryz.func88, Tryz.ntmps88
  go_wp2_with (first
    | (go_at_call 107; refine (HP.out _).mono ?_; rintro e w4 ⟨rfl, rfl⟩)
    | (go_at_call 108; refine (object_9 p q _).mono ?_; rintro e w5 ⟨rfl, hb⟩; (obtain ⟨hs, hbw, hlt⟩ := spec_in hb); (have HB := Lib.hid hbw); clear hs hbw hb)
    | (go_at_call 246; refine (HS.out _).mono ?_; rintro e w6 ⟨rfl, hb⟩; (have HB6 := Lib.hid hb); clear hb))
  go_ret2
  exact ⟨rfl, HB.out.trans (HB6.out.mono (Nat.le_of_lt hlt))⟩

set_option maxRecDepth 100000 in
set_option maxHeartbeats 1000000 in
theorem tkinds_9 (p q : Int) (w : World) : Calls Tryz.prog 112 #[specV 9 p q] w fun e w' => e = .returned (.int .i64 2) ∧ Below w.heap.size w w' := by
  unfold specV
  go_enter Tryz.func112, Tryz.ntmps112
  go_wp2_with (first
    | (go_at_call 128; refine (tfind_9 _).mono ?_; rintro e w5 ⟨b0, b1, rfl, c0, c1, hb⟩; (have HC0 := Lib.hid c0); (have HC1 := Lib.hid c1); (obtain ⟨hs, hbw, hlt⟩ := spec_in hb); (have HB := Lib.hid hbw); (have s0 : w5.cell? ⟨w.heap.size, 0, none⟩ = some (.int .i64 9) := cell_of_blkT hs rfl); (have s1 : w5.cell? ⟨w.heap.size, 1, none⟩ = some (.int .i64 p) := cell_of_blkT hs rfl); (have s2 : w5.cell? ⟨w.heap.size, 2, none⟩ = some (.int .i64 q) := cell_of_blkT hs rfl); clear hb hs c0 c1 hbw)
    | (go_at_call 200; refine (always1_any _ _ _ _ (cell_allocT HC1.out _)).mono ?_; rintro e w6 ⟨rfl, rfl⟩))
  go_ret
  exact ⟨rfl, HB.out.alloc (Nat.le_of_lt hlt) _⟩

set_option maxRecDepth 100000 in
set_option maxHeartbeats 1000000 in
theorem object_none (k p q : Int) (hk : ¬ (0 ≤ k ∧ k ≤ 9)) (w : World) : Calls Tryz.prog 108 #[specV k p q] w fun e w' => e = .returned (.tuple #[.nilIface, .int .i64 9]) ∧ Below w.heap.size w w' := by
  have HF := Lib.hid (fun w => tfind_none k w hk)
  clear hk
  unfold specV
  go_enter Tryz.func108, Tryz.ntmps108
  go_wp2_with (go_at_call 128; refine (HF.out _).mono ?_; rintro e w5 ⟨rfl, hb⟩; (obtain ⟨hs, hbw, hlt⟩ := spec_in hb); (have HB := Lib.hid hbw); (have s0 : w5.cell? ⟨w.heap.size, 0, none⟩ = some (.int .i64 k) := cell_of_blkT hs rfl); clear hb hs hbw)
  go_ret2
  exact ⟨rfl, HB.out.alloc (Nat.le_of_lt hlt) _⟩
set_option maxRecDepth 100000 in
set_option maxHeartbeats 1000000 in
theorem tkinds_none (k p q : Int) (hk : ¬ (0 ≤ k ∧ k ≤ 9)) (w : World) : Calls Tryz.prog 112 #[specV k p q] w fun e w' => e = .returned (.int .i64 0) ∧ Below w.heap.size w w' := by
  have HF := Lib.hid (fun w => tfind_none k w hk)
  clear hk
  unfold specV
  go_enter Tryz.func112, Tryz.ntmps112
  go_wp2_with (go_at_call 128; refine (HF.out _).mono ?_; rintro e w5 ⟨rfl, hb⟩; (obtain ⟨hs, hbw, hlt⟩ := spec_in hb); (have HB := Lib.hid hbw); (have s0 : w5.cell? ⟨w.heap.size, 0, none⟩ = some (.int .i64 k) := cell_of_blkT hs rfl); clear hb hs hbw)
  go_ret
  exact ⟨rfl, HB.out.alloc (Nat.le_of_lt hlt) _⟩
set_option maxRecDepth 100000 in
set_option maxHeartbeats 1000000 in
theorem size_none (n k p q : Int) (hn : 1 ≤ n ∧ n ≤ 16) (hk : ¬ (0 ≤ k ∧ k ≤ 9)) (w : World) :
    Calls Tryz.prog 88 #[.int .i64 n, specV k p q] w fun e w' => e = .returned (.tuple #[.int .i64 0, .int .i64 9]) ∧ Below w.heap.size w w' := by
  have HO := Lib.hid (fun w => object_none k p q hk w)
  have HP : Hid (∀ W, Calls Tryz.prog 107 #[.int .i64 n] W fun e w' => e = .returned (.bool true) ∧ W = w') := Lib.hid (fun W => by have := canPlay_any n W; rw [decide_eq_true hn] at this; exact this)
  clear hn hk
  unfold specV at *
  go_enter Tryz.func88, Tryz.ntmps88
  go_wp2_with (first
    | (go_at_call 107; refine (HP.out _).mono ?_; rintro e w4 ⟨rfl, rfl⟩)
    | (go_at_call 108; refine (HO.out _).mono ?_; rintro e w5 ⟨rfl, hb⟩; (obtain ⟨hs, hbw, hlt⟩ := spec_in hb); (have HB := Lib.hid hbw); clear hs hbw hb))
  go_ret2
  exact ⟨rfl, HB.out⟩
set_option maxHeartbeats 1000000 in
theorem size_far (n k p q : Int) (hn : ¬ (1 ≤ n ∧ n ≤ 16)) (w : World) :
    Calls Tryz.prog 88 #[.int .i64 n, specV k p q] w fun e w' => e = .returned (.tuple #[.int .i64 0, .int .i64 1]) ∧ Below w.heap.size w w' := by
  have HP : Hid (∀ W, Calls Tryz.prog 107 #[.int .i64 n] W fun e w' => e = .returned (.bool false) ∧ W = w') := Lib.hid (fun W => by have := canPlay_any n W; rw [decide_eq_false hn] at this; exact this)
  clear hn
  unfold specV
  go_enter Tryz.func88, Tryz.ntmps88
  go_wp2_with (go_at_call 107; refine (HP.out _).mono ?_; rintro e w4 ⟨rfl, rfl⟩)
  go_ret2
  exact ⟨rfl, (Below.refl _ _).alloc (Nat.le_refl _) _⟩
end Go.Proofs.YtjjleghalajidaaGreat.Tb
