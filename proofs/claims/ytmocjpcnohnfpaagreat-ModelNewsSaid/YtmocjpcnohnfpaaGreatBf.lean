/- table: object, Size, Kinds. -/
import Derived.Test.YtmocjpcnohnfpaaGreatBe
import Derived.Test.YtmocjpcnohnfpaaGreatBg
namespace Go.Proofs.YtmocjpcnohnfpaaGreat.Tb
open Go.ChangeShapes Go.WideShapes Go.ChangeAt Go.RowKit
set_option linter.unusedVariables false
set_option linter.unusedSimpArgs false

theorem cell_allocT {w : World} {a : Addr} {v : Value} (h : w.cell? a = some v) (o : Obj) : (w.alloc o).cell? a = some v :=
  (((Below.refl w.heap.size w).alloc (Nat.le_refl _) o).cell (World.block_lt_of_cell? w _ h)).trans h
set_option maxHeartbeats 400000 in
theorem canPlay_any (n : Int) (W : World) : Calls Tryz.prog 50 #[.int .i64 n] W fun e w' => e = .returned (.bool (decide (1 ≤ n ∧ n ≤ 16))) ∧ W = w' := by
  by_cases h1 : 1 ≤ n
  · by_cases h2 : n ≤ 16
    · go_enter Tryz.func50, Tryz.ntmps50
      go_wp2_with fail
      go_ret
      exact ⟨ret_bool (by simp [h1, h2]), rfl⟩
    · go_enter Tryz.func50, Tryz.ntmps50
      go_wp2_with fail
      go_ret
      exact ⟨ret_bool (by simp; omega), rfl⟩
  · go_enter Tryz.func50, Tryz.ntmps50
    go_wp2_with fail
    go_ret
    exact ⟨ret_bool (by simp; omega), rfl⟩
theorem always1_any (b : Nat) (v p : Int) (W : World) (h : W.cell? ⟨b, 0, none⟩ = some (.int .i64 v)) : Calls Tryz.prog 176 #[.int .i64 p, .pointer (some ⟨b, 0, none⟩)] W fun e w' => e = .returned (.int .i64 v) ∧ W = w' := by
  go_enter Tryz.func176, Tryz.ntmps176
  go_wp2_with fail
  go_ret
  exact ⟨rfl, rfl⟩

theorem new_0 (p : Int) (W : World) : Calls Tryz.prog 154 #[.int .i64 p] W fun e w' => e = .returned (.iface 182 (.agg #[.int .i64 p])) ∧ W = w' := by
  go_enter Tryz.func154, Tryz.ntmps154
  go_wp2_with fail
  go_ret
  exact ⟨rfl, rfl⟩

set_option maxHeartbeats 400000 in
theorem made_0 (b : Nat) (p q : Int) (W : World) (h : W.cell? ⟨b, 0, none⟩ = some (.func (.func 154) #[] #[])) : Calls Tryz.prog 175 #[.int .i64 p, .int .i64 q, .pointer (some ⟨b, 0, none⟩)] W fun e w' => e = .returned (.iface 182 (.agg #[.int .i64 p])) ∧ W = w' := by
  go_enter Tryz.func175, Tryz.ntmps175
  go_wp2_with (go_at_call 154; refine (new_0 p _).mono ?_; rintro e w5 ⟨rfl, rfl⟩)
  go_ret
  exact ⟨rfl, rfl⟩

set_option maxRecDepth 100000 in
set_option maxHeartbeats 1000000 in
theorem object_0 (p q : Int) (w : World) : Calls Tryz.prog 51 #[specV 0 p q] w fun e w' => e = .returned (.tuple #[.iface 182 (.agg #[.int .i64 p]), .int .i64 0]) ∧ Below w.heap.size w w' := by
  unfold specV
  go_enter Tryz.func51, Tryz.ntmps51
  go_wp2_with (first
    | (go_at_call 85; refine (tfind_0 _).mono ?_; rintro e w5 ⟨b0, b1, rfl, c0, c1, hb⟩; (have HC0 := Lib.hid c0); (have HC1 := Lib.hid c1); (obtain ⟨hs, hbw, hlt⟩ := spec_in hb); (have HB := Lib.hid hbw); (have s0 : w5.cell? ⟨w.heap.size, 0, none⟩ = some (.int .i64 0) := cell_of_blkT hs rfl); (have s1 : w5.cell? ⟨w.heap.size, 1, none⟩ = some (.int .i64 p) := cell_of_blkT hs rfl); (have s2 : w5.cell? ⟨w.heap.size, 2, none⟩ = some (.int .i64 q) := cell_of_blkT hs rfl); clear hb hs c0 c1 hbw)
    | (go_at_call 175; refine (made_0 _ _ _ _ (cell_allocT HC0.out _)).mono ?_; rintro e w6 ⟨rfl, rfl⟩))
  go_ret2
  exact ⟨rfl, HB.out.alloc (Nat.le_of_lt hlt) _⟩

set_option maxRecDepth 100000 in
set_option maxHeartbeats 1000000 in
theorem size_0 (n p q s er : Int) (hn : 1 ≤ n ∧ n ≤ 16) (hS : ∀ W, Calls Tryz.prog 213 #[.agg #[.int .i64 p], .int .i64 n] W fun e w' => e = .returned (.tuple #[.int .i64 s, .int .i64 er]) ∧ Below W.heap.size W w') (w : World) :
    Calls Tryz.prog 20 #[.int .i64 n, specV 0 p q] w fun e w' => e = .returned (.tuple #[.int .i64 s, .int .i64 er]) ∧ Below w.heap.size w w' := by
  have HS := Lib.hid hS
  have HP : Hid (∀ W, Calls Tryz.prog 50 #[.int .i64 n] W fun e w' => e = .returned (.bool true) ∧ W = w') := Lib.hid (fun W => by have := canPlay_any n W; rw [decide_eq_true hn] at this; exact this)
  have hm : ∀ w' : World, (method 349 182 (.agg #[.int .i64 p]) "Size").run Tryz.prog w' = .ok (213, .agg #[.int .i64 p]) w' := fun w' => by kernel_rfl
  clear hS hn
  unfold specV
  go_enter Tryz.func20, Tryz.ntmps20
  go_wp2_with (first
    | (go_at_call 50; refine (HP.out _).mono ?_; rintro e w4 ⟨rfl, rfl⟩)
    | (go_at_call 51; refine (object_0 p q _).mono ?_; rintro e w5 ⟨rfl, hb⟩; (obtain ⟨hs, hbw, hlt⟩ := spec_in hb); (have HB := Lib.hid hbw); clear hs hbw hb)
    | (go_at_call 213; refine (HS.out _).mono ?_; rintro e w6 ⟨rfl, hb⟩; (have HB6 := Lib.hid hb); clear hb))
  go_ret2
  exact ⟨rfl, HB.out.trans (HB6.out.mono (Nat.le_of_lt hlt))⟩

set_option maxRecDepth 100000 in
set_option maxHeartbeats 1000000 in
theorem tkinds_0 (p q : Int) (w : World) : Calls Tryz.prog 104 #[specV 0 p q] w fun e w' => e = .returned (.int .i64 4) ∧ Below w.heap.size w w' := by
  unfold specV
  go_enter Tryz.func104, Tryz.ntmps104
  go_wp2_with (first
    | (go_at_call 85; refine (tfind_0 _).mono ?_; rintro e w5 ⟨b0, b1, rfl, c0, c1, hb⟩; (have HC0 := Lib.hid c0); (have HC1 := Lib.hid c1); (obtain ⟨hs, hbw, hlt⟩ := spec_in hb); (have HB := Lib.hid hbw); (have s0 : w5.cell? ⟨w.heap.size, 0, none⟩ = some (.int .i64 0) := cell_of_blkT hs rfl); (have s1 : w5.cell? ⟨w.heap.size, 1, none⟩ = some (.int .i64 p) := cell_of_blkT hs rfl); (have s2 : w5.cell? ⟨w.heap.size, 2, none⟩ = some (.int .i64 q) := cell_of_blkT hs rfl); clear hb hs c0 c1 hbw)
    | (go_at_call 176; refine (always1_any _ _ _ _ (cell_allocT HC1.out _)).mono ?_; rintro e w6 ⟨rfl, rfl⟩))
  go_ret
  exact ⟨rfl, HB.out.alloc (Nat.le_of_lt hlt) _⟩

theorem new_1  (W : World) : Calls Tryz.prog 157 #[] W fun e w' => e = .returned (.iface 184 (.agg #[])) ∧ W = w' := by
  go_enter Tryz.func157, Tryz.ntmps157
  go_wp2_with fail
  go_ret
  exact ⟨rfl, rfl⟩

set_option maxHeartbeats 400000 in
theorem made_1 (b : Nat) (p q : Int) (W : World) (h : W.cell? ⟨b, 0, none⟩ = some (.func (.func 157) #[] #[])) : Calls Tryz.prog 177 #[.int .i64 p, .int .i64 q, .pointer (some ⟨b, 0, none⟩)] W fun e w' => e = .returned (.iface 184 (.agg #[])) ∧ W = w' := by
  go_enter Tryz.func177, Tryz.ntmps177
  go_wp2_with (go_at_call 157; refine (new_1 _).mono ?_; rintro e w5 ⟨rfl, rfl⟩)
  go_ret
  exact ⟨rfl, rfl⟩

set_option maxRecDepth 100000 in
set_option maxHeartbeats 1000000 in
theorem object_1 (p q : Int) (w : World) : Calls Tryz.prog 51 #[specV 1 p q] w fun e w' => e = .returned (.tuple #[.iface 184 (.agg #[]), .int .i64 0]) ∧ Below w.heap.size w w' := by
  unfold specV
  go_enter Tryz.func51, Tryz.ntmps51
  go_wp2_with (first
    | (go_at_call 85; refine (tfind_1 _).mono ?_; rintro e w5 ⟨b0, b1, rfl, c0, c1, hb⟩; (have HC0 := Lib.hid c0); (have HC1 := Lib.hid c1); (obtain ⟨hs, hbw, hlt⟩ := spec_in hb); (have HB := Lib.hid hbw); (have s0 : w5.cell? ⟨w.heap.size, 0, none⟩ = some (.int .i64 1) := cell_of_blkT hs rfl); (have s1 : w5.cell? ⟨w.heap.size, 1, none⟩ = some (.int .i64 p) := cell_of_blkT hs rfl); (have s2 : w5.cell? ⟨w.heap.size, 2, none⟩ = some (.int .i64 q) := cell_of_blkT hs rfl); clear hb hs c0 c1 hbw)
    | (go_at_call 177; refine (made_1 _ _ _ _ (cell_allocT HC0.out _)).mono ?_; rintro e w6 ⟨rfl, rfl⟩))
  go_ret2
  exact ⟨rfl, HB.out.alloc (Nat.le_of_lt hlt) _⟩

set_option maxRecDepth 100000 in
set_option maxHeartbeats 1000000 in
theorem size_1 (n p q s er : Int) (hn : 1 ≤ n ∧ n ≤ 16) (hS : ∀ W, Calls Tryz.prog 215 #[.agg #[], .int .i64 n] W fun e w' => e = .returned (.tuple #[.int .i64 s, .int .i64 er]) ∧ Below W.heap.size W w') (w : World) :
    Calls Tryz.prog 20 #[.int .i64 n, specV 1 p q] w fun e w' => e = .returned (.tuple #[.int .i64 s, .int .i64 er]) ∧ Below w.heap.size w w' := by
  have HS := Lib.hid hS
  have HP : Hid (∀ W, Calls Tryz.prog 50 #[.int .i64 n] W fun e w' => e = .returned (.bool true) ∧ W = w') := Lib.hid (fun W => by have := canPlay_any n W; rw [decide_eq_true hn] at this; exact this)
  have hm : ∀ w' : World, (method 349 184 (.agg #[]) "Size").run Tryz.prog w' = .ok (215, .agg #[]) w' := fun w' => by kernel_rfl
  clear hS hn
  unfold specV
  go_enter Tryz.func20, Tryz.ntmps20
  go_wp2_with (first
    | (go_at_call 50; refine (HP.out _).mono ?_; rintro e w4 ⟨rfl, rfl⟩)
    | (go_at_call 51; refine (object_1 p q _).mono ?_; rintro e w5 ⟨rfl, hb⟩; (obtain ⟨hs, hbw, hlt⟩ := spec_in hb); (have HB := Lib.hid hbw); clear hs hbw hb)
    | (go_at_call 215; refine (HS.out _).mono ?_; rintro e w6 ⟨rfl, hb⟩; (have HB6 := Lib.hid hb); clear hb))
  go_ret2
  exact ⟨rfl, HB.out.trans (HB6.out.mono (Nat.le_of_lt hlt))⟩

set_option maxRecDepth 100000 in
set_option maxHeartbeats 1000000 in
theorem tkinds_1 (p q : Int) (w : World) : Calls Tryz.prog 104 #[specV 1 p q] w fun e w' => e = .returned (.int .i64 2) ∧ Below w.heap.size w w' := by
  unfold specV
  go_enter Tryz.func104, Tryz.ntmps104
  go_wp2_with (first
    | (go_at_call 85; refine (tfind_1 _).mono ?_; rintro e w5 ⟨b0, b1, rfl, c0, c1, hb⟩; (have HC0 := Lib.hid c0); (have HC1 := Lib.hid c1); (obtain ⟨hs, hbw, hlt⟩ := spec_in hb); (have HB := Lib.hid hbw); (have s0 : w5.cell? ⟨w.heap.size, 0, none⟩ = some (.int .i64 1) := cell_of_blkT hs rfl); (have s1 : w5.cell? ⟨w.heap.size, 1, none⟩ = some (.int .i64 p) := cell_of_blkT hs rfl); (have s2 : w5.cell? ⟨w.heap.size, 2, none⟩ = some (.int .i64 q) := cell_of_blkT hs rfl); clear hb hs c0 c1 hbw)
    | (go_at_call 176; refine (always1_any _ _ _ _ (cell_allocT HC1.out _)).mono ?_; rintro e w6 ⟨rfl, rfl⟩))
  go_ret
  exact ⟨rfl, HB.out.alloc (Nat.le_of_lt hlt) _⟩

theorem new_2  (W : World) : Calls Tryz.prog 158 #[] W fun e w' => e = .returned (.iface 185 (.agg #[])) ∧ W = w' := by
  go_enter Tryz.func158, Tryz.ntmps158
  go_wp2_with fail
  go_ret
  exact ⟨rfl, rfl⟩

set_option maxHeartbeats 400000 in
theorem made_2 (b : Nat) (p q : Int) (W : World) (h : W.cell? ⟨b, 0, none⟩ = some (.func (.func 158) #[] #[])) : Calls Tryz.prog 177 #[.int .i64 p, .int .i64 q, .pointer (some ⟨b, 0, none⟩)] W fun e w' => e = .returned (.iface 185 (.agg #[])) ∧ W = w' := by
  go_enter Tryz.func177, Tryz.ntmps177
  go_wp2_with (go_at_call 158; refine (new_2 _).mono ?_; rintro e w5 ⟨rfl, rfl⟩)
  go_ret
  exact ⟨rfl, rfl⟩

set_option maxRecDepth 100000 in
set_option maxHeartbeats 1000000 in
theorem object_2 (p q : Int) (w : World) : Calls Tryz.prog 51 #[specV 2 p q] w fun e w' => e = .returned (.tuple #[.iface 185 (.agg #[]), .int .i64 0]) ∧ Below w.heap.size w w' := by
  unfold specV
  go_enter Tryz.func51, Tryz.ntmps51
  go_wp2_with (first
    | (go_at_call 85; refine (tfind_2 _).mono ?_; rintro e w5 ⟨b0, b1, rfl, c0, c1, hb⟩; (have HC0 := Lib.hid c0); (have HC1 := Lib.hid c1); (obtain ⟨hs, hbw, hlt⟩ := spec_in hb); (have HB := Lib.hid hbw); (have s0 : w5.cell? ⟨w.heap.size, 0, none⟩ = some (.int .i64 2) := cell_of_blkT hs rfl); (have s1 : w5.cell? ⟨w.heap.size, 1, none⟩ = some (.int .i64 p) := cell_of_blkT hs rfl); (have s2 : w5.cell? ⟨w.heap.size, 2, none⟩ = some (.int .i64 q) := cell_of_blkT hs rfl); clear hb hs c0 c1 hbw)
    | (go_at_call 177; refine (made_2 _ _ _ _ (cell_allocT HC0.out _)).mono ?_; rintro e w6 ⟨rfl, rfl⟩))
  go_ret2
  exact ⟨rfl, HB.out.alloc (Nat.le_of_lt hlt) _⟩

set_option maxRecDepth 100000 in
set_option maxHeartbeats 1000000 in
theorem size_2 (n p q s er : Int) (hn : 1 ≤ n ∧ n ≤ 16) (hS : ∀ W, Calls Tryz.prog 217 #[.agg #[], .int .i64 n] W fun e w' => e = .returned (.tuple #[.int .i64 s, .int .i64 er]) ∧ Below W.heap.size W w') (w : World) :
    Calls Tryz.prog 20 #[.int .i64 n, specV 2 p q] w fun e w' => e = .returned (.tuple #[.int .i64 s, .int .i64 er]) ∧ Below w.heap.size w w' := by
  have HS := Lib.hid hS
  have HP : Hid (∀ W, Calls Tryz.prog 50 #[.int .i64 n] W fun e w' => e = .returned (.bool true) ∧ W = w') := Lib.hid (fun W => by have := canPlay_any n W; rw [decide_eq_true hn] at this; exact this)
  have hm : ∀ w' : World, (method 349 185 (.agg #[]) "Size").run Tryz.prog w' = .ok (217, .agg #[]) w' := fun w' => by kernel_rfl
  clear hS hn
  unfold specV
  go_enter Tryz.func20, Tryz.ntmps20
  go_wp2_with (first
    | (go_at_call 50; refine (HP.out _).mono ?_; rintro e w4 ⟨rfl, rfl⟩)
    | (go_at_call 51; refine (object_2 p q _).mono ?_; rintro e w5 ⟨rfl, hb⟩; (obtain ⟨hs, hbw, hlt⟩ := spec_in hb); (have HB := Lib.hid hbw); clear hs hbw hb)
    | (go_at_call 217; refine (HS.out _).mono ?_; rintro e w6 ⟨rfl, hb⟩; (have HB6 := Lib.hid hb); clear hb))
  go_ret2
  exact ⟨rfl, HB.out.trans (HB6.out.mono (Nat.le_of_lt hlt))⟩

set_option maxRecDepth 100000 in
set_option maxHeartbeats 1000000 in
theorem tkinds_2 (p q : Int) (w : World) : Calls Tryz.prog 104 #[specV 2 p q] w fun e w' => e = .returned (.int .i64 2) ∧ Below w.heap.size w w' := by
  unfold specV
  go_enter Tryz.func104, Tryz.ntmps104
  go_wp2_with (first
    | (go_at_call 85; refine (tfind_2 _).mono ?_; rintro e w5 ⟨b0, b1, rfl, c0, c1, hb⟩; (have HC0 := Lib.hid c0); (have HC1 := Lib.hid c1); (obtain ⟨hs, hbw, hlt⟩ := spec_in hb); (have HB := Lib.hid hbw); (have s0 : w5.cell? ⟨w.heap.size, 0, none⟩ = some (.int .i64 2) := cell_of_blkT hs rfl); (have s1 : w5.cell? ⟨w.heap.size, 1, none⟩ = some (.int .i64 p) := cell_of_blkT hs rfl); (have s2 : w5.cell? ⟨w.heap.size, 2, none⟩ = some (.int .i64 q) := cell_of_blkT hs rfl); clear hb hs c0 c1 hbw)
    | (go_at_call 176; refine (always1_any _ _ _ _ (cell_allocT HC1.out _)).mono ?_; rintro e w6 ⟨rfl, rfl⟩))
  go_ret
  exact ⟨rfl, HB.out.alloc (Nat.le_of_lt hlt) _⟩

theorem new_3  (W : World) : Calls Tryz.prog 159 #[] W fun e w' => e = .returned (.iface 186 (.agg #[])) ∧ W = w' := by
  go_enter Tryz.func159, Tryz.ntmps159
  go_wp2_with fail
  go_ret
  exact ⟨rfl, rfl⟩

set_option maxHeartbeats 400000 in
theorem made_3 (b : Nat) (p q : Int) (W : World) (h : W.cell? ⟨b, 0, none⟩ = some (.func (.func 159) #[] #[])) : Calls Tryz.prog 177 #[.int .i64 p, .int .i64 q, .pointer (some ⟨b, 0, none⟩)] W fun e w' => e = .returned (.iface 186 (.agg #[])) ∧ W = w' := by
  go_enter Tryz.func177, Tryz.ntmps177
  go_wp2_with (go_at_call 159; refine (new_3 _).mono ?_; rintro e w5 ⟨rfl, rfl⟩)
  go_ret
  exact ⟨rfl, rfl⟩

set_option maxRecDepth 100000 in
set_option maxHeartbeats 1000000 in
theorem object_3 (p q : Int) (w : World) : Calls Tryz.prog 51 #[specV 3 p q] w fun e w' => e = .returned (.tuple #[.iface 186 (.agg #[]), .int .i64 0]) ∧ Below w.heap.size w w' := by
  unfold specV
  go_enter Tryz.func51, Tryz.ntmps51
  go_wp2_with (first
    | (go_at_call 85; refine (tfind_3 _).mono ?_; rintro e w5 ⟨b0, b1, rfl, c0, c1, hb⟩; (have HC0 := Lib.hid c0); (have HC1 := Lib.hid c1); (obtain ⟨hs, hbw, hlt⟩ := spec_in hb); (have HB := Lib.hid hbw); (have s0 : w5.cell? ⟨w.heap.size, 0, none⟩ = some (.int .i64 3) := cell_of_blkT hs rfl); (have s1 : w5.cell? ⟨w.heap.size, 1, none⟩ = some (.int .i64 p) := cell_of_blkT hs rfl); (have s2 : w5.cell? ⟨w.heap.size, 2, none⟩ = some (.int .i64 q) := cell_of_blkT hs rfl); clear hb hs c0 c1 hbw)
    | (go_at_call 177; refine (made_3 _ _ _ _ (cell_allocT HC0.out _)).mono ?_; rintro e w6 ⟨rfl, rfl⟩))
  go_ret2
  exact ⟨rfl, HB.out.alloc (Nat.le_of_lt hlt) _⟩

set_option maxRecDepth 100000 in
set_option maxHeartbeats 1000000 in
theorem size_3 (n p q s er : Int) (hn : 1 ≤ n ∧ n ≤ 16) (hS : ∀ W, Calls Tryz.prog 219 #[.agg #[], .int .i64 n] W fun e w' => e = .returned (.tuple #[.int .i64 s, .int .i64 er]) ∧ Below W.heap.size W w') (w : World) :
    Calls Tryz.prog 20 #[.int .i64 n, specV 3 p q] w fun e w' => e = .returned (.tuple #[.int .i64 s, .int .i64 er]) ∧ Below w.heap.size w w' := by
  have HS := Lib.hid hS
  have HP : Hid (∀ W, Calls Tryz.prog 50 #[.int .i64 n] W fun e w' => e = .returned (.bool true) ∧ W = w') := Lib.hid (fun W => by have := canPlay_any n W; rw [decide_eq_true hn] at this; exact this)
  have hm : ∀ w' : World, (method 349 186 (.agg #[]) "Size").run Tryz.prog w' = .ok (219, .agg #[]) w' := fun w' => by kernel_rfl
  clear hS hn
  unfold specV
  go_enter Tryz.func20, Tryz.ntmps20
  go_wp2_with (first
    | (go_at_call 50; refine (HP.out _).mono ?_; rintro e w4 ⟨rfl, rfl⟩)
    | (go_at_call 51; refine (object_3 p q _).mono ?_; rintro e w5 ⟨rfl, hb⟩; (obtain ⟨hs, hbw, hlt⟩ := spec_in hb); (have HB := Lib.hid hbw); clear hs hbw hb)
    | (go_at_call 219; refine (HS.out _).mono ?_; rintro e w6 ⟨rfl, hb⟩; (have HB6 := Lib.hid hb); clear hb))
  go_ret2
  exact ⟨rfl, HB.out.trans (HB6.out.mono (Nat.le_of_lt hlt))⟩

set_option maxRecDepth 100000 in
set_option maxHeartbeats 1000000 in
theorem tkinds_3 (p q : Int) (w : World) : Calls Tryz.prog 104 #[specV 3 p q] w fun e w' => e = .returned (.int .i64 3) ∧ Below w.heap.size w w' := by
  unfold specV
  go_enter Tryz.func104, Tryz.ntmps104
  go_wp2_with (first
    | (go_at_call 85; refine (tfind_3 _).mono ?_; rintro e w5 ⟨b0, b1, rfl, c0, c1, hb⟩; (have HC0 := Lib.hid c0); (have HC1 := Lib.hid c1); (obtain ⟨hs, hbw, hlt⟩ := spec_in hb); (have HB := Lib.hid hbw); (have s0 : w5.cell? ⟨w.heap.size, 0, none⟩ = some (.int .i64 3) := cell_of_blkT hs rfl); (have s1 : w5.cell? ⟨w.heap.size, 1, none⟩ = some (.int .i64 p) := cell_of_blkT hs rfl); (have s2 : w5.cell? ⟨w.heap.size, 2, none⟩ = some (.int .i64 q) := cell_of_blkT hs rfl); clear hb hs c0 c1 hbw)
    | (go_at_call 176; refine (always1_any _ _ _ _ (cell_allocT HC1.out _)).mono ?_; rintro e w6 ⟨rfl, rfl⟩))
  go_ret
  exact ⟨rfl, HB.out.alloc (Nat.le_of_lt hlt) _⟩

theorem new_4 (p : Int) (W : World) : Calls Tryz.prog 160 #[.int .i64 p] W fun e w' => e = .returned (.iface 188 (.agg #[.int .i64 p])) ∧ W = w' := by
  go_enter Tryz.func160, Tryz.ntmps160
  go_wp2_with fail
  go_ret
  exact ⟨rfl, rfl⟩

set_option maxHeartbeats 400000 in
theorem made_4 (b : Nat) (p q : Int) (W : World) (h : W.cell? ⟨b, 0, none⟩ = some (.func (.func 160) #[] #[])) : Calls Tryz.prog 175 #[.int .i64 p, .int .i64 q, .pointer (some ⟨b, 0, none⟩)] W fun e w' => e = .returned (.iface 188 (.agg #[.int .i64 p])) ∧ W = w' := by
  go_enter Tryz.func175, Tryz.ntmps175
  go_wp2_with (go_at_call 160; refine (new_4 p _).mono ?_; rintro e w5 ⟨rfl, rfl⟩)
  go_ret
  exact ⟨rfl, rfl⟩

set_option maxRecDepth 100000 in
set_option maxHeartbeats 1000000 in
theorem object_4 (p q : Int) (w : World) : Calls Tryz.prog 51 #[specV 4 p q] w fun e w' => e = .returned (.tuple #[.iface 188 (.agg #[.int .i64 p]), .int .i64 0]) ∧ Below w.heap.size w w' := by
  unfold specV
  go_enter Tryz.func51, Tryz.ntmps51
  go_wp2_with (first
    | (go_at_call 85; refine (tfind_4 _).mono ?_; rintro e w5 ⟨b0, b1, rfl, c0, c1, hb⟩; (have HC0 := Lib.hid c0); (have HC1 := Lib.hid c1); (obtain ⟨hs, hbw, hlt⟩ := spec_in hb); (have HB := Lib.hid hbw); (have s0 : w5.cell? ⟨w.heap.size, 0, none⟩ = some (.int .i64 4) := cell_of_blkT hs rfl); (have s1 : w5.cell? ⟨w.heap.size, 1, none⟩ = some (.int .i64 p) := cell_of_blkT hs rfl); (have s2 : w5.cell? ⟨w.heap.size, 2, none⟩ = some (.int .i64 q) := cell_of_blkT hs rfl); clear hb hs c0 c1 hbw)
    | (go_at_call 175; refine (made_4 _ _ _ _ (cell_allocT HC0.out _)).mono ?_; rintro e w6 ⟨rfl, rfl⟩))
  go_ret2
  exact ⟨rfl, HB.out.alloc (Nat.le_of_lt hlt) _⟩

set_option maxRecDepth 100000 in
set_option maxHeartbeats 1000000 in
theorem size_4 (n p q s er : Int) (hn : 1 ≤ n ∧ n ≤ 16) (hS : ∀ W, Calls Tryz.prog 221 #[.agg #[.int .i64 p], .int .i64 n] W fun e w' => e = .returned (.tuple #[.int .i64 s, .int .i64 er]) ∧ Below W.heap.size W w') (w : World) :
    Calls Tryz.prog 20 #[.int .i64 n, specV 4 p q] w fun e w' => e = .returned (.tuple #[.int .i64 s, .int .i64 er]) ∧ Below w.heap.size w w' := by
  have HS := Lib.hid hS
  have HP : Hid (∀ W, Calls Tryz.prog 50 #[.int .i64 n] W fun e w' => e = .returned (.bool true) ∧ W = w') := Lib.hid (fun W => by have := canPlay_any n W; rw [decide_eq_true hn] at this; exact this)
  have hm : ∀ w' : World, (method 349 188 (.agg #[.int .i64 p]) "Size").run Tryz.prog w' = .ok (221, .agg #[.int .i64 p]) w' := fun w' => by kernel_rfl
  clear hS hn
  unfold specV
  go_enter Tryz.func20, Tryz.ntmps20
  go_wp2_with (first
    | (go_at_call 50; refine (HP.out _).mono ?_; rintro e w4 ⟨rfl, rfl⟩)
    | (go_at_call 51; refine (object_4 p q _).mono ?_; rintro e w5 ⟨rfl, hb⟩; (obtain ⟨hs, hbw, hlt⟩ := spec_in hb); (have HB := Lib.hid hbw); clear hs hbw hb)
    | (go_at_call 221; refine (HS.out _).mono ?_; rintro e w6 ⟨rfl, hb⟩; (have HB6 := Lib.hid hb); clear hb))
  go_ret2
  exact ⟨rfl, HB.out.trans (HB6.out.mono (Nat.le_of_lt hlt))⟩

set_option maxRecDepth 100000 in
set_option maxHeartbeats 1000000 in
theorem tkinds_4 (p q : Int) (w : World) : Calls Tryz.prog 104 #[specV 4 p q] w fun e w' => e = .returned (.int .i64 2) ∧ Below w.heap.size w w' := by
  unfold specV
  go_enter Tryz.func104, Tryz.ntmps104
  go_wp2_with (first
    | (go_at_call 85; refine (tfind_4 _).mono ?_; rintro e w5 ⟨b0, b1, rfl, c0, c1, hb⟩; (have HC0 := Lib.hid c0); (have HC1 := Lib.hid c1); (obtain ⟨hs, hbw, hlt⟩ := spec_in hb); (have HB := Lib.hid hbw); (have s0 : w5.cell? ⟨w.heap.size, 0, none⟩ = some (.int .i64 4) := cell_of_blkT hs rfl); (have s1 : w5.cell? ⟨w.heap.size, 1, none⟩ = some (.int .i64 p) := cell_of_blkT hs rfl); (have s2 : w5.cell? ⟨w.heap.size, 2, none⟩ = some (.int .i64 q) := cell_of_blkT hs rfl); clear hb hs c0 c1 hbw)
    | (go_at_call 176; refine (always1_any _ _ _ _ (cell_allocT HC1.out _)).mono ?_; rintro e w6 ⟨rfl, rfl⟩))
  go_ret
  exact ⟨rfl, HB.out.alloc (Nat.le_of_lt hlt) _⟩

theorem new_5 (p : Int) (W : World) : Calls Tryz.prog 161 #[.int .i64 p] W fun e w' => e = .returned (.iface 190 (.agg #[.int .i64 p])) ∧ W = w' := by
  go_enter Tryz.func161, Tryz.ntmps161
  go_wp2_with fail
  go_ret
  exact ⟨rfl, rfl⟩

set_option maxHeartbeats 400000 in
theorem made_5 (b : Nat) (p q : Int) (W : World) (h : W.cell? ⟨b, 0, none⟩ = some (.func (.func 161) #[] #[])) : Calls Tryz.prog 175 #[.int .i64 p, .int .i64 q, .pointer (some ⟨b, 0, none⟩)] W fun e w' => e = .returned (.iface 190 (.agg #[.int .i64 p])) ∧ W = w' := by
  go_enter Tryz.func175, Tryz.ntmps175
  go_wp2_with (go_at_call 161; refine (new_5 p _).mono ?_; rintro e w5 ⟨rfl, rfl⟩)
  go_ret
  exact ⟨rfl, rfl⟩

set_option maxRecDepth 100000 in
set_option maxHeartbeats 1000000 in
theorem object_5 (p q : Int) (w : World) : Calls Tryz.prog 51 #[specV 5 p q] w fun e w' => e = .returned (.tuple #[.iface 190 (.agg #[.int .i64 p]), .int .i64 0]) ∧ Below w.heap.size w w' := by
  unfold specV
  go_enter Tryz.func51, Tryz.ntmps51
  go_wp2_with (first
    | (go_at_call 85; refine (tfind_5 _).mono ?_; rintro e w5 ⟨b0, b1, rfl, c0, c1, hb⟩; (have HC0 := Lib.hid c0); (have HC1 := Lib.hid c1); (obtain ⟨hs, hbw, hlt⟩ := spec_in hb); (have HB := Lib.hid hbw); (have s0 : w5.cell? ⟨w.heap.size, 0, none⟩ = some (.int .i64 5) := cell_of_blkT hs rfl); (have s1 : w5.cell? ⟨w.heap.size, 1, none⟩ = some (.int .i64 p) := cell_of_blkT hs rfl); (have s2 : w5.cell? ⟨w.heap.size, 2, none⟩ = some (.int .i64 q) := cell_of_blkT hs rfl); clear hb hs c0 c1 hbw)
    | (go_at_call 175; refine (made_5 _ _ _ _ (cell_allocT HC0.out _)).mono ?_; rintro e w6 ⟨rfl, rfl⟩))
  go_ret2
  exact ⟨rfl, HB.out.alloc (Nat.le_of_lt hlt) _⟩

set_option maxRecDepth 100000 in
set_option maxHeartbeats 1000000 in
theorem size_5 (n p q s er : Int) (hn : 1 ≤ n ∧ n ≤ 16) (hS : ∀ W, Calls Tryz.prog 223 #[.agg #[.int .i64 p], .int .i64 n] W fun e w' => e = .returned (.tuple #[.int .i64 s, .int .i64 er]) ∧ Below W.heap.size W w') (w : World) :
    Calls Tryz.prog 20 #[.int .i64 n, specV 5 p q] w fun e w' => e = .returned (.tuple #[.int .i64 s, .int .i64 er]) ∧ Below w.heap.size w w' := by
  have HS := Lib.hid hS
  have HP : Hid (∀ W, Calls Tryz.prog 50 #[.int .i64 n] W fun e w' => e = .returned (.bool true) ∧ W = w') := Lib.hid (fun W => by have := canPlay_any n W; rw [decide_eq_true hn] at this; exact this)
  have hm : ∀ w' : World, (method 349 190 (.agg #[.int .i64 p]) "Size").run Tryz.prog w' = .ok (223, .agg #[.int .i64 p]) w' := fun w' => by kernel_rfl
  clear hS hn
  unfold specV
  go_enter Tryz.func20, Tryz.ntmps20
  go_wp2_with (first
    | (go_at_call 50; refine (HP.out _).mono ?_; rintro e w4 ⟨rfl, rfl⟩)
    | (go_at_call 51; refine (object_5 p q _).mono ?_; rintro e w5 ⟨rfl, hb⟩; (obtain ⟨hs, hbw, hlt⟩ := spec_in hb); (have HB := Lib.hid hbw); clear hs hbw hb)
    | (go_at_call 223; refine (HS.out _).mono ?_; rintro e w6 ⟨rfl, hb⟩; (have HB6 := Lib.hid hb); clear hb))
  go_ret2
  exact ⟨rfl, HB.out.trans (HB6.out.mono (Nat.le_of_lt hlt))⟩

set_option maxRecDepth 100000 in
set_option maxHeartbeats 1000000 in
theorem tkinds_5 (p q : Int) (w : World) : Calls Tryz.prog 104 #[specV 5 p q] w fun e w' => e = .returned (.int .i64 2) ∧ Below w.heap.size w w' := by
  unfold specV
  go_enter Tryz.func104, Tryz.ntmps104
  go_wp2_with (first
    | (go_at_call 85; refine (tfind_5 _).mono ?_; rintro e w5 ⟨b0, b1, rfl, c0, c1, hb⟩; (have HC0 := Lib.hid c0); (have HC1 := Lib.hid c1); (obtain ⟨hs, hbw, hlt⟩ := spec_in hb); (have HB := Lib.hid hbw); (have s0 : w5.cell? ⟨w.heap.size, 0, none⟩ = some (.int .i64 5) := cell_of_blkT hs rfl); (have s1 : w5.cell? ⟨w.heap.size, 1, none⟩ = some (.int .i64 p) := cell_of_blkT hs rfl); (have s2 : w5.cell? ⟨w.heap.size, 2, none⟩ = some (.int .i64 q) := cell_of_blkT hs rfl); clear hb hs c0 c1 hbw)
    | (go_at_call 176; refine (always1_any _ _ _ _ (cell_allocT HC1.out _)).mono ?_; rintro e w6 ⟨rfl, rfl⟩))
  go_ret
  exact ⟨rfl, HB.out.alloc (Nat.le_of_lt hlt) _⟩

theorem new_6 (p q : Int) (W : World) : Calls Tryz.prog 162 #[.int .i64 p, .int .i64 q] W fun e w' => e = .returned (.iface 192 (.agg #[.int .i64 p, .int .i64 q])) ∧ W = w' := by
  go_enter Tryz.func162, Tryz.ntmps162
  go_wp2_with fail
  go_ret
  exact ⟨rfl, rfl⟩

set_option maxRecDepth 100000 in
set_option maxHeartbeats 1000000 in
theorem object_6 (p q : Int) (w : World) : Calls Tryz.prog 51 #[specV 6 p q] w fun e w' => e = .returned (.tuple #[.iface 192 (.agg #[.int .i64 p, .int .i64 q]), .int .i64 0]) ∧ Below w.heap.size w w' := by
  unfold specV
  go_enter Tryz.func51, Tryz.ntmps51
  go_wp2_with (first
    | (go_at_call 85; refine (tfind_6 _).mono ?_; rintro e w5 ⟨b1, rfl, c1, hb⟩; (have HC1 := Lib.hid c1); (obtain ⟨hs, hbw, hlt⟩ := spec_in hb); (have HB := Lib.hid hbw); (have s0 : w5.cell? ⟨w.heap.size, 0, none⟩ = some (.int .i64 6) := cell_of_blkT hs rfl); (have s1 : w5.cell? ⟨w.heap.size, 1, none⟩ = some (.int .i64 p) := cell_of_blkT hs rfl); (have s2 : w5.cell? ⟨w.heap.size, 2, none⟩ = some (.int .i64 q) := cell_of_blkT hs rfl); clear hb hs c1 hbw)
    | (go_at_call 162; refine (new_6 _ _ _).mono ?_; rintro e w6 ⟨rfl, rfl⟩))
  go_ret2
  exact ⟨rfl, HB.out.alloc (Nat.le_of_lt hlt) _⟩

set_option maxRecDepth 100000 in
set_option maxHeartbeats 1000000 in
theorem size_6 (n p q s er : Int) (hn : 1 ≤ n ∧ n ≤ 16) (hS : ∀ W, Calls Tryz.prog 226 #[.agg #[.int .i64 p, .int .i64 q], .int .i64 n] W fun e w' => e = .returned (.tuple #[.int .i64 s, .int .i64 er]) ∧ Below W.heap.size W w') (w : World) :
    Calls Tryz.prog 20 #[.int .i64 n, specV 6 p q] w fun e w' => e = .returned (.tuple #[.int .i64 s, .int .i64 er]) ∧ Below w.heap.size w w' := by
  have HS := Lib.hid hS
  have HP : Hid (∀ W, Calls Tryz.prog 50 #[.int .i64 n] W fun e w' => e = .returned (.bool true) ∧ W = w') := Lib.hid (fun W => by have := canPlay_any n W; rw [decide_eq_true hn] at this; exact this)
  have hm : ∀ w' : World, (method 349 192 (.agg #[.int .i64 p, .int .i64 q]) "Size").run Tryz.prog w' = .ok (226, .agg #[.int .i64 p, .int .i64 q]) w' := fun w' => by kernel_rfl
  clear hS hn
  unfold specV
  go_enter Tryz.func20, Tryz.ntmps20
  go_wp2_with (first
    | (go_at_call 50; refine (HP.out _).mono ?_; rintro e w4 ⟨rfl, rfl⟩)
    | (go_at_call 51; refine (object_6 p q _).mono ?_; rintro e w5 ⟨rfl, hb⟩; (obtain ⟨hs, hbw, hlt⟩ := spec_in hb); (have HB := Lib.hid hbw); clear hs hbw hb)
    | (go_at_call 226; refine (HS.out _).mono ?_; rintro e w6 ⟨rfl, hb⟩; (have HB6 := Lib.hid hb); clear hb))
  go_ret2
  exact ⟨rfl, HB.out.trans (HB6.out.mono (Nat.le_of_lt hlt))⟩

set_option maxRecDepth 100000 in
set_option maxHeartbeats 1000000 in
theorem tkinds_6 (p q : Int) (w : World) : Calls Tryz.prog 104 #[specV 6 p q] w fun e w' => e = .returned (.int .i64 2) ∧ Below w.heap.size w w' := by
  unfold specV
  go_enter Tryz.func104, Tryz.ntmps104
  go_wp2_with (first
    | (go_at_call 85; refine (tfind_6 _).mono ?_; rintro e w5 ⟨b1, rfl, c1, hb⟩; (have HC1 := Lib.hid c1); (obtain ⟨hs, hbw, hlt⟩ := spec_in hb); (have HB := Lib.hid hbw); (have s0 : w5.cell? ⟨w.heap.size, 0, none⟩ = some (.int .i64 6) := cell_of_blkT hs rfl); (have s1 : w5.cell? ⟨w.heap.size, 1, none⟩ = some (.int .i64 p) := cell_of_blkT hs rfl); (have s2 : w5.cell? ⟨w.heap.size, 2, none⟩ = some (.int .i64 q) := cell_of_blkT hs rfl); clear hb hs c1 hbw)
    | (go_at_call 176; refine (always1_any _ _ _ _ (cell_allocT HC1.out _)).mono ?_; rintro e w6 ⟨rfl, rfl⟩))
  go_ret
  exact ⟨rfl, HB.out.alloc (Nat.le_of_lt hlt) _⟩

theorem new_7 (p q : Int) (W : World) : Calls Tryz.prog 163 #[.int .i64 p, .int .i64 q] W fun e w' => e = .returned (.iface 194 (.agg #[.int .i64 p, .int .i64 q])) ∧ W = w' := by
  go_enter Tryz.func163, Tryz.ntmps163
  go_wp2_with fail
  go_ret
  exact ⟨rfl, rfl⟩

set_option maxRecDepth 100000 in
set_option maxHeartbeats 1000000 in
theorem object_7 (p q : Int) (w : World) : Calls Tryz.prog 51 #[specV 7 p q] w fun e w' => e = .returned (.tuple #[.iface 194 (.agg #[.int .i64 p, .int .i64 q]), .int .i64 0]) ∧ Below w.heap.size w w' := by
  unfold specV
  go_enter Tryz.func51, Tryz.ntmps51
  go_wp2_with (first
    | (go_at_call 85; refine (tfind_7 _).mono ?_; rintro e w5 ⟨rfl, hb⟩; (obtain ⟨hs, hbw, hlt⟩ := spec_in hb); (have HB := Lib.hid hbw); (have s0 : w5.cell? ⟨w.heap.size, 0, none⟩ = some (.int .i64 7) := cell_of_blkT hs rfl); (have s1 : w5.cell? ⟨w.heap.size, 1, none⟩ = some (.int .i64 p) := cell_of_blkT hs rfl); (have s2 : w5.cell? ⟨w.heap.size, 2, none⟩ = some (.int .i64 q) := cell_of_blkT hs rfl); clear hb hs hbw)
    | (go_at_call 163; refine (new_7 _ _ _).mono ?_; rintro e w6 ⟨rfl, rfl⟩))
  go_ret2
  exact ⟨rfl, HB.out.alloc (Nat.le_of_lt hlt) _⟩

set_option maxRecDepth 100000 in
set_option maxHeartbeats 1000000 in
theorem size_7 (n p q s er : Int) (hn : 1 ≤ n ∧ n ≤ 16) (hS : ∀ W, Calls Tryz.prog 229 #[.agg #[.int .i64 p, .int .i64 q], .int .i64 n] W fun e w' => e = .returned (.tuple #[.int .i64 s, .int .i64 er]) ∧ Below W.heap.size W w') (w : World) :
    Calls Tryz.prog 20 #[.int .i64 n, specV 7 p q] w fun e w' => e = .returned (.tuple #[.int .i64 s, .int .i64 er]) ∧ Below w.heap.size w w' := by
  have HS := Lib.hid hS
  have HP : Hid (∀ W, Calls Tryz.prog 50 #[.int .i64 n] W fun e w' => e = .returned (.bool true) ∧ W = w') := Lib.hid (fun W => by have := canPlay_any n W; rw [decide_eq_true hn] at this; exact this)
  have hm : ∀ w' : World, (method 349 194 (.agg #[.int .i64 p, .int .i64 q]) "Size").run Tryz.prog w' = .ok (229, .agg #[.int .i64 p, .int .i64 q]) w' := fun w' => by kernel_rfl
  clear hS hn
  unfold specV
  go_enter Tryz.func20, Tryz.ntmps20
  go_wp2_with (first
    | (go_at_call 50; refine (HP.out _).mono ?_; rintro e w4 ⟨rfl, rfl⟩)
    | (go_at_call 51; refine (object_7 p q _).mono ?_; rintro e w5 ⟨rfl, hb⟩; (obtain ⟨hs, hbw, hlt⟩ := spec_in hb); (have HB := Lib.hid hbw); clear hs hbw hb)
    | (go_at_call 229; refine (HS.out _).mono ?_; rintro e w6 ⟨rfl, hb⟩; (have HB6 := Lib.hid hb); clear hb))
  go_ret2
  exact ⟨rfl, HB.out.trans (HB6.out.mono (Nat.le_of_lt hlt))⟩

set_option maxRecDepth 100000 in
set_option maxHeartbeats 1000000 in
theorem tkinds_7 (p q : Int) (w : World) : Calls Tryz.prog 104 #[specV 7 p q] w fun e w' => e = .returned (.int .i64 (tbTyp p)) ∧ Below w.heap.size w w' := by
  unfold specV
  go_enter Tryz.func104, Tryz.ntmps104
  go_wp2_with (first
    | (go_at_call 85; refine (tfind_7 _).mono ?_; rintro e w5 ⟨rfl, hb⟩; (obtain ⟨hs, hbw, hlt⟩ := spec_in hb); (have HB := Lib.hid hbw); (have s0 : w5.cell? ⟨w.heap.size, 0, none⟩ = some (.int .i64 7) := cell_of_blkT hs rfl); (have s1 : w5.cell? ⟨w.heap.size, 1, none⟩ = some (.int .i64 p) := cell_of_blkT hs rfl); (have s2 : w5.cell? ⟨w.heap.size, 2, none⟩ = some (.int .i64 q) := cell_of_blkT hs rfl); clear hb hs hbw)
    | (go_at_call 164; refine (seqKinds_any _ _).mono ?_; rintro e w6 ⟨rfl, hb⟩; (have HB6 := Lib.hid hb); clear hb))
  go_ret
  exact ⟨rfl, (HB.out.alloc (Nat.le_of_lt hlt) _).trans (HB6.out.mono (by simp; omega))⟩

theorem new_8 (p q : Int) (W : World) : Calls Tryz.prog 165 #[.int .i64 p, .int .i64 q] W fun e w' => e = .returned (.iface 197 (.agg #[.int .i64 p, .int .i64 q])) ∧ W = w' := by
  go_enter Tryz.func165, Tryz.ntmps165
  go_wp2_with fail
  go_ret
  exact ⟨rfl, rfl⟩

set_option maxRecDepth 100000 in
set_option maxHeartbeats 1000000 in
theorem object_8 (p q : Int) (w : World) : Calls Tryz.prog 51 #[specV 8 p q] w fun e w' => e = .returned (.tuple #[.iface 197 (.agg #[.int .i64 p, .int .i64 q]), .int .i64 0]) ∧ Below w.heap.size w w' := by
  unfold specV
  go_enter Tryz.func51, Tryz.ntmps51
  go_wp2_with (first
    | (go_at_call 85; refine (tfind_8 _).mono ?_; rintro e w5 ⟨b1, rfl, c1, hb⟩; (have HC1 := Lib.hid c1); (obtain ⟨hs, hbw, hlt⟩ := spec_in hb); (have HB := Lib.hid hbw); (have s0 : w5.cell? ⟨w.heap.size, 0, none⟩ = some (.int .i64 8) := cell_of_blkT hs rfl); (have s1 : w5.cell? ⟨w.heap.size, 1, none⟩ = some (.int .i64 p) := cell_of_blkT hs rfl); (have s2 : w5.cell? ⟨w.heap.size, 2, none⟩ = some (.int .i64 q) := cell_of_blkT hs rfl); clear hb hs c1 hbw)
    | (go_at_call 165; refine (new_8 _ _ _).mono ?_; rintro e w6 ⟨rfl, rfl⟩))
  go_ret2
  exact ⟨rfl, HB.out.alloc (Nat.le_of_lt hlt) _⟩

set_option maxRecDepth 100000 in
set_option maxHeartbeats 1000000 in
theorem size_8 (n p q s er : Int) (hn : 1 ≤ n ∧ n ≤ 16) (hS : ∀ W, Calls Tryz.prog 231 #[.agg #[.int .i64 p, .int .i64 q], .int .i64 n] W fun e w' => e = .returned (.tuple #[.int .i64 s, .int .i64 er]) ∧ Below W.heap.size W w') (w : World) :
    Calls Tryz.prog 20 #[.int .i64 n, specV 8 p q] w fun e w' => e = .returned (.tuple #[.int .i64 s, .int .i64 er]) ∧ Below w.heap.size w w' := by
  have HS := Lib.hid hS
  have HP : Hid (∀ W, Calls Tryz.prog 50 #[.int .i64 n] W fun e w' => e = .returned (.bool true) ∧ W = w') := Lib.hid (fun W => by have := canPlay_any n W; rw [decide_eq_true hn] at this; exact this)
  have hm : ∀ w' : World, (method 349 197 (.agg #[.int .i64 p, .int .i64 q]) "Size").run Tryz.prog w' = .ok (231, .agg #[.int .i64 p, .int .i64 q]) w' := fun w' => by kernel_rfl
  clear hS hn
  unfold specV
  go_enter Tryz.func20, Tryz.ntmps20
  go_wp2_with (first
    | (go_at_call 50; refine (HP.out _).mono ?_; rintro e w4 ⟨rfl, rfl⟩)
    | (go_at_call 51; refine (object_8 p q _).mono ?_; rintro e w5 ⟨rfl, hb⟩; (obtain ⟨hs, hbw, hlt⟩ := spec_in hb); (have HB := Lib.hid hbw); clear hs hbw hb)
    | (go_at_call 231; refine (HS.out _).mono ?_; rintro e w6 ⟨rfl, hb⟩; (have HB6 := Lib.hid hb); clear hb))
  go_ret2
  exact ⟨rfl, HB.out.trans (HB6.out.mono (Nat.le_of_lt hlt))⟩

set_option maxRecDepth 100000 in
set_option maxHeartbeats 1000000 in
theorem tkinds_8 (p q : Int) (w : World) : Calls Tryz.prog 104 #[specV 8 p q] w fun e w' => e = .returned (.int .i64 2) ∧ Below w.heap.size w w' := by
  unfold specV
  go_enter Tryz.func104, Tryz.ntmps104
  go_wp2_with (first
    | (go_at_call 85; refine (tfind_8 _).mono ?_; rintro e w5 ⟨b1, rfl, c1, hb⟩; (have HC1 := Lib.hid c1); (obtain ⟨hs, hbw, hlt⟩ := spec_in hb); (have HB := Lib.hid hbw); (have s0 : w5.cell? ⟨w.heap.size, 0, none⟩ = some (.int .i64 8) := cell_of_blkT hs rfl); (have s1 : w5.cell? ⟨w.heap.size, 1, none⟩ = some (.int .i64 p) := cell_of_blkT hs rfl); (have s2 : w5.cell? ⟨w.heap.size, 2, none⟩ = some (.int .i64 q) := cell_of_blkT hs rfl); clear hb hs c1 hbw)
    | (go_at_call 176; refine (always1_any _ _ _ _ (cell_allocT HC1.out _)).mono ?_; rintro e w6 ⟨rfl, rfl⟩))
  go_ret
  exact ⟨rfl, HB.out.alloc (Nat.le_of_lt hlt) _⟩

theorem new_9 (p : Int) (W : World) : Calls Tryz.prog 166 #[.int .i64 p] W fun e w' => e = .returned (.iface 199 (.agg #[.int .i64 p])) ∧ W = w' := by
  go_enter Tryz.func166, Tryz.ntmps166
  go_wp2_with fail
  go_ret
  exact ⟨rfl, rfl⟩

set_option maxHeartbeats 400000 in
theorem made_9 (b : Nat) (p q : Int) (W : World) (h : W.cell? ⟨b, 0, none⟩ = some (.func (.func 166) #[] #[])) : Calls Tryz.prog 175 #[.int .i64 p, .int .i64 q, .pointer (some ⟨b, 0, none⟩)] W fun e w' => e = .returned (.iface 199 (.agg #[.int .i64 p])) ∧ W = w' := by
  go_enter Tryz.func175, Tryz.ntmps175
  go_wp2_with (go_at_call 166; refine (new_9 p _).mono ?_; rintro e w5 ⟨rfl, rfl⟩)
  go_ret
  exact ⟨rfl, rfl⟩

set_option maxRecDepth 100000 in
set_option maxHeartbeats 1000000 in
theorem object_9 (p q : Int) (w : World) : Calls Tryz.prog 51 #[specV 9 p q] w fun e w' => e = .returned (.tuple #[.iface 199 (.agg #[.int .i64 p]), .int .i64 0]) ∧ Below w.heap.size w w' := by
  unfold specV
  go_enter Tryz.func51, Tryz.ntmps51
  go_wp2_with (first
    | (go_at_call 85; refine (tfind_9 _).mono ?_; rintro e w5 ⟨b0, b1, rfl, c0, c1, hb⟩; (have HC0 := Lib.hid c0); (have HC1 := Lib.hid c1); (obtain ⟨hs, hbw, hlt⟩ := spec_in hb); (have HB := Lib.hid hbw); (have s0 : w5.cell? ⟨w.heap.size, 0, none⟩ = some (.int .i64 9) := cell_of_blkT hs rfl); (have s1 : w5.cell? ⟨w.heap.size, 1, none⟩ = some (.int .i64 p) := cell_of_blkT hs rfl); (have s2 : w5.cell? ⟨w.heap.size, 2, none⟩ = some (.int .i64 q) := cell_of_blkT hs rfl); clear hb hs c0 c1 hbw)
    | (go_at_call 175; refine (made_9 _ _ _ _ (cell_allocT HC0.out _)).mono ?_; rintro e w6 ⟨rfl, rfl⟩))
  go_ret2
  exact ⟨rfl, HB.out.alloc (Nat.le_of_lt hlt) _⟩

set_option maxRecDepth 100000 in
set_option maxHeartbeats 1000000 in
theorem size_9 (n p q s er : Int) (hn : 1 ≤ n ∧ n ≤ 16) (hS : ∀ W, Calls Tryz.prog 238 #[.agg #[.int .i64 p], .int .i64 n] W fun e w' => e = .returned (.tuple #[.int .i64 s, .int .i64 er]) ∧ Below W.heap.size W w') (w : World) :
    Calls Tryz.prog 20 #[.int .i64 n, specV 9 p q] w fun e w' => e = .returned (.tuple #[.int .i64 s, .int .i64 er]) ∧ Below w.heap.size w w' := by
  have HS := Lib.hid hS
  have HP : Hid (∀ W, Calls Tryz.prog 50 #[.int .i64 n] W fun e w' => e = .returned (.bool true) ∧ W = w') := Lib.hid (fun W => by have := canPlay_any n W; rw [decide_eq_true hn] at this; exact this)
  have hm : ∀ w' : World, (method 349 199 (.agg #[.int .i64 p]) "Size").run Tryz.prog w' = .ok (238, .agg #[.int .i64 p]) w' := fun w' => by kernel_rfl
  clear hS hn
  unfold specV
  go_enter Tryz.func20, Tryz.ntmps20
  go_wp2_with (first
    | (go_at_call 50; refine (HP.out _).mono ?_; rintro e w4 ⟨rfl, rfl⟩)
    | (go_at_call 51; refine (object_9 p q _).mono ?_; rintro e w5 ⟨rfl, hb⟩; (obtain ⟨hs, hbw, hlt⟩ := spec_in hb); (have HB := Lib.hid hbw); clear hs hbw hb)
    | (go_at_call 238; refine (HS.out _).mono ?_; rintro e w6 ⟨rfl, hb⟩; (have HB6 := Lib.hid hb); clear hb))
  go_ret2
  exact ⟨rfl, HB.out.trans (HB6.out.mono (Nat.le_of_lt hlt))⟩

set_option maxRecDepth 100000 in
set_option maxHeartbeats 1000000 in
theorem tkinds_9 (p q : Int) (w : World) : Calls Tryz.prog 104 #[specV 9 p q] w fun e w' => e = .returned (.int .i64 2) ∧ Below w.heap.size w w' := by
  unfold specV
  go_enter Tryz.func104, Tryz.ntmps104
  go_wp2_with (first
    | (go_at_call 85; refine (tfind_9 _).mono ?_; rintro e w5 ⟨b0, b1, rfl, c0, c1, hb⟩; (have HC0 := Lib.hid c0); (have HC1 := Lib.hid c1); (obtain ⟨hs, hbw, hlt⟩ := spec_in hb); (have HB := Lib.hid hbw); (have s0 : w5.cell? ⟨w.heap.size, 0, none⟩ = some (.int .i64 9) := cell_of_blkT hs rfl); (have s1 : w5.cell? ⟨w.heap.size, 1, none⟩ = some (.int .i64 p) := cell_of_blkT hs rfl); (have s2 : w5.cell? ⟨w.heap.size, 2, none⟩ = some (.int .i64 q) := cell_of_blkT hs rfl); clear hb hs c0 c1 hbw)
    | (go_at_call 176; refine (always1_any _ _ _ _ (cell_allocT HC1.out _)).mono ?_; rintro e w6 ⟨rfl, rfl⟩))
  go_ret
  exact ⟨rfl, HB.out.alloc (Nat.le_of_lt hlt) _⟩

set_option maxRecDepth 100000 in
set_option maxHeartbeats 1000000 in
theorem object_none (k p q : Int) (hk : ¬ (0 ≤ k ∧ k ≤ 9)) (w : World) : Calls Tryz.prog 51 #[specV k p q] w fun e w' => e = .returned (.tuple #[.nilIface, .int .i64 9]) ∧ Below w.heap.size w w' := by
  have HF := Lib.hid (fun w => tfind_none k w hk)
  clear hk
  unfold specV
  go_enter Tryz.func51, Tryz.ntmps51
  go_wp2_with (go_at_call 85; refine (HF.out _).mono ?_; rintro e w5 ⟨rfl, hb⟩; (obtain ⟨hs, hbw, hlt⟩ := spec_in hb); (have HB := Lib.hid hbw); (have s0 : w5.cell? ⟨w.heap.size, 0, none⟩ = some (.int .i64 k) := cell_of_blkT hs rfl); clear hb hs hbw)
  go_ret2
  exact ⟨rfl, HB.out.alloc (Nat.le_of_lt hlt) _⟩
set_option maxRecDepth 100000 in
set_option maxHeartbeats 1000000 in
theorem tkinds_none (k p q : Int) (hk : ¬ (0 ≤ k ∧ k ≤ 9)) (w : World) : Calls Tryz.prog 104 #[specV k p q] w fun e w' => e = .returned (.int .i64 0) ∧ Below w.heap.size w w' := by
  have HF := Lib.hid (fun w => tfind_none k w hk)
  clear hk
  unfold specV
  go_enter Tryz.func104, Tryz.ntmps104
  go_wp2_with (go_at_call 85; refine (HF.out _).mono ?_; rintro e w5 ⟨rfl, hb⟩; (obtain ⟨hs, hbw, hlt⟩ := spec_in hb); (have HB := Lib.hid hbw); (have s0 : w5.cell? ⟨w.heap.size, 0, none⟩ = some (.int .i64 k) := cell_of_blkT hs rfl); clear hb hs hbw)
  go_ret
  exact ⟨rfl, HB.out.alloc (Nat.le_of_lt hlt) _⟩
set_option maxRecDepth 100000 in
set_option maxHeartbeats 1000000 in
theorem size_none (n k p q : Int) (hn : 1 ≤ n ∧ n ≤ 16) (hk : ¬ (0 ≤ k ∧ k ≤ 9)) (w : World) :
    Calls Tryz.prog 20 #[.int .i64 n, specV k p q] w fun e w' => e = .returned (.tuple #[.int .i64 0, .int .i64 9]) ∧ Below w.heap.size w w' := by
  have HO := Lib.hid (fun w => object_none k p q hk w)
  have HP : Hid (∀ W, Calls Tryz.prog 50 #[.int .i64 n] W fun e w' => e = .returned (.bool true) ∧ W = w') := Lib.hid (fun W => by have := canPlay_any n W; rw [decide_eq_true hn] at this; exact this)
  clear hn hk
  unfold specV at *
  go_enter Tryz.func20, Tryz.ntmps20
  go_wp2_with (first
    | (go_at_call 50; refine (HP.out _).mono ?_; rintro e w4 ⟨rfl, rfl⟩)
    | (go_at_call 51; refine (HO.out _).mono ?_; rintro e w5 ⟨rfl, hb⟩; (obtain ⟨hs, hbw, hlt⟩ := spec_in hb); (have HB := Lib.hid hbw); clear hs hbw hb))
  go_ret2
  exact ⟨rfl, HB.out⟩
set_option maxHeartbeats 1000000 in
theorem size_far (n k p q : Int) (hn : ¬ (1 ≤ n ∧ n ≤ 16)) (w : World) :
    Calls Tryz.prog 20 #[.int .i64 n, specV k p q] w fun e w' => e = .returned (.tuple #[.int .i64 0, .int .i64 1]) ∧ Below w.heap.size w w' := by
  have HP : Hid (∀ W, Calls Tryz.prog 50 #[.int .i64 n] W fun e w' => e = .returned (.bool false) ∧ W = w') := Lib.hid (fun W => by have := canPlay_any n W; rw [decide_eq_false hn] at this; exact this)
  clear hn
  unfold specV
  go_enter Tryz.func20, Tryz.ntmps20
  go_wp2_with (go_at_call 50; refine (HP.out _).mono ?_; rintro e w4 ⟨rfl, rfl⟩)
  go_ret2
  exact ⟨rfl, (Below.refl _ _).alloc (Nat.le_refl _) _⟩
end Go.Proofs.YtmocjpcnohnfpaaGreat.Tb
