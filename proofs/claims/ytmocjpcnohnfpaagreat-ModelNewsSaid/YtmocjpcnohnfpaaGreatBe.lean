/- table: find. -/
import Derived.Test.YtmocjpcnohnfpaaGreatBd
namespace Go.Proofs.YtmocjpcnohnfpaaGreat.Tb
open Go.ChangeShapes Go.WideShapes Go.ChangeAt Go.RowKit
set_option linter.unusedVariables false
set_option linter.unusedSimpArgs false

def rowZ : Obj := .cells #[.nilFunc, .nilFunc] 131
theorem rows_in {w w5 : World} {wz : World} (hB : Boxes (w.alloc rowZ).heap.size (w.alloc rowZ) wz rowBoxes) (h5 : w5 = wz.alloc (.cells (rowCells (w.alloc rowZ).heap.size) 131)) :
    w5.heap[w.heap.size]? = some rowZ ∧ Below w.heap.size w w5 ∧ (∀ (j : Nat) (v : Value), rowBoxes[j]? = some v → w5.cell? ⟨w.heap.size + 1 + j, 0, none⟩ = some v) ∧ (∀ (j : Nat) (v : Value), (rowCells (w.heap.size + 1))[j]? = some v → w5.cell? ⟨w.heap.size + 1 + 16, j, none⟩ = some v) := by
  have hs : (w.alloc rowZ).heap.size = w.heap.size + 1 := World.size_alloc _ _
  have hb1 : Below w.heap.size w (w.alloc rowZ) := (Below.refl _ _).alloc (Nat.le_refl _) _
  have hb : Below (w.alloc rowZ).heap.size (w.alloc rowZ) w5 := by subst h5; exact hB.bel.alloc (by rw [hB.size]; omega) _
  refine ⟨(hb.block _ (by rw [hs]; omega)).trans (heap_alloc_new _ _), hb1.trans (hb.mono (by rw [hs]; omega)), fun j v hj => ?_, fun j v hj => ?_⟩
  · have h1 := hB.cell j v hj
    have hlt := World.block_lt_of_cell? wz _ h1
    rw [hs] at h1
    subst h5
    exact (((Below.refl wz.heap.size wz).alloc (Nat.le_refl _) _).cell (by rw [hs] at hlt; exact hlt)).trans h1
  · subst h5
    rw [← hs] at hj ⊢
    have hsz := hB.size
    exact cell_of_blkT (by rw [show (w.alloc rowZ).heap.size + 16 = wz.heap.size from hsz.symm]; exact heap_alloc_new _ _) hj
/-- two cells of one block are stored -/
def put2 (w : World) (b : Nat) (v0 v1 : Value) : World := (w.setCell ⟨b, 0, none⟩ v0).setCell ⟨b, 1, none⟩ v1
theorem put2_below {a w : World} {B b : Nat} (h : Below B a w) (hb : B ≤ b) (v0 v1 : Value) : Below B a (put2 w b v0 v1) :=
  (h.setCell (p := ⟨b, 0, none⟩) hb _).setCell (p := ⟨b, 1, none⟩) hb _
theorem put2_cell (w : World) (b q : Nat) (hq : q ≠ b) (v0 v1 : Value) : (put2 w b v0 v1).cell? ⟨q, 0, none⟩ = w.cell? ⟨q, 0, none⟩ := by
  have h : ∀ (w : World) (k : Nat) (u : Value), (w.setCell ⟨b, k, none⟩ u).cell? ⟨q, 0, none⟩ = w.cell? ⟨q, 0, none⟩ := fun w k u => by
    unfold World.cell?
    rw [Below.heap_setCell w ⟨b, k, none⟩ u q hq]
  unfold put2
  rw [h, h]

def TFind0 (w : World) (e : Ending) (w' : World) : Prop := ∃ b0 : Nat, ∃ b1 : Nat, e = .returned (.tuple #[.agg #[.func (.func 175) #[] #[.pointer (some ⟨b0, 0, none⟩)], .func (.func 176) #[] #[.pointer (some ⟨b1, 0, none⟩)]], .bool true]) ∧ w'.cell? ⟨b0, 0, none⟩ = some (.func (.func 154) #[] #[]) ∧ w'.cell? ⟨b1, 0, none⟩ = some (.int .i64 4) ∧ Below w.heap.size w w'
set_option maxRecDepth 100000 in
set_option maxHeartbeats 1000000 in
theorem tfind_0 (w : World) : Calls Tryz.prog 85 #[.int .i64 0] w (TFind0 w) := by
  go_enter Tryz.func85, Tryz.ntmps85
  go_wp2_with (go_at_call 130; refine (rows_any _).mono ?_; rintro e w5 ⟨wz, hB, hw5, rfl⟩; (obtain ⟨hbk, hb, hx, hy⟩ := rows_in hB hw5); (have y0 : w5.cell? ⟨w.heap.size + 1 + 16, 0, none⟩ = some (.func (.func 175) #[] #[.pointer (some ⟨w.heap.size + 1 + 0, 0, none⟩)]) := hy 0 _ rfl); (have y1 : w5.cell? ⟨w.heap.size + 1 + 16, 1, none⟩ = some (.func (.func 176) #[] #[.pointer (some ⟨w.heap.size + 1 + 1, 0, none⟩)]) := hy 1 _ rfl); (have k0 : w5.cell? ⟨w.heap.size, 0, none⟩ = some .nilFunc := cell_of_blkT (k := 0) hbk rfl); (have k1 : w5.cell? ⟨w.heap.size, 1, none⟩ = some .nilFunc := cell_of_blkT (k := 1) hbk rfl); (have z0 := free_of_blkT (k := 0) hbk); (have z1 := free_of_blkT (k := 1) hbk); (have HX := Lib.hid hx); (have HB := Lib.hid hb); clear hB hw5 hbk hb hx hy)
  refine bodyPost_ret (v := .tuple #[.agg #[.func (.func 175) #[] #[.pointer (some ⟨w.heap.size + 1 + 0, 0, none⟩)], .func (.func 176) #[] #[.pointer (some ⟨w.heap.size + 1 + 1, 0, none⟩)]], .bool true]) (by simp [results, Tryz.results85, go_sem, k0, k1]) rfl ⟨_, _, rfl, (put2_cell w5 w.heap.size (w.heap.size + 1 + 0) (by omega) _ _).trans (HX.out 0 _ rfl), (put2_cell w5 w.heap.size (w.heap.size + 1 + 1) (by omega) _ _).trans (HX.out 1 _ rfl), put2_below HB.out (Nat.le_refl _) _ _⟩

def TFind1 (w : World) (e : Ending) (w' : World) : Prop := ∃ b0 : Nat, ∃ b1 : Nat, e = .returned (.tuple #[.agg #[.func (.func 177) #[] #[.pointer (some ⟨b0, 0, none⟩)], .func (.func 176) #[] #[.pointer (some ⟨b1, 0, none⟩)]], .bool true]) ∧ w'.cell? ⟨b0, 0, none⟩ = some (.func (.func 157) #[] #[]) ∧ w'.cell? ⟨b1, 0, none⟩ = some (.int .i64 2) ∧ Below w.heap.size w w'
set_option maxRecDepth 100000 in
set_option maxHeartbeats 1000000 in
theorem tfind_1 (w : World) : Calls Tryz.prog 85 #[.int .i64 1] w (TFind1 w) := by
  go_enter Tryz.func85, Tryz.ntmps85
  go_wp2_with (go_at_call 130; refine (rows_any _).mono ?_; rintro e w5 ⟨wz, hB, hw5, rfl⟩; (obtain ⟨hbk, hb, hx, hy⟩ := rows_in hB hw5); (have y0 : w5.cell? ⟨w.heap.size + 1 + 16, 2, none⟩ = some (.func (.func 177) #[] #[.pointer (some ⟨w.heap.size + 1 + 2, 0, none⟩)]) := hy 2 _ rfl); (have y1 : w5.cell? ⟨w.heap.size + 1 + 16, 3, none⟩ = some (.func (.func 176) #[] #[.pointer (some ⟨w.heap.size + 1 + 3, 0, none⟩)]) := hy 3 _ rfl); (have k0 : w5.cell? ⟨w.heap.size, 0, none⟩ = some .nilFunc := cell_of_blkT (k := 0) hbk rfl); (have k1 : w5.cell? ⟨w.heap.size, 1, none⟩ = some .nilFunc := cell_of_blkT (k := 1) hbk rfl); (have z0 := free_of_blkT (k := 0) hbk); (have z1 := free_of_blkT (k := 1) hbk); (have HX := Lib.hid hx); (have HB := Lib.hid hb); clear hB hw5 hbk hb hx hy)
  refine bodyPost_ret (v := .tuple #[.agg #[.func (.func 177) #[] #[.pointer (some ⟨w.heap.size + 1 + 2, 0, none⟩)], .func (.func 176) #[] #[.pointer (some ⟨w.heap.size + 1 + 3, 0, none⟩)]], .bool true]) (by simp [results, Tryz.results85, go_sem, k0, k1]) rfl ⟨_, _, rfl, (put2_cell w5 w.heap.size (w.heap.size + 1 + 2) (by omega) _ _).trans (HX.out 2 _ rfl), (put2_cell w5 w.heap.size (w.heap.size + 1 + 3) (by omega) _ _).trans (HX.out 3 _ rfl), put2_below HB.out (Nat.le_refl _) _ _⟩

def TFind2 (w : World) (e : Ending) (w' : World) : Prop := ∃ b0 : Nat, ∃ b1 : Nat, e = .returned (.tuple #[.agg #[.func (.func 177) #[] #[.pointer (some ⟨b0, 0, none⟩)], .func (.func 176) #[] #[.pointer (some ⟨b1, 0, none⟩)]], .bool true]) ∧ w'.cell? ⟨b0, 0, none⟩ = some (.func (.func 158) #[] #[]) ∧ w'.cell? ⟨b1, 0, none⟩ = some (.int .i64 2) ∧ Below w.heap.size w w'
set_option maxRecDepth 100000 in
set_option maxHeartbeats 1000000 in
theorem tfind_2 (w : World) : Calls Tryz.prog 85 #[.int .i64 2] w (TFind2 w) := by
  go_enter Tryz.func85, Tryz.ntmps85
  go_wp2_with (go_at_call 130; refine (rows_any _).mono ?_; rintro e w5 ⟨wz, hB, hw5, rfl⟩; (obtain ⟨hbk, hb, hx, hy⟩ := rows_in hB hw5); (have y0 : w5.cell? ⟨w.heap.size + 1 + 16, 4, none⟩ = some (.func (.func 177) #[] #[.pointer (some ⟨w.heap.size + 1 + 4, 0, none⟩)]) := hy 4 _ rfl); (have y1 : w5.cell? ⟨w.heap.size + 1 + 16, 5, none⟩ = some (.func (.func 176) #[] #[.pointer (some ⟨w.heap.size + 1 + 5, 0, none⟩)]) := hy 5 _ rfl); (have k0 : w5.cell? ⟨w.heap.size, 0, none⟩ = some .nilFunc := cell_of_blkT (k := 0) hbk rfl); (have k1 : w5.cell? ⟨w.heap.size, 1, none⟩ = some .nilFunc := cell_of_blkT (k := 1) hbk rfl); (have z0 := free_of_blkT (k := 0) hbk); (have z1 := free_of_blkT (k := 1) hbk); (have HX := Lib.hid hx); (have HB := Lib.hid hb); clear hB hw5 hbk hb hx hy)
  refine bodyPost_ret (v := .tuple #[.agg #[.func (.func 177) #[] #[.pointer (some ⟨w.heap.size + 1 + 4, 0, none⟩)], .func (.func 176) #[] #[.pointer (some ⟨w.heap.size + 1 + 5, 0, none⟩)]], .bool true]) (by simp [results, Tryz.results85, go_sem, k0, k1]) rfl ⟨_, _, rfl, (put2_cell w5 w.heap.size (w.heap.size + 1 + 4) (by omega) _ _).trans (HX.out 4 _ rfl), (put2_cell w5 w.heap.size (w.heap.size + 1 + 5) (by omega) _ _).trans (HX.out 5 _ rfl), put2_below HB.out (Nat.le_refl _) _ _⟩

def TFind3 (w : World) (e : Ending) (w' : World) : Prop := ∃ b0 : Nat, ∃ b1 : Nat, e = .returned (.tuple #[.agg #[.func (.func 177) #[] #[.pointer (some ⟨b0, 0, none⟩)], .func (.func 176) #[] #[.pointer (some ⟨b1, 0, none⟩)]], .bool true]) ∧ w'.cell? ⟨b0, 0, none⟩ = some (.func (.func 159) #[] #[]) ∧ w'.cell? ⟨b1, 0, none⟩ = some (.int .i64 3) ∧ Below w.heap.size w w'
set_option maxRecDepth 100000 in
set_option maxHeartbeats 1000000 in
theorem tfind_3 (w : World) : Calls Tryz.prog 85 #[.int .i64 3] w (TFind3 w) := by
  go_enter Tryz.func85, Tryz.ntmps85
  go_wp2_with (go_at_call 130; refine (rows_any _).mono ?_; rintro e w5 ⟨wz, hB, hw5, rfl⟩; (obtain ⟨hbk, hb, hx, hy⟩ := rows_in hB hw5); (have y0 : w5.cell? ⟨w.heap.size + 1 + 16, 6, none⟩ = some (.func (.func 177) #[] #[.pointer (some ⟨w.heap.size + 1 + 6, 0, none⟩)]) := hy 6 _ rfl); (have y1 : w5.cell? ⟨w.heap.size + 1 + 16, 7, none⟩ = some (.func (.func 176) #[] #[.pointer (some ⟨w.heap.size + 1 + 7, 0, none⟩)]) := hy 7 _ rfl); (have k0 : w5.cell? ⟨w.heap.size, 0, none⟩ = some .nilFunc := cell_of_blkT (k := 0) hbk rfl); (have k1 : w5.cell? ⟨w.heap.size, 1, none⟩ = some .nilFunc := cell_of_blkT (k := 1) hbk rfl); (have z0 := free_of_blkT (k := 0) hbk); (have z1 := free_of_blkT (k := 1) hbk); (have HX := Lib.hid hx); (have HB := Lib.hid hb); clear hB hw5 hbk hb hx hy)
  refine bodyPost_ret (v := .tuple #[.agg #[.func (.func 177) #[] #[.pointer (some ⟨w.heap.size + 1 + 6, 0, none⟩)], .func (.func 176) #[] #[.pointer (some ⟨w.heap.size + 1 + 7, 0, none⟩)]], .bool true]) (by simp [results, Tryz.results85, go_sem, k0, k1]) rfl ⟨_, _, rfl, (put2_cell w5 w.heap.size (w.heap.size + 1 + 6) (by omega) _ _).trans (HX.out 6 _ rfl), (put2_cell w5 w.heap.size (w.heap.size + 1 + 7) (by omega) _ _).trans (HX.out 7 _ rfl), put2_below HB.out (Nat.le_refl _) _ _⟩

def TFind4 (w : World) (e : Ending) (w' : World) : Prop := ∃ b0 : Nat, ∃ b1 : Nat, e = .returned (.tuple #[.agg #[.func (.func 175) #[] #[.pointer (some ⟨b0, 0, none⟩)], .func (.func 176) #[] #[.pointer (some ⟨b1, 0, none⟩)]], .bool true]) ∧ w'.cell? ⟨b0, 0, none⟩ = some (.func (.func 160) #[] #[]) ∧ w'.cell? ⟨b1, 0, none⟩ = some (.int .i64 2) ∧ Below w.heap.size w w'
set_option maxRecDepth 100000 in
set_option maxHeartbeats 1000000 in
theorem tfind_4 (w : World) : Calls Tryz.prog 85 #[.int .i64 4] w (TFind4 w) := by
  go_enter Tryz.func85, Tryz.ntmps85
  go_wp2_with (go_at_call 130; refine (rows_any _).mono ?_; rintro e w5 ⟨wz, hB, hw5, rfl⟩; (obtain ⟨hbk, hb, hx, hy⟩ := rows_in hB hw5); (have y0 : w5.cell? ⟨w.heap.size + 1 + 16, 8, none⟩ = some (.func (.func 175) #[] #[.pointer (some ⟨w.heap.size + 1 + 8, 0, none⟩)]) := hy 8 _ rfl); (have y1 : w5.cell? ⟨w.heap.size + 1 + 16, 9, none⟩ = some (.func (.func 176) #[] #[.pointer (some ⟨w.heap.size + 1 + 9, 0, none⟩)]) := hy 9 _ rfl); (have k0 : w5.cell? ⟨w.heap.size, 0, none⟩ = some .nilFunc := cell_of_blkT (k := 0) hbk rfl); (have k1 : w5.cell? ⟨w.heap.size, 1, none⟩ = some .nilFunc := cell_of_blkT (k := 1) hbk rfl); (have z0 := free_of_blkT (k := 0) hbk); (have z1 := free_of_blkT (k := 1) hbk); (have HX := Lib.hid hx); (have HB := Lib.hid hb); clear hB hw5 hbk hb hx hy)
  refine bodyPost_ret (v := .tuple #[.agg #[.func (.func 175) #[] #[.pointer (some ⟨w.heap.size + 1 + 8, 0, none⟩)], .func (.func 176) #[] #[.pointer (some ⟨w.heap.size + 1 + 9, 0, none⟩)]], .bool true]) (by simp [results, Tryz.results85, go_sem, k0, k1]) rfl ⟨_, _, rfl, (put2_cell w5 w.heap.size (w.heap.size + 1 + 8) (by omega) _ _).trans (HX.out 8 _ rfl), (put2_cell w5 w.heap.size (w.heap.size + 1 + 9) (by omega) _ _).trans (HX.out 9 _ rfl), put2_below HB.out (Nat.le_refl _) _ _⟩

def TFind5 (w : World) (e : Ending) (w' : World) : Prop := ∃ b0 : Nat, ∃ b1 : Nat, e = .returned (.tuple #[.agg #[.func (.func 175) #[] #[.pointer (some ⟨b0, 0, none⟩)], .func (.func 176) #[] #[.pointer (some ⟨b1, 0, none⟩)]], .bool true]) ∧ w'.cell? ⟨b0, 0, none⟩ = some (.func (.func 161) #[] #[]) ∧ w'.cell? ⟨b1, 0, none⟩ = some (.int .i64 2) ∧ Below w.heap.size w w'
set_option maxRecDepth 100000 in
set_option maxHeartbeats 1000000 in
theorem tfind_5 (w : World) : Calls Tryz.prog 85 #[.int .i64 5] w (TFind5 w) := by
  go_enter Tryz.func85, Tryz.ntmps85
  go_wp2_with (go_at_call 130; refine (rows_any _).mono ?_; rintro e w5 ⟨wz, hB, hw5, rfl⟩; (obtain ⟨hbk, hb, hx, hy⟩ := rows_in hB hw5); (have y0 : w5.cell? ⟨w.heap.size + 1 + 16, 10, none⟩ = some (.func (.func 175) #[] #[.pointer (some ⟨w.heap.size + 1 + 10, 0, none⟩)]) := hy 10 _ rfl); (have y1 : w5.cell? ⟨w.heap.size + 1 + 16, 11, none⟩ = some (.func (.func 176) #[] #[.pointer (some ⟨w.heap.size + 1 + 11, 0, none⟩)]) := hy 11 _ rfl); (have k0 : w5.cell? ⟨w.heap.size, 0, none⟩ = some .nilFunc := cell_of_blkT (k := 0) hbk rfl); (have k1 : w5.cell? ⟨w.heap.size, 1, none⟩ = some .nilFunc := cell_of_blkT (k := 1) hbk rfl); (have z0 := free_of_blkT (k := 0) hbk); (have z1 := free_of_blkT (k := 1) hbk); (have HX := Lib.hid hx); (have HB := Lib.hid hb); clear hB hw5 hbk hb hx hy)
  refine bodyPost_ret (v := .tuple #[.agg #[.func (.func 175) #[] #[.pointer (some ⟨w.heap.size + 1 + 10, 0, none⟩)], .func (.func 176) #[] #[.pointer (some ⟨w.heap.size + 1 + 11, 0, none⟩)]], .bool true]) (by simp [results, Tryz.results85, go_sem, k0, k1]) rfl ⟨_, _, rfl, (put2_cell w5 w.heap.size (w.heap.size + 1 + 10) (by omega) _ _).trans (HX.out 10 _ rfl), (put2_cell w5 w.heap.size (w.heap.size + 1 + 11) (by omega) _ _).trans (HX.out 11 _ rfl), put2_below HB.out (Nat.le_refl _) _ _⟩

def TFind6 (w : World) (e : Ending) (w' : World) : Prop := ∃ b1 : Nat, e = .returned (.tuple #[.agg #[.func (.func 162) #[] #[], .func (.func 176) #[] #[.pointer (some ⟨b1, 0, none⟩)]], .bool true]) ∧ w'.cell? ⟨b1, 0, none⟩ = some (.int .i64 2) ∧ Below w.heap.size w w'
set_option maxRecDepth 100000 in
set_option maxHeartbeats 1000000 in
theorem tfind_6 (w : World) : Calls Tryz.prog 85 #[.int .i64 6] w (TFind6 w) := by
  go_enter Tryz.func85, Tryz.ntmps85
  go_wp2_with (go_at_call 130; refine (rows_any _).mono ?_; rintro e w5 ⟨wz, hB, hw5, rfl⟩; (obtain ⟨hbk, hb, hx, hy⟩ := rows_in hB hw5); (have y0 : w5.cell? ⟨w.heap.size + 1 + 16, 12, none⟩ = some (.func (.func 162) #[] #[]) := hy 12 _ rfl); (have y1 : w5.cell? ⟨w.heap.size + 1 + 16, 13, none⟩ = some (.func (.func 176) #[] #[.pointer (some ⟨w.heap.size + 1 + 12, 0, none⟩)]) := hy 13 _ rfl); (have k0 : w5.cell? ⟨w.heap.size, 0, none⟩ = some .nilFunc := cell_of_blkT (k := 0) hbk rfl); (have k1 : w5.cell? ⟨w.heap.size, 1, none⟩ = some .nilFunc := cell_of_blkT (k := 1) hbk rfl); (have z0 := free_of_blkT (k := 0) hbk); (have z1 := free_of_blkT (k := 1) hbk); (have HX := Lib.hid hx); (have HB := Lib.hid hb); clear hB hw5 hbk hb hx hy)
  refine bodyPost_ret (v := .tuple #[.agg #[.func (.func 162) #[] #[], .func (.func 176) #[] #[.pointer (some ⟨w.heap.size + 1 + 12, 0, none⟩)]], .bool true]) (by simp [results, Tryz.results85, go_sem, k0, k1]) rfl ⟨_, rfl, (put2_cell w5 w.heap.size (w.heap.size + 1 + 12) (by omega) _ _).trans (HX.out 12 _ rfl), put2_below HB.out (Nat.le_refl _) _ _⟩

def TFind7 (w : World) (e : Ending) (w' : World) : Prop := e = .returned (.tuple #[.agg #[.func (.func 163) #[] #[], .func (.func 164) #[] #[]], .bool true]) ∧ Below w.heap.size w w'
set_option maxRecDepth 100000 in
set_option maxHeartbeats 1000000 in
theorem tfind_7 (w : World) : Calls Tryz.prog 85 #[.int .i64 7] w (TFind7 w) := by
  go_enter Tryz.func85, Tryz.ntmps85
  go_wp2_with (go_at_call 130; refine (rows_any _).mono ?_; rintro e w5 ⟨wz, hB, hw5, rfl⟩; (obtain ⟨hbk, hb, hx, hy⟩ := rows_in hB hw5); (have y0 : w5.cell? ⟨w.heap.size + 1 + 16, 14, none⟩ = some (.func (.func 163) #[] #[]) := hy 14 _ rfl); (have y1 : w5.cell? ⟨w.heap.size + 1 + 16, 15, none⟩ = some (.func (.func 164) #[] #[]) := hy 15 _ rfl); (have k0 : w5.cell? ⟨w.heap.size, 0, none⟩ = some .nilFunc := cell_of_blkT (k := 0) hbk rfl); (have k1 : w5.cell? ⟨w.heap.size, 1, none⟩ = some .nilFunc := cell_of_blkT (k := 1) hbk rfl); (have z0 := free_of_blkT (k := 0) hbk); (have z1 := free_of_blkT (k := 1) hbk); (have HX := Lib.hid hx); (have HB := Lib.hid hb); clear hB hw5 hbk hb hx hy)
  refine bodyPost_ret (v := .tuple #[.agg #[.func (.func 163) #[] #[], .func (.func 164) #[] #[]], .bool true]) (by simp [results, Tryz.results85, go_sem, k0, k1]) rfl ⟨rfl, put2_below HB.out (Nat.le_refl _) _ _⟩

def TFind8 (w : World) (e : Ending) (w' : World) : Prop := ∃ b1 : Nat, e = .returned (.tuple #[.agg #[.func (.func 165) #[] #[], .func (.func 176) #[] #[.pointer (some ⟨b1, 0, none⟩)]], .bool true]) ∧ w'.cell? ⟨b1, 0, none⟩ = some (.int .i64 2) ∧ Below w.heap.size w w'
set_option maxRecDepth 100000 in
set_option maxHeartbeats 1000000 in
theorem tfind_8 (w : World) : Calls Tryz.prog 85 #[.int .i64 8] w (TFind8 w) := by
  go_enter Tryz.func85, Tryz.ntmps85
  go_wp2_with (go_at_call 130; refine (rows_any _).mono ?_; rintro e w5 ⟨wz, hB, hw5, rfl⟩; (obtain ⟨hbk, hb, hx, hy⟩ := rows_in hB hw5); (have y0 : w5.cell? ⟨w.heap.size + 1 + 16, 16, none⟩ = some (.func (.func 165) #[] #[]) := hy 16 _ rfl); (have y1 : w5.cell? ⟨w.heap.size + 1 + 16, 17, none⟩ = some (.func (.func 176) #[] #[.pointer (some ⟨w.heap.size + 1 + 13, 0, none⟩)]) := hy 17 _ rfl); (have k0 : w5.cell? ⟨w.heap.size, 0, none⟩ = some .nilFunc := cell_of_blkT (k := 0) hbk rfl); (have k1 : w5.cell? ⟨w.heap.size, 1, none⟩ = some .nilFunc := cell_of_blkT (k := 1) hbk rfl); (have z0 := free_of_blkT (k := 0) hbk); (have z1 := free_of_blkT (k := 1) hbk); (have HX := Lib.hid hx); (have HB := Lib.hid hb); clear hB hw5 hbk hb hx hy)
  refine bodyPost_ret (v := .tuple #[.agg #[.func (.func 165) #[] #[], .func (.func 176) #[] #[.pointer (some ⟨w.heap.size + 1 + 13, 0, none⟩)]], .bool true]) (by simp [results, Tryz.results85, go_sem, k0, k1]) rfl ⟨_, rfl, (put2_cell w5 w.heap.size (w.heap.size + 1 + 13) (by omega) _ _).trans (HX.out 13 _ rfl), put2_below HB.out (Nat.le_refl _) _ _⟩

def TFind9 (w : World) (e : Ending) (w' : World) : Prop := ∃ b0 : Nat, ∃ b1 : Nat, e = .returned (.tuple #[.agg #[.func (.func 175) #[] #[.pointer (some ⟨b0, 0, none⟩)], .func (.func 176) #[] #[.pointer (some ⟨b1, 0, none⟩)]], .bool true]) ∧ w'.cell? ⟨b0, 0, none⟩ = some (.func (.func 166) #[] #[]) ∧ w'.cell? ⟨b1, 0, none⟩ = some (.int .i64 2) ∧ Below w.heap.size w w'
set_option maxRecDepth 100000 in
set_option maxHeartbeats 1000000 in
theorem tfind_9 (w : World) : Calls Tryz.prog 85 #[.int .i64 9] w (TFind9 w) := by
  go_enter Tryz.func85, Tryz.ntmps85
  go_wp2_with (go_at_call 130; refine (rows_any _).mono ?_; rintro e w5 ⟨wz, hB, hw5, rfl⟩; (obtain ⟨hbk, hb, hx, hy⟩ := rows_in hB hw5); (have y0 : w5.cell? ⟨w.heap.size + 1 + 16, 18, none⟩ = some (.func (.func 175) #[] #[.pointer (some ⟨w.heap.size + 1 + 14, 0, none⟩)]) := hy 18 _ rfl); (have y1 : w5.cell? ⟨w.heap.size + 1 + 16, 19, none⟩ = some (.func (.func 176) #[] #[.pointer (some ⟨w.heap.size + 1 + 15, 0, none⟩)]) := hy 19 _ rfl); (have k0 : w5.cell? ⟨w.heap.size, 0, none⟩ = some .nilFunc := cell_of_blkT (k := 0) hbk rfl); (have k1 : w5.cell? ⟨w.heap.size, 1, none⟩ = some .nilFunc := cell_of_blkT (k := 1) hbk rfl); (have z0 := free_of_blkT (k := 0) hbk); (have z1 := free_of_blkT (k := 1) hbk); (have HX := Lib.hid hx); (have HB := Lib.hid hb); clear hB hw5 hbk hb hx hy)
  refine bodyPost_ret (v := .tuple #[.agg #[.func (.func 175) #[] #[.pointer (some ⟨w.heap.size + 1 + 14, 0, none⟩)], .func (.func 176) #[] #[.pointer (some ⟨w.heap.size + 1 + 15, 0, none⟩)]], .bool true]) (by simp [results, Tryz.results85, go_sem, k0, k1]) rfl ⟨_, _, rfl, (put2_cell w5 w.heap.size (w.heap.size + 1 + 14) (by omega) _ _).trans (HX.out 14 _ rfl), (put2_cell w5 w.heap.size (w.heap.size + 1 + 15) (by omega) _ _).trans (HX.out 15 _ rfl), put2_below HB.out (Nat.le_refl _) _ _⟩

set_option maxRecDepth 100000 in
set_option maxHeartbeats 1000000 in
theorem tfind_none (k : Int) (w : World) (hk : ¬ (0 ≤ k ∧ k ≤ 9)) : Calls Tryz.prog 85 #[.int .i64 k] w fun e w' => e = .returned (.tuple #[.agg #[.nilFunc, .nilFunc], .bool false]) ∧ Below w.heap.size w w' := by
  by_cases h0 : k < 0
  · clear hk
    go_enter Tryz.func85, Tryz.ntmps85
    go_wp2_with (go_at_call 130; refine (rows_any _).mono ?_; rintro e w5 ⟨wz, hB, hw5, rfl⟩; (obtain ⟨hbk, hb, hx, hy⟩ := rows_in hB hw5); (have k0 : w5.cell? ⟨w.heap.size, 0, none⟩ = some .nilFunc := cell_of_blkT (k := 0) hbk rfl); (have k1 : w5.cell? ⟨w.heap.size, 1, none⟩ = some .nilFunc := cell_of_blkT (k := 1) hbk rfl); (have z0 := free_of_blkT (k := 0) hbk); (have z1 := free_of_blkT (k := 1) hbk); (have HB := Lib.hid hb); clear hB hw5 hbk hb hx hy)
    refine bodyPost_ret (v := .tuple #[.agg #[.nilFunc, .nilFunc], .bool false]) (by simp [results, Tryz.results85, go_sem, k0, k1]) rfl ⟨rfl, put2_below HB.out (Nat.le_refl _) _ _⟩
  · have h9 : 10 ≤ k := by omega
    clear hk
    go_enter Tryz.func85, Tryz.ntmps85
    go_wp2_with (go_at_call 130; refine (rows_any _).mono ?_; rintro e w5 ⟨wz, hB, hw5, rfl⟩; (obtain ⟨hbk, hb, hx, hy⟩ := rows_in hB hw5); (have k0 : w5.cell? ⟨w.heap.size, 0, none⟩ = some .nilFunc := cell_of_blkT (k := 0) hbk rfl); (have k1 : w5.cell? ⟨w.heap.size, 1, none⟩ = some .nilFunc := cell_of_blkT (k := 1) hbk rfl); (have z0 := free_of_blkT (k := 0) hbk); (have z1 := free_of_blkT (k := 1) hbk); (have HB := Lib.hid hb); clear hB hw5 hbk hb hx hy)
    refine bodyPost_ret (v := .tuple #[.agg #[.nilFunc, .nilFunc], .bool false]) (by simp [results, Tryz.results85, go_sem, k0, k1]) rfl ⟨rfl, put2_below HB.out (Nat.le_refl _) _ _⟩
end Go.Proofs.YtmocjpcnohnfpaaGreat.Tb
