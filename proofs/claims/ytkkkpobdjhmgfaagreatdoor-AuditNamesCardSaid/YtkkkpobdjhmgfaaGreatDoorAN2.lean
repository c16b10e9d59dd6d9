/- Names of flaws: DeleteFunc, of four. -/
import Derived.Test.YtkkkpobdjhmgfaaGreatDoorAN1
import Derived.Lib.SliceRun
namespace Go.Proofs.YtkkkpobdjhmgfaaGreatDoor
open Go.RowKit Go.Shelf
set_option maxRecDepth 100000
set_option linter.unusedVariables false
set_option linter.unusedSimpArgs false

theorem an_no (w : World) : Calls Tryz.prog 18 #[.agg #[.int .i64 0, .int .i64 0]] w fun e w' => e = .returned (.bool true) ∧ Below w.heap.size w w' := by
  go_enter Tryz.func18, Tryz.ntmps18
  go_wp2_with fail
  go_ret
  exact ⟨rfl, (Below.refl _ _).alloc (Nat.le_refl _) _⟩
theorem an_is (w : World) : Calls Tryz.prog 18 #[.agg #[.int .i64 7, .int .i64 (-1)]] w fun e w' => e = .returned (.bool false) ∧ Below w.heap.size w w' := by
  go_enter Tryz.func18, Tryz.ntmps18
  go_wp2_with fail
  go_ret
  exact ⟨rfl, (Below.refl _ _).alloc (Nat.le_refl _) _⟩
/-- four flaws: where they lie; all but the first and the third are none -/
structure Fl (w : World) (g : Nat) (a0 b0 a2 b2 : Int) : Prop where
  lt : g < w.heap.size
  c0 : w.cell? ⟨g, 0, none⟩ = some (.int .i64 a0)
  c1 : w.cell? ⟨g, 1, none⟩ = some (.int .i64 b0)
  c2 : w.cell? ⟨g, 2, none⟩ = some (.int .i64 0)
  c3 : w.cell? ⟨g, 3, none⟩ = some (.int .i64 0)
  c4 : w.cell? ⟨g, 4, none⟩ = some (.int .i64 a2)
  c5 : w.cell? ⟨g, 5, none⟩ = some (.int .i64 b2)
  c6 : w.cell? ⟨g, 6, none⟩ = some (.int .i64 0)
  c7 : w.cell? ⟨g, 7, none⟩ = some (.int .i64 0)
  f : ∀ j, j < 8 → w.frozen? ⟨g, j, none⟩ = false
theorem Fl.below {w w' : World} {g B : Nat} {a0 b0 a2 b2 : Int} (h : Fl w g a0 b0 a2 b2) (hb : Below B w w') (hB : g < B) : Fl w' g a0 b0 a2 b2 :=
  ⟨Nat.lt_of_lt_of_le h.lt hb.size, (hb.cell (p := ⟨g, 0, none⟩) hB).trans h.c0, (hb.cell (p := ⟨g, 1, none⟩) hB).trans h.c1, (hb.cell (p := ⟨g, 2, none⟩) hB).trans h.c2, (hb.cell (p := ⟨g, 3, none⟩) hB).trans h.c3, (hb.cell (p := ⟨g, 4, none⟩) hB).trans h.c4, (hb.cell (p := ⟨g, 5, none⟩) hB).trans h.c5, (hb.cell (p := ⟨g, 6, none⟩) hB).trans h.c6, (hb.cell (p := ⟨g, 7, none⟩) hB).trans h.c7,
    fun j hj => by have := h.f j hj; unfold World.frozen? at this ⊢; rw [hb.block g hB]; exact this⟩

theorem an_idx (g c : Nat) (a2 b2 : Int) (w : World) (h : Fl w g 0 0 a2 b2) : Calls Tryz.prog 39 #[.slice (some ⟨g, 0, none⟩) 4 c, .func (.func 18) #[] #[]] w fun e w' => e = .returned (.int .i64 0) ∧ Below w.heap.size w w' := by
  have c0 := h.c0
  have c1 := h.c1
  go_enter Tryz.func39, Tryz.ntmps39
  go_wp2_with fail
  refine wp_loop_rounds 1 ?_
  rw [rounds_succ]
  go_wp2_with fail
  refine (an_no _).mono ?_
  rintro e w1 ⟨rfl, hb⟩
  go_wp2_with fail
  go_ret
  exact ⟨rfl, hb⟩
theorem an_clear (g n c : Nat) (ty : TypeId) (w : World) (o : Nat) (hn : n = 3 ∨ n = 4) (hc : ∀ j, j < 2 * n → (w.cell? ⟨g, o + j, none⟩).isSome = true) (hf : ∀ j, j < 2 * n → w.frozen? ⟨g, o + j, none⟩ = false) :
    (Builtin.clear_ #[26] ty #[.slice (some ⟨g, o, none⟩) n c]).run Tryz.prog w = .ok (.tuple #[]) (w.setCells g o (List.replicate (2 * n) (.int .i64 0))) := by
  have hzc : (Builtin.zeroCells #[Value.int .i64 0, .int .i64 0] n).toList = List.replicate (2 * n) (Value.int .i64 0) := by
    rcases hn with rfl | rfl
    · simp [Builtin.zeroCells]; rfl
    · simp [Builtin.zeroCells]; rfl
  have hst := run_storeCells_cells (P := Tryz.prog) g o (List.replicate (2 * n) (Value.int .i64 0)) 0 w (by simpa using hc) (by simpa using hf) (by intro v hv'; rw [List.eq_of_mem_replicate hv']; rfl)
  simp only [Nat.add_zero] at hst
  have hz : ∀ w, (zeroValue 35).run Tryz.prog w = .ok (.agg #[.int .i64 0, .int .i64 0]) w := fun w => Tryz.zeroValue35 w
  rcases hn with rfl | rfl
  · simp [List.replicate] at hst hzc
    simp [Builtin.clear_, run_underlying Tryz.underlying26, hz, Value.cells, hzc, hst, List.replicate]
  · simp [List.replicate] at hst hzc
    simp [Builtin.clear_, run_underlying Tryz.underlying26, hz, Value.cells, hzc, hst, List.replicate]
theorem an_step {w W w1 : World} {o : Obj} (hb : Below w.heap.size w W) (h : Below (W.alloc o).heap.size (W.alloc o) w1) : Below w.heap.size w w1 :=
  hb.trans ((((Below.refl W.heap.size W).alloc (Nat.le_refl _) o).mono hb.size).trans (h.mono (by have := hb.size; simp; omega)))
theorem an_sets {B b : Nat} {a : World} (hb : B ≤ b) : ∀ (vs : List Value) (o : Nat) (w : World), Below B a w → Below B a (w.setCells b o vs)
  | [], _, _, h => h
  | v :: vs, o, w, h => an_sets hb vs (o + 1) _ (h.setCell (p := ⟨b, o, none⟩) hb v)
theorem Fl.cell {w : World} {g : Nat} {a0 b0 a2 b2 : Int} (h : Fl w g a0 b0 a2 b2) (j : Nat) (hj : j < 8) : (w.cell? ⟨g, j, none⟩).isSome = true := by
  rcases (by omega : j = 0 ∨ j = 1 ∨ j = 2 ∨ j = 3 ∨ j = 4 ∨ j = 5 ∨ j = 6 ∨ j = 7) with rfl | rfl | rfl | rfl | rfl | rfl | rfl | rfl
  · rw [h.c0]; rfl
  · rw [h.c1]; rfl
  · rw [h.c2]; rfl
  · rw [h.c3]; rfl
  · rw [h.c4]; rfl
  · rw [h.c5]; rfl
  · rw [h.c6]; rfl
  · rw [h.c7]; rfl
theorem an_put {w : World} {g : Nat} (h : Fl w g 0 0 7 (-1)) : Fl ((w.setCell ⟨g, 0, none⟩ (.int .i64 7)).setCell ⟨g, 1, none⟩ (.int .i64 (-1))) g 7 (-1) 7 (-1) := by
  obtain ⟨hlt, c0, c1, c2, c3, c4, c5, c6, c7, f⟩ := h
  have o : ∀ j, 2 ≤ j → ((w.setCell ⟨g, 0, none⟩ (.int .i64 7)).setCell ⟨g, 1, none⟩ (.int .i64 (-1))).cell? ⟨g, j, none⟩ = w.cell? ⟨g, j, none⟩ := fun j hj => by
    rw [World.cell?_setCell_other _ _ _ _ (by intro h; simp only [Addr.mk.injEq] at h; omega), World.cell?_setCell_other _ _ _ _ (by intro h; simp only [Addr.mk.injEq] at h; omega)]
  refine ⟨?_, ?_, ?_, (o 2 (by omega)).trans c2, (o 3 (by omega)).trans c3, (o 4 (by omega)).trans c4, (o 5 (by omega)).trans c5, (o 6 (by omega)).trans c6, (o 7 (by omega)).trans c7, fun j hj => ?_⟩
  · exact Nat.lt_of_lt_of_le hlt (((Below.refl 0 w).setCell (p := ⟨g, 0, none⟩) (Nat.zero_le _) _).setCell (p := ⟨g, 1, none⟩) (Nat.zero_le _) _).size
  · exact (World.cell?_setCell_other _ _ _ _ (by simp)).trans (World.cell?_setCell_same _ _ _ c0)
  · exact World.cell?_setCell_same _ _ _ ((World.cell?_setCell_other _ _ _ _ (by simp)).trans c1)
  · rw [World.frozen?_setCell, World.frozen?_setCell]; exact f j hj
theorem an_keep {b j o : Nat} (hj : j < o) : ∀ (vs : List Value) (q : Nat) (w : World), o ≤ q → (w.setCells b q vs).cell? ⟨b, j, none⟩ = w.cell? ⟨b, j, none⟩
  | [], _, _, _ => rfl
  | v :: vs, q, w, h => (an_keep hj vs (q + 1) _ (by omega)).trans (World.cell?_setCell_other _ _ _ _ (by intro h; simp only [Addr.mk.injEq] at h; omega))
theorem an_delA (g c : Nat) (w : World) (h : Fl w g 0 0 0 0) : Calls Tryz.prog 17 #[.slice (some ⟨g, 0, none⟩) 4 c, .func (.func 18) #[] #[]] w fun e w' => e = .returned (.slice (some ⟨g, 0, none⟩) 0 c) ∧ Below g w w' := by
  have H := Lib.hid h
  go_enter Tryz.func17, Tryz.ntmps17
  go_wp2_with fail
  refine (an_idx g c 0 0 _ h).mono ?_
  rintro e w1 ⟨rfl, hb1⟩
  have HB1 := Lib.hid hb1
  have h1 := h.below hb1 h.lt
  clear hb1 h
  obtain ⟨hlt, c0, c1, c2, c3, c4, c5, c6, c7, f⟩ := h1
  go_wp2_with fail
  refine wp_loop_rounds 4 ?_
  rw [rounds_succ]
  go_wp2_with fail
  refine (an_no _).mono ?_
  rintro e w2 ⟨rfl, hb2⟩
  have HB2 := Lib.hid (an_step HB1.out hb2)
  clear hlt c0 c1 c2 c3 c4 c5 c6 c7 f hb2
  obtain ⟨hlt, c0, c1, c2, c3, c4, c5, c6, c7, f⟩ := H.out.below HB2.out H.out.lt
  go_wp2_with fail
  rw [rounds_succ]
  go_wp2_with fail
  refine (an_no _).mono ?_
  rintro e w3 ⟨rfl, hb3⟩
  have HB3 := Lib.hid (an_step HB2.out hb3)
  clear hlt c0 c1 c2 c3 c4 c5 c6 c7 f hb3
  obtain ⟨hlt, c0, c1, c2, c3, c4, c5, c6, c7, f⟩ := H.out.below HB3.out H.out.lt
  go_wp2_with fail
  rw [rounds_succ]
  go_wp2_with fail
  refine (an_no _).mono ?_
  rintro e w4 ⟨rfl, hb4⟩
  have HB4 := Lib.hid (an_step HB3.out hb4)
  clear hlt c0 c1 c2 c3 c4 c5 c6 c7 f hb4
  obtain ⟨hlt, c0, c1, c2, c3, c4, c5, c6, c7, f⟩ := H.out.below HB4.out H.out.lt
  go_wp2_with fail
  rw [rounds_succ]
  have hcl := fun ty => an_clear g 4 c ty w4 0 (.inr rfl) (by intro j hj; rw [Nat.zero_add]; exact (H.out.below HB4.out H.out.lt).cell j hj) (by intro j hj; rw [Nat.zero_add]; exact f j hj)
  go_wp2_with fail
  go_ret
  exact ⟨rfl, an_sets (Nat.le_refl _) _ _ _ (HB4.out.mono (Nat.le_of_lt H.out.lt))⟩
theorem an_delB (g c : Nat) (w : World) (h : Fl w g 0 0 7 (-1)) (hc : 4 ≤ c) : Calls Tryz.prog 17 #[.slice (some ⟨g, 0, none⟩) 4 c, .func (.func 18) #[] #[]] w fun e w' => e = .returned (.slice (some ⟨g, 0, none⟩) 1 c) ∧ Below g w w' ∧ g < w'.heap.size ∧ w'.cell? ⟨g, 0, none⟩ = some (.int .i64 7) ∧ w'.cell? ⟨g, 1, none⟩ = some (.int .i64 (-1)) := by
  have H := Lib.hid h
  go_enter Tryz.func17, Tryz.ntmps17
  go_wp2_with fail
  refine (an_idx g c 7 (-1) _ h).mono ?_
  rintro e w1 ⟨rfl, hb1⟩
  have HB1 := Lib.hid hb1
  have h1 := h.below hb1 h.lt
  clear hb1 h
  obtain ⟨hlt, c0, c1, c2, c3, c4, c5, c6, c7, f⟩ := h1
  go_wp2_with fail
  refine wp_loop_rounds 4 ?_
  rw [rounds_succ]
  go_wp2_with fail
  refine (an_no _).mono ?_
  rintro e w2 ⟨rfl, hb2⟩
  have HB2 := Lib.hid (an_step HB1.out hb2)
  clear hlt c0 c1 c2 c3 c4 c5 c6 c7 f hb2
  obtain ⟨hlt, c0, c1, c2, c3, c4, c5, c6, c7, f⟩ := H.out.below HB2.out H.out.lt
  go_wp2_with fail
  rw [rounds_succ]
  go_wp2_with fail
  refine (an_is _).mono ?_
  rintro e w3 ⟨rfl, hb3⟩
  have HB3 := Lib.hid (an_step HB2.out hb3)
  have v0 : w3.cell? ⟨w2.heap.size, 0, none⟩ = some (.int .i64 7) := (hb3.cell (p := ⟨w2.heap.size, 0, none⟩) (by simp)).trans (by simp [go_sem])
  have v1 : w3.cell? ⟨w2.heap.size, 1, none⟩ = some (.int .i64 (-1)) := (hb3.cell (p := ⟨w2.heap.size, 1, none⟩) (by simp)).trans (by simp [go_sem])
  clear hlt c0 c1 c2 c3 c4 c5 c6 c7 f hb3
  obtain ⟨hlt, c0, c1, c2, c3, c4, c5, c6, c7, f⟩ := H.out.below HB3.out H.out.lt
  have f0 := f 0 (by omega)
  have f1 := f 1 (by omega)
  go_wp2_with fail
  have FW : Fl ((w3.setCell ⟨g, 0, none⟩ (.int .i64 7)).setCell ⟨g, 1, none⟩ (.int .i64 (-1))) g 7 (-1) 7 (-1) := an_put (H.out.below HB3.out H.out.lt)
  have HW : Below g w ((w3.setCell ⟨g, 0, none⟩ (.int .i64 7)).setCell ⟨g, 1, none⟩ (.int .i64 (-1))) := ((HB3.out.mono (Nat.le_of_lt H.out.lt)).setCell (p := ⟨g, 0, none⟩) (Nat.le_refl _) _).setCell (p := ⟨g, 1, none⟩) (Nat.le_refl _) _
  clear hlt c0 c1 c2 c3 c4 c5 c6 c7 f v0 v1 f0 f1
  generalize (w3.setCell ⟨g, 0, none⟩ (.int .i64 7)).setCell ⟨g, 1, none⟩ (.int .i64 (-1)) = W at FW HW ⊢
  have HF := Lib.hid FW
  have HV := Lib.hid HW
  obtain ⟨hlt, c0, c1, c2, c3, c4, c5, c6, c7, f⟩ := FW
  rw [rounds_succ]
  go_wp2_with fail
  refine (an_no _).mono ?_
  rintro e w4 ⟨rfl, hb4⟩
  have HB4 := Lib.hid (an_step (Below.refl _ _) hb4)
  clear hlt c0 c1 c2 c3 c4 c5 c6 c7 f hb4
  have HE := Lib.hid (HF.out.below HB4.out HF.out.lt)
  obtain ⟨hlt, c0, c1, c2, c3, c4, c5, c6, c7, f⟩ := HE.out
  go_wp2_with fail
  rw [rounds_succ]
  have hcl := fun ty => an_clear g 3 (c - 1) ty w4 2 (.inl rfl) (by intro j hj; exact HE.out.cell (2 + j) (by omega)) (by intro j hj; exact f (2 + j) (by omega))
  go_wp2_with fail
  go_ret
  refine ⟨rfl, an_sets (Nat.le_refl _) _ _ _ (HV.out.trans (HB4.out.mono (Nat.le_of_lt HF.out.lt))), ?_, ?_, ?_⟩
  · exact Nat.lt_of_lt_of_le hlt (an_sets (B := 0) (Nat.zero_le _) _ _ _ (Below.refl 0 w4)).size
  · exact (an_keep (by omega) _ _ _ (Nat.le_refl _)).trans c0
  · exact (an_keep (by omega) _ _ _ (Nat.le_refl _)).trans c1
end Go.Proofs.YtkkkpobdjhmgfaaGreatDoor
