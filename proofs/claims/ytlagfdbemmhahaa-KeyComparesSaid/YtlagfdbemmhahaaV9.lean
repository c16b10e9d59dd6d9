/- Walk of the law's known keys. -/
import Derived.Test.YtlagfdbemmhahaaV8
namespace Go.Proofs.Ytlagfdbemmhahaa
open Go.RowKit

/-- the four known keys -/
def four : List (List Int) := [[5], [4, 0], [4], [5]]

theorem icell1 {w : World} {g : Nat} {x : Int} (hx : -9223372036854775808 ≤ x ∧ x ≤ 9223372036854775807) (h : w.cell? ⟨g, 0, none⟩ = some (.int .i64 x)) : ICells w g 0 [x] := by
  intro i z hz
  match i, hz with
  | 0, hz => simp at hz; subst hz; exact ⟨h, hx⟩
theorem icell2 {w : World} {g : Nat} {x y : Int} (hx : -9223372036854775808 ≤ x ∧ x ≤ 9223372036854775807) (hy : -9223372036854775808 ≤ y ∧ y ≤ 9223372036854775807) (h : w.cell? ⟨g, 0, none⟩ = some (.int .i64 x)) (h2 : w.cell? ⟨g, 1, none⟩ = some (.int .i64 y)) : ICells w g 0 [x, y] := by
  intro i z hz
  match i, hz with
  | 0, hz => simp at hz; subst hz; exact ⟨h, hx⟩
  | 1, hz => simp at hz; subst hz; exact ⟨h2, hy⟩

theorem four_cells (w : World) : LCells (((((w.alloc (.cells #[.int .i64 5] 3)).alloc (.cells #[.int .i64 4, .int .i64 0] 3)).alloc (.cells #[.int .i64 4] 3)).alloc (.cells #[.int .i64 5] 3)).alloc
    (.cells #[.slice (some ⟨w.heap.size, 0, none⟩) 1 1, .slice (some ⟨w.heap.size + 1, 0, none⟩) 2 2, .slice (some ⟨w.heap.size + 2, 0, none⟩) 1 1, .slice (some ⟨w.heap.size + 3, 0, none⟩) 1 1] 22)) (w.heap.size + 5) (w.heap.size + 4) 0 four := by
  have hs : ∀ (w : World) (o : Obj), (w.alloc o).heap.size = w.heap.size + 1 := fun w o => by simp
  intro i l hl
  unfold four at hl
  match i, hl with
  | 0, hl =>
    simp at hl; subst hl
    refine ⟨_, w.heap.size, 0, 1, ?_, fun _ => rfl, fun _ => by omega, icell1 (by omega) ?_, by simp⟩
    · rw [World.cell?_alloc_at _ _ _ _ (by simp [hs] <;> omega)]; rfl
    · rw [World.cell?_alloc_past _ _ _ (by simp [hs] <;> omega), World.cell?_alloc_past _ _ _ (by simp [hs] <;> omega), World.cell?_alloc_past _ _ _ (by simp [hs] <;> omega), World.cell?_alloc_past _ _ _ (by simp [hs] <;> omega), World.cell?_alloc_at _ _ _ _ rfl]; rfl
  | 1, hl =>
    simp at hl; subst hl
    refine ⟨_, w.heap.size + 1, 0, 2, ?_, fun _ => rfl, fun _ => by omega, icell2 (by omega) (by omega) ?_ ?_, by simp⟩
    · rw [World.cell?_alloc_at _ _ _ _ (by simp [hs] <;> omega)]; rfl
    · rw [World.cell?_alloc_past _ _ _ (by simp [hs] <;> omega), World.cell?_alloc_past _ _ _ (by simp [hs] <;> omega), World.cell?_alloc_past _ _ _ (by simp [hs] <;> omega), World.cell?_alloc_at _ _ _ _ (by simp [hs] <;> omega)]; rfl
    · rw [World.cell?_alloc_past _ _ _ (by simp [hs] <;> omega), World.cell?_alloc_past _ _ _ (by simp [hs] <;> omega), World.cell?_alloc_past _ _ _ (by simp [hs] <;> omega), World.cell?_alloc_at _ _ _ _ (by simp [hs] <;> omega)]; rfl
  | 2, hl =>
    simp at hl; subst hl
    refine ⟨_, w.heap.size + 2, 0, 1, ?_, fun _ => rfl, fun _ => by omega, icell1 (by omega) ?_, by simp⟩
    · rw [World.cell?_alloc_at _ _ _ _ (by simp [hs] <;> omega)]; rfl
    · rw [World.cell?_alloc_past _ _ _ (by simp [hs] <;> omega), World.cell?_alloc_past _ _ _ (by simp [hs] <;> omega), World.cell?_alloc_at _ _ _ _ (by simp [hs] <;> omega)]; rfl
  | 3, hl =>
    simp at hl; subst hl
    refine ⟨_, w.heap.size + 3, 0, 1, ?_, fun _ => rfl, fun _ => by omega, icell1 (by omega) ?_, by simp⟩
    · rw [World.cell?_alloc_at _ _ _ _ (by simp [hs] <;> omega)]; rfl
    · rw [World.cell?_alloc_past _ _ _ (by simp [hs] <;> omega), World.cell?_alloc_at _ _ _ _ (by simp [hs] <;> omega)]; rfl

set_option maxHeartbeats 1000000 in
theorem known_any (w : World) : Calls Try.prog 14 #[] w fun e w' => e = .returned (.bool true) ∧ Below w.heap.size w w' := by
  have hc : Hid (cmpL [4] [4, 0] = -1) := Lib.hid (by decide +kernel)
  have r0 : Hid (rank four 0 = 2) := Lib.hid (by decide +kernel)
  have r1 : Hid (rank four 1 = 1) := Lib.hid (by decide +kernel)
  have r2 : Hid (rank four 2 = 0) := Lib.hid (by decide +kernel)
  have r3 : Hid (rank four 3 = 3) := Lib.hid (by decide +kernel)
  have hw1 : Hid (withinB [7] 3 4 = true) := Lib.hid (by decide +kernel)
  have hw2 : Hid (withinB [7] 4 4 = false) := Lib.hid (by decide +kernel)
  go_enter Try.func14, Try.ntmps14
  go_wp2_with fail
  refine (order_any (some ⟨w.heap.size + 4, 0, none⟩) (w.heap.size + 4) 0 4 four _ (by decide) (fun _ => rfl) (fun _ => by simp) (by simpa using four_cells w)).mono ?_
  rintro e w1 ⟨g, cap, rfl, h2, h3, h4⟩
  have k0 := h2 2 (by decide)
  have k1 := h2 1 (by decide)
  have k2 := h2 0 (by decide)
  have k3 := h2 3 (by decide)
  rw [r2.out] at k0
  rw [r1.out] at k1
  rw [r0.out] at k2
  rw [r3.out] at k3
  have hbl : Below w.heap.size w w1 := ((((((Below.refl _ _).alloc (Nat.le_refl _) _).alloc (by simp) _).alloc (by simp; omega) _).alloc (by simp; omega) _).alloc (by simp; omega) _).trans (h4.mono (by simp; omega))
  have hlen : Hid (four.length = 4) := Lib.hid rfl
  rw [hlen.out]
  clear h2 h4
  have e1 : ∀ (w : World) (o : Obj), (w.alloc o).heap.size = w.heap.size + 1 := fun w o => by simp
  have hI1 : Hid (ICells ((w1.alloc (.cells #[.int .i64 4] 3)).alloc (.cells #[.int .i64 4, .int .i64 0] 3)) w1.heap.size 0 [4]) := by
    apply Lib.hid
    refine icell1 (by omega) ?_
    rw [World.cell?_alloc_past _ _ _ (by rw [e1]; omega), World.cell?_alloc_at _ _ _ _ rfl]; rfl
  have hI2 : Hid (ICells ((w1.alloc (.cells #[.int .i64 4] 3)).alloc (.cells #[.int .i64 4, .int .i64 0] 3)) (w1.heap.size + 1) 0 [4, 0]) := by
    apply Lib.hid
    refine icell2 (by omega) (by omega) ?_ ?_
    · rw [World.cell?_alloc_at _ _ _ _ (by rw [e1])]; rfl
    · rw [World.cell?_alloc_at _ _ _ _ (by rw [e1])]; rfl
  clear e1
  go_wp2_with fail
  refine (compare_any (some ⟨w1.heap.size, 0, none⟩) (some ⟨w1.heap.size + 1, 0, none⟩) w1.heap.size 0 1 (w1.heap.size + 1) 0 2 [4] [4, 0] _ (by simp) (by simp) (fun _ => rfl) (fun _ => rfl) hI1.out hI2.out).mono ?_
  rw [hc.out]
  rintro e w2 ⟨rfl, rfl⟩
  go_wp2_with fail
  refine (within_any (some ⟨w1.heap.size + 1 + 1, 0, none⟩) (w1.heap.size + 1 + 1) 0 1 [7] 3 4 _ (by simp) (fun _ => rfl) (icell1 (by omega) (by rw [World.cell?_alloc_at _ _ _ _ (by simp)]; rfl))).mono ?_
  rw [hw1.out]
  rintro e w2 ⟨rfl, m, rfl⟩
  go_wp2_with fail
  refine (within_any (some ⟨w1.heap.size + 1 + 1 + 1, 0, none⟩) (w1.heap.size + 1 + 1 + 1) 0 1 [7] 4 4 _ (by simp) (fun _ => rfl) (icell1 (by omega) (by first | (rw [World.cell?_alloc_at _ _ _ _ (by simp)]; rfl) | (show World.cell? (World.alloc _ _) _ = _; rw [World.cell?_alloc_at _ _ _ _ (by simp)]; rfl)))).mono ?_
  rw [hw2.out]
  rintro e w2 ⟨rfl, m2, rfl⟩
  go_wp2_with fail
  go_ret
  refine ⟨rfl, ?_⟩
  have hz := hbl.size
  first
    | exact below_drewN (below_drewN ((((hbl.alloc hz _).alloc (by simp; omega) _).alloc (by simp; omega) _).alloc (by simp; omega) _) _) _
    | exact below_drewN ((((hbl.alloc hz _).alloc (by simp; omega) _).alloc (by simp; omega) _).alloc (by simp; omega) _) _
    | exact below_drewN ((below_drewN (((hbl.alloc hz _).alloc (by simp; omega) _).alloc (by simp; omega) _) _).alloc (by simp; omega) _) _
end Go.Proofs.Ytlagfdbemmhahaa
