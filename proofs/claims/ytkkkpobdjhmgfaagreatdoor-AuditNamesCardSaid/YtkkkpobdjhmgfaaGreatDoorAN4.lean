/- Names of flaws: Check, at nothing. -/
import Derived.Test.YtkkkpobdjhmgfaaGreatDoorAN2
import Derived.Test.YtkkkpobdjhmgfaaGreatDoorAN3
import Derived.Deep.RegionHeld3
import Derived.Lib.AppendZeros
import Derived.BigRegion
namespace Go.Proofs.YtkkkpobdjhmgfaaGreatDoor
open Go.RowKit Go.Shelf
set_option maxRecDepth 100000
set_option linter.unusedVariables false
set_option linter.unusedSimpArgs false

theorem an_right (t : Int) (w : World) (ht : -9223372036854775808 ≤ t ∧ t ≤ 9223372036854775807) : Calls Tryz.prog 8 #[.int .i64 1, .slice none 0 0, .slice none 0 0, .int .i64 t] w fun e w' => e = .returned (.bool true) ∧ Below w.heap.size w w' :=
  right_ok 1 none 0 0 0 [] none 0 0 0 [] t w ht (by simp) (by intro h; exact absurd h (by simp)) (by intro h; exact absurd h (by simp)) (by intro i x h; simp at h) (by simp) (by intro h; exact absurd h (by simp)) (by intro h; exact absurd h (by simp)) (by intro i x h; simp at h)
theorem infoAn : (Tryz.prog.info? 35).map (fun i => (i.zero, i.size, i.bytes)) = some (some (.agg #[.int .i64 0, .int .i64 0]), 2, 16) := by kernel_rfl
theorem an_drew {B : Nat} {a W : World} (h : Below B a W) : Below B a W.drew := ⟨h.os, h.tape, h.output, h.size, h.block⟩
/-- four flaws, appended to none -/
theorem an_app (w : World) (ty : TypeId) (b : Nat) (a2 b2 : Int) (hb : w.heap[b]? = some (.cells #[.int .i64 0, .int .i64 0, .int .i64 0, .int .i64 0, .int .i64 a2, .int .i64 b2, .int .i64 0, .int .i64 0] 35 (0, 0))) :
    ∃ c w', (Builtin.append_ #[26, 26] ty #[.slice none 0 0, .slice (some ⟨b, 0, none⟩) 4 4]).run Tryz.prog w = .ok (.slice (some ⟨w.heap.size, 0, none⟩) 4 c) w' ∧ 4 ≤ c ∧ Fl w' w.heap.size 0 0 a2 b2 ∧ Below w.heap.size w w' := by
  obtain ⟨i, hi, hz, hs, hy⟩ := info_parts infoAn
  have hr := run_append_nil (P := Tryz.prog) (w := w) 26 ty 35 i (.agg #[.int .i64 0, .int .i64 0]) Tryz.underlying26 hi hz ⟨b, 0, none⟩ 4 4
    [.int .i64 0, .int .i64 0, .int .i64 0, .int .i64 0, .int .i64 a2, .int .i64 b2, .int .i64 0, .int .i64 0] (by rw [hs]; rfl) (by
      intro j v hv
      rw [addr_add _ j b 0 rfl, Nat.zero_add]
      unfold World.cell?
      rw [hb]
      simpa using hv) (by omega) (by omega) (by rw [hy]; omega)
  refine ⟨_, _, hr, grownCap_ge _ _ _ _, ?_, an_drew ((Below.refl _ _).alloc (Nat.le_refl _) _)⟩
  have hl : (w.drew.alloc (.cells (([.int .i64 0, .int .i64 0, .int .i64 0, .int .i64 0, .int .i64 a2, .int .i64 b2, .int .i64 0, .int .i64 0] : List Value).toArray ++ Builtin.zeroCells (Value.agg #[.int .i64 0, .int .i64 0]).cells (grownCap w 4 0 35 - 4)) 35)).heap[w.heap.size]? = some (.cells (([.int .i64 0, .int .i64 0, .int .i64 0, .int .i64 0, .int .i64 a2, .int .i64 b2, .int .i64 0, .int .i64 0] : List Value).toArray ++ Builtin.zeroCells (Value.agg #[.int .i64 0, .int .i64 0]).cells (grownCap w 4 0 35 - 4)) 35 (0, 0)) := World.alloc_heap_new w.drew _
  have hc : ∀ j v, ([.int .i64 0, .int .i64 0, .int .i64 0, .int .i64 0, .int .i64 a2, .int .i64 b2, .int .i64 0, .int .i64 0] : List Value)[j]? = some v → World.cell? (w.drew.alloc (.cells (([.int .i64 0, .int .i64 0, .int .i64 0, .int .i64 0, .int .i64 a2, .int .i64 b2, .int .i64 0, .int .i64 0] : List Value).toArray ++ Builtin.zeroCells (Value.agg #[.int .i64 0, .int .i64 0]).cells (grownCap w 4 0 35 - 4)) 35)) ⟨w.heap.size, j, none⟩ = some v := fun j v hv => by
    have hj := (List.getElem?_eq_some_iff.1 hv).1
    unfold World.cell?
    rw [hl]
    show (_ ++ _ : Array Value)[j]? = some v
    rw [Array.getElem?_append_left (by simpa using hj)]
    simpa using hv
  refine ⟨?_, hc 0 _ rfl, hc 1 _ rfl, hc 2 _ rfl, hc 3 _ rfl, hc 4 _ rfl, hc 5 _ rfl, hc 6 _ rfl, hc 7 _ rfl, fun j hj => ?_⟩
  · exact (Array.getElem?_eq_some_iff.1 hl).1
  · unfold World.frozen?
    rw [hl]
    rfl
theorem an_steps0 (w : World) : Calls Tryz.prog 15 #[rNo 0] w fun e w' => e = .returned (.bool true) ∧ Below w.heap.size w w' := an_steps 0 w
theorem an_steps1 (w : World) : Calls Tryz.prog 15 #[rNo 1] w fun e w' => e = .returned (.bool false) ∧ Below w.heap.size w w' := an_steps 1 w
set_option maxHeartbeats 2000000 in
theorem an_checkA (w : World) : Calls Tryz.prog 6 #[.int .i64 1, .slice none 0 0, .slice none 0 0, rNo 0] w fun e w' => ∃ a c, e = .returned (.slice a 0 c) ∧ Below w.heap.size w w' := by
  unfold rNo
  go_enter Tryz.func6, Tryz.ntmps6
  go_wp2_with fail
  refine (an_table _).mono ?_
  rintro e w1 ⟨rfl, rfl⟩
  go_wp2_with fail
  refine (an_right 0 _ (by omega)).mono ?_
  rintro e w2 ⟨rfl, hb2⟩
  obtain ⟨w1, hw1⟩ : ∃ w1, w.alloc (.cells #[.slice none 0 0, .slice none 0 0, .int .i64 0, .int .i64 0, .int .i64 0, .int .i64 0, .int .i64 0, .int .i64 0, .int .i64 0] 33) = w1 := ⟨_, rfl⟩
  have hz1 : w1.heap.size = w.heap.size + 1 := by rw [← hw1]; simp
  have HS1 : Hid (∀ v, Below w1.heap.size w1 v → v.cell? ⟨w.heap.size, 0, none⟩ = some (.slice none 0 0) ∧ v.cell? ⟨w.heap.size, 1, none⟩ = some (.slice none 0 0) ∧ v.cell? ⟨w.heap.size, 2, none⟩ = some (.int .i64 0) ∧ v.cell? ⟨w.heap.size, 3, none⟩ = some (.int .i64 0) ∧ v.cell? ⟨w.heap.size, 4, none⟩ = some (.int .i64 0) ∧ v.cell? ⟨w.heap.size, 5, none⟩ = some (.int .i64 0) ∧ v.cell? ⟨w.heap.size, 6, none⟩ = some (.int .i64 0) ∧ v.cell? ⟨w.heap.size, 7, none⟩ = some (.int .i64 0) ∧ v.cell? ⟨w.heap.size, 8, none⟩ = some (.int .i64 0)) := Lib.hid (fun v hv => by
    have hh : v.heap[w.heap.size]? = some (.cells #[.slice none 0 0, .slice none 0 0, .int .i64 0, .int .i64 0, .int .i64 0, .int .i64 0, .int .i64 0, .int .i64 0, .int .i64 0] 33 (0, 0)) := (hv.block _ (by omega)).trans (by rw [← hw1]; exact World.alloc_heap_new w _)
    refine ⟨?_, ?_, ?_, ?_, ?_, ?_, ?_, ?_, ?_⟩ <;> (unfold World.cell?; rw [hh]; rfl))
  rw [hw1] at hb2
  have HB1 : Hid (Below w.heap.size w w1) := Lib.hid (by rw [← hw1]; exact (Below.refl _ _).alloc (Nat.le_refl _) _)
  have HB2 := Lib.hid hb2
  clear hw1 hb2
  obtain ⟨e0, e1, e2, e3, e4, e5, e6, e7, e8⟩ := HS1.out _ HB2.out
  go_wp2_with fail
  refine wp_loop_rounds 1 ?_
  rw [rounds_succ]
  go_wp2_with fail
  refine (an_wrong _).mono ?_
  rintro e w3 ⟨rfl, hb3⟩
  have HB3 := Lib.hid (HB2.out.trans (hb3.mono HB2.out.size))
  clear hb3 e0 e1 e2 e3 e4 e5 e6 e7 e8
  obtain ⟨e0, e1, e2, e3, e4, e5, e6, e7, e8⟩ := HS1.out _ HB3.out
  go_wp2_with fail
  refine wp_region_held_drew (S := fun w' => (w'.cell? ⟨w.heap.size, 0, none⟩ = some (.slice none 0 0) ∧ w'.cell? ⟨w.heap.size, 1, none⟩ = some (.slice none 0 0) ∧ w'.cell? ⟨w.heap.size, 2, none⟩ = some (.int .i64 0) ∧ w'.cell? ⟨w.heap.size, 3, none⟩ = some (.int .i64 0) ∧ w'.cell? ⟨w.heap.size, 4, none⟩ = some (.int .i64 0) ∧ w'.cell? ⟨w.heap.size, 5, none⟩ = some (.int .i64 0) ∧ w'.cell? ⟨w.heap.size, 6, none⟩ = some (.int .i64 0) ∧ w'.cell? ⟨w.heap.size, 7, none⟩ = some (.int .i64 0) ∧ w'.cell? ⟨w.heap.size, 8, none⟩ = some (.int .i64 0)) ∧ Below w1.heap.size w1 w') (by kernel_rfl) ?_ (fun hHeld => ?_)
  · exact ⟨HS1.out _ (an_drew HB3.out), an_drew HB3.out⟩
  try simp only [Act.put, List.getElem_toArray, List.getElem_cons_zero, List.getElem_cons_succ, List.setIfInBounds_toArray, List.set_cons_zero, List.set_cons_succ]
  refine wpAnyH_take (i := 0) (oi := _) (v := ?av0) rfl (by kernel_rfl) (by kernel_rfl) (by kernel_rfl) (fun _ _ _ h => h) (Or.inl ⟨by kernel_rfl, ?ay0⟩) (by assumption) ?ar0
  case ay0 => (intro w hSw; (try dsimp only at hSw); go_simp <;> with_reducible rfl)
  try simp only [Act.put, List.getElem_toArray, List.getElem_cons_zero, List.getElem_cons_succ, List.setIfInBounds_toArray, List.set_cons_zero, List.set_cons_succ]
  refine wpAnyH_take (i := 1) (oi := _) (v := ?av1) rfl (by kernel_rfl) (by kernel_rfl) (by kernel_rfl) (fun _ _ _ h => h) (Or.inl ⟨by kernel_rfl, ?ay1⟩) (by assumption) ?ar1
  case ay1 => (intro w hSw; (try dsimp only at hSw); go_simp <;> with_reducible rfl)
  try simp only [Act.put, List.getElem_toArray, List.getElem_cons_zero, List.getElem_cons_succ, List.setIfInBounds_toArray, List.set_cons_zero, List.set_cons_succ]
  refine wpAnyH_take (i := 2) (oi := _) (v := ?av2) rfl (by kernel_rfl) (by kernel_rfl) (by kernel_rfl) (fun _ _ _ h => h) (Or.inl ⟨by kernel_rfl, ?ay2⟩) (by assumption) ?ar2
  case ay2 => (intro w hSw; (try dsimp only at hSw); go_simp <;> with_reducible rfl)
  try simp only [Act.put, List.getElem_toArray, List.getElem_cons_zero, List.getElem_cons_succ, List.setIfInBounds_toArray, List.set_cons_zero, List.set_cons_succ]
  refine wpAnyH_take (i := 6) (oi := _) (v := ?av6) rfl (by kernel_rfl) (by kernel_rfl) (by kernel_rfl) (fun _ _ _ h => h) (Or.inl ⟨by kernel_rfl, ?ay6⟩) (by assumption) ?ar6
  case ay6 => (intro w hSw; (try dsimp only at hSw); go_simp <;> with_reducible rfl)
  try simp only [Act.put, List.getElem_toArray, List.getElem_cons_zero, List.getElem_cons_succ, List.setIfInBounds_toArray, List.set_cons_zero, List.set_cons_succ]
  refine wpAnyH_take (i := 7) (oi := _) (v := ?av7) rfl (by kernel_rfl) (by kernel_rfl) (by kernel_rfl) (fun _ _ _ h => h) (Or.inl ⟨by kernel_rfl, ?ay7⟩) (by assumption) ?ar7
  case ay7 => (intro w hSw; (try dsimp only at hSw); go_simp <;> with_reducible rfl)
  try simp only [Act.put, List.getElem_toArray, List.getElem_cons_zero, List.getElem_cons_succ, List.setIfInBounds_toArray, List.set_cons_zero, List.set_cons_succ]
  refine wpAnyH_take (i := 8) (oi := _) (v := ?av8) rfl (by kernel_rfl) (by kernel_rfl) (by kernel_rfl) (fun _ _ _ h => h) (Or.inl ⟨by kernel_rfl, ?ay8⟩) (by assumption) ?ar8
  case ay8 => (intro w hSw; (try dsimp only at hSw); go_simp <;> with_reducible rfl)
  try simp only [Act.put, List.getElem_toArray, List.getElem_cons_zero, List.getElem_cons_succ, List.setIfInBounds_toArray, List.set_cons_zero, List.set_cons_succ]
  refine wpAnyH_take (i := 10) (oi := _) (v := ?av10) rfl (by kernel_rfl) (by kernel_rfl) (by kernel_rfl) (fun _ _ _ h => h) (Or.inl ⟨by kernel_rfl, ?ay10⟩) (by assumption) ?ar10
  case ay10 => (intro w hSw; (try dsimp only at hSw); go_simp <;> with_reducible rfl)
  try simp only [Act.put, List.getElem_toArray, List.getElem_cons_zero, List.getElem_cons_succ, List.setIfInBounds_toArray, List.set_cons_zero, List.set_cons_succ]
  refine wpAnyH_take (i := 14) (oi := _) (v := ?av14) rfl (by kernel_rfl) (by kernel_rfl) (by kernel_rfl) (fun _ _ _ h => h) (Or.inl ⟨by kernel_rfl, ?ay14⟩) (by assumption) ?ar14
  case ay14 => (intro w hSw; (try dsimp only at hSw); go_simp <;> with_reducible rfl)
  try simp only [Act.put, List.getElem_toArray, List.getElem_cons_zero, List.getElem_cons_succ, List.setIfInBounds_toArray, List.set_cons_zero, List.set_cons_succ]
  refine wpAnyH_ready (rs := [3]) (by kernel_rfl) (by simp) ?_
  refine AllReadyH.cons (o := _) rfl (fun K hK => ?_) AllReadyH.nil
  have HB : Hid (Below w1.heap.size w1 _) := Lib.hid hHeld.2
  go_simp
  go_at_call 14
  refine (an_ahead _).mono ?_
  rintro e W3 ⟨rfl, hb3⟩
  have HB3 := Lib.hid (HB.out.trans (hb3.mono HB.out.size))
  clear HB hb3
  refine hK.out _ _ ?_ (fun hHeld3 => ?_)
  · exact ⟨HS1.out _ HB3.out, HB3.out⟩
  clear hK K hHeld
  try simp only [Act.put, List.getElem_toArray, List.getElem_cons_zero, List.getElem_cons_succ, List.setIfInBounds_toArray, List.set_cons_zero, List.set_cons_succ]
  refine wpAnyH_take (i := 4) (oi := _) (v := ?av4) rfl (by kernel_rfl) (by kernel_rfl) (by kernel_rfl) (fun _ _ _ h => h) (Or.inl ⟨by kernel_rfl, ?ay4⟩) (by assumption) ?ar4
  case ay4 => (intro w hSw; (try dsimp only at hSw); go_simp <;> with_reducible rfl)
  try simp only [Act.put, List.getElem_toArray, List.getElem_cons_zero, List.getElem_cons_succ, List.setIfInBounds_toArray, List.set_cons_zero, List.set_cons_succ]
  refine wpAnyH_ready (rs := [5]) (by kernel_rfl) (by simp) ?_
  refine AllReadyH.cons (o := _) rfl (fun K hK => ?_) AllReadyH.nil
  have HB : Hid (Below w1.heap.size w1 _) := Lib.hid hHeld3.2
  go_simp
  go_at_call 9
  refine (an_flawNo _ _ _).mono ?_
  rintro e W5 ⟨rfl, hb5⟩
  have HB5 := Lib.hid (HB.out.trans (hb5.mono HB.out.size))
  clear HB hb5
  refine hK.out _ _ ?_ (fun hHeld5 => ?_)
  · exact ⟨HS1.out _ HB5.out, HB5.out⟩
  clear hK K hHeld3
  try simp only [Act.put, List.getElem_toArray, List.getElem_cons_zero, List.getElem_cons_succ, List.setIfInBounds_toArray, List.set_cons_zero, List.set_cons_succ]
  refine wpAnyH_ready (rs := [9]) (by kernel_rfl) (by simp) ?_
  refine AllReadyH.cons (o := _) rfl (fun K hK => ?_) AllReadyH.nil
  have HB : Hid (Below w1.heap.size w1 _) := Lib.hid hHeld5.2
  go_simp
  go_at_call 9
  refine (an_flawNo _ _ _).mono ?_
  rintro e W9 ⟨rfl, hb9⟩
  have HB9 := Lib.hid (HB.out.trans (hb9.mono HB.out.size))
  clear HB hb9
  refine hK.out _ _ ?_ (fun hHeld9 => ?_)
  · exact ⟨HS1.out _ HB9.out, HB9.out⟩
  clear hK K hHeld5
  try simp only [Act.put, List.getElem_toArray, List.getElem_cons_zero, List.getElem_cons_succ, List.setIfInBounds_toArray, List.set_cons_zero, List.set_cons_succ]
  refine wpAnyH_ready (rs := [11]) (by kernel_rfl) (by simp) ?_
  refine AllReadyH.cons (o := _) rfl (fun K hK => ?_) AllReadyH.nil
  have HB : Hid (Below w1.heap.size w1 _) := Lib.hid hHeld9.2
  go_simp
  go_at_call 15
  refine (an_steps0 _).mono ?_
  rintro e W11 ⟨rfl, hb11⟩
  have HB11 := Lib.hid (HB.out.trans (hb11.mono HB.out.size))
  clear HB hb11
  refine hK.out _ _ ?_ (fun hHeld11 => ?_)
  · exact ⟨HS1.out _ HB11.out, HB11.out⟩
  clear hK K hHeld9
  try simp only [Act.put, List.getElem_toArray, List.getElem_cons_zero, List.getElem_cons_succ, List.setIfInBounds_toArray, List.set_cons_zero, List.set_cons_succ]
  refine wpAnyH_take (i := 12) (oi := _) (v := ?av12) rfl (by kernel_rfl) (by kernel_rfl) (by kernel_rfl) (fun _ _ _ h => h) (Or.inl ⟨by kernel_rfl, ?ay12⟩) (by assumption) ?ar12
  case ay12 => (intro w hSw; (try dsimp only at hSw); go_simp <;> with_reducible rfl)
  try simp only [Act.put, List.getElem_toArray, List.getElem_cons_zero, List.getElem_cons_succ, List.setIfInBounds_toArray, List.set_cons_zero, List.set_cons_succ]
  refine wpAnyH_ready (rs := [13]) (by kernel_rfl) (by simp) ?_
  refine AllReadyH.cons (o := _) rfl (fun K hK => ?_) AllReadyH.nil
  have HB : Hid (Below w1.heap.size w1 _) := Lib.hid hHeld11.2
  go_simp
  go_at_call 9
  refine (an_flawNo _ _ _).mono ?_
  rintro e W13 ⟨rfl, hb13⟩
  have HB13 := Lib.hid (HB.out.trans (hb13.mono HB.out.size))
  clear HB hb13
  refine hK.out _ _ ?_ (fun hHeld13 => ?_)
  · exact ⟨HS1.out _ HB13.out, HB13.out⟩
  clear hK K hHeld11
  try simp only [Act.put, List.getElem_toArray, List.getElem_cons_zero, List.getElem_cons_succ, List.setIfInBounds_toArray, List.set_cons_zero, List.set_cons_succ]
  refine wpAnyH_ready (rs := [15]) (by kernel_rfl) (by simp) ?_
  refine AllReadyH.cons (o := _) rfl (fun K hK => ?_) AllReadyH.nil
  have HB : Hid (Below w1.heap.size w1 _) := Lib.hid hHeld13.2
  go_simp
  go_at_call 16
  refine (an_counts 0 _ (by omega)).mono ?_
  rintro e W15 ⟨rfl, hb15⟩
  have HB15 := Lib.hid (HB.out.trans (hb15.mono HB.out.size))
  clear HB hb15
  refine hK.out _ _ ?_ (fun hHeld15 => ?_)
  · exact ⟨HS1.out _ HB15.out, HB15.out⟩
  clear hK K hHeld13
  try simp only [Act.put, List.getElem_toArray, List.getElem_cons_zero, List.getElem_cons_succ, List.setIfInBounds_toArray, List.set_cons_zero, List.set_cons_succ]
  refine wpAnyH_take (i := 16) (oi := _) (v := ?av16) rfl (by kernel_rfl) (by kernel_rfl) (by kernel_rfl) (fun _ _ _ h => h) (Or.inl ⟨by kernel_rfl, ?ay16⟩) (by assumption) ?ar16
  case ay16 => (intro w hSw; (try dsimp only at hSw); go_simp <;> with_reducible rfl)
  try simp only [Act.put, List.getElem_toArray, List.getElem_cons_zero, List.getElem_cons_succ, List.setIfInBounds_toArray, List.set_cons_zero, List.set_cons_succ]
  refine wpAnyH_ready (rs := [17]) (by kernel_rfl) (by simp) ?_
  refine AllReadyH.cons (o := _) rfl (fun K hK => ?_) AllReadyH.nil
  have HB : Hid (Below w1.heap.size w1 _) := Lib.hid hHeld15.2
  go_simp
  go_at_call 9
  refine (an_flawNo _ _ _).mono ?_
  rintro e W17 ⟨rfl, hb17⟩
  have HB17 := Lib.hid (HB.out.trans (hb17.mono HB.out.size))
  clear HB hb17
  refine hK.out _ _ ?_ (fun hHeld17 => ?_)
  · exact ⟨HS1.out _ HB17.out, HB17.out⟩
  clear hK K hHeld15
  try simp only [Act.put, List.getElem_toArray, List.getElem_cons_zero, List.getElem_cons_succ, List.setIfInBounds_toArray, List.set_cons_zero, List.set_cons_succ]
  refine wpAnyH_ready (rs := [18]) (by kernel_rfl) (by simp) ?_
  refine AllReadyH.cons (o := _) rfl (fun K hK => ?_) AllReadyH.nil
  go_simp
  have hblk := World.alloc_heap_new W17 (.cells #[.int .i64 0, .int .i64 0, .int .i64 0, .int .i64 0, .int .i64 0, .int .i64 0, .int .i64 0, .int .i64 0] 35)
  have HB18 : Hid (Below w1.heap.size w1 (W17.alloc (.cells #[.int .i64 0, .int .i64 0, .int .i64 0, .int .i64 0, .int .i64 0, .int .i64 0, .int .i64 0, .int .i64 0] 35))) := Lib.hid (HB17.out.alloc HB17.out.size _)
  refine hK.out _ _ ?_ (fun hHeld18 => ?_)
  · exact ⟨HS1.out _ HB18.out, HB18.out⟩
  clear hK K hHeld17
  try simp only [Act.put, List.getElem_toArray, List.getElem_cons_zero, List.getElem_cons_succ, List.setIfInBounds_toArray, List.set_cons_zero, List.set_cons_succ]
  obtain ⟨W18, hW18⟩ : ∃ W18, W17.alloc (.cells #[.int .i64 0, .int .i64 0, .int .i64 0, .int .i64 0, .int .i64 0, .int .i64 0, .int .i64 0, .int .i64 0] 35) = W18 := ⟨_, rfl⟩
  rw [hW18] at hblk HB18 ⊢
  clear hW18 hHeld18
  obtain ⟨c, W19, hr, hc4, hF, hbl⟩ := an_app W18 26 _ _ _ hblk
  have HR := Lib.hid hr
  have HF := Lib.hid hF
  have HB19 := Lib.hid (HB18.out.trans (hbl.mono HB18.out.size))
  have hsz := HB18.out.size
  clear hr hF hbl hblk
  refine wpAnyH_ready (rs := [19]) (by kernel_rfl) (by simp) ?_
  refine AllReadyH.cons (o := _) rfl (fun K hK => ?_) AllReadyH.nil
  rw [if_pos (by kernel_rfl)]
  refine Lib.wp_append_run _ _ _ _ _ rfl _ _ rfl rfl _ _ HR.out ?_
  refine hK.out _ _ ?_ (fun hHeld19 => ?_)
  · exact ⟨HS1.out _ HB19.out, HB19.out⟩
  clear hK K HR
  try simp only [Act.put, List.getElem_toArray, List.getElem_cons_zero, List.getElem_cons_succ, List.setIfInBounds_toArray, List.set_cons_zero, List.set_cons_succ]
  refine wpAnyH_take (i := 20) (oi := _) (v := ?av20) rfl (by kernel_rfl) (by kernel_rfl) (by kernel_rfl) (fun _ _ _ h => h) (Or.inl ⟨by kernel_rfl, ?ay20⟩) (by assumption) ?ar20
  case ay20 => (intro w hSw; (try dsimp only at hSw); go_simp <;> with_reducible rfl)
  try simp only [Act.put, List.getElem_toArray, List.getElem_cons_zero, List.getElem_cons_succ, List.setIfInBounds_toArray, List.set_cons_zero, List.set_cons_succ]
  refine wpAnyH_done (by kernel_rfl) ?_ _
  clear hHeld19
  go_wp2_with fail
  refine (an_delA _ c _ HF.out).mono ?_
  rintro e W20 ⟨rfl, hb20⟩
  have HB20 := Lib.hid hb20
  clear hb20
  go_wp2_with fail
  go_ret
  exact ⟨_, _, rfl, HB1.out.trans ((HB19.out.mono HB1.out.size).trans (HB20.out.mono (by have := HB1.out.size; omega)))⟩
set_option maxHeartbeats 2000000 in
theorem an_checkB (w : World) : Calls Tryz.prog 6 #[.int .i64 1, .slice none 0 0, .slice none 0 0, rNo 1] w fun e w' => ∃ g c, e = .returned (.slice (some ⟨g, 0, none⟩) 1 c) ∧ Below w.heap.size w w' ∧ w'.cell? ⟨g, 0, none⟩ = some (.int .i64 7) ∧ w'.cell? ⟨g, 1, none⟩ = some (.int .i64 (-1)) := by
  unfold rNo
  go_enter Tryz.func6, Tryz.ntmps6
  go_wp2_with fail
  refine (an_table _).mono ?_
  rintro e w1 ⟨rfl, rfl⟩
  go_wp2_with fail
  refine (an_right 1 _ (by omega)).mono ?_
  rintro e w2 ⟨rfl, hb2⟩
  obtain ⟨w1, hw1⟩ : ∃ w1, w.alloc (.cells #[.slice none 0 0, .slice none 0 0, .int .i64 0, .int .i64 0, .int .i64 0, .int .i64 0, .int .i64 0, .int .i64 1, .int .i64 0] 33) = w1 := ⟨_, rfl⟩
  have hz1 : w1.heap.size = w.heap.size + 1 := by rw [← hw1]; simp
  have HS1 : Hid (∀ v, Below w1.heap.size w1 v → v.cell? ⟨w.heap.size, 0, none⟩ = some (.slice none 0 0) ∧ v.cell? ⟨w.heap.size, 1, none⟩ = some (.slice none 0 0) ∧ v.cell? ⟨w.heap.size, 2, none⟩ = some (.int .i64 0) ∧ v.cell? ⟨w.heap.size, 3, none⟩ = some (.int .i64 0) ∧ v.cell? ⟨w.heap.size, 4, none⟩ = some (.int .i64 0) ∧ v.cell? ⟨w.heap.size, 5, none⟩ = some (.int .i64 0) ∧ v.cell? ⟨w.heap.size, 6, none⟩ = some (.int .i64 0) ∧ v.cell? ⟨w.heap.size, 7, none⟩ = some (.int .i64 1) ∧ v.cell? ⟨w.heap.size, 8, none⟩ = some (.int .i64 0)) := Lib.hid (fun v hv => by
    have hh : v.heap[w.heap.size]? = some (.cells #[.slice none 0 0, .slice none 0 0, .int .i64 0, .int .i64 0, .int .i64 0, .int .i64 0, .int .i64 0, .int .i64 1, .int .i64 0] 33 (0, 0)) := (hv.block _ (by omega)).trans (by rw [← hw1]; exact World.alloc_heap_new w _)
    refine ⟨?_, ?_, ?_, ?_, ?_, ?_, ?_, ?_, ?_⟩ <;> (unfold World.cell?; rw [hh]; rfl))
  rw [hw1] at hb2
  have HB1 : Hid (Below w.heap.size w w1) := Lib.hid (by rw [← hw1]; exact (Below.refl _ _).alloc (Nat.le_refl _) _)
  have HB2 := Lib.hid hb2
  clear hw1 hb2
  obtain ⟨e0, e1, e2, e3, e4, e5, e6, e7, e8⟩ := HS1.out _ HB2.out
  go_wp2_with fail
  refine wp_loop_rounds 1 ?_
  rw [rounds_succ]
  go_wp2_with fail
  refine (an_wrong _).mono ?_
  rintro e w3 ⟨rfl, hb3⟩
  have HB3 := Lib.hid (HB2.out.trans (hb3.mono HB2.out.size))
  clear hb3 e0 e1 e2 e3 e4 e5 e6 e7 e8
  obtain ⟨e0, e1, e2, e3, e4, e5, e6, e7, e8⟩ := HS1.out _ HB3.out
  go_wp2_with fail
  refine wp_region_held_drew (S := fun w' => (w'.cell? ⟨w.heap.size, 0, none⟩ = some (.slice none 0 0) ∧ w'.cell? ⟨w.heap.size, 1, none⟩ = some (.slice none 0 0) ∧ w'.cell? ⟨w.heap.size, 2, none⟩ = some (.int .i64 0) ∧ w'.cell? ⟨w.heap.size, 3, none⟩ = some (.int .i64 0) ∧ w'.cell? ⟨w.heap.size, 4, none⟩ = some (.int .i64 0) ∧ w'.cell? ⟨w.heap.size, 5, none⟩ = some (.int .i64 0) ∧ w'.cell? ⟨w.heap.size, 6, none⟩ = some (.int .i64 0) ∧ w'.cell? ⟨w.heap.size, 7, none⟩ = some (.int .i64 1) ∧ w'.cell? ⟨w.heap.size, 8, none⟩ = some (.int .i64 0)) ∧ Below w1.heap.size w1 w') (by kernel_rfl) ?_ (fun hHeld => ?_)
  · exact ⟨HS1.out _ (an_drew HB3.out), an_drew HB3.out⟩
  try simp only [Act.put, List.getElem_toArray, List.getElem_cons_zero, List.getElem_cons_succ, List.setIfInBounds_toArray, List.set_cons_zero, List.set_cons_succ]
  refine wpAnyH_take (i := 0) (oi := _) (v := ?av0) rfl (by kernel_rfl) (by kernel_rfl) (by kernel_rfl) (fun _ _ _ h => h) (Or.inl ⟨by kernel_rfl, ?ay0⟩) (by assumption) ?ar0
  case ay0 => (intro w hSw; (try dsimp only at hSw); go_simp <;> with_reducible rfl)
  try simp only [Act.put, List.getElem_toArray, List.getElem_cons_zero, List.getElem_cons_succ, List.setIfInBounds_toArray, List.set_cons_zero, List.set_cons_succ]
  refine wpAnyH_take (i := 1) (oi := _) (v := ?av1) rfl (by kernel_rfl) (by kernel_rfl) (by kernel_rfl) (fun _ _ _ h => h) (Or.inl ⟨by kernel_rfl, ?ay1⟩) (by assumption) ?ar1
  case ay1 => (intro w hSw; (try dsimp only at hSw); go_simp <;> with_reducible rfl)
  try simp only [Act.put, List.getElem_toArray, List.getElem_cons_zero, List.getElem_cons_succ, List.setIfInBounds_toArray, List.set_cons_zero, List.set_cons_succ]
  refine wpAnyH_take (i := 2) (oi := _) (v := ?av2) rfl (by kernel_rfl) (by kernel_rfl) (by kernel_rfl) (fun _ _ _ h => h) (Or.inl ⟨by kernel_rfl, ?ay2⟩) (by assumption) ?ar2
  case ay2 => (intro w hSw; (try dsimp only at hSw); go_simp <;> with_reducible rfl)
  try simp only [Act.put, List.getElem_toArray, List.getElem_cons_zero, List.getElem_cons_succ, List.setIfInBounds_toArray, List.set_cons_zero, List.set_cons_succ]
  refine wpAnyH_take (i := 6) (oi := _) (v := ?av6) rfl (by kernel_rfl) (by kernel_rfl) (by kernel_rfl) (fun _ _ _ h => h) (Or.inl ⟨by kernel_rfl, ?ay6⟩) (by assumption) ?ar6
  case ay6 => (intro w hSw; (try dsimp only at hSw); go_simp <;> with_reducible rfl)
  try simp only [Act.put, List.getElem_toArray, List.getElem_cons_zero, List.getElem_cons_succ, List.setIfInBounds_toArray, List.set_cons_zero, List.set_cons_succ]
  refine wpAnyH_take (i := 7) (oi := _) (v := ?av7) rfl (by kernel_rfl) (by kernel_rfl) (by kernel_rfl) (fun _ _ _ h => h) (Or.inl ⟨by kernel_rfl, ?ay7⟩) (by assumption) ?ar7
  case ay7 => (intro w hSw; (try dsimp only at hSw); go_simp <;> with_reducible rfl)
  try simp only [Act.put, List.getElem_toArray, List.getElem_cons_zero, List.getElem_cons_succ, List.setIfInBounds_toArray, List.set_cons_zero, List.set_cons_succ]
  refine wpAnyH_take (i := 8) (oi := _) (v := ?av8) rfl (by kernel_rfl) (by kernel_rfl) (by kernel_rfl) (fun _ _ _ h => h) (Or.inl ⟨by kernel_rfl, ?ay8⟩) (by assumption) ?ar8
  case ay8 => (intro w hSw; (try dsimp only at hSw); go_simp <;> with_reducible rfl)
  try simp only [Act.put, List.getElem_toArray, List.getElem_cons_zero, List.getElem_cons_succ, List.setIfInBounds_toArray, List.set_cons_zero, List.set_cons_succ]
  refine wpAnyH_take (i := 10) (oi := _) (v := ?av10) rfl (by kernel_rfl) (by kernel_rfl) (by kernel_rfl) (fun _ _ _ h => h) (Or.inl ⟨by kernel_rfl, ?ay10⟩) (by assumption) ?ar10
  case ay10 => (intro w hSw; (try dsimp only at hSw); go_simp <;> with_reducible rfl)
  try simp only [Act.put, List.getElem_toArray, List.getElem_cons_zero, List.getElem_cons_succ, List.setIfInBounds_toArray, List.set_cons_zero, List.set_cons_succ]
  refine wpAnyH_take (i := 14) (oi := _) (v := ?av14) rfl (by kernel_rfl) (by kernel_rfl) (by kernel_rfl) (fun _ _ _ h => h) (Or.inl ⟨by kernel_rfl, ?ay14⟩) (by assumption) ?ar14
  case ay14 => (intro w hSw; (try dsimp only at hSw); go_simp <;> with_reducible rfl)
  try simp only [Act.put, List.getElem_toArray, List.getElem_cons_zero, List.getElem_cons_succ, List.setIfInBounds_toArray, List.set_cons_zero, List.set_cons_succ]
  refine wpAnyH_ready (rs := [3]) (by kernel_rfl) (by simp) ?_
  refine AllReadyH.cons (o := _) rfl (fun K hK => ?_) AllReadyH.nil
  have HB : Hid (Below w1.heap.size w1 _) := Lib.hid hHeld.2
  go_simp
  go_at_call 14
  refine (an_ahead _).mono ?_
  rintro e W3 ⟨rfl, hb3⟩
  have HB3 := Lib.hid (HB.out.trans (hb3.mono HB.out.size))
  clear HB hb3
  refine hK.out _ _ ?_ (fun hHeld3 => ?_)
  · exact ⟨HS1.out _ HB3.out, HB3.out⟩
  clear hK K hHeld
  try simp only [Act.put, List.getElem_toArray, List.getElem_cons_zero, List.getElem_cons_succ, List.setIfInBounds_toArray, List.set_cons_zero, List.set_cons_succ]
  refine wpAnyH_take (i := 4) (oi := _) (v := ?av4) rfl (by kernel_rfl) (by kernel_rfl) (by kernel_rfl) (fun _ _ _ h => h) (Or.inl ⟨by kernel_rfl, ?ay4⟩) (by assumption) ?ar4
  case ay4 => (intro w hSw; (try dsimp only at hSw); go_simp <;> with_reducible rfl)
  try simp only [Act.put, List.getElem_toArray, List.getElem_cons_zero, List.getElem_cons_succ, List.setIfInBounds_toArray, List.set_cons_zero, List.set_cons_succ]
  refine wpAnyH_ready (rs := [5]) (by kernel_rfl) (by simp) ?_
  refine AllReadyH.cons (o := _) rfl (fun K hK => ?_) AllReadyH.nil
  have HB : Hid (Below w1.heap.size w1 _) := Lib.hid hHeld3.2
  go_simp
  go_at_call 9
  refine (an_flawNo _ _ _).mono ?_
  rintro e W5 ⟨rfl, hb5⟩
  have HB5 := Lib.hid (HB.out.trans (hb5.mono HB.out.size))
  clear HB hb5
  refine hK.out _ _ ?_ (fun hHeld5 => ?_)
  · exact ⟨HS1.out _ HB5.out, HB5.out⟩
  clear hK K hHeld3
  try simp only [Act.put, List.getElem_toArray, List.getElem_cons_zero, List.getElem_cons_succ, List.setIfInBounds_toArray, List.set_cons_zero, List.set_cons_succ]
  refine wpAnyH_ready (rs := [9]) (by kernel_rfl) (by simp) ?_
  refine AllReadyH.cons (o := _) rfl (fun K hK => ?_) AllReadyH.nil
  have HB : Hid (Below w1.heap.size w1 _) := Lib.hid hHeld5.2
  go_simp
  go_at_call 9
  refine (an_flawNo _ _ _).mono ?_
  rintro e W9 ⟨rfl, hb9⟩
  have HB9 := Lib.hid (HB.out.trans (hb9.mono HB.out.size))
  clear HB hb9
  refine hK.out _ _ ?_ (fun hHeld9 => ?_)
  · exact ⟨HS1.out _ HB9.out, HB9.out⟩
  clear hK K hHeld5
  try simp only [Act.put, List.getElem_toArray, List.getElem_cons_zero, List.getElem_cons_succ, List.setIfInBounds_toArray, List.set_cons_zero, List.set_cons_succ]
  refine wpAnyH_ready (rs := [11]) (by kernel_rfl) (by simp) ?_
  refine AllReadyH.cons (o := _) rfl (fun K hK => ?_) AllReadyH.nil
  have HB : Hid (Below w1.heap.size w1 _) := Lib.hid hHeld9.2
  go_simp
  go_at_call 15
  refine (an_steps1 _).mono ?_
  rintro e W11 ⟨rfl, hb11⟩
  have HB11 := Lib.hid (HB.out.trans (hb11.mono HB.out.size))
  clear HB hb11
  refine hK.out _ _ ?_ (fun hHeld11 => ?_)
  · exact ⟨HS1.out _ HB11.out, HB11.out⟩
  clear hK K hHeld9
  try simp only [Act.put, List.getElem_toArray, List.getElem_cons_zero, List.getElem_cons_succ, List.setIfInBounds_toArray, List.set_cons_zero, List.set_cons_succ]
  refine wpAnyH_take (i := 12) (oi := _) (v := ?av12) rfl (by kernel_rfl) (by kernel_rfl) (by kernel_rfl) (fun _ _ _ h => h) (Or.inl ⟨by kernel_rfl, ?ay12⟩) (by assumption) ?ar12
  case ay12 => (intro w hSw; (try dsimp only at hSw); go_simp <;> with_reducible rfl)
  try simp only [Act.put, List.getElem_toArray, List.getElem_cons_zero, List.getElem_cons_succ, List.setIfInBounds_toArray, List.set_cons_zero, List.set_cons_succ]
  refine wpAnyH_ready (rs := [13]) (by kernel_rfl) (by simp) ?_
  refine AllReadyH.cons (o := _) rfl (fun K hK => ?_) AllReadyH.nil
  have HB : Hid (Below w1.heap.size w1 _) := Lib.hid hHeld11.2
  go_simp
  go_at_call 9
  refine (an_flawYes _ _ _).mono ?_
  rintro e W13 ⟨rfl, hb13⟩
  have HB13 := Lib.hid (HB.out.trans (hb13.mono HB.out.size))
  clear HB hb13
  refine hK.out _ _ ?_ (fun hHeld13 => ?_)
  · exact ⟨HS1.out _ HB13.out, HB13.out⟩
  clear hK K hHeld11
  try simp only [Act.put, List.getElem_toArray, List.getElem_cons_zero, List.getElem_cons_succ, List.setIfInBounds_toArray, List.set_cons_zero, List.set_cons_succ]
  refine wpAnyH_ready (rs := [15]) (by kernel_rfl) (by simp) ?_
  refine AllReadyH.cons (o := _) rfl (fun K hK => ?_) AllReadyH.nil
  have HB : Hid (Below w1.heap.size w1 _) := Lib.hid hHeld13.2
  go_simp
  go_at_call 16
  refine (an_counts 1 _ (by omega)).mono ?_
  rintro e W15 ⟨rfl, hb15⟩
  have HB15 := Lib.hid (HB.out.trans (hb15.mono HB.out.size))
  clear HB hb15
  refine hK.out _ _ ?_ (fun hHeld15 => ?_)
  · exact ⟨HS1.out _ HB15.out, HB15.out⟩
  clear hK K hHeld13
  try simp only [Act.put, List.getElem_toArray, List.getElem_cons_zero, List.getElem_cons_succ, List.setIfInBounds_toArray, List.set_cons_zero, List.set_cons_succ]
  refine wpAnyH_take (i := 16) (oi := _) (v := ?av16) rfl (by kernel_rfl) (by kernel_rfl) (by kernel_rfl) (fun _ _ _ h => h) (Or.inl ⟨by kernel_rfl, ?ay16⟩) (by assumption) ?ar16
  case ay16 => (intro w hSw; (try dsimp only at hSw); go_simp <;> with_reducible rfl)
  try simp only [Act.put, List.getElem_toArray, List.getElem_cons_zero, List.getElem_cons_succ, List.setIfInBounds_toArray, List.set_cons_zero, List.set_cons_succ]
  refine wpAnyH_ready (rs := [17]) (by kernel_rfl) (by simp) ?_
  refine AllReadyH.cons (o := _) rfl (fun K hK => ?_) AllReadyH.nil
  have HB : Hid (Below w1.heap.size w1 _) := Lib.hid hHeld15.2
  go_simp
  go_at_call 9
  refine (an_flawNo _ _ _).mono ?_
  rintro e W17 ⟨rfl, hb17⟩
  have HB17 := Lib.hid (HB.out.trans (hb17.mono HB.out.size))
  clear HB hb17
  refine hK.out _ _ ?_ (fun hHeld17 => ?_)
  · exact ⟨HS1.out _ HB17.out, HB17.out⟩
  clear hK K hHeld15
  try simp only [Act.put, List.getElem_toArray, List.getElem_cons_zero, List.getElem_cons_succ, List.setIfInBounds_toArray, List.set_cons_zero, List.set_cons_succ]
  refine wpAnyH_ready (rs := [18]) (by kernel_rfl) (by simp) ?_
  refine AllReadyH.cons (o := _) rfl (fun K hK => ?_) AllReadyH.nil
  go_simp
  have hblk := World.alloc_heap_new W17 (.cells #[.int .i64 0, .int .i64 0, .int .i64 0, .int .i64 0, .int .i64 7, .int .i64 (-1), .int .i64 0, .int .i64 0] 35)
  have HB18 : Hid (Below w1.heap.size w1 (W17.alloc (.cells #[.int .i64 0, .int .i64 0, .int .i64 0, .int .i64 0, .int .i64 7, .int .i64 (-1), .int .i64 0, .int .i64 0] 35))) := Lib.hid (HB17.out.alloc HB17.out.size _)
  refine hK.out _ _ ?_ (fun hHeld18 => ?_)
  · exact ⟨HS1.out _ HB18.out, HB18.out⟩
  clear hK K hHeld17
  try simp only [Act.put, List.getElem_toArray, List.getElem_cons_zero, List.getElem_cons_succ, List.setIfInBounds_toArray, List.set_cons_zero, List.set_cons_succ]
  obtain ⟨W18, hW18⟩ : ∃ W18, W17.alloc (.cells #[.int .i64 0, .int .i64 0, .int .i64 0, .int .i64 0, .int .i64 7, .int .i64 (-1), .int .i64 0, .int .i64 0] 35) = W18 := ⟨_, rfl⟩
  rw [hW18] at hblk HB18 ⊢
  clear hW18 hHeld18
  obtain ⟨c, W19, hr, hc4, hF, hbl⟩ := an_app W18 26 _ _ _ hblk
  have HR := Lib.hid hr
  have HF := Lib.hid hF
  have HB19 := Lib.hid (HB18.out.trans (hbl.mono HB18.out.size))
  have hsz := HB18.out.size
  clear hr hF hbl hblk
  refine wpAnyH_ready (rs := [19]) (by kernel_rfl) (by simp) ?_
  refine AllReadyH.cons (o := _) rfl (fun K hK => ?_) AllReadyH.nil
  rw [if_pos (by kernel_rfl)]
  refine Lib.wp_append_run _ _ _ _ _ rfl _ _ rfl rfl _ _ HR.out ?_
  refine hK.out _ _ ?_ (fun hHeld19 => ?_)
  · exact ⟨HS1.out _ HB19.out, HB19.out⟩
  clear hK K HR
  try simp only [Act.put, List.getElem_toArray, List.getElem_cons_zero, List.getElem_cons_succ, List.setIfInBounds_toArray, List.set_cons_zero, List.set_cons_succ]
  refine wpAnyH_take (i := 20) (oi := _) (v := ?av20) rfl (by kernel_rfl) (by kernel_rfl) (by kernel_rfl) (fun _ _ _ h => h) (Or.inl ⟨by kernel_rfl, ?ay20⟩) (by assumption) ?ar20
  case ay20 => (intro w hSw; (try dsimp only at hSw); go_simp <;> with_reducible rfl)
  try simp only [Act.put, List.getElem_toArray, List.getElem_cons_zero, List.getElem_cons_succ, List.setIfInBounds_toArray, List.set_cons_zero, List.set_cons_succ]
  refine wpAnyH_done (by kernel_rfl) ?_ _
  clear hHeld19
  go_wp2_with fail
  refine (an_delB _ c _ HF.out hc4).mono ?_
  rintro e W20 ⟨rfl, hb20, _, h7, h8⟩
  have HB20 := Lib.hid hb20
  have H7 := Lib.hid h7
  have H8 := Lib.hid h8
  clear hb20 h7 h8
  go_wp2_with fail
  go_ret
  exact ⟨_, _, rfl, HB1.out.trans ((HB19.out.mono HB1.out.size).trans (HB20.out.mono (by have := HB1.out.size; omega))), H7.out, H8.out⟩
end Go.Proofs.YtkkkpobdjhmgfaaGreatDoor
