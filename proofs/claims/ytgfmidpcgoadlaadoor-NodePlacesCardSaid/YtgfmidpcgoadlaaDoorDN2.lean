/- node: words; places of fields; the queue that is known. -/
import Derived.Test.YtgfmidpcgoadlaaDoorDN1
import Derived.Test.YtgfmidpcgoadlaaDoorDC
namespace Go.Proofs.YtgfmidpcgoadlaaDoor
open Go.RowKit

/-- the fields' table, as start-up lays it -/
def Fx (w : World) : Prop := w.cell? ⟨0, 0, none⟩ = some (.int .i64 0) ∧ w.cell? ⟨0, 1, none⟩ = some (.int .i64 1) ∧ w.cell? ⟨0, 2, none⟩ = some (.int .i64 2) ∧ w.cell? ⟨0, 3, none⟩ = some (.int .i64 3)
theorem Fx.lt {w : World} (h : Fx w) : 0 < w.heap.size := World.block_lt_of_cell? w ⟨0, 0, none⟩ h.1
theorem Fx.below {B : Nat} {w w' : World} (h : Fx w) (hb : Below B w w') (hB : 0 < B) : Fx w' :=
  ⟨(hb.cell (p := ⟨0, 0, none⟩) hB).trans h.1, (hb.cell (p := ⟨0, 1, none⟩) hB).trans h.2.1, (hb.cell (p := ⟨0, 2, none⟩) hB).trans h.2.2.1, (hb.cell (p := ⟨0, 3, none⟩) hB).trans h.2.2.2⟩

/-- is there this field? -/
def atB (n k i f : Int) : Bool := hasB n k i && decide (0 ≤ f ∧ f ≤ 3)
/-- its place -/
def atV (n i f : Int) : Int := 2 + n + 4 * (i - 1) + f

set_option maxHeartbeats 1000000 in
theorem at_no1 (n k i f : Int) (w : World) (h : hasB n k i = false) :
    Calls Tryd.prog 13 #[.int .i64 n, .int .i64 k, .int .i64 i, .int .i64 f] w fun e w' => e = .returned (.tuple #[.int .i64 0, .bool false]) ∧ w = w' := by
  have HH := Lib.hid (fun W => nhas_any n k i W)
  rw [h] at HH
  clear h
  go_enter Tryd.func13, Tryd.ntmps13
  go_wp2_with (first
    | (go_at_call 23; (with_reducible refine (HH.out _).mono ?_); rintro e w1 ⟨rfl, rfl⟩))
  go_ret2
  exact ⟨rfl, rfl⟩

theorem idx0 (W : World) : (Instr.index 43 (.agg #[.int .i64 0, .int .i64 1, .int .i64 2, .int .i64 3]) (.int .i64 0)).run Tryd.prog W = .ok (.int .i64 0) W := by kernel_rfl
theorem idx1 (W : World) : (Instr.index 43 (.agg #[.int .i64 0, .int .i64 1, .int .i64 2, .int .i64 3]) (.int .i64 1)).run Tryd.prog W = .ok (.int .i64 1) W := by kernel_rfl
theorem idx2 (W : World) : (Instr.index 43 (.agg #[.int .i64 0, .int .i64 1, .int .i64 2, .int .i64 3]) (.int .i64 2)).run Tryd.prog W = .ok (.int .i64 2) W := by kernel_rfl
theorem idx3 (W : World) : (Instr.index 43 (.agg #[.int .i64 0, .int .i64 1, .int .i64 2, .int .i64 3]) (.int .i64 3)).run Tryd.prog W = .ok (.int .i64 3) W := by kernel_rfl
theorem at_pre {n k i : Int} (h : hasB n k i = true) : 1 ≤ n ∧ n ≤ 16 ∧ 1 ≤ i ∧ i ≤ 513 := by
  obtain ⟨he, hi1, hi2⟩ := hasB_true h
  have hb := nk_le he
  obtain ⟨a1, a2, a3, a4⟩ := exB_true he
  omega

set_option maxHeartbeats 1000000 in
theorem at_0 (n k i : Int) (w : World) (hF : Fx w) (h : hasB n k i = true) :
    Calls Tryd.prog 13 #[.int .i64 n, .int .i64 k, .int .i64 i, .int .i64 0] w fun e w' => e = .returned (.tuple #[.int .i64 (2 + n + 4 * (i - 1) + 0), .bool true]) ∧ w = w' := by
  have HH := Lib.hid (fun W => nhas_any n k i W)
  rw [h] at HH
  obtain ⟨a1, a2, a3, a4⟩ := at_pre h
  have HB := Lib.hid (fun W => nbegin_any n i W a1 a2 a3 (by omega))
  obtain ⟨c0, c1, c2, c3⟩ := hF
  have i0 := fun W => idx0 W
  have i1 := fun W => idx1 W
  have i2 := fun W => idx2 W
  have i3 := fun W => idx3 W
  clear h
  go_enter Tryd.func13, Tryd.ntmps13
  go_wp2_with (first
    | (go_at_call 23; (with_reducible refine (HH.out _).mono ?_); rintro e w1 ⟨rfl, rfl⟩))
  go_loop [18] (fun x => ∃ j : Nat, j ≤ 0 ∧ x = .int .i64 j) (fun x => 4 - (intOf x).toNat)
  case atStart => exact ⟨0, by decide, rfl⟩
  case round =>
    obtain ⟨j, hj, rfl⟩ := hrel
    have hj2 : j = 0 := by omega
    subst hj2
    · go_wp2_with (first
        | (go_at_call 24; (with_reducible refine (HB.out _).mono ?_); rintro e w1 ⟨rfl, rfl⟩))
      go_ret2
      exact ⟨ret_intb (by omega) rfl, rfl⟩

set_option maxHeartbeats 1000000 in
theorem at_1 (n k i : Int) (w : World) (hF : Fx w) (h : hasB n k i = true) :
    Calls Tryd.prog 13 #[.int .i64 n, .int .i64 k, .int .i64 i, .int .i64 1] w fun e w' => e = .returned (.tuple #[.int .i64 (2 + n + 4 * (i - 1) + 1), .bool true]) ∧ w = w' := by
  have HH := Lib.hid (fun W => nhas_any n k i W)
  rw [h] at HH
  obtain ⟨a1, a2, a3, a4⟩ := at_pre h
  have HB := Lib.hid (fun W => nbegin_any n i W a1 a2 a3 (by omega))
  obtain ⟨c0, c1, c2, c3⟩ := hF
  have i0 := fun W => idx0 W
  have i1 := fun W => idx1 W
  have i2 := fun W => idx2 W
  have i3 := fun W => idx3 W
  clear h
  go_enter Tryd.func13, Tryd.ntmps13
  go_wp2_with (first
    | (go_at_call 23; (with_reducible refine (HH.out _).mono ?_); rintro e w1 ⟨rfl, rfl⟩))
  go_loop [18] (fun x => ∃ j : Nat, j ≤ 1 ∧ x = .int .i64 j) (fun x => 4 - (intOf x).toNat)
  case atStart => exact ⟨0, by decide, rfl⟩
  case round =>
    obtain ⟨j, hj, rfl⟩ := hrel
    have hj2 : j = 0 ∨ j = 1 := by omega
    rcases hj2 with rfl | rfl
    · go_wp2
      go_round
      case rel => exact ⟨1, by decide, rfl⟩
      case measure => simp [intOf]
    · go_wp2_with (first
        | (go_at_call 24; (with_reducible refine (HB.out _).mono ?_); rintro e w1 ⟨rfl, rfl⟩))
      go_ret2
      exact ⟨ret_intb (by omega) rfl, rfl⟩

set_option maxHeartbeats 1000000 in
theorem at_2 (n k i : Int) (w : World) (hF : Fx w) (h : hasB n k i = true) :
    Calls Tryd.prog 13 #[.int .i64 n, .int .i64 k, .int .i64 i, .int .i64 2] w fun e w' => e = .returned (.tuple #[.int .i64 (2 + n + 4 * (i - 1) + 2), .bool true]) ∧ w = w' := by
  have HH := Lib.hid (fun W => nhas_any n k i W)
  rw [h] at HH
  obtain ⟨a1, a2, a3, a4⟩ := at_pre h
  have HB := Lib.hid (fun W => nbegin_any n i W a1 a2 a3 (by omega))
  obtain ⟨c0, c1, c2, c3⟩ := hF
  have i0 := fun W => idx0 W
  have i1 := fun W => idx1 W
  have i2 := fun W => idx2 W
  have i3 := fun W => idx3 W
  clear h
  go_enter Tryd.func13, Tryd.ntmps13
  go_wp2_with (first
    | (go_at_call 23; (with_reducible refine (HH.out _).mono ?_); rintro e w1 ⟨rfl, rfl⟩))
  go_loop [18] (fun x => ∃ j : Nat, j ≤ 2 ∧ x = .int .i64 j) (fun x => 4 - (intOf x).toNat)
  case atStart => exact ⟨0, by decide, rfl⟩
  case round =>
    obtain ⟨j, hj, rfl⟩ := hrel
    have hj2 : j = 0 ∨ j = 1 ∨ j = 2 := by omega
    rcases hj2 with rfl | rfl | rfl
    · go_wp2
      go_round
      case rel => exact ⟨1, by decide, rfl⟩
      case measure => simp [intOf]
    · go_wp2
      go_round
      case rel => exact ⟨2, by decide, rfl⟩
      case measure => simp [intOf]
    · go_wp2_with (first
        | (go_at_call 24; (with_reducible refine (HB.out _).mono ?_); rintro e w1 ⟨rfl, rfl⟩))
      go_ret2
      exact ⟨ret_intb (by omega) rfl, rfl⟩

set_option maxHeartbeats 1000000 in
theorem at_3 (n k i : Int) (w : World) (hF : Fx w) (h : hasB n k i = true) :
    Calls Tryd.prog 13 #[.int .i64 n, .int .i64 k, .int .i64 i, .int .i64 3] w fun e w' => e = .returned (.tuple #[.int .i64 (2 + n + 4 * (i - 1) + 3), .bool true]) ∧ w = w' := by
  have HH := Lib.hid (fun W => nhas_any n k i W)
  rw [h] at HH
  obtain ⟨a1, a2, a3, a4⟩ := at_pre h
  have HB := Lib.hid (fun W => nbegin_any n i W a1 a2 a3 (by omega))
  obtain ⟨c0, c1, c2, c3⟩ := hF
  have i0 := fun W => idx0 W
  have i1 := fun W => idx1 W
  have i2 := fun W => idx2 W
  have i3 := fun W => idx3 W
  clear h
  go_enter Tryd.func13, Tryd.ntmps13
  go_wp2_with (first
    | (go_at_call 23; (with_reducible refine (HH.out _).mono ?_); rintro e w1 ⟨rfl, rfl⟩))
  go_loop [18] (fun x => ∃ j : Nat, j ≤ 3 ∧ x = .int .i64 j) (fun x => 4 - (intOf x).toNat)
  case atStart => exact ⟨0, by decide, rfl⟩
  case round =>
    obtain ⟨j, hj, rfl⟩ := hrel
    have hj2 : j = 0 ∨ j = 1 ∨ j = 2 ∨ j = 3 := by omega
    rcases hj2 with rfl | rfl | rfl | rfl
    · go_wp2
      go_round
      case rel => exact ⟨1, by decide, rfl⟩
      case measure => simp [intOf]
    · go_wp2
      go_round
      case rel => exact ⟨2, by decide, rfl⟩
      case measure => simp [intOf]
    · go_wp2
      go_round
      case rel => exact ⟨3, by decide, rfl⟩
      case measure => simp [intOf]
    · go_wp2_with (first
        | (go_at_call 24; (with_reducible refine (HB.out _).mono ?_); rintro e w1 ⟨rfl, rfl⟩))
      go_ret2
      exact ⟨ret_intb (by omega) rfl, rfl⟩

set_option maxHeartbeats 1000000 in
theorem at_no2 (n k i f : Int) (w : World) (hF : Fx w) (h : hasB n k i = true) (h0 : ¬ (0 ≤ f ∧ f ≤ 3)) :
    Calls Tryd.prog 13 #[.int .i64 n, .int .i64 k, .int .i64 i, .int .i64 f] w fun e w' => e = .returned (.tuple #[.int .i64 0, .bool false]) ∧ w = w' := by
  have f0 : ¬ (0 = f) := by omega
  have f1 : ¬ (1 = f) := by omega
  have f2 : ¬ (2 = f) := by omega
  have f3 : ¬ (3 = f) := by omega
  have g0 : ((0 : Int) == f) = false := beq_eq_false_iff_ne.2 f0
  have g1 : ((1 : Int) == f) = false := beq_eq_false_iff_ne.2 f1
  have g2 : ((2 : Int) == f) = false := beq_eq_false_iff_ne.2 f2
  have g3 : ((3 : Int) == f) = false := beq_eq_false_iff_ne.2 f3
  clear h0
  have HH := Lib.hid (fun W => nhas_any n k i W)
  rw [h] at HH
  obtain ⟨a1, a2, a3, a4⟩ := at_pre h
  have HB := Lib.hid (fun W => nbegin_any n i W a1 a2 a3 (by omega))
  obtain ⟨c0, c1, c2, c3⟩ := hF
  have i0 := fun W => idx0 W
  have i1 := fun W => idx1 W
  have i2 := fun W => idx2 W
  have i3 := fun W => idx3 W
  clear h
  go_enter Tryd.func13, Tryd.ntmps13
  go_wp2_with (first
    | (go_at_call 23; (with_reducible refine (HH.out _).mono ?_); rintro e w1 ⟨rfl, rfl⟩))
  go_loop [18] (fun x => ∃ j : Nat, j ≤ 4 ∧ x = .int .i64 j) (fun x => 4 - (intOf x).toNat)
  case atStart => exact ⟨0, by decide, rfl⟩
  case round =>
    obtain ⟨j, hj, rfl⟩ := hrel
    have hj2 : j = 0 ∨ j = 1 ∨ j = 2 ∨ j = 3 ∨ j = 4 := by omega
    rcases hj2 with rfl | rfl | rfl | rfl | rfl
    · go_wp2
      go_round
      case rel => exact ⟨1, by decide, rfl⟩
      case measure => simp [intOf]
    · go_wp2
      go_round
      case rel => exact ⟨2, by decide, rfl⟩
      case measure => simp [intOf]
    · go_wp2
      go_round
      case rel => exact ⟨3, by decide, rfl⟩
      case measure => simp [intOf]
    · go_wp2
      go_round
      case rel => exact ⟨4, by decide, rfl⟩
      case measure => simp [intOf]
    · go_wp2
      go_ret2
      exact ⟨rfl, rfl⟩

theorem at_yes (n k i f : Int) (w : World) (hF : Fx w) (h : hasB n k i = true) (h0 : 0 ≤ f) (h3 : f ≤ 3) :
    Calls Tryd.prog 13 #[.int .i64 n, .int .i64 k, .int .i64 i, .int .i64 f] w fun e w' => e = .returned (.tuple #[.int .i64 (atV n i f), .bool true]) ∧ w = w' := by
  have hf : f = 0 ∨ f = 1 ∨ f = 2 ∨ f = 3 := by omega
  rcases hf with rfl | rfl | rfl | rfl
  · exact at_0 n k i w hF h
  · exact at_1 n k i w hF h
  · exact at_2 n k i w hF h
  · exact at_3 n k i w hF h
theorem at_any (n k i f : Int) (w : World) (hF : Fx w) :
    Calls Tryd.prog 13 #[.int .i64 n, .int .i64 k, .int .i64 i, .int .i64 f] w fun e w' => e = .returned (.tuple #[.int .i64 (if atB n k i f = true then atV n i f else 0), .bool (atB n k i f)]) ∧ w = w' := by
  by_cases h : hasB n k i = true
  · by_cases hf : 0 ≤ f ∧ f ≤ 3
    · have e : atB n k i f = true := by unfold atB; rw [h, decide_eq_true hf]; rfl
      rw [e, if_pos rfl]
      exact at_yes n k i f w hF h hf.1 hf.2
    · have e : atB n k i f = false := by unfold atB; rw [h, decide_eq_false hf]; rfl
      rw [e, if_neg (by decide)]
      exact at_no2 n k i f w hF h hf
  · rw [Bool.not_eq_true] at h
    have e : atB n k i f = false := by unfold atB; rw [h]; rfl
    rw [e, if_neg (by decide)]
    exact at_no1 n k i f w h

set_option maxHeartbeats 400000 in
theorem cut_any (x s : Nat) (w : World) (hx : x < 18446744073709551616) (h1 : 1 ≤ s) (h : s ≤ 63) :
    Calls Tryd.prog 22 #[.int .u64 x, .int .i64 s] w fun e w' => e = .returned (.tuple #[.int .u64 (fld x 0 s), .int .u64 (fld x s (64 - s))]) ∧ ∃ k, w' = w.drewN k := by
  have HG : Hid (∀ W, Calls Tryd.prog 28 #[.int .u64 x, .int .i64 0, .int .i64 s] W fun e w' => e = .returned (.tuple #[.int .u64 (fld x 0 s), .int .i64 0]) ∧ ∃ k, w' = W.drewN k) := Lib.hid (fun W => wget_yes x 0 s W hx h1 (by omega))
  have HH : Hid (∀ W, Calls Tryd.prog 28 #[.int .u64 x, .int .i64 s, .int .i64 (64 - s)] W fun e w' => e = .returned (.tuple #[.int .u64 (fld x s (64 - s)), .int .i64 0]) ∧ ∃ k, w' = W.drewN k) := Lib.hid (fun W => by
    have h2 := wget_yes x s (64 - s) W hx (by omega) (by omega)
    rwa [show ((64 - s : Nat) : Int) = 64 - (s : Int) by omega] at h2)
  go_enter Tryd.func22, Tryd.ntmps22
  go_wp2_with (first
    | (go_at_call 28; (with_reducible refine (HG.out _).mono ?_); rintro e w1 ⟨rfl, k1, rfl⟩)
    | (go_at_call 28; (with_reducible refine (HH.out _).mono ?_); rintro e w1 ⟨rfl, k2, rfl⟩))
  go_ret2
  exact ⟨rfl, _, rfl⟩
end Go.Proofs.YtgfmidpcgoadlaaDoor
