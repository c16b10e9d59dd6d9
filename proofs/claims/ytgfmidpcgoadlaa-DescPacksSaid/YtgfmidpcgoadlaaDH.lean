/- Walk of the law DescPacks. -/
import Derived.Test.YtgfmidpcgoadlaaDG
namespace Go.Proofs.Ytgfmidpcgoadlaa
open Go.RowKit

set_option maxRecDepth 100000 in
set_option maxHeartbeats 4000000 in
theorem packs_wrong (p t : Bool) (l f n : Nat) (w : World) (hn : n < 18446744073709551616) (hl : l < 18446744073709551616) (hf : f < 18446744073709551616) (h : ¬ (l < 1073741824 ∧ f < 4294967296)) :
    Calls Try.prog 3 #[.agg #[.bool p, .bool t, .int .u64 l, .int .u64 f], .int .u64 n] w fun e w' => e = .returned (.bool true) ∧ Below w.heap.size w w' := by
  have HK : Hid (∀ W, Calls Try.prog 5 #[dV p t l f] W fun e w' => e = .returned (.tuple #[.int .u64 0, .int .i64 10]) ∧ Below W.heap.size W w') := Lib.hid (fun W => by
    have h1 := dpack_any p t l f W hl hf
    rw [dPk_no h] at h1
    exact h1)
  have HR : Hid (∀ W, Calls Try.prog 6 #[.int .u64 l, .int .u64 f] W fun e w' => e = .returned (.bool false) ∧ W = w') := Lib.hid (fun W => by
    have h1 := rright_any l f W
    rwa [show (decide ((l : Int) < 1073741824) && decide ((f : Int) < 4294967296)) = false by rw [Bool.eq_false_iff]; simp only [ne_eq, Bool.and_eq_true, decide_eq_true_eq]; omega] at h1)
  have HU : Hid (∀ W, Calls Try.prog 8 #[.int .u64 n] W fun e w' => e = .returned (dV (dP n) (dT n) (dL n) (dF n)) ∧ Below W.heap.size W w') := Lib.hid (fun W => dunpack_any n W hn)
  have HP : Hid (∀ W, Calls Try.prog 5 #[dV (dP n) (dT n) (dL n) (dF n)] W fun e w' => e = .returned (.tuple #[.int .u64 n, .int .i64 0]) ∧ Below W.heap.size W w') := Lib.hid (fun W => by
    have h1 := dL_lt n
    have h2 := dF_lt hn
    have h := dpack_any (dP n) (dT n) (dL n) (dF n) W (by omega) (by omega)
    rw [dPk_yes h1 h2, dWord_of] at h
    exact h)
  have H0 := Lib.hid (fun W => rpending_any n W hn)
  have H1 := Lib.hid (fun W => rtake_any n W hn)
  have H2 := Lib.hid (fun W => rload_any n W hn)
  have H3 := Lib.hid (fun W => rphase_any n W hn)
  generalize dP n = p2 at *
  generalize dT n = t2 at *
  generalize dL n = l2 at *
  generalize dF n = f2 at *
  have HA : Hid (Below w.heap.size w (w.alloc (.cells #[.bool p, .bool t, .int .u64 (l : Int), .int .u64 (f : Int)] 24))) := Lib.hid ((Below.refl _ _).alloc (Nat.le_refl _) _)
  have a0 : (w.alloc (.cells #[.bool p, .bool t, .int .u64 (l : Int), .int .u64 (f : Int)] 24)).cell? ⟨w.heap.size, 0, none⟩ = some (.bool p) := by rw [World.cell?_alloc_at _ _ _ _ rfl]; rfl
  have a1 : (w.alloc (.cells #[.bool p, .bool t, .int .u64 (l : Int), .int .u64 (f : Int)] 24)).cell? ⟨w.heap.size, 1, none⟩ = some (.bool t) := by rw [World.cell?_alloc_at _ _ _ _ rfl]; rfl
  have a2 : (w.alloc (.cells #[.bool p, .bool t, .int .u64 (l : Int), .int .u64 (f : Int)] 24)).cell? ⟨w.heap.size, 2, none⟩ = some (.int .u64 (l : Int)) := by rw [World.cell?_alloc_at _ _ _ _ rfl]; rfl
  have a3 : (w.alloc (.cells #[.bool p, .bool t, .int .u64 (l : Int), .int .u64 (f : Int)] 24)).cell? ⟨w.heap.size, 3, none⟩ = some (.int .u64 (f : Int)) := by rw [World.cell?_alloc_at _ _ _ _ rfl]; rfl
  have asz : w.heap.size < (w.alloc (.cells #[.bool p, .bool t, .int .u64 (l : Int), .int .u64 (f : Int)] 24)).heap.size := by simp
  generalize HX : (w.alloc (.cells #[.bool p, .bool t, .int .u64 (l : Int), .int .u64 (f : Int)] 24)) = wa at *
  clear hn hl hf h
  go_enter Try.func3, Try.ntmps3
  go_wp2_with (first
    | (go_at_call 5; (with_reducible refine (HK.out _).mono ?_); rintro e w2 ⟨rfl, hb⟩
       have b0 : w2.cell? ⟨w.heap.size, 0, none⟩ = some (.bool p) := (hb.cell (p := ⟨w.heap.size, 0, none⟩) asz).trans a0
       have b1 : w2.cell? ⟨w.heap.size, 1, none⟩ = some (.bool t) := (hb.cell (p := ⟨w.heap.size, 1, none⟩) asz).trans a1
       have b2 : w2.cell? ⟨w.heap.size, 2, none⟩ = some (.int .u64 (l : Int)) := (hb.cell (p := ⟨w.heap.size, 2, none⟩) asz).trans a2
       have b3 : w2.cell? ⟨w.heap.size, 3, none⟩ = some (.int .u64 (f : Int)) := (hb.cell (p := ⟨w.heap.size, 3, none⟩) asz).trans a3
       have HB2 := Lib.hid (HA.out.trans (hb.mono HA.out.size))
       clear hb HX)
    | (go_at_call 6; (with_reducible refine (HR.out _).mono ?_); rintro e w5 ⟨rfl, rfl⟩)
    | fail)
  go_wp2_with (first
    | (go_at_call 8; (with_reducible refine (HU.out _).mono ?_); rintro e w3 ⟨rfl, hb⟩
       have HB3 := Lib.hid (HB2.out.trans (hb.mono HB2.out.size))
       have HZ3 := Lib.hid (Nat.le_refl w3.heap.size)
       clear hb)
    | (go_at_call 5; (with_reducible refine (HP.out _).mono ?_); rintro e w4 ⟨rfl, hb⟩
       have c0 : w4.cell? ⟨w3.heap.size, 0, none⟩ = some (.bool p2) := (hb.cell (p := ⟨w3.heap.size, 0, none⟩) (by simp)).trans (by rw [World.cell?_alloc_at _ _ _ _ rfl]; rfl)
       have c1 : w4.cell? ⟨w3.heap.size, 1, none⟩ = some (.bool t2) := (hb.cell (p := ⟨w3.heap.size, 1, none⟩) (by simp)).trans (by rw [World.cell?_alloc_at _ _ _ _ rfl]; rfl)
       have c2 : w4.cell? ⟨w3.heap.size, 2, none⟩ = some (.int .u64 (l2 : Int)) := (hb.cell (p := ⟨w3.heap.size, 2, none⟩) (by simp)).trans (by rw [World.cell?_alloc_at _ _ _ _ rfl]; rfl)
       have c3 : w4.cell? ⟨w3.heap.size, 3, none⟩ = some (.int .u64 (f2 : Int)) := (hb.cell (p := ⟨w3.heap.size, 3, none⟩) (by simp)).trans (by rw [World.cell?_alloc_at _ _ _ _ rfl]; rfl)
       have hlt4 : w3.heap.size < w4.heap.size := Nat.lt_of_lt_of_le (by simp) hb.size
       have HB4 := Lib.hid ((HB3.out.alloc HB3.out.size (.cells #[.bool p2, .bool t2, .int .u64 (l2 : Int), .int .u64 (f2 : Int)] 24)).trans (hb.mono (Nat.le_trans HB3.out.size (by simp))))
       clear hb))
  go_region_held3 (fun w' => w'.cell? ⟨w3.heap.size, 0, none⟩ = some (.bool p2) ∧ w'.cell? ⟨w3.heap.size, 1, none⟩ = some (.bool t2) ∧ w'.cell? ⟨w3.heap.size, 2, none⟩ = some (.int .u64 (l2 : Int)) ∧ w'.cell? ⟨w3.heap.size, 3, none⟩ = some (.int .u64 (f2 : Int)))
    (first | with_reducible exact ⟨c0, c1, c2, c3⟩ | with_reducible exact ⟨d0, d1, d2, d3⟩ | go_keep)
    (first
      | (go_at_call 9; (with_reducible refine (H0.out _).mono ?_); rintro e w5 ⟨rfl, rfl⟩)
      | (go_at_call 10; (with_reducible refine (H1.out _).mono ?_); rintro e w5 ⟨rfl, rfl⟩)
      | (go_at_call 11; (with_reducible refine (H2.out _).mono ?_); rintro e w5 ⟨rfl, rfl⟩)
      | (go_at_call 12; (with_reducible refine (H3.out _).mono ?_); rintro e w5 ⟨rfl, rfl⟩)
      | (go_at_call 13; (refine (put_any _).mono ?_); rintro e w6 ⟨rfl, hb⟩
         have d0 : w6.cell? ⟨w3.heap.size, 0, none⟩ = some (.bool p2) := (hb.cell (p := ⟨w3.heap.size, 0, none⟩) hlt4).trans c0
         have d1 : w6.cell? ⟨w3.heap.size, 1, none⟩ = some (.bool t2) := (hb.cell (p := ⟨w3.heap.size, 1, none⟩) hlt4).trans c1
         have d2 : w6.cell? ⟨w3.heap.size, 2, none⟩ = some (.int .u64 (l2 : Int)) := (hb.cell (p := ⟨w3.heap.size, 2, none⟩) hlt4).trans c2
         have d3 : w6.cell? ⟨w3.heap.size, 3, none⟩ = some (.int .u64 (f2 : Int)) := (hb.cell (p := ⟨w3.heap.size, 3, none⟩) hlt4).trans c3
         have HB6 := Lib.hid (HB4.out.drew.trans (hb.mono HB4.out.size))
         clear hb)
      | fail)
  go_wp2_with fail
  go_ret
  exact ⟨rfl, HB6.out⟩

set_option maxRecDepth 100000 in
set_option maxHeartbeats 4000000 in
theorem packs_right (p t : Bool) (l f n : Nat) (w : World) (hn : n < 18446744073709551616) (hl : l < 18446744073709551616) (hf : f < 18446744073709551616) (h1 : l < 1073741824) (h2 : f < 4294967296) :
    Calls Try.prog 3 #[.agg #[.bool p, .bool t, .int .u64 l, .int .u64 f], .int .u64 n] w fun e w' => e = .returned (.bool true) ∧ Below w.heap.size w w' := by
  have HK : Hid (∀ W, Calls Try.prog 5 #[dV p t l f] W fun e w' => e = .returned (.tuple #[.int .u64 (dWord p t l f : Nat), .int .i64 0]) ∧ Below W.heap.size W w') := Lib.hid (fun W => by
    have h := dpack_any p t l f W hl hf
    rw [dPk_yes h1 h2] at h
    exact h)
  have HR : Hid (∀ W, Calls Try.prog 6 #[.int .u64 l, .int .u64 f] W fun e w' => e = .returned (.bool true) ∧ W = w') := Lib.hid (fun W => by
    have h := rright_any l f W
    rwa [show (decide ((l : Int) < 1073741824) && decide ((f : Int) < 4294967296)) = true by simp only [Bool.and_eq_true, decide_eq_true_eq]; omega] at h)
  have HWD : Hid (∀ W, Calls Try.prog 7 #[.bool p, .bool t, .int .u64 l, .int .u64 f] W fun e w' => e = .returned (.int .u64 (dWord p t l f : Nat)) ∧ W = w') := Lib.hid (fun W => rword_any p t l f W h1 h2)
  have HUX : Hid (∀ W, Calls Try.prog 8 #[.int .u64 (dWord p t l f : Nat)] W fun e w' => e = .returned (dV p t l f) ∧ Below W.heap.size W w') := Lib.hid (fun W => by
    have h := dunpack_any (dWord p t l f) W (dWord_lt h1 h2)
    rwa [dP_word, dT_word, dL_word h1, dF_word h1] at h)
  generalize dWord p t l f = X at *
  have HU : Hid (∀ W, Calls Try.prog 8 #[.int .u64 n] W fun e w' => e = .returned (dV (dP n) (dT n) (dL n) (dF n)) ∧ Below W.heap.size W w') := Lib.hid (fun W => dunpack_any n W hn)
  have HP : Hid (∀ W, Calls Try.prog 5 #[dV (dP n) (dT n) (dL n) (dF n)] W fun e w' => e = .returned (.tuple #[.int .u64 n, .int .i64 0]) ∧ Below W.heap.size W w') := Lib.hid (fun W => by
    have h1 := dL_lt n
    have h2 := dF_lt hn
    have h := dpack_any (dP n) (dT n) (dL n) (dF n) W (by omega) (by omega)
    rw [dPk_yes h1 h2, dWord_of] at h
    exact h)
  have H0 := Lib.hid (fun W => rpending_any n W hn)
  have H1 := Lib.hid (fun W => rtake_any n W hn)
  have H2 := Lib.hid (fun W => rload_any n W hn)
  have H3 := Lib.hid (fun W => rphase_any n W hn)
  generalize dP n = p2 at *
  generalize dT n = t2 at *
  generalize dL n = l2 at *
  generalize dF n = f2 at *
  have HA : Hid (Below w.heap.size w (w.alloc (.cells #[.bool p, .bool t, .int .u64 (l : Int), .int .u64 (f : Int)] 24))) := Lib.hid ((Below.refl _ _).alloc (Nat.le_refl _) _)
  have a0 : (w.alloc (.cells #[.bool p, .bool t, .int .u64 (l : Int), .int .u64 (f : Int)] 24)).cell? ⟨w.heap.size, 0, none⟩ = some (.bool p) := by rw [World.cell?_alloc_at _ _ _ _ rfl]; rfl
  have a1 : (w.alloc (.cells #[.bool p, .bool t, .int .u64 (l : Int), .int .u64 (f : Int)] 24)).cell? ⟨w.heap.size, 1, none⟩ = some (.bool t) := by rw [World.cell?_alloc_at _ _ _ _ rfl]; rfl
  have a2 : (w.alloc (.cells #[.bool p, .bool t, .int .u64 (l : Int), .int .u64 (f : Int)] 24)).cell? ⟨w.heap.size, 2, none⟩ = some (.int .u64 (l : Int)) := by rw [World.cell?_alloc_at _ _ _ _ rfl]; rfl
  have a3 : (w.alloc (.cells #[.bool p, .bool t, .int .u64 (l : Int), .int .u64 (f : Int)] 24)).cell? ⟨w.heap.size, 3, none⟩ = some (.int .u64 (f : Int)) := by rw [World.cell?_alloc_at _ _ _ _ rfl]; rfl
  have asz : w.heap.size < (w.alloc (.cells #[.bool p, .bool t, .int .u64 (l : Int), .int .u64 (f : Int)] 24)).heap.size := by simp
  generalize HX : (w.alloc (.cells #[.bool p, .bool t, .int .u64 (l : Int), .int .u64 (f : Int)] 24)) = wa at *
  clear hn hl hf h1 h2
  go_enter Try.func3, Try.ntmps3
  go_wp2_with (first
    | (go_at_call 5; (with_reducible refine (HK.out _).mono ?_); rintro e w1 ⟨rfl, hb⟩
       have b0 : w1.cell? ⟨w.heap.size, 0, none⟩ = some (.bool p) := (hb.cell (p := ⟨w.heap.size, 0, none⟩) asz).trans a0
       have b1 : w1.cell? ⟨w.heap.size, 1, none⟩ = some (.bool t) := (hb.cell (p := ⟨w.heap.size, 1, none⟩) asz).trans a1
       have b2 : w1.cell? ⟨w.heap.size, 2, none⟩ = some (.int .u64 (l : Int)) := (hb.cell (p := ⟨w.heap.size, 2, none⟩) asz).trans a2
       have b3 : w1.cell? ⟨w.heap.size, 3, none⟩ = some (.int .u64 (f : Int)) := (hb.cell (p := ⟨w.heap.size, 3, none⟩) asz).trans a3
       have hlt1 : w.heap.size < w1.heap.size := Nat.lt_of_lt_of_le asz hb.size
       have HB1 := Lib.hid (HA.out.trans (hb.mono HA.out.size))
       clear hb HX)
    | (go_at_call 6; (with_reducible refine (HR.out _).mono ?_); rintro e w5 ⟨rfl, rfl⟩)
    | fail)
  go_region_held3 (fun w' => w'.cell? ⟨w.heap.size, 0, none⟩ = some (.bool p) ∧ w'.cell? ⟨w.heap.size, 1, none⟩ = some (.bool t) ∧ w'.cell? ⟨w.heap.size, 2, none⟩ = some (.int .u64 (l : Int)) ∧ w'.cell? ⟨w.heap.size, 3, none⟩ = some (.int .u64 (f : Int)))
    (first | with_reducible exact ⟨b0, b1, b2, b3⟩ | with_reducible exact ⟨g0, g1, g2, g3⟩ | go_keep)
    (first
      | (go_at_call 7; (with_reducible refine (HWD.out _).mono ?_); rintro e w5 ⟨rfl, rfl⟩)
      | (go_at_call 8; (with_reducible refine (HUX.out _).mono ?_); rintro e w2 ⟨rfl, hb⟩
         have g0 : w2.cell? ⟨w.heap.size, 0, none⟩ = some (.bool p) := (hb.cell (p := ⟨w.heap.size, 0, none⟩) hlt1).trans b0
         have g1 : w2.cell? ⟨w.heap.size, 1, none⟩ = some (.bool t) := (hb.cell (p := ⟨w.heap.size, 1, none⟩) hlt1).trans b1
         have g2 : w2.cell? ⟨w.heap.size, 2, none⟩ = some (.int .u64 (l : Int)) := (hb.cell (p := ⟨w.heap.size, 2, none⟩) hlt1).trans b2
         have g3 : w2.cell? ⟨w.heap.size, 3, none⟩ = some (.int .u64 (f : Int)) := (hb.cell (p := ⟨w.heap.size, 3, none⟩) hlt1).trans b3
         have HB2 := Lib.hid (HB1.out.drew.trans (hb.mono HB1.out.size))
         clear hb)
      | fail)
  clear a0 a1 a2 a3 b0 b1 b2 b3
  go_wp2_with (first
    | (go_at_call 8; (with_reducible refine (HU.out _).mono ?_); rintro e w3 ⟨rfl, hb⟩
       have HB3 := Lib.hid (HB2.out.trans (hb.mono HB2.out.size))
       have HZ3 := Lib.hid (Nat.le_refl w3.heap.size)
       clear hb)
    | (go_at_call 5; (with_reducible refine (HP.out _).mono ?_); rintro e w4 ⟨rfl, hb⟩
       have c0 : w4.cell? ⟨w3.heap.size, 0, none⟩ = some (.bool p2) := (hb.cell (p := ⟨w3.heap.size, 0, none⟩) (by simp)).trans (by rw [World.cell?_alloc_at _ _ _ _ rfl]; rfl)
       have c1 : w4.cell? ⟨w3.heap.size, 1, none⟩ = some (.bool t2) := (hb.cell (p := ⟨w3.heap.size, 1, none⟩) (by simp)).trans (by rw [World.cell?_alloc_at _ _ _ _ rfl]; rfl)
       have c2 : w4.cell? ⟨w3.heap.size, 2, none⟩ = some (.int .u64 (l2 : Int)) := (hb.cell (p := ⟨w3.heap.size, 2, none⟩) (by simp)).trans (by rw [World.cell?_alloc_at _ _ _ _ rfl]; rfl)
       have c3 : w4.cell? ⟨w3.heap.size, 3, none⟩ = some (.int .u64 (f2 : Int)) := (hb.cell (p := ⟨w3.heap.size, 3, none⟩) (by simp)).trans (by rw [World.cell?_alloc_at _ _ _ _ rfl]; rfl)
       have hlt4 : w3.heap.size < w4.heap.size := Nat.lt_of_lt_of_le (by simp) hb.size
       have HB4 := Lib.hid ((HB3.out.alloc HB3.out.size (.cells #[.bool p2, .bool t2, .int .u64 (l2 : Int), .int .u64 (f2 : Int)] 24)).trans (hb.mono (Nat.le_trans HB3.out.size (by simp))))
       clear hb))
  go_region_held3 (fun w' => w'.cell? ⟨w3.heap.size, 0, none⟩ = some (.bool p2) ∧ w'.cell? ⟨w3.heap.size, 1, none⟩ = some (.bool t2) ∧ w'.cell? ⟨w3.heap.size, 2, none⟩ = some (.int .u64 (l2 : Int)) ∧ w'.cell? ⟨w3.heap.size, 3, none⟩ = some (.int .u64 (f2 : Int)))
    (first | with_reducible exact ⟨c0, c1, c2, c3⟩ | with_reducible exact ⟨d0, d1, d2, d3⟩ | go_keep)
    (first
      | (go_at_call 9; (with_reducible refine (H0.out _).mono ?_); rintro e w5 ⟨rfl, rfl⟩)
      | (go_at_call 10; (with_reducible refine (H1.out _).mono ?_); rintro e w5 ⟨rfl, rfl⟩)
      | (go_at_call 11; (with_reducible refine (H2.out _).mono ?_); rintro e w5 ⟨rfl, rfl⟩)
      | (go_at_call 12; (with_reducible refine (H3.out _).mono ?_); rintro e w5 ⟨rfl, rfl⟩)
      | (go_at_call 13; (refine (put_any _).mono ?_); rintro e w6 ⟨rfl, hb⟩
         have d0 : w6.cell? ⟨w3.heap.size, 0, none⟩ = some (.bool p2) := (hb.cell (p := ⟨w3.heap.size, 0, none⟩) hlt4).trans c0
         have d1 : w6.cell? ⟨w3.heap.size, 1, none⟩ = some (.bool t2) := (hb.cell (p := ⟨w3.heap.size, 1, none⟩) hlt4).trans c1
         have d2 : w6.cell? ⟨w3.heap.size, 2, none⟩ = some (.int .u64 (l2 : Int)) := (hb.cell (p := ⟨w3.heap.size, 2, none⟩) hlt4).trans c2
         have d3 : w6.cell? ⟨w3.heap.size, 3, none⟩ = some (.int .u64 (f2 : Int)) := (hb.cell (p := ⟨w3.heap.size, 3, none⟩) hlt4).trans c3
         have HB6 := Lib.hid (HB4.out.drew.trans (hb.mono HB4.out.size))
         clear hb)
      | fail)
  go_wp2_with fail
  go_ret
  exact ⟨rfl, HB6.out⟩
end Go.Proofs.Ytgfmidpcgoadlaa
