/- The law's own right; five. -/
import Derived.Test.YtmocjpcnohnfpaaGreatJF
namespace Go.Proofs.YtmocjpcnohnfpaaGreat
open Go.ChangeShapes Go.WideShapes Go.ChangeAt Go.RowKit
set_option linter.unusedVariables false
set_option linter.unusedSimpArgs false
set_option maxRecDepth 100000

abbrev thingV (n k p q : Int) (v : Value) (t ob kd a b c : Int) : Value := .agg #[.int .i64 n, .int .i64 k, .int .i64 p, .int .i64 q, v, .int .i64 t, .int .i64 ob, .int .i64 kd, .int .u64 a, .int .u64 b, .int .u64 c]
abbrev thingO (n k p q : Int) (v : Value) (t ob kd a b c : Int) : Obj := .cells #[.int .i64 n, .int .i64 k, .int .i64 p, .int .i64 q, v, .int .i64 t, .int .i64 ob, .int .i64 kd, .int .u64 a, .int .u64 b, .int .u64 c] 29
/-- a thing's box -/
structure ThBox (w W : World) (n k p q : Int) (v : Value) (t ob kd a b c : Int) : Prop where
  box : W.heap[w.heap.size]? = some (thingO n k p q v t ob kd a b c)
  bel : Below w.heap.size w W
theorem ThBox.init (w : World) (n k p q : Int) (v : Value) (t ob kd a b c : Int) : ThBox w (w.alloc (thingO n k p q v t ob kd a b c)) n k p q v t ob kd a b c := ⟨heap_alloc_new _ _, (Below.refl _ _).alloc (Nat.le_refl _) _⟩
theorem ThBox.lt {w W : World} {n k p q : Int} {v : Value} {t ob kd a b c : Int} (h : ThBox w W n k p q v t ob kd a b c) : w.heap.size < W.heap.size := blk_lt h.box
theorem ThBox.next {w W W' : World} {n k p q : Int} {v : Value} {t ob kd a b c : Int} (h : ThBox w W n k p q v t ob kd a b c) (hb : Below W.heap.size W W') : ThBox w W' n k p q v t ob kd a b c :=
  ⟨(hb.block _ h.lt).trans h.box, h.bel.trans (hb.mono (Nat.le_of_lt h.lt))⟩
theorem ThBox.drew {w W : World} {n k p q : Int} {v : Value} {t ob kd a b c : Int} (h : ThBox w W n k p q v t ob kd a b c) : ThBox w W.drew n k p q v t ob kd a b c := ⟨h.box, h.bel.drew⟩
theorem ThBox.drewN {w W : World} {n k p q : Int} {v : Value} {t ob kd a b c : Int} (h : ThBox w W n k p q v t ob kd a b c) (j : Nat) : ThBox w (W.drewN j) n k p q v t ob kd a b c := ⟨h.box, below_drewN h.bel j⟩
theorem ThBox.cell {w W : World} {n k p q : Int} {v : Value} {t ob kd a b c : Int} (h : ThBox w W n k p q v t ob kd a b c) (j : Nat) (u : Value) (hu : #[Value.int .i64 n, .int .i64 k, .int .i64 p, .int .i64 q, v, .int .i64 t, .int .i64 ob, .int .i64 kd, .int .u64 a, .int .u64 b, .int .u64 c][j]? = some u) : W.cell? ⟨w.heap.size, j, none⟩ = some u := Tb.cell_of_blkT h.box hu
theorem ThBox.cells {w W : World} {n k p q : Int} {v : Value} {t ob kd a b c : Int} (h : ThBox w W n k p q v t ob kd a b c) :
    W.cell? ⟨w.heap.size, 0, none⟩ = some (.int .i64 n) ∧ W.cell? ⟨w.heap.size, 1, none⟩ = some (.int .i64 k) ∧ W.cell? ⟨w.heap.size, 2, none⟩ = some (.int .i64 p) ∧ W.cell? ⟨w.heap.size, 3, none⟩ = some (.int .i64 q) ∧ W.cell? ⟨w.heap.size, 4, none⟩ = some v ∧ W.cell? ⟨w.heap.size, 5, none⟩ = some (.int .i64 t) ∧ W.cell? ⟨w.heap.size, 6, none⟩ = some (.int .i64 ob) ∧ W.cell? ⟨w.heap.size, 7, none⟩ = some (.int .i64 kd) ∧ W.cell? ⟨w.heap.size, 8, none⟩ = some (.int .u64 a) ∧ W.cell? ⟨w.heap.size, 9, none⟩ = some (.int .u64 b) ∧ W.cell? ⟨w.heap.size, 10, none⟩ = some (.int .u64 c) :=
  ⟨h.cell 0 _ rfl, h.cell 1 _ rfl, h.cell 2 _ rfl, h.cell 3 _ rfl, h.cell 4 _ rfl, h.cell 5 _ rfl, h.cell 6 _ rfl, h.cell 7 _ rfl, h.cell 8 _ rfl, h.cell 9 _ rfl, h.cell 10 _ rfl⟩

set_option maxHeartbeats 2000000 in
theorem right_law (n k p q : Int) (v : Value) (t ob kd a b c : Int) (m : List Nat) (w : World) (ha : ArgW w v m) (hr : Room v) (hl : m.length ≤ 9223372036854775807) :
    Calls Tryz.prog 12 #[thingV n k p q v t ob kd a b c] w fun e w' => e = .returned (.bool (mdRight n k p q m)) ∧ Below w.heap.size w w' := by
  have HS := Lib.hid (fun w => Tb.rsize_any n k p q w)
  have HT0 := Lib.hid (ThBox.init w n k p q v t ob kd a b c)
  have HA0 := Lib.hid (ha.alloc (thingO n k p q v t ob kd a b c))
  by_cases hok : Tb.tbErr n k p q = 0
  · rw [mdRight_yes m hok]
    have h := okS hok
    have hRN := rnew_any n k p q hok
    rw [hok] at HS
    generalize Tb.tbN n k p q = sz at *
    by_cases h7 : k = 7
    · subst h7
      obtain ⟨ao, b1, o, cap, rfl, h1, h2, h3⟩ := HA0.out
      cases m with
      | nil =>
        have hm : mdIs n 7 p [] = false := rfl
        rw [hm]
        simp only [List.length_nil] at *
        clear h hm h1 h2 h3 ha hRN
        obtain ⟨z0, z1, z2, z3, z4, z5, z6, z7, z8, z9, z10⟩ := HT0.out.cells
        unfold Tb.specV at *
        go_enter Tryz.func12, Tryz.ntmps12
        go_wp2_with (go_at_call 7; refine (HS.out _).mono ?_; rintro e w1 ⟨rfl, hb⟩; (have HT1 := Lib.hid (HT0.out.next hb)); clear z0 z1 z2 z3 z4 z5 z6 z7 z8 z9 z10; (obtain ⟨z0, z1, z2, z3, z4, z5, z6, z7, z8, z9, z10⟩ := HT1.out.cells); clear hb)
        go_quiet (fail)
        go_wp2
        go_ret
        exact ⟨rfl, below_drewN HT1.out.bel _⟩
      | cons x r =>
        obtain rfl := h1 (by simp)
        have hcap := hr _ _ _ rfl
        have hm : mdIs n 7 p (x :: r) = sqRight p r := by unfold mdIs; rw [if_pos rfl]; simp
        have HQ : Hid (∀ v W, ArgW W v r → Calls Tryz.prog 28 #[.int .i64 p, v] W fun e w' => e = .returned (.bool (sqRight p r)) ∧ Below W.heap.size W w') := Lib.hid (fun v W h => (refRight_any p v r W h (by simp at hl; omega)).mono (by rintro e w' ⟨rfl, rfl⟩; exact ⟨rfl, Below.refl _ _⟩))
        have hbl : b1 < (w.alloc (thingO n 7 p q (.slice (some ⟨b1, o, none⟩) (x :: r).length cap) t ob kd a b c)).heap.size := World.block_lt_of_cell? _ _ (h3 0 x rfl)
        rw [hm]
        have HC := Lib.hid h3
        generalize sqRight p r = bb at *
        have hlen : (x :: r).length = r.length + 1 := rfl
        rw [hlen] at hcap hl HT0 HC hbl ⊢
        clear h hm h1 h2 h3 hr HA0 ha hRN hlen
        have hd : decide ((0 : Int) < (r.length : Int) + 1) = true := decide_eq_true (by omega)
        obtain ⟨z0, z1, z2, z3, z4, z5, z6, z7, z8, z9, z10⟩ := HT0.out.cells
        generalize hW : w.alloc (thingO n 7 p q (.slice (some ⟨b1, o, none⟩) (r.length + 1) cap) t ob kd a b c) = W at *
        unfold thingO at hW
        unfold Tb.specV at *
        by_cases hc1 : cap = 1
        · subst hc1
          have ht0 : r = [] := List.length_eq_zero_iff.1 (by omega)
          subst ht0
          simp only [List.length_nil, Nat.zero_add] at *
          go_enter Tryz.func12, Tryz.ntmps12
          go_wp2_with (go_at_call 7; refine (HS.out _).mono ?_; rintro e w1 ⟨rfl, hb⟩; (have HT1 := Lib.hid (HT0.out.next hb)); (have HLT := Lib.hid HT1.out.lt); clear z0 z1 z2 z3 z4 z5 z6 z7 z8 z9 z10; (obtain ⟨z0, z1, z2, z3, z4, z5, z6, z7, z8, z9, z10⟩ := HT1.out.cells); clear hb)
          have l2 : ∀ p' : BW w1.heap.size w1, p'.v.cell? ⟨w.heap.size, 2, none⟩ = some (.int .i64 p) := fun p' => p'.cell HLT.out z2
          have l4 : ∀ p' : BW w1.heap.size w1, p'.v.cell? ⟨w.heap.size, 4, none⟩ = some (.slice (some ⟨b1, o, none⟩) 1 1) := fun p' => p'.cell HLT.out z4
          refine wp_region_low (B := w1.heap.size) (w := w1) (by kernel_rfl) (by kernel_rfl) ?_
          repeat (go_big_quiet_step ((go_at_call 28; exact low_call (HQ.out _ _ (argW_none _ _ _)) (Nat.le_refl _))))
          refine wpQuiet_nil ?_
          intro _ hw'
          obtain ⟨⟨w2, hb2⟩, rfl⟩ := hw'
          go_wp2
          go_ret
          exact ⟨rfl, HT1.out.bel.trans (hb2.mono (Nat.le_of_lt HLT.out))⟩
        · have h1c : 1 < cap := by omega
          go_enter Tryz.func12, Tryz.ntmps12
          go_wp2_with (go_at_call 7; refine (HS.out _).mono ?_; rintro e w1 ⟨rfl, hb⟩; (have HT1 := Lib.hid (HT0.out.next hb)); (have HLT := Lib.hid HT1.out.lt); (have HBB := Lib.hid hb); clear z0 z1 z2 z3 z4 z5 z6 z7 z8 z9 z10; (obtain ⟨z0, z1, z2, z3, z4, z5, z6, z7, z8, z9, z10⟩ := HT1.out.cells); clear hb)
          have l2 : ∀ p' : BW w1.heap.size w1, p'.v.cell? ⟨w.heap.size, 2, none⟩ = some (.int .i64 p) := fun p' => p'.cell HLT.out z2
          have l4 : ∀ p' : BW w1.heap.size w1, p'.v.cell? ⟨w.heap.size, 4, none⟩ = some (.slice (some ⟨b1, o, none⟩) (r.length + 1) cap) := fun p' => p'.cell HLT.out z4
          have HAT : Hid (∀ p' : BW w1.heap.size w1, ArgW p'.v (.slice (some ⟨b1, o + 1, none⟩) r.length (cap - 1)) r) := Lib.hid (fun p' => argW_tail (x := x) (fun i y hy => p'.cell (by show b1 < _; have := HBB.out.size; omega) ((HBB.out.cell (p := ⟨b1, _, none⟩) hbl).trans (HC.out i y hy))))
          refine wp_region_low (B := w1.heap.size) (w := w1) (by kernel_rfl) (by kernel_rfl) ?_
          repeat (go_big_quiet_step ((go_at_call 28; exact low_call (HQ.out _ _ (HAT.out _)) (Nat.le_refl _))))
          refine wpQuiet_nil ?_
          intro _ hw'
          obtain ⟨⟨w2, hb2⟩, rfl⟩ := hw'
          go_wp2
          go_ret
          exact ⟨rfl, HT1.out.bel.trans (hb2.mono (Nat.le_of_lt HLT.out))⟩
    · obtain ⟨ao, cap, rfl⟩ := ha.isSlice
      by_cases h8 : k = 8
      · subst h8
        have hm : mdIs n 8 p m = decide (m.length % 2 = 0) := by unfold mdIs; rw [if_neg (by decide), if_pos rfl]
        rw [hm]
        clear hRN h hm ha
        obtain ⟨z0, z1, z2, z3, z4, z5, z6, z7, z8, z9, z10⟩ := HT0.out.cells
        unfold Tb.specV at *
        go_enter Tryz.func12, Tryz.ntmps12
        go_wp2_with (go_at_call 7; refine (HS.out _).mono ?_; rintro e w1 ⟨rfl, hb⟩; (have HT1 := Lib.hid (HT0.out.next hb)); clear z0 z1 z2 z3 z4 z5 z6 z7 z8 z9 z10; (obtain ⟨z0, z1, z2, z3, z4, z5, z6, z7, z8, z9, z10⟩ := HT1.out.cells); clear hb)
        go_ret
        exact ⟨ret_bool (mod2 _), HT1.out.bel⟩
      · have hm : mdIs n k p m = decide ((m.length : Int) = (mdNew n k p).length) := by
          unfold mdIs mdNew mdNL; rw [if_neg h7, if_neg h8, List.length_replicate, if_neg h7]
          have := (mdLen_bd h h7).1
          rw [show (((mdLen n k p).toNat : Nat) : Int) = mdLen n k p by omega]
        rw [hm]
        have HN := Lib.hid hRN
        have hnl : (mdNew n k p).length ≤ 100 := by
          unfold mdNew mdNL; rw [if_neg h7, List.length_replicate]; have := mdLen_bd h h7; omega
        generalize mdNew n k p = nw at *
        clear hRN h hm ha
        obtain ⟨z0, z1, z2, z3, z4, z5, z6, z7, z8, z9, z10⟩ := HT0.out.cells
        have HLN : Hid (∀ x : Nat, ((m.length : Int) == (x : Int)) = decide ((m.length : Int) = (x : Int))) := Lib.hid (fun x => by rw [Bool.eq_iff_iff, beq_iff_eq, decide_eq_true_eq])
        unfold Tb.specV at *
        go_enter Tryz.func12, Tryz.ntmps12
        go_wp2_with (go_at_call 7; refine (HS.out _).mono ?_; rintro e w1 ⟨rfl, hb⟩; (have HT1 := Lib.hid (HT0.out.next hb)); clear z0 z1 z2 z3 z4 z5 z6 z7 z8 z9 z10; (obtain ⟨z0, z1, z2, z3, z4, z5, z6, z7, z8, z9, z10⟩ := HT1.out.cells); clear hb)
        go_region_held3 (fun w' => w'.cell? ⟨w.heap.size, 0, none⟩ = some (.int .i64 n) ∧ w'.cell? ⟨w.heap.size, 1, none⟩ = some (.int .i64 k) ∧ w'.cell? ⟨w.heap.size, 2, none⟩ = some (.int .i64 p) ∧ w'.cell? ⟨w.heap.size, 3, none⟩ = some (.int .i64 q) ∧ w'.cell? ⟨w.heap.size, 4, none⟩ = some (.slice ao m.length cap))
          (first | exact ⟨z0, z1, z2, z3, z4⟩ | go_keep)
          (first
            | (go_at_call 11; (with_reducible refine (HN.out _).mono ?_); rintro e w2 ⟨v2, rfl, ha2, hb2⟩; (obtain ⟨ao2, cap2, rfl⟩ := ha2.isSlice); (have HT2 := Lib.hid (HT1.out.next (W' := w2) ⟨hb2.os, hb2.tape, hb2.output, hb2.size, hb2.block⟩)); clear z0 z1 z2 z3 z4 z5 z6 z7 z8 z9 z10; (obtain ⟨z0, z1, z2, z3, z4, z5, z6, z7, z8, z9, z10⟩ := HT2.out.cells); clear hb2 ha2)
            | fail)
        go_wp2
        go_ret
        exact ⟨ret_bool (HLN.out _), HT2.out.bel⟩
  · rw [mdRight_no m hok]
    generalize Tb.tbN n k p q = sz at *
    generalize Tb.tbErr n k p q = er at *
    obtain ⟨ao, cap, rfl⟩ := ha.isSlice
    clear ha
    obtain ⟨z0, z1, z2, z3, z4, z5, z6, z7, z8, z9, z10⟩ := HT0.out.cells
    unfold Tb.specV at *
    go_enter Tryz.func12, Tryz.ntmps12
    go_wp2_with (go_at_call 7; refine (HS.out _).mono ?_; rintro e w1 ⟨rfl, hb⟩; (have HT1 := Lib.hid (HT0.out.next hb)); clear hb)
    go_ret
    exact ⟨rfl, HT1.out.bel⟩
end Go.Proofs.YtmocjpcnohnfpaaGreat
