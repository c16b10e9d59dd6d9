/- five; ModelNews' walk. -/
import Derived.Test.YtmocjpcnohnfpaaGreatJG
namespace Go.Proofs.YtmocjpcnohnfpaaGreat
open Go.ChangeShapes Go.WideShapes Go.ChangeAt Go.RowKit
set_option linter.unusedVariables false
set_option linter.unusedSimpArgs false
set_option maxRecDepth 100000

/-- an operation of the queue of 4, by 2 threads -/
theorem q4_apply (t a : Nat) (kd : Int) (m : List Nat) (v : Value) (w : World) (ht : t < 2) (hk : kd = 0 ∨ kd = 1) (hA : ArgW w v m) (hR : Room v) (hl : m.length ≤ 100) (h2 : m.length % 2 = 0) :
    Calls Tryz.prog 25 #[.int .i64 2, Tb.specV 8 4 0, v, callV (t : Int) 0 kd (a : Int) 0 0] w (ChP w.heap.size w (mdQ m (t : Int) kd a)) :=
  apply_ok 2 8 4 0 (t : Int) 0 kd a 0 0 m (mdQ m (t : Int) kd a) v w hA hR (by omega) (by
    have e1 : Tb.tbErr 2 8 4 0 = 0 := by decide
    rw [mdRight_yes m e1]; unfold mdIs; rw [if_neg (by decide), if_pos rfl]; exact decide_eq_true h2) (by omega)
    (fun W => op_8 2 4 0 (t : Int) 0 kd a 0 0 m _ (by
      have e : Tb.tbKn 8 4 = 2 := by decide
      rw [e]; omega) (fun W => pass_any t a 0 kd 0 0 m hk (by omega) (by omega) h2 W) W)
theorem q4_put : mdQ [] ((1 : Nat) : Int) 0 5 = ⟨[1, 5], 0, 0, []⟩ := by rfl
theorem q4_take : mdQ [1, 5] ((0 : Nat) : Int) 1 0 = ⟨[], 0, 5, []⟩ := by rfl
theorem q4_full (t : Nat) : mdQ [1, 5] (t : Int) 0 0 = ⟨[1, 5, t, 0], 0, 0, []⟩ := by
  unfold mdQ; rw [if_neg (by decide), if_pos rfl, if_neg (by decide)]; rfl
theorem q4_legal (t : Nat) (v : Value) (w : World) (ht : t < 2) (hA : ArgW w v [1, 5]) (hR : Room v) :
    Calls Tryz.prog 26 #[.int .i64 2, Tb.specV 8 4 0, v, callV (t : Int) 0 0 0 0 0, ansV 6 0 (.slice none 0 0)] w (LgP w [1, 5] (decide (t = 1))) := by
  have h := legal_no 2 8 4 0 (t : Int) 0 0 0 0 0 [1, 5] (mdQ [1, 5] (t : Int) 0 0) v 6 0 (.slice none 0 0) [] w hA (ArgW.nil w) (by decide) (by decide) (by rw [q4_full]; exact Nat.zero_le _)
    (fun W h => q4_apply t 0 0 [1, 5] v W ht (.inl rfl) h hR (by decide) (by decide)) (mdLack 2 4 [1, 5] t)
    (fun W h => lack_any 2 4 0 t 0 0 0 0 v [1, 5] W h (by omega) (by omega) (by omega) (by decide) (by decide)) (by rw [q4_full]; rfl)
  have e : lgFull 6 0 [] (mdQ [1, 5] (t : Int) 0 0) (mdLack 2 4 [1, 5] t) = decide (t = 1) := by
    rw [q4_full]
    have : t = 0 ∨ t = 1 := by omega
    rcases this with rfl | rfl <;> rfl
  rw [e] at h
  exact h

/-- a world behind w in which the spec's box lies right above what there was -/
structure FvBox (w W : World) : Prop where
  box : W.heap[w.heap.size]? = some (Tb.specO 8 4 0)
  bel : Below w.heap.size w W
theorem FvBox.lt {w W : World} (h : FvBox w W) : w.heap.size < W.heap.size := blk_lt h.box
theorem FvBox.next {w W W' : World} (h : FvBox w W) (hb : Below W.heap.size W W') : FvBox w W' := ⟨(hb.block _ h.lt).trans h.box, h.bel.trans (hb.mono (Nat.le_of_lt h.lt))⟩
theorem FvBox.cells {w W : World} (h : FvBox w W) : W.cell? ⟨w.heap.size, 0, none⟩ = some (.int .i64 8) ∧ W.cell? ⟨w.heap.size, 1, none⟩ = some (.int .i64 4) ∧ W.cell? ⟨w.heap.size, 2, none⟩ = some (.int .i64 0) :=
  ⟨Tb.cell_of_blkT h.box rfl, Tb.cell_of_blkT h.box rfl, Tb.cell_of_blkT h.box rfl⟩
theorem FvBox.init (w : World) : FvBox w (w.alloc (Tb.specO 8 4 0)) := ⟨heap_alloc_new _ _, (Below.refl _ _).alloc (Nat.le_refl _) _⟩

set_option maxHeartbeats 4000000 in
theorem five_any (w : World) : Calls Tryz.prog 9 #[] w fun e w' => e = .returned (.bool true) ∧ Below w.heap.size w w' := by
  have H1 : Hid (∀ W, Calls Tryz.prog 25 #[.int .i64 2, Tb.specV 8 4 0, .slice none 0 0, callV 1 0 0 5 0 0] W (ChP W.heap.size W ⟨[1, 5], 0, 0, []⟩)) := Lib.hid (fun W => by
    have := q4_apply 1 5 0 [] (.slice none 0 0) W (by omega) (.inl rfl) (ArgW.nil W) room_nil (by decide) (by decide)
    rw [q4_put] at this; exact this)
  have H2 : Hid (∀ W v, ArgW W v [1, 5] → Room v → Calls Tryz.prog 25 #[.int .i64 2, Tb.specV 8 4 0, v, callV 0 0 1 0 0 0] W (ChP W.heap.size W ⟨[], 0, 5, []⟩)) := Lib.hid (fun W v h1 h2 => by
    have := q4_apply 0 0 1 [1, 5] v W (by omega) (.inr rfl) h1 h2 (by decide) (by decide)
    rw [q4_take] at this; exact this)
  have H3 : Hid (∀ W v, ArgW W v [1, 5] → Room v → Calls Tryz.prog 26 #[.int .i64 2, Tb.specV 8 4 0, v, callV 1 0 0 0 0 0, ansV 6 0 (.slice none 0 0)] W (LgP W [1, 5] true)) := Lib.hid (fun W v h1 h2 => q4_legal 1 v W (by omega) h1 h2)
  have H4 : Hid (∀ W v, ArgW W v [1, 5] → Room v → Calls Tryz.prog 26 #[.int .i64 2, Tb.specV 8 4 0, v, callV 0 0 0 0 0 0, ansV 6 0 (.slice none 0 0)] W (LgP W [1, 5] false)) := Lib.hid (fun W v h1 h2 => q4_legal 0 v W (by omega) h1 h2)
  have HSM : Hid (∀ v1 v2 W, ArgW W v1 [1, 5] → ArgW W v2 [1, 5] → Calls Tryz.prog 10 #[v1, v2] W fun e w' => e = .returned (.bool true) ∧ ∃ m, w' = W.drewN m) := Lib.hid (fun v1 v2 W h1 h2 => sameW v1 v2 [1, 5] W (by decide) h1 h2)
  have HF0 := Lib.hid (FvBox.init w)
  unfold Tb.specV Tb.specO callV ansV at *
  obtain ⟨s0, s1, s2⟩ := HF0.out.cells
  go_enter Tryz.func9, Tryz.ntmps9
  go_wp2_with (first
    | (go_at_call 25; (with_reducible refine (H1.out _).mono ?_); rintro e w1 ⟨v1, lv1, rfl, ha1, hl1, hb1⟩; (obtain ⟨aol, capl, rfl⟩ : ∃ ao cap, lv1 = .slice ao 0 cap := hl1.1.arg.isSlice); (have hb1' : Below (w.alloc (Tb.specO 8 4 0)).heap.size (w.alloc (Tb.specO 8 4 0)) (w1.alloc (ansC 0 0 (.slice aol 0 capl))) := hb1.alloc hb1.size _); (have HF1 := Lib.hid (HF0.out.next hb1')); (have HA1 : Hid (ArgW (w1.alloc (ansC 0 0 (.slice aol 0 capl))) v1 [1, 5]) := Lib.hid (ha1.1.arg.alloc _)); (have HR1 := Lib.hid ha1.2); (have HX1 : Hid ((w1.alloc (ansC 0 0 (.slice aol 0 capl))).heap[w1.heap.size]? = some (ansC 0 0 (.slice aol 0 capl))) := Lib.hid (heap_alloc_new _ _)); clear s0 s1 s2; (obtain ⟨s0, s1, s2⟩ := HF1.out.cells); clear ha1 hl1 hb1 hb1')
    | (go_at_call 25; (with_reducible refine (H2.out _ _ HA1.out HR1.out).mono ?_); rintro e w2 ⟨v2, lv2, rfl, ha2, hl2, hb2⟩; (obtain ⟨aol2, capl2, rfl⟩ : ∃ ao cap, lv2 = .slice ao 0 cap := hl2.1.arg.isSlice); (obtain ⟨ao2, cap2, rfl⟩ : ∃ ao cap, v2 = .slice ao 0 cap := ha2.1.arg.isSlice); (have hb2' : Below (w1.alloc (ansC 0 0 (.slice aol 0 capl))).heap.size (w1.alloc (ansC 0 0 (.slice aol 0 capl))) (w2.alloc (ansC 0 5 (.slice aol2 0 capl2))) := hb2.alloc hb2.size _); (have HF2 := Lib.hid (HF1.out.next hb2')); (have HA2 := Lib.hid (HA1.out.below hb2')); (have HX2 := Lib.hid ((hb2'.block _ (blk_lt HX1.out)).trans HX1.out)); (have HY2 : Hid ((w2.alloc (ansC 0 5 (.slice aol2 0 capl2))).heap[w2.heap.size]? = some (ansC 0 5 (.slice aol2 0 capl2))) := Lib.hid (heap_alloc_new _ _)); clear s0 s1 s2; (obtain ⟨s0, s1, s2⟩ := HF2.out.cells); clear ha2 hl2 hb2 hb2')
    | (go_at_call 26; (with_reducible refine (H3.out _ _ HA2.out HR1.out).mono ?_); rintro e w3 ⟨v3, rfl, _, hb3⟩; (have HF3 := Lib.hid (HF2.out.next hb3)); (have HA3 := Lib.hid (HA2.out.below hb3)); (have HX3 := Lib.hid ((hb3.block _ (blk_lt HX2.out)).trans HX2.out)); (have HY3 := Lib.hid ((hb3.block _ (blk_lt HY2.out)).trans HY2.out)); clear s0 s1 s2; (obtain ⟨s0, s1, s2⟩ := HF3.out.cells); clear hb3)
    | (go_at_call 26; (with_reducible refine (H4.out _ _ HA3.out HR1.out).mono ?_); rintro e w4 ⟨v4, rfl, _, hb4⟩; (have HF4 := Lib.hid (HF3.out.next hb4)); (have HA4 := Lib.hid (HA3.out.below hb4)); (have hx4 := (hb4.block _ (blk_lt HX3.out)).trans HX3.out); (have hy4 := (hb4.block _ (blk_lt HY3.out)).trans HY3.out); (have x0 := Tb.cell_of_blkT (k := 0) hx4 rfl); (have y1 := Tb.cell_of_blkT (k := 1) hy4 rfl); (have HLT4 := Lib.hid (blk_lt hy4)); (have HB5 : Hid (ArgW (w4.alloc (.cells #[.int .u64 1, .int .u64 5] 25)) (.slice (some ⟨w4.heap.size, 0, none⟩) 2 2) [1, 5]) := Lib.hid (arg_new w4 [1, 5] _ rfl 2 rfl)); (have HA5 : Hid (ArgW (w4.alloc (.cells #[.int .u64 1, .int .u64 5] 25)) v1 [1, 5]) := Lib.hid (HA4.out.alloc _)); clear s0 s1 s2 hb4 hx4 hy4)
    | (go_at_call 10; (with_reducible refine (HSM.out _ _ _ HA5.out HB5.out).mono ?_); rintro e w5 ⟨rfl, m5, hw5⟩; (have y5 : w5.cell? ⟨w2.heap.size, 1, none⟩ = some (.int .u64 5) := by rw [hw5]; exact (World.cell?_alloc_past _ _ _ HLT4.out).trans y1); (have HB6 : Hid (Below w.heap.size w w5) := Lib.hid (by rw [hw5]; exact below_drewN (HF4.out.bel.alloc HF4.out.bel.size _) _)); clear hw5 y1)
    | fail)
  go_ret
  exact ⟨rfl, HB6.out⟩

theorem lo_le_hi (x : Nat) : sqLo x ≤ sqHi x := by
  unfold sqLo sqHi
  repeat' split
  all_goals omega
theorem mdIs_new {n k p q : Int} (hok : Tb.tbErr n k p q = 0) : mdIs n k p (mdNew n k p) = true := by
  have h := okS hok
  unfold mdIs
  split
  · rename_i h7
    subst h7
    have e : mdNew n 7 p = 0 :: List.replicate (sqLo p.toNat) 0 := by
      unfold mdNew mdNL; rw [if_pos rfl, Nat.add_comm, List.replicate_succ]
    rw [e]
    have hp := (h.h7 rfl).1
    have := sqLo_le p.toNat
    unfold sqRight
    rw [sqIs_yes hp]
    simp only [List.length_cons, List.tail_cons, List.length_replicate, Bool.true_and, Bool.and_eq_true, decide_eq_true_eq]
    exact ⟨by omega, by omega, lo_le_hi _⟩
  · rename_i h7
    split
    · rename_i h8
      subst h8
      rfl
    · unfold mdNew mdNL
      rw [if_neg h7, List.length_replicate, decide_eq_true_eq]
      have := (mdLen_bd h h7).1
      omega
set_option maxHeartbeats 4000000 in
theorem model_news (n k p q : Int) (v : Value) (t ob kd a b c : Int) (m : List Nat) (w : World) (ha : ArgW w v m) (hr : Room v) (hl : m.length ≤ 9223372036854775807) :
    Calls Tryz.prog 3 #[thingV n k p q v t ob kd a b c] w fun e w' => e = .returned (.bool true) ∧ Below w.heap.size w w' := by
  have HS := Lib.hid (fun w => Tb.rsize_any n k p q w)
  have HT0 := Lib.hid (ThBox.init w n k p q v t ob kd a b c)
  have HA0 := Lib.hid (ha.alloc (thingO n k p q v t ob kd a b c))
  have HR := Lib.hid (fun (W : World) (h : ArgW W v m) => mright_any n k p q v m W h hr hl)
  have HRL := Lib.hid (fun (W : World) (h : ArgW W v m) => right_law n k p q v t ob kd a b c m W h hr hl)
  have H5 := Lib.hid five_any
  obtain ⟨ao, cap, rfl⟩ := ha.isSlice
  obtain ⟨z0, z1, z2, z3, z4, z5, z6, z7, z8, z9, z10⟩ := HT0.out.cells
  by_cases hok : Tb.tbErr n k p q = 0
  · have HN := Lib.hid (fun w => new_any n k p q hok w)
    have HRN := Lib.hid (fun w => rnew_any n k p q hok w)
    have hsm : ∀ l : List Nat, l = mdNew n k p → l.length ≤ 4294967296 := by
      intro l hl
      rw [hl]; unfold mdNew; rw [List.length_replicate]
      have h := okS hok
      unfold mdNL
      split
      · have := sqLo_le p.toNat; omega
      · rename_i h7
        have := mdLen_bd h h7; omega
    have HSM := Lib.hid (fun (v1 v2 : Value) (W : World) (h1 : ArgW W v1 (mdNew n k p)) (h2 : ArgW W v2 (mdNew n k p)) => sameW v1 v2 (mdNew n k p) W (hsm _ rfl) h1 h2)
    have HR2 : Hid (∀ (W : World) (v2 : Value), ArgW W v2 (mdNew n k p) → Room v2 → Calls Tryz.prog 8 #[.int .i64 n, Tb.specV k p q, v2] W fun e w' => e = .returned (.bool true) ∧ Below W.heap.size W w') := Lib.hid (fun W v2 h1 h2 => by
      have := mright_any n k p q v2 (mdNew n k p) W h1 h2 (by have := hsm _ rfl; omega)
      rw [mdRight_yes _ hok, mdIs_new hok] at this; exact this)
    rw [hok] at HS
    generalize Tb.tbN n k p q = sz at *
    generalize mdNew n k p = nw at *
    generalize mdRight n k p q m = bb at *
    clear hok hsm ha hr
    unfold Tb.specV thingV at *
    go_enter Tryz.func3, Tryz.ntmps3
    go_wp2_with (first
      | (go_at_call 6; refine (HN.out _).mono ?_; rintro e w1 ⟨v1, rfl, ho1, hb1⟩; (have HT1 := Lib.hid (HT0.out.next hb1)); (have HA1 := Lib.hid (HA0.out.below hb1)); (have HO1 := Lib.hid ho1.arg); (have HM1 := Lib.hid ho1.room); (obtain ⟨ao1, cap1, rfl⟩ := ho1.arg.isSlice); clear z0 z1 z2 z3 z4 z5 z6 z7 z8 z9 z10; (obtain ⟨z0, z1, z2, z3, z4, z5, z6, z7, z8, z9, z10⟩ := HT1.out.cells); clear ho1 hb1)
      | (go_at_call 7; refine (HS.out _).mono ?_; rintro e w2 ⟨rfl, hb2⟩; (have HT2 := Lib.hid (HT1.out.next hb2)); (have HA2 := Lib.hid (HA1.out.below hb2)); (have HO2 := Lib.hid (HO1.out.below hb2)); clear z0 z1 z2 z3 z4 z5 z6 z7 z8 z9 z10; (obtain ⟨z0, z1, z2, z3, z4, z5, z6, z7, z8, z9, z10⟩ := HT2.out.cells); clear hb2))
    have HT := Lib.hid HT2.out.drew
    have HA := Lib.hid HA2.out.drew
    have HO := Lib.hid HO2.out.drew
    go_region_held3 (fun w' => w'.cell? ⟨w.heap.size, 0, none⟩ = some (.int .i64 n) ∧ w'.cell? ⟨w.heap.size, 1, none⟩ = some (.int .i64 k) ∧ w'.cell? ⟨w.heap.size, 2, none⟩ = some (.int .i64 p) ∧ w'.cell? ⟨w.heap.size, 3, none⟩ = some (.int .i64 q) ∧ w'.cell? ⟨w.heap.size, 4, none⟩ = some (.slice ao m.length cap) ∧ w'.cell? ⟨w.heap.size, 5, none⟩ = some (.int .i64 t) ∧ w'.cell? ⟨w.heap.size, 6, none⟩ = some (.int .i64 ob) ∧ w'.cell? ⟨w.heap.size, 7, none⟩ = some (.int .i64 kd) ∧ w'.cell? ⟨w.heap.size, 8, none⟩ = some (.int .u64 a) ∧ w'.cell? ⟨w.heap.size, 9, none⟩ = some (.int .u64 b) ∧ w'.cell? ⟨w.heap.size, 10, none⟩ = some (.int .u64 c))
      (first | exact ⟨z0, z1, z2, z3, z4, z5, z6, z7, z8, z9, z10⟩ | go_keep)
      (first
        | (go_at_call 11; (with_reducible refine (HRN.out _).mono ?_); rintro e w3 ⟨v3, rfl, ha3, hb3⟩; (have HN3 := Lib.hid ha3); (obtain ⟨ao3, cap3, rfl⟩ := ha3.isSlice); (replace HT := Lib.hid (HT.out.next hb3)); (replace HA := Lib.hid (HA.out.below hb3)); (replace HO := Lib.hid (HO.out.below hb3)); clear z0 z1 z2 z3 z4 z5 z6 z7 z8 z9 z10; (obtain ⟨z0, z1, z2, z3, z4, z5, z6, z7, z8, z9, z10⟩ := HT.out.cells); clear ha3 hb3)
        | (go_at_call 10; (with_reducible refine (HSM.out _ _ _ HO.out HN3.out).mono ?_); rintro e w4 ⟨rfl, m4, rfl⟩; (replace HT := Lib.hid (HT.out.drewN m4)); (replace HA := Lib.hid (HA.out.drewN m4)); (replace HO := Lib.hid (HO.out.drewN m4)); clear z0 z1 z2 z3 z4 z5 z6 z7 z8 z9 z10; (obtain ⟨z0, z1, z2, z3, z4, z5, z6, z7, z8, z9, z10⟩ := HT.out.cells))
        | (go_at_call 8; (with_reducible refine (HR2.out _ _ HO.out HM1.out).mono ?_); rintro e w5 ⟨rfl, hb5⟩; (replace HT := Lib.hid (HT.out.next hb5)); (replace HA := Lib.hid (HA.out.below hb5)); (replace HO := Lib.hid (HO.out.below hb5)); clear z0 z1 z2 z3 z4 z5 z6 z7 z8 z9 z10; (obtain ⟨z0, z1, z2, z3, z4, z5, z6, z7, z8, z9, z10⟩ := HT.out.cells); clear hb5)
        | (go_at_call 8; (with_reducible refine (HR.out _ HA.out).mono ?_); rintro e w6 ⟨rfl, hb6⟩; (replace HT := Lib.hid (HT.out.next hb6)); (replace HA := Lib.hid (HA.out.below hb6)); (replace HO := Lib.hid (HO.out.below hb6)); clear z0 z1 z2 z3 z4 z5 z6 z7 z8 z9 z10; (obtain ⟨z0, z1, z2, z3, z4, z5, z6, z7, z8, z9, z10⟩ := HT.out.cells); clear hb6)
        | (go_at_call 12; (with_reducible refine (HRL.out _ HA.out).mono ?_); rintro e w7 ⟨rfl, hb7⟩; (replace HT := Lib.hid (HT.out.next hb7)); (replace HA := Lib.hid (HA.out.below hb7)); (replace HO := Lib.hid (HO.out.below hb7)); clear z0 z1 z2 z3 z4 z5 z6 z7 z8 z9 z10; (obtain ⟨z0, z1, z2, z3, z4, z5, z6, z7, z8, z9, z10⟩ := HT.out.cells); clear hb7)
        | (go_at_call 9; (with_reducible refine (H5.out _).mono ?_); rintro e w8 ⟨rfl, hb8⟩; (replace HT := Lib.hid (HT.out.next hb8)); (replace HA := Lib.hid (HA.out.below hb8)); (replace HO := Lib.hid (HO.out.below hb8)); clear z0 z1 z2 z3 z4 z5 z6 z7 z8 z9 z10; (obtain ⟨z0, z1, z2, z3, z4, z5, z6, z7, z8, z9, z10⟩ := HT.out.cells); clear hb8)
        | fail)
    all_goals go_wp2
    all_goals go_ret
    all_goals exact ⟨ret_bool (by cases bb <;> rfl), HT.out.bel⟩
  · have HN := Lib.hid (fun w => new_bad n k p q hok w)
    rw [mdRight_no m hok] at HR
    generalize Tb.tbN n k p q = sz at *
    generalize Tb.tbErr n k p q = er at *
    clear ha hr HRL
    unfold Tb.specV thingV at *
    go_enter Tryz.func3, Tryz.ntmps3
    go_wp2_with (first
      | (go_at_call 6; refine (HN.out _).mono ?_; rintro e w1 ⟨rfl, hb1⟩; (have HT1 := Lib.hid (HT0.out.next hb1)); (have HA1 := Lib.hid (HA0.out.below hb1)); clear z0 z1 z2 z3 z4 z5 z6 z7 z8 z9 z10; (obtain ⟨z0, z1, z2, z3, z4, z5, z6, z7, z8, z9, z10⟩ := HT1.out.cells); clear hb1)
      | (go_at_call 7; refine (HS.out _).mono ?_; rintro e w2 ⟨rfl, hb2⟩; (have HT2 := Lib.hid (HT1.out.next hb2)); (have HA2 := Lib.hid (HA1.out.below hb2)); clear z0 z1 z2 z3 z4 z5 z6 z7 z8 z9 z10; (obtain ⟨z0, z1, z2, z3, z4, z5, z6, z7, z8, z9, z10⟩ := HT2.out.cells); clear hb2)
      | (go_at_call 8; refine (HR.out _ HA2.out).mono ?_; rintro e w6 ⟨rfl, hb6⟩; (have HT6 := Lib.hid (HT2.out.next hb6)); clear hb6)
      | (go_at_call 9; refine (H5.out _).mono ?_; rintro e w8 ⟨rfl, hb8⟩; (have HT8 := Lib.hid (HT6.out.next hb8)); clear hb8))
    go_ret
    exact ⟨rfl, HT8.out.bel⟩
end Go.Proofs.YtmocjpcnohnfpaaGreat
