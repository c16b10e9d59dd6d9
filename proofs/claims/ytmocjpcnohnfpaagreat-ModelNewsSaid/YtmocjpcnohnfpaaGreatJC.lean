/- Right: the program's and the law's; the reference's New. -/
import Derived.Test.YtmocjpcnohnfpaaGreatJB
namespace Go.Proofs.YtmocjpcnohnfpaaGreat
open Go.ChangeShapes Go.WideShapes Go.ChangeAt Go.RowKit
set_option linter.unusedVariables false
set_option linter.unusedSimpArgs false
set_option maxRecDepth 100000

theorem argW_tail {w : World} {b o cap : Nat} {x : Nat} {t : List Nat} (hc : ∀ (i y : Nat), (x :: t)[i]? = some y → w.cell? ⟨b, o + i, none⟩ = some (wU y)) : ArgW w (.slice (some ⟨b, o + 1, none⟩) t.length (cap - 1)) t :=
  ⟨_, b, o + 1, _, rfl, fun _ => rfl, (fun h => by cases h), fun i y hy => by
    have := hc (i + 1) y (by simpa using hy)
    rw [show o + 1 + i = o + (i + 1) by omega]
    exact this⟩
theorem argW_none (w : World) (a : Addr) (cap : Nat) : ArgW w (.slice (some a) 0 cap) [] :=
  ⟨_, 0, 0, _, rfl, fun h => absurd h (by simp), (fun h => by cases h), fun i y hy => by simp at hy⟩
theorem mdRight_no {n k p q : Int} (m : List Nat) (h : Tb.tbErr n k p q ≠ 0) : mdRight n k p q m = false := by
  unfold mdRight; rw [decide_eq_false h]; rfl
theorem mdRight_yes {n k p q : Int} (m : List Nat) (h : Tb.tbErr n k p q = 0) : mdRight n k p q m = mdIs n k p m := by
  unfold mdRight; rw [decide_eq_true h]; rfl
theorem mod2 (a : Nat) : ((a : Int).tmod 2 == 0) = decide (a % 2 = 0) := by
  rw [Bool.eq_iff_iff, beq_iff_eq, decide_eq_true_eq]
  rw [Int.tmod_eq_emod_of_nonneg (by omega)]
  omega

set_option maxHeartbeats 1000000 in
theorem mright_any (n k p q : Int) (v : Value) (m : List Nat) (w : World) (ha : ArgW w v m) (hr : Room v) (hl : m.length ≤ 9223372036854775807) :
    Calls Tryz.prog 8 #[.int .i64 n, Tb.specV k p q, v] w fun e w' => e = .returned (.bool (mdRight n k p q m)) ∧ Below w.heap.size w w' := by
  have HS := Lib.hid (fun w => Tb.size_any n k p q w)
  by_cases hok : Tb.tbErr n k p q = 0
  · rw [mdRight_yes m hok]
    have h := okS hok
    rw [hok] at HS
    generalize Tb.tbN n k p q = sz at *
    clear hok
    have hL := length_any n k p q h
    by_cases h7 : k = 7
    · subst h7
      obtain ⟨ao, b, o, cap, rfl, h1, h2, h3⟩ := ha
      cases m with
      | nil =>
        have hm : mdIs n 7 p [] = false := rfl
        rw [hm]
        simp only [List.length_nil] at *
        clear hL h hm h1 h2 h3
        unfold Tb.specV at *
        go_enter Tryz.func8, Tryz.ntmps8
        go_wp2_with (go_at_call 20; refine (HS.out _).mono ?_; rintro e w1 ⟨rfl, hb⟩; (obtain ⟨⟨k0, k1, k2⟩, hb1, hlt⟩ := spec_down hb); (have HB1 := Lib.hid hb1); clear hb hb1)
        go_quiet (fail)
        go_wp2
        go_ret
        exact ⟨rfl, below_drewN HB1.out _⟩
      | cons x t =>
        obtain rfl := h1 (by simp)
        have hcap := hr _ _ _ rfl
        have hm : mdIs n 7 p (x :: t) = sqRight p t := by unfold mdIs; rw [if_pos rfl]; simp
        have HQ : Hid (∀ v W, ArgW W v t → Calls Tryz.prog 24 #[.int .i64 p, v] W fun e w' => e = .returned (.bool (sqRight p t)) ∧ Below W.heap.size W w') := Lib.hid (fun v W h => seqRight_any p v t W h (by simp at hl; omega))
        have hbl : b < w.heap.size := World.block_lt_of_cell? w _ (h3 0 x rfl)
        rw [hm]
        have HC := Lib.hid h3
        generalize sqRight p t = bb at *
        have hlen : (x :: t).length = t.length + 1 := rfl
        rw [hlen] at hcap hl ⊢
        clear hL h hm h1 h2 h3 hr hlen
        unfold Tb.specV at *
        have hd : decide ((0 : Int) < (t.length : Int) + 1) = true := decide_eq_true (by omega)
        by_cases hc1 : cap = 1
        · subst hc1
          have ht0 : t = [] := List.length_eq_zero_iff.1 (by omega)
          subst ht0
          simp only [List.length_nil, Nat.zero_add] at *
          go_enter Tryz.func8, Tryz.ntmps8
          go_wp2_with (go_at_call 20; refine (HS.out _).mono ?_; rintro e w1 ⟨rfl, hb⟩; (obtain ⟨⟨k0, k1, k2⟩, hb1, hlt⟩ := spec_down hb); (have HB1 := Lib.hid hb1); clear hb hb1)
          have l1 : ∀ p' : BW w1.heap.size w1, p'.v.cell? ⟨w.heap.size, 1, none⟩ = some (.int .i64 p) := fun p' => p'.cell hlt k1
          refine wp_region_low (B := w1.heap.size) (w := w1) (by kernel_rfl) (by kernel_rfl) ?_
          repeat (go_big_quiet_step ((go_at_call 24; exact low_call (HQ.out _ _ (argW_none _ _ _)) (Nat.le_refl _))))
          refine wpQuiet_nil ?_
          intro _ hw'
          obtain ⟨⟨w2, hb2⟩, rfl⟩ := hw'
          go_wp2
          go_ret
          exact ⟨rfl, HB1.out.trans (hb2.mono HB1.out.size)⟩
        · have h1c : 1 < cap := by omega
          go_enter Tryz.func8, Tryz.ntmps8
          go_wp2_with (go_at_call 20; refine (HS.out _).mono ?_; rintro e w1 ⟨rfl, hb⟩; (obtain ⟨⟨k0, k1, k2⟩, hb1, hlt⟩ := spec_down hb); (have HB1 := Lib.hid hb1); clear hb hb1)
          have l1 : ∀ p' : BW w1.heap.size w1, p'.v.cell? ⟨w.heap.size, 1, none⟩ = some (.int .i64 p) := fun p' => p'.cell hlt k1
          have HAT : Hid (∀ p' : BW w1.heap.size w1, ArgW p'.v (.slice (some ⟨b, o + 1, none⟩) t.length (cap - 1)) t) := Lib.hid (fun p' => argW_tail (x := x) (fun i y hy => p'.cell (by show b < _; have := HB1.out.size; omega) ((HB1.out.cell (p := ⟨b, _, none⟩) hbl).trans (HC.out i y hy))))
          refine wp_region_low (B := w1.heap.size) (w := w1) (by kernel_rfl) (by kernel_rfl) ?_
          repeat (go_big_quiet_step ((go_at_call 24; exact low_call (HQ.out _ _ (HAT.out _)) (Nat.le_refl _))))
          refine wpQuiet_nil ?_
          intro _ hw'
          obtain ⟨⟨w2, hb2⟩, rfl⟩ := hw'
          go_wp2
          go_ret
          exact ⟨rfl, HB1.out.trans (hb2.mono HB1.out.size)⟩
    · obtain ⟨ao, cap, rfl⟩ := ha.isSlice
      by_cases h8 : k = 8
      · subst h8
        have hm : mdIs n 8 p m = decide (m.length % 2 = 0) := by unfold mdIs; rw [if_neg (by decide), if_pos rfl]
        rw [hm]
        clear hL h hm ha
        unfold Tb.specV at *
        go_enter Tryz.func8, Tryz.ntmps8
        go_wp2_with (go_at_call 20; refine (HS.out _).mono ?_; rintro e w1 ⟨rfl, hb⟩; (obtain ⟨⟨k0, k1, k2⟩, hb1, hlt⟩ := spec_down hb); (have HB1 := Lib.hid hb1); clear hb hb1)
        go_ret
        exact ⟨ret_bool (mod2 _), HB1.out⟩
      · have hm : mdIs n k p m = decide ((m.length : Int) = mdLen n k p) := by unfold mdIs; rw [if_neg h7, if_neg h8]
        rw [hm]
        have HL := Lib.hid hL
        generalize mdLen n k p = ln at *
        clear hL h hm ha
        unfold Tb.specV at *
        go_enter Tryz.func8, Tryz.ntmps8
        go_wp2_with (first
          | (go_at_call 20; refine (HS.out _).mono ?_; rintro e w1 ⟨rfl, hb⟩; (obtain ⟨⟨k0, k1, k2⟩, hb1, hlt⟩ := spec_down hb); (have HB1 := Lib.hid hb1); clear hb hb1)
          | (go_at_call 22; refine (HL.out _).mono ?_; rintro e w2 ⟨rfl, hb2⟩; (have HB2 : Hid (Below w.heap.size w w2) := Lib.hid (HB1.out.trans (hb2.mono HB1.out.size))); clear hb2))
        go_ret
        exact ⟨ret_bool (by first | rfl | (rw [Bool.eq_iff_iff, beq_iff_eq, decide_eq_true_eq])), HB2.out⟩
  · rw [mdRight_no m hok]
    generalize Tb.tbN n k p q = sz at *
    generalize Tb.tbErr n k p q = er at *
    obtain ⟨ao, cap, rfl⟩ := ha.isSlice
    clear ha
    unfold Tb.specV at *
    go_enter Tryz.func8, Tryz.ntmps8
    go_wp2_with (go_at_call 20; refine (HS.out _).mono ?_; rintro e w1 ⟨rfl, hb⟩; (obtain ⟨⟨k0, k1, k2⟩, hb1, hlt⟩ := spec_down hb); (have HB1 := Lib.hid hb1); clear hb hb1)
    go_ret
    exact ⟨rfl, HB1.out⟩

theorem GivesN_mk (w : World) (k p q : Int) (a : Nat) (h : ArgW ((w.alloc (Tb.specO k p q)).alloc (.cells (Array.replicate a (wU 0)) 25)) (.slice (some ⟨w.heap.size + 1, 0, none⟩) a a) (List.replicate a 0)) (hb : Below w.heap.size w ((w.alloc (Tb.specO k p q)).alloc (.cells (Array.replicate a (wU 0)) 25))) :
    GivesN (List.replicate a 0) w (.returned (.slice (some ⟨w.heap.size + 1, 0, none⟩) a a)) ((w.alloc (Tb.specO k p q)).alloc (.cells (Array.replicate a (wU 0)) 25)) := ⟨_, rfl, h, hb⟩
set_option maxHeartbeats 1000000 in
theorem rnew_any (n k p q : Int) (hok : Tb.tbErr n k p q = 0) (w : World) :
    Calls Tryz.prog 11 #[.int .i64 n, Tb.specV k p q] w (GivesN (mdNew n k p) w) := by
  have h := okS hok
  clear hok
  have hn1 := h.n1
  have hn2 := h.n16
  have hSP : ∀ w : World, (w.alloc (Tb.specO k p q)).heap.size = w.heap.size + 1 := fun w => World.size_alloc _ _
  by_cases h7 : k = 7
  · subst h7
    obtain ⟨⟨hp0, hp7⟩, _⟩ := h.h7 rfl
    have hsl := sqLo_le p.toNat
    have HN := Lib.hid (fun w => refNew_any p w)
    rw [sqIs_yes ⟨hp0, hp7⟩, if_pos rfl] at HN
    have hE : mdNew n 7 p = List.replicate (1 + sqLo p.toNat) 0 := rfl
    rw [hE]
    clear h hE
    generalize sqLo p.toNat = a at *
    obtain ⟨iI, ia, ib, ic, id⟩ := info_parts info22
    have HLEN : Hid (((List.replicate a 0).map wU).length = a) := Lib.hid (by simp)
    have HONE := Lib.hid (wU_one (List.replicate a 0))
    have HZ := Lib.hid (zeros_one a)
    have HO1 : Hid (OwnW ((w.alloc (Tb.specO 7 p q)).alloc (.cells #[wU 0] 25)) w.heap.size (.slice (some ⟨w.heap.size + 1, 0, none⟩) 1 1) (List.replicate 1 0)) := Lib.hid (made_own (w.alloc (Tb.specO 7 p q)) 1 w.heap.size _ (hSP w).symm (by omega) (by rw [hSP]; omega))
    unfold Tb.specV at *
    go_enter Tryz.func11, Tryz.ntmps11
    go_wp2_with (first
      | (go_at_call 27; refine (HN.out _).mono ?_; rintro e w2 ⟨v2, rfl, ho2, hb2⟩; (have HO2 : Hid (w2.ownsRow w.heap.size 25 1 (.slice (some ⟨w.heap.size + 1, 0, none⟩) 1 1) 1 [.int .u64 0]) := Lib.hid (HO1.out.below hb2)); (obtain ⟨ao2, b2, o2, cap2, rfl, hA2, hn2', hc2⟩ := ho2); (have HA2 := Lib.hid hA2); (have HN2 := Lib.hid hn2'); (have HC2 : Hid (∀ (j : Nat) (u : Value), ((List.replicate a 0).map wU)[j]? = some u → w2.cell? ⟨b2, o2 + j, none⟩ = some u) := Lib.hid (fun j u hu => by rw [List.getElem?_map] at hu; obtain ⟨x, hx, rfl⟩ := Option.map_eq_some_iff.1 hu; exact hc2 j x hx)); (have hsz2 : w.heap.size ≤ w2.heap.size := by have := hb2.size; simp at this; omega); (have HB2 : Hid (Below w.heap.size w w2) := Lib.hid ((((Below.refl _ _).alloc (Nat.le_refl _) _).alloc (by simp) _).trans (hb2.mono (by simp; omega)))); clear hb2 hA2 hn2' hc2)
      | (at_builtin; rw [List.length_replicate] at *; refine append_onto_own rfl _ _ 24 rfl w.heap.size 25 iI (.int .u64 0) 8 Tryz.underlying24 ia ib ic id rfl (by decide) _ 1 _ rfl HO2.out ao2 b2 o2 cap2 a ((List.replicate a 0).map wU) rfl HLEN.out HA2.out HN2.out HC2.out HONE.out (by omega) hsz2 ?_; intro v3 w3 ho3 hb3 _; (have HO3 : Hid (OwnW w3 w.heap.size v3 (List.replicate (1 + a) 0)) := Lib.hid (by unfold OwnW; rw [List.length_replicate, ← HZ.out]; exact ho3)); (have HB3 := Lib.hid (HB2.out.trans hb3)); clear ho3 hb3))
    go_ret
    exact ⟨_, rfl, HO3.out.arg, HB3.out⟩
  · have hbd := mdLen_bd h h7
    by_cases h1 : k = 8
    · subst h1
      clear h hbd
      unfold Tb.specV at *
      go_enter Tryz.func11, Tryz.ntmps11
      go_wp2_with fail
      go_ret
      exact ⟨_, rfl, ArgW.nil _, (Below.refl _ _).alloc (Nat.le_refl _) _⟩
    by_cases h2 : k = 0 ∨ k = 9 ∨ k = 5 ∨ k = 6
    · obtain ⟨a, ha⟩ : ∃ a : Nat, mdLen n k p = a := ⟨(mdLen n k p).toNat, by omega⟩
      have hE : mdNew n k p = List.replicate a 0 := by unfold mdNew mdNL; rw [if_neg h7, ha]; rfl
      rw [hE]
      rw [ha] at hbd
      have HM := run_mkW a (by omega)
      have HE : ∀ w : World, Below w.heap.size w ((w.alloc (Tb.specO k p q)).alloc (.cells (Array.replicate a (wU 0)) 25)) := fun w => ((Below.refl _ _).alloc (Nat.le_refl _) _).alloc (by simp) _
      have HO : ∀ w : World, ArgW ((w.alloc (Tb.specO k p q)).alloc (.cells (Array.replicate a (wU 0)) 25)) (.slice (some ⟨w.heap.size + 1, 0, none⟩) a a) (List.replicate a 0) := fun w => (made_own (w.alloc (Tb.specO k p q)) a 0 _ (hSP w).symm (by omega) (by omega)).arg
      have HX := Lib.hid (fun w => GivesN_mk w k p q a (HO w) (HE w))
      clear hE h
      rcases h2 with rfl | rfl | rfl | rfl
      · have e : p = a := ha
        subst e
        clear ha
        unfold Tb.specV at *
        go_enter Tryz.func11, Tryz.ntmps11
        go_wp2_with fail
        go_ret
        exact HX.out w
      · have e : p = a := ha
        subst e
        clear ha
        unfold Tb.specV at *
        go_enter Tryz.func11, Tryz.ntmps11
        go_wp2_with fail
        go_ret
        exact HX.out w
      · have e : 2 * n = a := ha
        clear ha
        unfold Tb.specV at *
        go_enter Tryz.func11, Tryz.ntmps11
        go_wp2_with fail
        go_ret
        exact HX.out w
      · have e : p + n = a := ha
        clear ha
        unfold Tb.specV at *
        go_enter Tryz.func11, Tryz.ntmps11
        go_wp2_with fail
        go_ret
        exact HX.out w
    · have hm : mdNew n k p = [0] := by unfold mdNew mdNL mdLen; rw [if_neg h7, if_neg (by omega), if_neg (by omega), if_neg (by omega), if_neg h1]; rfl
      rw [hm]
      have n0 : ¬ k = 0 := by omega
      have n9 : ¬ k = 9 := by omega
      have n5 : ¬ k = 5 := by omega
      have n6 : ¬ k = 6 := by omega
      clear h hm h2
      unfold Tb.specV at *
      go_enter Tryz.func11, Tryz.ntmps11
      go_wp2_with fail
      go_ret
      exact ⟨_, rfl, (made_own (w.alloc (Tb.specO k p q)) 1 0 _ (hSP w).symm (by omega) (by omega)).arg, ((Below.refl _ _).alloc (Nat.le_refl _) _).alloc (by simp) _⟩
end Go.Proofs.YtmocjpcnohnfpaaGreat
