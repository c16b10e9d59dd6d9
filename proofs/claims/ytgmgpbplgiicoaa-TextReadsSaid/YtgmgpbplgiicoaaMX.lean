/- Walk of the document's reader of lines: the digits of a number. -/
import Derived.Test.YtgmgpbplgiicoaaMW
import Derived.Lib.Strings
namespace Go.Proofs.Ytgmgpbplgiicoaa
open Go.RowKit Go.Lib Go.Sort

theorem run_cut (L : List Nat) (i k : Nat) (hk : i + k ≤ L.length) (w : World) : (Instr.slice 9 (.string (strB L)) (some (.int .i64 (i : Int))) (some (.int .i64 ((i + k : Nat) : Int))) none).run Try.prog w = .ok (.string (strB ((L.drop i).take k))) w := by
  rw [run_slice_string w 9 (strB L) .i64 .i64 (i : Int) ((i + k : Nat) : Int) Try.underlying9 (by omega) (by omega) (by rw [strB_size]; omega)]
  congr 2
  apply str_ext
  rw [extract_data, strB_list, strB_list, Int.toNat_natCast, Int.toNat_natCast, List.map_take, List.map_drop, show i + k - i = k by omega]
theorem take_next {L : List Nat} {i n x : Nat} (h : L[i + n]? = some x) : (L.drop i).take (n + 1) = (L.drop i).take n ++ [x] := by
  apply take_snoc
  rw [List.getElem?_drop]
  exact h
theorem DigI.le {n x : Nat} {D : List Nat} (h : DigI n x D) (hl : D.length = n) : n ≤ 20 := by
  rcases h with ⟨rfl, _⟩ | ⟨_, rfl⟩
  · omega
  · have := digs_len x; omega
theorem eatR_nil {m : Nat} {f : Bool} {x : Nat} : eatR m f x [] = (x, [], false) := rfl
theorem eatR_no {m : Nat} {f : Bool} {x c : Nat} {r : List Nat} (h : ¬ (48 ≤ c ∧ c ≤ 57)) : eatR m f x (c :: r) = (x, c :: r, false) := by rw [eatR, if_neg h]
theorem eatR_bad {m : Nat} {f : Bool} {x c : Nat} {r : List Nat} (h : 48 ≤ c ∧ c ≤ 57) (h2 : (f = false ∧ x = 0) ∨ m < 10 * x + (c - 48)) : eatR m f x (c :: r) = (x, c :: r, true) := by rw [eatR, if_pos h, if_pos h2]
theorem eatR_yes {m : Nat} {f : Bool} {x c : Nat} {r : List Nat} (h : 48 ≤ c ∧ c ≤ 57) (h2 : ¬ ((f = false ∧ x = 0) ∨ m < 10 * x + (c - 48))) : eatR m f x (c :: r) = eatR m false (10 * x + (c - 48)) r := by rw [eatR, if_pos h, if_neg h2]

set_option maxHeartbeats 4000000 in
set_option maxRecDepth 100000 in
theorem rdigs_any (m : Nat) (hm : 9 < m) (hm2 : m < 18446744073709551616) (rb : Nat) (L : List Nat) (i : Nat) (b : Bool) (w : World) (hL : BytL L) (hl : L.length ≤ 900000) (hr : LRd w rb L i b) (hi : i ≤ L.length) :
    Calls Try.prog 26 #[.pointer (some ⟨rb, 0, none⟩), .string (strB (digs m))] w (RdR rb L w (.int .u64 ((magR m (L.drop i, b)).1 : Int)) (magR m (L.drop i, b)).2) := by
  have hlen := hL.l
  have hsz := strB_size L
  have r1 := cell_of_heap hr (k := 1) rfl
  have HR := Lib.hid hr
  have HL := Lib.hid hL
  cases b with
  | true =>
    have e1 : magR m (L.drop i, true) = (0, (L.drop i, true)) := by simp [magR]
    rw [e1]
    have r0 := cell_of_heap hr (k := 0) rfl
    have r2 := cell_of_heap hr (k := 2) rfl
    have f2 := free_of_heap (k := 2) hr
    clear e1 hr
    go_enter Try.func26, Try.ntmps26
    go_wp2
    go_loopw [6, 11] (fun u k wr => u = .int .u64 0 ∧ k = .int .i64 0 ∧ wr = w) (fun _ _ _ => 0)
    case atStart => exact ⟨rfl, rfl, rfl⟩
    case round =>
      obtain ⟨rfl, rfl, rfl⟩ := hrel
      go_wp2
      go_quiet (fail)
      go_wp2
      go_ret
      exact ⟨rfl, But1.setCell ((But1.refl rb wr).drewN _) (x := ⟨rb, 2, none⟩) (.inl rfl) _, i, hi, LRd.set2 (HR.out.drewN _) true, rfl⟩
  | false =>
    obtain ⟨R, hR⟩ : ∃ R, magR m (L.drop i, false) = R := ⟨_, rfl⟩
    have HRR : Hid (R = ((eatR m true 0 (L.drop i)).1, ((eatR m true 0 (L.drop i)).2.1, (eatR m true 0 (L.drop i)).2.2 || decide ((eatR m true 0 (L.drop i)).2.1.length = (L.drop i).length)))) := Lib.hid (by rw [← hR]; simp [magR])
    rw [hR]
    obtain ⟨MS, hMS⟩ : ∃ MS, strB (digs m) = MS := ⟨_, rfl⟩
    have HMS := Lib.hid hMS
    rw [hMS]
    clear hr hR hMS
    go_enter Try.func26, Try.ntmps26
    go_wp2
    go_loopw [6, 11] (fun u k wr => ∃ n x j : Nat, k = .int .i64 (n : Int) ∧ u = .int .u64 (x : Int) ∧ x ≤ m ∧ j ≤ L.length ∧ Hid (j = i + n) ∧ Hid (LRd wr rb L j false) ∧ Hid (But1 rb w wr) ∧ Hid (DigI n x ((L.drop i).take n)) ∧ Hid (eatR m (decide (n = 0)) x (L.drop j) = eatR m true 0 (L.drop i))) (fun _ _ wr => L.length - atOf rb wr)
    case atStart => exact ⟨0, 0, i, rfl, rfl, by omega, hi, Lib.hid rfl, HR, Lib.hid (But1.refl _ _), Lib.hid (Or.inl ⟨rfl, rfl, rfl⟩), Lib.hid rfl⟩
    case round =>
      obtain ⟨n, x, j, rfl, rfl, hx, hj, hji, hrd, hbt, hdg, hp⟩ := hrel
      have hn20 : n ≤ 20 := hdg.out.le (by have := hji.out; rw [List.length_take, List.length_drop]; omega)
      have dn : (n : Int) < 30 := by omega
      have r0 := cell_of_heap hrd.out (k := 0) rfl
      have r1 := cell_of_heap hrd.out (k := 1) rfl
      have r2 := cell_of_heap hrd.out (k := 2) rfl
      have f1 := free_of_heap (k := 1) hrd.out
      have f2 := free_of_heap (k := 2) hrd.out
      by_cases hjl : j = L.length
      · have d1 : ¬ (j : Int) < (L.length : Int) := by omega
        have d2 : decide ((j : Int) < (L.length : Int)) = false := decide_eq_false d1
        have d4 : (L.length : Int) ≤ (j : Int) := by omega
        have d5 : decide ((L.length : Int) ≤ (j : Int)) = true := decide_eq_true d4
        have d6 : decide (L.length ≤ j) = true := decide_eq_true (by omega)
        have hdr : L.drop j = [] := by rw [hjl, List.drop_length]
        have HX : Hid (R = (x, (L.drop j, decide (j = i)))) := Lib.hid (by
          rw [HRR.out, ← hp.out, hdr, eatR_nil]
          simp only [Bool.false_or]
          rw [← hdr]; rw [drop_len_eq hi hj])
        by_cases hjj : j = i
        · have d3 : ((j : Int) == (i : Int)) = true := by rw [beq_iff_eq]; omega
          have HX2 : Hid (R = (x, (L.drop j, true))) := Lib.hid (by rw [HX.out, decide_eq_true hjj])
          clear hjj HX hjl hdr
          go_wp2
          go_quiet (fail)
          go_wp2
          go_ret
          rw [HX2.out]
          exact ⟨rfl, But1.setCell (hbt.out.drewN _) (x := ⟨rb, 2, none⟩) (.inl rfl) _, j, hj, LRd.set2 (hrd.out.drewN _) true, rfl⟩
        · have d3 : ((j : Int) == (i : Int)) = false := beq_false_of_ne (by omega)
          have HX2 : Hid (R = (x, (L.drop j, false))) := Lib.hid (by rw [HX.out, decide_eq_false hjj])
          clear hjj HX hjl hdr
          go_wp2
          go_quiet (fail)
          go_wp2
          go_ret
          rw [HX2.out]
          exact ⟨rfl, hbt.out.drewN _, j, hj, hrd.out.drewN _, rfl⟩
      · obtain ⟨c, hc⟩ : ∃ c, L[j]? = some c := ⟨L[j]'(by omega), List.getElem?_eq_getElem (by omega)⟩
        have d1 : (j : Int) < (L.length : Int) := by omega
        have d4 : ¬ (L.length : Int) ≤ (j : Int) := by omega
        have d5 : decide ((L.length : Int) ≤ (j : Int)) = false := decide_eq_false d4
        have d6 : decide (L.length ≤ j) = false := decide_eq_false (by omega)
        have hat := fun W => run_at L HL.out.b j c hc W
        have hcb := HL.out.b c (List.mem_of_getElem? hc)
        have hdr := drop_consG hc
        by_cases hc1 : c < 48
        · have d7 : (c : Int) < 48 := by omega
          have d8 : decide ((c : Int) < 48) = true := decide_eq_true d7
          have HX : Hid (R = (x, (L.drop j, decide (j = i)))) := Lib.hid (by
            rw [HRR.out, ← hp.out, hdr, eatR_no (by omega)]
            simp only [Bool.false_or]
            rw [← hdr]; rw [drop_len_eq hi hj])
          by_cases hjj : j = i
          · have d3 : ((j : Int) == (i : Int)) = true := by rw [beq_iff_eq]; omega
            have HX2 : Hid (R = (x, (L.drop j, true))) := Lib.hid (by rw [HX.out, decide_eq_true hjj])
            clear hjj HX hjl hdr hc hc1
            go_wp2
            go_quiet (fail)
            go_wp2
            go_ret
            rw [HX2.out]
            exact ⟨rfl, But1.setCell (hbt.out.drewN _) (x := ⟨rb, 2, none⟩) (.inl rfl) _, j, hj, LRd.set2 (hrd.out.drewN _) true, rfl⟩
          · have d3 : ((j : Int) == (i : Int)) = false := beq_false_of_ne (by omega)
            have HX2 : Hid (R = (x, (L.drop j, false))) := Lib.hid (by rw [HX.out, decide_eq_false hjj])
            clear hjj HX hjl hdr hc hc1
            go_wp2
            go_quiet (fail)
            go_wp2
            go_ret
            rw [HX2.out]
            exact ⟨rfl, hbt.out.drewN _, j, hj, hrd.out.drewN _, rfl⟩
        · by_cases hc2 : 57 < c
          · have d7 : ¬ (c : Int) < 48 := by omega
            have d8 : decide ((c : Int) < 48) = false := decide_eq_false d7
            have d9 : 57 < (c : Int) := by omega
            have d10 : decide (57 < (c : Int)) = true := decide_eq_true d9
            have HX : Hid (R = (x, (L.drop j, decide (j = i)))) := Lib.hid (by
              rw [HRR.out, ← hp.out, hdr, eatR_no (by omega)]
              simp only [Bool.false_or]
              rw [← hdr]; rw [drop_len_eq hi hj])
            by_cases hjj : j = i
            · have d3 : ((j : Int) == (i : Int)) = true := by rw [beq_iff_eq]; omega
              have HX2 : Hid (R = (x, (L.drop j, true))) := Lib.hid (by rw [HX.out, decide_eq_true hjj])
              clear hjj HX hjl hdr hc hc1 hc2
              go_wp2
              go_quiet (fail)
              go_wp2
              go_ret
              rw [HX2.out]
              exact ⟨rfl, But1.setCell (hbt.out.drewN _) (x := ⟨rb, 2, none⟩) (.inl rfl) _, j, hj, LRd.set2 (hrd.out.drewN _) true, rfl⟩
            · have d3 : ((j : Int) == (i : Int)) = false := beq_false_of_ne (by omega)
              have HX2 : Hid (R = (x, (L.drop j, false))) := Lib.hid (by rw [HX.out, decide_eq_false hjj])
              clear hjj HX hjl hdr hc hc1 hc2
              go_wp2
              go_quiet (fail)
              go_wp2
              go_ret
              rw [HX2.out]
              exact ⟨rfl, hbt.out.drewN _, j, hj, hrd.out.drewN _, rfl⟩
          · have d7 : ¬ (c : Int) < 48 := by omega
            have d8 : decide ((c : Int) < 48) = false := decide_eq_false d7
            have d9 : ¬ 57 < (c : Int) := by omega
            have d10 : decide (57 < (c : Int)) = false := decide_eq_false d9
            have hjlt : j < L.length := by omega
            obtain ⟨d, hd⟩ : ∃ d, c = 48 + d := ⟨c - 48, by omega⟩
            have hd10 : d < 10 := by omega
            have hcut := fun W => run_cut L i (n + 1) (by have := hji.out; omega) W
            rw [show ((i + (n + 1) : Nat) : Int) = (j : Int) + 1 by have := hji.out; omega] at hcut
            have htk : (L.drop i).take (n + 1) = (L.drop i).take n ++ [48 + d] := by
              have := take_next (n := n) (i := i) (L := L) (x := c) (by rw [← hji.out]; exact hc)
              rw [this, hd]
            have hfit := fits_any ((L.drop i).take (n + 1)) (digs m)
            have hfn := fit_next (d := d) hdg.out hd10 hm (by omega) hx
            rw [← htk] at hfn
            have hDb : ∀ z ∈ (L.drop i).take (n + 1), z < 256 := fun z hz => HL.out.b z (List.mem_of_mem_drop (List.mem_of_mem_take hz))
            have hDl : ((L.drop i).take (n + 1)).length = n + 1 := by
              have := hji.out
              rw [List.length_take, List.length_drop]
              omega
            have hml := digs_len m
            have HFT : Hid (∀ W, Calls Try.prog 42 #[.string (strB ((L.drop i).take (n + 1))), .string MS] W fun e w' => e = .returned (.bool (!decide ((0 < n ∧ x = 0) ∨ m < 10 * x + d))) ∧ Below W.heap.size W w') := Lib.hid (fun W => by
              have := hfit W hDb (digs_b m) (by omega) (by omega)
              rw [hfn, HMS.out] at this
              exact this.mono fun e w' ⟨h1, h2⟩ => ⟨h1, by rw [h2]; exact Below.refl _ _⟩)
            generalize strB ((L.drop i).take (n + 1)) = SD at hcut HFT
            have HTK := Lib.hid htk
            have HDR := Lib.hid hdr
            have HD := Lib.hid hd
            clear hfit hfn hDb hDl hml htk hdr hc hd
            by_cases hbad : (0 < n ∧ x = 0) ∨ m < 10 * x + d
            · rw [decide_eq_true hbad] at HFT
              have hn0 : 0 < n := by
                rcases hbad with h | h
                · exact h.1
                · rcases Nat.eq_zero_or_pos n with h0 | h0
                  · rcases hdg.out with h1 | h1
                    · omega
                    · omega
                  · exact h0
              have d3 : ((j : Int) == (i : Int)) = false := beq_false_of_ne (by have := hji.out; omega)
              have HX2 : Hid (R = (x, (L.drop j, true))) := Lib.hid (by
                have hd := HD.out
                rw [HRR.out, ← hp.out, HDR.out, eatR_bad (by omega) (by
                  rcases hbad with h | h
                  · exact Or.inl ⟨decide_eq_false (by omega), h.2⟩
                  · right; omega)]
                simp only [Bool.true_or])
              clear hbad hjl hc1 hc2 hn0
              go_wp2
              go_quiet (fail)
              rename_i nq
              have hrd5 := hrd.out.drewN nq
              have hbt5 := hbt.out.drewN nq
              generalize wr.drewN nq = W5 at hrd5 hbt5 ⊢
              have hlt5 := lt_of_heap hrd5
              have l0 : ∀ p : BW W5.heap.size W5, p.v.cell? ⟨rb, 0, none⟩ = some (.string (strB L)) := fun p => p.cell hlt5 (cell_of_heap hrd5 (k := 0) rfl)
              have l1 : ∀ p : BW W5.heap.size W5, p.v.cell? ⟨rb, 1, none⟩ = some (.int .i64 (j : Int)) := fun p => p.cell hlt5 (cell_of_heap hrd5 (k := 1) rfl)
              go_wp2
              refine wp_region_low (B := W5.heap.size) (w := W5) (by kernel_rfl) (by kernel_rfl) ?_
              repeat (go_big_quiet_step ((go_at_call 42; with_reducible exact low_call (HFT.out _) (Nat.le_refl _))))
              refine wpQuiet_nil ?_
              intro w6 hw'
              obtain ⟨pq, eq1⟩ := hw'
              have hb6 := pq.h
              rw [← eq1] at hb6
              clear eq1 pq l0 l1 r0 r1 r2 f1 f2
              have hrd6 := hrd5.below hb6 hlt5
              have hbt6 := hbt5.trans (But1.of_below (p := rb) hb6)
              have r1 := cell_of_heap hrd6 (k := 1) rfl
              have f2 := free_of_heap (k := 2) hrd6
              have r2 := cell_of_heap hrd6 (k := 2) rfl
              have HE := Lib.hid (And.intro hrd6 hbt6)
              clear hb6 hrd6 hbt6 hrd5 hbt5
              go_wp2
              go_ret
              rw [HX2.out]
              exact ⟨rfl, But1.setCell HE.out.2 (x := ⟨rb, 2, none⟩) (.inl rfl) _, j, hj, LRd.set2 HE.out.1 true, rfl⟩
            · rw [decide_eq_false hbad] at HFT
              have HP2 : Hid (eatR m (decide (n + 1 = 0)) (10 * x + d) (L.drop (j + 1)) = eatR m true 0 (L.drop i)) := Lib.hid (by
                have hd := HD.out
                rw [← hp.out, HDR.out, eatR_yes (by omega) (by
                  rintro (h | h)
                  · exact hbad (Or.inl ⟨by have := of_decide_eq_false h.1; omega, h.2⟩)
                  · exact hbad (Or.inr (by omega))), decide_eq_false (by omega), show c - 48 = d by omega])
              have HDG2 : Hid (DigI (n + 1) (10 * x + d) ((L.drop i).take (n + 1))) := Lib.hid (by
                rw [HTK.out]
                exact hdg.out.next hd10 (fun h => hbad (Or.inl h)) (by omega))
              have HXM : Hid (10 * x + d ≤ m) := Lib.hid (by omega)
              have hxm : 10 * x + c < m + 49 := by have := HD.out; omega
              have hc48 : 48 ≤ c := by omega
              have HM : Hid (atOf rb wr = j) := Lib.hid hrd.out.atOf
              clear hbad hjl hc1 hc2
              go_wp2
              go_quiet (fail)
              rename_i nq
              have hrd5 := hrd.out.drewN nq
              have hbt5 := hbt.out.drewN nq
              generalize wr.drewN nq = W5 at hrd5 hbt5 ⊢
              have hlt5 := lt_of_heap hrd5
              have l0 : ∀ p : BW W5.heap.size W5, p.v.cell? ⟨rb, 0, none⟩ = some (.string (strB L)) := fun p => p.cell hlt5 (cell_of_heap hrd5 (k := 0) rfl)
              have l1 : ∀ p : BW W5.heap.size W5, p.v.cell? ⟨rb, 1, none⟩ = some (.int .i64 (j : Int)) := fun p => p.cell hlt5 (cell_of_heap hrd5 (k := 1) rfl)
              go_wp2
              refine wp_region_low (B := W5.heap.size) (w := W5) (by kernel_rfl) (by kernel_rfl) ?_
              repeat (go_big_quiet_step ((go_at_call 42; with_reducible exact low_call (HFT.out _) (Nat.le_refl _))))
              refine wpQuiet_nil ?_
              intro w6 hw'
              obtain ⟨pq, eq1⟩ := hw'
              have hb6 := pq.h
              rw [← eq1] at hb6
              clear eq1 pq l0 l1 r0 r1 r2 f1 f2
              have hrd6 := hrd5.below hb6 hlt5
              have hbt6 := hbt5.trans (But1.of_below (p := rb) hb6)
              have r0 := cell_of_heap hrd6 (k := 0) rfl
              have r1 := cell_of_heap hrd6 (k := 1) rfl
              have f1 := free_of_heap (k := 1) hrd6
              have HE := Lib.hid (And.intro hrd6 hbt6)
              clear hb6 hrd6 hbt6 hrd5 hbt5
              go_wp2
              go_quiet (fail)
              rename_i nq
              go_wp2
              go_roundw
              case rel =>
                have hd := HD.out
                exact ⟨n + 1, 10 * x + d, j + 1, by go_num, by rw [show 10 * (x : Int) + ((c : Int) - 48) = ((10 * x + d : Nat) : Int) by omega], HXM.out, by omega, Lib.hid (by have := hji.out; omega), Lib.hid (LRd.set1 (HE.out.1.drewN _) (j + 1)), Lib.hid (But1.setCell (HE.out.2.drewN _) (x := ⟨rb, 1, none⟩) (.inl rfl) _), HDG2, HP2⟩
              case measure =>
                have h1 := (LRd.set1 (HE.out.1.drewN nq) (j + 1)).atOf
                rw [show ((j + 1 : Nat) : Int) = (j : Int) + 1 by omega] at h1
                first
                  | (rw [HM.out, h1]; omega)
                  | (rw [HM.out]; rw [show atOf rb ((w6.drewN _).setCell ⟨rb, 1, none⟩ (.int .i64 ((j : Int) + 1))) = j + 1 from h1]; omega)
end Go.Proofs.Ytgmgpbplgiicoaa
