/- Walk of the law TextBack: what is told of an event is read as it was. -/
import Derived.Test.YtgmgpbplgiicoaaCA
import Derived.Test.YtgmgpbplgiicoaaMN
import Derived.Test.YtgmgpbplgiicoaaHQ
import Derived.Deep.Cut
namespace Go.Proofs.Ytgmgpbplgiicoaa
open Go.RowKit Go.Lib Go.Sort

theorem strB_ne {a b : EvX} (ha : a.Ok) (hb : b.Ok) (h : ¬ a = b) : ¬ strB (evLine a) = strB (evLine b) := fun e => h (evLine_inj ha hb (strB_inj (evLine_b a) (evLine_b b) e))

theorem toList_ne {a b : ByteArray} (h : ¬ a = b) : (a.toList == b.toList) = false := by
  rw [Lib.toList_data, Lib.toList_data]
  apply Bool.eq_false_iff.2
  intro e
  have h2 := eq_of_beq e
  apply h
  cases a; cases b
  simp only [Array.toList_inj] at h2
  rw [h2]

set_option maxHeartbeats 4000000 in
set_option maxRecDepth 100000 in
theorem back_any (x y : EvX) (s t : EvS) (w : World) (hx : x.Ok) (hy : y.Ok) (hs : EvR w x s) (ht : EvR w y t) :
    Calls Try.prog 5 #[evV x s, evV y t] w fun e w' => e = .returned (.bool true) ∧ Below w.heap.size w w' := by
  have HT := Lib.hid three_any
  have hb0 : Below w.heap.size w ((w.alloc (.cells #[.int .i64 x.ca, .int .i64 x.iv, .int .i64 x.rs, .int .i64 x.st, .int .i64 x.er, .int .u64 (x.vl : Int), .slice s.la x.lw.length s.lc, .slice s.ka x.kw.length s.kc] 29)).alloc (.cells #[.int .i64 y.ca, .int .i64 y.iv, .int .i64 y.rs, .int .i64 y.st, .int .i64 y.er, .int .u64 (y.vl : Int), .slice t.la y.lw.length t.lc, .slice t.ka y.kw.length t.kc] 29)) := ((Below.refl _ _).alloc (Nat.le_refl _) _).alloc (by simp) _
  have s1 : (w.alloc (.cells #[.int .i64 x.ca, .int .i64 x.iv, .int .i64 x.rs, .int .i64 x.st, .int .i64 x.er, .int .u64 (x.vl : Int), .slice s.la x.lw.length s.lc, .slice s.ka x.kw.length s.kc] 29)).heap.size = w.heap.size + 1 := by simp
  obtain ⟨w1, hw1⟩ : ∃ w1, (w.alloc (.cells #[.int .i64 x.ca, .int .i64 x.iv, .int .i64 x.rs, .int .i64 x.st, .int .i64 x.er, .int .u64 (x.vl : Int), .slice s.la x.lw.length s.lc, .slice s.ka x.kw.length s.kc] 29)).alloc (.cells #[.int .i64 y.ca, .int .i64 y.iv, .int .i64 y.rs, .int .i64 y.st, .int .i64 y.er, .int .u64 (y.vl : Int), .slice t.la y.lw.length t.lc, .slice t.ka y.kw.length t.kc] 29) = w1 := ⟨_, rfl⟩
  have he : w1.heap[w.heap.size]? = some (.cells #[.int .i64 x.ca, .int .i64 x.iv, .int .i64 x.rs, .int .i64 x.st, .int .i64 x.er, .int .u64 (x.vl : Int), .slice s.la x.lw.length s.lc, .slice s.ka x.kw.length s.kc] 29 (0, 0)) := by
    rw [← hw1]
    exact (Below.heap_alloc _ _ w.heap.size (by omega)).trans (heap_alloc_new _ _)
  have hk : w1.heap[w.heap.size + 1]? = some (.cells #[.int .i64 y.ca, .int .i64 y.iv, .int .i64 y.rs, .int .i64 y.st, .int .i64 y.er, .int .u64 (y.vl : Int), .slice t.la y.lw.length t.lc, .slice t.ka y.kw.length t.kc] 29 (0, 0)) := by
    rw [← hw1, ← s1]
    exact heap_alloc_new _ _
  rw [hw1] at hb0
  have hz : w1.heap.size = w.heap.size + 2 := by rw [← hw1]; simp
  have e0 := cell_of_heap he (k := 0) rfl
  have e1 := cell_of_heap he (k := 1) rfl
  have e2 := cell_of_heap he (k := 2) rfl
  have e3 := cell_of_heap he (k := 3) rfl
  have e4 := cell_of_heap he (k := 4) rfl
  have e5 := cell_of_heap he (k := 5) rfl
  have e6 := cell_of_heap he (k := 6) rfl
  have e7 := cell_of_heap he (k := 7) rfl
  have k6 := cell_of_heap hk (k := 6) rfl
  have k7 := cell_of_heap hk (k := 7) rfl
  have HS := Lib.hid (hs.below hb0)
  have HK := Lib.hid (ht.below hb0)
  have HE1 := Lib.hid he
  have HB0 := Lib.hid hb0
  have HY1 := Lib.hid hk
  have HZ := Lib.hid hz
  have HOX := Lib.hid hx
  have HOY := Lib.hid hy
  obtain ⟨P, hP⟩ : ∃ P, strB (evLine x) = P := ⟨_, rfl⟩
  obtain ⟨R, hR⟩ : ∃ R, strB (evLine y) = R := ⟨_, rfl⟩
  have C1 : Hid (x.lw.length ≤ 1000 → x.kw.length ≤ 1000 → Calls Try.prog 8 #[evV x s] w1 fun e w' => e = .returned (.string P) ∧ Below w1.heap.size w1 w') := Lib.hid (fun g1 g2 => by
    have h := event_any x s w1 hx (HS.out.at (Nat.le_refl _)) (by omega)
    unfold StrP at h
    rw [hP] at h
    exact h)
  have C2 : Hid (y.lw.length ≤ 1000 → y.kw.length ≤ 1000 → ∀ W, EvR W y t → Calls Try.prog 8 #[evV y t] W fun e w' => e = .returned (.string R) ∧ Below W.heap.size W w') := Lib.hid (fun g1 g2 W hW => by
    have h := event_any y t W hy (hW.at (Nat.le_refl _)) (by omega)
    unfold StrP at h
    rw [hR] at h
    exact h)
  have C3 : Hid (x.lw.length ≤ 1000 → x.kw.length ≤ 1000 → ∀ W, Calls Try.prog 12 #[.string P] W fun e w' => Below W.heap.size W w' ∧ ∃ r, e = .returned (.tuple #[evV x r, .int .i64 0, .bool true]) ∧ EvR w' x r) := Lib.hid (fun g1 g2 W => by
    have hlen := evLine_len x
    obtain ⟨q1, q2⟩ := written_good hx
    have h := read_any (evLine x) W ⟨evLine_b x, by omega⟩ (by omega)
    rw [hP] at h
    refine h.mono ?_
    rintro e w' ⟨hb, ⟨_, r, rfl, hr⟩ | ⟨hn, _⟩⟩
    · rw [q2] at hr ⊢
      exact ⟨hb, r, rfl, hr⟩
    · rw [q1] at hn; cases hn)
  have C4 : Hid (x.lw.length ≤ 1000 → x.kw.length ≤ 1000 → ∀ (r : EvS) W, EvR W x r → EvR W x s → Calls Try.prog 14 #[evV x r, evV x s] W fun e w' => e = .returned (.bool true) ∧ Below W.heap.size W w') := Lib.hid (fun g1 g2 r W h1 h2 => by
    have h := cmpE_any x x r s W h1 h2 ⟨by omega, by omega⟩
    rw [decide_eq_true rfl] at h
    exact h)
  have C5 : Hid (x.lw.length ≤ 1000 → x.kw.length ≤ 1000 → y.lw.length ≤ 1000 → y.kw.length ≤ 1000 → (P = R ∧ ∀ W, EvR W x s → EvR W y t → Calls Try.prog 14 #[evV x s, evV y t] W fun e w' => e = .returned (.bool true) ∧ Below W.heap.size W w') ∨ (¬ P = R ∧ ∀ W, EvR W x s → EvR W y t → Calls Try.prog 14 #[evV x s, evV y t] W fun e w' => e = .returned (.bool false) ∧ Below W.heap.size W w')) := Lib.hid (fun g1 g2 g3 g4 => by
    rw [← hP, ← hR]
    by_cases h : x = y
    · refine Or.inl ⟨by rw [h], fun W h1 h2 => ?_⟩
      have hc := cmpE_any x y s t W h1 h2 ⟨by omega, by omega⟩
      rw [decide_eq_true h] at hc
      exact hc
    · refine Or.inr ⟨strB_ne hx hy h, fun W h1 h2 => ?_⟩
      have hc := cmpE_any x y s t W h1 h2 ⟨by omega, by omega⟩
      rw [decide_eq_false h] at hc
      exact hc)
  clear he hk hz hb0 hs ht hx hy s1 HOX HOY hP hR
  obtain ⟨xca, xiv, xrs, xst, xer, xvl, xlw, xkw⟩ := x
  obtain ⟨yca, yiv, yrs, yst, yer, yvl, ylw, ykw⟩ := y
  obtain ⟨xla, xlb, xlo, xlc, xka, xkb, xko, xkc⟩ := s
  obtain ⟨yla, ylb, ylo, ylc, yka, ykb, yko, ykc⟩ := t
  dsimp only [evV] at hw1 C1 C2 C3 C4 C5 HE1 HY1 e0 e1 e2 e3 e4 e5 e6 e7 k6 k7 ⊢
  go_enter Try.func5, Try.ntmps5
  by_cases g1 : xlw.length ≤ 1000
  · have d1 : ¬ (1000 : Int) < (xlw.length : Int) := by omega
    have d1' : ¬ 1000 < xlw.length := by omega
    by_cases g2 : xkw.length ≤ 1000
    · have d2 : ¬ (1000 : Int) < (xkw.length : Int) := by omega
      have d2' : ¬ 1000 < xkw.length := by omega
      by_cases g3 : ylw.length ≤ 1000
      · have d3 : ¬ (1000 : Int) < (ylw.length : Int) := by omega
        have d3' : ¬ 1000 < ylw.length := by omega
        by_cases g4 : ykw.length ≤ 1000
        · have d4 : ¬ (1000 : Int) < (ykw.length : Int) := by omega
          have d4' : ¬ 1000 < ykw.length := by omega
          have D1 := Lib.hid (C1.out g1 g2)
          have D2 := Lib.hid (C2.out g3 g4)
          have D3 := Lib.hid (C3.out g1 g2)
          have D4 := Lib.hid (C4.out g1 g2)
          have D5 := Lib.hid (C5.out g1 g2 g3 g4)
          clear C1 C2 C3 C4 C5 g1 g2 g3 g4
          go_wp2_with fail
          try rw [hw1]
          clear hw1
          refine D1.out.mono ?_
          rintro e wa ⟨rfl, hba⟩
          have HBA := Lib.hid hba
          clear hba
          go_wp2_with fail
          refine (D3.out wa).mono ?_
          rintro e w2 ⟨hb2, r, rfl, hr⟩
          obtain ⟨rla, rlb, rlo, rlc, rka, rkb, rko, rkc⟩ := r
          try dsimp only at hr
          obtain ⟨w3, hw3⟩ : ∃ w3, w2.alloc (.cells #[.int .i64 xca, .int .i64 xiv, .int .i64 xrs, .int .i64 xst, .int .i64 xer, .int .u64 (xvl : Int), .slice rla xlw.length rlc, .slice rka xkw.length rkc] 29) = w3 := ⟨_, rfl⟩
          have hb3 : Below w2.heap.size w2 w3 := by rw [← hw3]; exact (Below.refl _ _).alloc (Nat.le_refl _) _
          have hq := HBA.out.size
          have hbb : Below w1.heap.size w1 w3 := (HBA.out.trans (hb2.mono hq)).trans (hb3.mono (Nat.le_trans hq hb2.size))
          have HE3 := Lib.hid ((hbb.block _ (lt_of_heap HE1.out)).trans HE1.out)
          have HY3 := Lib.hid ((hbb.block _ (lt_of_heap HY1.out)).trans HY1.out)
          have HR3 : Hid (w3.heap[w2.heap.size]? = some (.cells #[.int .i64 xca, .int .i64 xiv, .int .i64 xrs, .int .i64 xst, .int .i64 xer, .int .u64 (xvl : Int), .slice rla xlw.length rlc, .slice rka xkw.length rkc] 29 (0, 0))) := Lib.hid (by rw [← hw3]; exact heap_alloc_new _ _)
          have HXs := Lib.hid (HS.out.below hbb)
          have HYs := Lib.hid (HK.out.below hbb)
          have HRs := Lib.hid (hr.below hb3)
          rcases D5.out with ⟨hPR, hc⟩ | ⟨hPR, hc⟩
          · subst hPR
            clear D5
            have c1 : ∀ p : BW w3.heap.size w3, Calls Try.prog 8 #[.agg #[.int .i64 yca, .int .i64 yiv, .int .i64 yrs, .int .i64 yst, .int .i64 yer, .int .u64 (yvl : Int), .slice yla ylw.length ylc, .slice yka ykw.length ykc]] p.v fun e w' => e = .returned (.string P) ∧ Below p.v.heap.size p.v w' := fun p => D2.out _ (HYs.out.below p.h)
            have c2 : ∀ p : BW w3.heap.size w3, Calls Try.prog 14 #[.agg #[.int .i64 xca, .int .i64 xiv, .int .i64 xrs, .int .i64 xst, .int .i64 xer, .int .u64 (xvl : Int), .slice rla xlw.length rlc, .slice rka xkw.length rkc], .agg #[.int .i64 xca, .int .i64 xiv, .int .i64 xrs, .int .i64 xst, .int .i64 xer, .int .u64 (xvl : Int), .slice xla xlw.length xlc, .slice xka xkw.length xkc]] p.v fun e w' => e = .returned (.bool true) ∧ Below p.v.heap.size p.v w' := fun p => D4.out ⟨rla, rlb, rlo, rlc, rka, rkb, rko, rkc⟩ _ (HRs.out.below p.h) (HXs.out.below p.h)
            have c3 : ∀ p : BW w3.heap.size w3, Calls Try.prog 14 #[.agg #[.int .i64 xca, .int .i64 xiv, .int .i64 xrs, .int .i64 xst, .int .i64 xer, .int .u64 (xvl : Int), .slice xla xlw.length xlc, .slice xka xkw.length xkc], .agg #[.int .i64 yca, .int .i64 yiv, .int .i64 yrs, .int .i64 yst, .int .i64 yer, .int .u64 (yvl : Int), .slice yla ylw.length ylc, .slice yka ykw.length ykc]] p.v fun e w' => e = .returned (.bool true) ∧ Below p.v.heap.size p.v w' := fun p => hc _ (HXs.out.below p.h) (HYs.out.below p.h)
            have HBB := Lib.hid (HB0.out.trans (hbb.mono HB0.out.size))
            have G1 := Lib.hid c1
            have G2 := Lib.hid c2
            have G3 := Lib.hid c3
            clear hb2 hb3 hbb hr hc c1 c2 c3 hq e0 e1 e2 e3 e4 e5 e6 e7 k6 k7
            go_upto_region 5 with fail
            try rw [hw3]
            clear hw3
            have l0 : ∀ p : BW w3.heap.size w3, p.v.cell? ⟨w.heap.size, 0, none⟩ = some (.int .i64 xca) := fun p => p.cell (lt_of_heap HE3.out) (cell_of_heap HE3.out rfl)
            have l1 : ∀ p : BW w3.heap.size w3, p.v.cell? ⟨w.heap.size, 1, none⟩ = some (.int .i64 xiv) := fun p => p.cell (lt_of_heap HE3.out) (cell_of_heap HE3.out rfl)
            have l2 : ∀ p : BW w3.heap.size w3, p.v.cell? ⟨w.heap.size, 2, none⟩ = some (.int .i64 xrs) := fun p => p.cell (lt_of_heap HE3.out) (cell_of_heap HE3.out rfl)
            have l3 : ∀ p : BW w3.heap.size w3, p.v.cell? ⟨w.heap.size, 3, none⟩ = some (.int .i64 xst) := fun p => p.cell (lt_of_heap HE3.out) (cell_of_heap HE3.out rfl)
            have l4 : ∀ p : BW w3.heap.size w3, p.v.cell? ⟨w.heap.size, 4, none⟩ = some (.int .i64 xer) := fun p => p.cell (lt_of_heap HE3.out) (cell_of_heap HE3.out rfl)
            have l5 : ∀ p : BW w3.heap.size w3, p.v.cell? ⟨w.heap.size, 5, none⟩ = some (.int .u64 (xvl : Int)) := fun p => p.cell (lt_of_heap HE3.out) (cell_of_heap HE3.out rfl)
            have l6 : ∀ p : BW w3.heap.size w3, p.v.cell? ⟨w.heap.size, 6, none⟩ = some (.slice xla xlw.length xlc) := fun p => p.cell (lt_of_heap HE3.out) (cell_of_heap HE3.out rfl)
            have l7 : ∀ p : BW w3.heap.size w3, p.v.cell? ⟨w.heap.size, 7, none⟩ = some (.slice xka xkw.length xkc) := fun p => p.cell (lt_of_heap HE3.out) (cell_of_heap HE3.out rfl)
            have m0 : ∀ p : BW w3.heap.size w3, p.v.cell? ⟨w.heap.size + 1, 0, none⟩ = some (.int .i64 yca) := fun p => p.cell (lt_of_heap HY3.out) (cell_of_heap HY3.out rfl)
            have m1 : ∀ p : BW w3.heap.size w3, p.v.cell? ⟨w.heap.size + 1, 1, none⟩ = some (.int .i64 yiv) := fun p => p.cell (lt_of_heap HY3.out) (cell_of_heap HY3.out rfl)
            have m2 : ∀ p : BW w3.heap.size w3, p.v.cell? ⟨w.heap.size + 1, 2, none⟩ = some (.int .i64 yrs) := fun p => p.cell (lt_of_heap HY3.out) (cell_of_heap HY3.out rfl)
            have m3 : ∀ p : BW w3.heap.size w3, p.v.cell? ⟨w.heap.size + 1, 3, none⟩ = some (.int .i64 yst) := fun p => p.cell (lt_of_heap HY3.out) (cell_of_heap HY3.out rfl)
            have m4 : ∀ p : BW w3.heap.size w3, p.v.cell? ⟨w.heap.size + 1, 4, none⟩ = some (.int .i64 yer) := fun p => p.cell (lt_of_heap HY3.out) (cell_of_heap HY3.out rfl)
            have m5 : ∀ p : BW w3.heap.size w3, p.v.cell? ⟨w.heap.size + 1, 5, none⟩ = some (.int .u64 (yvl : Int)) := fun p => p.cell (lt_of_heap HY3.out) (cell_of_heap HY3.out rfl)
            have m6 : ∀ p : BW w3.heap.size w3, p.v.cell? ⟨w.heap.size + 1, 6, none⟩ = some (.slice yla ylw.length ylc) := fun p => p.cell (lt_of_heap HY3.out) (cell_of_heap HY3.out rfl)
            have m7 : ∀ p : BW w3.heap.size w3, p.v.cell? ⟨w.heap.size + 1, 7, none⟩ = some (.slice yka ykw.length ykc) := fun p => p.cell (lt_of_heap HY3.out) (cell_of_heap HY3.out rfl)
            have n0 : ∀ p : BW w3.heap.size w3, p.v.cell? ⟨w2.heap.size, 0, none⟩ = some (.int .i64 xca) := fun p => p.cell (lt_of_heap HR3.out) (cell_of_heap HR3.out rfl)
            have n1 : ∀ p : BW w3.heap.size w3, p.v.cell? ⟨w2.heap.size, 1, none⟩ = some (.int .i64 xiv) := fun p => p.cell (lt_of_heap HR3.out) (cell_of_heap HR3.out rfl)
            have n2 : ∀ p : BW w3.heap.size w3, p.v.cell? ⟨w2.heap.size, 2, none⟩ = some (.int .i64 xrs) := fun p => p.cell (lt_of_heap HR3.out) (cell_of_heap HR3.out rfl)
            have n3 : ∀ p : BW w3.heap.size w3, p.v.cell? ⟨w2.heap.size, 3, none⟩ = some (.int .i64 xst) := fun p => p.cell (lt_of_heap HR3.out) (cell_of_heap HR3.out rfl)
            have n4 : ∀ p : BW w3.heap.size w3, p.v.cell? ⟨w2.heap.size, 4, none⟩ = some (.int .i64 xer) := fun p => p.cell (lt_of_heap HR3.out) (cell_of_heap HR3.out rfl)
            have n5 : ∀ p : BW w3.heap.size w3, p.v.cell? ⟨w2.heap.size, 5, none⟩ = some (.int .u64 (xvl : Int)) := fun p => p.cell (lt_of_heap HR3.out) (cell_of_heap HR3.out rfl)
            have n6 : ∀ p : BW w3.heap.size w3, p.v.cell? ⟨w2.heap.size, 6, none⟩ = some (.slice rla xlw.length rlc) := fun p => p.cell (lt_of_heap HR3.out) (cell_of_heap HR3.out rfl)
            have n7 : ∀ p : BW w3.heap.size w3, p.v.cell? ⟨w2.heap.size, 7, none⟩ = some (.slice rka xkw.length rkc) := fun p => p.cell (lt_of_heap HR3.out) (cell_of_heap HR3.out rfl)
            refine wp_region_low (B := w3.heap.size) (w := w3) (by kernel_rfl) (by kernel_rfl) ?_
            repeat (go_big_quiet_step (first
              | (go_at_call 8; with_reducible exact low_call (G1.out _) (Nat.le_refl _))
              | (go_at_call 14; with_reducible exact low_call (G2.out _) (Nat.le_refl _))
              | (go_at_call 14; with_reducible exact low_call (G3.out _) (Nat.le_refl _))
              | (go_at_call 7; with_reducible exact low_call (HT.out _) (Nat.le_refl _))))
            refine wpQuiet_nil ?_
            intro w9 hw'
            obtain ⟨pq, eq1⟩ := hw'
            have hb9 := pq.h
            rw [← eq1] at hb9
            clear eq1 pq
            have HB9 := Lib.hid (HBB.out.trans (hb9.mono HBB.out.size))
            clear hb9
            go_wp2_with fail
            go_ret
            exact ⟨rfl, HB9.out⟩
          · have hPL := toList_ne hPR
            clear D5
            have c1 : ∀ p : BW w3.heap.size w3, Calls Try.prog 8 #[.agg #[.int .i64 yca, .int .i64 yiv, .int .i64 yrs, .int .i64 yst, .int .i64 yer, .int .u64 (yvl : Int), .slice yla ylw.length ylc, .slice yka ykw.length ykc]] p.v fun e w' => e = .returned (.string R) ∧ Below p.v.heap.size p.v w' := fun p => D2.out _ (HYs.out.below p.h)
            have c2 : ∀ p : BW w3.heap.size w3, Calls Try.prog 14 #[.agg #[.int .i64 xca, .int .i64 xiv, .int .i64 xrs, .int .i64 xst, .int .i64 xer, .int .u64 (xvl : Int), .slice rla xlw.length rlc, .slice rka xkw.length rkc], .agg #[.int .i64 xca, .int .i64 xiv, .int .i64 xrs, .int .i64 xst, .int .i64 xer, .int .u64 (xvl : Int), .slice xla xlw.length xlc, .slice xka xkw.length xkc]] p.v fun e w' => e = .returned (.bool true) ∧ Below p.v.heap.size p.v w' := fun p => D4.out ⟨rla, rlb, rlo, rlc, rka, rkb, rko, rkc⟩ _ (HRs.out.below p.h) (HXs.out.below p.h)
            have c3 : ∀ p : BW w3.heap.size w3, Calls Try.prog 14 #[.agg #[.int .i64 xca, .int .i64 xiv, .int .i64 xrs, .int .i64 xst, .int .i64 xer, .int .u64 (xvl : Int), .slice xla xlw.length xlc, .slice xka xkw.length xkc], .agg #[.int .i64 yca, .int .i64 yiv, .int .i64 yrs, .int .i64 yst, .int .i64 yer, .int .u64 (yvl : Int), .slice yla ylw.length ylc, .slice yka ykw.length ykc]] p.v fun e w' => e = .returned (.bool false) ∧ Below p.v.heap.size p.v w' := fun p => hc _ (HXs.out.below p.h) (HYs.out.below p.h)
            have HBB := Lib.hid (HB0.out.trans (hbb.mono HB0.out.size))
            have G1 := Lib.hid c1
            have G2 := Lib.hid c2
            have G3 := Lib.hid c3
            clear hb2 hb3 hbb hr hc c1 c2 c3 hq e0 e1 e2 e3 e4 e5 e6 e7 k6 k7
            go_upto_region 5 with fail
            try rw [hw3]
            clear hw3
            have l0 : ∀ p : BW w3.heap.size w3, p.v.cell? ⟨w.heap.size, 0, none⟩ = some (.int .i64 xca) := fun p => p.cell (lt_of_heap HE3.out) (cell_of_heap HE3.out rfl)
            have l1 : ∀ p : BW w3.heap.size w3, p.v.cell? ⟨w.heap.size, 1, none⟩ = some (.int .i64 xiv) := fun p => p.cell (lt_of_heap HE3.out) (cell_of_heap HE3.out rfl)
            have l2 : ∀ p : BW w3.heap.size w3, p.v.cell? ⟨w.heap.size, 2, none⟩ = some (.int .i64 xrs) := fun p => p.cell (lt_of_heap HE3.out) (cell_of_heap HE3.out rfl)
            have l3 : ∀ p : BW w3.heap.size w3, p.v.cell? ⟨w.heap.size, 3, none⟩ = some (.int .i64 xst) := fun p => p.cell (lt_of_heap HE3.out) (cell_of_heap HE3.out rfl)
            have l4 : ∀ p : BW w3.heap.size w3, p.v.cell? ⟨w.heap.size, 4, none⟩ = some (.int .i64 xer) := fun p => p.cell (lt_of_heap HE3.out) (cell_of_heap HE3.out rfl)
            have l5 : ∀ p : BW w3.heap.size w3, p.v.cell? ⟨w.heap.size, 5, none⟩ = some (.int .u64 (xvl : Int)) := fun p => p.cell (lt_of_heap HE3.out) (cell_of_heap HE3.out rfl)
            have l6 : ∀ p : BW w3.heap.size w3, p.v.cell? ⟨w.heap.size, 6, none⟩ = some (.slice xla xlw.length xlc) := fun p => p.cell (lt_of_heap HE3.out) (cell_of_heap HE3.out rfl)
            have l7 : ∀ p : BW w3.heap.size w3, p.v.cell? ⟨w.heap.size, 7, none⟩ = some (.slice xka xkw.length xkc) := fun p => p.cell (lt_of_heap HE3.out) (cell_of_heap HE3.out rfl)
            have m0 : ∀ p : BW w3.heap.size w3, p.v.cell? ⟨w.heap.size + 1, 0, none⟩ = some (.int .i64 yca) := fun p => p.cell (lt_of_heap HY3.out) (cell_of_heap HY3.out rfl)
            have m1 : ∀ p : BW w3.heap.size w3, p.v.cell? ⟨w.heap.size + 1, 1, none⟩ = some (.int .i64 yiv) := fun p => p.cell (lt_of_heap HY3.out) (cell_of_heap HY3.out rfl)
            have m2 : ∀ p : BW w3.heap.size w3, p.v.cell? ⟨w.heap.size + 1, 2, none⟩ = some (.int .i64 yrs) := fun p => p.cell (lt_of_heap HY3.out) (cell_of_heap HY3.out rfl)
            have m3 : ∀ p : BW w3.heap.size w3, p.v.cell? ⟨w.heap.size + 1, 3, none⟩ = some (.int .i64 yst) := fun p => p.cell (lt_of_heap HY3.out) (cell_of_heap HY3.out rfl)
            have m4 : ∀ p : BW w3.heap.size w3, p.v.cell? ⟨w.heap.size + 1, 4, none⟩ = some (.int .i64 yer) := fun p => p.cell (lt_of_heap HY3.out) (cell_of_heap HY3.out rfl)
            have m5 : ∀ p : BW w3.heap.size w3, p.v.cell? ⟨w.heap.size + 1, 5, none⟩ = some (.int .u64 (yvl : Int)) := fun p => p.cell (lt_of_heap HY3.out) (cell_of_heap HY3.out rfl)
            have m6 : ∀ p : BW w3.heap.size w3, p.v.cell? ⟨w.heap.size + 1, 6, none⟩ = some (.slice yla ylw.length ylc) := fun p => p.cell (lt_of_heap HY3.out) (cell_of_heap HY3.out rfl)
            have m7 : ∀ p : BW w3.heap.size w3, p.v.cell? ⟨w.heap.size + 1, 7, none⟩ = some (.slice yka ykw.length ykc) := fun p => p.cell (lt_of_heap HY3.out) (cell_of_heap HY3.out rfl)
            have n0 : ∀ p : BW w3.heap.size w3, p.v.cell? ⟨w2.heap.size, 0, none⟩ = some (.int .i64 xca) := fun p => p.cell (lt_of_heap HR3.out) (cell_of_heap HR3.out rfl)
            have n1 : ∀ p : BW w3.heap.size w3, p.v.cell? ⟨w2.heap.size, 1, none⟩ = some (.int .i64 xiv) := fun p => p.cell (lt_of_heap HR3.out) (cell_of_heap HR3.out rfl)
            have n2 : ∀ p : BW w3.heap.size w3, p.v.cell? ⟨w2.heap.size, 2, none⟩ = some (.int .i64 xrs) := fun p => p.cell (lt_of_heap HR3.out) (cell_of_heap HR3.out rfl)
            have n3 : ∀ p : BW w3.heap.size w3, p.v.cell? ⟨w2.heap.size, 3, none⟩ = some (.int .i64 xst) := fun p => p.cell (lt_of_heap HR3.out) (cell_of_heap HR3.out rfl)
            have n4 : ∀ p : BW w3.heap.size w3, p.v.cell? ⟨w2.heap.size, 4, none⟩ = some (.int .i64 xer) := fun p => p.cell (lt_of_heap HR3.out) (cell_of_heap HR3.out rfl)
            have n5 : ∀ p : BW w3.heap.size w3, p.v.cell? ⟨w2.heap.size, 5, none⟩ = some (.int .u64 (xvl : Int)) := fun p => p.cell (lt_of_heap HR3.out) (cell_of_heap HR3.out rfl)
            have n6 : ∀ p : BW w3.heap.size w3, p.v.cell? ⟨w2.heap.size, 6, none⟩ = some (.slice rla xlw.length rlc) := fun p => p.cell (lt_of_heap HR3.out) (cell_of_heap HR3.out rfl)
            have n7 : ∀ p : BW w3.heap.size w3, p.v.cell? ⟨w2.heap.size, 7, none⟩ = some (.slice rka xkw.length rkc) := fun p => p.cell (lt_of_heap HR3.out) (cell_of_heap HR3.out rfl)
            refine wp_region_low (B := w3.heap.size) (w := w3) (by kernel_rfl) (by kernel_rfl) ?_
            repeat (go_big_quiet_step (first
              | (go_at_call 8; with_reducible exact low_call (G1.out _) (Nat.le_refl _))
              | (go_at_call 14; with_reducible exact low_call (G2.out _) (Nat.le_refl _))
              | (go_at_call 14; with_reducible exact low_call (G3.out _) (Nat.le_refl _))
              | (go_at_call 7; with_reducible exact low_call (HT.out _) (Nat.le_refl _))))
            refine wpQuiet_nil ?_
            intro w9 hw'
            obtain ⟨pq, eq1⟩ := hw'
            have hb9 := pq.h
            rw [← eq1] at hb9
            clear eq1 pq
            have HB9 := Lib.hid (HBB.out.trans (hb9.mono HBB.out.size))
            clear hb9
            go_wp2_with fail
            go_ret
            exact ⟨rfl, HB9.out⟩
        · have d4 : (1000 : Int) < (ykw.length : Int) := by omega
          have d4' : 1000 < ykw.length := by omega
          clear C1 C2 C3 C4 C5
          go_upto_region 2 with fail
          try rw [hw1]
          clear hw1
          go_wp2_with fail
          refine (HT.out _).mono ?_
          rintro e w9 ⟨rfl, hb9⟩
          have HB9 := Lib.hid (HB0.out.trans (hb9.mono HB0.out.size))
          clear hb9
          go_wp2_with fail
          go_ret
          exact ⟨rfl, HB9.out⟩
      · have d3 : (1000 : Int) < (ylw.length : Int) := by omega
        have d3' : 1000 < ylw.length := by omega
        clear C1 C2 C3 C4 C5
        go_upto_region 2 with fail
        try rw [hw1]
        clear hw1
        go_wp2_with fail
        refine (HT.out _).mono ?_
        rintro e w9 ⟨rfl, hb9⟩
        have HB9 := Lib.hid (HB0.out.trans (hb9.mono HB0.out.size))
        clear hb9
        go_wp2_with fail
        go_ret
        exact ⟨rfl, HB9.out⟩
    · have d2 : (1000 : Int) < (xkw.length : Int) := by omega
      have d2' : 1000 < xkw.length := by omega
      clear C1 C2 C3 C4 C5
      go_upto_region 2 with fail
      try rw [hw1]
      clear hw1
      go_wp2_with fail
      refine (HT.out _).mono ?_
      rintro e w9 ⟨rfl, hb9⟩
      have HB9 := Lib.hid (HB0.out.trans (hb9.mono HB0.out.size))
      clear hb9
      go_wp2_with fail
      go_ret
      exact ⟨rfl, HB9.out⟩
  · have d1 : (1000 : Int) < (xlw.length : Int) := by omega
    have d1' : 1000 < xlw.length := by omega
    clear C1 C2 C3 C4 C5
    go_upto_region 2 with fail
    try rw [hw1]
    clear hw1
    go_wp2_with fail
    refine (HT.out _).mono ?_
    rintro e w9 ⟨rfl, hb9⟩
    have HB9 := Lib.hid (HB0.out.trans (hb9.mono HB0.out.size))
    clear hb9
    go_wp2_with fail
    go_ret
    exact ⟨rfl, HB9.out⟩
end Go.Proofs.Ytgmgpbplgiicoaa
