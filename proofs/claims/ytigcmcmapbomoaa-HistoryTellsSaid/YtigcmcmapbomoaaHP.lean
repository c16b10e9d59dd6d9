/- history: HistoryTells, walked. -/
import Derived.Test.YtigcmcmapbomoaaHN
namespace Go.Proofs.Ytigcmcmapbomoaa
open Go.RowKit
set_option linter.unusedVariables false
set_option linter.unusedSimpArgs false

set_option maxRecDepth 100000 in
set_option maxHeartbeats 8000000 in
theorem history_tells (q0 q1 q2 : Int) (aT : Option Addr) (bT oT cT : Nat) (ts : List Int) (ao : Option Addr) (b o c : Nat) (l : List EvL) (w : World)
    (htl : ts.length ≤ maxLen) (hta : 0 < ts.length → aT = some ⟨bT, oT, none⟩) (htb : 0 < ts.length → bT < w.heap.size) (htc : ThsAt w bT oT ts)
    (hml : l.length ≤ maxLen) (ha : 0 < l.length → ao = some ⟨b, o, none⟩) (hb : 0 < l.length → b < w.heap.size) (hc : EvsAt w b o l) :
    Calls Try.prog 4 #[.agg #[.int .i64 q0, .int .i64 q1, .int .i64 q2], .slice aT ts.length cT, .slice ao l.length c] w fun e w' => e = .returned (.bool true) ∧ Below w.heap.size w w' := by
  have hmx : l.length ≤ 9223372036854775807 := Nat.le_trans hml (by unfold maxLen; omega)
  have htx : ts.length ≤ 9223372036854775807 := Nat.le_trans htl (by unfold maxLen; omega)
  have RT : Hid (∀ W', Calls Try.prog 5 #[] W' fun e w' => e = .returned (.bool true) ∧ Below W'.heap.size W' w') := Lib.hid two_ok
  by_cases hl : l.length ≤ 100
  · have d1 : decide ((100 : Int) < (l.length : Int)) = false := decide_eq_false (by omega)
    have d1n : decide (100 < l.length) = false := decide_eq_false (by omega)
    obtain ⟨w0, hw0⟩ : ∃ w0, w0 = w.alloc (.cells #[.int .i64 q0, .int .i64 q1, .int .i64 q2] 28) := ⟨_, rfl⟩
    have hb0 : Below w.heap.size w w0 := by rw [hw0]; exact (Below.refl _ _).alloc (Nat.le_refl _) _
    have hs0 : w0.heap.size = w.heap.size + 1 := by rw [hw0, World.size_alloc]
    have c0 : w0.cell? ⟨w.heap.size, 0, none⟩ = some (.int .i64 q0) := by rw [hw0]; exact World.cell?_alloc_at _ _ _ _ rfl
    have c1 : w0.cell? ⟨w.heap.size, 1, none⟩ = some (.int .i64 q1) := by rw [hw0]; exact World.cell?_alloc_at _ _ _ _ rfl
    have c2 : w0.cell? ⟨w.heap.size, 2, none⟩ = some (.int .i64 q2) := by rw [hw0]; exact World.cell?_alloc_at _ _ _ _ rfl
    have HW := Lib.hid hw0
    have HB0 := Lib.hid hb0
    have HS0 := Lib.hid hs0
    have HTA := Lib.hid hta
    have HA := Lib.hid ha
    have HTB : Hid (0 < ts.length → bT < w0.heap.size) := Lib.hid (fun h => by have := htb h; omega)
    have HB : Hid (0 < l.length → b < w0.heap.size) := Lib.hid (fun h => by have := hb h; omega)
    have HTC : Hid (ThsAt w0 bT oT ts) := Lib.hid (htc.stays hb0 htb)
    have HC : Hid (EvsAt w0 b o l) := Lib.hid (hc.stays hb0 hb)
    have C0 := Lib.hid c0
    have C1 := Lib.hid c1
    have C2 := Lib.hid c2
    have hbx : w.heap.size < w0.heap.size := by omega
    have HBX := Lib.hid hbx
    clear hw0 hb0 hs0 hta ha htb hb htc hc hbx
    have RA : Hid (∀ W', Below w0.heap.size w0 W' → Calls Try.prog 10 #[.slice ao l.length c, .int .i64 q0, .int .i64 q1] W' fun e w' => e = .returned (.bool (aheadAt l q0 q1)) ∧ Below W'.heap.size W' w') :=
      Lib.hid (fun W' h => ahead_ok ao b o c l q0 q1 W' hl HA.out (fun h0 => Nat.lt_of_lt_of_le (HB.out h0) h.size) (HC.out.stays h HB.out))
    go_enter Try.func4, Try.ntmps4
    go_upto_region 3 with fail
    rw [← HW.out]
    go_cut [7] from 14 (fun v7 wx => v7 = .bool (inR l q0 q1) ∧ wx = w0)
    case first =>
      have x0 := C0.out
      have x1 := C1.out
      by_cases h1 : 0 ≤ q0
      case neg =>
        have dd : decide (0 ≤ q0) = false := decide_eq_false h1
        have hR : Hid (inR l q0 q1 = false) := Lib.hid (by unfold inR; exact decide_eq_false (fun h => h1 (by omega)))
        clear h1
        go_wp2
        go_meet
        exact ⟨by rw [hR.out], rfl⟩
      have dh1 : decide (0 ≤ q0) = true := decide_eq_true h1
      by_cases h2 : 0 ≤ q1
      case neg =>
        have dd : decide (0 ≤ q1) = false := decide_eq_false h2
        have hR : Hid (inR l q0 q1 = false) := Lib.hid (by unfold inR; exact decide_eq_false (fun h => h2 (by omega)))
        clear h1 h2
        go_wp2
        go_meet
        exact ⟨by rw [hR.out], rfl⟩
      have dh2 : decide (0 ≤ q1) = true := decide_eq_true h2
      by_cases h3 : q0 < l.length
      case neg =>
        have dd : decide (q0 < l.length) = false := decide_eq_false h3
        have hR : Hid (inR l q0 q1 = false) := Lib.hid (by unfold inR; exact decide_eq_false (fun h => h3 (by omega)))
        clear h1 h2 h3
        go_wp2
        go_meet
        exact ⟨by rw [hR.out], rfl⟩
      have dh3 : decide (q0 < l.length) = true := decide_eq_true h3
      by_cases h4 : q1 < l.length
      case neg =>
        have dd : decide (q1 < l.length) = false := decide_eq_false h4
        have hR : Hid (inR l q0 q1 = false) := Lib.hid (by unfold inR; exact decide_eq_false (fun h => h4 (by omega)))
        clear h1 h2 h3 h4
        go_wp2
        go_meet
        exact ⟨by rw [hR.out], rfl⟩
      have dh4 : decide (q1 < l.length) = true := decide_eq_true h4
      have hR : Hid (inR l q0 q1 = true) := Lib.hid (by unfold inR; exact decide_eq_true ⟨h1, h3, h2, h4⟩)
      clear h1 h2 h3 h4
      go_wp2
      go_meet
      exact ⟨by rw [hR.out], rfl⟩
    case rest =>
      obtain ⟨rfl, hwc⟩ := hcut
      rw [hwc]
      clear hwc
      go_upto_if 40 with fail
      go_cut [7] from 14 (fun v7 wx => v7 = .bool (aheadAt l q0 q1) ∧ Hid (Below w0.heap.size w0 wx))
      case first =>
        cases hin : inR l q0 q1 with
        | false =>
          have ha := ahd_out hin
          have HAH := Lib.hid ha
          clear ha hin
          go_wp2
          go_meet
          exact ⟨by rw [HAH.out], Lib.hid (Below.refl _ _)⟩
        | true =>
          have hr : 0 ≤ q0 ∧ q0 < l.length ∧ 0 ≤ q1 ∧ q1 < l.length := by simpa [inR] using hin
          obtain ⟨r1, r2, r3, r4⟩ := hr
          obtain rfl := HA.out (by omega)
          have hbb := HB.out (by omega)
          obtain ⟨i, rfl⟩ : ∃ i : Nat, q0 = i := ⟨q0.toNat, by omega⟩
          obtain ⟨k, rfl⟩ : ∃ k : Nat, q1 = k := ⟨q1.toNat, by omega⟩
          obtain ⟨x, hx⟩ : ∃ x, l[i]? = some x := ⟨_, List.getElem?_eq_getElem (by omega)⟩
          obtain ⟨y, hy⟩ : ∃ y, l[k]? = some y := ⟨_, List.getElem?_eq_getElem (by omega)⟩
          have hah := aheadAt_in hx hy
          obtain ⟨e0, e1, e2, e3, e4, e5, e6, e7⟩ := HC.out.cells hx
          obtain ⟨f0, f1, f2, f3, f4, f5, f6, f7⟩ := HC.out.cells hy
          have RR : Hid (∀ w, Calls Try.prog 8 #[x.v, y.v] w fun e w' => e = .returned (.bool (ahd x y)) ∧ Below w.heap.size w w') := Lib.hid (rahead_ok x y)
          have p0 : ∀ p : BW w0.heap.size w0, p.v.cell? ⟨w.heap.size, 0, none⟩ = some (.int .i64 (i : Int)) := fun p => p.cell HBX.out C0.out
          have p1 : ∀ p : BW w0.heap.size w0, p.v.cell? ⟨w.heap.size, 1, none⟩ = some (.int .i64 (k : Int)) := fun p => p.cell HBX.out C1.out
          have Pe0 : ∀ p : BW w0.heap.size w0, p.v.cell? ⟨b, o + i * 8, none⟩ = some (.int .i64 x.ca) := fun p => p.cell hbb e0
          have Pe1 : ∀ p : BW w0.heap.size w0, p.v.cell? ⟨b, o + i * 8 + 1, none⟩ = some (.int .i64 x.iv) := fun p => p.cell hbb e1
          have Pe2 : ∀ p : BW w0.heap.size w0, p.v.cell? ⟨b, o + i * 8 + 2, none⟩ = some (.int .i64 x.rs) := fun p => p.cell hbb e2
          have Pe3 : ∀ p : BW w0.heap.size w0, p.v.cell? ⟨b, o + i * 8 + 3, none⟩ = some (.int .i64 x.st) := fun p => p.cell hbb e3
          have Pe4 : ∀ p : BW w0.heap.size w0, p.v.cell? ⟨b, o + i * 8 + 4, none⟩ = some (.int .i64 x.er) := fun p => p.cell hbb e4
          have Pe5 : ∀ p : BW w0.heap.size w0, p.v.cell? ⟨b, o + i * 8 + 5, none⟩ = some (.int .u64 (x.vl : Int)) := fun p => p.cell hbb e5
          have Pe6 : ∀ p : BW w0.heap.size w0, p.v.cell? ⟨b, o + i * 8 + 6, none⟩ = some (.slice x.la x.nl x.cl) := fun p => p.cell hbb e6
          have Pe7 : ∀ p : BW w0.heap.size w0, p.v.cell? ⟨b, o + i * 8 + 7, none⟩ = some (.slice x.ka x.nk x.ck) := fun p => p.cell hbb e7
          have Pf0 : ∀ p : BW w0.heap.size w0, p.v.cell? ⟨b, o + k * 8, none⟩ = some (.int .i64 y.ca) := fun p => p.cell hbb f0
          have Pf1 : ∀ p : BW w0.heap.size w0, p.v.cell? ⟨b, o + k * 8 + 1, none⟩ = some (.int .i64 y.iv) := fun p => p.cell hbb f1
          have Pf2 : ∀ p : BW w0.heap.size w0, p.v.cell? ⟨b, o + k * 8 + 2, none⟩ = some (.int .i64 y.rs) := fun p => p.cell hbb f2
          have Pf3 : ∀ p : BW w0.heap.size w0, p.v.cell? ⟨b, o + k * 8 + 3, none⟩ = some (.int .i64 y.st) := fun p => p.cell hbb f3
          have Pf4 : ∀ p : BW w0.heap.size w0, p.v.cell? ⟨b, o + k * 8 + 4, none⟩ = some (.int .i64 y.er) := fun p => p.cell hbb f4
          have Pf5 : ∀ p : BW w0.heap.size w0, p.v.cell? ⟨b, o + k * 8 + 5, none⟩ = some (.int .u64 (y.vl : Int)) := fun p => p.cell hbb f5
          have Pf6 : ∀ p : BW w0.heap.size w0, p.v.cell? ⟨b, o + k * 8 + 6, none⟩ = some (.slice y.la y.nl y.cl) := fun p => p.cell hbb f6
          have Pf7 : ∀ p : BW w0.heap.size w0, p.v.cell? ⟨b, o + k * 8 + 7, none⟩ = some (.slice y.ka y.nk y.ck) := fun p => p.cell hbb f7
          have hi : i < l.length := by omega
          have hk : k < l.length := by omega
          have HAH := Lib.hid hah
          clear e0 e1 e2 e3 e4 e5 e6 e7 f0 f1 f2 f3 f4 f5 f6 f7 hx hy hah hin r1 r2 r3 r4
          go_wp2
          refine wp_region_low (B := w0.heap.size) (w := w0) (by kernel_rfl) (by kernel_rfl) ?_
          repeat (go_big_quiet_step ((go_at_call 8; exact low_call (RR.out _) (Nat.le_refl _))))
          refine wpQuiet_nil ?_
          intro W1 hw'
          obtain ⟨pq, eq1⟩ := hw'
          have hb1 := pq.h
          rw [← eq1] at hb1
          clear eq1 pq
          go_wp2
          go_meet
          exact ⟨by rw [HAH.out], Lib.hid hb1⟩
      case rest =>
        obtain ⟨rfl, hbc⟩ := hcut
        generalize aheadAt l q0 q1 = AH at *
        go_wp2
        go_loopw [8, 9, 10, 54] (fun v u wd z wr => ∃ (j : Nat) (ao1 ao2 : Option Addr) (n1 n2 c1 c2 : Nat), j ≤ l.length ∧ z = .int .i64 j ∧ v = .slice ao1 n1 c1 ∧ u = .slice ao2 n2 c2 ∧ wd = .int .i64 (wdL l j) ∧ Hid (n1 = (sel (fun x => !done x) l j).length ∧ n2 = (sel (ofT ts q2) l j).length ∧ wr.ownsRow w0.heap.size 3 1 (.slice ao1 n1 c1) n1 (zvs (izs (sel (fun x => !done x) l j))) ∧ wr.ownsRow w0.heap.size 3 1 (.slice ao2 n2 c2) n2 (zvs (izs (sel (ofT ts q2) l j))) ∧ Apart (.slice ao1 n1 c1) (.slice ao2 n2 c2)) ∧ Hid (Below w0.heap.size w0 wr)) (fun _ _ _ z _ => l.length - (intOf z).toNat)
        case atStart => exact ⟨0, none, none, 0, 0, 0, 0, Nat.zero_le _, rfl, rfl, rfl, rfl, Lib.hid ⟨rfl, rfl, World.ownsRow_nil _ _ _ _, World.ownsRow_nil _ _ _ _, .inl rfl⟩, hbc⟩
        case round =>
          obtain ⟨j, ao1, ao2, n1, n2, c1, c2, hj, rfl, rfl, rfl, rfl, HR, hbw⟩ := hrel
          by_cases hlt : j < l.length
          · obtain rfl := HA.out (by omega)
            have hbb := HB.out (by omega)
            obtain ⟨x, hx⟩ : ∃ x, l[j]? = some x := ⟨_, List.getElem?_eq_getElem hlt⟩
            have HX := Lib.hid hx
            have HEV : Hid (∀ W', Below w0.heap.size w0 W' → EvsAt W' b o l) := Lib.hid (fun W' h => HC.out.stays h HB.out)
            obtain ⟨a0, a1, a2, a3, a4, a5, a6, a7⟩ := (HEV.out _ hbw.out).cells hx
            clear a1 a3 a4 a5 a6 a7
            obtain ⟨hn1, hn2, r1, r2, hap⟩ := HR.out
            have hl1 : n1 ≤ 100 := by have := sel_len (fun x => !done x) l j; omega
            have hl2 : n2 ≤ 100 := by have := sel_len (ofT ts q2) l j; omega
            have HN1 := Lib.hid hn1
            have HN2 := Lib.hid hn2
            have R1 := Lib.hid r1
            have R2 := Lib.hid r2
            have hwz : w0.heap.size ≤ wr.heap.size := hbw.out.size
            have hwd1 := wdL_nonneg l j
            have hwd2 := wdL_top l j
            have HWD : Hid (wdL l (j + 1) = max (wdL l j) (cnt l x.iv : Int)) := Lib.hid (wdL_succ hx)
            have HSO : Hid (ofT ts q2 x = true → sel (ofT ts q2) l (j + 1) = sel (ofT ts q2) l j ++ [j]) := Lib.hid (fun h => sel_hit hx h)
            have HSN : Hid (ofT ts q2 x = false → sel (ofT ts q2) l (j + 1) = sel (ofT ts q2) l j) := Lib.hid (fun h => sel_miss hx h)
            generalize wdL l j = WD at *
            clear hn1 hn2 r1 r2 HR hx
            by_cases hrs : x.rs = 0
            · have HP : Hid (sel (fun x => !done x) l (j + 1) = sel (fun x => !done x) l j ++ [j]) := Lib.hid (sel_hit HX.out (by unfold done; simp [hrs]))
              have e1 : (x.rs == 0) = true := by simpa using hrs
              have e1b : decide (x.rs = 0) = true := decide_eq_true hrs
              clear hrs
              by_cases h1 : x.ca < 0
              · have e2 : decide (0 ≤ x.ca) = false := decide_eq_false (by omega)
                have HO : Hid (ofT ts q2 x = false) := Lib.hid (by unfold ofT thr; rw [if_neg (by omega)]; rfl)
                clear h1
                go_wp2_with (at_builtin; refine append_apart (v := .slice ao1 n1 c1) (u := .slice ao2 n2 c2) rfl _ _ 35 rfl w0.heap.size 3 Try.underlying35 infoInt n1 (izs (sel (fun x => !done x) l j)) rfl R1.out n2 (izs (sel (ofT ts q2) l j)) R2.out hap (j : Int) rfl (by omega) hwz ?_; intro g1 cap1 w3 s1 s2 s3 s4 _; replace s1 := Lib.hid s1; replace s2 := Lib.hid s2; replace s3 := Lib.hid s3)
                have HB3 : Hid (Below w0.heap.size w0 w3) := Lib.hid (hbw.out.trans s4)
                have k0 : w3.cell? ⟨b, o + j * 8, none⟩ = some (.int .i64 x.ca) := (s4.cell (p := ⟨b, _, none⟩) hbb).trans a0
                have hws : w0.heap.size ≤ w3.heap.size := HB3.out.size
                have P0 : ∀ p : BW w3.heap.size w3, p.v.cell? ⟨b, o + j * 8, none⟩ = some (.int .i64 x.ca) := fun p => p.cell (by show b < _; omega) k0
                refine wp_region_low (B := w3.heap.size) (w := w3) (by kernel_rfl) (by kernel_rfl) ?_
                repeat (go_big_quiet_step (fail))
                refine wpQuiet_nil ?_
                intro W1 hw'
                obtain ⟨pq, eq1⟩ := hw'
                have hb1 := pq.h
                rw [← eq1] at hb1
                clear eq1 pq
                have Q1 := Lib.hid (row_below s1.out hb1)
                have Q2 := Lib.hid (row_below s2.out hb1)
                have HB1 : Hid (Below w0.heap.size w0 W1) := Lib.hid (HB3.out.trans (hb1.mono HB3.out.size))
                have hws1 : w0.heap.size ≤ W1.heap.size := HB1.out.size
                clear hb1 P0 k0
                go_wp2
                have HB5 := HB1
                have Z1 := Q1
                have Z2 := Q2
                have Z3 := s3
                go_loopw [12, 103] (fun nn z wq => ∃ k : Nat, k ≤ l.length ∧ z = .int .i64 k ∧ nn = .int .i64 (cntK l x.iv k : Int) ∧ Hid (Below W1.heap.size W1 wq)) (fun _ z _ => l.length - (intOf z).toNat)
                case atStart => exact ⟨0, Nat.zero_le _, rfl, rfl, Lib.hid (Below.refl _ _)⟩
                case round =>
                  obtain ⟨k, hk, rfl, rfl, hbq⟩ := hrel
                  by_cases hkl : k < l.length
                  · obtain ⟨y, hy⟩ : ∃ y, l[k]? = some y := ⟨_, List.getElem?_eq_getElem hkl⟩
                    have HBQ : Hid (Below w0.heap.size w0 wr) := Lib.hid (HB5.out.trans (hbq.out.mono HB5.out.size))
                    have hbq2 : b < wr.heap.size := Nat.lt_of_lt_of_le hbb HBQ.out.size
                    obtain ⟨f0, f1, f2, f3, f4, f5, f6, f7⟩ := (HEV.out _ HBQ.out).cells hy
                    obtain ⟨_, x1, _⟩ := (HEV.out _ HBQ.out).cells HX.out
                    have HCK : Hid (cntK l x.iv (k + 1) = cntK l x.iv k + if within y x.iv = true then 1 else 0) := Lib.hid (cntK_succ hy)
                    have hck := cntK_le l x.iv k
                    have RW : Hid (∀ w, Calls Try.prog 9 #[y.v, .int .i64 x.iv] w fun e w' => e = .returned (.bool (within y x.iv)) ∧ Below w.heap.size w w') := Lib.hid (within_ok y x.iv)
                    have Pf0 : ∀ p : BW wr.heap.size wr, p.v.cell? ⟨b, o + k * 8, none⟩ = some (.int .i64 y.ca) := fun p => p.cell hbq2 f0
                    have Pf1 : ∀ p : BW wr.heap.size wr, p.v.cell? ⟨b, o + k * 8 + 1, none⟩ = some (.int .i64 y.iv) := fun p => p.cell hbq2 f1
                    have Pf2 : ∀ p : BW wr.heap.size wr, p.v.cell? ⟨b, o + k * 8 + 2, none⟩ = some (.int .i64 y.rs) := fun p => p.cell hbq2 f2
                    have Pf3 : ∀ p : BW wr.heap.size wr, p.v.cell? ⟨b, o + k * 8 + 3, none⟩ = some (.int .i64 y.st) := fun p => p.cell hbq2 f3
                    have Pf4 : ∀ p : BW wr.heap.size wr, p.v.cell? ⟨b, o + k * 8 + 4, none⟩ = some (.int .i64 y.er) := fun p => p.cell hbq2 f4
                    have Pf5 : ∀ p : BW wr.heap.size wr, p.v.cell? ⟨b, o + k * 8 + 5, none⟩ = some (.int .u64 (y.vl : Int)) := fun p => p.cell hbq2 f5
                    have Pf6 : ∀ p : BW wr.heap.size wr, p.v.cell? ⟨b, o + k * 8 + 6, none⟩ = some (.slice y.la y.nl y.cl) := fun p => p.cell hbq2 f6
                    have Pf7 : ∀ p : BW wr.heap.size wr, p.v.cell? ⟨b, o + k * 8 + 7, none⟩ = some (.slice y.ka y.nk y.ck) := fun p => p.cell hbq2 f7
                    have Px : ∀ p : BW wr.heap.size wr, p.v.cell? ⟨b, o + j * 8 + 1, none⟩ = some (.int .i64 x.iv) := fun p => p.cell hbq2 x1
                    clear f0 f1 f2 f3 f4 f5 f6 f7 x1 hy
                    cases hin : within y x.iv with
                    | true =>
                      have HK2 : Hid (cntK l x.iv (k + 1) = cntK l x.iv k + 1) := Lib.hid (by rw [HCK.out, hin]; simp)
                      rw [hin] at RW
                      clear hin HCK
                      go_wp2
                      refine wp_region_low (B := wr.heap.size) (w := wr) (by kernel_rfl) (by kernel_rfl) ?_
                      repeat (go_big_quiet_step ((go_at_call 9; exact low_call (RW.out _) (Nat.le_refl _))))
                      refine wpQuiet_nil ?_
                      intro W6 hw'
                      obtain ⟨pq, eq1⟩ := hw'
                      have hb1 := pq.h
                      rw [← eq1] at hb1
                      clear eq1 pq
                      have HB6 := Lib.hid (hbq.out.trans (hb1.mono hbq.out.size))
                      clear hb1
                      go_wp2
                      go_roundw
                      case rel => exact ⟨k + 1, by omega, by go_num, by rw [HK2.out]; go_num, HB6⟩
                      case measure => simp [intOf]; omega
                    | false =>
                      have HK2 : Hid (cntK l x.iv (k + 1) = cntK l x.iv k) := Lib.hid (by rw [HCK.out, hin]; simp)
                      rw [hin] at RW
                      clear hin HCK
                      go_wp2
                      refine wp_region_low (B := wr.heap.size) (w := wr) (by kernel_rfl) (by kernel_rfl) ?_
                      repeat (go_big_quiet_step ((go_at_call 9; exact low_call (RW.out _) (Nat.le_refl _))))
                      refine wpQuiet_nil ?_
                      intro W6 hw'
                      obtain ⟨pq, eq1⟩ := hw'
                      have hb1 := pq.h
                      rw [← eq1] at hb1
                      clear eq1 pq
                      have HB6 := Lib.hid (hbq.out.trans (hb1.mono hbq.out.size))
                      clear hb1
                      go_wp2
                      go_roundw
                      case rel => exact ⟨k + 1, by omega, by go_num, by rw [HK2.out], HB6⟩
                      case measure => simp [intOf]; omega
                  · obtain rfl : k = l.length := by omega
                    rw [cntK_all]
                    go_wp2
                    have Y1 := row_below Z1.out hbq.out
                    have Y2 := row_below Z2.out hbq.out
                    go_roundw
                    case rel => exact ⟨j + 1, _, _, _, _, _, _, by omega, by go_num, rfl, rfl, by rw [HWD.out], Lib.hid ⟨by rw [HP.out, List.length_append, ← HN1.out]; rfl, by rw [HSN.out HO.out]; exact HN2.out, by rw [HP.out, izs_snoc]; exact Y1, by rw [HSN.out HO.out]; exact Y2, Z3.out⟩, Lib.hid (HB5.out.trans (hbq.out.mono HB5.out.size))⟩
                    case measure => simp [intOf]; omega
              have e2 : decide (0 ≤ x.ca) = true := decide_eq_true (by omega)
              by_cases h2 : x.ca < ts.length
              case neg =>
                have e3 : decide (x.ca < ts.length) = false := decide_eq_false h2
                have HO : Hid (ofT ts q2 x = false) := Lib.hid (by unfold ofT thr; rw [if_neg (by omega)]; rfl)
                clear h1 h2
                go_wp2_with (at_builtin; refine append_apart (v := .slice ao1 n1 c1) (u := .slice ao2 n2 c2) rfl _ _ 35 rfl w0.heap.size 3 Try.underlying35 infoInt n1 (izs (sel (fun x => !done x) l j)) rfl R1.out n2 (izs (sel (ofT ts q2) l j)) R2.out hap (j : Int) rfl (by omega) hwz ?_; intro g1 cap1 w3 s1 s2 s3 s4 _; replace s1 := Lib.hid s1; replace s2 := Lib.hid s2; replace s3 := Lib.hid s3)
                have HB3 : Hid (Below w0.heap.size w0 w3) := Lib.hid (hbw.out.trans s4)
                have k0 : w3.cell? ⟨b, o + j * 8, none⟩ = some (.int .i64 x.ca) := (s4.cell (p := ⟨b, _, none⟩) hbb).trans a0
                have hws : w0.heap.size ≤ w3.heap.size := HB3.out.size
                have P0 : ∀ p : BW w3.heap.size w3, p.v.cell? ⟨b, o + j * 8, none⟩ = some (.int .i64 x.ca) := fun p => p.cell (by show b < _; omega) k0
                refine wp_region_low (B := w3.heap.size) (w := w3) (by kernel_rfl) (by kernel_rfl) ?_
                repeat (go_big_quiet_step (fail))
                refine wpQuiet_nil ?_
                intro W1 hw'
                obtain ⟨pq, eq1⟩ := hw'
                have hb1 := pq.h
                rw [← eq1] at hb1
                clear eq1 pq
                have Q1 := Lib.hid (row_below s1.out hb1)
                have Q2 := Lib.hid (row_below s2.out hb1)
                have HB1 : Hid (Below w0.heap.size w0 W1) := Lib.hid (HB3.out.trans (hb1.mono HB3.out.size))
                have hws1 : w0.heap.size ≤ W1.heap.size := HB1.out.size
                clear hb1 P0 k0
                go_wp2
                have HB5 := HB1
                have Z1 := Q1
                have Z2 := Q2
                have Z3 := s3
                go_loopw [12, 103] (fun nn z wq => ∃ k : Nat, k ≤ l.length ∧ z = .int .i64 k ∧ nn = .int .i64 (cntK l x.iv k : Int) ∧ Hid (Below W1.heap.size W1 wq)) (fun _ z _ => l.length - (intOf z).toNat)
                case atStart => exact ⟨0, Nat.zero_le _, rfl, rfl, Lib.hid (Below.refl _ _)⟩
                case round =>
                  obtain ⟨k, hk, rfl, rfl, hbq⟩ := hrel
                  by_cases hkl : k < l.length
                  · obtain ⟨y, hy⟩ : ∃ y, l[k]? = some y := ⟨_, List.getElem?_eq_getElem hkl⟩
                    have HBQ : Hid (Below w0.heap.size w0 wr) := Lib.hid (HB5.out.trans (hbq.out.mono HB5.out.size))
                    have hbq2 : b < wr.heap.size := Nat.lt_of_lt_of_le hbb HBQ.out.size
                    obtain ⟨f0, f1, f2, f3, f4, f5, f6, f7⟩ := (HEV.out _ HBQ.out).cells hy
                    obtain ⟨_, x1, _⟩ := (HEV.out _ HBQ.out).cells HX.out
                    have HCK : Hid (cntK l x.iv (k + 1) = cntK l x.iv k + if within y x.iv = true then 1 else 0) := Lib.hid (cntK_succ hy)
                    have hck := cntK_le l x.iv k
                    have RW : Hid (∀ w, Calls Try.prog 9 #[y.v, .int .i64 x.iv] w fun e w' => e = .returned (.bool (within y x.iv)) ∧ Below w.heap.size w w') := Lib.hid (within_ok y x.iv)
                    have Pf0 : ∀ p : BW wr.heap.size wr, p.v.cell? ⟨b, o + k * 8, none⟩ = some (.int .i64 y.ca) := fun p => p.cell hbq2 f0
                    have Pf1 : ∀ p : BW wr.heap.size wr, p.v.cell? ⟨b, o + k * 8 + 1, none⟩ = some (.int .i64 y.iv) := fun p => p.cell hbq2 f1
                    have Pf2 : ∀ p : BW wr.heap.size wr, p.v.cell? ⟨b, o + k * 8 + 2, none⟩ = some (.int .i64 y.rs) := fun p => p.cell hbq2 f2
                    have Pf3 : ∀ p : BW wr.heap.size wr, p.v.cell? ⟨b, o + k * 8 + 3, none⟩ = some (.int .i64 y.st) := fun p => p.cell hbq2 f3
                    have Pf4 : ∀ p : BW wr.heap.size wr, p.v.cell? ⟨b, o + k * 8 + 4, none⟩ = some (.int .i64 y.er) := fun p => p.cell hbq2 f4
                    have Pf5 : ∀ p : BW wr.heap.size wr, p.v.cell? ⟨b, o + k * 8 + 5, none⟩ = some (.int .u64 (y.vl : Int)) := fun p => p.cell hbq2 f5
                    have Pf6 : ∀ p : BW wr.heap.size wr, p.v.cell? ⟨b, o + k * 8 + 6, none⟩ = some (.slice y.la y.nl y.cl) := fun p => p.cell hbq2 f6
                    have Pf7 : ∀ p : BW wr.heap.size wr, p.v.cell? ⟨b, o + k * 8 + 7, none⟩ = some (.slice y.ka y.nk y.ck) := fun p => p.cell hbq2 f7
                    have Px : ∀ p : BW wr.heap.size wr, p.v.cell? ⟨b, o + j * 8 + 1, none⟩ = some (.int .i64 x.iv) := fun p => p.cell hbq2 x1
                    clear f0 f1 f2 f3 f4 f5 f6 f7 x1 hy
                    cases hin : within y x.iv with
                    | true =>
                      have HK2 : Hid (cntK l x.iv (k + 1) = cntK l x.iv k + 1) := Lib.hid (by rw [HCK.out, hin]; simp)
                      rw [hin] at RW
                      clear hin HCK
                      go_wp2
                      refine wp_region_low (B := wr.heap.size) (w := wr) (by kernel_rfl) (by kernel_rfl) ?_
                      repeat (go_big_quiet_step ((go_at_call 9; exact low_call (RW.out _) (Nat.le_refl _))))
                      refine wpQuiet_nil ?_
                      intro W6 hw'
                      obtain ⟨pq, eq1⟩ := hw'
                      have hb1 := pq.h
                      rw [← eq1] at hb1
                      clear eq1 pq
                      have HB6 := Lib.hid (hbq.out.trans (hb1.mono hbq.out.size))
                      clear hb1
                      go_wp2
                      go_roundw
                      case rel => exact ⟨k + 1, by omega, by go_num, by rw [HK2.out]; go_num, HB6⟩
                      case measure => simp [intOf]; omega
                    | false =>
                      have HK2 : Hid (cntK l x.iv (k + 1) = cntK l x.iv k) := Lib.hid (by rw [HCK.out, hin]; simp)
                      rw [hin] at RW
                      clear hin HCK
                      go_wp2
                      refine wp_region_low (B := wr.heap.size) (w := wr) (by kernel_rfl) (by kernel_rfl) ?_
                      repeat (go_big_quiet_step ((go_at_call 9; exact low_call (RW.out _) (Nat.le_refl _))))
                      refine wpQuiet_nil ?_
                      intro W6 hw'
                      obtain ⟨pq, eq1⟩ := hw'
                      have hb1 := pq.h
                      rw [← eq1] at hb1
                      clear eq1 pq
                      have HB6 := Lib.hid (hbq.out.trans (hb1.mono hbq.out.size))
                      clear hb1
                      go_wp2
                      go_roundw
                      case rel => exact ⟨k + 1, by omega, by go_num, by rw [HK2.out], HB6⟩
                      case measure => simp [intOf]; omega
                  · obtain rfl : k = l.length := by omega
                    rw [cntK_all]
                    go_wp2
                    have Y1 := row_below Z1.out hbq.out
                    have Y2 := row_below Z2.out hbq.out
                    go_roundw
                    case rel => exact ⟨j + 1, _, _, _, _, _, _, by omega, by go_num, rfl, rfl, by rw [HWD.out], Lib.hid ⟨by rw [HP.out, List.length_append, ← HN1.out]; rfl, by rw [HSN.out HO.out]; exact HN2.out, by rw [HP.out, izs_snoc]; exact Y1, by rw [HSN.out HO.out]; exact Y2, Z3.out⟩, Lib.hid (HB5.out.trans (hbq.out.mono HB5.out.size))⟩
                    case measure => simp [intOf]; omega
              have e3 : decide (x.ca < ts.length) = true := decide_eq_true h2
              obtain ⟨cn, hcn⟩ : ∃ cn : Nat, x.ca = cn := ⟨x.ca.toNat, by omega⟩
              obtain ⟨t, ht⟩ : ∃ t, ts[cn]? = some t := ⟨ts[cn]'(by omega), List.getElem?_eq_getElem _⟩
              obtain rfl := HTA.out (by omega)
              have hbt := HTB.out (by omega)
              have hcl : cn < ts.length := by omega
              have TC : Hid (∀ W', Below w0.heap.size w0 W' → W'.cell? ⟨bT, oT + cn * 6, none⟩ = some (.int .i64 t)) := Lib.hid (fun W' h => ((HTC.out.stays h HTB.out) _ _ ht).1)
              have HOF : Hid (ofT ts q2 x = decide (t = q2)) := Lib.hid (by unfold ofT thr; rw [if_pos (by omega), hcn, Int.toNat_natCast, ht]; rfl)
              rw [hcn] at a0 e2 e3
              have HCN := Lib.hid hcn
              have e2n : decide (cn < ts.length) = true := decide_eq_true hcl
              clear h1 h2 ht hcn
              by_cases h3 : t = q2
              · have e4 : (t == q2) = true := by simpa using h3
                have e4b : decide (t = q2) = true := decide_eq_true h3
                have HO : Hid (ofT ts q2 x = true) := Lib.hid (by rw [HOF.out, e4b])
                clear h3
                go_wp2_with (at_builtin; refine append_apart (v := .slice ao1 n1 c1) (u := .slice ao2 n2 c2) rfl _ _ 35 rfl w0.heap.size 3 Try.underlying35 infoInt n1 (izs (sel (fun x => !done x) l j)) rfl R1.out n2 (izs (sel (ofT ts q2) l j)) R2.out hap (j : Int) rfl (by omega) hwz ?_; intro g1 cap1 w3 s1 s2 s3 s4 _; replace s1 := Lib.hid s1; replace s2 := Lib.hid s2; replace s3 := Lib.hid s3)
                have HB3 : Hid (Below w0.heap.size w0 w3) := Lib.hid (hbw.out.trans s4)
                have k0 : w3.cell? ⟨b, o + j * 8, none⟩ = some (.int .i64 (cn : Int)) := (s4.cell (p := ⟨b, _, none⟩) hbb).trans a0
                have hws : w0.heap.size ≤ w3.heap.size := HB3.out.size
                have P0 : ∀ p : BW w3.heap.size w3, p.v.cell? ⟨b, o + j * 8, none⟩ = some (.int .i64 (cn : Int)) := fun p => p.cell (by show b < _; omega) k0
                have P1 : ∀ p : BW w3.heap.size w3, p.v.cell? ⟨bT, oT + cn * 6, none⟩ = some (.int .i64 t) := fun p => p.cell (by show bT < _; omega) (TC.out _ HB3.out)
                have P2 : ∀ p : BW w3.heap.size w3, p.v.cell? ⟨w.heap.size, 2, none⟩ = some (.int .i64 q2) := fun p => p.cell (by have := HBX.out; show w.heap.size < _; omega) ((HB3.out.cell HBX.out).trans C2.out)
                refine wp_region_low (B := w3.heap.size) (w := w3) (by kernel_rfl) (by kernel_rfl) ?_
                repeat (go_big_quiet_step (fail))
                refine wpQuiet_nil ?_
                intro W1 hw'
                obtain ⟨pq, eq1⟩ := hw'
                have hb1 := pq.h
                rw [← eq1] at hb1
                clear eq1 pq
                have Q1 := Lib.hid (row_below s1.out hb1)
                have Q2 := Lib.hid (row_below s2.out hb1)
                have HB1 : Hid (Below w0.heap.size w0 W1) := Lib.hid (HB3.out.trans (hb1.mono HB3.out.size))
                have hws1 : w0.heap.size ≤ W1.heap.size := HB1.out.size
                clear hb1 P0 k0 P1 P2
                go_wp2_with (at_builtin; refine append_apart (v := .slice ao2 n2 c2) (u := .slice (some ⟨g1, 0, none⟩) (n1 + 1) cap1) rfl _ _ 35 rfl w0.heap.size 3 Try.underlying35 infoInt n2 (izs (sel (ofT ts q2) l j)) rfl Q2.out (n1 + 1) (izs (sel (fun x => !done x) l j) ++ [(j : Int)]) Q1.out s3.out.symm' (j : Int) rfl (by omega) hws1 ?_; intro g2 cap2 w5 m1 m2 m3 m4 _; replace m1 := Lib.hid m1; replace m2 := Lib.hid m2; replace m3 := Lib.hid m3)
                have HB5 : Hid (Below w0.heap.size w0 w5) := Lib.hid (HB1.out.trans m4)
                have Z1 := m2
                have Z2 := m1
                have Z3 := Lib.hid m3.out.symm'
                go_loopw [12, 103] (fun nn z wq => ∃ k : Nat, k ≤ l.length ∧ z = .int .i64 k ∧ nn = .int .i64 (cntK l x.iv k : Int) ∧ Hid (Below w5.heap.size w5 wq)) (fun _ z _ => l.length - (intOf z).toNat)
                case atStart => exact ⟨0, Nat.zero_le _, rfl, rfl, Lib.hid (Below.refl _ _)⟩
                case round =>
                  obtain ⟨k, hk, rfl, rfl, hbq⟩ := hrel
                  by_cases hkl : k < l.length
                  · obtain ⟨y, hy⟩ : ∃ y, l[k]? = some y := ⟨_, List.getElem?_eq_getElem hkl⟩
                    have HBQ : Hid (Below w0.heap.size w0 wr) := Lib.hid (HB5.out.trans (hbq.out.mono HB5.out.size))
                    have hbq2 : b < wr.heap.size := Nat.lt_of_lt_of_le hbb HBQ.out.size
                    obtain ⟨f0, f1, f2, f3, f4, f5, f6, f7⟩ := (HEV.out _ HBQ.out).cells hy
                    obtain ⟨_, x1, _⟩ := (HEV.out _ HBQ.out).cells HX.out
                    have HCK : Hid (cntK l x.iv (k + 1) = cntK l x.iv k + if within y x.iv = true then 1 else 0) := Lib.hid (cntK_succ hy)
                    have hck := cntK_le l x.iv k
                    have RW : Hid (∀ w, Calls Try.prog 9 #[y.v, .int .i64 x.iv] w fun e w' => e = .returned (.bool (within y x.iv)) ∧ Below w.heap.size w w') := Lib.hid (within_ok y x.iv)
                    have Pf0 : ∀ p : BW wr.heap.size wr, p.v.cell? ⟨b, o + k * 8, none⟩ = some (.int .i64 y.ca) := fun p => p.cell hbq2 f0
                    have Pf1 : ∀ p : BW wr.heap.size wr, p.v.cell? ⟨b, o + k * 8 + 1, none⟩ = some (.int .i64 y.iv) := fun p => p.cell hbq2 f1
                    have Pf2 : ∀ p : BW wr.heap.size wr, p.v.cell? ⟨b, o + k * 8 + 2, none⟩ = some (.int .i64 y.rs) := fun p => p.cell hbq2 f2
                    have Pf3 : ∀ p : BW wr.heap.size wr, p.v.cell? ⟨b, o + k * 8 + 3, none⟩ = some (.int .i64 y.st) := fun p => p.cell hbq2 f3
                    have Pf4 : ∀ p : BW wr.heap.size wr, p.v.cell? ⟨b, o + k * 8 + 4, none⟩ = some (.int .i64 y.er) := fun p => p.cell hbq2 f4
                    have Pf5 : ∀ p : BW wr.heap.size wr, p.v.cell? ⟨b, o + k * 8 + 5, none⟩ = some (.int .u64 (y.vl : Int)) := fun p => p.cell hbq2 f5
                    have Pf6 : ∀ p : BW wr.heap.size wr, p.v.cell? ⟨b, o + k * 8 + 6, none⟩ = some (.slice y.la y.nl y.cl) := fun p => p.cell hbq2 f6
                    have Pf7 : ∀ p : BW wr.heap.size wr, p.v.cell? ⟨b, o + k * 8 + 7, none⟩ = some (.slice y.ka y.nk y.ck) := fun p => p.cell hbq2 f7
                    have Px : ∀ p : BW wr.heap.size wr, p.v.cell? ⟨b, o + j * 8 + 1, none⟩ = some (.int .i64 x.iv) := fun p => p.cell hbq2 x1
                    clear f0 f1 f2 f3 f4 f5 f6 f7 x1 hy
                    cases hin : within y x.iv with
                    | true =>
                      have HK2 : Hid (cntK l x.iv (k + 1) = cntK l x.iv k + 1) := Lib.hid (by rw [HCK.out, hin]; simp)
                      rw [hin] at RW
                      clear hin HCK
                      go_wp2
                      refine wp_region_low (B := wr.heap.size) (w := wr) (by kernel_rfl) (by kernel_rfl) ?_
                      repeat (go_big_quiet_step ((go_at_call 9; exact low_call (RW.out _) (Nat.le_refl _))))
                      refine wpQuiet_nil ?_
                      intro W6 hw'
                      obtain ⟨pq, eq1⟩ := hw'
                      have hb1 := pq.h
                      rw [← eq1] at hb1
                      clear eq1 pq
                      have HB6 := Lib.hid (hbq.out.trans (hb1.mono hbq.out.size))
                      clear hb1
                      go_wp2
                      go_roundw
                      case rel => exact ⟨k + 1, by omega, by go_num, by rw [HK2.out]; go_num, HB6⟩
                      case measure => simp [intOf]; omega
                    | false =>
                      have HK2 : Hid (cntK l x.iv (k + 1) = cntK l x.iv k) := Lib.hid (by rw [HCK.out, hin]; simp)
                      rw [hin] at RW
                      clear hin HCK
                      go_wp2
                      refine wp_region_low (B := wr.heap.size) (w := wr) (by kernel_rfl) (by kernel_rfl) ?_
                      repeat (go_big_quiet_step ((go_at_call 9; exact low_call (RW.out _) (Nat.le_refl _))))
                      refine wpQuiet_nil ?_
                      intro W6 hw'
                      obtain ⟨pq, eq1⟩ := hw'
                      have hb1 := pq.h
                      rw [← eq1] at hb1
                      clear eq1 pq
                      have HB6 := Lib.hid (hbq.out.trans (hb1.mono hbq.out.size))
                      clear hb1
                      go_wp2
                      go_roundw
                      case rel => exact ⟨k + 1, by omega, by go_num, by rw [HK2.out], HB6⟩
                      case measure => simp [intOf]; omega
                  · obtain rfl : k = l.length := by omega
                    rw [cntK_all]
                    go_wp2
                    have Y1 := row_below Z1.out hbq.out
                    have Y2 := row_below Z2.out hbq.out
                    go_roundw
                    case rel => exact ⟨j + 1, _, _, _, _, _, _, by omega, by go_num, rfl, rfl, by rw [HWD.out], Lib.hid ⟨by rw [HP.out, List.length_append, ← HN1.out]; rfl, by rw [HSO.out HO.out, List.length_append, ← HN2.out]; rfl, by rw [HP.out, izs_snoc]; exact Y1, by rw [HSO.out HO.out, izs_snoc]; exact Y2, Z3.out⟩, Lib.hid (HB5.out.trans (hbq.out.mono HB5.out.size))⟩
                    case measure => simp [intOf]; omega
              · have e4 : (t == q2) = false := by simpa using h3
                have e4b : decide (t = q2) = false := decide_eq_false h3
                have HO : Hid (ofT ts q2 x = false) := Lib.hid (by rw [HOF.out, e4b])
                clear h3
                go_wp2_with (at_builtin; refine append_apart (v := .slice ao1 n1 c1) (u := .slice ao2 n2 c2) rfl _ _ 35 rfl w0.heap.size 3 Try.underlying35 infoInt n1 (izs (sel (fun x => !done x) l j)) rfl R1.out n2 (izs (sel (ofT ts q2) l j)) R2.out hap (j : Int) rfl (by omega) hwz ?_; intro g1 cap1 w3 s1 s2 s3 s4 _; replace s1 := Lib.hid s1; replace s2 := Lib.hid s2; replace s3 := Lib.hid s3)
                have HB3 : Hid (Below w0.heap.size w0 w3) := Lib.hid (hbw.out.trans s4)
                have k0 : w3.cell? ⟨b, o + j * 8, none⟩ = some (.int .i64 (cn : Int)) := (s4.cell (p := ⟨b, _, none⟩) hbb).trans a0
                have hws : w0.heap.size ≤ w3.heap.size := HB3.out.size
                have P0 : ∀ p : BW w3.heap.size w3, p.v.cell? ⟨b, o + j * 8, none⟩ = some (.int .i64 (cn : Int)) := fun p => p.cell (by show b < _; omega) k0
                have P1 : ∀ p : BW w3.heap.size w3, p.v.cell? ⟨bT, oT + cn * 6, none⟩ = some (.int .i64 t) := fun p => p.cell (by show bT < _; omega) (TC.out _ HB3.out)
                have P2 : ∀ p : BW w3.heap.size w3, p.v.cell? ⟨w.heap.size, 2, none⟩ = some (.int .i64 q2) := fun p => p.cell (by have := HBX.out; show w.heap.size < _; omega) ((HB3.out.cell HBX.out).trans C2.out)
                refine wp_region_low (B := w3.heap.size) (w := w3) (by kernel_rfl) (by kernel_rfl) ?_
                repeat (go_big_quiet_step (fail))
                refine wpQuiet_nil ?_
                intro W1 hw'
                obtain ⟨pq, eq1⟩ := hw'
                have hb1 := pq.h
                rw [← eq1] at hb1
                clear eq1 pq
                have Q1 := Lib.hid (row_below s1.out hb1)
                have Q2 := Lib.hid (row_below s2.out hb1)
                have HB1 : Hid (Below w0.heap.size w0 W1) := Lib.hid (HB3.out.trans (hb1.mono HB3.out.size))
                have hws1 : w0.heap.size ≤ W1.heap.size := HB1.out.size
                clear hb1 P0 k0 P1 P2
                go_wp2
                have HB5 := HB1
                have Z1 := Q1
                have Z2 := Q2
                have Z3 := s3
                go_loopw [12, 103] (fun nn z wq => ∃ k : Nat, k ≤ l.length ∧ z = .int .i64 k ∧ nn = .int .i64 (cntK l x.iv k : Int) ∧ Hid (Below W1.heap.size W1 wq)) (fun _ z _ => l.length - (intOf z).toNat)
                case atStart => exact ⟨0, Nat.zero_le _, rfl, rfl, Lib.hid (Below.refl _ _)⟩
                case round =>
                  obtain ⟨k, hk, rfl, rfl, hbq⟩ := hrel
                  by_cases hkl : k < l.length
                  · obtain ⟨y, hy⟩ : ∃ y, l[k]? = some y := ⟨_, List.getElem?_eq_getElem hkl⟩
                    have HBQ : Hid (Below w0.heap.size w0 wr) := Lib.hid (HB5.out.trans (hbq.out.mono HB5.out.size))
                    have hbq2 : b < wr.heap.size := Nat.lt_of_lt_of_le hbb HBQ.out.size
                    obtain ⟨f0, f1, f2, f3, f4, f5, f6, f7⟩ := (HEV.out _ HBQ.out).cells hy
                    obtain ⟨_, x1, _⟩ := (HEV.out _ HBQ.out).cells HX.out
                    have HCK : Hid (cntK l x.iv (k + 1) = cntK l x.iv k + if within y x.iv = true then 1 else 0) := Lib.hid (cntK_succ hy)
                    have hck := cntK_le l x.iv k
                    have RW : Hid (∀ w, Calls Try.prog 9 #[y.v, .int .i64 x.iv] w fun e w' => e = .returned (.bool (within y x.iv)) ∧ Below w.heap.size w w') := Lib.hid (within_ok y x.iv)
                    have Pf0 : ∀ p : BW wr.heap.size wr, p.v.cell? ⟨b, o + k * 8, none⟩ = some (.int .i64 y.ca) := fun p => p.cell hbq2 f0
                    have Pf1 : ∀ p : BW wr.heap.size wr, p.v.cell? ⟨b, o + k * 8 + 1, none⟩ = some (.int .i64 y.iv) := fun p => p.cell hbq2 f1
                    have Pf2 : ∀ p : BW wr.heap.size wr, p.v.cell? ⟨b, o + k * 8 + 2, none⟩ = some (.int .i64 y.rs) := fun p => p.cell hbq2 f2
                    have Pf3 : ∀ p : BW wr.heap.size wr, p.v.cell? ⟨b, o + k * 8 + 3, none⟩ = some (.int .i64 y.st) := fun p => p.cell hbq2 f3
                    have Pf4 : ∀ p : BW wr.heap.size wr, p.v.cell? ⟨b, o + k * 8 + 4, none⟩ = some (.int .i64 y.er) := fun p => p.cell hbq2 f4
                    have Pf5 : ∀ p : BW wr.heap.size wr, p.v.cell? ⟨b, o + k * 8 + 5, none⟩ = some (.int .u64 (y.vl : Int)) := fun p => p.cell hbq2 f5
                    have Pf6 : ∀ p : BW wr.heap.size wr, p.v.cell? ⟨b, o + k * 8 + 6, none⟩ = some (.slice y.la y.nl y.cl) := fun p => p.cell hbq2 f6
                    have Pf7 : ∀ p : BW wr.heap.size wr, p.v.cell? ⟨b, o + k * 8 + 7, none⟩ = some (.slice y.ka y.nk y.ck) := fun p => p.cell hbq2 f7
                    have Px : ∀ p : BW wr.heap.size wr, p.v.cell? ⟨b, o + j * 8 + 1, none⟩ = some (.int .i64 x.iv) := fun p => p.cell hbq2 x1
                    clear f0 f1 f2 f3 f4 f5 f6 f7 x1 hy
                    cases hin : within y x.iv with
                    | true =>
                      have HK2 : Hid (cntK l x.iv (k + 1) = cntK l x.iv k + 1) := Lib.hid (by rw [HCK.out, hin]; simp)
                      rw [hin] at RW
                      clear hin HCK
                      go_wp2
                      refine wp_region_low (B := wr.heap.size) (w := wr) (by kernel_rfl) (by kernel_rfl) ?_
                      repeat (go_big_quiet_step ((go_at_call 9; exact low_call (RW.out _) (Nat.le_refl _))))
                      refine wpQuiet_nil ?_
                      intro W6 hw'
                      obtain ⟨pq, eq1⟩ := hw'
                      have hb1 := pq.h
                      rw [← eq1] at hb1
                      clear eq1 pq
                      have HB6 := Lib.hid (hbq.out.trans (hb1.mono hbq.out.size))
                      clear hb1
                      go_wp2
                      go_roundw
                      case rel => exact ⟨k + 1, by omega, by go_num, by rw [HK2.out]; go_num, HB6⟩
                      case measure => simp [intOf]; omega
                    | false =>
                      have HK2 : Hid (cntK l x.iv (k + 1) = cntK l x.iv k) := Lib.hid (by rw [HCK.out, hin]; simp)
                      rw [hin] at RW
                      clear hin HCK
                      go_wp2
                      refine wp_region_low (B := wr.heap.size) (w := wr) (by kernel_rfl) (by kernel_rfl) ?_
                      repeat (go_big_quiet_step ((go_at_call 9; exact low_call (RW.out _) (Nat.le_refl _))))
                      refine wpQuiet_nil ?_
                      intro W6 hw'
                      obtain ⟨pq, eq1⟩ := hw'
                      have hb1 := pq.h
                      rw [← eq1] at hb1
                      clear eq1 pq
                      have HB6 := Lib.hid (hbq.out.trans (hb1.mono hbq.out.size))
                      clear hb1
                      go_wp2
                      go_roundw
                      case rel => exact ⟨k + 1, by omega, by go_num, by rw [HK2.out], HB6⟩
                      case measure => simp [intOf]; omega
                  · obtain rfl : k = l.length := by omega
                    rw [cntK_all]
                    go_wp2
                    have Y1 := row_below Z1.out hbq.out
                    have Y2 := row_below Z2.out hbq.out
                    go_roundw
                    case rel => exact ⟨j + 1, _, _, _, _, _, _, by omega, by go_num, rfl, rfl, by rw [HWD.out], Lib.hid ⟨by rw [HP.out, List.length_append, ← HN1.out]; rfl, by rw [HSN.out HO.out]; exact HN2.out, by rw [HP.out, izs_snoc]; exact Y1, by rw [HSN.out HO.out]; exact Y2, Z3.out⟩, Lib.hid (HB5.out.trans (hbq.out.mono HB5.out.size))⟩
                    case measure => simp [intOf]; omega
            have HP : Hid (sel (fun x => !done x) l (j + 1) = sel (fun x => !done x) l j) := Lib.hid (sel_miss HX.out (by unfold done; simp [hrs]))
            have e1 : (x.rs == 0) = false := by simpa using hrs
            have e1b : decide (x.rs = 0) = false := decide_eq_false hrs
            clear hrs
            by_cases h1 : x.ca < 0
            · have e2 : decide (0 ≤ x.ca) = false := decide_eq_false (by omega)
              have HO : Hid (ofT ts q2 x = false) := Lib.hid (by unfold ofT thr; rw [if_neg (by omega)]; rfl)
              clear h1
              go_wp2
              have HB3 := hbw
              have s3 := Lib.hid hap
              have k0 := a0
              have hws : w0.heap.size ≤ wr.heap.size := HB3.out.size
              have P0 : ∀ p : BW wr.heap.size wr, p.v.cell? ⟨b, o + j * 8, none⟩ = some (.int .i64 x.ca) := fun p => p.cell (by show b < _; omega) k0
              refine wp_region_low (B := wr.heap.size) (w := wr) (by kernel_rfl) (by kernel_rfl) ?_
              repeat (go_big_quiet_step (fail))
              refine wpQuiet_nil ?_
              intro W1 hw'
              obtain ⟨pq, eq1⟩ := hw'
              have hb1 := pq.h
              rw [← eq1] at hb1
              clear eq1 pq
              have Q1 := Lib.hid (row_below R1.out hb1)
              have Q2 := Lib.hid (row_below R2.out hb1)
              have HB1 : Hid (Below w0.heap.size w0 W1) := Lib.hid (HB3.out.trans (hb1.mono HB3.out.size))
              have hws1 : w0.heap.size ≤ W1.heap.size := HB1.out.size
              clear hb1 P0 k0
              go_wp2
              have HB5 := HB1
              have Z1 := Q1
              have Z2 := Q2
              have Z3 := s3
              go_loopw [12, 103] (fun nn z wq => ∃ k : Nat, k ≤ l.length ∧ z = .int .i64 k ∧ nn = .int .i64 (cntK l x.iv k : Int) ∧ Hid (Below W1.heap.size W1 wq)) (fun _ z _ => l.length - (intOf z).toNat)
              case atStart => exact ⟨0, Nat.zero_le _, rfl, rfl, Lib.hid (Below.refl _ _)⟩
              case round =>
                obtain ⟨k, hk, rfl, rfl, hbq⟩ := hrel
                by_cases hkl : k < l.length
                · obtain ⟨y, hy⟩ : ∃ y, l[k]? = some y := ⟨_, List.getElem?_eq_getElem hkl⟩
                  have HBQ : Hid (Below w0.heap.size w0 wr) := Lib.hid (HB5.out.trans (hbq.out.mono HB5.out.size))
                  have hbq2 : b < wr.heap.size := Nat.lt_of_lt_of_le hbb HBQ.out.size
                  obtain ⟨f0, f1, f2, f3, f4, f5, f6, f7⟩ := (HEV.out _ HBQ.out).cells hy
                  obtain ⟨_, x1, _⟩ := (HEV.out _ HBQ.out).cells HX.out
                  have HCK : Hid (cntK l x.iv (k + 1) = cntK l x.iv k + if within y x.iv = true then 1 else 0) := Lib.hid (cntK_succ hy)
                  have hck := cntK_le l x.iv k
                  have RW : Hid (∀ w, Calls Try.prog 9 #[y.v, .int .i64 x.iv] w fun e w' => e = .returned (.bool (within y x.iv)) ∧ Below w.heap.size w w') := Lib.hid (within_ok y x.iv)
                  have Pf0 : ∀ p : BW wr.heap.size wr, p.v.cell? ⟨b, o + k * 8, none⟩ = some (.int .i64 y.ca) := fun p => p.cell hbq2 f0
                  have Pf1 : ∀ p : BW wr.heap.size wr, p.v.cell? ⟨b, o + k * 8 + 1, none⟩ = some (.int .i64 y.iv) := fun p => p.cell hbq2 f1
                  have Pf2 : ∀ p : BW wr.heap.size wr, p.v.cell? ⟨b, o + k * 8 + 2, none⟩ = some (.int .i64 y.rs) := fun p => p.cell hbq2 f2
                  have Pf3 : ∀ p : BW wr.heap.size wr, p.v.cell? ⟨b, o + k * 8 + 3, none⟩ = some (.int .i64 y.st) := fun p => p.cell hbq2 f3
                  have Pf4 : ∀ p : BW wr.heap.size wr, p.v.cell? ⟨b, o + k * 8 + 4, none⟩ = some (.int .i64 y.er) := fun p => p.cell hbq2 f4
                  have Pf5 : ∀ p : BW wr.heap.size wr, p.v.cell? ⟨b, o + k * 8 + 5, none⟩ = some (.int .u64 (y.vl : Int)) := fun p => p.cell hbq2 f5
                  have Pf6 : ∀ p : BW wr.heap.size wr, p.v.cell? ⟨b, o + k * 8 + 6, none⟩ = some (.slice y.la y.nl y.cl) := fun p => p.cell hbq2 f6
                  have Pf7 : ∀ p : BW wr.heap.size wr, p.v.cell? ⟨b, o + k * 8 + 7, none⟩ = some (.slice y.ka y.nk y.ck) := fun p => p.cell hbq2 f7
                  have Px : ∀ p : BW wr.heap.size wr, p.v.cell? ⟨b, o + j * 8 + 1, none⟩ = some (.int .i64 x.iv) := fun p => p.cell hbq2 x1
                  clear f0 f1 f2 f3 f4 f5 f6 f7 x1 hy
                  cases hin : within y x.iv with
                  | true =>
                    have HK2 : Hid (cntK l x.iv (k + 1) = cntK l x.iv k + 1) := Lib.hid (by rw [HCK.out, hin]; simp)
                    rw [hin] at RW
                    clear hin HCK
                    go_wp2
                    refine wp_region_low (B := wr.heap.size) (w := wr) (by kernel_rfl) (by kernel_rfl) ?_
                    repeat (go_big_quiet_step ((go_at_call 9; exact low_call (RW.out _) (Nat.le_refl _))))
                    refine wpQuiet_nil ?_
                    intro W6 hw'
                    obtain ⟨pq, eq1⟩ := hw'
                    have hb1 := pq.h
                    rw [← eq1] at hb1
                    clear eq1 pq
                    have HB6 := Lib.hid (hbq.out.trans (hb1.mono hbq.out.size))
                    clear hb1
                    go_wp2
                    go_roundw
                    case rel => exact ⟨k + 1, by omega, by go_num, by rw [HK2.out]; go_num, HB6⟩
                    case measure => simp [intOf]; omega
                  | false =>
                    have HK2 : Hid (cntK l x.iv (k + 1) = cntK l x.iv k) := Lib.hid (by rw [HCK.out, hin]; simp)
                    rw [hin] at RW
                    clear hin HCK
                    go_wp2
                    refine wp_region_low (B := wr.heap.size) (w := wr) (by kernel_rfl) (by kernel_rfl) ?_
                    repeat (go_big_quiet_step ((go_at_call 9; exact low_call (RW.out _) (Nat.le_refl _))))
                    refine wpQuiet_nil ?_
                    intro W6 hw'
                    obtain ⟨pq, eq1⟩ := hw'
                    have hb1 := pq.h
                    rw [← eq1] at hb1
                    clear eq1 pq
                    have HB6 := Lib.hid (hbq.out.trans (hb1.mono hbq.out.size))
                    clear hb1
                    go_wp2
                    go_roundw
                    case rel => exact ⟨k + 1, by omega, by go_num, by rw [HK2.out], HB6⟩
                    case measure => simp [intOf]; omega
                · obtain rfl : k = l.length := by omega
                  rw [cntK_all]
                  go_wp2
                  have Y1 := row_below Z1.out hbq.out
                  have Y2 := row_below Z2.out hbq.out
                  go_roundw
                  case rel => exact ⟨j + 1, _, _, _, _, _, _, by omega, by go_num, rfl, rfl, by rw [HWD.out], Lib.hid ⟨by rw [HP.out]; exact HN1.out, by rw [HSN.out HO.out]; exact HN2.out, by rw [HP.out]; exact Y1, by rw [HSN.out HO.out]; exact Y2, Z3.out⟩, Lib.hid (HB5.out.trans (hbq.out.mono HB5.out.size))⟩
                  case measure => simp [intOf]; omega
            have e2 : decide (0 ≤ x.ca) = true := decide_eq_true (by omega)
            by_cases h2 : x.ca < ts.length
            case neg =>
              have e3 : decide (x.ca < ts.length) = false := decide_eq_false h2
              have HO : Hid (ofT ts q2 x = false) := Lib.hid (by unfold ofT thr; rw [if_neg (by omega)]; rfl)
              clear h1 h2
              go_wp2
              have HB3 := hbw
              have s3 := Lib.hid hap
              have k0 := a0
              have hws : w0.heap.size ≤ wr.heap.size := HB3.out.size
              have P0 : ∀ p : BW wr.heap.size wr, p.v.cell? ⟨b, o + j * 8, none⟩ = some (.int .i64 x.ca) := fun p => p.cell (by show b < _; omega) k0
              refine wp_region_low (B := wr.heap.size) (w := wr) (by kernel_rfl) (by kernel_rfl) ?_
              repeat (go_big_quiet_step (fail))
              refine wpQuiet_nil ?_
              intro W1 hw'
              obtain ⟨pq, eq1⟩ := hw'
              have hb1 := pq.h
              rw [← eq1] at hb1
              clear eq1 pq
              have Q1 := Lib.hid (row_below R1.out hb1)
              have Q2 := Lib.hid (row_below R2.out hb1)
              have HB1 : Hid (Below w0.heap.size w0 W1) := Lib.hid (HB3.out.trans (hb1.mono HB3.out.size))
              have hws1 : w0.heap.size ≤ W1.heap.size := HB1.out.size
              clear hb1 P0 k0
              go_wp2
              have HB5 := HB1
              have Z1 := Q1
              have Z2 := Q2
              have Z3 := s3
              go_loopw [12, 103] (fun nn z wq => ∃ k : Nat, k ≤ l.length ∧ z = .int .i64 k ∧ nn = .int .i64 (cntK l x.iv k : Int) ∧ Hid (Below W1.heap.size W1 wq)) (fun _ z _ => l.length - (intOf z).toNat)
              case atStart => exact ⟨0, Nat.zero_le _, rfl, rfl, Lib.hid (Below.refl _ _)⟩
              case round =>
                obtain ⟨k, hk, rfl, rfl, hbq⟩ := hrel
                by_cases hkl : k < l.length
                · obtain ⟨y, hy⟩ : ∃ y, l[k]? = some y := ⟨_, List.getElem?_eq_getElem hkl⟩
                  have HBQ : Hid (Below w0.heap.size w0 wr) := Lib.hid (HB5.out.trans (hbq.out.mono HB5.out.size))
                  have hbq2 : b < wr.heap.size := Nat.lt_of_lt_of_le hbb HBQ.out.size
                  obtain ⟨f0, f1, f2, f3, f4, f5, f6, f7⟩ := (HEV.out _ HBQ.out).cells hy
                  obtain ⟨_, x1, _⟩ := (HEV.out _ HBQ.out).cells HX.out
                  have HCK : Hid (cntK l x.iv (k + 1) = cntK l x.iv k + if within y x.iv = true then 1 else 0) := Lib.hid (cntK_succ hy)
                  have hck := cntK_le l x.iv k
                  have RW : Hid (∀ w, Calls Try.prog 9 #[y.v, .int .i64 x.iv] w fun e w' => e = .returned (.bool (within y x.iv)) ∧ Below w.heap.size w w') := Lib.hid (within_ok y x.iv)
                  have Pf0 : ∀ p : BW wr.heap.size wr, p.v.cell? ⟨b, o + k * 8, none⟩ = some (.int .i64 y.ca) := fun p => p.cell hbq2 f0
                  have Pf1 : ∀ p : BW wr.heap.size wr, p.v.cell? ⟨b, o + k * 8 + 1, none⟩ = some (.int .i64 y.iv) := fun p => p.cell hbq2 f1
                  have Pf2 : ∀ p : BW wr.heap.size wr, p.v.cell? ⟨b, o + k * 8 + 2, none⟩ = some (.int .i64 y.rs) := fun p => p.cell hbq2 f2
                  have Pf3 : ∀ p : BW wr.heap.size wr, p.v.cell? ⟨b, o + k * 8 + 3, none⟩ = some (.int .i64 y.st) := fun p => p.cell hbq2 f3
                  have Pf4 : ∀ p : BW wr.heap.size wr, p.v.cell? ⟨b, o + k * 8 + 4, none⟩ = some (.int .i64 y.er) := fun p => p.cell hbq2 f4
                  have Pf5 : ∀ p : BW wr.heap.size wr, p.v.cell? ⟨b, o + k * 8 + 5, none⟩ = some (.int .u64 (y.vl : Int)) := fun p => p.cell hbq2 f5
                  have Pf6 : ∀ p : BW wr.heap.size wr, p.v.cell? ⟨b, o + k * 8 + 6, none⟩ = some (.slice y.la y.nl y.cl) := fun p => p.cell hbq2 f6
                  have Pf7 : ∀ p : BW wr.heap.size wr, p.v.cell? ⟨b, o + k * 8 + 7, none⟩ = some (.slice y.ka y.nk y.ck) := fun p => p.cell hbq2 f7
                  have Px : ∀ p : BW wr.heap.size wr, p.v.cell? ⟨b, o + j * 8 + 1, none⟩ = some (.int .i64 x.iv) := fun p => p.cell hbq2 x1
                  clear f0 f1 f2 f3 f4 f5 f6 f7 x1 hy
                  cases hin : within y x.iv with
                  | true =>
                    have HK2 : Hid (cntK l x.iv (k + 1) = cntK l x.iv k + 1) := Lib.hid (by rw [HCK.out, hin]; simp)
                    rw [hin] at RW
                    clear hin HCK
                    go_wp2
                    refine wp_region_low (B := wr.heap.size) (w := wr) (by kernel_rfl) (by kernel_rfl) ?_
                    repeat (go_big_quiet_step ((go_at_call 9; exact low_call (RW.out _) (Nat.le_refl _))))
                    refine wpQuiet_nil ?_
                    intro W6 hw'
                    obtain ⟨pq, eq1⟩ := hw'
                    have hb1 := pq.h
                    rw [← eq1] at hb1
                    clear eq1 pq
                    have HB6 := Lib.hid (hbq.out.trans (hb1.mono hbq.out.size))
                    clear hb1
                    go_wp2
                    go_roundw
                    case rel => exact ⟨k + 1, by omega, by go_num, by rw [HK2.out]; go_num, HB6⟩
                    case measure => simp [intOf]; omega
                  | false =>
                    have HK2 : Hid (cntK l x.iv (k + 1) = cntK l x.iv k) := Lib.hid (by rw [HCK.out, hin]; simp)
                    rw [hin] at RW
                    clear hin HCK
                    go_wp2
                    refine wp_region_low (B := wr.heap.size) (w := wr) (by kernel_rfl) (by kernel_rfl) ?_
                    repeat (go_big_quiet_step ((go_at_call 9; exact low_call (RW.out _) (Nat.le_refl _))))
                    refine wpQuiet_nil ?_
                    intro W6 hw'
                    obtain ⟨pq, eq1⟩ := hw'
                    have hb1 := pq.h
                    rw [← eq1] at hb1
                    clear eq1 pq
                    have HB6 := Lib.hid (hbq.out.trans (hb1.mono hbq.out.size))
                    clear hb1
                    go_wp2
                    go_roundw
                    case rel => exact ⟨k + 1, by omega, by go_num, by rw [HK2.out], HB6⟩
                    case measure => simp [intOf]; omega
                · obtain rfl : k = l.length := by omega
                  rw [cntK_all]
                  go_wp2
                  have Y1 := row_below Z1.out hbq.out
                  have Y2 := row_below Z2.out hbq.out
                  go_roundw
                  case rel => exact ⟨j + 1, _, _, _, _, _, _, by omega, by go_num, rfl, rfl, by rw [HWD.out], Lib.hid ⟨by rw [HP.out]; exact HN1.out, by rw [HSN.out HO.out]; exact HN2.out, by rw [HP.out]; exact Y1, by rw [HSN.out HO.out]; exact Y2, Z3.out⟩, Lib.hid (HB5.out.trans (hbq.out.mono HB5.out.size))⟩
                  case measure => simp [intOf]; omega
            have e3 : decide (x.ca < ts.length) = true := decide_eq_true h2
            obtain ⟨cn, hcn⟩ : ∃ cn : Nat, x.ca = cn := ⟨x.ca.toNat, by omega⟩
            obtain ⟨t, ht⟩ : ∃ t, ts[cn]? = some t := ⟨ts[cn]'(by omega), List.getElem?_eq_getElem _⟩
            obtain rfl := HTA.out (by omega)
            have hbt := HTB.out (by omega)
            have hcl : cn < ts.length := by omega
            have TC : Hid (∀ W', Below w0.heap.size w0 W' → W'.cell? ⟨bT, oT + cn * 6, none⟩ = some (.int .i64 t)) := Lib.hid (fun W' h => ((HTC.out.stays h HTB.out) _ _ ht).1)
            have HOF : Hid (ofT ts q2 x = decide (t = q2)) := Lib.hid (by unfold ofT thr; rw [if_pos (by omega), hcn, Int.toNat_natCast, ht]; rfl)
            rw [hcn] at a0 e2 e3
            have HCN := Lib.hid hcn
            have e2n : decide (cn < ts.length) = true := decide_eq_true hcl
            clear h1 h2 ht hcn
            by_cases h3 : t = q2
            · have e4 : (t == q2) = true := by simpa using h3
              have e4b : decide (t = q2) = true := decide_eq_true h3
              have HO : Hid (ofT ts q2 x = true) := Lib.hid (by rw [HOF.out, e4b])
              clear h3
              go_wp2
              have HB3 := hbw
              have s3 := Lib.hid hap
              have k0 := a0
              have hws : w0.heap.size ≤ wr.heap.size := HB3.out.size
              have P0 : ∀ p : BW wr.heap.size wr, p.v.cell? ⟨b, o + j * 8, none⟩ = some (.int .i64 (cn : Int)) := fun p => p.cell (by show b < _; omega) k0
              have P1 : ∀ p : BW wr.heap.size wr, p.v.cell? ⟨bT, oT + cn * 6, none⟩ = some (.int .i64 t) := fun p => p.cell (by show bT < _; omega) (TC.out _ HB3.out)
              have P2 : ∀ p : BW wr.heap.size wr, p.v.cell? ⟨w.heap.size, 2, none⟩ = some (.int .i64 q2) := fun p => p.cell (by have := HBX.out; show w.heap.size < _; omega) ((HB3.out.cell HBX.out).trans C2.out)
              refine wp_region_low (B := wr.heap.size) (w := wr) (by kernel_rfl) (by kernel_rfl) ?_
              repeat (go_big_quiet_step (fail))
              refine wpQuiet_nil ?_
              intro W1 hw'
              obtain ⟨pq, eq1⟩ := hw'
              have hb1 := pq.h
              rw [← eq1] at hb1
              clear eq1 pq
              have Q1 := Lib.hid (row_below R1.out hb1)
              have Q2 := Lib.hid (row_below R2.out hb1)
              have HB1 : Hid (Below w0.heap.size w0 W1) := Lib.hid (HB3.out.trans (hb1.mono HB3.out.size))
              have hws1 : w0.heap.size ≤ W1.heap.size := HB1.out.size
              clear hb1 P0 k0 P1 P2
              go_wp2_with (at_builtin; refine append_apart (v := .slice ao2 n2 c2) (u := .slice ao1 n1 c1) rfl _ _ 35 rfl w0.heap.size 3 Try.underlying35 infoInt n2 (izs (sel (ofT ts q2) l j)) rfl Q2.out n1 (izs (sel (fun x => !done x) l j)) Q1.out s3.out.symm' (j : Int) rfl (by omega) hws1 ?_; intro g2 cap2 w5 m1 m2 m3 m4 _; replace m1 := Lib.hid m1; replace m2 := Lib.hid m2; replace m3 := Lib.hid m3)
              have HB5 : Hid (Below w0.heap.size w0 w5) := Lib.hid (HB1.out.trans m4)
              have Z1 := m2
              have Z2 := m1
              have Z3 := Lib.hid m3.out.symm'
              go_loopw [12, 103] (fun nn z wq => ∃ k : Nat, k ≤ l.length ∧ z = .int .i64 k ∧ nn = .int .i64 (cntK l x.iv k : Int) ∧ Hid (Below w5.heap.size w5 wq)) (fun _ z _ => l.length - (intOf z).toNat)
              case atStart => exact ⟨0, Nat.zero_le _, rfl, rfl, Lib.hid (Below.refl _ _)⟩
              case round =>
                obtain ⟨k, hk, rfl, rfl, hbq⟩ := hrel
                by_cases hkl : k < l.length
                · obtain ⟨y, hy⟩ : ∃ y, l[k]? = some y := ⟨_, List.getElem?_eq_getElem hkl⟩
                  have HBQ : Hid (Below w0.heap.size w0 wr) := Lib.hid (HB5.out.trans (hbq.out.mono HB5.out.size))
                  have hbq2 : b < wr.heap.size := Nat.lt_of_lt_of_le hbb HBQ.out.size
                  obtain ⟨f0, f1, f2, f3, f4, f5, f6, f7⟩ := (HEV.out _ HBQ.out).cells hy
                  obtain ⟨_, x1, _⟩ := (HEV.out _ HBQ.out).cells HX.out
                  have HCK : Hid (cntK l x.iv (k + 1) = cntK l x.iv k + if within y x.iv = true then 1 else 0) := Lib.hid (cntK_succ hy)
                  have hck := cntK_le l x.iv k
                  have RW : Hid (∀ w, Calls Try.prog 9 #[y.v, .int .i64 x.iv] w fun e w' => e = .returned (.bool (within y x.iv)) ∧ Below w.heap.size w w') := Lib.hid (within_ok y x.iv)
                  have Pf0 : ∀ p : BW wr.heap.size wr, p.v.cell? ⟨b, o + k * 8, none⟩ = some (.int .i64 y.ca) := fun p => p.cell hbq2 f0
                  have Pf1 : ∀ p : BW wr.heap.size wr, p.v.cell? ⟨b, o + k * 8 + 1, none⟩ = some (.int .i64 y.iv) := fun p => p.cell hbq2 f1
                  have Pf2 : ∀ p : BW wr.heap.size wr, p.v.cell? ⟨b, o + k * 8 + 2, none⟩ = some (.int .i64 y.rs) := fun p => p.cell hbq2 f2
                  have Pf3 : ∀ p : BW wr.heap.size wr, p.v.cell? ⟨b, o + k * 8 + 3, none⟩ = some (.int .i64 y.st) := fun p => p.cell hbq2 f3
                  have Pf4 : ∀ p : BW wr.heap.size wr, p.v.cell? ⟨b, o + k * 8 + 4, none⟩ = some (.int .i64 y.er) := fun p => p.cell hbq2 f4
                  have Pf5 : ∀ p : BW wr.heap.size wr, p.v.cell? ⟨b, o + k * 8 + 5, none⟩ = some (.int .u64 (y.vl : Int)) := fun p => p.cell hbq2 f5
                  have Pf6 : ∀ p : BW wr.heap.size wr, p.v.cell? ⟨b, o + k * 8 + 6, none⟩ = some (.slice y.la y.nl y.cl) := fun p => p.cell hbq2 f6
                  have Pf7 : ∀ p : BW wr.heap.size wr, p.v.cell? ⟨b, o + k * 8 + 7, none⟩ = some (.slice y.ka y.nk y.ck) := fun p => p.cell hbq2 f7
                  have Px : ∀ p : BW wr.heap.size wr, p.v.cell? ⟨b, o + j * 8 + 1, none⟩ = some (.int .i64 x.iv) := fun p => p.cell hbq2 x1
                  clear f0 f1 f2 f3 f4 f5 f6 f7 x1 hy
                  cases hin : within y x.iv with
                  | true =>
                    have HK2 : Hid (cntK l x.iv (k + 1) = cntK l x.iv k + 1) := Lib.hid (by rw [HCK.out, hin]; simp)
                    rw [hin] at RW
                    clear hin HCK
                    go_wp2
                    refine wp_region_low (B := wr.heap.size) (w := wr) (by kernel_rfl) (by kernel_rfl) ?_
                    repeat (go_big_quiet_step ((go_at_call 9; exact low_call (RW.out _) (Nat.le_refl _))))
                    refine wpQuiet_nil ?_
                    intro W6 hw'
                    obtain ⟨pq, eq1⟩ := hw'
                    have hb1 := pq.h
                    rw [← eq1] at hb1
                    clear eq1 pq
                    have HB6 := Lib.hid (hbq.out.trans (hb1.mono hbq.out.size))
                    clear hb1
                    go_wp2
                    go_roundw
                    case rel => exact ⟨k + 1, by omega, by go_num, by rw [HK2.out]; go_num, HB6⟩
                    case measure => simp [intOf]; omega
                  | false =>
                    have HK2 : Hid (cntK l x.iv (k + 1) = cntK l x.iv k) := Lib.hid (by rw [HCK.out, hin]; simp)
                    rw [hin] at RW
                    clear hin HCK
                    go_wp2
                    refine wp_region_low (B := wr.heap.size) (w := wr) (by kernel_rfl) (by kernel_rfl) ?_
                    repeat (go_big_quiet_step ((go_at_call 9; exact low_call (RW.out _) (Nat.le_refl _))))
                    refine wpQuiet_nil ?_
                    intro W6 hw'
                    obtain ⟨pq, eq1⟩ := hw'
                    have hb1 := pq.h
                    rw [← eq1] at hb1
                    clear eq1 pq
                    have HB6 := Lib.hid (hbq.out.trans (hb1.mono hbq.out.size))
                    clear hb1
                    go_wp2
                    go_roundw
                    case rel => exact ⟨k + 1, by omega, by go_num, by rw [HK2.out], HB6⟩
                    case measure => simp [intOf]; omega
                · obtain rfl : k = l.length := by omega
                  rw [cntK_all]
                  go_wp2
                  have Y1 := row_below Z1.out hbq.out
                  have Y2 := row_below Z2.out hbq.out
                  go_roundw
                  case rel => exact ⟨j + 1, _, _, _, _, _, _, by omega, by go_num, rfl, rfl, by rw [HWD.out], Lib.hid ⟨by rw [HP.out]; exact HN1.out, by rw [HSO.out HO.out, List.length_append, ← HN2.out]; rfl, by rw [HP.out]; exact Y1, by rw [HSO.out HO.out, izs_snoc]; exact Y2, Z3.out⟩, Lib.hid (HB5.out.trans (hbq.out.mono HB5.out.size))⟩
                  case measure => simp [intOf]; omega
            · have e4 : (t == q2) = false := by simpa using h3
              have e4b : decide (t = q2) = false := decide_eq_false h3
              have HO : Hid (ofT ts q2 x = false) := Lib.hid (by rw [HOF.out, e4b])
              clear h3
              go_wp2
              have HB3 := hbw
              have s3 := Lib.hid hap
              have k0 := a0
              have hws : w0.heap.size ≤ wr.heap.size := HB3.out.size
              have P0 : ∀ p : BW wr.heap.size wr, p.v.cell? ⟨b, o + j * 8, none⟩ = some (.int .i64 (cn : Int)) := fun p => p.cell (by show b < _; omega) k0
              have P1 : ∀ p : BW wr.heap.size wr, p.v.cell? ⟨bT, oT + cn * 6, none⟩ = some (.int .i64 t) := fun p => p.cell (by show bT < _; omega) (TC.out _ HB3.out)
              have P2 : ∀ p : BW wr.heap.size wr, p.v.cell? ⟨w.heap.size, 2, none⟩ = some (.int .i64 q2) := fun p => p.cell (by have := HBX.out; show w.heap.size < _; omega) ((HB3.out.cell HBX.out).trans C2.out)
              refine wp_region_low (B := wr.heap.size) (w := wr) (by kernel_rfl) (by kernel_rfl) ?_
              repeat (go_big_quiet_step (fail))
              refine wpQuiet_nil ?_
              intro W1 hw'
              obtain ⟨pq, eq1⟩ := hw'
              have hb1 := pq.h
              rw [← eq1] at hb1
              clear eq1 pq
              have Q1 := Lib.hid (row_below R1.out hb1)
              have Q2 := Lib.hid (row_below R2.out hb1)
              have HB1 : Hid (Below w0.heap.size w0 W1) := Lib.hid (HB3.out.trans (hb1.mono HB3.out.size))
              have hws1 : w0.heap.size ≤ W1.heap.size := HB1.out.size
              clear hb1 P0 k0 P1 P2
              go_wp2
              have HB5 := HB1
              have Z1 := Q1
              have Z2 := Q2
              have Z3 := s3
              go_loopw [12, 103] (fun nn z wq => ∃ k : Nat, k ≤ l.length ∧ z = .int .i64 k ∧ nn = .int .i64 (cntK l x.iv k : Int) ∧ Hid (Below W1.heap.size W1 wq)) (fun _ z _ => l.length - (intOf z).toNat)
              case atStart => exact ⟨0, Nat.zero_le _, rfl, rfl, Lib.hid (Below.refl _ _)⟩
              case round =>
                obtain ⟨k, hk, rfl, rfl, hbq⟩ := hrel
                by_cases hkl : k < l.length
                · obtain ⟨y, hy⟩ : ∃ y, l[k]? = some y := ⟨_, List.getElem?_eq_getElem hkl⟩
                  have HBQ : Hid (Below w0.heap.size w0 wr) := Lib.hid (HB5.out.trans (hbq.out.mono HB5.out.size))
                  have hbq2 : b < wr.heap.size := Nat.lt_of_lt_of_le hbb HBQ.out.size
                  obtain ⟨f0, f1, f2, f3, f4, f5, f6, f7⟩ := (HEV.out _ HBQ.out).cells hy
                  obtain ⟨_, x1, _⟩ := (HEV.out _ HBQ.out).cells HX.out
                  have HCK : Hid (cntK l x.iv (k + 1) = cntK l x.iv k + if within y x.iv = true then 1 else 0) := Lib.hid (cntK_succ hy)
                  have hck := cntK_le l x.iv k
                  have RW : Hid (∀ w, Calls Try.prog 9 #[y.v, .int .i64 x.iv] w fun e w' => e = .returned (.bool (within y x.iv)) ∧ Below w.heap.size w w') := Lib.hid (within_ok y x.iv)
                  have Pf0 : ∀ p : BW wr.heap.size wr, p.v.cell? ⟨b, o + k * 8, none⟩ = some (.int .i64 y.ca) := fun p => p.cell hbq2 f0
                  have Pf1 : ∀ p : BW wr.heap.size wr, p.v.cell? ⟨b, o + k * 8 + 1, none⟩ = some (.int .i64 y.iv) := fun p => p.cell hbq2 f1
                  have Pf2 : ∀ p : BW wr.heap.size wr, p.v.cell? ⟨b, o + k * 8 + 2, none⟩ = some (.int .i64 y.rs) := fun p => p.cell hbq2 f2
                  have Pf3 : ∀ p : BW wr.heap.size wr, p.v.cell? ⟨b, o + k * 8 + 3, none⟩ = some (.int .i64 y.st) := fun p => p.cell hbq2 f3
                  have Pf4 : ∀ p : BW wr.heap.size wr, p.v.cell? ⟨b, o + k * 8 + 4, none⟩ = some (.int .i64 y.er) := fun p => p.cell hbq2 f4
                  have Pf5 : ∀ p : BW wr.heap.size wr, p.v.cell? ⟨b, o + k * 8 + 5, none⟩ = some (.int .u64 (y.vl : Int)) := fun p => p.cell hbq2 f5
                  have Pf6 : ∀ p : BW wr.heap.size wr, p.v.cell? ⟨b, o + k * 8 + 6, none⟩ = some (.slice y.la y.nl y.cl) := fun p => p.cell hbq2 f6
                  have Pf7 : ∀ p : BW wr.heap.size wr, p.v.cell? ⟨b, o + k * 8 + 7, none⟩ = some (.slice y.ka y.nk y.ck) := fun p => p.cell hbq2 f7
                  have Px : ∀ p : BW wr.heap.size wr, p.v.cell? ⟨b, o + j * 8 + 1, none⟩ = some (.int .i64 x.iv) := fun p => p.cell hbq2 x1
                  clear f0 f1 f2 f3 f4 f5 f6 f7 x1 hy
                  cases hin : within y x.iv with
                  | true =>
                    have HK2 : Hid (cntK l x.iv (k + 1) = cntK l x.iv k + 1) := Lib.hid (by rw [HCK.out, hin]; simp)
                    rw [hin] at RW
                    clear hin HCK
                    go_wp2
                    refine wp_region_low (B := wr.heap.size) (w := wr) (by kernel_rfl) (by kernel_rfl) ?_
                    repeat (go_big_quiet_step ((go_at_call 9; exact low_call (RW.out _) (Nat.le_refl _))))
                    refine wpQuiet_nil ?_
                    intro W6 hw'
                    obtain ⟨pq, eq1⟩ := hw'
                    have hb1 := pq.h
                    rw [← eq1] at hb1
                    clear eq1 pq
                    have HB6 := Lib.hid (hbq.out.trans (hb1.mono hbq.out.size))
                    clear hb1
                    go_wp2
                    go_roundw
                    case rel => exact ⟨k + 1, by omega, by go_num, by rw [HK2.out]; go_num, HB6⟩
                    case measure => simp [intOf]; omega
                  | false =>
                    have HK2 : Hid (cntK l x.iv (k + 1) = cntK l x.iv k) := Lib.hid (by rw [HCK.out, hin]; simp)
                    rw [hin] at RW
                    clear hin HCK
                    go_wp2
                    refine wp_region_low (B := wr.heap.size) (w := wr) (by kernel_rfl) (by kernel_rfl) ?_
                    repeat (go_big_quiet_step ((go_at_call 9; exact low_call (RW.out _) (Nat.le_refl _))))
                    refine wpQuiet_nil ?_
                    intro W6 hw'
                    obtain ⟨pq, eq1⟩ := hw'
                    have hb1 := pq.h
                    rw [← eq1] at hb1
                    clear eq1 pq
                    have HB6 := Lib.hid (hbq.out.trans (hb1.mono hbq.out.size))
                    clear hb1
                    go_wp2
                    go_roundw
                    case rel => exact ⟨k + 1, by omega, by go_num, by rw [HK2.out], HB6⟩
                    case measure => simp [intOf]; omega
                · obtain rfl : k = l.length := by omega
                  rw [cntK_all]
                  go_wp2
                  have Y1 := row_below Z1.out hbq.out
                  have Y2 := row_below Z2.out hbq.out
                  go_roundw
                  case rel => exact ⟨j + 1, _, _, _, _, _, _, by omega, by go_num, rfl, rfl, by rw [HWD.out], Lib.hid ⟨by rw [HP.out]; exact HN1.out, by rw [HSN.out HO.out]; exact HN2.out, by rw [HP.out]; exact Y1, by rw [HSN.out HO.out]; exact Y2, Z3.out⟩, Lib.hid (HB5.out.trans (hbq.out.mono HB5.out.size))⟩
                  case measure => simp [intOf]; omega
          · obtain rfl : j = l.length := by omega
            obtain ⟨hn1, hn2, r1, r2, -⟩ := HR.out
            have HP1 : Hid (wr.ownsRow w0.heap.size 3 1 (.slice ao1 n1 c1) (pend l).length (zvs (izs (pend l)))) := Lib.hid (by unfold pend; rw [← hn1]; exact r1)
            have HP2 : Hid (wr.ownsRow w0.heap.size 3 1 (.slice ao2 n2 c2) (ofL ts q2 l).length (zvs (izs (ofL ts q2 l)))) := Lib.hid (by unfold ofL; rw [← hn2]; exact r2)
            have hp1 : (pend l).length ≤ 100 := Nat.le_trans (sel_len _ _ _) hl
            have hp2 : (ofL ts q2 l).length ≤ 100 := Nat.le_trans (sel_len _ _ _) hl
            have RPn : Hid (∀ W', Below w0.heap.size w0 W' → Calls Try.prog 12 #[.slice ao l.length c] W' fun e w' => ∃ a m cp, e = .returned (.slice a m cp) ∧ w'.ownsRow W'.heap.size 3 1 (.slice a m cp) (pend l).length (ivs (pend l)) ∧ Below W'.heap.size W' w') := Lib.hid (fun W' h => by
              refine (pending_ok ao b o c l W' hl HA.out (fun h0 => Nat.lt_of_lt_of_le (HB.out h0) h.size) (HC.out.stays h HB.out)).mono ?_
              rintro e w' ⟨v, rfl, hv, hb⟩
              obtain ⟨a, g, cp, rfl, _⟩ := owns_open hv
              exact ⟨a, _, cp, rfl, hv, hb⟩)
            have ROf : Hid (∀ W', Below w0.heap.size w0 W' → Calls Try.prog 13 #[.slice aT ts.length cT, .slice ao l.length c, .int .i64 q2] W' fun e w' => ∃ a m cp, e = .returned (.slice a m cp) ∧ w'.ownsRow W'.heap.size 3 1 (.slice a m cp) (ofL ts q2 l).length (ivs (ofL ts q2 l)) ∧ Below W'.heap.size W' w') := Lib.hid (fun W' h => by
              refine (of_ok aT bT oT cT ts ao b o c l q2 W' htl HTA.out (fun h0 => Nat.lt_of_lt_of_le (HTB.out h0) h.size) (HTC.out.stays h HTB.out) hl HA.out (fun h0 => Nat.lt_of_lt_of_le (HB.out h0) h.size) (HC.out.stays h HB.out)).mono ?_
              rintro e w' ⟨v, rfl, hv, hb⟩
              obtain ⟨a, g, cp, rfl, _⟩ := owns_open hv
              exact ⟨a, _, cp, rfl, hv, hb⟩)
            have RWd : Hid (∀ W', Below w0.heap.size w0 W' → Calls Try.prog 14 #[.slice ao l.length c] W' fun e w' => e = .returned (.int .i64 (wdL l l.length)) ∧ Below W'.heap.size W' w') := Lib.hid (fun W' h => by
              have := width_ok ao b o c l W' hl HA.out (fun h0 => Nat.lt_of_lt_of_le (HB.out h0) h.size) (HC.out.stays h HB.out)
              rw [width_eq] at this; exact this)
            clear hn1 hn2 r1 r2 HR
            generalize wdL l l.length = WD at *
            have x0 : wr.cell? ⟨w.heap.size, 0, none⟩ = some (.int .i64 q0) := (hbw.out.cell HBX.out).trans C0.out
            have x1 : wr.cell? ⟨w.heap.size, 1, none⟩ = some (.int .i64 q1) := (hbw.out.cell HBX.out).trans C1.out
            have hAA : (AH == AH) = true := by simp
            have hWW : (WD == WD) = true := by simp
            go_wp2_with (first
              | (go_at_call 10; (with_reducible refine Calls.mono (RA.out _ hbw.out) ?_); rintro e w2 ⟨rfl, hb2⟩; (have H2 := Lib.hid (hbw.out.trans (hb2.mono hbw.out.size))); (have G1 := Lib.hid (row_below HP1.out hb2)); (have G2 := Lib.hid (row_below HP2.out hb2)); (have x2 : w2.cell? ⟨w.heap.size, 2, none⟩ = some (.int .i64 q2) := (H2.out.cell HBX.out).trans C2.out); clear hb2)
              | (go_at_call 12; (with_reducible refine Calls.mono (RPn.out _ H2.out) ?_); rintro e w3 ⟨pa, pm, pc, rfl, hv3, hb3⟩; (have H3 := Lib.hid (H2.out.trans (hb3.mono H2.out.size))); (have I1 := Lib.hid (ints_rows hp1 hv3 (row_below G1.out hb3))); (have G3 := Lib.hid (row_below G2.out hb3)); clear hb3 hv3)
              | (go_at_call 11; (with_reducible refine Calls.mono I1.out ?_); rintro e w4 ⟨rfl, hb4⟩; (have H4 := Lib.hid (H3.out.trans (hb4.mono H3.out.size))); (have G4 := Lib.hid (row_below G3.out hb4)); (have x4 : w4.cell? ⟨w.heap.size, 2, none⟩ = some (.int .i64 q2) := (H4.out.cell HBX.out).trans C2.out); clear hb4)
              | (go_at_call 13; (with_reducible refine Calls.mono (ROf.out _ H4.out) ?_); rintro e w5 ⟨oa, om, oc, rfl, hv5, hb5⟩; (have H5 := Lib.hid (H4.out.trans (hb5.mono H4.out.size))); (have I2 := Lib.hid (ints_rows hp2 hv5 (row_below G4.out hb5))); clear hb5 hv5)
              | (go_at_call 11; (with_reducible refine Calls.mono I2.out ?_); rintro e w6 ⟨rfl, hb6⟩; (have H6 := Lib.hid (H5.out.trans (hb6.mono H5.out.size))); clear hb6)
              | (go_at_call 14; (with_reducible refine Calls.mono (RWd.out _ H6.out) ?_); rintro e w7 ⟨rfl, hb7⟩; (have H7 := Lib.hid (H6.out.trans (hb7.mono H6.out.size))); clear hb7)
              | (go_at_call 5; (with_reducible refine Calls.mono (RT.out _) ?_); rintro e w8 ⟨rfl, hb8⟩; (have H8 := Lib.hid (H7.out.trans (hb8.mono H7.out.size))); clear hb8))
            go_ret
            exact ⟨rfl, HB0.out.trans (H8.out.mono HB0.out.size)⟩
  · have d1 : decide ((100 : Int) < (l.length : Int)) = true := decide_eq_true (by omega)
    have d1n : decide (100 < l.length) = true := decide_eq_true (by omega)
    clear hc htc
    go_enter Try.func4, Try.ntmps4
    go_wp2_with (go_at_call 5; refine (RT.out _).mono ?_; rintro e w1 ⟨rfl, hb1⟩)
    go_ret
    exact ⟨rfl, ((Below.refl _ _).alloc (Nat.le_refl _) _).trans (hb1.mono (by simp))⟩
end Go.Proofs.Ytigcmcmapbomoaa
