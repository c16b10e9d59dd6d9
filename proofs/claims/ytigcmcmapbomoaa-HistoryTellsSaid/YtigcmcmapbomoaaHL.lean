/- history: the reference's Right, walked. -/
import Derived.Test.YtigcmcmapbomoaaHK
import Derived.IntWalk
namespace Go.Proofs.Ytigcmcmapbomoaa
open Go.RowKit
set_option linter.unusedVariables false
set_option linter.unusedSimpArgs false

theorem thr_some {ts : List Int} {x : EvL} {t : Int} (h : thr ts x = some t) : ∃ c : Nat, x.ca = c ∧ c < ts.length ∧ ts[c]? = some t := by
  unfold thr at h
  split at h
  · rename_i hc
    exact ⟨x.ca.toNat, by omega, by omega, h⟩
  · cases h
theorem ok1_is {n : Int} {ts : List Int} {l : List EvL} {k : Int} {i : Nat} {x : EvL} (h : l[i]? = some x) : ok1 n ts l k i = (thrOk n ts x && timely x k && prevOk l x i) := by
  show (match l[i]? with | none => true | some x => thrOk n ts x && timely x k && prevOk l x i) = _
  rw [h]
theorem ok2_is {ts : List Int} {l : List EvL} {i j : Nat} {x y : EvL} (h : l[i]? = some x) (h2 : l[j]? = some y) : ok2 ts l i j = (!(decide (thr ts y = thr ts x)) || (ahd y x && decide (y.ca < x.ca))) := by
  show (match l[i]?, l[j]? with | some x, some y => _ | _, _ => true) = _
  rw [h, h2]
theorem all_snoc {p : Nat → Bool} {j : Nat} (h : ∀ i, i < j → p i = true) (hj : p j = true) : ∀ i, i < j + 1 → p i = true := fun i hi => by
  by_cases hij : i = j
  · subst hij; exact hj
  · exact h i (by omega)
theorem timely_no {x : EvL} {k : Int} (h : ¬ ((1 ≤ x.iv ∧ x.iv ≤ k ∧ 1 ≤ x.st) ∧ (x.rs = 0 ∨ (x.iv ≤ x.rs ∧ x.rs ≤ k ∧ x.st ≤ x.rs - x.iv + 1)))) : timely x k = false := by
  cases ht : timely x k with
  | false => rfl
  | true => exact absurd (timely_iff x k |>.1 ht) h

theorem thrOk_some {n : Int} {ts : List Int} {x : EvL} {p q : Bool} (h : (thrOk n ts x && p && q) = true) : ∃ t, thr ts x = some t := by
  unfold thrOk at h
  cases ht : thr ts x with
  | none => rw [ht] at h; simp at h
  | some t => exact ⟨t, rfl⟩

set_option maxRecDepth 100000 in
set_option maxHeartbeats 8000000 in
theorem rright_ok (n : Int) (aT : Option Addr) (bT oT cT : Nat) (ts : List Int) (ao : Option Addr) (b o c : Nat) (l : List EvL) (k : Int) (w : World) (hk : -9223372036854775808 ≤ k ∧ k ≤ 9223372036854775807)
    (htl : ts.length ≤ maxLen) (hta : 0 < ts.length → aT = some ⟨bT, oT, none⟩) (htb : 0 < ts.length → bT < w.heap.size) (htc : ThsAt w bT oT ts)
    (hl : l.length ≤ 100) (ha : 0 < l.length → ao = some ⟨b, o, none⟩) (hb : 0 < l.length → b < w.heap.size) (hc : EvsAt w b o l) :
    Calls Try.prog 7 #[.int .i64 n, .slice aT ts.length cT, .slice ao l.length c, .int .i64 k] w fun e w' => e = .returned (.bool (rrgt n ts l k)) ∧ Below w.heap.size w w' := by
  have HTA := Lib.hid hta
  have HTB := Lib.hid htb
  have HTC := Lib.hid htc
  have HA := Lib.hid ha
  have HB := Lib.hid hb
  have HC := Lib.hid hc
  have hml : (maxLen : Nat) ≤ 9223372036854775807 := by unfold maxLen; omega
  have htl2 : ts.length ≤ 9223372036854775807 := by omega
  clear hta htb htc ha hb hc hml
  go_enter Try.func7, Try.ntmps7
  go_wp2
  go_loopw [15] (fun z wr => ∃ j : Nat, j ≤ l.length ∧ z = .int .i64 j ∧ Hid (∀ i, i < j → ok1 n ts l k i = true) ∧ Below w.heap.size w wr) (fun z _ => l.length - (intOf z).toNat)
  case atStart => exact ⟨0, Nat.zero_le _, rfl, Lib.hid (fun i h => by omega), Below.refl _ _⟩
  case round =>
    obtain ⟨j, hj, rfl, HJ, hbw⟩ := hrel
    by_cases hlt : j < l.length
    · obtain rfl := HA.out (by omega)
      have hbb := HB.out (by omega)
      obtain ⟨x, hx⟩ : ∃ x, l[j]? = some x := ⟨l[j], List.getElem?_eq_getElem hlt⟩
      have hev := HC.out.stays hbw HB.out
      obtain ⟨d0, d1, d2, d3, d4, d5, d6, d7⟩ := hev.cells hx
      obtain ⟨_, ⟨⟨x1, x2⟩, ⟨x3, x4⟩, ⟨x5, x6⟩, ⟨x7, x8⟩, _⟩⟩ := HC.out j x hx
      have HOK : Hid (ok1 n ts l k j = (thrOk n ts x && timely x k && prevOk l x j)) := Lib.hid (ok1_is hx)
      have HNO : Hid (ok1 n ts l k j = false → rrgt n ts l k = false) := Lib.hid (rrgt_no1 hlt)
      have hbr : Below w.heap.size w (wr.alloc (.cells #[.int .i64 x.ca, .int .i64 x.iv, .int .i64 x.rs, .int .i64 x.st, .int .i64 x.er, .int .u64 (x.vl : Int), .slice x.la x.nl x.cl, .slice x.ka x.nk x.ck] 37)) := hbw.alloc hbw.size _
      have HBR := Lib.hid hbr
      have HBW := Lib.hid hbw
      have hwz := hbw.size
      have HEV := Lib.hid hev
      have HX := Lib.hid hx
      clear hev hx hbr hbw
      by_cases h1 : x.ca < 0
      · have e1 : decide (x.ca < 0) = true := decide_eq_true h1
        have hno : Hid (rrgt n ts l k = false) := Lib.hid (HNO.out (by rw [HOK.out, show thrOk n ts x = false from by unfold thrOk thr; rw [if_neg (by omega)]]; simp))
        clear HOK HNO h1
        go_wp2
        go_ret
        exact ⟨by rw [hno.out]; rfl, HBR.out⟩
      have e1 : decide (x.ca < 0) = false := decide_eq_false h1
      by_cases h2 : (ts.length : Int) ≤ x.ca
      · have e2 : decide ((ts.length : Int) ≤ x.ca) = true := decide_eq_true h2
        have hno : Hid (rrgt n ts l k = false) := Lib.hid (HNO.out (by rw [HOK.out, show thrOk n ts x = false from by unfold thrOk thr; rw [if_neg (by omega)]]; simp))
        clear HOK HNO h1 h2
        go_wp2
        go_ret
        exact ⟨by rw [hno.out]; rfl, HBR.out⟩
      have e2 : decide ((ts.length : Int) ≤ x.ca) = false := decide_eq_false h2
      obtain ⟨cn, hcn⟩ : ∃ cn : Nat, x.ca = cn := ⟨x.ca.toNat, by omega⟩
      obtain ⟨t, ht⟩ : ∃ t, ts[cn]? = some t := ⟨ts[cn]'(by omega), List.getElem?_eq_getElem _⟩
      have hth : Hid (thrOk n ts x = (decide (0 ≤ t) && decide (t < n))) := Lib.hid (by unfold thrOk thr; rw [if_pos (by omega), hcn, Int.toNat_natCast, ht])
      obtain rfl := HTA.out (by omega)
      have hbt := HTB.out (by omega)
      have tc := ((HTC.out.stays HBW.out HTB.out) _ _ ht).1
      have hcl : cn < ts.length := by omega
      have hbt2 : bT < wr.heap.size := by omega
      rw [hcn] at d0 e1 e2 HBR
      clear h1 h2 ht x1 x2
      have HCN := Lib.hid hcn
      clear hcn
      by_cases h3 : t < 0
      · have e3 : decide (t < 0) = true := decide_eq_true h3
        have hno : Hid (rrgt n ts l k = false) := Lib.hid (HNO.out (by rw [HOK.out, hth.out, decide_eq_false (by omega : ¬ 0 ≤ t)]; simp))
        clear HOK HNO h3
        go_wp2
        go_ret
        exact ⟨by rw [hno.out]; rfl, HBR.out⟩
      have eh3 : decide (t < 0) = false := decide_eq_false h3
      by_cases h4 : n ≤ t
      · have e3 : decide (n ≤ t) = true := decide_eq_true h4
        have hno : Hid (rrgt n ts l k = false) := Lib.hid (HNO.out (by rw [HOK.out, hth.out, decide_eq_false (by omega : ¬ t < n)]; simp))
        clear HOK HNO h4
        go_wp2
        go_ret
        exact ⟨by rw [hno.out]; rfl, HBR.out⟩
      have eh4 : decide (n ≤ t) = false := decide_eq_false h4
      have hthy : Hid (thrOk n ts x = true) := Lib.hid (by rw [hth.out, decide_eq_true (by omega : 0 ≤ t), decide_eq_true (by omega : t < n)]; rfl)
      clear h3 h4
      have P1 : Hid (∀ W0, W0 = wr.alloc (.cells #[.int .i64 (cn : Int), .int .i64 x.iv, .int .i64 x.rs, .int .i64 x.st, .int .i64 x.er, .int .u64 (x.vl : Int), .slice x.la x.nl x.cl, .slice x.ka x.nk x.ck] 37) → W0.cell? ⟨wr.heap.size, 1, none⟩ = some (.int .i64 x.iv) ∧ W0.cell? ⟨wr.heap.size, 2, none⟩ = some (.int .i64 x.rs) ∧ W0.cell? ⟨wr.heap.size, 3, none⟩ = some (.int .i64 x.st) ∧ Below w.heap.size w W0 ∧ Below wr.heap.size wr W0 ∧ W0.heap.size = wr.heap.size + 1) := Lib.hid (fun W0 h => by subst h; exact ⟨World.cell?_alloc_at _ _ _ _ rfl, World.cell?_alloc_at _ _ _ _ rfl, World.cell?_alloc_at _ _ _ _ rfl, HBR.out, (Below.refl _ _).alloc (Nat.le_refl _) _, World.size_alloc _ _⟩)
      by_cases h5 : x.iv < 1
      · have e5 : decide (x.iv < 1) = true := decide_eq_true h5
        have hno : Hid (rrgt n ts l k = false) := Lib.hid (HNO.out (by rw [HOK.out, show timely x k = false from timely_no (by omega)]; simp))
        clear HOK HNO h5
        go_wp2
        obtain ⟨W0, hW0⟩ : ∃ W0, W0 = wr.alloc (.cells #[.int .i64 (cn : Int), .int .i64 x.iv, .int .i64 x.rs, .int .i64 x.st, .int .i64 x.er, .int .u64 (x.vl : Int), .slice x.la x.nl x.cl, .slice x.ka x.nk x.ck] 37) := ⟨_, rfl⟩
        rw [← hW0]
        obtain ⟨q1, q2, q3, hbq, hbwq, hsq⟩ := P1.out W0 hW0
        clear hW0
        have hlt0 : wr.heap.size < W0.heap.size := by omega
        have r1 : ∀ p : BW W0.heap.size W0, p.v.cell? ⟨wr.heap.size, 1, none⟩ = some (.int .i64 x.iv) := fun p => p.cell hlt0 q1
        have r3 : ∀ p : BW W0.heap.size W0, p.v.cell? ⟨wr.heap.size, 3, none⟩ = some (.int .i64 x.st) := fun p => p.cell hlt0 q3
        clear hsq
        refine wp_region_low (B := W0.heap.size) (w := W0) (by kernel_rfl) (by kernel_rfl) ?_
        repeat (go_big_quiet_step (fail))
        refine wpQuiet_nil ?_
        intro W1 hw'
        obtain ⟨pq, eq1⟩ := hw'
        have hb1 := pq.h
        rw [← eq1] at hb1
        clear eq1 pq
        have q1' := (hb1.cell (p := ⟨wr.heap.size, 1, none⟩) hlt0).trans q1
        have q2' := (hb1.cell (p := ⟨wr.heap.size, 2, none⟩) hlt0).trans q2
        have q3' := (hb1.cell (p := ⟨wr.heap.size, 3, none⟩) hlt0).trans q3
        have HB1 : Hid (Below w.heap.size w W1) := Lib.hid (hbq.trans (hb1.mono hbq.size))
        clear q1 q2 q3 hb1 hbq hbwq r1 r3
        go_wp2
        go_ret
        exact ⟨by rw [hno.out]; rfl, HB1.out⟩
      have eh5 : decide (x.iv < 1) = false := decide_eq_false h5
      by_cases h6 : k < x.iv
      · have e5 : decide (k < x.iv) = true := decide_eq_true h6
        have hno : Hid (rrgt n ts l k = false) := Lib.hid (HNO.out (by rw [HOK.out, show timely x k = false from timely_no (by omega)]; simp))
        clear HOK HNO h6
        go_wp2
        obtain ⟨W0, hW0⟩ : ∃ W0, W0 = wr.alloc (.cells #[.int .i64 (cn : Int), .int .i64 x.iv, .int .i64 x.rs, .int .i64 x.st, .int .i64 x.er, .int .u64 (x.vl : Int), .slice x.la x.nl x.cl, .slice x.ka x.nk x.ck] 37) := ⟨_, rfl⟩
        rw [← hW0]
        obtain ⟨q1, q2, q3, hbq, hbwq, hsq⟩ := P1.out W0 hW0
        clear hW0
        have hlt0 : wr.heap.size < W0.heap.size := by omega
        have r1 : ∀ p : BW W0.heap.size W0, p.v.cell? ⟨wr.heap.size, 1, none⟩ = some (.int .i64 x.iv) := fun p => p.cell hlt0 q1
        have r3 : ∀ p : BW W0.heap.size W0, p.v.cell? ⟨wr.heap.size, 3, none⟩ = some (.int .i64 x.st) := fun p => p.cell hlt0 q3
        clear hsq
        refine wp_region_low (B := W0.heap.size) (w := W0) (by kernel_rfl) (by kernel_rfl) ?_
        repeat (go_big_quiet_step (fail))
        refine wpQuiet_nil ?_
        intro W1 hw'
        obtain ⟨pq, eq1⟩ := hw'
        have hb1 := pq.h
        rw [← eq1] at hb1
        clear eq1 pq
        have q1' := (hb1.cell (p := ⟨wr.heap.size, 1, none⟩) hlt0).trans q1
        have q2' := (hb1.cell (p := ⟨wr.heap.size, 2, none⟩) hlt0).trans q2
        have q3' := (hb1.cell (p := ⟨wr.heap.size, 3, none⟩) hlt0).trans q3
        have HB1 : Hid (Below w.heap.size w W1) := Lib.hid (hbq.trans (hb1.mono hbq.size))
        clear q1 q2 q3 hb1 hbq hbwq r1 r3
        go_wp2
        go_ret
        exact ⟨by rw [hno.out]; rfl, HB1.out⟩
      have eh6 : decide (k < x.iv) = false := decide_eq_false h6
      by_cases h7 : j = 0
      · have ejz : decide ((0 : Int) < (j : Int)) = false := decide_eq_false (by omega)
        have ejz2 : decide (0 < j) = false := decide_eq_false (by omega)
        have HP0 : Hid (prevOk l x j = true) := Lib.hid (by rw [h7]; rfl)
        clear h7
        by_cases h8 : x.st < 1
        · have e8 : decide (x.st < 1) = true := decide_eq_true h8
          have hno : Hid (rrgt n ts l k = false) := Lib.hid (HNO.out (by rw [HOK.out, show timely x k = false from timely_no (by omega)]; simp))
          clear HOK HNO h8
          go_wp2
          obtain ⟨W0, hW0⟩ : ∃ W0, W0 = wr.alloc (.cells #[.int .i64 (cn : Int), .int .i64 x.iv, .int .i64 x.rs, .int .i64 x.st, .int .i64 x.er, .int .u64 (x.vl : Int), .slice x.la x.nl x.cl, .slice x.ka x.nk x.ck] 37) := ⟨_, rfl⟩
          rw [← hW0]
          obtain ⟨q1, q2, q3, hbq, hbwq, hsq⟩ := P1.out W0 hW0
          clear hW0
          have hlt0 : wr.heap.size < W0.heap.size := by omega
          have r1 : ∀ p : BW W0.heap.size W0, p.v.cell? ⟨wr.heap.size, 1, none⟩ = some (.int .i64 x.iv) := fun p => p.cell hlt0 q1
          have r3 : ∀ p : BW W0.heap.size W0, p.v.cell? ⟨wr.heap.size, 3, none⟩ = some (.int .i64 x.st) := fun p => p.cell hlt0 q3
          clear hsq
          refine wp_region_low (B := W0.heap.size) (w := W0) (by kernel_rfl) (by kernel_rfl) ?_
          repeat (go_big_quiet_step (fail))
          refine wpQuiet_nil ?_
          intro W1 hw'
          obtain ⟨pq, eq1⟩ := hw'
          have hb1 := pq.h
          rw [← eq1] at hb1
          clear eq1 pq
          have q1' := (hb1.cell (p := ⟨wr.heap.size, 1, none⟩) hlt0).trans q1
          have q2' := (hb1.cell (p := ⟨wr.heap.size, 2, none⟩) hlt0).trans q2
          have q3' := (hb1.cell (p := ⟨wr.heap.size, 3, none⟩) hlt0).trans q3
          have HB1 : Hid (Below w.heap.size w W1) := Lib.hid (hbq.trans (hb1.mono hbq.size))
          clear q1 q2 q3 hb1 hbq hbwq r1 r3
          go_wp2
          go_ret
          exact ⟨by rw [hno.out]; rfl, HB1.out⟩
        have e8 : decide (x.st < 1) = false := decide_eq_false h8
        go_wp2
        obtain ⟨W0, hW0⟩ : ∃ W0, W0 = wr.alloc (.cells #[.int .i64 (cn : Int), .int .i64 x.iv, .int .i64 x.rs, .int .i64 x.st, .int .i64 x.er, .int .u64 (x.vl : Int), .slice x.la x.nl x.cl, .slice x.ka x.nk x.ck] 37) := ⟨_, rfl⟩
        rw [← hW0]
        obtain ⟨q1, q2, q3, hbq, hbwq, hsq⟩ := P1.out W0 hW0
        clear hW0
        have hlt0 : wr.heap.size < W0.heap.size := by omega
        have r1 : ∀ p : BW W0.heap.size W0, p.v.cell? ⟨wr.heap.size, 1, none⟩ = some (.int .i64 x.iv) := fun p => p.cell hlt0 q1
        have r3 : ∀ p : BW W0.heap.size W0, p.v.cell? ⟨wr.heap.size, 3, none⟩ = some (.int .i64 x.st) := fun p => p.cell hlt0 q3
        clear hsq
        refine wp_region_low (B := W0.heap.size) (w := W0) (by kernel_rfl) (by kernel_rfl) ?_
        repeat (go_big_quiet_step (fail))
        refine wpQuiet_nil ?_
        intro W1 hw'
        obtain ⟨pq, eq1⟩ := hw'
        have hb1 := pq.h
        rw [← eq1] at hb1
        clear eq1 pq
        have q1' := (hb1.cell (p := ⟨wr.heap.size, 1, none⟩) hlt0).trans q1
        have q2' := (hb1.cell (p := ⟨wr.heap.size, 2, none⟩) hlt0).trans q2
        have q3' := (hb1.cell (p := ⟨wr.heap.size, 3, none⟩) hlt0).trans q3
        have HB1 : Hid (Below w.heap.size w W1) := Lib.hid (hbq.trans (hb1.mono hbq.size))
        clear q1 q2 q3 hb1 hbq hbwq r1 r3
        by_cases h9 : x.rs = 0
        · have e9 : (x.rs != 0) = false := by simpa using h9
          have e9b : decide (x.rs = 0) = true := decide_eq_true h9
          have hyes : Hid (ok1 n ts l k j = true) := Lib.hid (by rw [HOK.out, hthy.out, show timely x k = true from (timely_iff x k).2 ⟨by omega, .inl h9⟩, HP0.out]; rfl)
          clear HOK HNO h9
          go_wp2
          go_roundw
          case rel => exact ⟨j + 1, by omega, by go_num, Lib.hid (all_snoc HJ.out hyes.out), HB1.out⟩
          case measure => simp [intOf]; omega
        have e9 : (x.rs != 0) = true := by simpa using h9
        have e9b : decide (x.rs = 0) = false := decide_eq_false h9
        by_cases h10 : x.rs < x.iv
        · have e10 : decide (x.rs < x.iv) = true := decide_eq_true h10
          have hno : Hid (rrgt n ts l k = false) := Lib.hid (HNO.out (by rw [HOK.out, show timely x k = false from timely_no (by omega)]; simp))
          clear HOK HNO h9 h10
          go_wp2
          go_ret
          exact ⟨by rw [hno.out]; rfl, HB1.out⟩
        have e10 : decide (x.rs < x.iv) = false := decide_eq_false h10
        by_cases h11 : k < x.rs
        · have e11 : decide (k < x.rs) = true := decide_eq_true h11
          have hno : Hid (rrgt n ts l k = false) := Lib.hid (HNO.out (by rw [HOK.out, show timely x k = false from timely_no (by omega)]; simp))
          clear HOK HNO h9 h10 h11
          go_wp2
          go_ret
          exact ⟨by rw [hno.out]; rfl, HB1.out⟩
        have e11 : decide (k < x.rs) = false := decide_eq_false h11
        have s1 : IntKind.i64.wrap (x.st - 1) = x.st - 1 := IntWalk.i64_in _ (by omega)
        have s2 : IntKind.i64.wrap (x.rs - x.iv) = x.rs - x.iv := IntWalk.i64_in _ (by omega)
        by_cases h12 : x.rs - x.iv < x.st - 1
        · have e12 : decide (x.rs - x.iv < x.st - 1) = true := decide_eq_true h12
          have hno : Hid (rrgt n ts l k = false) := Lib.hid (HNO.out (by rw [HOK.out, show timely x k = false from timely_no (by omega)]; simp))
          clear HOK HNO h9 h10 h11 h12
          go_wp2
          go_ret
          exact ⟨by rw [hno.out]; rfl, HB1.out⟩
        have e12 : decide (x.rs - x.iv < x.st - 1) = false := decide_eq_false h12
        have hyes : Hid (ok1 n ts l k j = true) := Lib.hid (by rw [HOK.out, hthy.out, show timely x k = true from (timely_iff x k).2 ⟨by omega, .inr ⟨by omega, by omega, by omega⟩⟩, HP0.out]; rfl)
        clear HOK HNO h9 h10 h11 h12
        go_wp2
        go_roundw
        case rel => exact ⟨j + 1, by omega, by go_num, Lib.hid (all_snoc HJ.out hyes.out), HB1.out⟩
        case measure => simp [intOf]; omega
      · obtain ⟨jp, hjp⟩ : ∃ jp, j = jp + 1 := ⟨j - 1, by omega⟩
        have ejp : decide ((0 : Int) < (j : Int)) = true := decide_eq_true (by omega)
        have ejp2 : decide (0 < j) = true := decide_eq_true (by omega)
        have ejw : IntKind.i64.wrap ((j : Int) - 1) = (jp : Int) := by rw [IntWalk.i64_in _ (by omega)]; omega
        have hjpl : jp < l.length := by omega
        obtain ⟨y, hy⟩ : ∃ y, l[jp]? = some y := ⟨_, List.getElem?_eq_getElem hjpl⟩
        have yc := (HEV.out.cells hy).2.1
        have HPV : Hid (prevOk l x j = decide (y.iv < x.iv)) := Lib.hid (by rw [hjp]; exact prevOk_succ hy)
        clear hy h7 hjp
        by_cases h13 : x.iv ≤ y.iv
        · have e13 : decide (x.iv ≤ y.iv) = true := decide_eq_true h13
          have hno : Hid (rrgt n ts l k = false) := Lib.hid (HNO.out (by rw [HOK.out, HPV.out, decide_eq_false (by omega : ¬ y.iv < x.iv)]; simp))
          clear HOK HNO h13
          go_wp2
          obtain ⟨W0, hW0⟩ : ∃ W0, W0 = wr.alloc (.cells #[.int .i64 (cn : Int), .int .i64 x.iv, .int .i64 x.rs, .int .i64 x.st, .int .i64 x.er, .int .u64 (x.vl : Int), .slice x.la x.nl x.cl, .slice x.ka x.nk x.ck] 37) := ⟨_, rfl⟩
          rw [← hW0]
          obtain ⟨q1, q2, q3, hbq, hbwq, hsq⟩ := P1.out W0 hW0
          clear hW0
          have hlt0 : wr.heap.size < W0.heap.size := by omega
          have r1 : ∀ p : BW W0.heap.size W0, p.v.cell? ⟨wr.heap.size, 1, none⟩ = some (.int .i64 x.iv) := fun p => p.cell hlt0 q1
          have r3 : ∀ p : BW W0.heap.size W0, p.v.cell? ⟨wr.heap.size, 3, none⟩ = some (.int .i64 x.st) := fun p => p.cell hlt0 q3
          have yb : ∀ p : BW W0.heap.size W0, p.v.cell? ⟨b, o + jp * 8 + 1, none⟩ = some (.int .i64 y.iv) := fun p => p.cell (by show b < _; omega) ((hbwq.cell (by show b < _; omega)).trans yc)
          clear hsq
          refine wp_region_low (B := W0.heap.size) (w := W0) (by kernel_rfl) (by kernel_rfl) ?_
          repeat (go_big_quiet_step (fail))
          refine wpQuiet_nil ?_
          intro W1 hw'
          obtain ⟨pq, eq1⟩ := hw'
          have hb1 := pq.h
          rw [← eq1] at hb1
          clear eq1 pq
          have q1' := (hb1.cell (p := ⟨wr.heap.size, 1, none⟩) hlt0).trans q1
          have q2' := (hb1.cell (p := ⟨wr.heap.size, 2, none⟩) hlt0).trans q2
          have q3' := (hb1.cell (p := ⟨wr.heap.size, 3, none⟩) hlt0).trans q3
          have HB1 : Hid (Below w.heap.size w W1) := Lib.hid (hbq.trans (hb1.mono hbq.size))
          clear q1 q2 q3 hb1 hbq hbwq r1 r3
          go_wp2
          go_ret
          exact ⟨by rw [hno.out]; rfl, HB1.out⟩
        have e13 : decide (x.iv ≤ y.iv) = false := decide_eq_false h13
        have HPY : Hid (prevOk l x j = true) := Lib.hid (by rw [HPV.out, decide_eq_true (by omega : y.iv < x.iv)])
        clear h13
        by_cases h8 : x.st < 1
        · have e8 : decide (x.st < 1) = true := decide_eq_true h8
          have hno : Hid (rrgt n ts l k = false) := Lib.hid (HNO.out (by rw [HOK.out, show timely x k = false from timely_no (by omega)]; simp))
          clear HOK HNO h8
          go_wp2
          obtain ⟨W0, hW0⟩ : ∃ W0, W0 = wr.alloc (.cells #[.int .i64 (cn : Int), .int .i64 x.iv, .int .i64 x.rs, .int .i64 x.st, .int .i64 x.er, .int .u64 (x.vl : Int), .slice x.la x.nl x.cl, .slice x.ka x.nk x.ck] 37) := ⟨_, rfl⟩
          rw [← hW0]
          obtain ⟨q1, q2, q3, hbq, hbwq, hsq⟩ := P1.out W0 hW0
          clear hW0
          have hlt0 : wr.heap.size < W0.heap.size := by omega
          have r1 : ∀ p : BW W0.heap.size W0, p.v.cell? ⟨wr.heap.size, 1, none⟩ = some (.int .i64 x.iv) := fun p => p.cell hlt0 q1
          have r3 : ∀ p : BW W0.heap.size W0, p.v.cell? ⟨wr.heap.size, 3, none⟩ = some (.int .i64 x.st) := fun p => p.cell hlt0 q3
          have yb : ∀ p : BW W0.heap.size W0, p.v.cell? ⟨b, o + jp * 8 + 1, none⟩ = some (.int .i64 y.iv) := fun p => p.cell (by show b < _; omega) ((hbwq.cell (by show b < _; omega)).trans yc)
          clear hsq
          refine wp_region_low (B := W0.heap.size) (w := W0) (by kernel_rfl) (by kernel_rfl) ?_
          repeat (go_big_quiet_step (fail))
          refine wpQuiet_nil ?_
          intro W1 hw'
          obtain ⟨pq, eq1⟩ := hw'
          have hb1 := pq.h
          rw [← eq1] at hb1
          clear eq1 pq
          have q1' := (hb1.cell (p := ⟨wr.heap.size, 1, none⟩) hlt0).trans q1
          have q2' := (hb1.cell (p := ⟨wr.heap.size, 2, none⟩) hlt0).trans q2
          have q3' := (hb1.cell (p := ⟨wr.heap.size, 3, none⟩) hlt0).trans q3
          have HB1 : Hid (Below w.heap.size w W1) := Lib.hid (hbq.trans (hb1.mono hbq.size))
          clear q1 q2 q3 hb1 hbq hbwq r1 r3
          go_wp2
          go_ret
          exact ⟨by rw [hno.out]; rfl, HB1.out⟩
        have e8 : decide (x.st < 1) = false := decide_eq_false h8
        go_wp2
        obtain ⟨W0, hW0⟩ : ∃ W0, W0 = wr.alloc (.cells #[.int .i64 (cn : Int), .int .i64 x.iv, .int .i64 x.rs, .int .i64 x.st, .int .i64 x.er, .int .u64 (x.vl : Int), .slice x.la x.nl x.cl, .slice x.ka x.nk x.ck] 37) := ⟨_, rfl⟩
        rw [← hW0]
        obtain ⟨q1, q2, q3, hbq, hbwq, hsq⟩ := P1.out W0 hW0
        clear hW0
        have hlt0 : wr.heap.size < W0.heap.size := by omega
        have r1 : ∀ p : BW W0.heap.size W0, p.v.cell? ⟨wr.heap.size, 1, none⟩ = some (.int .i64 x.iv) := fun p => p.cell hlt0 q1
        have r3 : ∀ p : BW W0.heap.size W0, p.v.cell? ⟨wr.heap.size, 3, none⟩ = some (.int .i64 x.st) := fun p => p.cell hlt0 q3
        have yb : ∀ p : BW W0.heap.size W0, p.v.cell? ⟨b, o + jp * 8 + 1, none⟩ = some (.int .i64 y.iv) := fun p => p.cell (by show b < _; omega) ((hbwq.cell (by show b < _; omega)).trans yc)
        clear hsq
        refine wp_region_low (B := W0.heap.size) (w := W0) (by kernel_rfl) (by kernel_rfl) ?_
        repeat (go_big_quiet_step (fail))
        refine wpQuiet_nil ?_
        intro W1 hw'
        obtain ⟨pq, eq1⟩ := hw'
        have hb1 := pq.h
        rw [← eq1] at hb1
        clear eq1 pq
        have q1' := (hb1.cell (p := ⟨wr.heap.size, 1, none⟩) hlt0).trans q1
        have q2' := (hb1.cell (p := ⟨wr.heap.size, 2, none⟩) hlt0).trans q2
        have q3' := (hb1.cell (p := ⟨wr.heap.size, 3, none⟩) hlt0).trans q3
        have HB1 : Hid (Below w.heap.size w W1) := Lib.hid (hbq.trans (hb1.mono hbq.size))
        clear q1 q2 q3 hb1 hbq hbwq r1 r3
        by_cases h9 : x.rs = 0
        · have e9 : (x.rs != 0) = false := by simpa using h9
          have e9b : decide (x.rs = 0) = true := decide_eq_true h9
          have hyes : Hid (ok1 n ts l k j = true) := Lib.hid (by rw [HOK.out, hthy.out, show timely x k = true from (timely_iff x k).2 ⟨by omega, .inl h9⟩, HPY.out]; rfl)
          clear HOK HNO h9
          go_wp2
          go_roundw
          case rel => exact ⟨j + 1, by omega, by go_num, Lib.hid (all_snoc HJ.out hyes.out), HB1.out⟩
          case measure => simp [intOf]; omega
        have e9 : (x.rs != 0) = true := by simpa using h9
        have e9b : decide (x.rs = 0) = false := decide_eq_false h9
        by_cases h10 : x.rs < x.iv
        · have e10 : decide (x.rs < x.iv) = true := decide_eq_true h10
          have hno : Hid (rrgt n ts l k = false) := Lib.hid (HNO.out (by rw [HOK.out, show timely x k = false from timely_no (by omega)]; simp))
          clear HOK HNO h9 h10
          go_wp2
          go_ret
          exact ⟨by rw [hno.out]; rfl, HB1.out⟩
        have e10 : decide (x.rs < x.iv) = false := decide_eq_false h10
        by_cases h11 : k < x.rs
        · have e11 : decide (k < x.rs) = true := decide_eq_true h11
          have hno : Hid (rrgt n ts l k = false) := Lib.hid (HNO.out (by rw [HOK.out, show timely x k = false from timely_no (by omega)]; simp))
          clear HOK HNO h9 h10 h11
          go_wp2
          go_ret
          exact ⟨by rw [hno.out]; rfl, HB1.out⟩
        have e11 : decide (k < x.rs) = false := decide_eq_false h11
        have s1 : IntKind.i64.wrap (x.st - 1) = x.st - 1 := IntWalk.i64_in _ (by omega)
        have s2 : IntKind.i64.wrap (x.rs - x.iv) = x.rs - x.iv := IntWalk.i64_in _ (by omega)
        by_cases h12 : x.rs - x.iv < x.st - 1
        · have e12 : decide (x.rs - x.iv < x.st - 1) = true := decide_eq_true h12
          have hno : Hid (rrgt n ts l k = false) := Lib.hid (HNO.out (by rw [HOK.out, show timely x k = false from timely_no (by omega)]; simp))
          clear HOK HNO h9 h10 h11 h12
          go_wp2
          go_ret
          exact ⟨by rw [hno.out]; rfl, HB1.out⟩
        have e12 : decide (x.rs - x.iv < x.st - 1) = false := decide_eq_false h12
        have hyes : Hid (ok1 n ts l k j = true) := Lib.hid (by rw [HOK.out, hthy.out, show timely x k = true from (timely_iff x k).2 ⟨by omega, .inr ⟨by omega, by omega, by omega⟩⟩, HPY.out]; rfl)
        clear HOK HNO h9 h10 h11 h12
        go_wp2
        go_roundw
        case rel => exact ⟨j + 1, by omega, by go_num, Lib.hid (all_snoc HJ.out hyes.out), HB1.out⟩
        case measure => simp [intOf]; omega
    · obtain rfl : j = l.length := by omega
      have hwz := hbw.size
      go_wp2
      go_loopw [110] (fun z wq => ∃ i : Nat, i ≤ l.length ∧ z = .int .i64 i ∧ Hid (∀ i2, i2 < i → ∀ j, j < i2 → ok2 ts l i2 j = true) ∧ Below w.heap.size w wq) (fun z _ => l.length - (intOf z).toNat)
      case atStart => exact ⟨0, Nat.zero_le _, rfl, Lib.hid (fun i h => by omega), hbw⟩
      case round =>
        obtain ⟨i, hi, rfl, HI, hbi⟩ := hrel
        by_cases hil : i < l.length
        · obtain rfl := HA.out (by omega)
          have hbb := HB.out (by omega)
          obtain ⟨x, hx⟩ : ∃ x, l[i]? = some x := ⟨_, List.getElem?_eq_getElem hil⟩
          have hx1 := HJ.out i hil
          rw [ok1_is hx] at hx1
          obtain ⟨tx, htx⟩ := thrOk_some hx1
          obtain ⟨cx, hcx, hcl, htc⟩ := thr_some htx
          obtain rfl := HTA.out (by omega)
          have hbt := HTB.out (by omega)
          obtain ⟨xca, xiv, xrs, xst, xer, xvl, xla, xnl, xcl, xka, xnk, xck⟩ := x
          dsimp only at hcx
          subst hcx
          clear hx1
          have HX := Lib.hid hx
          have HTX := Lib.hid htx
          have HCX := Lib.hid htc
          clear hx htx htc
          go_wp2
          go_loopw [114] (fun z wq => ∃ j : Nat, j ≤ i ∧ z = .int .i64 j ∧ Hid (∀ j2, j2 < j → ok2 ts l i j2 = true) ∧ Below w.heap.size w wq) (fun z _ => i - (intOf z).toNat)
          case atStart => exact ⟨0, Nat.zero_le _, rfl, Lib.hid (fun i h => by omega), hbi⟩
          case round =>
            obtain ⟨j, hj, rfl, HJJ, hbj⟩ := hrel
            by_cases hjl : j < i
            · obtain ⟨y, hy⟩ : ∃ y, l[j]? = some y := ⟨_, List.getElem?_eq_getElem (by omega)⟩
              have hy1 := HJ.out j (by omega)
              rw [ok1_is hy] at hy1
              obtain ⟨ty, hty⟩ := thrOk_some hy1
              obtain ⟨cy, hcy, hcyl, htcy⟩ := thr_some hty
              obtain ⟨yca, yiv, yrs, yst, yer, yvl, yla, ynl, ycl, yka, ynk, yck⟩ := y
              dsimp only at hcy
              subst hcy
              clear hy1
              have hevs := HC.out.stays hbj HB.out
              obtain ⟨a0, a1, a2, a3, a4, a5, a6, a7⟩ := hevs.cells HX.out
              obtain ⟨b0, b1, b2, b3, b4, b5, b6, b7⟩ := hevs.cells hy
              have tcx := ((HTC.out.stays hbj HTB.out) _ _ HCX.out).1
              have tcy := ((HTC.out.stays hbj HTB.out) _ _ htcy).1
              dsimp only at a0 a1 a2 a3 a4 a5 a6 a7 b0 b1 b2 b3 b4 b5 b6 b7
              have hwj : b < wr.heap.size := by have := hbj.size; omega
              have hwt : bT < wr.heap.size := by have := hbj.size; omega
              have Pa0 : ∀ p : BW wr.heap.size wr, p.v.cell? ⟨b, o + i * 8, none⟩ = some (.int .i64 (cx : Int)) := fun p => p.cell hwj a0
              have Pa1 : ∀ p : BW wr.heap.size wr, p.v.cell? ⟨b, o + i * 8 + 1, none⟩ = some (.int .i64 xiv) := fun p => p.cell hwj a1
              have Pa2 : ∀ p : BW wr.heap.size wr, p.v.cell? ⟨b, o + i * 8 + 2, none⟩ = some (.int .i64 xrs) := fun p => p.cell hwj a2
              have Pa3 : ∀ p : BW wr.heap.size wr, p.v.cell? ⟨b, o + i * 8 + 3, none⟩ = some (.int .i64 xst) := fun p => p.cell hwj a3
              have Pa4 : ∀ p : BW wr.heap.size wr, p.v.cell? ⟨b, o + i * 8 + 4, none⟩ = some (.int .i64 xer) := fun p => p.cell hwj a4
              have Pa5 : ∀ p : BW wr.heap.size wr, p.v.cell? ⟨b, o + i * 8 + 5, none⟩ = some (.int .u64 (xvl : Int)) := fun p => p.cell hwj a5
              have Pa6 : ∀ p : BW wr.heap.size wr, p.v.cell? ⟨b, o + i * 8 + 6, none⟩ = some (.slice xla xnl xcl) := fun p => p.cell hwj a6
              have Pa7 : ∀ p : BW wr.heap.size wr, p.v.cell? ⟨b, o + i * 8 + 7, none⟩ = some (.slice xka xnk xck) := fun p => p.cell hwj a7
              have Pb0 : ∀ p : BW wr.heap.size wr, p.v.cell? ⟨b, o + j * 8, none⟩ = some (.int .i64 (cy : Int)) := fun p => p.cell hwj b0
              have Pb1 : ∀ p : BW wr.heap.size wr, p.v.cell? ⟨b, o + j * 8 + 1, none⟩ = some (.int .i64 yiv) := fun p => p.cell hwj b1
              have Pb2 : ∀ p : BW wr.heap.size wr, p.v.cell? ⟨b, o + j * 8 + 2, none⟩ = some (.int .i64 yrs) := fun p => p.cell hwj b2
              have Pb3 : ∀ p : BW wr.heap.size wr, p.v.cell? ⟨b, o + j * 8 + 3, none⟩ = some (.int .i64 yst) := fun p => p.cell hwj b3
              have Pb4 : ∀ p : BW wr.heap.size wr, p.v.cell? ⟨b, o + j * 8 + 4, none⟩ = some (.int .i64 yer) := fun p => p.cell hwj b4
              have Pb5 : ∀ p : BW wr.heap.size wr, p.v.cell? ⟨b, o + j * 8 + 5, none⟩ = some (.int .u64 (yvl : Int)) := fun p => p.cell hwj b5
              have Pb6 : ∀ p : BW wr.heap.size wr, p.v.cell? ⟨b, o + j * 8 + 6, none⟩ = some (.slice yla ynl ycl) := fun p => p.cell hwj b6
              have Pb7 : ∀ p : BW wr.heap.size wr, p.v.cell? ⟨b, o + j * 8 + 7, none⟩ = some (.slice yka ynk yck) := fun p => p.cell hwj b7
              have Ptcx : ∀ p : BW wr.heap.size wr, p.v.cell? ⟨bT, oT + cx * 6, none⟩ = some (.int .i64 tx) := fun p => p.cell hwt tcx
              have Ptcy : ∀ p : BW wr.heap.size wr, p.v.cell? ⟨bT, oT + cy * 6, none⟩ = some (.int .i64 ty) := fun p => p.cell hwt tcy
              have HOK : Hid (ok2 ts l i j = (!(decide (ty = tx)) || (ahd ⟨(cy : Int), yiv, yrs, yst, yer, yvl, yla, ynl, ycl, yka, ynk, yck⟩ ⟨(cx : Int), xiv, xrs, xst, xer, xvl, xla, xnl, xcl, xka, xnk, xck⟩ && decide ((cy : Int) < cx)))) := Lib.hid (by rw [ok2_is HX.out hy, hty, HTX.out]; simp)
              have RA : Hid (∀ w, Calls Try.prog 8 #[.agg #[.int .i64 (cy : Int), .int .i64 yiv, .int .i64 yrs, .int .i64 yst, .int .i64 yer, .int .u64 (yvl : Int), .slice yla ynl ycl, .slice yka ynk yck], .agg #[.int .i64 (cx : Int), .int .i64 xiv, .int .i64 xrs, .int .i64 xst, .int .i64 xer, .int .u64 (xvl : Int), .slice xla xnl xcl, .slice xka xnk xck]] w fun e w' => e = .returned (.bool (ahd ⟨(cy : Int), yiv, yrs, yst, yer, yvl, yla, ynl, ycl, yka, ynk, yck⟩ ⟨(cx : Int), xiv, xrs, xst, xer, xvl, xla, xnl, xcl, xka, xnk, xck⟩)) ∧ Below w.heap.size w w') := Lib.hid (fun w => rahead_ok ⟨(cy : Int), yiv, yrs, yst, yer, yvl, yla, ynl, ycl, yka, ynk, yck⟩ ⟨(cx : Int), xiv, xrs, xst, xer, xvl, xla, xnl, xcl, xka, xnk, xck⟩ w)
              have HNO : Hid (ok2 ts l i j = false → rrgt n ts l k = false) := Lib.hid (rrgt_no2 hil hjl)
              have HBJ := Lib.hid hbj
              clear a0 a1 a2 a3 a4 a5 a6 a7 b0 b1 b2 b3 b4 b5 b6 b7 tcx tcy hevs hy hty htcy hbj hbi hbw
              generalize ahd ⟨(cy : Int), yiv, yrs, yst, yer, yvl, yla, ynl, ycl, yka, ynk, yck⟩ ⟨(cx : Int), xiv, xrs, xst, xer, xvl, xla, xnl, xcl, xka, xnk, xck⟩ = A at *
              by_cases hte : ty = tx
              · have e1 : decide (ty = tx) = true := decide_eq_true hte
                have e1b : (ty == tx) = true := by simpa using hte
                cases A with
                | false =>
                  have hno : Hid (rrgt n ts l k = false) := Lib.hid (HNO.out (by rw [HOK.out, e1]; simp))
                  clear HOK HNO hte
                  go_wp2
                  refine wp_region_low (B := wr.heap.size) (w := wr) (by kernel_rfl) (by kernel_rfl) ?_
                  repeat (go_big_quiet_step ((go_at_call 8; exact low_call (RA.out _) (Nat.le_refl _))))
                  refine wpQuiet_nil ?_
                  intro W1 hw'
                  obtain ⟨pq, eq1⟩ := hw'
                  have hb1 := pq.h
                  rw [← eq1] at hb1
                  clear eq1 pq
                  have HB1 : Hid (Below w.heap.size w W1) := Lib.hid (HBJ.out.trans (hb1.mono HBJ.out.size))
                  clear hb1
                  go_wp2
                  go_ret
                  exact ⟨by rw [hno.out]; rfl, HB1.out⟩
                | true =>
                  by_cases hca : (cx : Int) ≤ cy
                  · have e2 : decide ((cx : Int) ≤ cy) = true := decide_eq_true hca
                    have e2n : decide (cx ≤ cy) = true := decide_eq_true (by omega)
                    have hno : Hid (rrgt n ts l k = false) := Lib.hid (HNO.out (by rw [HOK.out, e1, decide_eq_false (by omega : ¬ (cy : Int) < cx)]; simp))
                    clear HOK HNO hte hca
                    go_wp2
                    refine wp_region_low (B := wr.heap.size) (w := wr) (by kernel_rfl) (by kernel_rfl) ?_
                    repeat (go_big_quiet_step ((go_at_call 8; exact low_call (RA.out _) (Nat.le_refl _))))
                    refine wpQuiet_nil ?_
                    intro W1 hw'
                    obtain ⟨pq, eq1⟩ := hw'
                    have hb1 := pq.h
                    rw [← eq1] at hb1
                    clear eq1 pq
                    have HB1 : Hid (Below w.heap.size w W1) := Lib.hid (HBJ.out.trans (hb1.mono HBJ.out.size))
                    clear hb1
                    go_wp2
                    go_ret
                    exact ⟨by rw [hno.out]; rfl, HB1.out⟩
                  · have e2 : decide ((cx : Int) ≤ cy) = false := decide_eq_false hca
                    have e2n : decide (cx ≤ cy) = false := decide_eq_false (by omega)
                    have hyes : Hid (ok2 ts l i j = true) := Lib.hid (by rw [HOK.out, e1, decide_eq_true (by omega : (cy : Int) < cx)]; simp)
                    clear HOK HNO hte hca
                    go_wp2
                    refine wp_region_low (B := wr.heap.size) (w := wr) (by kernel_rfl) (by kernel_rfl) ?_
                    repeat (go_big_quiet_step ((go_at_call 8; exact low_call (RA.out _) (Nat.le_refl _))))
                    refine wpQuiet_nil ?_
                    intro W1 hw'
                    obtain ⟨pq, eq1⟩ := hw'
                    have hb1 := pq.h
                    rw [← eq1] at hb1
                    clear eq1 pq
                    have HB1 : Hid (Below w.heap.size w W1) := Lib.hid (HBJ.out.trans (hb1.mono HBJ.out.size))
                    clear hb1
                    go_wp2
                    go_roundw
                    case rel => exact ⟨j + 1, by omega, by go_num, Lib.hid (all_snoc HJJ.out hyes.out), HB1.out⟩
                    case measure => simp [intOf]; omega
              · have e1 : decide (ty = tx) = false := decide_eq_false hte
                have e1b : (ty == tx) = false := by simpa using hte
                have hyes : Hid (ok2 ts l i j = true) := Lib.hid (by rw [HOK.out, e1]; simp)
                clear HOK HNO hte
                go_wp2
                refine wp_region_low (B := wr.heap.size) (w := wr) (by kernel_rfl) (by kernel_rfl) ?_
                repeat (go_big_quiet_step ((go_at_call 8; exact low_call (RA.out _) (Nat.le_refl _))))
                refine wpQuiet_nil ?_
                intro W1 hw'
                obtain ⟨pq, eq1⟩ := hw'
                have hb1 := pq.h
                rw [← eq1] at hb1
                clear eq1 pq
                have HB1 : Hid (Below w.heap.size w W1) := Lib.hid (HBJ.out.trans (hb1.mono HBJ.out.size))
                clear hb1
                go_wp2
                go_roundw
                case rel => exact ⟨j + 1, by omega, by go_num, Lib.hid (all_snoc HJJ.out hyes.out), HB1.out⟩
                case measure => simp [intOf]; omega
            · obtain rfl : j = i := by omega
              go_wp2
              go_roundw
              case rel => exact ⟨j + 1, by omega, by go_num, Lib.hid (fun i2 h j2 h2 => by
                by_cases hq : i2 = j
                · subst hq; exact HJJ.out j2 h2
                · exact HI.out i2 (by omega) j2 h2), hbj⟩
              case measure => simp [intOf]; omega
        · obtain rfl : i = l.length := by omega
          have hyes : Hid (rrgt n ts l k = true) := Lib.hid (rrgt_iff.2 ⟨HJ.out, HI.out⟩)
          go_wp2
          go_ret
          exact ⟨by rw [hyes.out]; rfl, hbi⟩
end Go.Proofs.Ytigcmcmapbomoaa
