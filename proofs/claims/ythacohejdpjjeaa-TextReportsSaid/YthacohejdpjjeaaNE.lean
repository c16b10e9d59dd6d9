/- TextReports: the law. -/
import Derived.Test.YthacohejdpjjeaaND
import Derived.Test.YthacohejdpjjeaaCA
namespace Go.Proofs.Ythacohejdpjjeaa
open Go.RowKit Go.Lib Go.Sort
set_option linter.unusedVariables false
set_option linter.unusedSimpArgs false

set_option maxHeartbeats 4000000 in
set_option maxRecDepth 100000 in
theorem reports_any (x : RpX) (w : World) (hx : RpAt w x) (hwf : x.l.length ≤ 9223372036854775807 ∧ ∀ p ∈ x.l, p.1.lw.length ≤ 9223372036854775807 ∧ p.1.kw.length ≤ 9223372036854775807) :
    Calls Try.prog 5 #[.slice x.ca x.cs.length x.cc, .agg #[.slice x.ea x.l.length x.ec, .slice x.wa x.wn x.wc, .int .i64 x.rr, .int .i64 x.wt, .int .i64 x.sw, .int .i64 x.ad, .int .i64 x.fa, .int .i64 x.tk, .int .i64 x.idl]] w fun e w' => e = .returned (.bool true) ∧ Below w.heap.size w w' := by
  obtain ⟨w1, hw1⟩ : ∃ w1, w.alloc (.cells #[.slice x.ea x.l.length x.ec, .slice x.wa x.wn x.wc, .int .i64 x.rr, .int .i64 x.wt, .int .i64 x.sw, .int .i64 x.ad, .int .i64 x.fa, .int .i64 x.tk, .int .i64 x.idl] 55) = w1 := ⟨_, rfl⟩
  have hb1 : Below w.heap.size w w1 := by rw [← hw1]; exact (Below.refl _ _).alloc (Nat.le_refl _) _
  obtain ⟨B, hBB⟩ : ∃ B, w.heap.size = B := ⟨_, rfl⟩
  have hst : StB w1 B 55 [.slice x.ea x.l.length x.ec, .slice x.wa x.wn x.wc, .int .i64 x.rr, .int .i64 x.wt, .int .i64 x.sw, .int .i64 x.ad, .int .i64 x.fa, .int .i64 x.tk, .int .i64 x.idl] := by rw [← hw1, ← hBB]; exact StB.new _ _ _
  have hB1 : B < w1.heap.size := World.block_lt_of_cell? _ _ (hst.cell (i := 0) rfl)
  have HT : Hid (∀ W, Calls Try.prog 15 #[] W fun e w' => e = .returned (.bool true) ∧ Below W.heap.size W w') := Lib.hid three_any
  have HAT := Lib.hid (hx.below hb1)
  have HB1 := Lib.hid hb1
  have HST := Lib.hid hst
  have HWF := Lib.hid hwf
  have HRP : Hid (RpSm x → ∃ S, (∀ W, Below w1.heap.size w1 W → Calls Try.prog 16 #[.slice x.ca x.cs.length x.cc, .agg #[.slice x.ea x.l.length x.ec, .slice x.wa x.wn x.wc, .int .i64 x.rr, .int .i64 x.wt, .int .i64 x.sw, .int .i64 x.ad, .int .i64 x.fa, .int .i64 x.tk, .int .i64 x.idl]] W fun e w' => e = .returned (.string S) ∧ Below W.heap.size W w') ∧ ∀ W, Below w1.heap.size w1 W → Calls Try.prog 17 #[.slice x.ca x.cs.length x.cc, .agg #[.slice x.ea x.l.length x.ec, .slice x.wa x.wn x.wc, .int .i64 x.rr, .int .i64 x.wt, .int .i64 x.sw, .int .i64 x.ad, .int .i64 x.fa, .int .i64 x.tk, .int .i64 x.idl]] W fun e w' => e = .returned (.string S) ∧ Below W.heap.size W w') := Lib.hid (fun hsm =>
    ⟨strB (repL x), fun W hW => report_any x W ((hx.below hb1).below hW) hsm, fun W hW => rreport_any x W ((hx.below hb1).below hW) hsm⟩)
  have HRS : Hid (x.l.length ≤ 200 → (∀ (i : Nat) (p : EvX × EvS), i < x.l.length → x.l[i]? = some p → p.1.lw.length ≤ 200 ∧ p.1.kw.length ≤ 200) → RpSm x) := Lib.hid (fun h1 h2 => ⟨h1, fun p hp => by
    obtain ⟨i, hi⟩ := List.mem_iff_getElem?.1 hp
    exact h2 i p (List.getElem?_eq_some_iff.1 hi).1 hi⟩)
  clear hx hb1 hst hwf
  obtain ⟨cs, l, ca, cb, co, cc, ea, eb, eo, ec, wa, wn, wc, rr, wt, sw, ad, fa, tk, idl⟩ := x
  dsimp only at HST HWF HRP HRS hw1 ⊢
  have HW1 := Lib.hid hw1
  have HBB := Lib.hid hBB
  have p0 := HST.out.cell (i := 0) rfl
  clear hw1 hBB
  have hll := HWF.out.1
  by_cases h2 : 200 < l.length
  · have d2 : (200 : Int) < (l.length : Int) := by omega
    go_enter Try.func5, Try.ntmps5
    go_upto_region 1 with fail
    rw [HW1.out, HBB.out]
    go_wp2_with fail
    refine (HT.out _).mono ?_
    rintro e w2 ⟨rfl, hb2⟩
    have HB2 := Lib.hid (HB1.out.trans (hb2.mono HB1.out.size))
    clear hb2
    go_wp2_with fail
    go_ret
    exact ⟨rfl, HB2.out⟩
  · have d2 : ¬ (200 : Int) < (l.length : Int) := by omega
    go_enter Try.func5, Try.ntmps5
    go_upto_region 1 with fail
    rw [HW1.out, HBB.out]
    go_wp2_with fail
    go_loop [14] (fun k => ∃ j : Nat, j ≤ l.length ∧ k = .int .i64 j ∧ Hid (∀ (i : Nat) (p : EvX × EvS), i < j → l[i]? = some p → p.1.lw.length ≤ 200 ∧ p.1.kw.length ≤ 200)) (fun k => l.length - (RowKit.intOf k).toNat)
    case atStart => exact ⟨0, Nat.zero_le _, rfl, Lib.hid (fun i p h => absurd h (by omega))⟩
    case round =>
      obtain ⟨j, hj, rfl, hp⟩ := hrel
      by_cases hlt : j < l.length
      · have hea := HAT.out.ea (by show 0 < l.length; omega)
        dsimp only at hea
        subst hea
        obtain ⟨p, hp1⟩ : ∃ p, l[j]? = some p := ⟨l[j], List.getElem?_eq_getElem hlt⟩
        have hcel : ∀ (k : Nat) (u : Value), (evVs p.1 p.2)[k]? = some u → w1.cell? ⟨eb, eo + j * 8 + k, none⟩ = some u := fun k u hu => HAT.out.ec j p hp1 k u hu
        have hwl := HWF.out.2 p (List.mem_of_getElem? hp1)
        have HP1 := Lib.hid hp1
        clear hp1
        obtain ⟨⟨eca, iv, rs, st, er, vl, lw, kw⟩, s⟩ := p
        obtain ⟨la, lb, lo, lc, ka, kb, ko, kc⟩ := s
        dsimp only at hcel hwl
        have e6 := hcel 6 _ rfl
        have e7 := hcel 7 _ rfl
        clear hcel
        by_cases h6 : 200 < lw.length
        · have d6 : decide ((200 : Int) < (lw.length : Int)) = true := decide_eq_true (by omega)
          go_wp2_with fail
          refine (HT.out _).mono ?_
          rintro e w2 ⟨rfl, hb2⟩
          have HB2 := Lib.hid (HB1.out.trans (hb2.mono HB1.out.size))
          clear hb2
          go_wp2_with fail
          go_ret
          exact ⟨rfl, HB2.out⟩
        · have d6 : decide ((200 : Int) < (lw.length : Int)) = false := decide_eq_false (by omega)
          by_cases h7 : 200 < kw.length
          · have d7 : decide ((200 : Int) < (kw.length : Int)) = true := decide_eq_true (by omega)
            go_wp2_with fail
            refine (HT.out _).mono ?_
            rintro e w2 ⟨rfl, hb2⟩
            have HB2 := Lib.hid (HB1.out.trans (hb2.mono HB1.out.size))
            clear hb2
            go_wp2_with fail
            go_ret
            exact ⟨rfl, HB2.out⟩
          · have d7 : decide ((200 : Int) < (kw.length : Int)) = false := decide_eq_false (by omega)
            have HP : Hid (∀ (i : Nat) (p : EvX × EvS), i < j + 1 → l[i]? = some p → p.1.lw.length ≤ 200 ∧ p.1.kw.length ≤ 200) := Lib.hid (fun i p hi h => by
              by_cases he : i = j
              · subst he
                rw [HP1.out] at h
                cases h
                dsimp only
                omega
              · exact hp.out i p (by omega) h)
            clear h6 h7
            go_wp2_with fail
            go_round
            case rel => exact ⟨j + 1, by omega, by go_num, HP⟩
            case measure => simp [RowKit.intOf]; omega
      · have hj2 : j = l.length := by omega
        obtain ⟨S, hr1, hr2⟩ := HRP.out (HRS.out (by omega) (by rw [hj2] at hp; exact hp.out))
        have HR1 := Lib.hid hr1
        have HR2 := Lib.hid hr2
        have hSS : (S.toList == S.toList) = true := by simp
        clear hr1 hr2 hp
        subst hj2
        have l0 : ∀ p : BW w1.heap.size w1, p.v.cell? ⟨B, 0, none⟩ = some (.slice ea l.length ec) := fun p => p.cell hB1 (HST.out.cell (i := 0) rfl)
        have l1 : ∀ p : BW w1.heap.size w1, p.v.cell? ⟨B, 1, none⟩ = some (.slice wa wn wc) := fun p => p.cell hB1 (HST.out.cell (i := 1) rfl)
        have l2 : ∀ p : BW w1.heap.size w1, p.v.cell? ⟨B, 2, none⟩ = some (.int .i64 rr) := fun p => p.cell hB1 (HST.out.cell (i := 2) rfl)
        have l3 : ∀ p : BW w1.heap.size w1, p.v.cell? ⟨B, 3, none⟩ = some (.int .i64 wt) := fun p => p.cell hB1 (HST.out.cell (i := 3) rfl)
        have l4 : ∀ p : BW w1.heap.size w1, p.v.cell? ⟨B, 4, none⟩ = some (.int .i64 sw) := fun p => p.cell hB1 (HST.out.cell (i := 4) rfl)
        have l5 : ∀ p : BW w1.heap.size w1, p.v.cell? ⟨B, 5, none⟩ = some (.int .i64 ad) := fun p => p.cell hB1 (HST.out.cell (i := 5) rfl)
        have l6 : ∀ p : BW w1.heap.size w1, p.v.cell? ⟨B, 6, none⟩ = some (.int .i64 fa) := fun p => p.cell hB1 (HST.out.cell (i := 6) rfl)
        have l7 : ∀ p : BW w1.heap.size w1, p.v.cell? ⟨B, 7, none⟩ = some (.int .i64 tk) := fun p => p.cell hB1 (HST.out.cell (i := 7) rfl)
        have l8 : ∀ p : BW w1.heap.size w1, p.v.cell? ⟨B, 8, none⟩ = some (.int .i64 idl) := fun p => p.cell hB1 (HST.out.cell (i := 8) rfl)
        clear p0
        go_upto_region 9 with fail
        refine wp_region_low (B := w1.heap.size) (w := w1) (by kernel_rfl) (by kernel_rfl) ?_
        repeat (go_big_quiet_step (first
          | (go_at_call 16; with_reducible exact low_call (HR1.out _ (BW.h _)) (Nat.le_refl _))
          | (go_at_call 17; with_reducible exact low_call (HR2.out _ (BW.h _)) (Nat.le_refl _))
          | (go_at_call 15; with_reducible exact low_call (HT.out _) (Nat.le_refl _))))
        refine wpQuiet_nil ?_
        intro w5 hw'
        obtain ⟨pq, eq1⟩ := hw'
        have hb5 := pq.h
        rw [← eq1] at hb5
        clear eq1 l0 l1 l2 l3 l4 l5 l6 l7 l8
        clear pq
        have HB5 := Lib.hid (HB1.out.trans (hb5.mono HB1.out.size))
        clear hb5
        go_wp2_with fail
        go_ret
        exact ⟨rfl, HB5.out⟩
end Go.Proofs.Ythacohejdpjjeaa
