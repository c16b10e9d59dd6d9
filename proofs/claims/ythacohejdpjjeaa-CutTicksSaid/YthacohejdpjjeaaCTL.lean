/- CutTicks: the law. -/
import Derived.Test.YthacohejdpjjeaaCTK
import Derived.Deep.RegionHeld3
import Derived.BigRegion
namespace Go.Proofs.Ythacohejdpjjeaa
open Go.RowKit Go.Lib Go.Sort
set_option linter.unusedVariables false
set_option linter.unusedSimpArgs false

/-- a scene's calls and picks, and events, where they lie -/
structure ScnAt (w : World) (ao : Option Addr) (b o : Nat) (cs : List CallV) (va : Option Addr) (vb vo : Nat) (ps : List Int) (ea : Option Addr) (eb eo : Nat) (le : List (EvX × EvS)) : Prop where
  c : CallsAt w b o cs
  ca : 0 < cs.length → ao = some ⟨b, o, none⟩
  cb : 0 < cs.length → b < w.heap.size
  e : EvsR w ea eb eo le
  pa : 0 < ps.length → va = some ⟨vb, vo, none⟩
  pb : 0 < ps.length → vb < w.heap.size
  p : ICells w vb vo ps
  pl : ps.length ≤ 9223372036854775807
  cl : cs.length ≤ 9223372036854775807
theorem ScnAt.below {w w' : World} {ao : Option Addr} {b o : Nat} {cs : List CallV} {pa : Option Addr} {pb po : Nat} {ps : List Int} {ea : Option Addr} {eb eo : Nat} {le : List (EvX × EvS)} (h : ScnAt w ao b o cs pa pb po ps ea eb eo le) (hb : Below w.heap.size w w') : ScnAt w' ao b o cs pa pb po ps ea eb eo le :=
  ⟨h.c.stays hb h.cb, h.ca, fun h0 => Nat.lt_of_lt_of_le (h.cb h0) hb.size, h.e.below hb, h.pa, fun h0 => Nat.lt_of_lt_of_le (h.pb h0) hb.size, h.p.stays hb h.pb, h.pl, h.cl⟩
theorem CallsAt.th {w : World} {b o : Nat} {cs : List CallV} (h : CallsAt w b o cs) {i : Nat} (hi : i < cs.length) : w.cell? ⟨b, o + i * 6, none⟩ = some (.int .i64 ((thr cs).getD i 0)) := by
  obtain ⟨x, hx⟩ : ∃ x, cs[i]? = some x := ⟨cs[i], List.getElem?_eq_getElem hi⟩
  rw [List.getD_eq_getElem?_getD, thr_get hx]
  exact (h i x hx).1

set_option maxHeartbeats 4000000 in
set_option maxRecDepth 100000 in
theorem cticks_any (n : Int) (sao : Option Addr) (na sc : Nat) (ao : Option Addr) (b o cap : Nat) (cs : List CallV) (pa : Option Addr) (pb po pc : Nat) (ps : List Int) (ea : Option Addr) (eb eo ec : Nat) (le : List (EvX × EvS)) (w : World) (h : ScnAt w ao b o cs pa pb po ps ea eb eo le) :
    Calls Try.prog 3 #[scnV n (.slice sao na sc) (.slice ao cs.length cap) (.slice pa ps.length pc), .slice ea le.length ec] w fun e w' => e = .returned (.bool true) ∧ Below w.heap.size w w' := by
  obtain ⟨w0, hw0⟩ : ∃ w0, w.alloc (scnO n (.slice sao na sc) (.slice ao cs.length cap) (.slice pa ps.length pc)) = w0 := ⟨_, rfl⟩
  obtain ⟨bs, hbs⟩ : ∃ bs, w.heap.size = bs := ⟨_, rfl⟩
  have hR0 : RowBlk 26 w0 bs [.int .i64 n, .slice sao na sc, .slice ao cs.length cap, .slice pa ps.length pc] := by rw [← hw0, ← hbs]; exact RowBlk.new _ _ _
  have hB0 : Below w.heap.size w w0 := by rw [← hw0]; exact (Below.refl _ _).alloc (Nat.le_refl _) _
  have HAD : Hid (∀ W, Below w.heap.size w W → Calls Try.prog 7 #[] W fun e w' => e = .returned (.bool true) ∧ Below w.heap.size w w') := Lib.hid (fun W hW => (adds_any W).mono (fun e w' ⟨h1, h2⟩ => ⟨h1, hW.trans (h2.mono hW.size)⟩))
  have HM : Hid (∀ W, Below w.heap.size w W → Calls Try.prog 6 #[.agg #[.int .i64 n, .slice sao na sc, .slice ao cs.length cap, .slice pa ps.length pc], .slice ea le.length ec] W fun e w' => e = .returned (.bool (manyS na cs.length ps.length le.length)) ∧ Below W.heap.size W w') := Lib.hid (fun W hW => manyS_any n sao ao pa na sc cs.length cap ps.length pc ea le.length ec W)
  have HH := Lib.hid h
  have HR0 := Lib.hid hR0
  have HB0 := Lib.hid hB0
  have HW0 := Lib.hid hw0
  have HBS := Lib.hid hbs
  clear h hR0 hB0 hw0 hbs
  cases hmn : manyS na cs.length ps.length le.length with
  | true =>
    rw [hmn] at HM
    clear hmn
    have k0 := HR0.out.cell (i := 0) rfl
    have k1 := HR0.out.cell (i := 1) rfl
    have k2 := HR0.out.cell (i := 2) rfl
    have k3 := HR0.out.cell (i := 3) rfl
    go_enter Try.func3, Try.ntmps3
    go_upto_region 1 with fail
    rw [HW0.out, HBS.out]
    go_wp2_with fail
    refine (HM.out _ HB0.out).mono ?_
    rintro e w1 ⟨rfl, hb1⟩
    have HB1 := Lib.hid (HB0.out.trans (hb1.mono HB0.out.size))
    clear hb1
    go_wp2_with fail
    refine (HAD.out _ HB1.out).mono ?_
    rintro e w2 ⟨rfl, hb2⟩
    have HB2 := Lib.hid hb2
    clear hb2
    go_wp2_with fail
    go_ret
    exact ⟨rfl, HB2.out⟩
  | false =>
    rw [hmn] at HM
    obtain ⟨hcl, hll⟩ := manyS_no hmn
    clear hmn
    have k0 := HR0.out.cell (i := 0) rfl
    have k1 := HR0.out.cell (i := 1) rfl
    have k2 := HR0.out.cell (i := 2) rfl
    have k3 := HR0.out.cell (i := 3) rfl
    go_enter Try.func3, Try.ntmps3
    go_upto_region 1 with fail
    rw [HW0.out, HBS.out]
    go_wp2_with fail
    refine (HM.out _ HB0.out).mono ?_
    rintro e w1 ⟨rfl, hb1⟩
    have HB1 := Lib.hid (HB0.out.trans (hb1.mono HB0.out.size))
    have HR1 := Lib.hid (HR0.out.same (hb1.block bs HR0.out.lt))
    have HH1 := Lib.hid (HH.out.below HB1.out)
    clear hb1 k0 k1 k2 k3
    have k0 := HR1.out.cell (i := 0) rfl
    have k2 := HR1.out.cell (i := 2) rfl
    have k3 := HR1.out.cell (i := 3) rfl
    have HTK := Lib.hid (ticks_any n ao b o cap cs ea eb eo ec le pa pb po pc ps w1 HH1.out.c HH1.out.ca HH1.out.cb HH1.out.e (by omega) HH1.out.pa HH1.out.pb HH1.out.p HH1.out.pl)
    go_wp2_with fail
    refine HTK.out.mono ?_
    rintro e w2 ⟨h2, h3, hb2⟩
    have HB2 := Lib.hid (HB1.out.trans (hb2.mono HB1.out.size))
    have HR2 := Lib.hid (HR1.out.same (hb2.block bs HR1.out.lt))
    have HH2 := Lib.hid (HH.out.below HB2.out)
    clear hb2 k0 k2 k3 HTK
    have k0 := HR2.out.cell (i := 0) rfl
    have k2 := HR2.out.cell (i := 2) rfl
    have k3 := HR2.out.cell (i := 3) rfl
    have HRW := Lib.hid (rwrongC_any n ao b o cap cs pa ps.length pc w2 (by omega) HH.out.pl HH2.out.c HH2.out.ca)
    by_cases hz : wrongC n (thr cs) ps.length = 0
    rotate_left
    · have h4 := h2 hz
      subst h4
      have hzi : ((wrongC n (thr cs) ps.length : Nat) : Int) ≠ 0 := by omega
      clear h2 h3
      generalize wrongC n (thr cs) ps.length = k at HRW hz hzi ⊢
      have hz2 : ((k : Int) == 0) = false := by rw [beq_eq_false_iff_ne]; exact hzi
      have hz3 : decide ((k : Int) = 0) = false := decide_eq_false hzi
      go_wp2_with fail
      refine HRW.out.mono ?_
      rintro e w3 ⟨rfl, rfl⟩
      go_wp2_with (go_at_call 7; refine (HAD.out _ HB2.out).mono ?_; rintro e w4 ⟨rfl, hb4⟩; (have HB4 := Lib.hid hb4); clear hb4)
      go_ret
      exact ⟨rfl, HB4.out⟩
    · obtain ⟨v, rfl, hown⟩ := h3 hz
      have HPL : Hid (ps.length ≤ 65536 ∧ cs.length ≤ 1000) := Lib.hid (by
        have h3 := hz
        unfold wrongC at h3
        split at h3
        · omega
        · split at h3
          · omega
          · have := (wrongL_inv h3).2.1; rw [thr_len] at this; omega)
      rw [hz] at HRW
      obtain ⟨T, hT⟩ : ∃ T, ticksOf (thr cs) (exs le) ps = T := ⟨_, rfl⟩
      rw [hT] at hown
      have HTT := Lib.hid hT
      have hTl : T.length ≤ 65536 := by
        rw [← hT]
        have := tickGo_len (thr cs) (exs le) ps (List.replicate (thr cs).length false) 0
        have h4 := HPL.out
        unfold ticksOf
        omega
      have HTI : Hid (∀ i ∈ T, i < cs.length) := Lib.hid (fun i hi => by
        have := tickGo_lt (thr cs) (exs le) ps (List.replicate (thr cs).length false) 0 i (by rw [← hT] at hi; exact hi)
        rw [thr_len] at this
        exact this)
      obtain ⟨ta, tg, tc, rfl, t1, t2, t3, t4⟩ := owns_open hown
      have HT1 := Lib.hid t1
      have HT3 := Lib.hid t3
      have HT4 := Lib.hid t4
      clear h2 h3 hown hT t1 t2 t3 t4 hz
      go_wp2_with fail
      refine HRW.out.mono ?_
      rintro e w3 ⟨rfl, rfl⟩
      have HRT := Lib.hid (rticks_any ao b o cap cs ea eb eo ec le pa pb po pc ps w2 HH2.out.c HH2.out.ca HH2.out.cb HH2.out.e (by omega) HH2.out.pa HH2.out.pb HH2.out.p HPL.out.2 HPL.out.1)
      go_wp2_with fail
      refine HRT.out.mono ?_
      rintro e w4 ⟨v4, rfl, hown4, hb4⟩
      rw [HTT.out] at hown4
      obtain ⟨xa, xg, xc, rfl, x1, x2, x3, x4⟩ := owns_open hown4
      have HX1 := Lib.hid x1
      have HX3 := Lib.hid x3
      have HX4 := Lib.hid x4
      have HB4 := Lib.hid (HB2.out.trans (hb4.mono HB2.out.size))
      have HR4 := Lib.hid (HR2.out.same (hb4.block bs HR2.out.lt))
      have HT4b : Hid (∀ (i : Nat) (u : Value), (tkRows (thr cs) (exs le) 0 T)[i]? = some u → 0 < T.length → w4.cell? ⟨tg, i, none⟩ = some u) := Lib.hid (fun i u hu h0 => (hb4.cell (p := ⟨tg, i, none⟩) (HT3.out h0)).trans (HT4.out i u hu))
      have HT3b : Hid (0 < T.length → tg < w4.heap.size) := Lib.hid (fun h0 => Nat.lt_of_lt_of_le (HT3.out h0) hb4.size)
      clear hown4 x1 x2 x3 x4 hb4 k0 k2 k3 HRT HRW HT4 HT3
      go_wp2_with fail
      go_loopw [64] (fun k wr => ∃ j : Nat, j ≤ T.length ∧ k = .int .i64 j ∧ Hid (Below w4.heap.size w4 wr)) (fun k _ => T.length - (RowKit.intOf k).toNat)
      case atStart => exact ⟨0, Nat.zero_le _, rfl, Lib.hid (Below.refl _ _)⟩
      case round =>
        obtain ⟨j, hj, rfl, hB⟩ := hrel
        have hHr := HH.out.below (HB4.out.trans (hB.out.mono HB4.out.size))
        by_cases hlt : j < T.length
        · obtain rfl := HX1.out (by omega)
          obtain rfl := HT1.out (by omega)
          obtain ⟨i, hi⟩ : ∃ i, T[j]? = some i := ⟨T[j], List.getElem?_eq_getElem hlt⟩
          have hil := HTI.out i (List.mem_of_getElem? hi)
          obtain rfl := HH.out.ca (by omega)
          have c1 := hHr.c.th hil
          have c2 : wr.cell? ⟨xg, j, none⟩ = some (.int .i64 (i : Int)) := (hB.out.cell (p := ⟨xg, j, none⟩) (HX3.out (by omega))).trans (HX4.out j _ (by unfold nums; rw [List.getElem?_map, hi]; rfl))
          have c3 : wr.cell? ⟨bs, 2, none⟩ = some (.slice (some ⟨b, o, none⟩) cs.length cap) := (hB.out.cell (p := ⟨bs, 2, none⟩) HR4.out.lt).trans (HR4.out.cell rfl)
          have htc : ∀ (m : Nat) (u : Value), (tkVs (thr cs) (exs le) (0 + j) i)[m]? = some u → wr.cell? ⟨tg, j * 4 + m, none⟩ = some u := fun m u hu =>
            (hB.out.cell (p := ⟨tg, _, none⟩) (HT3b.out (by omega))).trans (HT4b.out _ u (tkRows_get _ _ T 0 j i hi m u hu) (by omega))
          have d0 := htc 0 _ rfl
          have d1 := htc 1 _ rfl
          have d2 := htc 2 _ rfl
          have d3 := htc 3 _ rfl
          rw [Nat.add_zero] at d0
          rw [Nat.zero_add] at d2 d3
          have HRE := Lib.hid (revI_any ea eb eo ec le (i : Int) wr hHr.e (by omega))
          have hHE := hHr.e
          have HBr : Hid (Below w4.heap.size w4 wr) := hB
          have hsz : tg < wr.heap.size ∧ xg < wr.heap.size ∧ bs < wr.heap.size ∧ b < wr.heap.size := by
            have h1 := hB.out.size
            exact ⟨Nat.lt_of_lt_of_le (HT3b.out (by omega)) h1, Nat.lt_of_lt_of_le (HX3.out (by omega)) h1, Nat.lt_of_lt_of_le HR4.out.lt h1, hHr.cb (by omega)⟩
          obtain ⟨hz1, hz2, hz3, hz4⟩ := hsz
          have hii : (i : Int) < (cs.length : Int) := by omega
          have hii0 : (0 : Int) ≤ (i : Int) := Int.natCast_nonneg _
          generalize (thr cs).getD i 0 = th at c1 d0
          clear htc hi hHr
          cases hev : evI (exs le) (i : Int) with
          | none =>
            rw [evN_none hev] at HRE
            rw [firstT_none hev] at d2
            rw [lastT_none hev] at d3
            clear hev hHE
            have n1 : decide ((0 : Int) ≤ -1) = false := by decide
            go_wp2_with fail
            refine HRE.out.mono ?_
            rintro e w5 ⟨rfl, rfl⟩
            go_upto_region 14 with fail
            have HSB : Hid (∀ v, Below wr.heap.size wr v → v.cell? ⟨bs, 2, none⟩ = some (.slice (some ⟨b, o, none⟩) cs.length cap) ∧ v.cell? ⟨xg, j, none⟩ = some (.int .i64 (i : Int)) ∧ v.cell? ⟨b, o + i * 6, none⟩ = some (.int .i64 th)) := Lib.hid (fun v hv => ⟨(hv.cell (p := ⟨bs, _, none⟩) (by show bs < wr.heap.size; first | assumption | omega)).trans c3, (hv.cell (p := ⟨xg, _, none⟩) (by show xg < wr.heap.size; first | assumption | omega)).trans c2, (hv.cell (p := ⟨b, _, none⟩) (by show b < wr.heap.size; first | assumption | omega)).trans c1⟩)
            refine wp_region_held_drew (S := fun w' => w'.cell? ⟨bs, 2, none⟩ = some (.slice (some ⟨b, o, none⟩) cs.length cap) ∧ w'.cell? ⟨xg, j, none⟩ = some (.int .i64 (i : Int)) ∧ w'.cell? ⟨b, o + i * 6, none⟩ = some (.int .i64 th)) (by kernel_rfl) ?_ (fun hHeld => ?_)
            · exact HSB.out _ (below_drewN (Below.refl _ _) 1)
            try simp only [Act.put, List.getElem_toArray, List.getElem_cons_zero, List.setIfInBounds_toArray, List.set_cons_zero, List.set_cons_succ]
            refine wpAnyH_take (i := 0) (oi := _) (v := ?nv0) rfl (by kernel_rfl) (by kernel_rfl) (by kernel_rfl) (fun _ _ _ h => h) (Or.inl ⟨by kernel_rfl, ?ny0⟩) (by assumption) ?nr0
            case ny0 => (intro w hSw; (try dsimp only at hSw); go_simp <;> with_reducible rfl)
            try simp only [Act.put, List.getElem_toArray, List.getElem_cons_zero, List.getElem_cons_succ, List.setIfInBounds_toArray, List.set_cons_zero, List.set_cons_succ]
            refine wpAnyH_take (i := 1) (oi := _) (v := ?nv1) rfl (by kernel_rfl) (by kernel_rfl) (by kernel_rfl) (fun _ _ _ h => h) (Or.inl ⟨by kernel_rfl, ?ny1⟩) (by assumption) ?nr1
            case ny1 => (intro w hSw; (try dsimp only at hSw); go_simp <;> with_reducible rfl)
            try simp only [Act.put, List.getElem_toArray, List.getElem_cons_zero, List.getElem_cons_succ, List.setIfInBounds_toArray, List.set_cons_zero, List.set_cons_succ]
            refine wpAnyH_take (i := 2) (oi := _) (v := ?nv2) rfl (by kernel_rfl) (by kernel_rfl) (by kernel_rfl) (fun _ _ _ h => h) (Or.inl ⟨by kernel_rfl, ?ny2⟩) (by assumption) ?nr2
            case ny2 => (intro w hSw; (try dsimp only at hSw); go_simp <;> with_reducible rfl)
            try simp only [Act.put, List.getElem_toArray, List.getElem_cons_zero, List.getElem_cons_succ, List.setIfInBounds_toArray, List.set_cons_zero, List.set_cons_succ]
            refine wpAnyH_take (i := 3) (oi := _) (v := ?nv3) rfl (by kernel_rfl) (by kernel_rfl) (by kernel_rfl) (fun _ _ _ h => h) (Or.inl ⟨by kernel_rfl, ?ny3⟩) (by assumption) ?nr3
            case ny3 => (intro w hSw; (try dsimp only at hSw); go_simp <;> with_reducible rfl)
            try simp only [Act.put, List.getElem_toArray, List.getElem_cons_zero, List.getElem_cons_succ, List.setIfInBounds_toArray, List.set_cons_zero, List.set_cons_succ]
            refine wpAnyH_take (i := 4) (oi := _) (v := ?nv4) rfl (by kernel_rfl) (by kernel_rfl) (by kernel_rfl) (fun _ _ _ h => h) (Or.inl ⟨by kernel_rfl, ?ny4⟩) (by assumption) ?nr4
            case ny4 => (intro w hSw; (try dsimp only at hSw); go_simp <;> with_reducible rfl)
            try simp only [Act.put, List.getElem_toArray, List.getElem_cons_zero, List.getElem_cons_succ, List.setIfInBounds_toArray, List.set_cons_zero, List.set_cons_succ]
            refine wpAnyH_take (i := 5) (oi := _) (v := ?nv5) rfl (by kernel_rfl) (by kernel_rfl) (by kernel_rfl) (fun _ _ _ h => h) (Or.inl ⟨by kernel_rfl, ?ny5⟩) (by assumption) ?nr5
            case ny5 => (intro w hSw; (try dsimp only at hSw); go_simp <;> with_reducible rfl)
            try simp only [Act.put, List.getElem_toArray, List.getElem_cons_zero, List.getElem_cons_succ, List.setIfInBounds_toArray, List.set_cons_zero, List.set_cons_succ]
            refine wpAnyH_take (i := 6) (oi := _) (v := ?nv6) rfl (by kernel_rfl) (by kernel_rfl) (by kernel_rfl) (fun _ _ _ h => h) (Or.inl ⟨by kernel_rfl, ?ny6⟩) (by assumption) ?nr6
            case ny6 => (intro w hSw; (try dsimp only at hSw); go_simp <;> with_reducible rfl)
            try simp only [Act.put, List.getElem_toArray, List.getElem_cons_zero, List.getElem_cons_succ, List.setIfInBounds_toArray, List.set_cons_zero, List.set_cons_succ]
            refine wpAnyH_take (i := 7) (oi := _) (v := ?nv7) rfl (by kernel_rfl) (by kernel_rfl) (by kernel_rfl) (fun _ _ _ h => h) (Or.inl ⟨by kernel_rfl, ?ny7⟩) (by assumption) ?nr7
            case ny7 => (intro w hSw; (try dsimp only at hSw); go_simp <;> with_reducible rfl)
            try simp only [Act.put, List.getElem_toArray, List.getElem_cons_zero, List.getElem_cons_succ, List.setIfInBounds_toArray, List.set_cons_zero, List.set_cons_succ]
            refine wpAnyH_take (i := 8) (oi := _) (v := ?nv8) rfl (by kernel_rfl) (by kernel_rfl) (by kernel_rfl) (fun _ _ _ h => h) (Or.inl ⟨by kernel_rfl, ?ny8⟩) (by assumption) ?nr8
            case ny8 => (intro w hSw; (try dsimp only at hSw); go_simp <;> with_reducible rfl)
            try simp only [Act.put, List.getElem_toArray, List.getElem_cons_zero, List.getElem_cons_succ, List.setIfInBounds_toArray, List.set_cons_zero, List.set_cons_succ]
            refine wpAnyH_take (i := 9) (oi := _) (v := ?nv9) rfl (by kernel_rfl) (by kernel_rfl) (by kernel_rfl) (fun _ _ _ h => h) (Or.inl ⟨by kernel_rfl, ?ny9⟩) (by assumption) ?nr9
            case ny9 => (intro w hSw; (try dsimp only at hSw); go_simp <;> with_reducible rfl)
            try simp only [Act.put, List.getElem_toArray, List.getElem_cons_zero, List.getElem_cons_succ, List.setIfInBounds_toArray, List.set_cons_zero, List.set_cons_succ]
            refine wpAnyH_take (i := 10) (oi := _) (v := ?nv10) rfl (by kernel_rfl) (by kernel_rfl) (by kernel_rfl) (fun _ _ _ h => h) (Or.inl ⟨by kernel_rfl, ?ny10⟩) (by assumption) ?nr10
            case ny10 => (intro w hSw; (try dsimp only at hSw); go_simp <;> with_reducible rfl)
            try simp only [Act.put, List.getElem_toArray, List.getElem_cons_zero, List.getElem_cons_succ, List.setIfInBounds_toArray, List.set_cons_zero, List.set_cons_succ]
            refine wpAnyH_take (i := 11) (oi := _) (v := ?nv11) rfl (by kernel_rfl) (by kernel_rfl) (by kernel_rfl) (fun _ _ _ h => h) (Or.inl ⟨by kernel_rfl, ?ny11⟩) (by assumption) ?nr11
            case ny11 => (intro w hSw; (try dsimp only at hSw); go_simp <;> with_reducible rfl)
            try simp only [Act.put, List.getElem_toArray, List.getElem_cons_zero, List.getElem_cons_succ, List.setIfInBounds_toArray, List.set_cons_zero, List.set_cons_succ]
            refine wpAnyH_take (i := 12) (oi := _) (v := ?nv12) rfl (by kernel_rfl) (by kernel_rfl) (by kernel_rfl) (fun _ _ _ h => h) (Or.inl ⟨by kernel_rfl, ?ny12⟩) (by assumption) ?nr12
            case ny12 => (intro w hSw; (try dsimp only at hSw); go_simp <;> with_reducible rfl)
            try simp only [Act.put, List.getElem_toArray, List.getElem_cons_zero, List.getElem_cons_succ, List.setIfInBounds_toArray, List.set_cons_zero, List.set_cons_succ]
            refine wpAnyH_take (i := 13) (oi := _) (v := ?nv13) rfl (by kernel_rfl) (by kernel_rfl) (by kernel_rfl) (fun _ _ _ h => h) (Or.inl ⟨by kernel_rfl, ?ny13⟩) (by assumption) ?nr13
            case ny13 => (intro w hSw; (try dsimp only at hSw); go_simp <;> with_reducible rfl)
            try simp only [Act.put, List.getElem_toArray, List.getElem_cons_zero, List.getElem_cons_succ, List.setIfInBounds_toArray, List.set_cons_zero, List.set_cons_succ]
            refine wpAnyH_take (i := 14) (oi := _) (v := ?nv14) rfl (by kernel_rfl) (by kernel_rfl) (by kernel_rfl) (fun _ _ _ h => h) (Or.inl ⟨by kernel_rfl, ?ny14⟩) (by assumption) ?nr14
            case ny14 => (intro w hSw; (try dsimp only at hSw); go_simp <;> with_reducible rfl)
            try simp only [Act.put, List.getElem_toArray, List.getElem_cons_zero, List.getElem_cons_succ, List.setIfInBounds_toArray, List.set_cons_zero, List.set_cons_succ]
            refine wpAnyH_take (i := 15) (oi := _) (v := ?nv15) rfl (by kernel_rfl) (by kernel_rfl) (by kernel_rfl) (fun _ _ _ h => h) (Or.inl ⟨by kernel_rfl, ?ny15⟩) (by assumption) ?nr15
            case ny15 => (intro w hSw; (try dsimp only at hSw); go_simp <;> with_reducible rfl)
            try simp only [Act.put, List.getElem_toArray, List.getElem_cons_zero, List.getElem_cons_succ, List.setIfInBounds_toArray, List.set_cons_zero, List.set_cons_succ]
            refine wpAnyH_take (i := 16) (oi := _) (v := undef) rfl (by kernel_rfl) (by kernel_rfl) (by kernel_rfl) (fun _ _ _ h => h) (Or.inr ⟨by kernel_rfl, rfl⟩) (by assumption) ?nr16
            try simp only [Act.put, List.getElem_toArray, List.getElem_cons_zero, List.getElem_cons_succ, List.setIfInBounds_toArray, List.set_cons_zero, List.set_cons_succ]
            refine wpAnyH_take (i := 17) (oi := _) (v := undef) rfl (by kernel_rfl) (by kernel_rfl) (by kernel_rfl) (fun _ _ _ h => h) (Or.inr ⟨by kernel_rfl, rfl⟩) (by assumption) ?nr17
            try simp only [Act.put, List.getElem_toArray, List.getElem_cons_zero, List.getElem_cons_succ, List.setIfInBounds_toArray, List.set_cons_zero, List.set_cons_succ]
            refine wpAnyH_take (i := 18) (oi := _) (v := undef) rfl (by kernel_rfl) (by kernel_rfl) (by kernel_rfl) (fun _ _ _ h => h) (Or.inr ⟨by kernel_rfl, rfl⟩) (by assumption) ?nr18
            try simp only [Act.put, List.getElem_toArray, List.getElem_cons_zero, List.getElem_cons_succ, List.setIfInBounds_toArray, List.set_cons_zero, List.set_cons_succ]
            refine wpAnyH_take (i := 19) (oi := _) (v := undef) rfl (by kernel_rfl) (by kernel_rfl) (by kernel_rfl) (fun _ _ _ h => h) (Or.inr ⟨by kernel_rfl, rfl⟩) (by assumption) ?nr19
            try simp only [Act.put, List.getElem_toArray, List.getElem_cons_zero, List.getElem_cons_succ, List.setIfInBounds_toArray, List.set_cons_zero, List.set_cons_succ]
            refine wpAnyH_take (i := 20) (oi := _) (v := undef) rfl (by kernel_rfl) (by kernel_rfl) (by kernel_rfl) (fun _ _ _ h => h) (Or.inr ⟨by kernel_rfl, rfl⟩) (by assumption) ?nr20
            try simp only [Act.put, List.getElem_toArray, List.getElem_cons_zero, List.getElem_cons_succ, List.setIfInBounds_toArray, List.set_cons_zero, List.set_cons_succ]
            refine wpAnyH_take (i := 21) (oi := _) (v := undef) rfl (by kernel_rfl) (by kernel_rfl) (by kernel_rfl) (fun _ _ _ h => h) (Or.inr ⟨by kernel_rfl, rfl⟩) (by assumption) ?nr21
            try simp only [Act.put, List.getElem_toArray, List.getElem_cons_zero, List.getElem_cons_succ, List.setIfInBounds_toArray, List.set_cons_zero, List.set_cons_succ]
            refine wpAnyH_take (i := 22) (oi := _) (v := undef) rfl (by kernel_rfl) (by kernel_rfl) (by kernel_rfl) (fun _ _ _ h => h) (Or.inr ⟨by kernel_rfl, rfl⟩) (by assumption) ?nr22
            try simp only [Act.put, List.getElem_toArray, List.getElem_cons_zero, List.getElem_cons_succ, List.setIfInBounds_toArray, List.set_cons_zero, List.set_cons_succ]
            refine wpAnyH_take (i := 23) (oi := _) (v := undef) rfl (by kernel_rfl) (by kernel_rfl) (by kernel_rfl) (fun _ _ _ h => h) (Or.inr ⟨by kernel_rfl, rfl⟩) (by assumption) ?nr23
            try simp only [Act.put, List.getElem_toArray, List.getElem_cons_zero, List.getElem_cons_succ, List.setIfInBounds_toArray, List.set_cons_zero, List.set_cons_succ]
            refine wpAnyH_take (i := 24) (oi := _) (v := undef) rfl (by kernel_rfl) (by kernel_rfl) (by kernel_rfl) (fun _ _ _ h => h) (Or.inr ⟨by kernel_rfl, rfl⟩) (by assumption) ?nr24
            try simp only [Act.put, List.getElem_toArray, List.getElem_cons_zero, List.getElem_cons_succ, List.setIfInBounds_toArray, List.set_cons_zero, List.set_cons_succ]
            refine wpAnyH_take (i := 25) (oi := _) (v := ?nv25) rfl (by kernel_rfl) (by kernel_rfl) (by kernel_rfl) (fun _ _ _ h => h) (Or.inl ⟨by kernel_rfl, ?ny25⟩) (by assumption) ?nr25
            case ny25 => (intro w hSw; (try dsimp only at hSw); go_simp <;> with_reducible rfl)
            try simp only [Act.put, List.getElem_toArray, List.getElem_cons_zero, List.getElem_cons_succ, List.setIfInBounds_toArray, List.set_cons_zero, List.set_cons_succ]
            refine wpAnyH_take (i := 26) (oi := _) (v := ?nv26) rfl (by kernel_rfl) (by kernel_rfl) (by kernel_rfl) (fun _ _ _ h => h) (Or.inl ⟨by kernel_rfl, ?ny26⟩) (by assumption) ?nr26
            case ny26 => (intro w hSw; (try dsimp only at hSw); go_simp <;> with_reducible rfl)
            try simp only [Act.put, List.getElem_toArray, List.getElem_cons_zero, List.getElem_cons_succ, List.setIfInBounds_toArray, List.set_cons_zero, List.set_cons_succ]
            refine wpAnyH_take (i := 27) (oi := _) (v := ?nv27) rfl (by kernel_rfl) (by kernel_rfl) (by kernel_rfl) (fun _ _ _ h => h) (Or.inl ⟨by kernel_rfl, ?ny27⟩) (by assumption) ?nr27
            case ny27 => (intro w hSw; (try dsimp only at hSw); go_simp <;> with_reducible rfl)
            try simp only [Act.put, List.getElem_toArray, List.getElem_cons_zero, List.getElem_cons_succ, List.setIfInBounds_toArray, List.set_cons_zero, List.set_cons_succ]
            refine wpAnyH_take (i := 28) (oi := _) (v := ?nv28) rfl (by kernel_rfl) (by kernel_rfl) (by kernel_rfl) (fun _ _ _ h => h) (Or.inl ⟨by kernel_rfl, ?ny28⟩) (by assumption) ?nr28
            case ny28 => (intro w hSw; (try dsimp only at hSw); go_simp <;> with_reducible rfl)
            try simp only [Act.put, List.getElem_toArray, List.getElem_cons_zero, List.getElem_cons_succ, List.setIfInBounds_toArray, List.set_cons_zero, List.set_cons_succ]
            refine wpAnyH_take (i := 29) (oi := _) (v := undef) rfl (by kernel_rfl) (by kernel_rfl) (by kernel_rfl) (fun _ _ _ h => h) (Or.inr ⟨by kernel_rfl, rfl⟩) (by assumption) ?nr29
            try simp only [Act.put, List.getElem_toArray, List.getElem_cons_zero, List.getElem_cons_succ, List.setIfInBounds_toArray, List.set_cons_zero, List.set_cons_succ]
            refine wpAnyH_take (i := 30) (oi := _) (v := undef) rfl (by kernel_rfl) (by kernel_rfl) (by kernel_rfl) (fun _ _ _ h => h) (Or.inr ⟨by kernel_rfl, rfl⟩) (by assumption) ?nr30
            try simp only [Act.put, List.getElem_toArray, List.getElem_cons_zero, List.getElem_cons_succ, List.setIfInBounds_toArray, List.set_cons_zero, List.set_cons_succ]
            refine wpAnyH_take (i := 31) (oi := _) (v := undef) rfl (by kernel_rfl) (by kernel_rfl) (by kernel_rfl) (fun _ _ _ h => h) (Or.inr ⟨by kernel_rfl, rfl⟩) (by assumption) ?nr31
            try simp only [Act.put, List.getElem_toArray, List.getElem_cons_zero, List.getElem_cons_succ, List.setIfInBounds_toArray, List.set_cons_zero, List.set_cons_succ]
            refine wpAnyH_take (i := 32) (oi := _) (v := undef) rfl (by kernel_rfl) (by kernel_rfl) (by kernel_rfl) (fun _ _ _ h => h) (Or.inr ⟨by kernel_rfl, rfl⟩) (by assumption) ?nr32
            try simp only [Act.put, List.getElem_toArray, List.getElem_cons_zero, List.getElem_cons_succ, List.setIfInBounds_toArray, List.set_cons_zero, List.set_cons_succ]
            refine wpAnyH_take (i := 33) (oi := _) (v := undef) rfl (by kernel_rfl) (by kernel_rfl) (by kernel_rfl) (fun _ _ _ h => h) (Or.inr ⟨by kernel_rfl, rfl⟩) (by assumption) ?nr33
            try simp only [Act.put, List.getElem_toArray, List.getElem_cons_zero, List.getElem_cons_succ, List.setIfInBounds_toArray, List.set_cons_zero, List.set_cons_succ]
            refine wpAnyH_take (i := 34) (oi := _) (v := undef) rfl (by kernel_rfl) (by kernel_rfl) (by kernel_rfl) (fun _ _ _ h => h) (Or.inr ⟨by kernel_rfl, rfl⟩) (by assumption) ?nr34
            try simp only [Act.put, List.getElem_toArray, List.getElem_cons_zero, List.getElem_cons_succ, List.setIfInBounds_toArray, List.set_cons_zero, List.set_cons_succ]
            refine wpAnyH_take (i := 35) (oi := _) (v := undef) rfl (by kernel_rfl) (by kernel_rfl) (by kernel_rfl) (fun _ _ _ h => h) (Or.inr ⟨by kernel_rfl, rfl⟩) (by assumption) ?nr35
            try simp only [Act.put, List.getElem_toArray, List.getElem_cons_zero, List.getElem_cons_succ, List.setIfInBounds_toArray, List.set_cons_zero, List.set_cons_succ]
            refine wpAnyH_take (i := 36) (oi := _) (v := undef) rfl (by kernel_rfl) (by kernel_rfl) (by kernel_rfl) (fun _ _ _ h => h) (Or.inr ⟨by kernel_rfl, rfl⟩) (by assumption) ?nr36
            try simp only [Act.put, List.getElem_toArray, List.getElem_cons_zero, List.getElem_cons_succ, List.setIfInBounds_toArray, List.set_cons_zero, List.set_cons_succ]
            refine wpAnyH_take (i := 37) (oi := _) (v := undef) rfl (by kernel_rfl) (by kernel_rfl) (by kernel_rfl) (fun _ _ _ h => h) (Or.inr ⟨by kernel_rfl, rfl⟩) (by assumption) ?nr37
            try simp only [Act.put, List.getElem_toArray, List.getElem_cons_zero, List.getElem_cons_succ, List.setIfInBounds_toArray, List.set_cons_zero, List.set_cons_succ]
            refine wpAnyH_take (i := 38) (oi := _) (v := ?nv38) rfl (by kernel_rfl) (by kernel_rfl) (by kernel_rfl) (fun _ _ _ h => h) (Or.inl ⟨by kernel_rfl, ?ny38⟩) (by assumption) ?nr38
            case ny38 => (intro w hSw; (try dsimp only at hSw); go_simp <;> with_reducible rfl)
            try simp only [Act.put, List.getElem_toArray, List.getElem_cons_zero, List.getElem_cons_succ, List.setIfInBounds_toArray, List.set_cons_zero, List.set_cons_succ]
            refine wpAnyH_take (i := 39) (oi := _) (v := ?nv39) rfl (by kernel_rfl) (by kernel_rfl) (by kernel_rfl) (fun _ _ _ h => h) (Or.inl ⟨by kernel_rfl, ?ny39⟩) (by assumption) ?nr39
            case ny39 => (intro w hSw; (try dsimp only at hSw); go_simp <;> with_reducible rfl)
            try simp only [Act.put, List.getElem_toArray, List.getElem_cons_zero, List.getElem_cons_succ, List.setIfInBounds_toArray, List.set_cons_zero, List.set_cons_succ]
            refine wpAnyH_ready (rs := [40]) (by kernel_rfl) (by simp) ?_
            refine AllReadyH.cons (o := _) rfl (fun K hK => ?_) AllReadyH.nil
            go_simp
            refine hK.out _ _ ?_ (fun hHeld40 => ?_)
            · exact HSB.out _ (below_drew ((Below.refl _ _).alloc (Nat.le_refl _) _))
            clear hK K hHeld
            try simp only [Act.put, List.getElem_toArray, List.getElem_cons_zero, List.getElem_cons_succ, List.setIfInBounds_toArray, List.set_cons_zero, List.set_cons_succ]
            refine wpAnyH_ready (rs := [41]) (by kernel_rfl) (by simp) ?_
            refine AllReadyH.cons (o := _) rfl (fun K hK => ?_) AllReadyH.nil
            go_simp
            refine hK.out _ _ ?_ (fun hHeld41 => ?_)
            · exact HSB.out _ (below_drew ((Below.refl _ _).alloc (Nat.le_refl _) _))
            clear hK K hHeld40
            try simp only [Act.put, List.getElem_toArray, List.getElem_cons_zero, List.getElem_cons_succ, List.setIfInBounds_toArray, List.set_cons_zero, List.set_cons_succ]
            refine wpAnyH_done (by kernel_rfl) ?_ _
            obtain ⟨W6, hW6⟩ : ∃ W6, (wr.alloc (.cells #[.int .i64 th, .int .i64 (i : Int), .bool false, .bool false] 46)).drew = W6 := ⟨_, rfl⟩
            rw [hW6]
            have hR6 : RowBlk 46 W6 wr.heap.size [.int .i64 th, .int .i64 (i : Int), .bool false, .bool false] := by rw [← hW6]; exact (RowBlk.new _ _ _).drew
            have hB6 : Below wr.heap.size wr W6 := by rw [← hW6]; exact below_drew ((Below.refl _ _).alloc (Nat.le_refl _) _)
            have HB6 : Hid (Below w4.heap.size w4 W6) := Lib.hid (HBr.out.trans (hB6.mono HBr.out.size))
            replace d0 := (hB6.cell (p := ⟨tg, _, none⟩) hz1).trans d0
            replace d1 := (hB6.cell (p := ⟨tg, _, none⟩) hz1).trans d1
            replace d2 := (hB6.cell (p := ⟨tg, _, none⟩) hz1).trans d2
            replace d3 := (hB6.cell (p := ⟨tg, _, none⟩) hz1).trans d3
            have r0 := hR6.cell (i := 0) rfl
            have r1 := hR6.cell (i := 1) rfl
            have r2 := hR6.cell (i := 2) rfl
            have r3 := hR6.cell (i := 3) rfl
            have htn := fun W => tk_ne th (i : Int) false false W
            clear hW6 hR6 hB6 hHeld41 c1 c2 c3 HSB HBr hz1 hz2 hz3 hz4 
            go_wp2_with fail
            go_quiet (fail)
            go_wp2_with fail
            go_roundw
            case rel => exact ⟨j + 1, by omega, by go_num, Lib.hid (below_drewN HB6.out _)⟩
            case measure => simp [RowKit.intOf]; omega

          | some q =>
            rw [evN_some hev] at HRE
            obtain ⟨x, hx, hxc⟩ := evI_some hev
            obtain ⟨⟨x', s⟩, hps⟩ : ∃ y, le[q]? = some y := by
              have := (List.getElem?_eq_some_iff.1 hx).1
              rw [exs_len] at this
              exact ⟨_, List.getElem?_eq_getElem this⟩
            have hx' := exs_get hps
            rw [hx] at hx'
            obtain rfl := Option.some.inj hx'
            have hql := (List.getElem?_eq_some_iff.1 hps).1
            obtain rfl := HH.out.e.ea (by omega)
            have hzb := hHE.eb (by omega)
            have e1 := (hHE.cells hps).2.1
            have e2 := (hHE.cells hps).2.2.1
            obtain ⟨F, hF⟩ : ∃ F, decide (x.iv = (j : Int) + 1) = F := ⟨_, rfl⟩
            obtain ⟨L, hL⟩ : ∃ L, decide (x.rs = (j : Int) + 1) = L := ⟨_, rfl⟩
            rw [firstT_some hev hx, show decide (x.iv = ((j + 1 : Nat) : Int)) = F from hF] at d2
            rw [lastT_some hev hx, show decide (x.rs = ((j + 1 : Nat) : Int)) = L from hL] at d3
            have hF2 : (x.iv == (j : Int) + 1) = F := hF
            have hL2 : (x.rs == (j : Int) + 1) = L := hL
            have hwj : IntKind.i64.wrap ((j : Int) + 1) = (j : Int) + 1 := by rw [IntKind.wrap_i64]; omega
            have hqi0 : (0 : Int) ≤ (q : Int) := Int.natCast_nonneg _
            have hqi1 : (q : Int) < (le.length : Int) := by omega
            have n1 : decide ((0 : Int) ≤ (q : Int)) = true := decide_eq_true hqi0
            have hmx : max (q : Int) 0 = (q : Int) := by omega
            clear hev hx hxc hps hx' hHE
            generalize x.iv = xiv at e1 hF hF2
            generalize x.rs = xrs at e2 hL hL2
            go_wp2_with fail
            refine HRE.out.mono ?_
            rintro e w5 ⟨rfl, rfl⟩
            go_upto_region 14 with fail
            have HSB : Hid (∀ v, Below wr.heap.size wr v → v.cell? ⟨bs, 2, none⟩ = some (.slice (some ⟨b, o, none⟩) cs.length cap) ∧ v.cell? ⟨xg, j, none⟩ = some (.int .i64 (i : Int)) ∧ v.cell? ⟨b, o + i * 6, none⟩ = some (.int .i64 th) ∧ v.cell? ⟨eb, eo + q * 8 + 1, none⟩ = some (.int .i64 xiv) ∧ v.cell? ⟨eb, eo + q * 8 + 2, none⟩ = some (.int .i64 xrs)) := Lib.hid (fun v hv => ⟨(hv.cell (p := ⟨bs, _, none⟩) (by show bs < wr.heap.size; first | assumption | omega)).trans c3, (hv.cell (p := ⟨xg, _, none⟩) (by show xg < wr.heap.size; first | assumption | omega)).trans c2, (hv.cell (p := ⟨b, _, none⟩) (by show b < wr.heap.size; first | assumption | omega)).trans c1, (hv.cell (p := ⟨eb, _, none⟩) (by show eb < wr.heap.size; first | assumption | omega)).trans e1, (hv.cell (p := ⟨eb, _, none⟩) (by show eb < wr.heap.size; first | assumption | omega)).trans e2⟩)
            refine wp_region_held_drew (S := fun w' => w'.cell? ⟨bs, 2, none⟩ = some (.slice (some ⟨b, o, none⟩) cs.length cap) ∧ w'.cell? ⟨xg, j, none⟩ = some (.int .i64 (i : Int)) ∧ w'.cell? ⟨b, o + i * 6, none⟩ = some (.int .i64 th) ∧ w'.cell? ⟨eb, eo + q * 8 + 1, none⟩ = some (.int .i64 xiv) ∧ w'.cell? ⟨eb, eo + q * 8 + 2, none⟩ = some (.int .i64 xrs)) (by kernel_rfl) ?_ (fun hHeld => ?_)
            · exact HSB.out _ (below_drewN (Below.refl _ _) 1)
            try simp only [Act.put, List.getElem_toArray, List.getElem_cons_zero, List.setIfInBounds_toArray, List.set_cons_zero, List.set_cons_succ]
            refine wpAnyH_take (i := 0) (oi := _) (v := ?mv0) rfl (by kernel_rfl) (by kernel_rfl) (by kernel_rfl) (fun _ _ _ h => h) (Or.inl ⟨by kernel_rfl, ?my0⟩) (by assumption) ?mr0
            case my0 => (intro w hSw; (try dsimp only at hSw); go_simp <;> with_reducible rfl)
            try simp only [Act.put, List.getElem_toArray, List.getElem_cons_zero, List.getElem_cons_succ, List.setIfInBounds_toArray, List.set_cons_zero, List.set_cons_succ]
            refine wpAnyH_take (i := 1) (oi := _) (v := ?mv1) rfl (by kernel_rfl) (by kernel_rfl) (by kernel_rfl) (fun _ _ _ h => h) (Or.inl ⟨by kernel_rfl, ?my1⟩) (by assumption) ?mr1
            case my1 => (intro w hSw; (try dsimp only at hSw); go_simp <;> with_reducible rfl)
            try simp only [Act.put, List.getElem_toArray, List.getElem_cons_zero, List.getElem_cons_succ, List.setIfInBounds_toArray, List.set_cons_zero, List.set_cons_succ]
            refine wpAnyH_take (i := 2) (oi := _) (v := ?mv2) rfl (by kernel_rfl) (by kernel_rfl) (by kernel_rfl) (fun _ _ _ h => h) (Or.inl ⟨by kernel_rfl, ?my2⟩) (by assumption) ?mr2
            case my2 => (intro w hSw; (try dsimp only at hSw); go_simp <;> with_reducible rfl)
            try simp only [Act.put, List.getElem_toArray, List.getElem_cons_zero, List.getElem_cons_succ, List.setIfInBounds_toArray, List.set_cons_zero, List.set_cons_succ]
            refine wpAnyH_take (i := 3) (oi := _) (v := ?mv3) rfl (by kernel_rfl) (by kernel_rfl) (by kernel_rfl) (fun _ _ _ h => h) (Or.inl ⟨by kernel_rfl, ?my3⟩) (by assumption) ?mr3
            case my3 => (intro w hSw; (try dsimp only at hSw); go_simp <;> with_reducible rfl)
            try simp only [Act.put, List.getElem_toArray, List.getElem_cons_zero, List.getElem_cons_succ, List.setIfInBounds_toArray, List.set_cons_zero, List.set_cons_succ]
            refine wpAnyH_take (i := 4) (oi := _) (v := ?mv4) rfl (by kernel_rfl) (by kernel_rfl) (by kernel_rfl) (fun _ _ _ h => h) (Or.inl ⟨by kernel_rfl, ?my4⟩) (by assumption) ?mr4
            case my4 => (intro w hSw; (try dsimp only at hSw); go_simp <;> with_reducible rfl)
            try simp only [Act.put, List.getElem_toArray, List.getElem_cons_zero, List.getElem_cons_succ, List.setIfInBounds_toArray, List.set_cons_zero, List.set_cons_succ]
            refine wpAnyH_take (i := 5) (oi := _) (v := ?mv5) rfl (by kernel_rfl) (by kernel_rfl) (by kernel_rfl) (fun _ _ _ h => h) (Or.inl ⟨by kernel_rfl, ?my5⟩) (by assumption) ?mr5
            case my5 => (intro w hSw; (try dsimp only at hSw); go_simp <;> with_reducible rfl)
            try simp only [Act.put, List.getElem_toArray, List.getElem_cons_zero, List.getElem_cons_succ, List.setIfInBounds_toArray, List.set_cons_zero, List.set_cons_succ]
            refine wpAnyH_take (i := 6) (oi := _) (v := ?mv6) rfl (by kernel_rfl) (by kernel_rfl) (by kernel_rfl) (fun _ _ _ h => h) (Or.inl ⟨by kernel_rfl, ?my6⟩) (by assumption) ?mr6
            case my6 => (intro w hSw; (try dsimp only at hSw); go_simp <;> with_reducible rfl)
            try simp only [Act.put, List.getElem_toArray, List.getElem_cons_zero, List.getElem_cons_succ, List.setIfInBounds_toArray, List.set_cons_zero, List.set_cons_succ]
            refine wpAnyH_take (i := 7) (oi := _) (v := ?mv7) rfl (by kernel_rfl) (by kernel_rfl) (by kernel_rfl) (fun _ _ _ h => h) (Or.inl ⟨by kernel_rfl, ?my7⟩) (by assumption) ?mr7
            case my7 => (intro w hSw; (try dsimp only at hSw); go_simp <;> with_reducible rfl)
            try simp only [Act.put, List.getElem_toArray, List.getElem_cons_zero, List.getElem_cons_succ, List.setIfInBounds_toArray, List.set_cons_zero, List.set_cons_succ]
            refine wpAnyH_take (i := 8) (oi := _) (v := ?mv8) rfl (by kernel_rfl) (by kernel_rfl) (by kernel_rfl) (fun _ _ _ h => h) (Or.inl ⟨by kernel_rfl, ?my8⟩) (by assumption) ?mr8
            case my8 => (intro w hSw; (try dsimp only at hSw); go_simp <;> with_reducible rfl)
            try simp only [Act.put, List.getElem_toArray, List.getElem_cons_zero, List.getElem_cons_succ, List.setIfInBounds_toArray, List.set_cons_zero, List.set_cons_succ]
            refine wpAnyH_take (i := 9) (oi := _) (v := ?mv9) rfl (by kernel_rfl) (by kernel_rfl) (by kernel_rfl) (fun _ _ _ h => h) (Or.inl ⟨by kernel_rfl, ?my9⟩) (by assumption) ?mr9
            case my9 => (intro w hSw; (try dsimp only at hSw); go_simp <;> with_reducible rfl)
            try simp only [Act.put, List.getElem_toArray, List.getElem_cons_zero, List.getElem_cons_succ, List.setIfInBounds_toArray, List.set_cons_zero, List.set_cons_succ]
            refine wpAnyH_take (i := 10) (oi := _) (v := ?mv10) rfl (by kernel_rfl) (by kernel_rfl) (by kernel_rfl) (fun _ _ _ h => h) (Or.inl ⟨by kernel_rfl, ?my10⟩) (by assumption) ?mr10
            case my10 => (intro w hSw; (try dsimp only at hSw); go_simp <;> with_reducible rfl)
            try simp only [Act.put, List.getElem_toArray, List.getElem_cons_zero, List.getElem_cons_succ, List.setIfInBounds_toArray, List.set_cons_zero, List.set_cons_succ]
            refine wpAnyH_take (i := 11) (oi := _) (v := ?mv11) rfl (by kernel_rfl) (by kernel_rfl) (by kernel_rfl) (fun _ _ _ h => h) (Or.inl ⟨by kernel_rfl, ?my11⟩) (by assumption) ?mr11
            case my11 => (intro w hSw; (try dsimp only at hSw); go_simp <;> with_reducible rfl)
            try simp only [Act.put, List.getElem_toArray, List.getElem_cons_zero, List.getElem_cons_succ, List.setIfInBounds_toArray, List.set_cons_zero, List.set_cons_succ]
            refine wpAnyH_take (i := 12) (oi := _) (v := ?mv12) rfl (by kernel_rfl) (by kernel_rfl) (by kernel_rfl) (fun _ _ _ h => h) (Or.inl ⟨by kernel_rfl, ?my12⟩) (by assumption) ?mr12
            case my12 => (intro w hSw; (try dsimp only at hSw); go_simp <;> with_reducible rfl)
            try simp only [Act.put, List.getElem_toArray, List.getElem_cons_zero, List.getElem_cons_succ, List.setIfInBounds_toArray, List.set_cons_zero, List.set_cons_succ]
            refine wpAnyH_take (i := 13) (oi := _) (v := ?mv13) rfl (by kernel_rfl) (by kernel_rfl) (by kernel_rfl) (fun _ _ _ h => h) (Or.inl ⟨by kernel_rfl, ?my13⟩) (by assumption) ?mr13
            case my13 => (intro w hSw; (try dsimp only at hSw); go_simp <;> with_reducible rfl)
            try simp only [Act.put, List.getElem_toArray, List.getElem_cons_zero, List.getElem_cons_succ, List.setIfInBounds_toArray, List.set_cons_zero, List.set_cons_succ]
            refine wpAnyH_take (i := 14) (oi := _) (v := ?mv14) rfl (by kernel_rfl) (by kernel_rfl) (by kernel_rfl) (fun _ _ _ h => h) (Or.inl ⟨by kernel_rfl, ?my14⟩) (by assumption) ?mr14
            case my14 => (intro w hSw; (try dsimp only at hSw); go_simp <;> with_reducible rfl)
            try simp only [Act.put, List.getElem_toArray, List.getElem_cons_zero, List.getElem_cons_succ, List.setIfInBounds_toArray, List.set_cons_zero, List.set_cons_succ]
            refine wpAnyH_take (i := 15) (oi := _) (v := ?mv15) rfl (by kernel_rfl) (by kernel_rfl) (by kernel_rfl) (fun _ _ _ h => h) (Or.inl ⟨by kernel_rfl, ?my15⟩) (by assumption) ?mr15
            case my15 => (intro w hSw; (try dsimp only at hSw); go_simp <;> with_reducible rfl)
            try simp only [Act.put, List.getElem_toArray, List.getElem_cons_zero, List.getElem_cons_succ, List.setIfInBounds_toArray, List.set_cons_zero, List.set_cons_succ]
            refine wpAnyH_take (i := 16) (oi := _) (v := ?mv16) rfl (by kernel_rfl) (by kernel_rfl) (by kernel_rfl) (fun _ _ _ h => h) (Or.inl ⟨by kernel_rfl, ?my16⟩) (by assumption) ?mr16
            case my16 => (intro w hSw; (try dsimp only at hSw); go_simp <;> with_reducible rfl)
            try simp only [Act.put, List.getElem_toArray, List.getElem_cons_zero, List.getElem_cons_succ, List.setIfInBounds_toArray, List.set_cons_zero, List.set_cons_succ]
            refine wpAnyH_take (i := 17) (oi := _) (v := ?mv17) rfl (by kernel_rfl) (by kernel_rfl) (by kernel_rfl) (fun _ _ _ h => h) (Or.inl ⟨by kernel_rfl, ?my17⟩) (by assumption) ?mr17
            case my17 => (intro w hSw; (try dsimp only at hSw); go_simp <;> with_reducible rfl)
            try simp only [Act.put, List.getElem_toArray, List.getElem_cons_zero, List.getElem_cons_succ, List.setIfInBounds_toArray, List.set_cons_zero, List.set_cons_succ]
            refine wpAnyH_take (i := 18) (oi := _) (v := ?mv18) rfl (by kernel_rfl) (by kernel_rfl) (by kernel_rfl) (fun _ _ _ h => h) (Or.inl ⟨by kernel_rfl, ?my18⟩) (by assumption) ?mr18
            case my18 => (intro w hSw; (try dsimp only at hSw); go_simp <;> with_reducible rfl)
            try simp only [Act.put, List.getElem_toArray, List.getElem_cons_zero, List.getElem_cons_succ, List.setIfInBounds_toArray, List.set_cons_zero, List.set_cons_succ]
            refine wpAnyH_take (i := 19) (oi := _) (v := ?mv19) rfl (by kernel_rfl) (by kernel_rfl) (by kernel_rfl) (fun _ _ _ h => h) (Or.inl ⟨by kernel_rfl, ?my19⟩) (by assumption) ?mr19
            case my19 => (intro w hSw; (try dsimp only at hSw); go_simp <;> with_reducible rfl)
            try simp only [Act.put, List.getElem_toArray, List.getElem_cons_zero, List.getElem_cons_succ, List.setIfInBounds_toArray, List.set_cons_zero, List.set_cons_succ]
            refine wpAnyH_take (i := 20) (oi := _) (v := ?mv20) rfl (by kernel_rfl) (by kernel_rfl) (by kernel_rfl) (fun _ _ _ h => h) (Or.inl ⟨by kernel_rfl, ?my20⟩) (by assumption) ?mr20
            case my20 => (intro w hSw; (try dsimp only at hSw); go_simp <;> with_reducible rfl)
            try simp only [Act.put, List.getElem_toArray, List.getElem_cons_zero, List.getElem_cons_succ, List.setIfInBounds_toArray, List.set_cons_zero, List.set_cons_succ]
            refine wpAnyH_take (i := 21) (oi := _) (v := ?mv21) rfl (by kernel_rfl) (by kernel_rfl) (by kernel_rfl) (fun _ _ _ h => h) (Or.inl ⟨by kernel_rfl, ?my21⟩) (by assumption) ?mr21
            case my21 => (intro w hSw; (try dsimp only at hSw); go_simp <;> with_reducible rfl)
            try simp only [Act.put, List.getElem_toArray, List.getElem_cons_zero, List.getElem_cons_succ, List.setIfInBounds_toArray, List.set_cons_zero, List.set_cons_succ]
            refine wpAnyH_take (i := 22) (oi := _) (v := ?mv22) rfl (by kernel_rfl) (by kernel_rfl) (by kernel_rfl) (fun _ _ _ h => h) (Or.inl ⟨by kernel_rfl, ?my22⟩) (by assumption) ?mr22
            case my22 => (intro w hSw; (try dsimp only at hSw); go_simp <;> with_reducible rfl)
            try simp only [Act.put, List.getElem_toArray, List.getElem_cons_zero, List.getElem_cons_succ, List.setIfInBounds_toArray, List.set_cons_zero, List.set_cons_succ]
            refine wpAnyH_take (i := 23) (oi := _) (v := ?mv23) rfl (by kernel_rfl) (by kernel_rfl) (by kernel_rfl) (fun _ _ _ h => h) (Or.inl ⟨by kernel_rfl, ?my23⟩) (by assumption) ?mr23
            case my23 => (intro w hSw; (try dsimp only at hSw); go_simp <;> with_reducible rfl)
            try simp only [Act.put, List.getElem_toArray, List.getElem_cons_zero, List.getElem_cons_succ, List.setIfInBounds_toArray, List.set_cons_zero, List.set_cons_succ]
            refine wpAnyH_take (i := 24) (oi := _) (v := ?mv24) rfl (by kernel_rfl) (by kernel_rfl) (by kernel_rfl) (fun _ _ _ h => h) (Or.inl ⟨by kernel_rfl, ?my24⟩) (by assumption) ?mr24
            case my24 => (intro w hSw; (try dsimp only at hSw); go_simp <;> with_reducible rfl)
            try simp only [Act.put, List.getElem_toArray, List.getElem_cons_zero, List.getElem_cons_succ, List.setIfInBounds_toArray, List.set_cons_zero, List.set_cons_succ]
            refine wpAnyH_take (i := 25) (oi := _) (v := ?mv25) rfl (by kernel_rfl) (by kernel_rfl) (by kernel_rfl) (fun _ _ _ h => h) (Or.inl ⟨by kernel_rfl, ?my25⟩) (by assumption) ?mr25
            case my25 => (intro w hSw; (try dsimp only at hSw); go_simp <;> with_reducible rfl)
            try simp only [Act.put, List.getElem_toArray, List.getElem_cons_zero, List.getElem_cons_succ, List.setIfInBounds_toArray, List.set_cons_zero, List.set_cons_succ]
            refine wpAnyH_take (i := 26) (oi := _) (v := ?mv26) rfl (by kernel_rfl) (by kernel_rfl) (by kernel_rfl) (fun _ _ _ h => h) (Or.inl ⟨by kernel_rfl, ?my26⟩) (by assumption) ?mr26
            case my26 => (intro w hSw; (try dsimp only at hSw); go_simp <;> with_reducible rfl)
            try simp only [Act.put, List.getElem_toArray, List.getElem_cons_zero, List.getElem_cons_succ, List.setIfInBounds_toArray, List.set_cons_zero, List.set_cons_succ]
            refine wpAnyH_take (i := 27) (oi := _) (v := ?mv27) rfl (by kernel_rfl) (by kernel_rfl) (by kernel_rfl) (fun _ _ _ h => h) (Or.inl ⟨by kernel_rfl, ?my27⟩) (by assumption) ?mr27
            case my27 => (intro w hSw; (try dsimp only at hSw); go_simp <;> with_reducible rfl)
            try simp only [Act.put, List.getElem_toArray, List.getElem_cons_zero, List.getElem_cons_succ, List.setIfInBounds_toArray, List.set_cons_zero, List.set_cons_succ]
            refine wpAnyH_take (i := 28) (oi := _) (v := ?mv28) rfl (by kernel_rfl) (by kernel_rfl) (by kernel_rfl) (fun _ _ _ h => h) (Or.inl ⟨by kernel_rfl, ?my28⟩) (by assumption) ?mr28
            case my28 => (intro w hSw; (try dsimp only at hSw); go_simp <;> with_reducible rfl)
            try simp only [Act.put, List.getElem_toArray, List.getElem_cons_zero, List.getElem_cons_succ, List.setIfInBounds_toArray, List.set_cons_zero, List.set_cons_succ]
            refine wpAnyH_take (i := 29) (oi := _) (v := ?mv29) rfl (by kernel_rfl) (by kernel_rfl) (by kernel_rfl) (fun _ _ _ h => h) (Or.inl ⟨by kernel_rfl, ?my29⟩) (by assumption) ?mr29
            case my29 => (intro w hSw; (try dsimp only at hSw); go_simp <;> with_reducible rfl)
            try simp only [Act.put, List.getElem_toArray, List.getElem_cons_zero, List.getElem_cons_succ, List.setIfInBounds_toArray, List.set_cons_zero, List.set_cons_succ]
            refine wpAnyH_take (i := 30) (oi := _) (v := ?mv30) rfl (by kernel_rfl) (by kernel_rfl) (by kernel_rfl) (fun _ _ _ h => h) (Or.inl ⟨by kernel_rfl, ?my30⟩) (by assumption) ?mr30
            case my30 => (intro w hSw; (try dsimp only at hSw); go_simp <;> with_reducible rfl)
            try simp only [Act.put, List.getElem_toArray, List.getElem_cons_zero, List.getElem_cons_succ, List.setIfInBounds_toArray, List.set_cons_zero, List.set_cons_succ]
            refine wpAnyH_take (i := 31) (oi := _) (v := ?mv31) rfl (by kernel_rfl) (by kernel_rfl) (by kernel_rfl) (fun _ _ _ h => h) (Or.inl ⟨by kernel_rfl, ?my31⟩) (by assumption) ?mr31
            case my31 => (intro w hSw; (try dsimp only at hSw); go_simp <;> with_reducible rfl)
            try simp only [Act.put, List.getElem_toArray, List.getElem_cons_zero, List.getElem_cons_succ, List.setIfInBounds_toArray, List.set_cons_zero, List.set_cons_succ]
            refine wpAnyH_take (i := 32) (oi := _) (v := ?mv32) rfl (by kernel_rfl) (by kernel_rfl) (by kernel_rfl) (fun _ _ _ h => h) (Or.inl ⟨by kernel_rfl, ?my32⟩) (by assumption) ?mr32
            case my32 => (intro w hSw; (try dsimp only at hSw); go_simp <;> with_reducible rfl)
            try simp only [Act.put, List.getElem_toArray, List.getElem_cons_zero, List.getElem_cons_succ, List.setIfInBounds_toArray, List.set_cons_zero, List.set_cons_succ]
            refine wpAnyH_take (i := 33) (oi := _) (v := ?mv33) rfl (by kernel_rfl) (by kernel_rfl) (by kernel_rfl) (fun _ _ _ h => h) (Or.inl ⟨by kernel_rfl, ?my33⟩) (by assumption) ?mr33
            case my33 => (intro w hSw; (try dsimp only at hSw); go_simp <;> with_reducible rfl)
            try simp only [Act.put, List.getElem_toArray, List.getElem_cons_zero, List.getElem_cons_succ, List.setIfInBounds_toArray, List.set_cons_zero, List.set_cons_succ]
            refine wpAnyH_take (i := 34) (oi := _) (v := ?mv34) rfl (by kernel_rfl) (by kernel_rfl) (by kernel_rfl) (fun _ _ _ h => h) (Or.inl ⟨by kernel_rfl, ?my34⟩) (by assumption) ?mr34
            case my34 => (intro w hSw; (try dsimp only at hSw); go_simp <;> with_reducible rfl)
            try simp only [Act.put, List.getElem_toArray, List.getElem_cons_zero, List.getElem_cons_succ, List.setIfInBounds_toArray, List.set_cons_zero, List.set_cons_succ]
            refine wpAnyH_take (i := 35) (oi := _) (v := ?mv35) rfl (by kernel_rfl) (by kernel_rfl) (by kernel_rfl) (fun _ _ _ h => h) (Or.inl ⟨by kernel_rfl, ?my35⟩) (by assumption) ?mr35
            case my35 => (intro w hSw; (try dsimp only at hSw); go_simp <;> with_reducible rfl)
            try simp only [Act.put, List.getElem_toArray, List.getElem_cons_zero, List.getElem_cons_succ, List.setIfInBounds_toArray, List.set_cons_zero, List.set_cons_succ]
            refine wpAnyH_take (i := 36) (oi := _) (v := ?mv36) rfl (by kernel_rfl) (by kernel_rfl) (by kernel_rfl) (fun _ _ _ h => h) (Or.inl ⟨by kernel_rfl, ?my36⟩) (by assumption) ?mr36
            case my36 => (intro w hSw; (try dsimp only at hSw); go_simp <;> with_reducible rfl)
            try simp only [Act.put, List.getElem_toArray, List.getElem_cons_zero, List.getElem_cons_succ, List.setIfInBounds_toArray, List.set_cons_zero, List.set_cons_succ]
            refine wpAnyH_take (i := 37) (oi := _) (v := ?mv37) rfl (by kernel_rfl) (by kernel_rfl) (by kernel_rfl) (fun _ _ _ h => h) (Or.inl ⟨by kernel_rfl, ?my37⟩) (by assumption) ?mr37
            case my37 => (intro w hSw; (try dsimp only at hSw); go_simp <;> with_reducible rfl)
            try simp only [Act.put, List.getElem_toArray, List.getElem_cons_zero, List.getElem_cons_succ, List.setIfInBounds_toArray, List.set_cons_zero, List.set_cons_succ]
            refine wpAnyH_take (i := 38) (oi := _) (v := ?mv38) rfl (by kernel_rfl) (by kernel_rfl) (by kernel_rfl) (fun _ _ _ h => h) (Or.inl ⟨by kernel_rfl, ?my38⟩) (by assumption) ?mr38
            case my38 => (intro w hSw; (try dsimp only at hSw); go_simp <;> with_reducible rfl)
            try simp only [Act.put, List.getElem_toArray, List.getElem_cons_zero, List.getElem_cons_succ, List.setIfInBounds_toArray, List.set_cons_zero, List.set_cons_succ]
            refine wpAnyH_take (i := 39) (oi := _) (v := ?mv39) rfl (by kernel_rfl) (by kernel_rfl) (by kernel_rfl) (fun _ _ _ h => h) (Or.inl ⟨by kernel_rfl, ?my39⟩) (by assumption) ?mr39
            case my39 => (intro w hSw; (try dsimp only at hSw); go_simp <;> with_reducible rfl)
            try simp only [Act.put, List.getElem_toArray, List.getElem_cons_zero, List.getElem_cons_succ, List.setIfInBounds_toArray, List.set_cons_zero, List.set_cons_succ]
            refine wpAnyH_ready (rs := [40]) (by kernel_rfl) (by simp) ?_
            refine AllReadyH.cons (o := _) rfl (fun K hK => ?_) AllReadyH.nil
            go_simp
            refine hK.out _ _ ?_ (fun hHeld40 => ?_)
            · exact HSB.out _ (below_drew ((Below.refl _ _).alloc (Nat.le_refl _) _))
            clear hK K hHeld
            try simp only [Act.put, List.getElem_toArray, List.getElem_cons_zero, List.getElem_cons_succ, List.setIfInBounds_toArray, List.set_cons_zero, List.set_cons_succ]
            refine wpAnyH_ready (rs := [41]) (by kernel_rfl) (by simp) ?_
            refine AllReadyH.cons (o := _) rfl (fun K hK => ?_) AllReadyH.nil
            go_simp
            refine hK.out _ _ ?_ (fun hHeld41 => ?_)
            · exact HSB.out _ (below_drew ((Below.refl _ _).alloc (Nat.le_refl _) _))
            clear hK K hHeld40
            try simp only [Act.put, List.getElem_toArray, List.getElem_cons_zero, List.getElem_cons_succ, List.setIfInBounds_toArray, List.set_cons_zero, List.set_cons_succ]
            refine wpAnyH_done (by kernel_rfl) ?_ _
            obtain ⟨W6, hW6⟩ : ∃ W6, (wr.alloc (.cells #[.int .i64 th, .int .i64 (i : Int), .bool F, .bool L] 46)).drew = W6 := ⟨_, rfl⟩
            rw [hW6]
            have hR6 : RowBlk 46 W6 wr.heap.size [.int .i64 th, .int .i64 (i : Int), .bool F, .bool L] := by rw [← hW6]; exact (RowBlk.new _ _ _).drew
            have hB6 : Below wr.heap.size wr W6 := by rw [← hW6]; exact below_drew ((Below.refl _ _).alloc (Nat.le_refl _) _)
            have HB6 : Hid (Below w4.heap.size w4 W6) := Lib.hid (HBr.out.trans (hB6.mono HBr.out.size))
            replace d0 := (hB6.cell (p := ⟨tg, _, none⟩) hz1).trans d0
            replace d1 := (hB6.cell (p := ⟨tg, _, none⟩) hz1).trans d1
            replace d2 := (hB6.cell (p := ⟨tg, _, none⟩) hz1).trans d2
            replace d3 := (hB6.cell (p := ⟨tg, _, none⟩) hz1).trans d3
            have r0 := hR6.cell (i := 0) rfl
            have r1 := hR6.cell (i := 1) rfl
            have r2 := hR6.cell (i := 2) rfl
            have r3 := hR6.cell (i := 3) rfl
            have htn := fun W => tk_ne th (i : Int) F L W
            clear hW6 hR6 hB6 hHeld41 c1 c2 c3 HSB HBr hz1 hz2 hz3 hz4 e1 e2
            go_wp2_with fail
            go_quiet (fail)
            go_wp2_with fail
            go_roundw
            case rel => exact ⟨j + 1, by omega, by go_num, Lib.hid (below_drewN HB6.out _)⟩
            case measure => simp [RowKit.intOf]; omega

        · have hj2 : j = T.length := by omega
          have HBr : Hid (Below w.heap.size w wr) := Lib.hid (HB4.out.trans (hB.out.mono HB4.out.size))
          clear hHr
          subst hj2
          go_wp2_with fail
          refine (HAD.out _ HBr.out).mono ?_
          rintro e w5 ⟨rfl, hb5⟩
          have HB5 := Lib.hid hb5
          clear hb5
          go_wp2_with fail
          go_ret
          exact ⟨rfl, HB5.out⟩
end Go.Proofs.Ythacohejdpjjeaa
