/- Walk of what tells a report. -/
import Derived.Test.YthacohejdpjjeaaNB
namespace Go.Proofs.Ythacohejdpjjeaa
open Go.RowKit Go.Lib Go.Sort

theorem repRow_in {cs : List CaX} {e : EvX} {n : Nat} {y : CaX} (h : e.ca = (n : Int)) (hy : cs[n]? = some y) : repRow cs e = caLine y ++ ([58, 32] ++ (evLine e ++ [10])) := by
  have hn := (List.getElem?_eq_some_iff.1 hy).1
  unfold repRow
  rw [if_pos ⟨by omega, by omega⟩, h, Int.toNat_natCast, List.getD_eq_getElem?_getD, hy]
  rfl
theorem repRow_out {cs : List CaX} {e : EvX} (h : ¬ (0 ≤ e.ca ∧ e.ca < (cs.length : Int))) : repRow cs e = [58, 32] ++ (evLine e ++ [10]) := by
  unfold repRow
  rw [if_neg h]
  rfl

set_option maxHeartbeats 4000000 in
set_option maxRecDepth 100000 in
theorem report_any (x : RpX) (w : World) (hx : RpAt w x) (hsm : RpSm x) :
    Calls Try.prog 16 #[.slice x.ca x.cs.length x.cc, .agg #[.slice x.ea x.l.length x.ec, .slice x.wa x.wn x.wc, .int .i64 x.rr, .int .i64 x.wt, .int .i64 x.sw, .int .i64 x.ad, .int .i64 x.fa, .int .i64 x.tk, .int .i64 x.idl]] w (StrP (repL x) w) := by
  obtain ⟨iI, ia, ib, ic, id⟩ := info_parts infoB
  have HAT := Lib.hid hx
  have HB256 := Lib.hid (repL_b hx)
  have HN1 := Lib.hid (nm1_ok hx)
  have HN2 := Lib.hid (nm2_ok hx)
  have HSM := Lib.hid hsm
  obtain ⟨cs, l, ca, cb, co, cc, ea, eb, eo, ec, wa, wn, wc, rr, wt, sw, ad, fa, tk, idl⟩ := x
  dsimp only at HAT HB256 HN1 HN2 HSM ⊢
  unfold repL at HB256 ⊢
  unfold nm1 at HB256 HN1 ⊢
  unfold nm2 at HB256 HN2 ⊢
  dsimp only at HB256 HN1 HN2 ⊢
  obtain ⟨R, hR⟩ : ∃ R, repRows cs l = R := ⟨_, rfl⟩
  rw [hR] at HB256 ⊢
  have HRL : Hid (R.length ≤ 2000000) := Lib.hid (by
    rw [← hR]
    have := HSM.out.l
    have h2 : ∀ (l : List (EvX × EvS)), (∀ p ∈ l, p.1.lw.length ≤ 200 ∧ p.1.kw.length ≤ 200) → (repRows cs l).length ≤ l.length * 10000 := by
      intro l
      induction l with
      | nil => intro _; simp [repRows]
      | cons p l ih =>
        intro h
        have h3 := ih (fun q hq => h q (List.mem_cons_of_mem _ hq))
        have h4 := repRow_len cs p.1 (h p (List.mem_cons_self ..))
        rw [repRows, List.length_append, List.length_cons, Nat.succ_mul]
        omega
    have h5 := h2 l HSM.out.e
    dsimp only at this
    omega)
  have HRR := Lib.hid hR
  obtain ⟨R1, hR1⟩ : ∃ R1, (R ++ numsF nmL true [⟨n_ticks, tk⟩, ⟨n_idle, idl⟩]) ++ [10] = R1 := ⟨_, rfl⟩
  have HL1 : Hid (R1.length ≤ 2001000) := Lib.hid (by
    have h1 := numsF_nm HN1.out true
    have h2 := HRL.out
    rw [← hR1]
    simp only [List.length_append, List.length_cons, List.length_nil] at h1 ⊢
    omega)
  rw [hR1] at HB256 ⊢
  have HR1 := Lib.hid hR1
  obtain ⟨R2, hR2⟩ : ∃ R2, (R1 ++ numsF nmL true [⟨n_reads, rr⟩, ⟨n_writes, wt⟩, ⟨n_swaps, sw⟩, ⟨n_adds, ad⟩, ⟨n_faults, fa⟩]) ++ [10] = R2 := ⟨_, rfl⟩
  rw [hR2] at HB256 ⊢
  have HR2 := Lib.hid hR2
  obtain ⟨B, hBB⟩ : ∃ B, w.heap.size = B := ⟨_, rfl⟩
  have hst := StB.new w 55 [.slice ea l.length ec, .slice wa wn wc, .int .i64 rr, .int .i64 wt, .int .i64 sw, .int .i64 ad, .int .i64 fa, .int .i64 tk, .int .i64 idl]
  obtain ⟨w1, hw1⟩ : ∃ w1, w.alloc (.cells #[.slice ea l.length ec, .slice wa wn wc, .int .i64 rr, .int .i64 wt, .int .i64 sw, .int .i64 ad, .int .i64 fa, .int .i64 tk, .int .i64 idl] 55) = w1 := ⟨_, rfl⟩
  have hst1 : StB w1 B 55 [.slice ea l.length ec, .slice wa wn wc, .int .i64 rr, .int .i64 wt, .int .i64 sw, .int .i64 ad, .int .i64 fa, .int .i64 tk, .int .i64 idl] := by rw [← hw1, ← hBB]; exact hst
  have HST := Lib.hid hst1
  have HB1 : Hid (Below B w w1) := Lib.hid (by rw [← hw1]; exact (Below.refl _ _).alloc (by omega) _)
  have HK1 : Hid (Keeps 5 w w1) := Lib.hid (by rw [← hw1]; exact Keeps.alloc _ _ _)
  have HBB := Lib.hid hBB
  have p0 := hst1.cell (i := 0) rfl
  unfold StrP
  rw [hBB]
  clear hx hsm hR hR1 hR2 hst hst1
  go_enter Try.func16, Try.ntmps16
  go_upto_region 2 with fail
  try rw [hBB]
  try rw [hw1]
  clear hw1 hBB
  go_wp2_with fail
  go_loopw [5, 12] (fun u k wr => ∃ (j : Nat) (out : List Nat), j ≤ l.length ∧ k = .int .i64 j ∧ Hid (out.length ≤ j * 10000) ∧ Hid (BOwn wr B u out) ∧ Hid (Below B w wr) ∧ Hid (Keeps 5 w wr) ∧ Hid (StB wr B 55 [.slice ea l.length ec, .slice wa wn wc, .int .i64 rr, .int .i64 wt, .int .i64 sw, .int .i64 ad, .int .i64 fa, .int .i64 tk, .int .i64 idl]) ∧ Hid (out ++ repRows cs (l.drop j) = R)) (fun _ k _ => l.length - (RowKit.intOf k).toNat)
  case atStart => exact ⟨0, [], Nat.zero_le _, rfl, Lib.hid (by simp), Lib.hid (BOwn.nil _ _), HB1, HK1, HST, HRR⟩
  case round =>
    obtain ⟨j, out, hj, rfl, hol, hown, hbl, hkp, hst, hp⟩ := hrel
    have HSZ : Hid (B ≤ wr.heap.size) := Lib.hid (by have := hbl.out.size; have := HBB.out; omega)
    by_cases hlt : j < l.length
    · have hea := HAT.out.ea (by show 0 < l.length; omega)
      dsimp only at hea
      subst hea
      obtain ⟨p, hp1⟩ : ∃ p, l[j]? = some p := ⟨l[j], List.getElem?_eq_getElem hlt⟩
      obtain ⟨hok, hev⟩ := HAT.out.ek p (List.mem_of_getElem? hp1)
      have hsmall := HSM.out.e p (List.mem_of_getElem? hp1)
      have hcel : ∀ (k : Nat) (u : Value), (evVs p.1 p.2)[k]? = some u → wr.cell? ⟨eb, eo + j * 8 + k, none⟩ = some u := fun k u hu =>
        (hbl.out.cell (p := ⟨eb, _, none⟩) (by have := HAT.out.eb (by show 0 < l.length; omega); have := HBB.out; dsimp only at *; omega)).trans (HAT.out.ec j p hp1 k u hu)
      have hd := drop_consG hp1
      have hat : EvAt wr B p.1 p.2 := (hev.at (Nat.le_of_eq HBB.out)).trans hbl.out hkp.out
      have hl200 : l.length ≤ 200 := HSM.out.l
      clear hp1 hev
      obtain ⟨⟨eca, iv, rs, st, er, vl, lw, kw⟩, ⟨la, lb, lo, lc, ka, kb, ko, kc⟩⟩ := p
      dsimp only at hcel hat hsmall hok hd
      have e0 : wr.cell? ⟨eb, eo + j * 8 + 0, none⟩ = some (.int .i64 eca) := hcel 0 _ rfl
      have e1 : wr.cell? ⟨eb, eo + j * 8 + 1, none⟩ = some (.int .i64 iv) := hcel 1 _ rfl
      have e2 : wr.cell? ⟨eb, eo + j * 8 + 2, none⟩ = some (.int .i64 rs) := hcel 2 _ rfl
      have e3 : wr.cell? ⟨eb, eo + j * 8 + 3, none⟩ = some (.int .i64 st) := hcel 3 _ rfl
      have e4 : wr.cell? ⟨eb, eo + j * 8 + 4, none⟩ = some (.int .i64 er) := hcel 4 _ rfl
      have e5 : wr.cell? ⟨eb, eo + j * 8 + 5, none⟩ = some (.int .u64 (vl : Int)) := hcel 5 _ rfl
      have e6 : wr.cell? ⟨eb, eo + j * 8 + 6, none⟩ = some (.slice la lw.length lc) := hcel 6 _ rfl
      have e7 : wr.cell? ⟨eb, eo + j * 8 + 7, none⟩ = some (.slice ka kw.length kc) := hcel 7 _ rfl
      rw [Nat.add_zero] at e0
      obtain ⟨E, hE⟩ : ∃ E : EvX, (⟨eca, iv, rs, st, er, vl, lw, kw⟩ : EvX) = E := ⟨_, rfl⟩
      have hEca : E.ca = eca := by rw [← hE]
      have hlen : (evLine E).length ≤ 9000 := by
        have := evLine_len E
        rw [← hE] at this ⊢
        dsimp only at this hsmall
        omega
      have HEV : Hid (∀ (v : Value) (o : List Nat) (W : World), BOwn W B v o → B ≤ W.heap.size → Below B wr W → Keeps 5 wr W → o.length ≤ 2100000 → Calls Try.prog 32 #[v, .agg #[.int .i64 eca, .int .i64 iv, .int .i64 rs, .int .i64 st, .int .i64 er, .int .u64 (vl : Int), .slice la lw.length lc, .slice ka kw.length kc]] W (ApP B W (o ++ evLine E))) := Lib.hid (fun v o W h1 h2 h3 h4 h5 => by
        rw [← hE]
        exact appEvent_any B v o _ ⟨la, lb, lo, lc, ka, kb, ko, kc⟩ W h1 h2 hok (hat.trans h3 h4) (by dsimp only at hsmall ⊢; omega))
      have HLE : Hid (out.length ≤ 2000000) := Lib.hid (by have := hol.out; omega)
      have HEL := Lib.hid hlen
      have hs0 := StB.new wr 44 [.int .i64 eca, .int .i64 iv, .int .i64 rs, .int .i64 st, .int .i64 er, .int .u64 (vl : Int), .slice la lw.length lc, .slice ka kw.length kc]
      obtain ⟨w2, hw2⟩ : ∃ w2, wr.alloc (.cells #[.int .i64 eca, .int .i64 iv, .int .i64 rs, .int .i64 st, .int .i64 er, .int .u64 (vl : Int), .slice la lw.length lc, .slice ka kw.length kc] 44) = w2 := ⟨_, rfl⟩
      rw [hw2] at hs0
      have HB2 : Hid (Below B wr w2) := Lib.hid (by rw [← hw2]; exact (Below.refl _ _).alloc HSZ.out _)
      have HK2 : Hid (Keeps 5 wr w2) := Lib.hid (by rw [← hw2]; exact Keeps.alloc _ _ _)
      have HSZ2 := Lib.hid (Nat.le_trans HSZ.out HB2.out.size)
      have HO2 : Hid (BOwn w2 B u5 out) := Lib.hid (by rw [← hw2]; exact World.ownsRow.alloc hown.out _)
      have HS2 : Hid (StB w2 B 55 [.slice (some ⟨eb, eo, none⟩) l.length ec, .slice wa wn wc, .int .i64 rr, .int .i64 wt, .int .i64 sw, .int .i64 ad, .int .i64 fa, .int .i64 tk, .int .i64 idl]) := Lib.hid (hst.out.keep (by decide) HK2.out)
      have k0 := hs0.cell (i := 0) rfl
      have HX2 := Lib.hid hs0
      have hjb : j < 4000000 := by omega
      clear hat hsmall hok hcel hown hs0 hlen hl200
      go_upto_region 5 with fail
      try rw [hw2]
      clear hw2
      by_cases hc1 : 0 ≤ eca
      · by_cases hc2 : eca < (cs.length : Int)
        · obtain ⟨n, rfl⟩ : ∃ n : Nat, eca = n := ⟨eca.toNat, by omega⟩
          have hn : n < cs.length := by omega
          obtain ⟨y, hy⟩ : ∃ y, cs[n]? = some y := ⟨cs[n], List.getElem?_eq_getElem hn⟩
          have hca := HAT.out.ca (by show 0 < cs.length; omega)
          dsimp only at hca
          subst hca
          have HP : Hid (out ++ (caLine y ++ ([58, 32] ++ (evLine E ++ [10])) ++ repRows cs (l.drop (j + 1))) = R) := Lib.hid (by
            rw [← hp.out, hd, repRows, ← repRow_in (e := E) hEca hy, hE])
          have hyo := HAT.out.ck y (List.mem_of_getElem? hy)
          have hcel : ∀ (k : Nat) (u : Value), y.vs[k]? = some u → w2.cell? ⟨cb, co + n * 6 + k, none⟩ = some u := fun k u hu =>
            ((hbl.out.trans HB2.out).cell (p := ⟨cb, _, none⟩) (by have := HAT.out.cb (by show 0 < cs.length; omega); have := HBB.out; dsimp only at *; omega)).trans (HAT.out.cc n y hy k u hu)
          have HCA := Lib.hid (appCall_any B u5 out y w2 HO2.out HSZ2.out hyo (by have := HLE.out; omega))
          have HCL := Lib.hid (caLine_len y)
          clear hp hd hE hEca hy hyo
          obtain ⟨th, ob, kd, a, b, c⟩ := y
          dsimp only [caV] at HCA
          have a0 : w2.cell? ⟨cb, co + n * 6, none⟩ = some (.int .i64 th) := hcel 0 _ rfl
          have a1 : w2.cell? ⟨cb, co + n * 6 + 1, none⟩ = some (.int .i64 ob) := hcel 1 _ rfl
          have a2 : w2.cell? ⟨cb, co + n * 6 + 2, none⟩ = some (.int .i64 kd) := hcel 2 _ rfl
          have a3 : w2.cell? ⟨cb, co + n * 6 + 3, none⟩ = some (.int .u64 (a : Int)) := hcel 3 _ rfl
          have a4 : w2.cell? ⟨cb, co + n * 6 + 4, none⟩ = some (.int .u64 (b : Int)) := hcel 4 _ rfl
          have a5 : w2.cell? ⟨cb, co + n * 6 + 5, none⟩ = some (.int .u64 (c : Int)) := hcel 5 _ rfl
          clear hcel
          go_wp2_with fail
          refine HCA.out.mono ?_
          rintro e w3 ⟨v3, rfl, ho3, hb3, hk3⟩
          obtain ⟨Z, hZ⟩ : ∃ Z, out ++ caLine ⟨th, ob, kd, a, b, c⟩ = Z := ⟨_, rfl⟩
          have HZL : Hid (Z.length ≤ out.length + 133) := Lib.hid (by have := HCL.out; rw [← hZ, List.length_append]; omega)
          rw [hZ] at ho3
          rw [← List.append_assoc, ← List.append_assoc, hZ] at HP
          have HO3 : Hid (w3.ownsRow B 5 1 v3 Z.length (Z.map bV)) := Lib.hid ho3
          have HB3 := Lib.hid (HB2.out.trans hb3)
          have HK3 := Lib.hid (HK2.out.trans hk3)
          have HSZ3 := Lib.hid (Nat.le_trans HSZ.out HB3.out.size)
          have HX3 := Lib.hid (HX2.out.keep (by decide) hk3)
          have HS3 := Lib.hid (HS2.out.keep (by decide) hk3)
          have HLZ : Hid (Z.length + 2 ≤ 4294967296) := Lib.hid (by have := HZL.out; have := HLE.out; omega)
          clear ho3 hb3 hk3 hZ HCA HCL
          go_wp2_with (at_builtin; refine append_str rfl _ _ rfl B iI Try.underlying77 Try.underlying9 ia ib ic id v3 (Z.map bV) Z.length rfl HO3.out [58, 32] (by decide) (congrArg Value.string s_colon.symm) HLZ.out HSZ3.out ?_)
          intro v5 w5 ho5 hb5 hk5
          have HO5 : Hid (BOwn w5 B v5 (Z ++ [58, 32])) := Lib.hid (BOwn.app (m := [58, 32]) ho5 rfl)
          have hx5 := HX3.out.keep (by decide) hk5
          have g0 := hx5.cell (i := 0) rfl
          have g1 := hx5.cell (i := 1) rfl
          have g2 := hx5.cell (i := 2) rfl
          have g3 := hx5.cell (i := 3) rfl
          have g4 := hx5.cell (i := 4) rfl
          have g5 := hx5.cell (i := 5) rfl
          have g6 := hx5.cell (i := 6) rfl
          have g7 := hx5.cell (i := 7) rfl
          have HB5 := Lib.hid (HB3.out.trans hb5)
          have HK5 := Lib.hid (HK3.out.trans hk5)
          have HS5 := Lib.hid (HS3.out.keep (by decide) hk5)
          have HSZ5 := Lib.hid (Nat.le_trans HSZ.out HB5.out.size)
          have HAE := Lib.hid (HEV.out v5 (Z ++ [58, 32]) w5 HO5.out HSZ5.out HB5.out HK5.out (by have := HLE.out; have := HZL.out; simp only [List.length_append, List.length_cons, List.length_nil]; omega))
          clear ho5 hb5 hk5 hx5
          go_wp2_with fail
          refine HAE.out.mono ?_
          rintro e w6 ⟨v6, rfl, ho6, hb6, hk6⟩
          obtain ⟨Y, hY⟩ : ∃ Y, (Z ++ [58, 32]) ++ evLine E = Y := ⟨_, rfl⟩
          rw [hY] at ho6
          have HY := Lib.hid hY
          have HYL : Hid (Y.length + 1 ≤ 4294967296 ∧ Y.length + 1 ≤ out.length + 10000) := Lib.hid (by have := HLE.out; have := HEL.out; have := HZL.out; rw [← hY]; simp only [List.length_append, List.length_cons, List.length_nil]; omega)
          have HO6 : Hid (w6.ownsRow B 5 1 v6 Y.length (Y.map bV)) := Lib.hid ho6
          have HB6 := Lib.hid (HB5.out.trans hb6)
          have HK6 := Lib.hid (HK5.out.trans hk6)
          have HS6 := Lib.hid (HS5.out.keep (by decide) hk6)
          have HSZ6 := Lib.hid (Nat.le_trans HSZ.out HB6.out.size)
          clear ho6 hb6 hk6 hY
          go_wp2_with (at_builtin; refine append_laid rfl _ _ 77 rfl B 5 iI (.int .u8 0) 1 1 Try.underlying77 ia ib ic id rfl (by decide) (by decide) _ Y.length (Y.map bV) rfl HO6.out 1 (by decide) [.int .u8 10] rfl rfl rfl HYL.out.1 HSZ6.out ?_)
          intro v7 w7 ho7 hb7 hk7
          have HO7 : Hid (BOwn w7 B v7 (Y ++ [10])) := Lib.hid (BOwn.app (m := [10]) ho7 rfl)
          have HB7 := Lib.hid (hbl.out.trans (HB6.out.trans hb7))
          have HK7 := Lib.hid (hkp.out.trans (HK6.out.trans hk7))
          have HS7 := Lib.hid (HS6.out.keep (by decide) hk7)
          clear ho7 hb7 hk7
          have HP7 : Hid ((Y ++ [10]) ++ repRows cs (l.drop (j + 1)) = R) := Lib.hid (by
            rw [← HP.out, ← HY.out]
            simp)
          go_wp2
          go_roundw
          case rel => exact ⟨j + 1, Y ++ [10], by omega, by go_num, Lib.hid (by have := hol.out; have := HYL.out.2; simp only [List.length_append, List.length_singleton]; omega), HO7, HB7, HK7, HS7, HP7⟩
          case measure => simp [RowKit.intOf]; omega
        · have HP : Hid (out ++ (([58, 32] ++ (evLine E ++ [10])) ++ repRows cs (l.drop (j + 1))) = R) := Lib.hid (by
            rw [← hp.out, hd, repRows, hE, repRow_out (e := E) (by rw [hEca]; omega)])
          have HLZ : Hid (out.length + 2 ≤ 4294967296) := Lib.hid (by have := HLE.out; omega)
          have HO3 : Hid (w2.ownsRow B 5 1 u5 out.length (out.map bV)) := HO2
          clear hp hd hE hEca
          go_wp2_with (at_builtin; refine append_str rfl _ _ rfl B iI Try.underlying77 Try.underlying9 ia ib ic id u5 (out.map bV) out.length rfl HO3.out [58, 32] (by decide) (congrArg Value.string s_colon.symm) HLZ.out HSZ2.out ?_)
          intro v5 w5 ho5 hb5 hk5
          have HO5 : Hid (BOwn w5 B v5 (out ++ [58, 32])) := Lib.hid (BOwn.app (m := [58, 32]) ho5 rfl)
          have hx5 := HX2.out.keep (by decide) hk5
          have g0 := hx5.cell (i := 0) rfl
          have g1 := hx5.cell (i := 1) rfl
          have g2 := hx5.cell (i := 2) rfl
          have g3 := hx5.cell (i := 3) rfl
          have g4 := hx5.cell (i := 4) rfl
          have g5 := hx5.cell (i := 5) rfl
          have g6 := hx5.cell (i := 6) rfl
          have g7 := hx5.cell (i := 7) rfl
          have HB5 := Lib.hid (HB2.out.trans hb5)
          have HK5 := Lib.hid (HK2.out.trans hk5)
          have HS5 := Lib.hid (HS2.out.keep (by decide) hk5)
          have HSZ5 := Lib.hid (Nat.le_trans HSZ.out HB5.out.size)
          have HAE := Lib.hid (HEV.out v5 (out ++ [58, 32]) w5 HO5.out HSZ5.out HB5.out HK5.out (by have := HLE.out; simp only [List.length_append, List.length_cons, List.length_nil]; omega))
          clear ho5 hb5 hk5 hx5
          go_wp2_with fail
          refine HAE.out.mono ?_
          rintro e w6 ⟨v6, rfl, ho6, hb6, hk6⟩
          obtain ⟨Y, hY⟩ : ∃ Y, (out ++ [58, 32]) ++ evLine E = Y := ⟨_, rfl⟩
          rw [hY] at ho6
          have HY := Lib.hid hY
          have HYL : Hid (Y.length + 1 ≤ 4294967296 ∧ Y.length + 1 ≤ out.length + 10000) := Lib.hid (by have := HLE.out; have := HEL.out; rw [← hY]; simp only [List.length_append, List.length_cons, List.length_nil]; omega)
          have HO6 : Hid (w6.ownsRow B 5 1 v6 Y.length (Y.map bV)) := Lib.hid ho6
          have HB6 := Lib.hid (HB5.out.trans hb6)
          have HK6 := Lib.hid (HK5.out.trans hk6)
          have HS6 := Lib.hid (HS5.out.keep (by decide) hk6)
          have HSZ6 := Lib.hid (Nat.le_trans HSZ.out HB6.out.size)
          clear ho6 hb6 hk6 hY
          go_wp2_with (at_builtin; refine append_laid rfl _ _ 77 rfl B 5 iI (.int .u8 0) 1 1 Try.underlying77 ia ib ic id rfl (by decide) (by decide) _ Y.length (Y.map bV) rfl HO6.out 1 (by decide) [.int .u8 10] rfl rfl rfl HYL.out.1 HSZ6.out ?_)
          intro v7 w7 ho7 hb7 hk7
          have HO7 : Hid (BOwn w7 B v7 (Y ++ [10])) := Lib.hid (BOwn.app (m := [10]) ho7 rfl)
          have HB7 := Lib.hid (hbl.out.trans (HB6.out.trans hb7))
          have HK7 := Lib.hid (hkp.out.trans (HK6.out.trans hk7))
          have HS7 := Lib.hid (HS6.out.keep (by decide) hk7)
          clear ho7 hb7 hk7
          have HP7 : Hid ((Y ++ [10]) ++ repRows cs (l.drop (j + 1)) = R) := Lib.hid (by
            rw [← HP.out, ← HY.out]
            simp)
          go_wp2
          go_roundw
          case rel => exact ⟨j + 1, Y ++ [10], by omega, by go_num, Lib.hid (by have := hol.out; have := HYL.out.2; simp only [List.length_append, List.length_singleton]; omega), HO7, HB7, HK7, HS7, HP7⟩
          case measure => simp [RowKit.intOf]; omega
      · have HP : Hid (out ++ (([58, 32] ++ (evLine E ++ [10])) ++ repRows cs (l.drop (j + 1))) = R) := Lib.hid (by
          rw [← hp.out, hd, repRows, hE, repRow_out (e := E) (by rw [hEca]; omega)])
        have HLZ : Hid (out.length + 2 ≤ 4294967296) := Lib.hid (by have := HLE.out; omega)
        have HO3 : Hid (w2.ownsRow B 5 1 u5 out.length (out.map bV)) := HO2
        clear hp hd hE hEca
        go_wp2_with (at_builtin; refine append_str rfl _ _ rfl B iI Try.underlying77 Try.underlying9 ia ib ic id u5 (out.map bV) out.length rfl HO3.out [58, 32] (by decide) (congrArg Value.string s_colon.symm) HLZ.out HSZ2.out ?_)
        intro v5 w5 ho5 hb5 hk5
        have HO5 : Hid (BOwn w5 B v5 (out ++ [58, 32])) := Lib.hid (BOwn.app (m := [58, 32]) ho5 rfl)
        have hx5 := HX2.out.keep (by decide) hk5
        have g0 := hx5.cell (i := 0) rfl
        have g1 := hx5.cell (i := 1) rfl
        have g2 := hx5.cell (i := 2) rfl
        have g3 := hx5.cell (i := 3) rfl
        have g4 := hx5.cell (i := 4) rfl
        have g5 := hx5.cell (i := 5) rfl
        have g6 := hx5.cell (i := 6) rfl
        have g7 := hx5.cell (i := 7) rfl
        have HB5 := Lib.hid (HB2.out.trans hb5)
        have HK5 := Lib.hid (HK2.out.trans hk5)
        have HS5 := Lib.hid (HS2.out.keep (by decide) hk5)
        have HSZ5 := Lib.hid (Nat.le_trans HSZ.out HB5.out.size)
        have HAE := Lib.hid (HEV.out v5 (out ++ [58, 32]) w5 HO5.out HSZ5.out HB5.out HK5.out (by have := HLE.out; simp only [List.length_append, List.length_cons, List.length_nil]; omega))
        clear ho5 hb5 hk5 hx5
        go_wp2_with fail
        refine HAE.out.mono ?_
        rintro e w6 ⟨v6, rfl, ho6, hb6, hk6⟩
        obtain ⟨Y, hY⟩ : ∃ Y, (out ++ [58, 32]) ++ evLine E = Y := ⟨_, rfl⟩
        rw [hY] at ho6
        have HY := Lib.hid hY
        have HYL : Hid (Y.length + 1 ≤ 4294967296 ∧ Y.length + 1 ≤ out.length + 10000) := Lib.hid (by have := HLE.out; have := HEL.out; rw [← hY]; simp only [List.length_append, List.length_cons, List.length_nil]; omega)
        have HO6 : Hid (w6.ownsRow B 5 1 v6 Y.length (Y.map bV)) := Lib.hid ho6
        have HB6 := Lib.hid (HB5.out.trans hb6)
        have HK6 := Lib.hid (HK5.out.trans hk6)
        have HS6 := Lib.hid (HS5.out.keep (by decide) hk6)
        have HSZ6 := Lib.hid (Nat.le_trans HSZ.out HB6.out.size)
        clear ho6 hb6 hk6 hY
        go_wp2_with (at_builtin; refine append_laid rfl _ _ 77 rfl B 5 iI (.int .u8 0) 1 1 Try.underlying77 ia ib ic id rfl (by decide) (by decide) _ Y.length (Y.map bV) rfl HO6.out 1 (by decide) [.int .u8 10] rfl rfl rfl HYL.out.1 HSZ6.out ?_)
        intro v7 w7 ho7 hb7 hk7
        have HO7 : Hid (BOwn w7 B v7 (Y ++ [10])) := Lib.hid (BOwn.app (m := [10]) ho7 rfl)
        have HB7 := Lib.hid (hbl.out.trans (HB6.out.trans hb7))
        have HK7 := Lib.hid (hkp.out.trans (HK6.out.trans hk7))
        have HS7 := Lib.hid (HS6.out.keep (by decide) hk7)
        clear ho7 hb7 hk7
        have HP7 : Hid ((Y ++ [10]) ++ repRows cs (l.drop (j + 1)) = R) := Lib.hid (by
          rw [← HP.out, ← HY.out]
          simp)
        go_wp2
        go_roundw
        case rel => exact ⟨j + 1, Y ++ [10], by omega, by go_num, Lib.hid (by have := hol.out; have := HYL.out.2; simp only [List.length_append, List.length_singleton]; omega), HO7, HB7, HK7, HS7, HP7⟩
        case measure => simp [RowKit.intOf]; omega
    · have hj2 : j = l.length := by omega
      have HP : Hid (out = R) := Lib.hid (by
        rw [← hp.out, hj2, List.drop_length]
        simp [repRows])
      have HRO : Hid (BOwn wr B u5 R) := Lib.hid (by rw [← HP.out]; exact hown.out)
      have p7 := hst.out.cell (i := 7) rfl
      have p8 := hst.out.cell (i := 8) rfl
      clear hp hown hol hlt hj HP
      subst hj2
      have HC1 : Hid (LaterC (wr.alloc (.cells #[.string ⟨#[116, 105, 99, 107, 115]⟩, .int .i64 tk, .string ⟨#[105, 100, 108, 101]⟩, .int .i64 idl] 82)) B wr.heap.size 0 (nmCs [⟨n_ticks, tk⟩, ⟨n_idle, idl⟩])) := Lib.hid (by
        have h := LaterC.built (w := wr) (B := B) (e := 82) (nmCs [⟨n_ticks, tk⟩, ⟨n_idle, idl⟩]) (by decide) (by simp [nmCs]) (g := wr.heap.size) rfl
        simp only [nmCs, List.flatMap_cons, List.flatMap_nil, List.cons_append, List.nil_append, s_ticks, s_idle] at h ⊢
        exact h)
      obtain ⟨w2, hw2⟩ : ∃ w2, wr.alloc (.cells #[.string ⟨#[116, 105, 99, 107, 115]⟩, .int .i64 tk, .string ⟨#[105, 100, 108, 101]⟩, .int .i64 idl] 82) = w2 := ⟨_, rfl⟩
      have HB2 : Hid (Below B w w2) := Lib.hid (by rw [← hw2]; exact hbl.out.alloc HSZ.out _)
      have HK2 : Hid (Keeps 5 w w2) := Lib.hid (by rw [← hw2]; exact hkp.out.trans (Keeps.alloc _ _ _))
      have HS2 : Hid (StB w2 B 55 [.slice ea l.length ec, .slice wa wn wc, .int .i64 rr, .int .i64 wt, .int .i64 sw, .int .i64 ad, .int .i64 fa, .int .i64 tk, .int .i64 idl]) := Lib.hid (by rw [← hw2]; exact hst.out.alloc _)
      have HSZ2 := Lib.hid (Nat.le_trans HSZ.out (by rw [← hw2]; simp : wr.heap.size ≤ w2.heap.size))
      have HA1 : Hid (Calls Try.prog 33 #[u5, .slice (some ⟨wr.heap.size, 0, none⟩) 2 2] w2 (ApP B w2 R1)) := Lib.hid (by
        have h := appNamed_any B u5 R wr.heap.size 2 [⟨n_ticks, tk⟩, ⟨n_idle, idl⟩] w2 (by rw [← hw2]; exact World.ownsRow.alloc HRO.out _) HSZ2.out (by rw [← hw2]; exact HC1.out) HN1.out (by have := HRL.out; simp only [List.length_cons, List.length_nil]; omega) (by simp)
        rw [HR1.out] at h
        exact h)
      clear HC1 hst
      go_upto_region 11 with fail
      go_wp2_with fail
      try rw [hw2]
      clear hw2
      refine HA1.out.mono ?_
      rintro e w3 ⟨v3, rfl, ho3, hb3, hk3⟩
      have HS3 := Lib.hid (HS2.out.keep (by decide) hk3)
      have q2 := HS3.out.cell (i := 2) rfl
      have q3 := HS3.out.cell (i := 3) rfl
      have q4 := HS3.out.cell (i := 4) rfl
      have q5 := HS3.out.cell (i := 5) rfl
      have q6 := HS3.out.cell (i := 6) rfl
      have HB3 := Lib.hid (HB2.out.trans hb3)
      have HK3 := Lib.hid (HK2.out.trans hk3)
      have HSZ3 : Hid (B ≤ w3.heap.size) := Lib.hid (Nat.le_trans HSZ2.out hb3.size)
      obtain ⟨w4, hw4⟩ : ∃ w4, w3.alloc (.cells #[.int .i64 rr, .int .i64 wt, .int .i64 sw, .int .i64 ad, .int .i64 fa] 53) = w4 := ⟨_, rfl⟩
      have hs4 := StB.new w3 53 [.int .i64 rr, .int .i64 wt, .int .i64 sw, .int .i64 ad, .int .i64 fa]
      rw [hw4] at hs4
      have t0 := hs4.cell (i := 0) rfl
      have t1 := hs4.cell (i := 1) rfl
      have t2 := hs4.cell (i := 2) rfl
      have t3 := hs4.cell (i := 3) rfl
      have t4 := hs4.cell (i := 4) rfl
      have HO4 : Hid (BOwn w4 B v3 R1) := Lib.hid (by rw [← hw4]; exact World.ownsRow.alloc ho3 _)
      have HB4 : Hid (Below B w w4) := Lib.hid (by rw [← hw4]; exact HB3.out.alloc HSZ3.out _)
      have HK4 : Hid (Keeps 5 w w4) := Lib.hid (by rw [← hw4]; exact HK3.out.trans (Keeps.alloc _ _ _))
      have HSZ4 : Hid (B ≤ w4.heap.size) := Lib.hid (by rw [← hw4]; have := HSZ3.out; simp; omega)
      clear ho3 hb3 hk3 hs4
      go_upto_region 13 with fail
      try rw [hw4]
      clear hw4
      have HC2 : Hid (LaterC (w4.alloc (.cells #[.string ⟨#[114, 101, 97, 100, 115]⟩, .int .i64 rr, .string ⟨#[119, 114, 105, 116, 101, 115]⟩, .int .i64 wt, .string ⟨#[115, 119, 97, 112, 115]⟩, .int .i64 sw, .string ⟨#[97, 100, 100, 115]⟩, .int .i64 ad, .string ⟨#[102, 97, 117, 108, 116, 115]⟩, .int .i64 fa] 82)) B w4.heap.size 0 (nmCs [⟨n_reads, rr⟩, ⟨n_writes, wt⟩, ⟨n_swaps, sw⟩, ⟨n_adds, ad⟩, ⟨n_faults, fa⟩])) := Lib.hid (by
        have h := LaterC.built (w := w4) (B := B) (e := 82) (nmCs [⟨n_reads, rr⟩, ⟨n_writes, wt⟩, ⟨n_swaps, sw⟩, ⟨n_adds, ad⟩, ⟨n_faults, fa⟩]) (by decide) (by simp [nmCs]) (g := w4.heap.size) rfl
        simp only [nmCs, List.flatMap_cons, List.flatMap_nil, List.cons_append, List.nil_append, s_reads, s_writes, s_swaps, s_adds, s_faults] at h ⊢
        exact h)
      obtain ⟨w5, hw5⟩ : ∃ w5, w4.alloc (.cells #[.string ⟨#[114, 101, 97, 100, 115]⟩, .int .i64 rr, .string ⟨#[119, 114, 105, 116, 101, 115]⟩, .int .i64 wt, .string ⟨#[115, 119, 97, 112, 115]⟩, .int .i64 sw, .string ⟨#[97, 100, 100, 115]⟩, .int .i64 ad, .string ⟨#[102, 97, 117, 108, 116, 115]⟩, .int .i64 fa] 82) = w5 := ⟨_, rfl⟩
      have HB5 : Hid (Below B w w5) := Lib.hid (by rw [← hw5]; exact HB4.out.alloc HSZ4.out _)
      have HSZ5 : Hid (B ≤ w5.heap.size) := Lib.hid (by rw [← hw5]; have := HSZ4.out; simp; omega)
      have HA2 : Hid (Calls Try.prog 33 #[v3, .slice (some ⟨w4.heap.size, 0, none⟩) 5 5] w5 (ApP B w5 R2)) := Lib.hid (by
        have h := appNamed_any B v3 R1 w4.heap.size 5 [⟨n_reads, rr⟩, ⟨n_writes, wt⟩, ⟨n_swaps, sw⟩, ⟨n_adds, ad⟩, ⟨n_faults, fa⟩] w5 (by rw [← hw5]; exact World.ownsRow.alloc HO4.out _) HSZ5.out (by rw [← hw5]; exact HC2.out) HN2.out (by have := HL1.out; simp only [List.length_cons, List.length_nil]; omega) (by simp)
        rw [HR2.out] at h
        exact h)
      clear HC2
      go_wp2_with fail
      try rw [hw5]
      clear hw5
      refine HA2.out.mono ?_
      rintro e w6 ⟨v6, rfl, ho6, hb6, hk6⟩
      have hcv := own_str ho6 HB256.out
      have HB6 := Lib.hid (HB5.out.trans hb6)
      clear ho6 hb6 hk6
      go_wp2_with fail
      go_ret
      exact ⟨rfl, HB6.out⟩
end Go.Proofs.Ythacohejdpjjeaa
