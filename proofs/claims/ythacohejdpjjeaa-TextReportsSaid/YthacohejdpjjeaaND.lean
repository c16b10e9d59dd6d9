/- Walk of the document's report. -/
import Derived.Test.YthacohejdpjjeaaNC
namespace Go.Proofs.Ythacohejdpjjeaa
open Go.RowKit Go.Lib Go.Sort
set_option linter.unusedVariables false
set_option linter.unusedSimpArgs false

theorem StB.below {w w' : World} {g : Nat} {e : TypeId} {cs : List Value} (h : StB w g e cs) (hb : Below w.heap.size w w') : StB w' g e cs := owns_below h hb
theorem str_nl : (⟨#[10]⟩ : ByteArray) = strB [10] := by kernel_rfl
theorem k_ticks : (⟨#[116, 105, 99, 107, 115, 32]⟩ : ByteArray) = strB (n_ticks ++ [32]) := by kernel_rfl
theorem k_idle : (⟨#[32, 105, 100, 108, 101, 32]⟩ : ByteArray) = strB ([32] ++ (n_idle ++ [32])) := by kernel_rfl
theorem k_reads : (⟨#[114, 101, 97, 100, 115, 32]⟩ : ByteArray) = strB (n_reads ++ [32]) := by kernel_rfl
theorem k_writes : (⟨#[32, 119, 114, 105, 116, 101, 115, 32]⟩ : ByteArray) = strB ([32] ++ (n_writes ++ [32])) := by kernel_rfl
theorem k_swaps : (⟨#[32, 115, 119, 97, 112, 115, 32]⟩ : ByteArray) = strB ([32] ++ (n_swaps ++ [32])) := by kernel_rfl
theorem k_adds : (⟨#[32, 97, 100, 100, 115, 32]⟩ : ByteArray) = strB ([32] ++ (n_adds ++ [32])) := by kernel_rfl
theorem k_faults : (⟨#[32, 102, 97, 117, 108, 116, 115, 32]⟩ : ByteArray) = strB ([32] ++ (n_faults ++ [32])) := by kernel_rfl

set_option maxHeartbeats 4000000 in
set_option maxRecDepth 100000 in
theorem rreport_any (x : RpX) (w : World) (hx : RpAt w x) (hsm : RpSm x) :
    Calls Try.prog 17 #[.slice x.ca x.cs.length x.cc, .agg #[.slice x.ea x.l.length x.ec, .slice x.wa x.wn x.wc, .int .i64 x.rr, .int .i64 x.wt, .int .i64 x.sw, .int .i64 x.ad, .int .i64 x.fa, .int .i64 x.tk, .int .i64 x.idl]] w (StrP (repL x) w) := by
  have HSM := Lib.hid hsm
  obtain ⟨w1, hw1⟩ : ∃ w1, w.alloc (.cells #[.slice x.ea x.l.length x.ec, .slice x.wa x.wn x.wc, .int .i64 x.rr, .int .i64 x.wt, .int .i64 x.sw, .int .i64 x.ad, .int .i64 x.fa, .int .i64 x.tk, .int .i64 x.idl] 55) = w1 := ⟨_, rfl⟩
  have hb1 : Below w.heap.size w w1 := by rw [← hw1]; exact (Below.refl _ _).alloc (Nat.le_refl _) _
  have HAT := Lib.hid (hx.below hb1)
  have HZ := hx.z
  have HB1 := Lib.hid hb1
  obtain ⟨B, hBB⟩ : ∃ B, w.heap.size = B := ⟨_, rfl⟩
  have HST : Hid (StB w1 B 55 [.slice x.ea x.l.length x.ec, .slice x.wa x.wn x.wc, .int .i64 x.rr, .int .i64 x.wt, .int .i64 x.sw, .int .i64 x.ad, .int .i64 x.fa, .int .i64 x.tk, .int .i64 x.idl]) := Lib.hid (by rw [← hw1, ← hBB]; exact StB.new _ _ _)
  have HRL : Hid ((repRows x.cs x.l).length ≤ 2000000) := Lib.hid (by
    have h1 := hsm.l
    have h2 : ∀ (l : List (EvX × EvS)), (∀ p ∈ l, p.1.lw.length ≤ 200 ∧ p.1.kw.length ≤ 200) → (repRows x.cs l).length ≤ l.length * 10000 := by
      intro l
      induction l with
      | nil => intro _; simp [repRows]
      | cons p l ih =>
        intro h
        have h3 := ih (fun q hq => h q (List.mem_cons_of_mem _ hq))
        have h4 := repRow_len x.cs p.1 (h p (List.mem_cons_self ..))
        rw [repRows, List.length_append, List.length_cons, Nat.succ_mul]
        omega
    have h5 := h2 x.l hsm.e
    omega)
  have HRP : Hid (repL x = (((repRows x.cs x.l ++ numsF nmL true (nm1 x)) ++ [10]) ++ numsF nmL true (nm2 x)) ++ [10]) := Lib.hid rfl
  obtain ⟨cs, l, ca, cb, co, cc, ea, eb, eo, ec, wa, wn, wc, rr, wt, sw, ad, fa, tk, idl⟩ := x
  dsimp only at HAT HZ HST HRL HSM hw1 ⊢
  obtain ⟨⟨z1, z2, z3, z4, z5⟩, z6, z7⟩ := HZ
  obtain ⟨F, hF⟩ : ∃ F, repL ⟨cs, l, ca, cb, co, cc, ea, eb, eo, ec, wa, wn, wc, rr, wt, sw, ad, fa, tk, idl⟩ = F := ⟨_, rfl⟩
  rw [hF] at HRP ⊢
  obtain ⟨R, hR⟩ : ∃ R, repRows cs l = R := ⟨_, rfl⟩
  dsimp only [nm1, nm2] at HRP
  rw [hR] at HRP HRL
  have HRR := Lib.hid hR
  have HW1 := Lib.hid hw1
  have HBB := Lib.hid hBB
  have p0 := HST.out.cell (i := 0) rfl
  unfold StrP
  clear hx hsm hb1 hw1 hF hR hBB
  go_enter Try.func17, Try.ntmps17
  go_upto_region 2 with fail
  rw [HW1.out, HBB.out]
  go_wp2_with fail
  go_loopw [5, 12] (fun u k wr => ∃ (j : Nat) (out : List Nat), j ≤ l.length ∧ k = .int .i64 j ∧ u = .string (strB out) ∧ Hid (out.length ≤ j * 10000) ∧ Hid (Below w1.heap.size w1 wr) ∧ Hid (out ++ repRows cs (l.drop j) = R)) (fun _ k _ => l.length - (RowKit.intOf k).toNat)
  case atStart => exact ⟨0, [], Nat.zero_le _, rfl, by kernel_rfl, Lib.hid (by simp), Lib.hid (Below.refl _ _), HRR⟩
  case round =>
    obtain ⟨j, out, hj, rfl, rfl, hol, hbl, hp⟩ := hrel
    have p0 := (HST.out.below hbl.out).cell (i := 0) rfl
    by_cases hlt : j < l.length
    · have hATr := HAT.out.below hbl.out
      have hea := hATr.ea (by show 0 < l.length; omega)
      dsimp only at hea
      subst hea
      obtain ⟨p, hp1⟩ : ∃ p, l[j]? = some p := ⟨l[j], List.getElem?_eq_getElem hlt⟩
      obtain ⟨hok, hev⟩ := hATr.ek p (List.mem_of_getElem? hp1)
      have hsmall := HSM.out.e p (List.mem_of_getElem? hp1)
      have hcel : ∀ (k : Nat) (u : Value), (evVs p.1 p.2)[k]? = some u → wr.cell? ⟨eb, eo + j * 8 + k, none⟩ = some u := fun k u hu => hATr.ec j p hp1 k u hu
      have hd := drop_consG hp1
      have hl200 : l.length ≤ 200 := HSM.out.l
      clear hp1
      obtain ⟨⟨eca, iv, rs, st, er, vl, lw, kw⟩, s⟩ := p
      obtain ⟨la, lb, lo, lc, ka, kb, ko, kc⟩ := s
      dsimp only at hcel hev hsmall hok hd
      have e0 := hcel 0 _ rfl
      have e1 := hcel 1 _ rfl
      have e2 := hcel 2 _ rfl
      have e3 := hcel 3 _ rfl
      have e4 := hcel 4 _ rfl
      have e5 := hcel 5 _ rfl
      have e6 := hcel 6 _ rfl
      have e7 := hcel 7 _ rfl
      rw [Nat.add_zero] at e0
      obtain ⟨W2, hW2⟩ : ∃ W2, wr.alloc (evO ⟨eca, iv, rs, st, er, vl, lw, kw⟩ ⟨la, lb, lo, lc, ka, kb, ko, kc⟩) = W2 := ⟨_, rfl⟩
      have hb2 : Below wr.heap.size wr W2 := by rw [← hW2]; exact (Below.refl _ _).alloc (Nat.le_refl _) _
      have HX2 : Hid (StB W2 wr.heap.size 44 (evVs ⟨eca, iv, rs, st, er, vl, lw, kw⟩ ⟨la, lb, lo, lc, ka, kb, ko, kc⟩)) := Lib.hid (by rw [← hW2]; exact StB.new _ _ _)
      obtain ⟨E, hE⟩ : ∃ E : EvX, (⟨eca, iv, rs, st, er, vl, lw, kw⟩ : EvX) = E := ⟨_, rfl⟩
      have hEca : E.ca = eca := by rw [← hE]
      have hlen : (evLine E).length ≤ 9000 := by
        have := evLine_len E
        rw [← hE] at this ⊢
        dsimp only at this hsmall
        omega
      have HEL := Lib.hid hlen
      obtain ⟨PE, hPE⟩ : ∃ PE, PE = strB (evLine E) := ⟨_, rfl⟩
      have HPE := Lib.hid hPE
      have HEV : Hid (∀ W, Below W2.heap.size W2 W → Calls Try.prog 35 #[.agg #[.int .i64 eca, .int .i64 iv, .int .i64 rs, .int .i64 st, .int .i64 er, .int .u64 (vl : Int), .slice la lw.length lc, .slice ka kw.length kc]] W fun e w' => e = .returned (.string PE) ∧ Below W.heap.size W w') := Lib.hid (fun W hW => by
        rw [hPE, ← hE]
        exact revent_any ⟨eca, iv, rs, st, er, vl, lw, kw⟩ ⟨la, lb, lo, lc, ka, kb, ko, kc⟩ W hok ((hev.below hb2).below hW) (by dsimp only at hsmall ⊢; omega))
      have HB2 := Lib.hid hb2
      have HWE := Lib.hid hW2
      have HBL2 : Hid (Below w1.heap.size w1 W2) := Lib.hid (hbl.out.trans (hb2.mono hbl.out.size))
      have hjb : j < 4000000 := by omega
      clear hcel hev hsmall hok hb2 hW2 hlen hPE hATr
      go_upto_region 6 with fail
      rw [HWE.out]
      clear e0 e1 e2 e3 e4 e5 e6 e7 p0
      have k0 := HX2.out.cell (i := 0) rfl
      have q0 : StrS (strB out) out 2000000 := ⟨rfl, by have := hol.out; omega⟩
      generalize strB out = A0 at q0 ⊢
      by_cases hc1 : 0 ≤ eca
      · by_cases hc2 : eca < (cs.length : Int)
        · obtain ⟨n, rfl⟩ : ∃ n : Nat, eca = n := ⟨eca.toNat, by omega⟩
          have hn : n < cs.length := by omega
          obtain ⟨y, hy⟩ : ∃ y, cs[n]? = some y := ⟨cs[n], List.getElem?_eq_getElem hn⟩
          have hAT2 := HAT.out.below HBL2.out
          have hca := hAT2.ca (by show 0 < cs.length; omega)
          dsimp only at hca
          subst hca
          have HP : Hid (out ++ (caLine y ++ ([58, 32] ++ (evLine E ++ [10])) ++ repRows cs (l.drop (j + 1))) = R) := Lib.hid (by
            rw [← hp.out, hd, repRows, ← repRow_in (e := E) hEca hy, hE])
          have hyo := hAT2.ck y (List.mem_of_getElem? hy)
          have hcel : ∀ (k : Nat) (u : Value), y.vs[k]? = some u → W2.cell? ⟨cb, co + n * 6 + k, none⟩ = some u := fun k u hu => hAT2.cc n y hy k u hu
          have hcl := caLine_len y
          obtain ⟨PC, hPC⟩ : ∃ PC, PC = strB (caLine y) := ⟨_, rfl⟩
          have HCA : Hid (∀ W, Calls Try.prog 34 #[caV y] W fun e w' => e = .returned (.string PC) ∧ Below W.heap.size W w') := Lib.hid (fun W => by
            rw [hPC]
            exact rcall_any y W hyo)
          obtain ⟨A1, q1, had0⟩ := add_next q0 (show StrS PC (caLine y) 133 from ⟨hPC, hcl⟩) (by omega)
          have HCL := Lib.hid hcl
          have a0 := hcel 0 _ rfl
          have a1 := hcel 1 _ rfl
          have a2 := hcel 2 _ rfl
          have a3 := hcel 3 _ rfl
          have a4 := hcel 4 _ rfl
          have a5 := hcel 5 _ rfl
          rw [Nat.add_zero] at a0
          clear hp hd hE hEca hy hyo hcel hPC hcl hAT2
          obtain ⟨Z, hZ⟩ : ∃ Z, out ++ caLine y = Z := ⟨_, rfl⟩
          have HZL : Hid (Z.length ≤ out.length + 133) := Lib.hid (by have := HCL.out; rw [← hZ, List.length_append]; omega)
          rw [hZ] at q1
          rw [← List.append_assoc, ← List.append_assoc, hZ] at HP
          clear hZ HCL
          obtain ⟨th, ob, kd, a, b, c⟩ := y
          dsimp only [caV] at HCA
          go_wp2_with fail
          refine (HCA.out _).mono ?_
          rintro e w3 ⟨rfl, hb3⟩
          have hx3 := HX2.out.below hb3
          have HX3 := Lib.hid hx3
          have HBL3 : Hid (Below w1.heap.size w1 w3) := Lib.hid (HBL2.out.trans (hb3.mono HBL2.out.size))
          have CEV := Lib.hid (HEV.out w3 hb3)
          clear hx3 hb3
          obtain ⟨S1, r1, had1⟩ := add_next q1 (show StrS ⟨#[58, 32]⟩ [58, 32] 2 from ⟨s_colon.symm, by decide⟩) (by omega)
          obtain ⟨S2, r2, had2⟩ := add_next r1 (show StrS PE (evLine E) 9000 from ⟨HPE.out, HEL.out⟩) (by omega)
          obtain ⟨S3, r3, had3⟩ := add_next r2 (show StrS ⟨#[10]⟩ [10] 1 from ⟨str_nl, by decide⟩) (by omega)
          have HS3 := Lib.hid r3.s
          have HP3 : Hid ((((Z ++ [58, 32]) ++ evLine E) ++ [10]) ++ repRows cs (l.drop (j + 1)) = R) := Lib.hid (by rw [← HP.out]; simp)
          have HL3 : Hid ((((Z ++ [58, 32]) ++ evLine E) ++ [10]).length ≤ (j + 1) * 10000) := Lib.hid (by
            have h1 := hol.out
            have h2 := HEL.out
            have h3 := HZL.out
            simp only [List.length_append, List.length_cons, List.length_nil]
            omega)
          have g0 := HX3.out.cell (i := 0) rfl
          have g1 := HX3.out.cell (i := 1) rfl
          have g2 := HX3.out.cell (i := 2) rfl
          have g3 := HX3.out.cell (i := 3) rfl
          have g4 := HX3.out.cell (i := 4) rfl
          have g5 := HX3.out.cell (i := 5) rfl
          have g6 := HX3.out.cell (i := 6) rfl
          have g7 := HX3.out.cell (i := 7) rfl
          clear r1 r2 r3 q0 q1 k0
          go_wp2_with fail
          refine CEV.out.mono ?_
          rintro e w4 ⟨rfl, hb4⟩
          have HBL4 := Lib.hid (HBL3.out.trans (hb4.mono HBL3.out.size))
          clear hb4
          go_wp2_with fail
          go_roundw
          case rel => exact ⟨j + 1, _, by omega, by go_num, by rw [HS3.out], HL3, HBL4, HP3⟩
          case measure => simp [RowKit.intOf]; omega
        · have HP : Hid (out ++ (([58, 32] ++ (evLine E ++ [10])) ++ repRows cs (l.drop (j + 1))) = R) := Lib.hid (by
            rw [← hp.out, hd, repRows, hE, repRow_out (e := E) (by rw [hEca]; omega)])
          clear hp hd hE hEca
          have dc1 : decide ((0 : Int) ≤ eca) = true := decide_eq_true hc1
          have dc2 : decide (eca < (cs.length : Int)) = false := decide_eq_false hc2
          have HX3 := HX2
          have HBL3 := HBL2
          have q1 := q0
          have CEV := Lib.hid (HEV.out W2 (Below.refl _ _))
          obtain ⟨S1, r1, had1⟩ := add_next q1 (show StrS ⟨#[58, 32]⟩ [58, 32] 2 from ⟨s_colon.symm, by decide⟩) (by omega)
          obtain ⟨S2, r2, had2⟩ := add_next r1 (show StrS PE (evLine E) 9000 from ⟨HPE.out, HEL.out⟩) (by omega)
          obtain ⟨S3, r3, had3⟩ := add_next r2 (show StrS ⟨#[10]⟩ [10] 1 from ⟨str_nl, by decide⟩) (by omega)
          have HS3 := Lib.hid r3.s
          have HP3 : Hid ((((out ++ [58, 32]) ++ evLine E) ++ [10]) ++ repRows cs (l.drop (j + 1)) = R) := Lib.hid (by rw [← HP.out]; simp)
          have HL3 : Hid ((((out ++ [58, 32]) ++ evLine E) ++ [10]).length ≤ (j + 1) * 10000) := Lib.hid (by
            have h1 := hol.out
            have h2 := HEL.out
            simp only [List.length_append, List.length_cons, List.length_nil]
            omega)
          have g0 := HX3.out.cell (i := 0) rfl
          have g1 := HX3.out.cell (i := 1) rfl
          have g2 := HX3.out.cell (i := 2) rfl
          have g3 := HX3.out.cell (i := 3) rfl
          have g4 := HX3.out.cell (i := 4) rfl
          have g5 := HX3.out.cell (i := 5) rfl
          have g6 := HX3.out.cell (i := 6) rfl
          have g7 := HX3.out.cell (i := 7) rfl
          clear r1 r2 r3 q0 q1 k0
          go_wp2_with fail
          refine CEV.out.mono ?_
          rintro e w4 ⟨rfl, hb4⟩
          have HBL4 := Lib.hid (HBL3.out.trans (hb4.mono HBL3.out.size))
          clear hb4
          go_wp2_with fail
          go_roundw
          case rel => exact ⟨j + 1, _, by omega, by go_num, by rw [HS3.out], HL3, HBL4, HP3⟩
          case measure => simp [RowKit.intOf]; omega
      · have HP : Hid (out ++ (([58, 32] ++ (evLine E ++ [10])) ++ repRows cs (l.drop (j + 1))) = R) := Lib.hid (by
          rw [← hp.out, hd, repRows, hE, repRow_out (e := E) (by rw [hEca]; omega)])
        clear hp hd hE hEca
        have dc1 : decide ((0 : Int) ≤ eca) = false := decide_eq_false hc1
        have HX3 := HX2
        have HBL3 := HBL2
        have q1 := q0
        have CEV := Lib.hid (HEV.out W2 (Below.refl _ _))
        obtain ⟨S1, r1, had1⟩ := add_next q1 (show StrS ⟨#[58, 32]⟩ [58, 32] 2 from ⟨s_colon.symm, by decide⟩) (by omega)
        obtain ⟨S2, r2, had2⟩ := add_next r1 (show StrS PE (evLine E) 9000 from ⟨HPE.out, HEL.out⟩) (by omega)
        obtain ⟨S3, r3, had3⟩ := add_next r2 (show StrS ⟨#[10]⟩ [10] 1 from ⟨str_nl, by decide⟩) (by omega)
        have HS3 := Lib.hid r3.s
        have HP3 : Hid ((((out ++ [58, 32]) ++ evLine E) ++ [10]) ++ repRows cs (l.drop (j + 1)) = R) := Lib.hid (by rw [← HP.out]; simp)
        have HL3 : Hid ((((out ++ [58, 32]) ++ evLine E) ++ [10]).length ≤ (j + 1) * 10000) := Lib.hid (by
          have h1 := hol.out
          have h2 := HEL.out
          simp only [List.length_append, List.length_cons, List.length_nil]
          omega)
        have g0 := HX3.out.cell (i := 0) rfl
        have g1 := HX3.out.cell (i := 1) rfl
        have g2 := HX3.out.cell (i := 2) rfl
        have g3 := HX3.out.cell (i := 3) rfl
        have g4 := HX3.out.cell (i := 4) rfl
        have g5 := HX3.out.cell (i := 5) rfl
        have g6 := HX3.out.cell (i := 6) rfl
        have g7 := HX3.out.cell (i := 7) rfl
        clear r1 r2 r3 q0 q1 k0
        go_wp2_with fail
        refine CEV.out.mono ?_
        rintro e w4 ⟨rfl, hb4⟩
        have HBL4 := Lib.hid (HBL3.out.trans (hb4.mono HBL3.out.size))
        clear hb4
        go_wp2_with fail
        go_roundw
        case rel => exact ⟨j + 1, _, by omega, by go_num, by rw [HS3.out], HL3, HBL4, HP3⟩
        case measure => simp [RowKit.intOf]; omega
    · have hj2 : j = l.length := by omega
      have HP : Hid (out = R) := Lib.hid (by
        rw [← hp.out, hj2, List.drop_length]
        simp [repRows])
      rw [HP.out]
      clear hp hol HP hlt hj
      subst hj2
      have q0 : StrS (strB R) R 2000000 := ⟨rfl, HRL.out⟩
      generalize strB R = A0 at q0 ⊢
      obtain ⟨P1, e1, C1⟩ := rint_str z6
      obtain ⟨P2, e2, C2⟩ := rint_str z7
      obtain ⟨S1, r1, had1⟩ := add_next q0 (show StrS _ (n_ticks ++ [32]) 6 from ⟨k_ticks, by decide⟩) (by omega)
      obtain ⟨S2, r2, had2⟩ := add_next r1 e1 (by omega)
      obtain ⟨S3, r3, had3⟩ := add_next r2 (show StrS _ ([32] ++ (n_idle ++ [32])) 6 from ⟨k_idle, by decide⟩) (by omega)
      obtain ⟨S4, r4, had4⟩ := add_next r3 e2 (by omega)
      obtain ⟨S5, r5, had5⟩ := add_next r4 (show StrS _ [10] 1 from ⟨str_nl, by decide⟩) (by omega)
      obtain ⟨P3, e3, C3⟩ := rint_str z1
      obtain ⟨P4, e4, C4⟩ := rint_str z2
      obtain ⟨P5, e5, C5⟩ := rint_str z3
      obtain ⟨P6, e6, C6⟩ := rint_str z4
      obtain ⟨P7, e7, C7⟩ := rint_str z5
      obtain ⟨S6, r6, had6⟩ := add_next r5 (show StrS _ (n_reads ++ [32]) 6 from ⟨k_reads, by decide⟩) (by omega)
      obtain ⟨S7, r7, had7⟩ := add_next r6 e3 (by omega)
      obtain ⟨S8, r8, had8⟩ := add_next r7 (show StrS _ ([32] ++ (n_writes ++ [32])) 8 from ⟨k_writes, by decide⟩) (by omega)
      obtain ⟨S9, r9, had9⟩ := add_next r8 e4 (by omega)
      obtain ⟨S10, r10, had10⟩ := add_next r9 (show StrS _ ([32] ++ (n_swaps ++ [32])) 7 from ⟨k_swaps, by decide⟩) (by omega)
      obtain ⟨S11, r11, had11⟩ := add_next r10 e5 (by omega)
      obtain ⟨S12, r12, had12⟩ := add_next r11 (show StrS _ ([32] ++ (n_adds ++ [32])) 6 from ⟨k_adds, by decide⟩) (by omega)
      obtain ⟨S13, r13, had13⟩ := add_next r12 e6 (by omega)
      obtain ⟨S14, r14, had14⟩ := add_next r13 (show StrS _ ([32] ++ (n_faults ++ [32])) 8 from ⟨k_faults, by decide⟩) (by omega)
      obtain ⟨S15, r15, had15⟩ := add_next r14 e7 (by omega)
      obtain ⟨S16, r16, had16⟩ := add_next r15 (show StrS _ [10] 1 from ⟨str_nl, by decide⟩) (by omega)
      have HR : Hid (S16 = strB F) := Lib.hid (by
        rw [r16.s, HRP.out]
        congr 1
        simp [numsF, nmL])
      have H1 := Lib.hid C1
      have H2 := Lib.hid C2
      have H3 := Lib.hid C3
      have H4 := Lib.hid C4
      have H5 := Lib.hid C5
      have H6 := Lib.hid C6
      have H7 := Lib.hid C7
      have hSr := HST.out.below hbl.out
      have hBr : B < wr.heap.size := by have := HBB.out; have := HB1.out.size; have h3 := hbl.out.size; have h4 := World.block_lt_of_cell? _ _ (hSr.cell (i := 0) rfl); exact h4
      have l7 : ∀ p : BW wr.heap.size wr, p.v.cell? ⟨B, 7, none⟩ = some (.int .i64 tk) := fun p => p.cell hBr (hSr.cell (i := 7) rfl)
      have l8 : ∀ p : BW wr.heap.size wr, p.v.cell? ⟨B, 8, none⟩ = some (.int .i64 idl) := fun p => p.cell hBr (hSr.cell (i := 8) rfl)
      have HSr := Lib.hid hSr
      clear C1 C2 C3 C4 C5 C6 C7 e1 e2 e3 e4 e5 e6 e7 r1 r2 r3 r4 r5 r6 r7 r8 r9 r10 r11 r12 r13 r14 r15 r16 q0 hSr p0 hBr
      go_upto_region 10 with fail
      refine wp_region_low (B := wr.heap.size) (w := wr) (by kernel_rfl) (by kernel_rfl) ?_
      repeat (go_big_quiet_step (first
        | (go_at_call 36; with_reducible exact low_call (H1.out _) (Nat.le_refl _))
        | (go_at_call 36; with_reducible exact low_call (H2.out _) (Nat.le_refl _))))
      refine wpQuiet_nil ?_
      intro w5 hw'
      obtain ⟨pq, eq1⟩ := hw'
      have hb5 := pq.h
      rw [← eq1] at hb5
      clear eq1 l7 l8
      clear pq
      have HB5 := Lib.hid (hbl.out.trans (hb5.mono hbl.out.size))
      have hS5 := HSr.out.below hb5
      have c2 := hS5.cell (i := 2) rfl
      have c3 := hS5.cell (i := 3) rfl
      have c4 := hS5.cell (i := 4) rfl
      have c5 := hS5.cell (i := 5) rfl
      have c6 := hS5.cell (i := 6) rfl
      obtain ⟨w6, hw6⟩ : ∃ w6, w5.alloc (.cells #[.int .i64 rr, .int .i64 wt, .int .i64 sw, .int .i64 ad, .int .i64 fa] 53) = w6 := ⟨_, rfl⟩
      obtain ⟨tb, htb⟩ : ∃ tb, w5.heap.size = tb := ⟨_, rfl⟩
      have hS6 : StB w6 tb 53 [.int .i64 rr, .int .i64 wt, .int .i64 sw, .int .i64 ad, .int .i64 fa] := by rw [← hw6, ← htb]; exact StB.new _ _ _
      have hb6 : Below w5.heap.size w5 w6 := by rw [← hw6]; exact (Below.refl _ _).alloc (Nat.le_refl _) _
      have HW6 := Lib.hid hw6
      have HTB := Lib.hid htb
      have HB6 := Lib.hid (HB5.out.trans (hb6.mono HB5.out.size))
      have htw : tb < w6.heap.size := World.block_lt_of_cell? _ _ (hS6.cell (i := 0) rfl)
      clear hb5 hS5 hw6 htb hb6
      go_upto_region 12 with fail
      rw [HW6.out, HTB.out]
      have l0 : ∀ p : BW w6.heap.size w6, p.v.cell? ⟨tb, 0, none⟩ = some (.int .i64 rr) := fun p => p.cell htw (hS6.cell (i := 0) rfl)
      have l1 : ∀ p : BW w6.heap.size w6, p.v.cell? ⟨tb, 1, none⟩ = some (.int .i64 wt) := fun p => p.cell htw (hS6.cell (i := 1) rfl)
      have l2 : ∀ p : BW w6.heap.size w6, p.v.cell? ⟨tb, 2, none⟩ = some (.int .i64 sw) := fun p => p.cell htw (hS6.cell (i := 2) rfl)
      have l3 : ∀ p : BW w6.heap.size w6, p.v.cell? ⟨tb, 3, none⟩ = some (.int .i64 ad) := fun p => p.cell htw (hS6.cell (i := 3) rfl)
      have l4 : ∀ p : BW w6.heap.size w6, p.v.cell? ⟨tb, 4, none⟩ = some (.int .i64 fa) := fun p => p.cell htw (hS6.cell (i := 4) rfl)
      clear c2 c3 c4 c5 c6 hS6 htw
      refine wp_region_low (B := w6.heap.size) (w := w6) (by kernel_rfl) (by kernel_rfl) ?_
      repeat (go_big_quiet_step (first
        | (go_at_call 36; with_reducible exact low_call (H3.out _) (Nat.le_refl _))
        | (go_at_call 36; with_reducible exact low_call (H4.out _) (Nat.le_refl _))
        | (go_at_call 36; with_reducible exact low_call (H5.out _) (Nat.le_refl _))
        | (go_at_call 36; with_reducible exact low_call (H6.out _) (Nat.le_refl _))
        | (go_at_call 36; with_reducible exact low_call (H7.out _) (Nat.le_refl _))))
      refine wpQuiet_nil ?_
      intro w7 hw'
      obtain ⟨pq, eq1⟩ := hw'
      have hb7 := pq.h
      rw [← eq1] at hb7
      clear eq1 l0 l1 l2 l3 l4
      clear pq
      have HB7 := Lib.hid (HB1.out.trans ((HB6.out.trans (hb7.mono HB6.out.size)).mono HB1.out.size))
      clear hb7
      go_wp2_with fail
      go_ret
      exact ⟨by rw [← HR.out]; rfl, HB7.out⟩
end Go.Proofs.Ythacohejdpjjeaa
