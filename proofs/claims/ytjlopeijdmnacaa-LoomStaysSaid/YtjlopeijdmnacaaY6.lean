/- Walk of loom: Pick, a turn. -/
import Derived.Test.YtjlopeijdmnacaaY5
namespace Go.Proofs.Ytjlopeijdmnacaa
open Go.RowKit

theorem nextV {w : World} {L : Nat} {cv ov vb : Value} {lb bm mc : Nat} {t i : Int} (h : RowBlk 118 w L (loomVs cv lb bm ov vb mc t i)) (t' : Int) : RowBlk 118 (w.setCell ⟨L, 6, none⟩ (.int .i64 t')) L (loomVs cv lb bm ov vb mc t' i) := h.put 6 _

theorem MapIs.same {P : Program} {k : TypeId} {w w' : World} {b n : Nat} {z : Value} {f : Int → Value} (h : MapIs P k w b n z f) (e : w'.heap[b]? = w.heap[b]?) : MapIs P k w' b n z f := by
  obtain ⟨D, ⟨es, c, h0, h1⟩, h2⟩ := h
  exact ⟨D, ⟨es, c, e.trans h0, h1⟩, h2⟩
theorem wpList_delete_map {P : Program} {w : World} {ops : Array Oper} {rest : List Oper} {o : Oper} {a : Act} {Q : Exit → Act → World → Prop} (hg : o.guard = none) (m x : Operand) (t k e : TypeId)
    (hop : o.op = Op.call { callee := Callee.builtin Builtin.delete, args := #[m, x], argTypes := #[t, k] }) (hk : P.underlying k = some (.int .i64)) (ht : P.underlying t = some (.map k e)) (b n : Nat) (z : Value) (f : Int → Value)
    (hm : a.eval m = .map (some b)) (hM : MapIs P k w b n z f) (p : Int) (hx : a.eval x = .int .i64 p) (hp : 0 ≤ p ∧ p < 16)
    (hK : ∀ w', MapIs P k w' b n z (updF f p z) → w.mapTurned w' b → wpList P ops Q rest (a.put o.dst (.tuple #[])) w') : wpList P ops Q (o :: rest) a w := by
  refine wpList_plain hg fun K' hK' => ?_
  obtain ⟨w', hrun, r1, r2⟩ := hM.drop hk ht hp o.type
  unfold Oper.wp
  simp [execOp, hop, resolve, invoke, builtin, hm, hx, hrun, Result.andThen]
  exact hK' _ _ (hK w' r1 r2)
theorem mem_no_map {P : Program} {k : TypeId} {w : World} {b n bm bw : Nat} {z : Value} {f : Int → Value} {l : List Nat} {c : Cn} (h : MapIs P k w b n z f) (hM : MemIs 142 w bm bw l c) : bm ≠ b ∧ bw ≠ b :=
  ⟨fun e => by subst e; exact h.no_cells hM.1, fun e => by subst e; exact h.no_cells hM.2.1⟩

theorem owns_same {w w' : World} {B : Nat} {e : TypeId} {sz n : Nat} {v : Value} {xs : List Value} (h : w.ownsRow B e sz v n xs) (hb : ∀ k, v.ownBlock = some k → w'.heap[k]? = w.heap[k]?) : w'.ownsRow B e sz v n xs := by
  obtain ⟨h1, h2 | ⟨g, cap, cur, rfl, hg, hh, r⟩⟩ := h
  · exact ⟨h1, .inl h2⟩
  · exact ⟨h1, .inr ⟨g, cap, cur, rfl, hg, (hb g rfl).trans hh, r⟩⟩
theorem no3 {a b c : Prop} (h1 : ¬ a) (h2 : ¬ b) (h3 : ¬ c) : ¬ (a ∨ b ∨ c) := fun h => h.elim h1 (fun h => h.elim h2 h3)

theorem updF_back {α : Type} (p : Int) (v z : α) : updF (updF (fun _ => z) p v) p z = fun _ => z := by
  funext x
  by_cases hx : x = p
  · subst hx; rw [updF_same]
  · rw [updF_other _ _ hx, updF_other _ _ hx]

set_option maxRecDepth 100000 in
set_option maxHeartbeats 4000000 in
theorem pick_turn (cs : List CallV) (size j B0 L top lb mb bm bw mc gc go capo capC : Nat) (aoC : Option Addr) (w : World) (st : PlaySt) (p : Int) (h : LoomIs cs size j B0 L top lb mb bm bw mc gc go capo capC aoC w st)
    (hj : j < 65536) {i : Nat} (hn : nowOf (thr cs) st.fin p = some i) :
    Calls Try.prog 42 #[.pointer (some ⟨L, 0, none⟩), .int .i64 p] w fun e w' => e = .returned (.tuple #[]) ∧ LoomIs cs size (j + 1) B0 L top lb mb bm bw mc gc go capo capC aoC w' (pickStep cs size st p) ∧ Below B0 w w' := by
  have hil := (now_open hn).1
  rw [thr_len] at hil
  obtain ⟨x, hx⟩ : ∃ x, cs[i]? = some x := ⟨cs[i], List.getElem?_eq_getElem hil⟩
  rw [pickStep_turn hn hx]
  obtain ⟨vb, hL, ps, ho, hpl, hin⟩ := h.blk
  obtain ⟨f, N, hline, hN⟩ := h.line
  obtain ⟨nc, hcur, hnc⟩ := h.cur
  have hpd := hline.dom p (by rw [now_cons hn]; simp)
  have hp : -9223372036854775808 ≤ p ∧ p ≤ 9223372036854775807 := by omega
  have hjj := h.tj
  have hcn := h.cnle
  obtain ⟨opv, er, hInv, hOne⟩ := cell_op size x st.ws st.cn bm bw ((st.ticks : Int) + 1) h.szs h.lws (by omega)
  obtain ⟨ot, ou, hop⟩ : ∃ t u, opOf opv er = .iface t u := by obtain ⟨_, t, u, _, e, _⟩ := hOne; exact ⟨t, u, e⟩
  have H := Lib.hid h
  have HL := Lib.hid hL
  have HO := Lib.hid ho
  have HIN := Lib.hid hin
  have HLN := Lib.hid hline
  have HNW := Lib.hid (now_cons hn)
  have HN := Lib.hid hn
  have HX := Lib.hid hx
  have HCUR := Lib.hid hcur
  have HINV := Lib.hid hInv
  have HONE := Lib.hid hOne
  have HOP : Hid (∃ t u, opOf opv er = .iface t u) := Lib.hid ⟨ot, ou, hop⟩
  have l1 : w.cell? ⟨L, 1, none⟩ = some (.pointer (some ⟨lb, 0, none⟩)) := hL.cell rfl
  have l6 : w.cell? ⟨L, 6, none⟩ = some (.int .i64 (st.ticks : Int)) := hL.cell rfl
  have lf : w.frozen? ⟨L, 6, none⟩ = false := hL.free
  have HL1 : Hid (RowBlk 118 (w.setCell ⟨L, 6, none⟩ (.int .i64 ((st.ticks : Int) + 1))) L (loomVs (.slice aoC cs.length capC) lb bm (.slice (some ⟨go, 0, none⟩) 1 capo) vb mc ((st.ticks : Int) + 1) st.idle)) := Lib.hid (nextV hL _)
  have HF1 : Hid (ButS (PickS L mb bm bw mc vb) w (w.setCell ⟨L, 6, none⟩ (.int .i64 ((st.ticks : Int) + 1)))) := Lib.hid ((ButS.refl _ _).setCell (.inl (.inl rfl)) _)
  have HO1 := Lib.hid (owns_set ho (a := ⟨L, 6, none⟩) (Nat.lt_succ_self L) (.int .i64 ((st.ticks : Int) + 1)))
  have HC1 : Hid (MapIs Try.prog 3 (w.setCell ⟨L, 6, none⟩ (.int .i64 ((st.ticks : Int) + 1))) mc nc (.pointer none) (fun _ => .pointer none)) := Lib.hid (hcur.setCell (fun e => hcur.ne_row hL e.symm) _)
  have l5 : (w.setCell ⟨L, 6, none⟩ (.int .i64 ((st.ticks : Int) + 1))).cell? ⟨L, 5, none⟩ = some (.map (some mc)) := HL1.out.cell rfl
  have hlk := HC1.out.look (t := 115) (e := 119) (a := p) Try.underlying3 Try.underlying115 (zeroPt _) (WalkArith.wf_i64 hp)
  have hst : st.ticks ≤ 65536 := by omega
  have hLlt := hL.lt
  have hpn : ps.length = st.ticks := by rw [hpl]; exact h.evl
  clear h hL ho hin hline hn hx hcur hInv hOne hop
  go_enter Try.func42, Try.ntmps42
  go_wp2_with fail
  refine (now_at p _ HLN.out hp HNW.out).mono ?_
  rintro e w1 ⟨rfl, rfl⟩
  go_wp2_with fail
  have hC1 := H.out.keepC HO.out HF1.out
  have hOb1 := H.out.keepO HO.out HF1.out
  have HLN1 : Hid (LineIs (w.setCell ⟨L, 6, none⟩ (.int .i64 ((st.ticks : Int) + 1))) top lb mb N f (ownL (thr cs) st.fin)) := Lib.hid (HLN.out.stays (B := top) ((Below.refl top w).setCell (show top ≤ (⟨L, 6, none⟩ : Addr).block from H.out.t1.1) _) (Nat.le_refl _))
  have HM1 : Hid (MemIs 142 (w.setCell ⟨L, 6, none⟩ (.int .i64 ((st.ticks : Int) + 1))) bm bw st.ws st.cn) := Lib.hid (H.out.mem.setNew _ _ (by have := H.out.lsep; omega) (by have := H.out.lsep; omega))
  have hs1 : (w.setCell ⟨L, 6, none⟩ (.int .i64 ((st.ticks : Int) + 1))).heap.size = w.heap.size := by simp [World.setCell]
  generalize w.setCell ⟨L, 6, none⟩ (.int .i64 ((st.ticks : Int) + 1)) = W1 at HL1 HF1 HO1 HC1 hC1 hOb1 HLN1 HM1 hs1 ⊢
  refine (invoke_any L lb bm mc go capo gc capC nc st.evs.length i aoC cs x vb (cellsObj size 0) opv ((st.ticks : Int) + 1) st.idle p er (fun _ => .pointer none) (ps.map ptr) W1 HL1.out hOb1 hC1 H.out.haC H.out.cl HX.out HINV.out HC1.out (by unfold maxLen; omega) hpd HO1.out (by have := H.out.evl; omega) HOP.out).mono ?_
  rintro e w2 ⟨rfl, g, vb', hL2, hI2, hM2, hO2, hg2, hF2⟩
  have hsep := H.out.lsep
  have ht1 := H.out.t1
  have hmm := mem_no_map HC1.out HM1.out
  have nb : ∀ k, k < L + 1 → vb.ownBlock ≠ some k := fun k hk e => by have := (HO1.out.lt k e).1; omega
  have HM2 : Hid (MemIs 142 w2 bm bw st.ws st.cn) := Lib.hid (HM1.out.of_blocks (hF2.block bm HM1.out.lt1 (no3 (by omega) hmm.1 (nb _ (by omega)))) (hF2.block bw HM1.out.lt2 (no3 (by omega) hmm.2 (nb _ (by omega)))))
  have HLN2 : Hid (LineIs w2 top lb mb N f (ownL (thr cs) st.fin)) := Lib.hid (HLN1.out.stays (B := top) (hF2.below (fun k hk => hk.elim (fun e => by omega) (fun hk => hk.elim (fun e => by omega) (fun e => by have := (HO1.out.lt k e).1; omega))) (by omega)) (Nat.le_refl _))
  have HL2 := Lib.hid hL2
  have HI2 := Lib.hid hI2
  have HC2 := Lib.hid hM2
  have HO2 := Lib.hid hO2
  have HF2 := Lib.hid hF2
  have hs2 := hF2.size
  have u5 : w2.cell? ⟨L, 5, none⟩ = some (.map (some mc)) := hL2.cell rfl
  have u2 : w2.cell? ⟨L, 2, none⟩ = some (.pointer (some ⟨bm, 0, none⟩)) := hL2.cell rfl
  have u6 : w2.cell? ⟨L, 6, none⟩ = some (.int .i64 ((st.ticks : Int) + 1)) := hL2.cell rfl
  have ulk := hM2.look (t := 115) (e := 119) (a := p) Try.underlying3 Try.underlying115 (zeroPt _) (WalkArith.wf_i64 hp)
  rw [updF_same] at ulk
  have ulk0 := hM2.drew.look (t := 115) (e := 119) (a := p) Try.underlying3 Try.underlying115 (zeroPt _) (WalkArith.wf_i64 hp)
  rw [updF_same] at ulk0
  clear hL2 hI2 hM2 hO2 hF2 hC1 hOb1 HLN1 HM1 HINV HOP
  unfold ptr at ulk ulk0
  go_wp2_with fail
  go_region_held3 (fun w' => w'.cell? ⟨L, 5, none⟩ = some (.map (some mc)) ∧ w'.cell? ⟨L, 2, none⟩ = some (.pointer (some ⟨bm, 0, none⟩)) ∧ w'.cell? ⟨L, 6, none⟩ = some (.int .i64 ((st.ticks : Int) + 1)) ∧ (Instr.lookup 115 (.map (some mc)) (.int .i64 p) false).run Try.prog w' = .ok (.pointer (some ⟨g, 0, none⟩)) w')
    (first | exact ⟨s5, s2, s6, slk⟩ | exact ⟨u5, u2, u6, ulk0⟩ | go_keep)
    (first
      | (go_at_call 49
         refine (step_one g bm bw i ((st.ticks : Int) + 1) ((st.ticks : Int) + 1) _ _ (opOf opv er) st.ws _ st.cn _ _ HONE.out HM2.out.drew HI2.out.drew (by omega)).mono ?_
         rintro e w3 ⟨rfl, kb, hG3, hK3, hkb, hM3, hF3⟩
         have hgL : L ≠ g := row_ne HL2.out HI2.out (by decide)
         have hmg := mem_no_map HC2.out HM2.out
         have hL3 : RowBlk 118 w3 L (loomVs (.slice aoC cs.length capC) lb bm (.slice (some ⟨go, 0, none⟩) 1 capo) vb' mc ((st.ticks : Int) + 1) st.idle) := hF3.row HL2.out.drew (no3 (by omega) (by omega) (by omega))
         have hC3 : MapIs Try.prog 3 w3 mc (nc + 1) (.pointer none) (updF (fun _ => .pointer none) p (ptr g)) := HC2.out.drew.same (hF3.block mc HC2.out.lt (no3 (fun e => HC2.out.ne_row HI2.out e.symm) (fun e => hmg.1 e.symm) (fun e => hmg.2 e.symm)))
         have s5 : w3.cell? ⟨L, 5, none⟩ = some (.map (some mc)) := hL3.cell rfl
         have s2 : w3.cell? ⟨L, 2, none⟩ = some (.pointer (some ⟨bm, 0, none⟩)) := hL3.cell rfl
         have s6 : w3.cell? ⟨L, 6, none⟩ = some (.int .i64 ((st.ticks : Int) + 1)) := hL3.cell rfl
         have slk := hC3.look (t := 115) (e := 119) (a := p) Try.underlying3 Try.underlying115 (zeroPt _) (WalkArith.wf_i64 hp)
         rw [updF_same] at slk
         unfold ptr at slk
         have HG3 := Lib.hid hG3
         have HK3 := Lib.hid hK3
         have HM3 := Lib.hid hM3
         have HF3 := Lib.hid hF3
         have HL3 := Lib.hid hL3
         have HC3 := Lib.hid hC3
         clear hG3 hK3 hM3 hF3 hL3 hC3))
  clear u5 u2 u6 ulk ulk0 s2 s6 slk
  go_wp2_with (at_delete; refine wpList_delete_map rfl _ _ 115 3 119 rfl Try.underlying3 Try.underlying115 mc (nc + 1) (.pointer none) _ rfl HC3.out p rfl hpd ?_)
  intro w4 hC4 hT4
  have hg4 := hT4.grown
  rw [updF_back] at hC4
  have HC4 := Lib.hid hC4
  have hs3 : w2.heap.size ≤ w3.heap.size := HF3.out.size
  have hkb' : w2.heap.size ≤ kb := hkb
  have hcl := H.out.cl
  have hs4 := hg4.size
  have hgL : L ≠ g := row_ne HL2.out HI2.out (by decide)
  have hLmc : L ≠ mc := HC3.out.ne_row HL3.out
  have HLN4 : Hid (LineIs w4 top lb mb N f (ownL (thr cs) st.fin)) := Lib.hid ((HLN2.out.drew.stays (B := top) (HF3.out.below (fun k hk => hk.elim (fun e => by omega) (fun hk => hk.elim (fun e => by omega) (fun e => by omega))) (by show top ≤ w2.heap.size; omega)) (Nat.le_refl _)).stays (B := top)
    ⟨hg4.os, hg4.tape, hg4.output, hg4.size, fun k hk => hg4.block k (by omega) (fun e => by cases e; omega)⟩ (Nat.le_refl _))
  have HL4 : Hid (RowBlk 118 w4 L (loomVs (.slice aoC cs.length capC) lb bm (.slice (some ⟨go, 0, none⟩) 1 capo) vb' mc ((st.ticks : Int) + 1) st.idle)) := Lib.hid (HL3.out.same (hg4.block L HL3.out.lt (fun e => hLmc (by cases e; rfl))))
  have v1 : w4.cell? ⟨L, 1, none⟩ = some (.pointer (some ⟨lb, 0, none⟩)) := HL4.out.cell rfl
  have HG4 := Lib.hid hg4
  have HT1 := Lib.hid ht1
  clear hC4 hT4 hg4
  go_wp2_with fail
  refine (finish_at p _ HLN4.out (by omega) (by unfold maxLen; omega) HNW.out).mono ?_
  rintro e w5 ⟨rfl, ⟨f5, hl5⟩, hb5⟩
  have HL5 := Lib.hid hl5
  have HB5 := Lib.hid hb5
  clear hl5 hb5
  go_wp2_with fail
  first
    | go_end0
    | (refine bodyPost_ret (results_none rfl _ _ _) rfl ?_)
  have h := H.out
  have ho := HO.out
  have hmb4 := HLN4.out.map
  have hsame : ∀ k, k < w3.heap.size → k ≠ mc → k ≠ mb → w5.heap[k]? = w3.heap[k]? := fun k hk h1 h2 => (HB5.out.block k (by omega) h2 h2).trans (HG4.out.block k hk (fun e => h1 (by cases e; rfl)))
  have hfr : ButS (PickS L mb bm bw mc vb) w w5 := by
    have e1 : ButS (fun k => PickS L mb bm bw mc vb k ∨ w.heap.size ≤ k) w W1 := HF1.out.mono (fun k _ hk => .inl hk)
    have e2 : ButS (fun k => PickS L mb bm bw mc vb k ∨ w.heap.size ≤ k) W1 w2 := HF2.out.mono (fun k _ hk => .inl (hk.elim .inl (fun hk => hk.elim (fun e => .inr (.inr (.inr (.inr (.inl e))))) (fun e => .inr (.inr (.inr (.inr (.inr e))))))))
    have e3 : ButS (fun k => PickS L mb bm bw mc vb k ∨ w.heap.size ≤ k) w2.drew w3 := HF3.out.mono (fun k _ hk => hk.elim (fun e => .inr (by omega)) (fun hk => hk.elim (fun e => .inl (.inr (.inr (.inl e)))) (fun e => .inl (.inr (.inr (.inr (.inl e)))))))
    have e4 : ButS (fun k => PickS L mb bm bw mc vb k ∨ w.heap.size ≤ k) w3 w4 := ButS.of_grown HG4.out (fun k hk => .inl (.inr (.inr (.inr (.inr (.inl (by cases hk; rfl)))))))
    have e5 : ButS (fun k => PickS L mb bm bw mc vb k ∨ w.heap.size ≤ k) w4 w5 := ButS.of_but HB5.out (.inl (.inr (.inl rfl))) (.inl (.inr (.inl rfl)))
    exact ((((e1.trans e2).drew.trans e3).trans e4).trans e5).mono (fun k hk hs => hs.elim id (fun hs => by omega))
  have hm3 := HM3.out
  have hmg3 := mem_no_map HC3.out hm3
  have hmb3 := hmb4
  have hbm_mb : bm ≠ mb := by have := HT1.out; omega
  have hbw_mb : bw ≠ mb := by have := HT1.out; omega
  have hmc_mb : mc ≠ mb := by have := HT1.out; omega
  have hL_mb : L ≠ mb := by have := HT1.out; omega
  have nb' : ∀ k, k < L + 1 → vb'.ownBlock ≠ some k := fun k hk e => by have := (HO2.out.lt k e).1; omega
  have ho5 : w5.ownsRow (L + 1) 119 1 vb' (st.evs.length + 1) (ps.map ptr ++ [ptr g]) := owns_same HO2.out (fun k hk => by
    have hlt := (HO2.out.lt k hk).2
    rw [hsame k (by omega) (fun e => nb' k (by omega) hk) (fun e => nb' k (by have := HT1.out; omega) hk)]
    exact HF3.out.block k hlt (no3 (fun e => row_owns_ne HI2.out HO2.out (by decide) (by rw [← e]; exact hk)) (fun e => nb' k (by omega) hk) (fun e => nb' k (by omega) hk)))
  have hgl3 := HG3.out.lt
  have hkl3 := HK3.out.lt
  have hG5 := HG3.out.same (hsame g hgl3 (HC3.out.ne_row HG3.out) (by have := HT1.out; omega))
  have hK5 := HK3.out.same (hsame kb hkl3 (HC3.out.ne_row HK3.out) (by have := HT1.out; omega))
  have et : ((st.ticks + 1 : Nat) : Int) = (st.ticks : Int) + 1 := by omega
  have hcn2 := cellRes_cn size x st.ws st.cn
  have hcn3 := h.cnle
  refine ⟨rfl, ⟨⟨vb', ?_, ps ++ [g], ?_, ?_, ?_⟩, ⟨f5, N + 1, ?_, by omega⟩, ⟨nc + 1, ?_, by omega⟩, ?_, h.keepC ho hfr, h.haC, h.keepO ho hfr, ?_, ?_, ?_, ?_, ?_, ?_, h.gsep, h.osep, h.lsep, h.b0, h.szs, h.cl, by omega⟩, ?_⟩
  · rw [et]
    exact HL4.out.same (HB5.out.block L HL4.out.lt hL_mb hL_mb)
  · rw [List.map_append, List.length_append]
    exact ho5
  · rw [List.length_append, List.length_append, hpl]; rfl
  · intro k y hy
    by_cases hk : k < st.evs.length
    · rw [List.getElem?_append_left hk] at hy
      obtain ⟨g', hg', hgl', hI'⟩ := HIN.out k y hy
      exact ⟨g', by rw [List.getElem?_append_left (by omega)]; exact hg', hgl', h.keepI ho hfr hI' hgl'⟩
    · rw [List.getElem?_append_right (by omega)] at hy
      have hk0 : k - st.evs.length = 0 := by
        have := (List.getElem?_eq_some_iff.1 hy).1
        simp at this; omega
      rw [hk0] at hy
      cases hy
      refine ⟨g, by rw [List.getElem?_append_right (by omega), hpl, hk0]; rfl, by omega, kb, opOf opv er, ?_, by omega, ?_⟩
      · simp only [et]; exact hG5
      · simp only [et]; exact hK5
  · rw [own_set_fun HN.out]; exact HL5.out
  · exact HC4.out.same (HB5.out.block mc HC4.out.lt hmc_mb hmc_mb)
  · exact hm3.of_blocks (hsame bm hm3.lt1 hmg3.1 hbm_mb) (hsame bw hm3.lt2 hmg3.2 hbw_mb)
  · rw [List.length_set]; exact h.lfin
  · show (cellRes size x st.ws st.cn).2.2.1.length = size
    rw [cellRes_len]; exact h.lws
  · show (cellRes size x st.ws st.cn).2.2.2.r + (cellRes size x st.ws st.cn).2.2.2.w + (cellRes size x st.ws st.cn).2.2.2.s + (cellRes size x st.ws st.cn).2.2.2.a ≤ st.ticks + 1 ∧ (cellRes size x st.ws st.cn).2.2.2.f = 0
    omega
  · show st.ticks + 1 + st.idle = j + 1
    omega
  · show (st.evs ++ [_]).length = st.ticks + 1
    rw [List.length_append, h.evl]; rfl
  · have := HT1.out
    have := hfr.size
    exact ⟨by omega, by omega, by omega, by omega, by omega, by omega⟩
  · refine hfr.below (fun k hk => ?_) (by have := HT1.out; have := h.b0; have := h.mem.lt1; omega)
    have := h.b0
    rcases hk with e | e | e | e | e | e
    · omega
    · omega
    · omega
    · omega
    · omega
    · have := (ho.lt k e).1; omega
end Go.Proofs.Ytjlopeijdmnacaa
