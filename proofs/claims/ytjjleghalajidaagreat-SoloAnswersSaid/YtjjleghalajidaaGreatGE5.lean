/- solo: next, for any call; execute. | solo: Answers, Last. -/
import Derived.Test.YtjjleghalajidaaGreatGE4
namespace Go.Proofs.YtjjleghalajidaaGreat
section
open Go.ChangeShapes Go.WideShapes Go.ChangeAt Go.RowKit Go.Maps
set_option linter.unusedVariables false
set_option linter.unusedSimpArgs false
set_option maxRecDepth 100000

theorem next_any (n : Int) (l : List Tb.SpecL) (q : SoM) (mv : Value) (us : List Value) (s : SoS) (k j : Nat) (x : CallM) (w : World) (h : SoAt w n l q mv l.length us s k) (hso : SoOk n l s j) (hok : ∀ y ∈ l, Tb.tbErr n y.k y.p y.q = 0) (hl8 : l.length ≤ 8) (hj : j ≤ 1000) (hk : k ≤ 100000) (hx : x.Ok) (hth : 0 ≤ x.th ∧ x.th < n) (hn : n ≤ 16) :
    Calls Tryz.prog 78 #[.pointer (some ⟨q.g, 0, none⟩), x.v] w (NxP n l q mv us k w (soStep n l s x)) := by
  by_cases hin : soIn l x
  case neg =>
    have e : soStep n l s x = (s, ⟨[], 12, 0, []⟩) := by unfold soStep; rw [if_pos hin]
    rw [e]
    exact next_bad n l q mv us s k x.th x.ob x.kd x.a x.b x.c w h hin
  obtain ⟨i, hi⟩ : ∃ i : Nat, x.ob = i := ⟨x.ob.toNat, by unfold soIn at hin; omega⟩
  have hil : i < l.length := by unfold soIn at hin; omega
  have hob : x.ob.toNat = i := by omega
  obtain ⟨y, hy⟩ : ∃ y, l[i]? = some y := ⟨_, List.getElem?_eq_getElem hil⟩
  have hyd : l.getD i sp0 = y := getD_some' hy
  have hob2 := hso.ob i y hy
  have hok2 := hok y (List.mem_of_getElem? hy)
  have hml := hob2.small hok2 hj
  obtain ⟨r, hr⟩ : ∃ r, mdOp n y.k y.p y.q (s.ms.getD i []) x = r := ⟨_, rfl⟩
  have hsr : soR n l s x = r := by unfold soR; rw [hob, hyd, hr]
  have hAP : ∀ (W : World) (v : Value), ArgW W v (s.ms.getD i []) → Room v → Calls Tryz.prog 56 #[.int .i64 n, Tb.specV y.k y.p y.q, v, callV x.th (i : Int) x.kd (x.a : Int) (x.b : Int) (x.c : Int)] W (ChP W.heap.size W r) := fun W v hA hR => by
    have := mapply_any n y.k y.p y.q (s.ms.getD i []) x v W hA hR hok2 hob2.is hth hx hob2.words (by omega)
    rw [hr] at this
    have e : x.v = callV x.th (i : Int) x.kd (x.a : Int) (x.b : Int) (x.c : Int) := by unfold CallM.v; rw [hi]
    rw [e] at this
    exact this
  have hxv : x.v = callV x.th (i : Int) x.kd (x.a : Int) (x.b : Int) (x.c : Int) := by unfold CallM.v; rw [hi]
  rw [hxv]
  have hstep0 : soStep n l s x = if soFull n l s x then (s, ⟨[], 6, 0, []⟩) else (⟨s.ms.set i r.st, if soTake n l s x then s.la.set i ((s.ms.getD i []).getD 0 0 : Nat) else s.la⟩, ⟨[], r.err, r.val, r.ls⟩) := by
    unfold soStep; rw [if_neg (not_not_intro hin), hob, hsr]
  by_cases h8 : y.k = 8 ∧ r.err = 0
  case neg =>
    have hnf : ¬ soFull n l s x := fun hf => by unfold soFull at hf; rw [hob, hyd, hsr] at hf; exact h8 ⟨hf.1, hf.2.1⟩
    have hnt : ¬ soTake n l s x := fun hf => by unfold soTake at hf; rw [hob, hyd, hsr] at hf; exact h8 ⟨hf.1, hf.2.1⟩
    rw [hstep0, if_neg hnf, if_neg hnt]
    exact next_on n l q mv us s k x.th x.kd i x.a x.b x.c w h hso.lm hil hl8 y hy r hAP (by by_cases h : y.k = 8; exact .inr (fun e => h8 ⟨h, e⟩); exact .inl h)
  obtain ⟨h8, he⟩ := h8
  by_cases hkd : x.kd = 1
  · have hnf : ¬ soFull n l s x := fun hf => by unfold soFull at hf; exact hf.2.2.1 hkd
    have ht : soTake n l s x := by unfold soTake; rw [hob, hyd, hsr]; exact ⟨h8, he, hkd⟩
    rw [hstep0, if_neg hnf, if_pos ht]
    have h2 : (s.ms.getD i []).length % 2 = 0 := by have := hob2.is; rw [h8] at this; simpa [mdIs] using this
    have hne : s.ms.getD i [] ≠ [] := by
      rw [h8] at hr
      rcases queue_goes (by rw [hr]; exact he) with ⟨h3, _⟩ | ⟨_, h3, _⟩
      · omega
      · exact h3
    have hx16 := qThr_head h2 (hob2.thr h8) hne
    obtain ⟨x0, m', hm'⟩ : ∃ x0 m', s.ms.getD i [] = x0 :: m' := by
      cases hc : s.ms.getD i [] with
      | nil => exact absurd hc hne
      | cons a b => exact ⟨a, b, rfl⟩
    have e0 : (s.ms.getD i []).getD 0 0 = x0 := by rw [hm']; rfl
    rw [e0] at hx16 ⊢
    exact next_take n l q mv us s k x.th x.kd i x.a x.b x.c w h hso.lm hil hl8 y hy r hAP hkd h8 he x0 m' hm' hx16 hso.ll hk
  · obtain ⟨t, ht⟩ : ∃ t : Nat, x.th = t := ⟨x.th.toNat, by omega⟩
    have h2 : (s.ms.getD i []).length % 2 = 0 := by have := hob2.is; rw [h8] at this; simpa [mdIs] using this
    have hus := hob2.used h8 x.th hth
    have hnt : ¬ soTake n l s x := fun hf => by unfold soTake at hf; exact hkd hf.2.2
    obtain ⟨R, hR⟩ : ∃ R : Nat, usedN x.th (s.ms.getD i []) (s.la.getD i (-1)) = R := ⟨_, rfl⟩
    rw [hR] at hus
    by_cases hRp : (R : Int) = y.p
    · have hf : soFull n l s x := by unfold soFull; rw [hob, hyd, hsr, hR]; exact ⟨h8, he, hkd, by omega⟩
      rw [hstep0, if_pos hf]
      rw [ht] at hR
      exact next_full n l q mv us s k x.th x.kd i x.a x.b x.c w h hso.lm hil hl8 y hy r hAP t R ht (by omega) hkd h8 he h2 (by omega) hob2.lb.1 hR hRp
    · have hf : ¬ soFull n l s x := fun hf => by unfold soFull at hf; rw [hob, hyd, hsr, hR] at hf; have := hf.2.2.2; omega
      rw [hstep0, if_neg hf, if_neg hnt]
      rw [ht] at hR
      exact next_put n l q mv us s k x.th x.kd i x.a x.b x.c w h hso.lm hil hl8 y hy r hAP t R ht (by omega) hkd h8 he h2 (by omega) hob2.lb.1 hR hRp

/-- answers stay, whatever a call turns -/
theorem AnsW.frn {w w' : World} {q : SoM} {mv : Value} {C : Nat} {v : Value} {az : List MdR} {lst : List (MdR × Value)} (h : AnsW w C v az lst) (hf : FrN q mv w w') (hq : q.mb < C) (hm : ∀ b, mv.ownBlock = some b → b < C) (ho : Off mv (lst.map (·.2))) : AnsW w' C v az lst := by
  have hk : ∀ b, b < w.heap.size → C ≤ b → w'.heap[b]? = w.heap[b]? := fun b h1 h2 => hf.block b h1 (by omega) (fun e => by have := hm b e; omega)
  have hk2 : ∀ p ∈ lst, ∀ b, blkOf p.2 = some b → w'.heap[b]? = w.heap[b]? := fun p hp b hb => by
    have := (h.ls p hp).blk hb
    exact hk b this.2 this.1
  refine ⟨h.eq, ?_, h.ls.keepE hk2, h.off⟩
  obtain ⟨hl, h0 | ⟨g, cap, cur, hv, hg, hb, h1, h2, h3, h4⟩⟩ := h.row
  · exact ⟨hl, .inl h0⟩
  · exact ⟨hl, .inr ⟨g, cap, cur, hv, hg, (hk g (blk_lt hb) hg).trans hb, h1, h2, h3, h4⟩⟩
/-- while calls are executed -/
structure ExAt (w wr : World) (n : Int) (l : List Tb.SpecL) (q : SoM) (mv : Value) (us : List Value) (s : SoS) (k : Nat) (v : Value) (az : List MdR) (lst : List (MdR × Value)) : Prop where
  so : SoAt wr n l q mv l.length us s k
  an : AnsW wr w.heap.size v az lst
  o1 : Off v us
  o2 : Off mv (lst.map (·.2))
  fr : FrN q mv w wr
  gl : q.g < w.heap.size
  ml : ∀ b, mv.ownBlock = some b → b < w.heap.size
theorem ExAt.start {w : World} {n : Int} {l : List Tb.SpecL} {q : SoM} {mv : Value} {us : List Value} {s : SoS} {k : Nat} (h : SoAt w n l q mv l.length us s k) : ExAt w w n l q mv us s k (.slice none 0 0) [] [] :=
  ⟨h, AnsW.none' _ _, Off.none' _ rfl, Off.nil _, FrN.of_below (Below.refl _ _), h.lt, fun b hb => (h.row.lt b hb).2⟩
theorem ExAt.row3 {w wr w3 : World} {n : Int} {l : List Tb.SpecL} {q : SoM} {mv : Value} {us : List Value} {s : SoS} {k : Nat} {v : Value} {az : List MdR} {lst : List (MdR × Value)} (h : ExAt w wr n l q mv us s k v az lst) (o : Obj) (hfr : FrN q mv (wr.alloc o) w3) : AnsW w3 w.heap.size v az lst :=
  (h.an.below ((Below.refl _ _).alloc (Nat.le_refl _) o)).frn hfr (by have := h.so.mC; have := h.gl; omega) h.ml h.o2
theorem ExAt.step {w wr w3 w6 : World} {n : Int} {l : List Tb.SpecL} {q : SoM} {mv : Value} {us us2 : List Value} {s s2 : SoS} {k k2 : Nat} {v lv : Value} {az : List MdR} {lst : List (MdR × Value)} {a : MdR} {g6 cap6 : Nat} (h : ExAt w wr n l q mv us s k v az lst) (o : Obj) (hS3 : SoAt w3 n l q mv l.length us2 s2 k2)
    (hlv : ArgB w3 (wr.alloc o).heap.size lv a.ls) (hus : ∀ u ∈ us2, u ∈ us ∨ ∀ b, blkOf u = some b → (wr.alloc o).heap.size ≤ b) (hfr : FrN q mv (wr.alloc o) w3)
    (hr6 : w6.ownsRow w.heap.size 57 3 (.slice (some ⟨g6, 0, none⟩) (az.length + 1) cap6) (az.length + 1) (ansVs lst ++ [.int .i64 (a.err : Int), .int .u64 (a.val : Int), lv])) (hg6 : (w3.alloc (.cells #[.int .i64 (a.err : Int), .int .u64 (a.val : Int), lv] 57)).grownBy w6 v.ownBlock) (hl6 : v.ownBlock = some g6 ∨ g6 = w3.heap.size + 1) :
    ExAt w w6 n l q mv us2 s2 k2 (.slice (some ⟨g6, 0, none⟩) (az.length + 1) cap6) (az ++ [a]) (lst ++ [(a, lv)]) := by
  have hA3 := h.row3 o hfr
  have hsz : wr.heap.size < (wr.alloc o).heap.size := by simp
  have hwsz := h.fr.size
  have hvb : ∀ b, v.ownBlock = some b → w.heap.size ≤ b ∧ b < wr.heap.size := fun b hb => h.an.row.lt b hb
  have hO1 : Off v us2 := fun u hu b hb e => by
    rcases hus u hu with h1 | h1
    · exact h.o1 u h1 b hb e
    · have := h1 b hb; have := (hvb b e).2; omega
  have hOL : Off v (lst.map (·.2) ++ [lv]) := h.an.off.app (Off.one (fun b hb e => by have := (hlv.blk hb).1; have := (hvb b e).2; omega))
  have hOM : Off mv (lst.map (·.2) ++ [lv]) := h.o2.app (Off.one (fun b hb e => by have := (hlv.blk hb).1; have := h.ml b e; omega))
  have hmap : (lst ++ [(a, lv)]).map (·.2) = lst.map (·.2) ++ [lv] := by simp
  have hwsz3 : w.heap.size ≤ w3.heap.size := by have := hfr.size; omega
  have hLS : LsAt w3 w.heap.size (lst ++ [(a, lv)]) := hA3.ls.snoc (hlv.mono (by omega))
  have hk6 : ∀ b, b < w3.heap.size → v.ownBlock ≠ some b → w6.heap[b]? = w3.heap[b]? := fun b hb hne => (hg6.block b (by simp; omega) (fun e => hne e.symm)).trans (Below.heap_alloc _ _ _ hb)
  have hLSin : ∀ p ∈ lst ++ [(a, lv)], p.2 ∈ lst.map (·.2) ++ [lv] := fun p hp => by rw [← hmap]; exact List.mem_map_of_mem hp
  refine ⟨?_, ⟨?_, ?_, hLS.keepE (fun p hp b hb => hk6 b ((hLS p hp).blk hb).2 (hOL _ (hLSin p hp) b hb)), ?_⟩, ?_, ?_, ?_, h.gl, h.ml⟩
  · refine (hS3.alloc _).keep hg6 (fun b e => by have := (hvb b e).1; have := h.gl; omega) ?_ (fun u hu b hb e => hO1 u hu b hb e.symm)
    rcases hm : mv.ownBlock with _ | g
    · exact .inl rfl
    · exact .inr (fun e => by have := h.ml g hm; have := (hvb g e.symm).1; omega)
  · rw [List.map_append, h.an.eq]; rfl
  · rw [List.length_append, ansVs_snoc]; exact hr6
  · rw [hmap]; exact off_lies hOL (fun u hu b hb => by
      obtain ⟨p, hp, rfl⟩ := List.mem_map.1 (by rw [hmap]; exact hu)
      have := ((hLS p hp).blk hb).2; omega) hl6
  · exact off_lies hO1 (fun u hu b hb => by have := (hS3.ws.lt hu hb).2; omega) hl6
  · rw [hmap]; exact hOM
  · have hf3 : FrN q mv w w3 := (h.fr.trans (FrN.of_below ((Below.refl _ _).alloc (Nat.le_refl _) o))).trans hfr
    exact ⟨hg6.os.trans hf3.os, hg6.tape.trans hf3.tape, hg6.output.trans hf3.output, by have := hg6.size; simp at this; omega, fun b hb h1 h2 => (hk6 b (by omega) (fun e => by have := (hvb b e).1; omega)).trans (hf3.block b hb h1 h2)⟩

def ExP (n : Int) (l : List Tb.SpecL) (q : SoM) (mv : Value) (s : SoS) (cs : List CallM) (w : World) (e : Ending) (w' : World) : Prop :=
  ∃ us' k' v lst, e = .returned v ∧ ExAt w w' n l q mv us' (soRun n l s [] cs).1 k' v (soRun n l s [] cs).2 lst
set_option maxHeartbeats 4000000 in
theorem execute_any (n : Int) (l : List Tb.SpecL) (q : SoM) (mv : Value) (us : List Value) (s : SoS) (cao : Option Addr) (cb co cc : Nat) (cs : List CallM) (w : World) (h : SoAt w n l q mv l.length us s 0) (hso : SoOk n l s 0) (hok : ∀ y ∈ l, Tb.tbErr n y.k y.p y.q = 0) (hl8 : l.length ≤ 8) (hn : n ≤ 16) (hcl : cs.length ≤ 1000) (hth : thrOk n cs = true) (hcx : ∀ x ∈ cs, x.Ok) (hca : 0 < cs.length → cao = some ⟨cb, co, none⟩) (hcs : CallsM w cb co cs) (hcb : 0 < cs.length → cb < q.C0) :
    Calls Tryz.prog 45 #[.pointer (some ⟨q.g, 0, none⟩), .slice cao cs.length cc] w (ExP n l q mv s cs w) := by
  obtain ⟨iI, ia, ib, ic, id⟩ := info_parts infoAns
  have HS := Lib.hid h
  have HSO := Lib.hid hso
  have HCA := Lib.hid hca
  have HTH := Lib.hid (thrOk_mem hth)
  have HCX := Lib.hid hcx
  have HN : Hid (∀ (mv : Value) (us : List Value) (s : SoS) (k j : Nat) (x : CallM) (W : World), SoAt W n l q mv l.length us s k → SoOk n l s j → j ≤ 1000 → k ≤ 100000 → x.Ok → (0 ≤ x.th ∧ x.th < n) → Calls Tryz.prog 78 #[.pointer (some ⟨q.g, 0, none⟩), x.v] W (NxP n l q mv us k W (soStep n l s x))) := Lib.hid (fun mv us s k j x W h1 h2 h3 h4 h5 h6 => next_any n l q mv us s k j x W h1 h2 hok hl8 h3 h4 h5 h6 hn)
  have HST : Hid (∀ (s : SoS) (j : Nat) (x : CallM), SoOk n l s j → x.Ok → (0 ≤ x.th ∧ x.th < n) → SoOk n l (soStep n l s x).1 (j + 1)) := Lib.hid (fun s j x h1 h2 h3 => h1.step hok h2 h3)
  have HCS : Hid (∀ W, FrN q mv w W → CallsM W cb co cs) := Lib.hid (fun W hf => hcs.keep (fun hl => by
    have h1 := hcb hl
    have h2 := h.mC
    have h3 := h.lt
    exact hf.block cb (by omega) (by omega) (fun e => by have := (h.row.lt cb e).1; omega)))
  clear h hso hca hth hcx hcs hcb hok hl8 hn
  go_enter Tryz.func45, Tryz.ntmps45
  go_wp2
  go_loopw [5, 10] (fun v kk wr => ∃ (j : Nat) (us' : List Value) (s' : SoS) (k' : Nat) (az : List MdR) (lst : List (MdR × Value)) (vao : Option Addr) (vcap : Nat), j ≤ cs.length ∧ v = .slice vao az.length vcap ∧ kk = .int .i64 j ∧ Hid (az.length = j) ∧ k' ≤ j ∧ Hid (ExAt w wr n l q mv us' s' k' (.slice vao az.length vcap) az lst) ∧ Hid (SoOk n l s' j) ∧ Hid (soRun n l s' az (cs.drop j) = soRun n l s [] cs)) (fun _ kk _ => cs.length - (intOf kk).toNat)
  case atStart => exact ⟨0, us, s, 0, [], [], none, 0, Nat.zero_le _, rfl, rfl, Lib.hid rfl, Nat.le_refl _, Lib.hid (ExAt.start HS.out), HSO, Lib.hid rfl⟩
  case round =>
    obtain ⟨j, us', s', k', az, lst, vao, vcap, hj, rfl, rfl, hazl, hk', HE, HO, hp⟩ := hrel
    by_cases hlt : j < cs.length
    · obtain rfl := HCA.out (by omega)
      obtain ⟨x, hx⟩ : ∃ x, cs[j]? = some x := ⟨cs[j], List.getElem?_eq_getElem (by omega)⟩
      obtain ⟨c0, c1, c2, c3, c4, c5⟩ := HCS.out wr HE.out.fr j x hx
      have hx1 := HCX.out x (List.mem_of_getElem? hx)
      have hx2 := HTH.out x (List.mem_of_getElem? hx)
      have hd := Lib.hid (drop_callsM hx)
      obtain ⟨s2, hs2⟩ : ∃ s2, (soStep n l s' x).1 = s2 := ⟨_, rfl⟩
      obtain ⟨a2, ha2⟩ : ∃ a2, (soStep n l s' x).2 = a2 := ⟨_, rfl⟩
      have hst : soStep n l s' x = (s2, a2) := by rw [← hs2, ← ha2]
      have HN2 : Hid (Calls Tryz.prog 78 #[.pointer (some ⟨q.g, 0, none⟩), x.v] (wr.alloc (callO x.th x.ob x.kd (x.a : Int) (x.b : Int) (x.c : Int))) (NxP n l q mv us' k' (wr.alloc (callO x.th x.ob x.kd (x.a : Int) (x.b : Int) (x.c : Int))) (s2, a2))) := Lib.hid (by
        have := HN.out mv us' s' k' j x _ (HE.out.so.alloc (callO x.th x.ob x.kd (x.a : Int) (x.b : Int) (x.c : Int))) HO.out (by omega) (by omega) hx1 hx2
        rw [hst] at this; exact this)
      have HO2 : Hid (SoOk n l s2 (j + 1)) := Lib.hid (by have := HST.out s' j x HO.out hx1 hx2; rw [hs2] at this; exact this)
      have HP2 : Hid (soRun n l s2 (az ++ [a2]) (cs.drop (j + 1)) = soRun n l s [] cs) := Lib.hid (by rw [← hp.out, hd.out, soRun_next hst])
      have hsz := HE.out.fr.size
      clear hx hx1 hx2 hs2 ha2 hst hd hp
      unfold CallM.v callV callO at HN2
      go_wp2_with (first
        | (go_at_call 78; refine HN2.out.mono ?_; rintro e w3 ⟨us2, k2, lv, rfl, hS3, hlv, hus, hk2, hfr⟩; (have HS3 := Lib.hid hS3); (have HLV := Lib.hid hlv); (have HUS := Lib.hid hus); (have HFR := Lib.hid hfr); (have HR3 := Lib.hid (HE.out.row3 _ hfr)); (obtain ⟨lao, lcap, rfl⟩ := hlv.arg.isSlice); (have hsz3 := hfr.size); clear hS3 hlv hus hfr c0 c1 c2 c3 c4 c5)
        | (at_builtin; refine append_lie rfl _ _ 44 rfl w.heap.size 57 iI (.agg #[.int .i64 0, .int .u64 0, .slice none 0 0]) 3 40 Tryz.underlying44 ia ib ic id rfl (by decide) (by decide) _ az.length _ rfl HR3.out.row [.int .i64 (a2.err : Int), .int .u64 (a2.val : Int), .slice lao a2.ls.length lcap] rfl rfl (fun u hu => by simp only [List.mem_cons, List.not_mem_nil, or_false] at hu; rcases hu with rfl | rfl | rfl <;> rfl) (by have := hazl.out; omega) (by simp at hsz3; omega) ?_; intro g6 cap6 w6 hr6 hg6 hl6; (have HE6 := Lib.hid (HE.out.step _ HS3.out HLV.out HUS.out HFR.out hr6 hg6 hl6)); clear hr6 hg6 hl6))
      go_roundw
      case rel => exact ⟨j + 1, us2, s2, k2, az ++ [a2], _, some ⟨g6, 0, none⟩, cap6, by omega, by rw [List.length_append]; rfl, by go_num, Lib.hid (by rw [List.length_append, hazl.out]; rfl), by omega, by rw [List.length_append]; exact HE6, HO2, HP2⟩
      case measure => simp [intOf]; omega
    · have hjl : j = cs.length := by omega
      subst hjl
      have hE2 : Hid (soRun n l s [] cs = (s', az)) := Lib.hid (by rw [← hp.out, List.drop_length]; rfl)
      go_wp2
      go_ret
      exact ⟨us', k', _, lst, rfl, by rw [hE2.out]; exact HE.out⟩
end
section
open Go.ChangeShapes Go.WideShapes Go.ChangeAt Go.RowKit Go.Maps
set_option linter.unusedVariables false
set_option linter.unusedSimpArgs false
set_option maxRecDepth 100000

/-- the play done whole -/
def soAll (n : Int) (l : List Tb.SpecL) (cs : List CallM) : SoS × List MdR := soRun n l (soNew n l) [] cs
/-- arguments: objects and calls -/
structure SoArgs (w : World) (sao cao : Option Addr) (sb so cb co : Nat) (l : List Tb.SpecL) (cs : List CallM) : Prop where
  sa : 0 < l.length → sao = some ⟨sb, so, none⟩
  sp : Tb.SpecsAt w sb so l
  ca : 0 < cs.length → cao = some ⟨cb, co, none⟩
  cp : CallsM w cb co cs
  cx : ∀ x ∈ cs, x.Ok
theorem SoArgs.below {w w' : World} {sao cao : Option Addr} {sb so cb co : Nat} {l : List Tb.SpecL} {cs : List CallM} (h : SoArgs w sao cao sb so cb co l cs) (hb : Below w.heap.size w w') : SoArgs w' sao cao sb so cb co l cs :=
  ⟨h.sa, h.sp.stays hb (fun hl => specs_lt h.sp hl), h.ca, h.cp.stays hb (fun hl => h.cp.lt hl), h.cx⟩
def AnsP (n : Int) (l : List Tb.SpecL) (cs : List CallM) (w : World) (e : Ending) (w' : World) : Prop :=
  ∃ v lst C, e = .returned (.tuple #[v, .int .i64 0]) ∧ AnsW w' C v (soAll n l cs).2 lst ∧ Below w.heap.size w w'
/-- behind begin and execute -/
theorem ex_below {n : Int} {l : List Tb.SpecL} {q : SoM} {mv : Value} {us us' : List Value} {s s' : SoS} {k k' : Nat} {v : Value} {az : List MdR} {lst : List (MdR × Value)} {w w1 w2 : World} (hS : SoAt w1 n l q mv l.length us s k) (hC : q.C0 = w.heap.size) (hb : Below w.heap.size w w1) (hE : ExAt w1 w2 n l q mv us' s' k' v az lst) : Below w.heap.size w w2 := by
  have hm := hS.mC
  exact hb.trans (hE.fr.toBelow (by omega) (fun b e => by have := (hS.row.lt b e).1; omega) hb.size)

set_option maxHeartbeats 2000000 in
theorem answers_ok (n : Int) (sao cao : Option Addr) (sb so sc cb co cc : Nat) (l : List Tb.SpecL) (cs : List CallM) (w : World) (h : SoArgs w sao cao sb so cb co l cs) (hok : soErr n l cs = 0) :
    Calls Tryz.prog 15 #[.int .i64 n, .slice sao l.length sc, .slice cao cs.length cc] w (AnsP n l cs w) := by
  obtain ⟨h1, h2, h3, h4⟩ := soErr_ok hok
  obtain ⟨_, hl8, hall, _⟩ := laErr_ok h4
  have HBG := Lib.hid (begin_ok n sao cao sb so sc cb co cc l cs w h.sa h.sp h.ca h.cp hok)
  have HEX : Hid (∀ (q : SoM) (mv : Value) (us : List Value) (W : World), SoAt W n l q mv l.length us (soNew n l) 0 → q.C0 = w.heap.size → Below w.heap.size w W → Calls Tryz.prog 45 #[.pointer (some ⟨q.g, 0, none⟩), .slice cao cs.length cc] W (ExP n l q mv (soNew n l) cs W)) := Lib.hid (fun q mv us W hS hC hb =>
    execute_any n l q mv us (soNew n l) cao cb co cc cs W hS (soOk_new hall) hall hl8 h1.2 h2 h3 h.cx h.ca (h.below hb).cp (fun hl => by rw [hC]; exact h.cp.lt hl))
  clear h hok h1 h2 h3 h4 hall hl8
  go_enter Tryz.func15, Tryz.ntmps15
  go_wp2_with (first
    | (go_at_call 44; refine HBG.out.mono ?_; rintro e w1 ⟨q, mv, us, rfl, hS, hC, hb1⟩; (have HX := Lib.hid (HEX.out q mv us w1 hS hC hb1)); (have HS1 := Lib.hid hS); (have HC1 := Lib.hid hC); (have HB1 := Lib.hid hb1); clear hS hC hb1)
    | (go_at_call 45; refine HX.out.mono ?_; rintro e w2 ⟨us', k', v, lst, rfl, hE⟩; (have HE := Lib.hid hE); clear hE))
  go_ret2
  exact ⟨_, lst, w1.heap.size, rfl, HE.out.an, ex_below HS1.out HC1.out HB1.out HE.out⟩
set_option maxHeartbeats 1000000 in
theorem answers_bad (n : Int) (sao cao : Option Addr) (sb so sc cb co cc : Nat) (l : List Tb.SpecL) (cs : List CallM) (w : World) (h : SoArgs w sao cao sb so cb co l cs) (hl : l.length ≤ 4294967296) (hbad : soErr n l cs ≠ 0) :
    Calls Tryz.prog 15 #[.int .i64 n, .slice sao l.length sc, .slice cao cs.length cc] w fun e w' => e = .returned (.tuple #[.slice none 0 0, .int .i64 (soErr n l cs)]) ∧ Below w.heap.size w w' := by
  have HBG := Lib.hid (begin_bad n sao cao sb so sc cb co cc l cs w h.sa h.sp h.ca h.cp hl hbad)
  obtain ⟨er, her⟩ : ∃ er, soErr n l cs = er := ⟨_, rfl⟩
  rw [her] at HBG hbad ⊢
  clear h her
  go_enter Tryz.func15, Tryz.ntmps15
  go_wp2_with (go_at_call 44; refine HBG.out.mono ?_; rintro e w1 ⟨rfl, hb1⟩; (have HB1 := Lib.hid hb1); clear hb1)
  go_ret2
  exact ⟨rfl, HB1.out⟩
set_option maxHeartbeats 1000000 in
theorem last_bad (n : Int) (sao cao : Option Addr) (sb so sc cb co cc : Nat) (l : List Tb.SpecL) (cs : List CallM) (ob : Int) (w : World) (h : SoArgs w sao cao sb so cb co l cs) (hl : l.length ≤ 4294967296) (hbad : soErr n l cs ≠ 0) :
    Calls Tryz.prog 16 #[.int .i64 n, .slice sao l.length sc, .slice cao cs.length cc, .int .i64 ob] w fun e w' => e = .returned (.tuple #[.slice none 0 0, .int .i64 (soErr n l cs)]) ∧ Below w.heap.size w w' := by
  have HBG := Lib.hid (begin_bad n sao cao sb so sc cb co cc l cs w h.sa h.sp h.ca h.cp hl hbad)
  obtain ⟨er, her⟩ : ∃ er, soErr n l cs = er := ⟨_, rfl⟩
  rw [her] at HBG hbad ⊢
  clear h her
  go_enter Tryz.func16, Tryz.ntmps16
  go_wp2_with (go_at_call 44; refine HBG.out.mono ?_; rintro e w1 ⟨rfl, hb1⟩; (have HB1 := Lib.hid hb1); clear hb1)
  go_ret2
  exact ⟨rfl, HB1.out⟩
set_option maxHeartbeats 1000000 in
theorem last_none (n : Int) (sao cao : Option Addr) (sb so sc cb co cc : Nat) (l : List Tb.SpecL) (cs : List CallM) (ob : Int) (w : World) (h : SoArgs w sao cao sb so cb co l cs) (hok : soErr n l cs = 0) (hno : ¬ (0 ≤ ob ∧ ob < l.length)) :
    Calls Tryz.prog 16 #[.int .i64 n, .slice sao l.length sc, .slice cao cs.length cc, .int .i64 ob] w fun e w' => e = .returned (.tuple #[.slice none 0 0, .int .i64 12]) ∧ Below w.heap.size w w' := by
  have HBG := Lib.hid (begin_ok n sao cao sb so sc cb co cc l cs w h.sa h.sp h.ca h.cp hok)
  have HH := Lib.hid (fun (W : World) (g : Nat) (ao : Option Addr) (c : Nat) (e : W.cell? ⟨g, 1, none⟩ = some (.slice ao l.length c)) => so_has n l g ao c ob W e)
  have hd : decide (0 ≤ ob ∧ ob < (l.length : Int)) = false := decide_eq_false hno
  simp only [hd] at HH
  clear h hok hno hd
  go_enter Tryz.func16, Tryz.ntmps16
  go_wp2_with (first
    | (go_at_call 44; refine HBG.out.mono ?_; rintro e w1 ⟨q, mv, us, rfl, hS, hC, hb1⟩; (have g1 := hS.cells.2.1); (have HB1 := Lib.hid hb1); clear hS hC hb1)
    | (go_at_call 46; refine (HH.out _ _ _ _ g1).mono ?_; rintro e w2 ⟨rfl, m, rfl⟩))
  go_ret2
  exact ⟨rfl, below_drewN HB1.out _⟩
def LastP (n : Int) (l : List Tb.SpecL) (cs : List CallM) (i : Nat) (w : World) (e : Ending) (w' : World) : Prop :=
  ∃ u, e = .returned (.tuple #[u, .int .i64 0]) ∧ ArgW w' u ((soAll n l cs).1.ms.getD i []) ∧ Below w.heap.size w w'
theorem soRun_ok {n : Int} {l : List Tb.SpecL} (hok : ∀ x ∈ l, Tb.tbErr n x.k x.p x.q = 0) : ∀ (cs : List CallM) (s : SoS) (az : List MdR) (j : Nat), SoOk n l s j → (∀ x ∈ cs, x.Ok) → (∀ x ∈ cs, 0 ≤ x.th ∧ x.th < n) → SoOk n l (soRun n l s az cs).1 (j + cs.length)
  | [], s, az, j, h, _, _ => h
  | x :: cs, s, az, j, h, h1, h2 => by
    rw [soRun]
    have := soRun_ok hok cs (soStep n l s x).1 (az ++ [(soStep n l s x).2]) (j + 1) (h.step hok (h1 x List.mem_cons_self) (h2 x List.mem_cons_self)) (fun y hy => h1 y (List.mem_cons_of_mem _ hy)) (fun y hy => h2 y (List.mem_cons_of_mem _ hy))
    rw [List.length_cons]
    exact this.mono (by omega)
theorem soAll_ok {n : Int} {l : List Tb.SpecL} {cs : List CallM} (hok : soErr n l cs = 0) (hcx : ∀ x ∈ cs, x.Ok) : SoOk n l (soAll n l cs).1 cs.length := by
  obtain ⟨h1, h2, h3, h4⟩ := soErr_ok hok
  obtain ⟨_, hl8, hall, _⟩ := laErr_ok h4
  have := soRun_ok hall cs (soNew n l) [] 0 (soOk_new hall) hcx (thrOk_mem h3)
  rw [Nat.zero_add] at this
  exact this
set_option maxHeartbeats 2000000 in
theorem last_ok (n : Int) (sao cao : Option Addr) (sb so sc cb co cc : Nat) (l : List Tb.SpecL) (cs : List CallM) (i : Nat) (w : World) (h : SoArgs w sao cao sb so cb co l cs) (hok : soErr n l cs = 0) (hi : i < l.length) :
    Calls Tryz.prog 16 #[.int .i64 n, .slice sao l.length sc, .slice cao cs.length cc, .int .i64 (i : Int)] w (LastP n l cs i w) := by
  obtain ⟨h1, h2, h3, h4⟩ := soErr_ok hok
  obtain ⟨_, hl8, hall, _⟩ := laErr_ok h4
  have HBG := Lib.hid (begin_ok n sao cao sb so sc cb co cc l cs w h.sa h.sp h.ca h.cp hok)
  have HEX : Hid (∀ (q : SoM) (mv : Value) (us : List Value) (W : World), SoAt W n l q mv l.length us (soNew n l) 0 → q.C0 = w.heap.size → Below w.heap.size w W → Calls Tryz.prog 45 #[.pointer (some ⟨q.g, 0, none⟩), .slice cao cs.length cc] W (ExP n l q mv (soNew n l) cs W)) := Lib.hid (fun q mv us W hS hC hb =>
    execute_any n l q mv us (soNew n l) cao cb co cc cs W hS (soOk_new hall) hall hl8 h1.2 h2 h3 h.cx h.ca (h.below hb).cp (fun hl => by rw [hC]; exact h.cp.lt hl))
  have HH := Lib.hid (fun (W : World) (g : Nat) (ao : Option Addr) (c : Nat) (e : W.cell? ⟨g, 1, none⟩ = some (.slice ao l.length c)) => so_has n l g ao c (i : Int) W e)
  have hd : decide (0 ≤ (i : Int) ∧ (i : Int) < (l.length : Int)) = true := decide_eq_true (by omega)
  simp only [hd] at HH
  have HLM := Lib.hid ((soAll_ok hok h.cx).lm)
  have hil : (i : Int) < (l.length : Int) := by omega
  clear h hok h1 h2 h3 h4 hall hl8 hd
  go_enter Tryz.func16, Tryz.ntmps16
  go_wp2_with (first
    | (go_at_call 44; refine HBG.out.mono ?_; rintro e w1 ⟨q, mv, us, rfl, hS, hC, hb1⟩; (have HS1 := Lib.hid hS); (have HC1 := Lib.hid hC); (have HB1 := Lib.hid hb1); (have g1 := hS.cells.2.1); clear hS hC hb1)
    | (go_at_call 46; refine (HH.out _ _ _ _ g1).mono ?_; rintro e w2 ⟨rfl, m, hw2⟩; (have HBm : Hid (Below w1.heap.size w1 w2) := Lib.hid (by rw [hw2]; exact below_drewN (Below.refl _ _) _)); (have HS2 := Lib.hid (HS1.out.below HBm.out)); (have HB2 := Lib.hid (HB1.out.trans (HBm.out.mono HB1.out.size))); (have HX := Lib.hid (HEX.out q mv us w2 HS2.out HC1.out HB2.out)); clear hw2 g1)
    | (go_at_call 45; refine HX.out.mono ?_; rintro e w3 ⟨us', k', v, lst, rfl, hE⟩; (have HE := Lib.hid hE); (have g2 := hE.so.cells.2.2.1); (obtain ⟨mg, mcap, u, rfl, _, _, _, m0, _, hA, _⟩ := hE.so.model HLM.out hi); (obtain ⟨uao, ucap, rfl⟩ := hA.arg.isSlice); (have HA := Lib.hid hA); clear hE hA))
  go_ret2
  exact ⟨_, rfl, HA.out.arg, ex_below HS2.out HC1.out HB2.out HE.out⟩
end
end Go.Proofs.YtjjleghalajidaaGreat
