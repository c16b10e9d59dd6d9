/- A play of a machine, as it lies: behind a step, behind the delete, behind Finish. -/
import Derived.Test.YtglpalomhhhmhaaZ6
namespace Go.Proofs.Ytglpalomhhhmhaa
open Go.RowKit
section
variable {M : Mach} {K : MachRel M} {cs : List CallV} {a : LA} {col col' : Nat → Nat} {w w' : World} {st : St M} {ps : List Nat} {j n : Nat}

def midEv (st : St M) (v : Ev M) : Ev M :=
  match (stepQ st.s v.q st.ws st.cn st.ticks).ans with
  | none => v.more (stepQ st.s v.q st.ws st.cn st.ticks).q
  | some an => v.done (stepQ st.s v.q st.ws st.cn st.ticks).q st.ticks an (keyQ (stepQ st.s v.q st.ws st.cn st.ticks).s (stepQ st.s v.q st.ws st.cn st.ticks).q)
def St.mid (st : St M) (e : Nat) (v : Ev M) : St M :=
  { st with s := (stepQ st.s v.q st.ws st.cn st.ticks).s, ws := (stepQ st.s v.q st.ws st.cn st.ticks).ws, cn := (stepQ st.s v.q st.ws st.cn st.ticks).cn, evs := st.evs.set e (midEv st v) }
theorem step_none {i : Nat} {p : Int} {e : Nat} {v : Ev M} (h : (stepQ st.s v.q st.ws st.cn st.ticks).ans = none) : st.step i p e v = st.mid e v := by
  unfold St.step St.mid midEv; simp only [h]
theorem step_some {i : Nat} {p : Int} {e : Nat} {v : Ev M} {an : Ans} (h : (stepQ st.s v.q st.ws st.cn st.ticks).ans = some an) : st.step i p e v = { st.mid e v with fin := st.fin.set i true, cur := updF st.cur p none } := by
  unfold St.step St.mid midEv; simp only [h]

theorem LoomG.drew (h : LoomG K cs a j col w st) : LoomG K cs a j col w.drew st := by
  obtain ⟨vb, ps, hL, ho, hpl, hnd, hvb, hR, N, hM, hN⟩ := h.blk
  obtain ⟨f, N2, hline, hN2⟩ := h.line
  exact ⟨⟨vb, ps, hL, ho, hpl, hnd, hvb, ⟨fun e v hv => by
    obtain ⟨g, h1, h2, h3, h4⟩ := hR.invs e v hv
    exact ⟨g, h1, h2, h3, h4.keep rfl (fun b hb => ⟨rfl, hb⟩) (fun b t _ _ _ hc => ⟨rfl, hc⟩)⟩, hR.mem, hR.calls, hR.objs, K.obj_keep hR.obj (fun _ _ => rfl) (fun _ h => h)⟩, N, hM, hN⟩, ⟨f, N2, hline.drew, hN2⟩, h.lays.grow (Nat.le_refl _), h.tj, h.jl, h.evl, h.stl⟩

/-- behind a step -/
theorem LoomG.stepped (h : LoomG K cs a j col w st) {e g : Nat} {v : Ev M} {vb opv : Value} {N0 : Nat} {en : Ending}
    (hL : RowBlk 78 w a.L (loomVs (.slice a.aoC cs.length a.capC) a.lb a.bm (.slice (some ⟨a.go, 0, none⟩) K.objs.length a.capo) vb a.mc st.ticks st.idle))
    (ho : w.ownsRow (a.L + 1) 81 1 vb st.evs.length (ps.map ptr)) (hpl : ps.length = st.evs.length) (hnd : ∀ i k x : Nat, ps[i]? = some x → ps[k]? = some x → i = k) (hvb : ∀ k, vb.ownBlock = some k → col k = 0) (hR : RestG K cs a col w st ps) (hN : N0 ≤ st.evs.length) (hM : MapIs Try.prog 3 w a.mc N0 (.pointer none) (curV ps st.cur))
    (hv : st.evs[e]? = some v) (hg : ps[e]? = some g) (hr0 : v.resp = 0) (hst : v.steps < st.ticks) (ht0 : 0 < st.ticks) (hkey : v.key = []) (hans : v.ans = ⟨0, 0, []⟩)
    (hI : InvStep K (stepQ st.s v.q st.ws st.cn st.ticks) opv g a.bm a.bw (fun b => col b = e + 2) (fun b => col b = 1) v.i v.inv v.steps st.ticks w en w') :
    en = .returned (.bool (stepQ st.s v.q st.ws st.cn st.ticks).ans.isSome) ∧ (∃ col', LoomG K cs a j col' w' (st.mid e v)) ∧ ButS (fun k => k = g ∨ k = a.bm ∨ k = a.bw ∨ col k = e + 2 ∨ col k = 1) w w' := by
  have hl := h.lays
  have h1 := hl.lsep
  have h2 := hl.t1
  have h3 := hl.mne
  have h4 := hl.c0
  have h5 := hl.b0
  have hlt := hL.lt
  have hB := hI.but
  have hz := hB.size
  have hmcl := hM.lt
  have hel : e < st.evs.length := (List.getElem?_eq_some_iff.1 hv).1
  obtain ⟨g0, hg0, hgL, hgc, hGI⟩ := hR.invs e v hv
  rw [hg] at hg0; cases hg0
  obtain ⟨vs0, hgr⟩ : ∃ vs, RowBlk 117 w g vs := by obtain ⟨_, _, _, hr, _⟩ := hGI; exact ⟨_, hr⟩
  obtain ⟨F', FO', hF, hFO, hO', hQ', hA⟩ := hI.ex
  have hend : en = .returned (.bool (stepQ st.s v.q st.ws st.cn st.ticks).ans.isSome) := by
    cases hx : (stepQ st.s v.q st.ws st.cn st.ticks).ans with
    | none => rw [hx] at hA; exact hA.1
    | some an => rw [hx] at hA; exact hA.1
  obtain ⟨Fk, hFk1, hFk2, hFk3⟩ : ∃ Fk : Nat → Prop, (∀ b, Fk b → F' b) ∧ ((stepQ st.s v.q st.ws st.cn st.ticks).ans = none → ∀ b, F' b → Fk b) ∧ (∀ an, (stepQ st.s v.q st.ws st.cn st.ticks).ans = some an → ∀ b, ¬ Fk b) := by
    cases hx : (stepQ st.s v.q st.ws st.cn st.ticks).ans with
    | none => exact ⟨F', fun _ h => h, fun _ _ h => h, fun an h => by cases h⟩
    | some an => exact ⟨fun _ => False, fun _ h => h.elim, fun h => (by cases h), fun _ _ _ h => h⟩
  obtain ⟨col', hcol⟩ := recol_ex Fk FO' col (e + 2) (e + 2)
  have out : ∀ b, w.heap.size ≤ b → col b = 0 := fun b hb => by
    rcases Nat.eq_zero_or_pos (col b) with h | h
    · exact h
    · have := (hl.cT b (by omega)).2.1; omega
  have nF : ∀ b, b < w.heap.size → col b ≠ e + 2 → ¬ Fk b := fun b hb hc h => (hF b (hFk1 b h)).2.elim hc (fun h => by omega)
  have nO : ∀ b, b < w.heap.size → col b ≠ 1 → ¬ FO' b := fun b hb hc h => (hFO b h).2.1.elim hc (fun h => by omega)
  have same : ∀ b, b < w.heap.size → col b ≠ 1 → col b ≠ e + 2 → col' b = col b := fun b hb hc hd => (hcol b).2.2.2 (nF b hb hd) (nO b hb hc) hc hd
  have z0 : ∀ b, b < w.heap.size → col b = 0 → col' b = 0 := fun b hb hc => (same b hb (by omega) (by omega)).trans hc
  have own : ∀ k, vb.ownBlock = some k → a.L + 1 ≤ k ∧ k < w.heap.size := fun k hk => ho.lt k hk
  have blk : ∀ b, b < w.heap.size → b ≠ g → b ≠ a.bm → b ≠ a.bw → col b ≠ e + 2 → col b ≠ 1 → w'.heap[b]? = w.heap[b]? := fun b hb c1 c2 c3 c4 c5 => hB.block b hb (fun h => h.elim c1 (fun h => h.elim c2 (fun h => h.elim c3 (fun h => h.elim c4 c5))))
  have low : ∀ b, b < w.heap.size → b ≤ a.L → b ≠ a.bm → b ≠ a.bw → col b = 0 → w'.heap[b]? = w.heap[b]? := fun b hb c1 c2 c3 c4 => blk b hb (by omega) c2 c3 (by omega) (by omega)
  refine ⟨hend, ⟨col', ⟨vb, ps, hL.same (low _ hlt (by omega) (by omega) (by omega) h4.1), ?_, ?_, hnd, fun k hk => z0 k (own k hk).2 (hvb k hk), ⟨?_, hI.mem, ?_, ?_, ?_⟩, N0, hM.sameB (low _ hmcl (by omega) (by omega) (by omega) h4.2.2.2.2), ?_⟩, ?_, ?_, h.tj, h.jl, ?_, ?_⟩, hB⟩
  · show w'.ownsRow (a.L + 1) 81 1 vb (st.evs.set e _).length _
    rw [List.length_set]
    exact owns_sameB ho (fun k hk => blk k (own k hk).2 (fun e => row_owns_ne hgr ho (by decide) (by rw [← e]; exact hk)) (by have := own k hk; omega) (by have := own k hk; omega) (by have := hvb k hk; omega) (by have := hvb k hk; omega))
  · show ps.length = (st.evs.set e _).length
    rw [List.length_set]; exact hpl
  · intro f u hu
    have hu' : (st.evs.set e (midEv st v))[f]? = some u := hu
    by_cases hfe : f = e
    · subst hfe
      rw [List.getElem?_set_self hel] at hu'
      cases hu'
      refine ⟨g, hg, hgL, z0 g hgr.lt hgc, ?_⟩
      cases hx : (stepQ st.s v.q st.ws st.cn st.ticks).ans with
      | none =>
        rw [hx] at hA
        have em : midEv st v = v.more (stepQ st.s v.q st.ws st.cn st.ticks).q := by unfold midEv; rw [hx]
        rw [em]
        refine ⟨.slice none 0 0, .slice none 0 0, opv, ?_, fun _ => ⟨hans, rfl, rfl, hkey, hQ'.keep (fun _ _ => rfl) (fun b hb => (hcol b).1 (hFk2 hx b hb))⟩, ?_, ?_⟩
        · have := hA.2
          show RowBlk _ w' g (invVs v.i v.inv v.resp ((v.steps + 1 : Nat) : Int) v.ans.err v.ans.val _ _ opv)
          rw [hr0, hans]
          exact this
        · show ListAt _ _ _ _ _ v.ans.list
          rw [hans]; exact ListAt.nil _ _ _ _
        · show ListAt _ _ _ _ _ v.key
          rw [hkey]; exact ListAt.nil _ _ _ _
      | some an =>
        rw [hx] at hA
        have em : midEv st v = v.done (stepQ st.s v.q st.ws st.cn st.ticks).q st.ticks an (keyQ (stepQ st.s v.q st.ws st.cn st.ticks).s (stepQ st.s v.q st.ws st.cn st.ticks).q) := by unfold midEv; rw [hx]
        rw [em]
        obtain ⟨_, lv, kv, hrow, hlv, hkv⟩ := hA
        refine ⟨lv, kv, opv, hrow, fun h0 => ?_, hlv.keep (fun b ht hb => ⟨rfl, ?_⟩), hkv.keep (fun b ht hb => ⟨rfl, by omega, ?_⟩)⟩
        · have h0' : st.ticks = 0 := h0
          omega
        · refine ⟨hb.1.elim (fun h => hl.cL b (by omega)) (fun h => by omega), ?_⟩
          by_cases hce : col b = f + 2
          · exact (hcol b).2.2.1 (hFk3 an hx b) hb.2.2 (.inr hce)
          · have h0 := out b (hb.1.elim (fun h => absurd h hce) id)
            rw [(hcol b).2.2.2 (hFk3 an hx b) hb.2.2 (by omega) (by omega)]; exact h0
        · have h0 := out b hb.1
          rw [(hcol b).2.2.2 (hFk3 an hx b) hb.2.2 (by omega) (by omega)]; exact h0
    · rw [List.getElem?_set_ne (fun h => hfe h.symm)] at hu'
      obtain ⟨g', hg', c1, c2, c3⟩ := hR.invs f u hu'
      obtain ⟨vs1, hr⟩ : ∃ vs, RowBlk 117 w g' vs := by obtain ⟨_, _, _, hr, _⟩ := c3; exact ⟨_, hr⟩
      have hgg : g' ≠ g := fun e' => hfe (hnd f e g' hg' (by rw [e']; exact hg))
      refine ⟨g', hg', c1, z0 g' hr.lt c2, c3.keep (blk g' hr.lt hgg (by omega) (by omega) (by omega) (by omega)) (fun b hb => ?_) (fun b t ht htt hlb hcb => ?_)⟩
      · have hbs := (hl.cT b (by omega)).2.1
        exact ⟨blk b hbs (fun e => by rw [e] at hb; omega) (fun e => by rw [e] at hb; omega) (fun e => by rw [e] at hb; omega) (by omega) (by omega), by rw [same b hbs (by omega) (by omega)]; exact hb⟩
      · exact ⟨blk b ht.lt (fun e => BlkT.ne ht (BlkT.of_row hgr) (by rcases htt with rfl | rfl <;> decide) e) (by omega) (by omega) (by omega) (by omega), z0 b ht.lt hcb⟩
  · intro i x hx
    have hl0 : 0 < cs.length := by have := (List.getElem?_eq_some_iff.1 hx).1; omega
    have hg := hl.gsep hl0
    have hc := hR.calls i x hx
    have e : ∀ o, w'.cell? ⟨a.gc, o, none⟩ = w.cell? ⟨a.gc, o, none⟩ := fun o => by
      unfold World.cell?
      rw [low a.gc (World.block_lt_of_cell? w ⟨a.gc, _, none⟩ hc.1) (by omega) (by omega) (by omega) (by omega)]
    rw [e, e, e, e, e, e]
    exact hc
  · intro i v hv
    have hg := hl.osep
    have hc := hR.objs i v hv
    rw [← hc]
    unfold World.cell?
    rw [low a.go (World.block_lt_of_cell? w ⟨a.go, _, none⟩ hc) (by omega) (by omega) (by omega) (by omega)]
  · exact K.obj_keep hO' (fun _ _ => rfl) (fun b hb => (hcol b).2.1 (fun h => (hFO b hb).2.2 (hFk1 b h)) hb)
  · show N0 ≤ (st.evs.set e _).length
    rw [List.length_set]; exact hN
  · obtain ⟨f, N2, hline, hN2⟩ := h.line
    exact ⟨f, N2, hline.stays (B := a.top) (hB.below (fun k hk => hk.elim (fun e => by omega) (fun hk => hk.elim (fun e => by omega) (fun hk => hk.elim (fun e => by omega) (fun hk => (hl.cT k (by omega)).1)))) (by omega)) (Nat.le_refl _), hN2⟩
  · show LaysG cs a col' (st.evs.set e _).length w'
    rw [List.length_set]
    refine ⟨hl.haC, fun h0 => ?_, ?_, h1, ⟨h2.1, h2.2.1, h2.2.2.1, h2.2.2.2.1, h2.2.2.2.2.1, by omega⟩, h5, h3, ⟨z0 _ hlt h4.1, z0 _ (by omega) h4.2.1, z0 _ (by omega) h4.2.2.1, z0 _ (by omega) h4.2.2.2.1, z0 _ (by omega) h4.2.2.2.2⟩, fun b hb => ?_, fun b hb => ?_, fun b => ?_, hl.cl⟩
    · have hg := hl.gsep h0
      exact ⟨hg.1, hg.2.1, hg.2.2.1, hg.2.2.2.1, hg.2.2.2.2.1, hg.2.2.2.2.2.1, z0 _ (by omega) hg.2.2.2.2.2.2⟩
    · have hg := hl.osep
      exact ⟨hg.1, hg.2.1, hg.2.2.1, hg.2.2.2.1, hg.2.2.2.2.1, hg.2.2.2.2.2.1, z0 _ (by omega) hg.2.2.2.2.2.2⟩
    · by_cases hb1 : Fk b
      · have hb3 := hF b (hFk1 b hb1)
        exact ⟨hb3.2.elim (fun h => (hl.cT b (by omega)).1) (fun h => by omega), hb3.1, hb3.2.elim (fun h => (hl.cT b (by omega)).2.2) (fun h => by omega)⟩
      · by_cases hb2 : FO' b
        · have hb3 := hFO b hb2
          exact ⟨hb3.2.1.elim (fun h => (hl.cT b (by omega)).1) (fun h => by omega), hb3.1, hb3.2.1.elim (fun h => (hl.cT b (by omega)).2.2) (fun h => by omega)⟩
        · by_cases hb3 : col b = 1 ∨ col b = e + 2
          · have := (hcol b).2.2.1 hb1 hb2 hb3; omega
          · have hb4 := (hcol b).2.2.2 hb1 hb2 (fun h => hb3 (.inl h)) (fun h => hb3 (.inr h))
            have hb5 := hl.cT b (by omega)
            exact ⟨hb5.1, by omega, hb5.2.2⟩
    · by_cases hb1 : Fk b
      · have hb3 := hF b (hFk1 b hb1)
        exact hb3.2.elim (fun h => hl.cL b (by omega)) (fun h => by omega)
      · by_cases hb2 : FO' b
        · have := (hcol b).2.1 hb1 hb2; omega
        · by_cases hb3 : col b = 1 ∨ col b = e + 2
          · have := (hcol b).2.2.1 hb1 hb2 hb3; omega
          · have hb4 := (hcol b).2.2.2 hb1 hb2 (fun h => hb3 (.inl h)) (fun h => hb3 (.inr h))
            exact hl.cL b (by omega)
    · have hb0 := hl.cE b
      by_cases hb1 : Fk b
      · have := (hcol b).1 hb1; omega
      · by_cases hb2 : FO' b
        · have := (hcol b).2.1 hb1 hb2; omega
        · by_cases hb3 : col b = 1 ∨ col b = e + 2
          · have := (hcol b).2.2.1 hb1 hb2 hb3; omega
          · have hb4 := (hcol b).2.2.2 hb1 hb2 (fun h => hb3 (.inl h)) (fun h => hb3 (.inr h))
            omega
  · show (st.evs.set e _).length ≤ st.ticks
    rw [List.length_set]; exact h.evl
  · intro u hu
    obtain ⟨f, hf⟩ := List.mem_iff_getElem?.1 (show u ∈ st.evs.set e _ from hu)
    by_cases hfe : f = e
    · subst hfe
      rw [List.getElem?_set_self hel] at hf
      cases hf
      show (midEv st v).steps ≤ st.ticks
      unfold midEv
      split
      · exact hst
      · exact hst
    · rw [List.getElem?_set_ne (fun h => hfe h.symm)] at hf
      exact h.stl u (List.mem_of_getElem? hf)

/-- behind the delete -/
theorem LoomG.cut (h : LoomG K cs a j col w st) {p : Int} {vb : Value} {N0 : Nat}
    (hL : RowBlk 78 w a.L (loomVs (.slice a.aoC cs.length a.capC) a.lb a.bm (.slice (some ⟨a.go, 0, none⟩) K.objs.length a.capo) vb a.mc st.ticks st.idle))
    (ho : w.ownsRow (a.L + 1) 81 1 vb st.evs.length (ps.map ptr)) (hpl : ps.length = st.evs.length) (hnd : ∀ i k x : Nat, ps[i]? = some x → ps[k]? = some x → i = k) (hvb : ∀ k, vb.ownBlock = some k → col k = 0) (hR : RestG K cs a col w st ps) (hN : N0 ≤ st.evs.length)
    (hM : MapIs Try.prog 3 w' a.mc N0 (.pointer none) (updF (curV ps st.cur) p (.pointer none))) (hT : w.mapTurned w' a.mc) : LoomG K cs a j col w' { st with cur := updF st.cur p none } := by
  have hg := hT.grown
  have hl := h.lays
  have h1 := hl.lsep
  have h2 := hl.t1
  have hz := hg.size
  have blk : ∀ k, k < w.heap.size → k ≠ a.mc → w'.heap[k]? = w.heap[k]? := fun k hk hne => hg.block k hk (fun e => hne (by cases e; rfl))
  obtain ⟨f, N2, hline, hN2⟩ := h.line
  have hR' := hR.keep hl (w' := w') (fun k hk _ hm _ => blk k hk hm)
  refine ⟨⟨vb, ps, hL.same (blk _ hL.lt (by omega)), owns_sameB ho (fun k hk => blk k (ho.lt k hk).2 (by have := (ho.lt k hk).1; omega)), hpl, hnd, hvb, ⟨hR'.invs, hR'.mem, hR'.calls, hR'.objs, hR'.obj⟩, N0, ?_, hN⟩, ⟨f, N2, hline.stays (B := a.top) ⟨hg.os, hg.tape, hg.output, hg.size, fun k hk => blk k (by omega) (by omega)⟩ (Nat.le_refl _), hN2⟩, hl.grow hz, h.tj, h.jl, h.evl, h.stl⟩
  have e : updF (curV ps st.cur) p (.pointer none) = curV ps (updF st.cur p none) := by
    funext q
    by_cases hq : q = p
    · subst hq; rw [updF_same]; unfold curV; rw [updF_same]
    · rw [updF_other _ _ hq]
      exact curV_eq (updF_other _ _ hq).symm (fun _ _ => rfl)
  rw [← e]; exact hM

/-- behind Finish -/
theorem LoomG.finished (h : LoomG K cs a j col w st) {p : Int} {i N2 : Nat} {f' : Int → Value} (hn : nowOf (thr cs) st.fin p = some i) (hN2 : N2 ≤ cs.length + st.fin.count true)
    (hli : LineIs w' a.top a.lb a.mb (N2 + 1) f' (updF (ownL (thr cs) st.fin) p (ownL (thr cs) st.fin p).tail)) (hB : But a.mb a.mb w w') : LoomG K cs a j col w' { st with fin := st.fin.set i true } := by
  have hl := h.lays
  have h1 := hl.lsep
  have h2 := hl.t1
  have hz := hB.size
  have blk : ∀ k, k < w.heap.size → k ≠ a.mb → w'.heap[k]? = w.heap[k]? := fun k hk hne => hB.block k hk hne hne
  obtain ⟨vb, ps, hL, ho, hpl, hnd, hvb, hR, N, hM, hN⟩ := h.blk
  have hR' := hR.keep hl (w' := w') (fun k hk _ _ hm => blk k hk hm)
  refine ⟨⟨vb, ps, hL.same (blk _ hL.lt (by omega)), owns_sameB ho (fun k hk => blk k (ho.lt k hk).2 (by have := (ho.lt k hk).1; omega)), hpl, hnd, hvb, ⟨hR'.invs, hR'.mem, hR'.calls, hR'.objs, hR'.obj⟩, N, hM.sameB (blk _ hM.lt (by omega)), hN⟩, ⟨f', N2 + 1, ?_, ?_⟩, hl.grow hz, h.tj, h.jl, h.evl, h.stl⟩
  · show LineIs w' a.top a.lb a.mb (N2 + 1) f' (ownL (thr cs) (st.fin.set i true))
    rw [own_set_fun hn]; exact hli
  · show N2 + 1 ≤ cs.length + (st.fin.set i true).count true
    rw [count_set_true (now_open hn).2.2]; omega
end
end Go.Proofs.Ytglpalomhhhmhaa
