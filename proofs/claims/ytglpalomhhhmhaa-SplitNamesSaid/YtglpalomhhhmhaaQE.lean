/- Rows hold of every machine's play, plainly. -/
import Derived.Test.YtglpalomhhhmhaaQC0
import Derived.Test.YtglpalomhhhmhaaZF0
namespace Go.Proofs.Ytglpalomhhhmhaa
open Go.RowKit
set_option linter.unusedVariables false
section
variable {M : Mach}
def stepsM (evs : List (Ev M)) : Nat := (evs.map Ev.steps).sum
theorem stepsM_snoc (l : List (Ev M)) (v : Ev M) : stepsM (l ++ [v]) = stepsM l + v.steps := by unfold stepsM; simp
theorem stepsM_set : ∀ (l : List (Ev M)) (e : Nat) (v u : Ev M), l[e]? = some v → u.steps = v.steps + 1 → stepsM (l.set e u) = stepsM l + 1
  | [], e, v, u, h, _ => by simp at h
  | x :: l, 0, v, u, h, hu => by
    simp at h; subst h
    show (u.steps :: l.map Ev.steps).sum = (x.steps :: l.map Ev.steps).sum + 1
    simp only [List.sum_cons]; omega
  | x :: l, e + 1, v, u, h, hu => by
    have ih := stepsM_set l e v u (by simpa using h) hu
    unfold stepsM at ih ⊢
    show (x.steps :: (l.set e u).map Ev.steps).sum = (x.steps :: l.map Ev.steps).sum + 1
    simp only [List.sum_cons]; omega

structure RowI (cs : List CallV) (st : St M) : Prop where
  call : ∀ v ∈ st.evs, v.i < cs.length ∧ 1 ≤ v.inv ∧ v.inv ≤ st.ticks ∧ 1 ≤ v.steps ∧ (v.resp = 0 → v.steps + v.inv ≤ st.ticks + 1) ∧ (¬ v.resp = 0 → v.inv ≤ v.resp ∧ v.resp ≤ st.ticks ∧ v.steps + v.inv ≤ v.resp + 1)
  grow : ∀ (i j : Nat) (u v : Ev M), i < j → st.evs[i]? = some u → st.evs[j]? = some v → u.inv < v.inv
  same : ∀ (i j : Nat) (u v : Ev M), i < j → st.evs[i]? = some u → st.evs[j]? = some v → (thr cs)[u.i]? = (thr cs)[v.i]? → ¬ u.resp = 0 ∧ u.resp < v.inv ∧ u.i < v.i
  past : ∀ v ∈ st.evs, ∀ k, k < v.i → (thr cs)[k]? = (thr cs)[v.i]? → st.fin[k]? = some true
  fin : ∀ v ∈ st.evs, ¬ v.resp = 0 → st.fin[v.i]? = some true
  pend : ∀ (e : Nat) (v : Ev M) (p : Int), st.evs[e]? = some v → v.resp = 0 → (thr cs)[v.i]? = some p → st.cur p = some e
  sum : stepsM st.evs = st.ticks

theorem set_get {α : Type} {l : List α} {e k : Nat} {u v : α} (h : (l.set e u)[k]? = some v) (he : e < l.length) : (k = e ∧ v = u) ∨ (k ≠ e ∧ l[k]? = some v) := by
  by_cases hk : k = e
  · subst hk
    rw [List.getElem?_set_self he] at h
    exact .inl ⟨rfl, (Option.some.inj h).symm⟩
  · rw [List.getElem?_set_ne (fun h => hk h.symm)] at h
    exact .inr ⟨hk, h⟩
theorem snoc_get {α : Type} {l : List α} {k : Nat} {u v : α} (h : (l ++ [u])[k]? = some v) : (k = l.length ∧ v = u) ∨ (k < l.length ∧ l[k]? = some v) := by
  by_cases hk : k < l.length
  · rw [List.getElem?_append_left hk] at h; exact .inr ⟨hk, h⟩
  · rw [List.getElem?_append_right (by omega)] at h
    have h0 : k - l.length = 0 := by have := (List.getElem?_eq_some_iff.1 h).1; simp at this; omega
    rw [h0] at h; cases h
    exact .inl ⟨by omega, rfl⟩
theorem midEv_facts (st : St M) (v : Ev M) : (midEv st v).i = v.i ∧ (midEv st v).inv = v.inv ∧ (midEv st v).steps = v.steps + 1 ∧ ((stepQ st.s v.q st.ws st.cn st.ticks).ans = none → (midEv st v).resp = v.resp) ∧ (∀ an, (stepQ st.s v.q st.ws st.cn st.ticks).ans = some an → (midEv st v).resp = st.ticks) := by
  unfold midEv
  split
  · next h => exact ⟨rfl, rfl, rfl, fun _ => rfl, fun an h' => (by rw [h] at h'; cases h')⟩
  · next a h => exact ⟨rfl, rfl, rfl, fun h' => (by rw [h] at h'; cases h'), fun _ _ => rfl⟩

/-- one turn, told by what it does to the events -/
theorem RowI.turned {cs : List CallV} {st : St M} (h : RowI cs st) (hw : Wf cs st) {p : Int} {i : Nat} {x : CallV} (hn : nowOf (thr cs) st.fin p = some i) (hx : cs[i]? = some x) : RowI cs (pickM cs st p) := by
  obtain ⟨e, v, h1, h2, h3, h4, h5⟩ := pickM_cases hw hn hx
  rw [h5]
  have hop := now_open hn
  have hev : ((st.turn i x p).step i p e v).evs = (st.turn i x p).evs.set e (midEv (st.turn i x p) v) := step_evs
  have htk : ((st.turn i x p).step i p e v).ticks = st.ticks + 1 := step_ticks.1.trans turn_ticks
  obtain ⟨m1, m2, m3, m4, m5⟩ := midEv_facts (st.turn i x p) v
  have mr : (midEv (st.turn i x p) v).resp = 0 ∧ ((st.turn i x p).step i p e v).fin = st.fin ∧ ((st.turn i x p).step i p e v).cur = (st.turn i x p).cur ∨
      (midEv (st.turn i x p) v).resp = st.ticks + 1 ∧ ((st.turn i x p).step i p e v).fin = st.fin.set i true ∧ ((st.turn i x p).step i p e v).cur = updF (st.turn i x p).cur p none := by
    cases ha : (stepQ (st.turn i x p).s v.q (st.turn i x p).ws (st.turn i x p).cn (st.turn i x p).ticks).ans with
    | none =>
      left
      refine ⟨(m4 ha).trans h3, ?_, ?_⟩
      · rw [step_none ha]; exact turn_fin
      · rw [step_none ha]; rfl
    | some an =>
      right
      refine ⟨(m5 an ha).trans turn_ticks, ?_, ?_⟩
      · rw [step_some ha]; show (st.turn i x p).fin.set i true = _; rw [turn_fin]
      · rw [step_some ha]
  have hfg : ∀ k : Nat, st.fin[k]? = some true → ((st.turn i x p).step i p e v).fin[k]? = some true := fun k hk => by
    rcases mr with ⟨_, hf, _⟩ | ⟨_, hf, _⟩
    · rw [hf]; exact hk
    · rw [hf, List.getElem?_set]
      split
      · next hik => subst hik; rw [if_pos (List.getElem?_eq_some_iff.1 hk).1]
      · exact hk
  have hfi : ¬ (midEv (st.turn i x p) v).resp = 0 → ((st.turn i x p).step i p e v).fin[i]? = some true := fun hr => by
    rcases mr with ⟨hz, _⟩ | ⟨_, hf, _⟩
    · exact absurd hz hr
    · rw [hf, List.getElem?_set_self (List.getElem?_eq_some_iff.1 hop.2.2).1]
  have hpast : ∀ k, k < i → (thr cs)[k]? = some p → st.fin[k]? = some true := fun k hk hp => by
    have hkl : k < st.fin.length := by have := (List.getElem?_eq_some_iff.1 hop.2.2).1; omega
    cases hf : st.fin[k]? with
    | none => rw [List.getElem?_eq_none_iff] at hf; omega
    | some b =>
      cases b with
      | true => rfl
      | false =>
        exfalso
        have hs := own_sorted (thr cs) st.fin p
        have hc := now_cons hn
        have hm : k ∈ ownL (thr cs) st.fin p := own_mem.2 ⟨by have := (List.getElem?_eq_some_iff.1 hp).1; exact this, openB_iff.2 ⟨hp, hf⟩⟩
        rw [hc] at hm hs
        rcases List.mem_cons.1 hm with he | he
        · omega
        · have := (List.pairwise_cons.1 hs).1 k he; omega
  cases hc : st.cur p with
  | some e0 =>
    have htu : st.turn i x p = st.tick := by unfold St.turn; rw [hc]
    have hte : (st.turn i x p).evs = st.evs := by rw [htu]; rfl
    have htc : (st.turn i x p).cur = st.cur := by rw [htu]; rfl
    rw [hte] at hev h2
    rw [htc] at mr h1
    have hel := (List.getElem?_eq_some_iff.1 h2).1
    have hvm := List.mem_of_getElem? h2
    have hv := h.call v hvm
    generalize midEv (st.turn i x p) v = u at *
    refine ⟨fun y hy => ?_, fun a b y z hab hy hz => ?_, fun a b y z hab hy hz ht => ?_, fun y hy k hk ht => ?_, fun y hy hr => ?_, fun f y q hy hr hq => ?_, ?_⟩
    · rw [htk]
      rw [hev] at hy
      rcases set_mem hy hel with rfl | hy
      · refine ⟨by omega, by omega, by omega, by omega, fun _ => by have := hv.2.2.2.2.1 h3; omega, fun hr => ?_⟩
        rcases mr with ⟨hz, _⟩ | ⟨hz, _⟩
        · exact absurd hz hr
        · have := hv.2.2.2.2.1 h3; omega
      · have := h.call y hy
        exact ⟨this.1, this.2.1, by omega, this.2.2.2.1, fun hr => by have := this.2.2.2.2.1 hr; omega, fun hr => by have := this.2.2.2.2.2 hr; omega⟩
    · rw [hev] at hy hz
      rcases set_get hy hel with ⟨rfl, rfl⟩ | ⟨_, hy'⟩ <;> rcases set_get hz hel with ⟨rfl, rfl⟩ | ⟨_, hz'⟩
      · omega
      · have := h.grow _ _ _ _ hab h2 hz'; omega
      · have := h.grow _ _ _ _ hab hy' h2; omega
      · exact h.grow _ _ _ _ hab hy' hz'
    · rw [hev] at hy hz
      rcases set_get hy hel with ⟨rfl, rfl⟩ | ⟨_, hy'⟩ <;> rcases set_get hz hel with ⟨rfl, rfl⟩ | ⟨_, hz'⟩
      · omega
      · rw [m1] at ht
        have := (h.same _ _ _ _ hab h2 hz' ht).1
        exact absurd h3 this
      · rw [m1] at ht
        have := h.same _ _ _ _ hab hy' h2 ht
        exact ⟨this.1, by omega, by omega⟩
      · exact h.same _ _ _ _ hab hy' hz' ht
    · rw [hev] at hy
      refine hfg k ?_
      rcases set_mem hy hel with rfl | hy
      · rw [m1] at hk ht; exact h.past v hvm k hk ht
      · exact h.past y hy k hk ht
    · rw [hev] at hy
      rcases set_mem hy hel with rfl | hy
      · rw [m1, h4]; exact hfi hr
      · exact hfg _ (h.fin y hy hr)
    · rw [hev] at hy
      rcases set_get hy hel with ⟨rfl, rfl⟩ | ⟨hfe, hy⟩
      · rcases mr with ⟨_, _, hcu⟩ | ⟨hz, _⟩
        · rw [m1, h4, hop.2.1] at hq
          cases hq
          rw [hcu]; exact h1
        · omega
      · have hcq := h.pend f y q hy hr hq
        have hqp : q ≠ p := fun e' => by subst e'; rw [h1] at hcq; cases hcq; exact hfe rfl
        rcases mr with ⟨_, _, hcu⟩ | ⟨_, _, hcu⟩
        · rw [hcu]; exact hcq
        · rw [hcu, updF_other _ _ hqp]; exact hcq
    · rw [hev, htk, stepsM_set _ _ _ _ h2 m3, h.sum]
  | none =>
    have htu : st.turn i x p = st.tick.begin i x p := by unfold St.turn; rw [hc]
    have hcur : (st.turn i x p).cur p = some st.evs.length := by rw [htu]; exact updF_same _ _ _
    have hee : e = st.evs.length := by rw [h1] at hcur; exact Option.some.inj hcur
    have hte : (st.turn i x p).evs = st.evs ++ [⟨i, st.ticks + 1, 0, 0, ⟨0, 0, []⟩, [], (invQ st.s x).2⟩] := by rw [htu]; rfl
    have htc : ∀ q, q ≠ p → (st.turn i x p).cur q = st.cur q := fun q hq => by rw [htu]; exact updF_other _ _ hq
    have hvi : v.inv = st.ticks + 1 ∧ v.steps = 0 := by
      rw [hte, hee, List.getElem?_append_right (Nat.le_refl _), Nat.sub_self] at h2
      cases h2; exact ⟨rfl, rfl⟩
    have hev2 : ((st.turn i x p).step i p e v).evs = st.evs ++ [midEv (st.turn i x p) v] := by
      rw [hev, hte, hee]
      rw [List.set_append_right _ _ (Nat.le_refl _), Nat.sub_self]; rfl
    have hno : ∀ y ∈ st.evs, (thr cs)[y.i]? = some p → ¬ y.resp = 0 := fun y hy hq hr => by
      obtain ⟨f, hf⟩ := List.mem_iff_getElem?.1 hy
      have := h.pend f y p hf hr hq
      rw [hc] at this; cases this
    generalize midEv (st.turn i x p) v = u at *
    refine ⟨fun y hy => ?_, fun a b y z hab hy hz => ?_, fun a b y z hab hy hz ht => ?_, fun y hy k hk ht => ?_, fun y hy hr => ?_, fun f y q hy hr hq => ?_, ?_⟩
    · rw [htk]
      rw [hev2] at hy
      rcases List.mem_append.1 hy with hy | hy
      · have := h.call y hy
        exact ⟨this.1, this.2.1, by omega, this.2.2.2.1, fun hr => by have := this.2.2.2.2.1 hr; omega, fun hr => by have := this.2.2.2.2.2 hr; omega⟩
      · rw [List.mem_singleton] at hy; subst hy
        have hil := hop.1
        rw [thr_len] at hil
        refine ⟨by omega, by omega, by omega, by omega, fun _ => by omega, fun hr => ?_⟩
        rcases mr with ⟨hz, _⟩ | ⟨hz, _⟩
        · exact absurd hz hr
        · omega
    · rw [hev2] at hy hz
      rcases snoc_get hy with ⟨rfl, rfl⟩ | ⟨_, hy'⟩ <;> rcases snoc_get hz with ⟨rfl, rfl⟩ | ⟨_, hz'⟩
      · omega
      · omega
      · have := (h.call y (List.mem_of_getElem? hy')).2.2.1; omega
      · exact h.grow _ _ _ _ hab hy' hz'
    · rw [hev2] at hy hz
      rcases snoc_get hy with ⟨rfl, rfl⟩ | ⟨_, hy'⟩ <;> rcases snoc_get hz with ⟨rfl, rfl⟩ | ⟨_, hz'⟩
      · omega
      · omega
      · rw [m1, h4, hop.2.1] at ht
        have hym := List.mem_of_getElem? hy'
        have hyr := hno y hym ht
        have hyc := (h.call y hym).2.2.2.2.2 hyr
        refine ⟨hyr, by omega, ?_⟩
        have hyf := h.fin y hym hyr
        have hne : y.i ≠ i := fun e' => by rw [e', hop.2.2] at hyf; cases hyf
        rcases Nat.lt_or_ge y.i i with hlt | hge
        · omega
        · have := h.past y hym i (by omega) (by rw [ht]; exact hop.2.1)
          rw [hop.2.2] at this; cases this
      · exact h.same _ _ _ _ hab hy' hz' ht
    · rw [hev2] at hy
      refine hfg k ?_
      rcases List.mem_append.1 hy with hy | hy
      · exact h.past y hy k hk ht
      · rw [List.mem_singleton] at hy; subst hy
        rw [m1, h4] at hk ht
        exact hpast k hk (by rw [ht]; exact hop.2.1)
    · rw [hev2] at hy
      rcases List.mem_append.1 hy with hy | hy
      · exact hfg _ (h.fin y hy hr)
      · rw [List.mem_singleton] at hy; subst hy
        rw [m1, h4]; exact hfi hr
    · rw [hev2] at hy
      rcases snoc_get hy with ⟨rfl, rfl⟩ | ⟨hfl, hy⟩
      · rcases mr with ⟨_, _, hcu⟩ | ⟨hz, _⟩
        · rw [m1, h4, hop.2.1] at hq
          cases hq
          rw [hcu]; exact hcur
        · omega
      · have hcq := h.pend f y q hy hr hq
        have hqp : q ≠ p := fun e' => by subst e'; rw [hc] at hcq; cases hcq
        rcases mr with ⟨_, _, hcu⟩ | ⟨_, _, hcu⟩
        · rw [hcu, htc q hqp]; exact hcq
        · rw [hcu, updF_other _ _ hqp, htc q hqp]; exact hcq
    · rw [hev2, htk, stepsM_snoc, h.sum]; omega
theorem rowI_end (cs : List CallV) (ws : List Nat) (s : M.S) (picks : List Int) : RowI cs (endM (M := M) cs ws s picks) :=
  (foldM (R := fun st => Wf cs st ∧ RowI cs st) (fun st p h => ⟨h.1.pick p, by
    cases hn : nowOf (thr cs) st.fin p with
    | none => rw [pickM_idle hn]; exact ⟨h.2.call, h.2.grow, h.2.same, h.2.past, h.2.fin, h.2.pend, h.2.sum⟩
    | some i =>
      have hil := (now_open hn).1
      rw [thr_len] at hil
      exact h.2.turned h.1 hn (List.getElem?_eq_getElem hil)⟩) picks _
    ⟨Wf.first cs ws s, ⟨fun v hv => by simp [stM] at hv, fun i j u v _ hu => by simp [stM] at hu, fun i j u v _ hu => by simp [stM] at hu, fun v hv => by simp [stM] at hv, fun v hv => by simp [stM] at hv, fun e v p hv => by simp [stM] at hv, rfl⟩⟩).2
end
end Go.Proofs.Ytglpalomhhhmhaa
