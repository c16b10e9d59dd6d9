/- What a cons's play keeps, plainly. -/
import Derived.Test.YtcedfcdhdgmelaaP7
namespace Go.Proofs.Ytcedfcdhdgmelaa
open Go.RowKit
section
variable {M : Mach}
theorem turn_evs {st : St M} {i : Nat} {x : CallV} {p : Int} {v : Ev M} (h : v ∈ (st.turn i x p).evs) : v ∈ st.evs ∨ (v = ⟨i, st.ticks + 1, 0, 0, ⟨0, 0, []⟩, [], (invQ st.s x).2⟩) := by
  unfold St.turn at h
  split at h
  · exact .inl h
  · rcases List.mem_append.1 (show v ∈ st.evs ++ [_] from h) with h | h
    · exact .inl h
    · rw [List.mem_singleton] at h; exact .inr h
theorem turn_ws {st : St M} {i : Nat} {x : CallV} {p : Int} : (st.turn i x p).ws = st.ws := by unfold St.turn; split <;> rfl
theorem step_evs {st : St M} {i : Nat} {p : Int} {e : Nat} {v : Ev M} : (st.step i p e v).evs = st.evs.set e (midEv st v) := by
  unfold St.step midEv
  split
  · next h => rw [h]
  · next a h => rw [h]
theorem step_ws {st : St M} {i : Nat} {p : Int} {e : Nat} {v : Ev M} : (st.step i p e v).ws = (stepQ st.s v.q st.ws st.cn st.ticks).ws := by unfold St.step; split <;> rfl
theorem set_mem {α : Type} {l : List α} {e : Nat} {y u : α} (h : u ∈ l.set e y) (hl : e < l.length) : u = y ∨ u ∈ l := by
  obtain ⟨f, hf⟩ := List.mem_iff_getElem?.1 h
  by_cases hfe : f = e
  · subst hfe
    rw [List.getElem?_set_self hl] at hf
    exact .inl (Option.some.inj hf).symm
  · rw [List.getElem?_set_ne (fun h => hfe h.symm)] at hf
    exact .inr (List.mem_of_getElem? hf)
/-- what an event becomes in a step -/
theorem midEv_more {st : St M} {v : Ev M} (h : (stepQ st.s v.q st.ws st.cn st.ticks).ans = none) : midEv st v = v.more (stepQ st.s v.q st.ws st.cn st.ticks).q := by unfold midEv; rw [h]
theorem midEv_done {st : St M} {v : Ev M} {an : Ans} (h : (stepQ st.s v.q st.ws st.cn st.ticks).ans = some an) : midEv st v = v.done (stepQ st.s v.q st.ws st.cn st.ticks).q st.ticks an (keyQ (stepQ st.s v.q st.ws st.cn st.ticks).s (stepQ st.s v.q st.ws st.cn st.ticks).q) := by unfold midEv; rw [h]
end

theorem consNext_rd (s : consM.S) (q : ConsQ) (r t : Nat) (h : q.rd = true) : consM.next s q r t = (s, q, some (if r = 0 then ⟨7, 0, []⟩ else ⟨0, r - 1, []⟩)) := by
  have e : consM.next s q r t = (if q.rd = true then (s, q, some (if r = 0 then ⟨7, 0, []⟩ else ⟨0, r - 1, []⟩)) else (s, (⟨true, q.fresh, t⟩ : ConsQ), none)) := rfl
  rw [e, if_pos h]
theorem consNext_sw (s : consM.S) (q : ConsQ) (r t : Nat) (h : q.rd = false) : consM.next s q r t = (s, (⟨true, q.fresh, t⟩ : ConsQ), none) := by
  have e : consM.next s q r t = (if q.rd = true then (s, q, some (if r = 0 then ⟨7, 0, []⟩ else ⟨0, r - 1, []⟩)) else (s, (⟨true, q.fresh, t⟩ : ConsQ), none)) := rfl
  rw [e, if_neg (by rw [h]; decide)]
/-- what is known of an event of a cons -/
structure ConsE (cs : List CallV) (W : Nat) (v : Ev consM) : Prop where
  call : ∃ x, cs[v.i]? = some x ∧ (v.resp = 0 → ∀ q, v.q = .inl q → q.rd = false → x.o = 0 ∧ x.k = 0 ∧ x.a + 1 = q.fresh)
  pend : v.resp = 0 → ∀ q, v.q = .inl q → (q.rd = false → v.steps = 0) ∧ (q.rd = true → v.steps ≤ 1)
  pendr : v.resp = 0 → ∀ e, v.q = .inr e → v.steps = 0 ∧ e ≠ 0
  steps : v.steps ≤ 2
  good : ¬ v.resp = 0 → v.ans.err = 0 → W ≠ 0 ∧ v.ans.val + 1 = W
structure ConsP (cs : List CallV) (st : St consM) : Prop where
  i : ConsI st
  ev : ∀ v ∈ st.evs, ConsE cs (st.ws.getD 0 0) v
  prop : st.ws.getD 0 0 ≠ 0 → ∃ (k : Nat) (v : Ev consM) (x : CallV), st.evs[k]? = some v ∧ cs[v.i]? = some x ∧ x.o = 0 ∧ x.k = 0 ∧ x.a + 1 = st.ws.getD 0 0

theorem consInvQ (s : consM.S) (x : CallV) : (∀ q, (invQ (M := consM) s x).2 = .inl q → q.rd = false → x.o = 0 ∧ x.k = 0 ∧ x.a + 1 = q.fresh) ∧ (∀ e, (invQ (M := consM) s x).2 = .inr e → e ≠ 0) := by
  have hm : (consM.m : Int) = 1 := rfl
  unfold invQ
  by_cases h : x.o < 0 ∨ (consM.m : Int) ≤ x.o
  · rw [if_pos h]
    exact ⟨fun q hq => (by cases hq), fun e he => (by cases he; decide)⟩
  · rw [if_neg h, cons_inv_eq]
    by_cases hk : x.k = 0
    · rw [if_pos hk]
      by_cases ha : 4294967296 ≤ x.a
      · rw [if_pos ha]
        exact ⟨fun q hq => (by cases hq), fun e he => (by cases he; decide)⟩
      · rw [if_neg ha]
        exact ⟨fun q hq _ => (by cases hq; exact ⟨by omega, hk, rfl⟩), fun e he => (by cases he)⟩
    · rw [if_neg hk]
      by_cases hk1 : x.k = 1
      · rw [if_pos hk1]
        exact ⟨fun q hq hr => (by cases hq; cases hr), fun e he => (by cases he)⟩
      · rw [if_neg hk1]
        exact ⟨fun q hq => (by cases hq), fun e he => (by cases he; decide)⟩
theorem ConsP.turn {cs : List CallV} {st : St consM} (h : ConsP cs st) {i : Nat} {x : CallV} {p : Int} (hx : cs[i]? = some x) : ConsP cs (st.turn i x p) := by
  refine ⟨consI_turn st i x p h.i, fun v hv => ?_, fun hw => ?_⟩
  · rw [turn_ws]
    rcases turn_evs hv with hv | rfl
    · exact h.ev v hv
    · have hi := consInvQ st.s x
      exact ⟨⟨x, hx, fun _ q hq hr => hi.1 q hq hr⟩, fun _ q hq => ⟨fun _ => rfl, fun _ => Nat.zero_le _⟩, fun _ e he => ⟨rfl, hi.2 e he⟩, Nat.zero_le _, fun hr => absurd rfl hr⟩
  · rw [turn_ws] at hw ⊢
    obtain ⟨k, v, y, h1, h2⟩ := h.prop hw
    refine ⟨k, v, y, ?_, h2⟩
    unfold St.turn
    split
    · exact h1
    · show (st.evs ++ [_])[k]? = some v
      rw [List.getElem?_append_left (List.getElem?_eq_some_iff.1 h1).1]; exact h1
theorem ConsE.more {cs : List CallV} {W W' : Nat} {v : Ev consM} (h : ConsE cs W v) (hw : W ≠ 0 → W' = W) : ConsE cs W' v :=
  ⟨h.call, h.pend, h.pendr, h.steps, fun hr he => by
    have := h.good hr he
    rw [hw this.1]; exact this⟩
theorem ConsP.step {cs : List CallV} {st : St consM} (h : ConsP cs st) {i : Nat} {p : Int} {e : Nat} {v : Ev consM} (hv : st.evs[e]? = some v) (hr0 : v.resp = 0) (ht : 0 < st.ticks) : ConsP cs (st.step i p e v) := by
  have hvm := List.mem_of_getElem? hv
  have hE := h.ev v hvm
  have hel := (List.getElem?_eq_some_iff.1 hv).1
  have hI' := consI_step st i p e v h.i hv
  obtain ⟨x, hx, hcall⟩ := hE.call
  cases hq : v.q with
  | inr er =>
    have hans : (stepQ st.s v.q st.ws st.cn st.ticks).ans = some ⟨er, 0, []⟩ := by rw [hq]; rfl
    have hws : (st.step i p e v).ws = st.ws := by rw [step_ws, hq]; rfl
    have hpr := hE.pendr hr0 er hq
    have hme : midEv st v = v.done (.inr er) st.ticks ⟨er, 0, []⟩ [] := by rw [midEv_done hans, hq]; rfl
    refine ⟨hI', fun u hu => ?_, fun hw => ?_⟩
    · rw [hws]
      rw [step_evs] at hu
      rcases set_mem hu hel with rfl | hu
      · rw [hme]
        refine ⟨⟨x, hx, fun h0 => ?_⟩, fun h0 => ?_, fun h0 => ?_, ?_, fun _ he => ?_⟩
        · have h1 : st.ticks = 0 := h0; omega
        · have h1 : st.ticks = 0 := h0; omega
        · have h1 : st.ticks = 0 := h0; omega
        · show v.steps + 1 ≤ 2; omega
        · exact absurd (show er = 0 from he) hpr.2
      · exact h.ev u hu
    · rw [hws] at hw ⊢
      obtain ⟨k, u, y, h1, h2, h3⟩ := h.prop hw
      rw [step_evs]
      by_cases hke : k = e
      · subst hke
        rw [hv] at h1; cases h1
        exact ⟨k, midEv st v, y, by rw [List.getElem?_set_self hel], by rw [hme]; exact h2, h3⟩
      · exact ⟨k, u, y, by rw [List.getElem?_set_ne (fun h => hke h.symm)]; exact h1, h2, h3⟩
  | inl q =>
    have hpe := hE.pend hr0 q hq
    have hl1 := h.i.1
    cases hrd : q.rd with
    | true =>
      have e1 : consM.acc st.s q = .rd 0 := by show (if q.rd then Acc.rd 0 else .sw 0 0 q.fresh) = _; rw [if_pos hrd]
      have hws : (st.step i p e v).ws = st.ws := by rw [step_ws, hq]; show ((consM.acc st.s q).run st.ws st.cn).2.1 = _; rw [e1]; rfl
      have hans : (stepQ st.s v.q st.ws st.cn st.ticks).ans = some (if st.ws.getD 0 0 = 0 then ⟨7, 0, []⟩ else ⟨0, st.ws.getD 0 0 - 1, []⟩) := by
        rw [hq]
        show (consM.next st.s q ((consM.acc st.s q).run st.ws st.cn).1 st.ticks).2.2 = _
        rw [e1, consNext_rd _ _ _ _ hrd]
        rfl
      have hme := midEv_done hans
      refine ⟨hI', fun u hu => ?_, fun hw => ?_⟩
      · rw [hws]
        rw [step_evs] at hu
        rcases set_mem hu hel with rfl | hu
        · rw [hme]
          refine ⟨⟨x, hx, fun h0 => ?_⟩, fun h0 => ?_, fun h0 => ?_, ?_, fun _ he => ?_⟩
          · have h1 : st.ticks = 0 := h0; omega
          · have h1 : st.ticks = 0 := h0; omega
          · have h1 : st.ticks = 0 := h0; omega
          · have := hpe.2 hrd; show v.steps + 1 ≤ 2; omega
          · have he' : (if st.ws.getD 0 0 = 0 then (⟨7, 0, []⟩ : Ans) else ⟨0, st.ws.getD 0 0 - 1, []⟩).err = 0 := he
            show _ ∧ (if st.ws.getD 0 0 = 0 then (⟨7, 0, []⟩ : Ans) else ⟨0, st.ws.getD 0 0 - 1, []⟩).val + 1 = _
            by_cases hz : st.ws.getD 0 0 = 0
            · rw [if_pos hz] at he'; cases he'
            · rw [if_neg hz]; exact ⟨hz, by show st.ws.getD 0 0 - 1 + 1 = _; omega⟩
        · exact h.ev u hu
      · rw [hws] at hw ⊢
        obtain ⟨k, u, y, h1, h2, h3⟩ := h.prop hw
        rw [step_evs]
        by_cases hke : k = e
        · subst hke
          rw [hv] at h1; cases h1
          exact ⟨k, midEv st v, y, by rw [List.getElem?_set_self hel], by rw [hme]; exact h2, h3⟩
        · exact ⟨k, u, y, by rw [List.getElem?_set_ne (fun h => hke h.symm)]; exact h1, h2, h3⟩
    | false =>
      have hrf : ¬ q.rd = true := by rw [hrd]; decide
      have e1 : consM.acc st.s q = .sw 0 0 q.fresh := by show (if q.rd then Acc.rd 0 else .sw 0 0 q.fresh) = _; rw [if_neg hrf]
      have hcx := hcall hr0 q hq hrd
      have hans : (stepQ st.s v.q st.ws st.cn st.ticks).ans = none := by
        rw [hq]
        show (consM.next st.s q ((consM.acc st.s q).run st.ws st.cn).1 st.ticks).2.2 = none
        rw [consNext_sw _ _ _ _ hrd]
      have hq' : (stepQ st.s v.q st.ws st.cn st.ticks).q = .inl ⟨true, q.fresh, st.ticks⟩ := by
        rw [hq]
        show Sum.inl (consM.next st.s q ((consM.acc st.s q).run st.ws st.cn).1 st.ticks).2.1 = _
        rw [consNext_sw _ _ _ _ hrd]
      have hme : midEv st v = v.more (.inl ⟨true, q.fresh, st.ticks⟩) := by rw [midEv_more hans, hq']
      have hws : (st.step i p e v).ws.getD 0 0 = if st.ws.getD 0 0 = 0 then q.fresh else st.ws.getD 0 0 := by
        rw [step_ws, hq]
        show ((consM.acc st.s q).run st.ws st.cn).2.1.getD 0 0 = _
        rw [e1]
        simp only [Acc.run]
        by_cases hz : st.ws.getD 0 0 = 0
        · rw [if_pos hz, if_pos hz]
          show (st.ws.set 0 q.fresh).getD 0 0 = _
          rw [List.getD_eq_getElem?_getD, List.getElem?_set_self (by omega)]; rfl
        · rw [if_neg hz, if_neg hz]
      have hkeep : st.ws.getD 0 0 ≠ 0 → (st.step i p e v).ws.getD 0 0 = st.ws.getD 0 0 := fun hz => by rw [hws, if_neg hz]
      refine ⟨hI', fun u hu => ?_, fun hw => ?_⟩
      · rw [step_evs] at hu
        rcases set_mem hu hel with rfl | hu
        · rw [hme]
          refine ⟨⟨x, hx, fun _ q2 hq2 hr2 => ?_⟩, fun _ q2 hq2 => ?_, fun _ e2 he2 => ?_, ?_, fun hr _ => absurd hr0 hr⟩
          · have : (Sum.inl (⟨true, q.fresh, st.ticks⟩ : ConsQ) : ConsQ ⊕ Nat) = .inl q2 := hq2
            cases this; cases hr2
          · have : (Sum.inl (⟨true, q.fresh, st.ticks⟩ : ConsQ) : ConsQ ⊕ Nat) = .inl q2 := hq2
            cases this
            exact ⟨fun h => (by cases h), fun _ => by have := hpe.1 hrd; show v.steps + 1 ≤ 1; omega⟩
          · have : (Sum.inl (⟨true, q.fresh, st.ticks⟩ : ConsQ) : ConsQ ⊕ Nat) = .inr e2 := he2
            cases this
          · have := hpe.1 hrd; show v.steps + 1 ≤ 2; omega
        · exact (h.ev u hu).more hkeep
      · by_cases hz : st.ws.getD 0 0 = 0
        · rw [hws, if_pos hz]
          exact ⟨e, midEv st v, x, by rw [step_evs, List.getElem?_set_self hel], by rw [hme]; exact hx, hcx⟩
        · rw [hkeep hz] at hw ⊢
          obtain ⟨k, u, y, h1, h2, h3⟩ := h.prop hw
          rw [step_evs]
          by_cases hke : k = e
          · subst hke
            rw [hv] at h1; cases h1
            exact ⟨k, midEv st v, y, by rw [List.getElem?_set_self hel], by rw [hme]; exact h2, h3⟩
          · exact ⟨k, u, y, by rw [List.getElem?_set_ne (fun h => hke h.symm)]; exact h1, h2, h3⟩
section
variable {M : Mach}
/-- whatever holds at first and is kept by ticks and steps -/
theorem endM_keeps {cs : List CallV} {R : St M → Prop} (ws : List Nat) (s : M.S) (h0 : R (stM cs ws s)) (hi : ∀ st : St M, R st → R { st with idle := st.idle + 1 })
    (ht : ∀ (st : St M) (i : Nat) (x : CallV) (p : Int), R st → Wf cs st → nowOf (thr cs) st.fin p = some i → cs[i]? = some x → R (st.turn i x p))
    (hs : ∀ (st : St M) (i : Nat) (p : Int) (e : Nat) (v : Ev M), R st → Wf cs st → nowOf (thr cs) st.fin p = some i → st.cur p = some e → st.evs[e]? = some v → v.resp = 0 → v.i = i → 0 < st.ticks → R (st.step i p e v)) (picks : List Int) : R (endM cs ws s picks) :=
  (foldM (R := fun st => Wf cs st ∧ R st) (fun st p h => ⟨h.1.pick p, by
    cases hn : nowOf (thr cs) st.fin p with
    | none => rw [pickM_idle hn]; exact hi st h.2
    | some i =>
      have hil := (now_open hn).1
      rw [thr_len] at hil
      obtain ⟨x, hx⟩ : ∃ x, cs[i]? = some x := ⟨cs[i], List.getElem?_eq_getElem hil⟩
      obtain ⟨e, v, h1, h2, h3, h4, h5⟩ := pickM_cases h.1 hn hx
      rw [h5]
      exact hs _ i p e v (ht st i x p h.2 h.1 hn hx) (h.1.turn x hn) (by rw [turn_fin]; exact hn) h1 h2 h3 h4 (by rw [turn_ticks]; omega)⟩) picks _ ⟨Wf.first cs ws s, h0⟩).2
theorem endM_evs (cs : List CallV) (ws : List Nat) (s : M.S) (picks : List Int) : (endM (M := M) cs ws s picks).evs.length ≤ (endM (M := M) cs ws s picks).ticks ∧ (endM (M := M) cs ws s picks).ticks + (endM (M := M) cs ws s picks).idle = picks.length := by
  have key : ∀ (l : List Int) (st : St M), Wf cs st → st.evs.length ≤ st.ticks → (l.foldl (pickM cs) st).evs.length ≤ (l.foldl (pickM cs) st).ticks ∧ (l.foldl (pickM cs) st).ticks + (l.foldl (pickM cs) st).idle = st.ticks + st.idle + l.length := by
    intro l
    induction l with
    | nil => intro st _ h; exact ⟨h, rfl⟩
    | cons p r ih =>
      intro st hw h
      have hp : (pickM cs st p).evs.length ≤ (pickM cs st p).ticks ∧ (pickM cs st p).ticks + (pickM cs st p).idle = st.ticks + st.idle + 1 := by
        cases hn : nowOf (thr cs) st.fin p with
        | none => rw [pickM_idle hn]; exact ⟨h, by show st.ticks + (st.idle + 1) = _; omega⟩
        | some i =>
          have hil := (now_open hn).1
          rw [thr_len] at hil
          obtain ⟨x, hx⟩ : ∃ x, cs[i]? = some x := ⟨cs[i], List.getElem?_eq_getElem hil⟩
          obtain ⟨e, v, h1, h2, h3, h4, h5⟩ := pickM_cases hw hn hx
          rw [h5]
          obtain ⟨t1, t2, t3⟩ := step_ticks (st := st.turn i x p) (i := i) (p := p) (e := e) (v := v)
          rw [t1, t2, t3, turn_ticks, turn_idle]
          refine ⟨?_, by omega⟩
          unfold St.turn
          split
          · show st.evs.length ≤ _; omega
          · show (st.evs ++ [_]).length ≤ _
            rw [List.length_append]; show st.evs.length + 1 ≤ _; omega
      have := ih (pickM cs st p) (hw.pick p) hp.1
      rw [List.foldl_cons, List.length_cons]
      exact ⟨this.1, by rw [this.2, hp.2]; omega⟩
  have := key picks (stM cs ws s) (Wf.first cs ws s) (Nat.le_refl _)
  unfold endM
  refine ⟨this.1, this.2.trans ?_⟩
  simp [stM]
end
theorem consP_end (cs : List CallV) (picks : List Int) : ConsP cs (endM (M := consM) cs [0] () picks) :=
  endM_keeps (R := ConsP cs) [0] () ⟨consI_first cs, fun v hv => by simp [stM] at hv, fun h => absurd rfl h⟩ (fun st h => ⟨h.i, h.ev, h.prop⟩) (fun st i x p h _ _ hx => h.turn hx) (fun st i p e v h _ _ _ hv hr _ ht => h.step hv hr ht) picks
end Go.Proofs.Ytcedfcdhdgmelaa
