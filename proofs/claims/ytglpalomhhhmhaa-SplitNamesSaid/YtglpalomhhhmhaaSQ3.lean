/- Splitters, plainly: what holds of events at every turn; what the law asks. -/
import Derived.Test.YtglpalomhhhmhaaSQ2
namespace Go.Proofs.Ytglpalomhhhmhaa
open Go.RowKit
set_option linter.unusedVariables false
set_option linter.unusedSimpArgs false
theorem sp_inv_eq (s : spM.S) (x : CallV) : spM.inv s x = spInv s x := rfl
structure SpEv (cs : List CallV) (v : Ev spM) (q : SpQ) (x : CallV) : Prop where
  cl : cs[v.i]? = some x
  th : x.t = (q.th : Int)
  ob : x.o = 0
  kd : x.k = 0
  steps : v.steps ≤ 4 * (q.r + q.c) + (q.s - 1)
  run : v.resp = 0 → q.s ≤ 4
  done : v.resp ≠ 0 → q.s = 5 ∧ v.ans = ⟨0, spName q.r q.c, []⟩
structure SpEr (cs : List CallV) (v : Ev spM) (c : Nat) (x : CallV) : Prop where
  cl : cs[v.i]? = some x
  ne : c ≠ 0
  ans : v.resp ≠ 0 → v.ans.err = c ∧ v.steps ≤ 1
  run : v.resp = 0 → v.steps = 0
structure SpF (n : Nat) (cs : List CallV) (st : St spM) : Prop where
  w : SpW n st.ws st.s.nm (opAt st.evs)
  pend : PendI cs st
  ev : ∀ (e : Nat) (v : Ev spM) (q : SpQ), st.evs[e]? = some v → v.q = .inl q → ∃ x, SpEv cs v q x
  er : ∀ (e : Nat) (v : Ev spM) (c : Nat), st.evs[e]? = some v → v.q = .inr c → ∃ x, SpEr cs v c x
section
variable {n : Nat} {cs : List CallV}
theorem opAt_lt {M : Mach} {l : List (Ev M)} {e : Nat} {q : M.Q} (h : opAt l e = some q) : e < l.length := by
  obtain ⟨v, hv, _⟩ := opAt_iff.1 h
  exact (List.getElem?_eq_some_iff.1 hv).1
theorem spF_idle {st : St spM} (h : SpF n cs st) : SpF n cs { st with idle := st.idle + 1 } := ⟨h.w, h.pend, h.ev, h.er⟩
theorem spF_first : SpF n cs (stM (M := spM) cs (List.replicate (2 * tri n) 0) sp0) := by
  refine ⟨?_, fun f y q hy => by simp [stM] at hy, fun e v q hv => by simp [stM] at hv, fun e v c hv => by simp [stM] at hv⟩
  have e : (opAt (stM (M := spM) cs (List.replicate (2 * tri n) 0) sp0).evs) = fun _ => none := by funext f; simp [opAt, stM]
  rw [e]; exact spW_first
theorem spF_turn (hth : ∀ x ∈ cs, 0 ≤ x.t ∧ x.t < n) {st : St spM} (h : SpF n cs st) {i : Nat} {x : CallV} {p : Int} (hno : nowOf (thr cs) st.fin p = some i) (hx : cs[i]? = some x) : SpF n cs (st.turn i x p) := by
  have hp := h.pend.turn (x := x) hno
  have ht := hth x (List.mem_of_getElem? hx)
  cases hc : st.cur p with
  | some e0 =>
    have htu : st.turn i x p = st.tick := by unfold St.turn; rw [hc]
    rw [htu] at hp ⊢
    exact ⟨h.w, hp, h.ev, h.er⟩
  | none =>
    have htu : st.turn i x p = st.tick.begin i x p := by unfold St.turn; rw [hc]
    rw [htu] at hp ⊢
    have hte : (st.tick.begin i x p).evs = st.evs ++ [⟨i, st.ticks + 1, 0, 0, ⟨0, 0, []⟩, [], (invQ st.s x).2⟩] := rfl
    have hts : (st.tick.begin i x p).s = (invQ st.s x).1 := rfl
    have htw : (st.tick.begin i x p).ws = st.ws := rfl
    have hsn := opAt_snoc (l := st.evs) (⟨i, st.ticks + 1, 0, 0, ⟨0, 0, []⟩, [], (invQ st.s x).2⟩ : Ev spM)
    have bad : ∀ c : Nat, c ≠ 0 → invQ (M := spM) st.s x = (st.s, .inr c) → SpF n cs (st.tick.begin i x p) := fun c hne he => by
      refine ⟨?_, hp, fun e v q hv hq => ?_, fun e v c' hv hq => ?_⟩
      · rw [htw, hts, he, hte, hsn]
        have e2 : (fun f => if f = st.evs.length then opQ' (M := spM) (invQ st.s x).2 else opAt st.evs f) = opAt st.evs := by
          funext f
          split
          · next hf => rw [he, hf, opAt_len]; rfl
          · rfl
        rw [e2]; exact h.w
      · rw [hte] at hv
        rcases snoc_get hv with ⟨_, rfl⟩ | ⟨_, hv'⟩
        · rw [he] at hq; cases hq
        · exact h.ev e v q hv' hq
      · rw [hte] at hv
        rcases snoc_get hv with ⟨rfl, rfl⟩ | ⟨_, hv'⟩
        · rw [he] at hq; cases hq
          exact ⟨x, hx, hne, fun h => absurd rfl h, fun _ => rfl⟩
        · exact h.er e v c' hv' hq
    have hm : (spM.m : Int) = 1 := rfl
    by_cases ho : x.o < 0 ∨ 1 ≤ x.o
    · exact bad 12 (by decide) (by unfold invQ; rw [if_pos (by rw [hm]; exact ho)])
    · have hi : invQ (M := spM) st.s x = spInv st.s x := by unfold invQ; rw [if_neg (by rw [hm]; exact ho), sp_inv_eq]
      by_cases k0 : x.k = 0
      · by_cases kp : st.s.nm x.t.toNat = true
        · exact bad 8 (by decide) (by rw [hi]; unfold spInv; rw [if_neg (by simp [k0]), if_pos kp])
        · have he : invQ (M := spM) st.s x = (st.s, .inl ⟨x.t.toNat, 0, 0, 0, []⟩) := by rw [hi]; unfold spInv; rw [if_neg (by simp [k0]), if_neg kp]
          have hfree : ∀ f q, opAt st.evs f = some q → q.th ≠ x.t.toNat := fun f q hf e1 => by
            obtain ⟨v, hv, hvq⟩ := opAt_iff.1 hf
            obtain ⟨y, hy⟩ := h.ev f v q hv hvq
            by_cases hr : v.resp = 0
            · have hop := (now_open hno).2.1
              rw [thr_get hx] at hop
              have hyt : y.t = p := by have := hy.th; have := Option.some.inj hop; omega
              have := h.pend f v p hv hr (by rw [thr_get hy.cl, hyt])
              rw [hc] at this; cases this
            · have := h.w.nm2 f q hf (hy.done hr).1
              rw [e1] at this
              exact kp this
          refine ⟨?_, hp, fun e v q hv hq => ?_, fun e v c' hv hq => ?_⟩
          · rw [htw, hts, he, hte, hsn]
            have e2 : (fun f => if f = st.evs.length then opQ' (M := spM) (invQ st.s x).2 else opAt st.evs f) = updS (opAt st.evs) st.evs.length ⟨x.t.toNat, 0, 0, 0, []⟩ := by
              funext f
              unfold updS
              rw [he]; rfl
            rw [e2]
            exact h.w.begin (opAt_len _) (by omega) hfree
          · rw [hte] at hv
            rcases snoc_get hv with ⟨_, rfl⟩ | ⟨_, hv'⟩
            · rw [he] at hq; cases hq
              exact ⟨x, hx, by show x.t = ((x.t.toNat : Nat) : Int); omega, by omega, k0, Nat.zero_le _, fun _ => Nat.zero_le _, fun h => absurd rfl h⟩
            · exact h.ev e v q hv' hq
          · rw [hte] at hv
            rcases snoc_get hv with ⟨rfl, rfl⟩ | ⟨_, hv'⟩
            · rw [he] at hq; cases hq
            · exact h.er e v c' hv' hq
      · exact bad 9 (by decide) (by rw [hi]; unfold spInv; rw [if_pos k0])
theorem spNext_facts (s : SpS) (q : SpQ) (v : Nat) (h4 : q.s ≤ 4) : (spNext s q v).2.1.th = q.th ∧ 4 * (q.r + q.c) + (q.s - 1) + 1 ≤ 4 * ((spNext s q v).2.1.r + (spNext s q v).2.1.c) + ((spNext s q v).2.1.s - 1) ∧
    ((spNext s q v).2.2 = none → (spNext s q v).2.1.s ≤ 4) ∧ ∀ a, (spNext s q v).2.2 = some a → (spNext s q v).2.1.s = 5 ∧ a = ⟨0, spName (spNext s q v).2.1.r (spNext s q v).2.1.c, []⟩ := by
  unfold spNext
  split
  · exact ⟨rfl, by simp only; omega, fun _ => by show 2 ≤ 4; omega, fun a h => by cases h⟩
  · split
    · split
      · exact ⟨rfl, by simp only; omega, fun _ => by show 3 ≤ 4; omega, fun a h => by cases h⟩
      · exact ⟨rfl, by simp only; omega, fun _ => by show 1 ≤ 4; omega, fun a h => by cases h⟩
    · split
      · exact ⟨rfl, by simp only; omega, fun _ => by show 4 ≤ 4; omega, fun a h => by cases h⟩
      · split
        · exact ⟨rfl, by simp only; omega, fun h => (by cases h), fun a h => by cases h; exact ⟨rfl, rfl⟩⟩
        · exact ⟨rfl, by simp only; omega, fun _ => by show 1 ≤ 4; omega, fun a h => by cases h⟩
theorem sp_stepQ (s : spM.S) (q : SpQ) (ws : List Nat) (cn : Cn) (t : Nat) : stepQ (M := spM) s (.inl q) ws cn t = ⟨(spNext s q ((spAcc q).run ws cn).1).1, .inl (spNext s q ((spAcc q).run ws cn).1).2.1, ((spAcc q).run ws cn).2.1, ((spAcc q).run ws cn).2.2, (spNext s q ((spAcc q).run ws cn).1).2.2⟩ := rfl
theorem sp_step_s (T : St spM) (i : Nat) (p : Int) (e : Nat) (v : Ev spM) : (T.step i p e v).s = (stepQ T.s v.q T.ws T.cn T.ticks).s := by unfold St.step; split <;> rfl
theorem spF_step {T : St spM} (h : SpF n cs T) (ht : 0 < T.ticks) {i : Nat} {p : Int} {e : Nat} {v : Ev spM} (hc : T.cur p = some e) (hv : T.evs[e]? = some v) (hr0 : v.resp = 0) : SpF n cs (T.step i p e v) := by
  have hel := (List.getElem?_eq_some_iff.1 hv).1
  have hpe := h.pend.step (i := i) ht hc hv hr0
  have hws := step_ws (st := T) (i := i) (p := p) (e := e) (v := v)
  have hss := sp_step_s T i p e v
  have hev := step_evs (st := T) (i := i) (p := p) (e := e) (v := v)
  obtain ⟨m1, m2, m3, m4, m5⟩ := midEv_facts T v
  have mq := midEv_q T v
  cases hq : v.q with
  | inr er =>
    have hS : stepQ (M := spM) T.s v.q T.ws T.cn T.ticks = ⟨T.s, .inr er, T.ws, T.cn, some ⟨er, 0, []⟩⟩ := by rw [hq]; rfl
    have hmd : midEv T v = v.done (.inr er) T.ticks ⟨er, 0, []⟩ (keyQ (M := spM) T.s (.inr er)) := by
      rw [midEv_done (an := ⟨er, 0, []⟩) (by rw [hS]), hS]
    have hmq : (midEv T v).q = .inr er := by rw [hmd]; rfl
    have hmr : (midEv T v).resp = T.ticks := m5 ⟨er, 0, []⟩ (by rw [hS])
    refine ⟨?_, hpe, fun f u q hu huq => ?_, fun f u c hu huq => ?_⟩
    · rw [hws, hss, hS, hev, opAt_set _ hel]
      have e2 : (fun f => if f = e then opQ' (midEv T v).q else opAt T.evs f) = opAt T.evs := by
        funext f
        split
        · next hf => rw [hf, opAt_get hv, hmq, hq]
        · rfl
      rw [e2]; exact h.w
    · rw [hev] at hu
      rcases set_get hu hel with ⟨rfl, rfl⟩ | ⟨_, hu'⟩
      · rw [hmq] at huq; cases huq
      · exact h.ev f u q hu' huq
    · rw [hev] at hu
      rcases set_get hu hel with ⟨rfl, rfl⟩ | ⟨_, hu'⟩
      · rw [hmq] at huq; cases huq
        obtain ⟨y, hy⟩ := h.er f v er hv hq
        have h0 := hy.run hr0
        exact ⟨y, by rw [m1]; exact hy.cl, hy.ne, fun _ => ⟨by rw [hmd]; rfl, by rw [m3, h0]; exact Nat.le_refl _⟩, fun h1 => by omega⟩
      · exact h.er f u c hu' huq
  | inl q =>
    obtain ⟨x, hx⟩ := h.ev e v q hv hq
    have hop : opAt T.evs e = some q := opAt_iff.2 ⟨v, hv, hq⟩
    have hst := hx.run hr0
    have hg := h.w.grid (L := T.evs.length) (fun e q h => opAt_lt h) hop
    have hW := h.w.step hop hst hg T.cn
    obtain ⟨r, hr⟩ : ∃ r, ((spAcc q).run T.ws T.cn).1 = r := ⟨_, rfl⟩
    have hS : stepQ (M := spM) T.s v.q T.ws T.cn T.ticks = ⟨(spNext T.s q r).1, .inl (spNext T.s q r).2.1, ((spAcc q).run T.ws T.cn).2.1, ((spAcc q).run T.ws T.cn).2.2, (spNext T.s q r).2.2⟩ := by rw [hq, sp_stepQ, hr]
    rw [hr] at hW
    have hmq : (midEv T v).q = .inl (spNext T.s q r).2.1 := by rw [mq, hS]
    obtain ⟨k1, k2, k3, k4⟩ := spNext_facts T.s q r hst
    refine ⟨?_, hpe, fun f u q' hu huq => ?_, fun f u c hu huq => ?_⟩
    · rw [hws, hss, hS, hev, opAt_set _ hel]
      have e2 : (fun f => if f = e then opQ' (midEv T v).q else opAt T.evs f) = updS (opAt T.evs) e (spNext T.s q r).2.1 := by
        funext f
        unfold updS
        rw [hmq]; rfl
      rw [e2]; exact hW
    · rw [hev] at hu
      rcases set_get hu hel with ⟨rfl, rfl⟩ | ⟨_, hu'⟩
      · rw [hmq] at huq; cases huq
        have hst2 := hx.steps
        refine ⟨x, by rw [m1]; exact hx.cl, by rw [k1]; exact hx.th, hx.ob, hx.kd, by rw [m3]; omega, fun h0 => ?_, fun h1 => ?_⟩
        · cases ha : (spNext T.s q r).2.2 with
          | none => exact k3 ha
          | some an => rw [m5 an (by rw [hS]; exact ha)] at h0; omega
        · cases ha : (spNext T.s q r).2.2 with
          | none => rw [m4 (by rw [hS]; exact ha)] at h1; exact absurd hr0 h1
          | some an =>
            obtain ⟨b1, b2⟩ := k4 an ha
            refine ⟨b1, ?_⟩
            rw [midEv_done (an := an) (by rw [hS]; exact ha), ← b2]; rfl
      · exact h.ev f u q' hu' huq
    · rw [hev] at hu
      rcases set_get hu hel with ⟨rfl, rfl⟩ | ⟨_, hu'⟩
      · rw [hmq] at huq; cases huq
      · exact h.er f u c hu' huq
theorem spF_end (hth : ∀ x ∈ cs, 0 ≤ x.t ∧ x.t < n) (picks : List Int) : SpF n cs (endM (M := spM) cs (List.replicate (2 * tri n) 0) sp0 picks) :=
  endM_keeps (R := SpF n cs) _ sp0 spF_first (fun st h => spF_idle h) (fun st i x p h _ hn hx => spF_turn hth h hn hx) (fun st i p e v h _ _ hc hv hr _ ht => spF_step h ht hc hv hr) picks
/-- what the law asks -/
def isSp (cs : List CallV) (t : Nat) (x : EvR) : Bool := match cs[x.i]? with
  | some c => decide (c.o = 0 ∧ c.k = 0 ∧ c.t.toNat = t)
  | none => false
theorem isSp_some {t : Nat} {x : EvR} {c : CallV} (h : cs[x.i]? = some c) : isSp cs t x = decide (c.o = 0 ∧ c.k = 0 ∧ c.t.toNat = t) := by unfold isSp; rw [h]
def bgn (cs : List CallV) (l : List EvR) (t : Nat) : Bool := l.any (isSp cs t)
def begunN (n : Nat) (cs : List CallV) (l : List EvR) : Nat := (List.range n).countP (bgn cs l)
def spDone (cs : List CallV) (x : EvR) : Bool := match cs[x.i]? with
  | some c => decide (c.o = 0 ∧ c.k = 0 ∧ x.resp ≠ 0 ∧ x.ans.err = 0)
  | none => false
theorem spDone_some {x : EvR} {c : CallV} (h : cs[x.i]? = some c) : spDone cs x = decide (c.o = 0 ∧ c.k = 0 ∧ x.resp ≠ 0 ∧ x.ans.err = 0) := by unfold spDone; rw [h]
structure NamesOk (n : Nat) (cs : List CallV) (evs : List EvR) : Prop where
  call : ∀ x ∈ evs, x.i < cs.length
  steps : ∀ x ∈ evs, x.steps ≤ 4 * max (begunN n cs evs) 1
  name : ∀ x ∈ evs, spDone cs x = true → x.ans.val < tri (begunN n cs evs)
  uniq : ∀ (i j : Nat) (x y : EvR), i < j → evs[i]? = some x → evs[j]? = some y → spDone cs x = true → spDone cs y = true → x.ans.val ≠ y.ans.val
theorem begunN_le (n : Nat) (cs : List CallV) (l : List EvR) : begunN n cs l ≤ n := by
  have := List.countP_le_length (p := bgn cs l) (l := List.range n)
  simpa [begunN] using this
theorem sp_names {st : St spM} (h : SpF n cs st) (hR : RowI cs st) : NamesOk n cs (repOf st).evs := by
  have hget : ∀ (j : Nat) (x : EvR), (repOf st).evs[j]? = some x → ∃ v, st.evs[j]? = some v ∧ x = evR st.s v := fun j x hx => by
    have hx' : (st.evs.map (evR st.s))[j]? = some x := hx
    rw [List.getElem?_map] at hx'
    obtain ⟨v, hv, rfl⟩ := Option.map_eq_some_iff.1 hx'
    exact ⟨v, hv, rfl⟩
  have hmem : ∀ x ∈ (repOf st).evs, ∃ e v, st.evs[e]? = some v ∧ x = evR st.s v := fun x hx => by
    obtain ⟨e, he⟩ := List.mem_iff_getElem?.1 hx
    obtain ⟨v, hv, rfl⟩ := hget e x he
    exact ⟨e, v, hv, rfl⟩
  have hbg : ∀ e q, opAt st.evs e = some q → bgn cs (repOf st).evs q.th = true := fun e q hq => by
    obtain ⟨v, hv, hvq⟩ := opAt_iff.1 hq
    obtain ⟨c, hE⟩ := h.ev e v q hv hvq
    unfold bgn
    rw [List.any_eq_true]
    refine ⟨evR st.s v, List.mem_map.2 ⟨v, List.mem_of_getElem? hv, rfl⟩, ?_⟩
    rw [isSp_some (c := c) hE.cl]
    have := hE.th
    exact decide_eq_true ⟨hE.ob, hE.kd, by omega⟩
  have hfar : ∀ e q, opAt st.evs e = some q → q.r + q.c + 1 ≤ begunN n cs (repOf st).evs := fun e q hq => h.w.far (L := st.evs.length) (fun e q h => opAt_lt h) (bgn cs (repOf st).evs) hbg hq
  have hdone : ∀ e v, st.evs[e]? = some v → spDone cs (evR st.s v) = true → ∃ q, v.q = .inl q ∧ q.s = 5 ∧ v.ans = ⟨0, spName q.r q.c, []⟩ := fun e v hv hd => by
    obtain ⟨c, hc⟩ : ∃ c, cs[v.i]? = some c := ⟨_, List.getElem?_eq_getElem (hR.call v (List.mem_of_getElem? hv)).1⟩
    rw [spDone_some (c := c) hc] at hd
    obtain ⟨_, _, d3, d4⟩ := of_decide_eq_true hd
    have d3' : v.resp ≠ 0 := d3
    have d4' : v.ans.err = 0 := d4
    cases hq : v.q with
    | inl q =>
      obtain ⟨x, hx⟩ := h.ev e v q hv hq
      exact ⟨q, rfl, hx.done d3'⟩
    | inr er =>
      obtain ⟨x, hx⟩ := h.er e v er hv hq
      exact absurd ((hx.ans d3').1.symm.trans d4') hx.ne
  refine ⟨fun x hx => ?_, fun x hx => ?_, fun x hx hd => ?_, fun i j x y hij hxi hyj hdx hdy => ?_⟩
  · obtain ⟨e, v, hv, rfl⟩ := hmem x hx
    exact (hR.call v (List.mem_of_getElem? hv)).1
  · obtain ⟨e, v, hv, rfl⟩ := hmem x hx
    show v.steps ≤ _
    cases hq : v.q with
    | inl q =>
      obtain ⟨c, hE⟩ := h.ev e v q hv hq
      have hop : opAt st.evs e = some q := opAt_iff.2 ⟨v, hv, hq⟩
      have h1 := hfar e q hop
      have h2 := hE.steps
      have h3 := (h.w.th e q hop).2
      omega
    | inr er =>
      obtain ⟨c, hE⟩ := h.er e v er hv hq
      by_cases hr : v.resp = 0
      · rw [hE.run hr]; exact Nat.zero_le _
      · have := (hE.ans hr).2; omega
  · obtain ⟨e, v, hv, rfl⟩ := hmem x hx
    obtain ⟨q, hq, h5, ha⟩ := hdone e v hv hd
    show v.ans.val < _
    rw [ha]
    exact spName_lt (by have := hfar e q (opAt_iff.2 ⟨v, hv, hq⟩); omega)
  · obtain ⟨v, hv, rfl⟩ := hget i x hxi
    obtain ⟨u, hu, rfl⟩ := hget j y hyj
    obtain ⟨q, hq, h5, ha⟩ := hdone i v hv hdx
    obtain ⟨q', hq', h5', ha'⟩ := hdone j u hu hdy
    show v.ans.val ≠ u.ans.val
    rw [ha, ha']
    intro heq
    obtain ⟨e1, e2⟩ := spName_inj (show spName q.r q.c = spName q'.r q'.c from heq)
    exact (h.w.st i j q q' (opAt_iff.2 ⟨v, hv, hq⟩) (opAt_iff.2 ⟨u, hu, hq'⟩) (by omega) h5 ⟨e1.symm, e2.symm⟩ (by omega)).1 h5'
end
end Go.Proofs.Ytglpalomhhhmhaa
