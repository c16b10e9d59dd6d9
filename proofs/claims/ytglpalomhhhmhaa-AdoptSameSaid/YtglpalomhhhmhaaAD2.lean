/- Adopters, plainly: what holds of events at every turn; what the laws ask. -/
import Derived.Test.YtglpalomhhhmhaaAD1
namespace Go.Proofs.Ytglpalomhhhmhaa
open Go.RowKit
set_option linter.unusedVariables false
set_option linter.unusedSimpArgs false
theorem ad_inv_eq (n : Nat) (s : (adM n).S) (x : CallV) : (adM n).inv s x = adInv s x := rfl
structure AdEv (n : Nat) (cs : List CallV) (v : Ev (adM n)) (q : AdQ) (x : CallV) : Prop where
  cl : cs[v.i]? = some x
  th : x.t = (q.th : Int)
  ob : x.o = 0
  kd : x.k = 0
  num : q.num = x.a + 1
  steps : v.steps = q.stp
  run : v.resp = 0 → q.stp ≤ 2 * n + 1
  done : v.resp ≠ 0 → q.seen.length = n ∧ v.ans = ⟨0, adRes q.num q.seen, []⟩
structure AdEr (n : Nat) (cs : List CallV) (evs : List (Ev (adM n))) (e : Nat) (v : Ev (adM n)) (c : Nat) (x : CallV) : Prop where
  cl : cs[v.i]? = some x
  ne : c ≠ 0
  ans : v.resp ≠ 0 → v.ans.err = c
  why : x.o ≠ 0 ∨ x.k ≠ 0 ∨ 2147483648 ≤ x.a ∨ ∃ f u q, f < e ∧ evs[f]? = some u ∧ u.q = .inl q ∧ x.t = (q.th : Int)
structure AdF (n : Nat) (cs : List CallV) (st : St (adM n)) : Prop where
  w : AdW n st.ws st.s.pr (opAt st.evs)
  pend : PendI cs st
  ev : ∀ (e : Nat) (v : Ev (adM n)) (q : AdQ), st.evs[e]? = some v → v.q = .inl q → ∃ x, AdEv n cs v q x
  er : ∀ (e : Nat) (v : Ev (adM n)) (c : Nat), st.evs[e]? = some v → v.q = .inr c → ∃ x, AdEr n cs st.evs e v c x
section
variable {n : Nat} {cs : List CallV}
theorem adF_idle {st : St (adM n)} (h : AdF n cs st) : AdF n cs { st with idle := st.idle + 1 } := ⟨h.w, h.pend, h.ev, h.er⟩
theorem adF_first : AdF n cs (stM (M := adM n) cs (List.replicate (2 * n) 0) ad0) := by
  refine ⟨?_, fun f y q hy => by simp [stM] at hy, fun e v q hv => by simp [stM] at hv, fun e v c hv => by simp [stM] at hv⟩
  have e : (opAt (stM (M := adM n) cs (List.replicate (2 * n) 0) ad0).evs) = fun _ => none := by funext f; simp [opAt, stM]
  rw [e]; exact adW_first
theorem adF_turn (hn : 1 ≤ n) (hth : ∀ x ∈ cs, 0 ≤ x.t ∧ x.t < n) {st : St (adM n)} (h : AdF n cs st) {i : Nat} {x : CallV} {p : Int} (hno : nowOf (thr cs) st.fin p = some i) (hx : cs[i]? = some x) : AdF n cs (st.turn i x p) := by
  have hp := h.pend.turn (x := x) hno
  have ht := hth x (List.mem_of_getElem? hx)
  cases hc : st.cur p with
  | some e0 =>
    have htu : st.turn i x p = st.tick := by unfold St.turn; rw [hc]
    rw [htu] at hp ⊢
    exact ⟨h.w, hp, h.ev, h.er⟩
  | none =>
    have htu : st.turn i x p = st.tick.begin i x p := by unfold St.turn; rw [hc]
    rw [htu] at hp ⊢
    have hte : (st.tick.begin i x p).evs = st.evs ++ [⟨i, st.ticks + 1, 0, 0, ⟨0, 0, []⟩, [], (invQ st.s x).2⟩] := rfl
    have hts : (st.tick.begin i x p).s = (invQ st.s x).1 := rfl
    have htw : (st.tick.begin i x p).ws = st.ws := rfl
    have hsn := opAt_snoc (l := st.evs) (⟨i, st.ticks + 1, 0, 0, ⟨0, 0, []⟩, [], (invQ st.s x).2⟩ : Ev (adM n))
    have hold : ∀ (f e : Nat) (v : Ev (adM n)) (c : Nat) (y : CallV), AdEr n cs st.evs e v c y → AdEr n cs (st.tick.begin i x p).evs e v c y := fun f e v c y hE => by
      refine ⟨hE.cl, hE.ne, hE.ans, hE.why.imp id (Or.imp id (Or.imp id ?_))⟩
      rintro ⟨g, u, q, g1, g2, g3⟩
      exact ⟨g, u, q, g1, by rw [hte, List.getElem?_append_left (List.getElem?_eq_some_iff.1 g2).1]; exact g2, g3⟩
    -- a call that is refused
    have bad : ∀ c : Nat, c ≠ 0 → invQ (M := adM n) st.s x = (st.s, .inr c) → (x.o ≠ 0 ∨ x.k ≠ 0 ∨ 2147483648 ≤ x.a ∨ ∃ f u q, f < st.evs.length ∧ (st.tick.begin i x p).evs[f]? = some u ∧ u.q = .inl q ∧ x.t = (q.th : Int)) → AdF n cs (st.tick.begin i x p) := fun c hne he hw => by
      refine ⟨?_, hp, fun e v q hv hq => ?_, fun e v c' hv hq => ?_⟩
      · rw [htw, hts, he, hte, hsn]
        have e2 : (fun f => if f = st.evs.length then opQ' (M := adM n) (invQ st.s x).2 else opAt st.evs f) = opAt st.evs := by
          funext f
          split
          · next hf => rw [he, hf, opAt_len]; rfl
          · rfl
        rw [e2]; exact h.w
      · rw [hte] at hv
        rcases snoc_get hv with ⟨_, rfl⟩ | ⟨_, hv'⟩
        · rw [he] at hq; cases hq
        · exact h.ev e v q hv' hq
      · rw [hte] at hv
        rcases snoc_get hv with ⟨rfl, rfl⟩ | ⟨_, hv'⟩
        · rw [he] at hq; cases hq
          exact ⟨x, hx, hne, fun h => absurd rfl h, hw⟩
        · obtain ⟨y, hy⟩ := h.er e v c' hv' hq
          exact ⟨y, hold 0 e v c' y hy⟩
    have hm : ((adM n).m : Int) = 1 := rfl
    by_cases ho : x.o < 0 ∨ 1 ≤ x.o
    · exact bad 12 (by decide) (by unfold invQ; rw [if_pos (by rw [hm]; exact ho)]) (.inl (by omega))
    · have hi : invQ (M := adM n) st.s x = adInv st.s x := by unfold invQ; rw [if_neg (by rw [hm]; exact ho), ad_inv_eq]
      by_cases k0 : x.k = 0
      · by_cases ka : 2147483648 ≤ x.a
        · exact bad 10 (by decide) (by rw [hi]; unfold adInv; rw [if_neg (by simp [k0]), if_pos ka]) (.inr (.inr (.inl ka)))
        · by_cases kp : st.s.pr x.t.toNat = true
          · refine bad 8 (by decide) (by rw [hi]; unfold adInv; rw [if_neg (by simp [k0]), if_neg ka, if_pos kp]) (.inr (.inr (.inr ?_)))
            obtain ⟨f, q, hf, hq⟩ := h.w.prx _ kp
            obtain ⟨u, hu, huq⟩ := opAt_iff.1 hf
            have hl := (List.getElem?_eq_some_iff.1 hu).1
            exact ⟨f, u, q, hl, by rw [hte, List.getElem?_append_left hl]; exact hu, huq, by omega⟩
          · have he : invQ (M := adM n) st.s x = (⟨setB st.s.pr x.t.toNat⟩, .inl ⟨x.t.toNat, x.a + 1, 0, false, []⟩) := by rw [hi]; unfold adInv; rw [if_neg (by simp [k0]), if_neg ka, if_neg kp]
            refine ⟨?_, hp, fun e v q hv hq => ?_, fun e v c' hv hq => ?_⟩
            · rw [htw, hts, he, hte, hsn]
              have e2 : (fun f => if f = st.evs.length then opQ' (M := adM n) (invQ st.s x).2 else opAt st.evs f) = updO (opAt st.evs) st.evs.length ⟨x.t.toNat, x.a + 1, 0, false, []⟩ := by
                funext f
                unfold updO
                rw [he]; rfl
              rw [e2]
              exact h.w.begin (opAt_len _) (by simpa using kp) (by omega) (by omega)
            · rw [hte] at hv
              rcases snoc_get hv with ⟨_, rfl⟩ | ⟨_, hv'⟩
              · rw [he] at hq; cases hq
                exact ⟨x, hx, by show x.t = ((x.t.toNat : Nat) : Int); omega, by omega, k0, rfl, rfl, fun _ => Nat.zero_le _, fun h => absurd rfl h⟩
              · exact h.ev e v q hv' hq
            · rw [hte] at hv
              rcases snoc_get hv with ⟨rfl, rfl⟩ | ⟨_, hv'⟩
              · rw [he] at hq; cases hq
              · obtain ⟨y, hy⟩ := h.er e v c' hv' hq
                exact ⟨y, hold 0 e v c' y hy⟩
      · exact bad 9 (by decide) (by rw [hi]; unfold adInv; rw [if_pos k0]) (.inr (.inl k0))
theorem adNext_keeps (q : AdQ) (r : Nat) : (adNext n q r).1.th = q.th ∧ (adNext n q r).1.num = q.num ∧ (adNext n q r).1.stp = q.stp + 1 := by
  unfold adNext
  split
  · next h => exact ⟨rfl, rfl, by rw [h]⟩
  · split
    · exact ⟨rfl, rfl, rfl⟩
    · split <;> exact ⟨rfl, rfl, rfl⟩
theorem adNext_ans (hn : 1 ≤ n) (q : AdQ) (r : Nat) (hl : q.seen.length = q.stp - (n + 2)) (hs : q.stp ≤ 2 * n + 1) :
    ((adNext n q r).2 = none → (adNext n q r).1.stp ≤ 2 * n + 1) ∧ ∀ a, (adNext n q r).2 = some a → (adNext n q r).1.seen.length = n ∧ a = ⟨0, adRes q.num (adNext n q r).1.seen, []⟩ := by
  unfold adNext
  split
  · exact ⟨fun _ => by show 1 ≤ _; omega, fun a h => by cases h⟩
  · split
    · exact ⟨fun _ => by show q.stp + 1 ≤ _; omega, fun a h => by cases h⟩
    · split
      · exact ⟨fun _ => by show q.stp + 1 ≤ _; omega, fun a h => by cases h⟩
      · by_cases h : q.seen.length + 1 < n
        · simp only [if_pos h]
          exact ⟨fun _ => by show q.stp + 1 ≤ _; omega, fun a h => by cases h⟩
        · simp only [if_neg h]
          refine ⟨fun h => (by cases h), fun a ha => ?_⟩
          cases ha
          refine ⟨?_, rfl⟩
          rw [List.length_append, List.length_singleton]; omega
theorem ad_stepQ (s : (adM n).S) (q : AdQ) (ws : List Nat) (cn : Cn) (t : Nat) : stepQ (M := adM n) s (.inl q) ws cn t = ⟨s, .inl (adNext n q ((adAcc n q).run ws cn).1).1, ((adAcc n q).run ws cn).2.1, ((adAcc n q).run ws cn).2.2, (adNext n q ((adAcc n q).run ws cn).1).2⟩ := rfl
theorem ad_step_s (T : St (adM n)) (i : Nat) (p : Int) (e : Nat) (v : Ev (adM n)) : (T.step i p e v).s = (stepQ T.s v.q T.ws T.cn T.ticks).s := by unfold St.step; split <;> rfl
theorem adF_step (hn : 1 ≤ n) {T : St (adM n)} (h : AdF n cs T) (ht : 0 < T.ticks) {i : Nat} {p : Int} {e : Nat} {v : Ev (adM n)} (hc : T.cur p = some e) (hv : T.evs[e]? = some v) (hr0 : v.resp = 0) : AdF n cs (T.step i p e v) := by
  have hel := (List.getElem?_eq_some_iff.1 hv).1
  have hpe := h.pend.step (i := i) ht hc hv hr0
  have hws := step_ws (st := T) (i := i) (p := p) (e := e) (v := v)
  have hss := ad_step_s T i p e v
  have hev := step_evs (st := T) (i := i) (p := p) (e := e) (v := v)
  obtain ⟨m1, m2, m3, m4, m5⟩ := midEv_facts T v
  have mq := midEv_q T v
  -- a refused event's reason stays
  have hwhy : ∀ (f : Nat) (u : Ev (adM n)) (c : Nat) (y : CallV), AdEr n cs T.evs f u c y → (∃ q0 q1 : AdQ, v.q = .inl q0 ∧ (midEv T v).q = .inl q1 ∧ q1.th = q0.th) ∨ (midEv T v).q = v.q → AdEr n cs (T.step i p e v).evs f u c y := fun f u c y hE hk => by
    refine ⟨hE.cl, hE.ne, hE.ans, hE.why.imp id (Or.imp id (Or.imp id ?_))⟩
    rintro ⟨g, w, q, g1, g2, g3, g4⟩
    rw [hev]
    by_cases hge : g = e
    · subst hge
      rw [hv] at g2; cases g2
      refine hk.elim (fun ⟨q0, q1, k1, k2, k3⟩ => ⟨g, midEv T v, q1, g1, List.getElem?_set_self hel, k2, ?_⟩) (fun k => ⟨g, midEv T v, q, g1, List.getElem?_set_self hel, by rw [k]; exact g3, g4⟩)
      rw [k1] at g3; cases g3
      rw [k3]; exact g4
    · exact ⟨g, w, q, g1, by rw [List.getElem?_set_ne (fun h => hge h.symm)]; exact g2, g3, g4⟩
  cases hq : v.q with
  | inr er =>
    have hS : stepQ (M := adM n) T.s v.q T.ws T.cn T.ticks = ⟨T.s, .inr er, T.ws, T.cn, some ⟨er, 0, []⟩⟩ := by rw [hq]; rfl
    have hmd : midEv T v = v.done (.inr er) T.ticks ⟨er, 0, []⟩ (keyQ (M := adM n) T.s (.inr er)) := by
      rw [midEv_done (an := ⟨er, 0, []⟩) (by rw [hS]), hS]
    have hmq : (midEv T v).q = .inr er := by rw [hmd]; rfl
    refine ⟨?_, hpe, fun f u q hu huq => ?_, fun f u c hu huq => ?_⟩
    · rw [hws, hss, hS, hev, opAt_set _ hel]
      have e2 : (fun f => if f = e then opQ' (midEv T v).q else opAt T.evs f) = opAt T.evs := by
        funext f
        split
        · next hf => rw [hf, opAt_get hv, hmq, hq]
        · rfl
      rw [e2]; exact h.w
    · rw [hev] at hu
      rcases set_get hu hel with ⟨rfl, rfl⟩ | ⟨_, hu'⟩
      · rw [hmq] at huq; cases huq
      · exact h.ev f u q hu' huq
    · rw [hev] at hu
      rcases set_get hu hel with ⟨rfl, rfl⟩ | ⟨_, hu'⟩
      · rw [hmq] at huq; cases huq
        obtain ⟨y, hy⟩ := h.er f v er hv hq
        refine ⟨y, hwhy f _ er y ⟨by rw [m1]; exact hy.cl, hy.ne, fun _ => by rw [hmd]; rfl, hy.why⟩ (.inr (by rw [hmq, hq]))⟩
      · obtain ⟨y, hy⟩ := h.er f u c hu' huq
        exact ⟨y, hwhy f u c y hy (.inr (by rw [hmq, hq]))⟩
  | inl q =>
    obtain ⟨x, hx⟩ := h.ev e v q hv hq
    have hop : opAt T.evs e = some q := opAt_iff.2 ⟨v, hv, hq⟩
    have hst := hx.run hr0
    obtain ⟨t1, t2, t3, t4, t5⟩ := h.w.th e q hop
    have hW := h.w.step hop hst T.cn
    obtain ⟨r, hr⟩ : ∃ r, ((adAcc n q).run T.ws T.cn).1 = r := ⟨_, rfl⟩
    have hS : stepQ (M := adM n) T.s v.q T.ws T.cn T.ticks = ⟨T.s, .inl (adNext n q r).1, ((adAcc n q).run T.ws T.cn).2.1, ((adAcc n q).run T.ws T.cn).2.2, (adNext n q r).2⟩ := by rw [hq, ad_stepQ, hr]
    rw [hr] at hW
    have hmq : (midEv T v).q = .inl (adNext n q r).1 := by rw [mq, hS]
    obtain ⟨k1, k2, k3⟩ := adNext_keeps (n := n) q r
    obtain ⟨a1, a2⟩ := adNext_ans hn q r t5 hst
    refine ⟨?_, hpe, fun f u q' hu huq => ?_, fun f u c hu huq => ?_⟩
    · rw [hws, hss, hS, hev, opAt_set _ hel]
      have e2 : (fun f => if f = e then opQ' (midEv T v).q else opAt T.evs f) = updO (opAt T.evs) e (adNext n q r).1 := by
        funext f
        unfold updO
        rw [hmq]; rfl
      rw [e2]; exact hW
    · rw [hev] at hu
      rcases set_get hu hel with ⟨rfl, rfl⟩ | ⟨_, hu'⟩
      · rw [hmq] at huq; cases huq
        refine ⟨x, by rw [m1]; exact hx.cl, by rw [k1]; exact hx.th, hx.ob, hx.kd, by rw [k2]; exact hx.num, by rw [m3, k3, hx.steps], fun h0 => ?_, fun h1 => ?_⟩
        · cases ha : (adNext n q r).2 with
          | none => exact a1 ha
          | some an => rw [m5 an (by rw [hS]; exact ha)] at h0; omega
        · cases ha : (adNext n q r).2 with
          | none => rw [m4 (by rw [hS]; exact ha)] at h1; exact absurd hr0 h1
          | some an =>
            obtain ⟨b1, b2⟩ := a2 an ha
            refine ⟨b1, ?_⟩
            rw [midEv_done (an := an) (by rw [hS]; exact ha), k2, ← b2]; rfl
      · exact h.ev f u q' hu' huq
    · rw [hev] at hu
      rcases set_get hu hel with ⟨rfl, rfl⟩ | ⟨_, hu'⟩
      · rw [hmq] at huq; cases huq
      · obtain ⟨y, hy⟩ := h.er f u c hu' huq
        exact ⟨y, hwhy f u c y hy (.inl ⟨q, _, hq, hmq, k1⟩)⟩
/-- whose marks were seen began ahead of the response -/
def AdT (st : St (adM n)) : Prop := ∀ (e f : Nat) (v u : Ev (adM n)) (q q' : AdQ) (m : Nat), st.evs[e]? = some v → v.q = .inl q → v.resp ≠ 0 → st.evs[f]? = some u → u.q = .inl q' → q.seen[q'.th]? = some m → m ≠ 0 → u.inv < v.resp
theorem adT_end (hn : 1 ≤ n) (hth : ∀ x ∈ cs, 0 ≤ x.t ∧ x.t < n) (picks : List Int) : AdF n cs (endM (M := adM n) cs (List.replicate (2 * n) 0) ad0 picks) ∧ AdT (endM (M := adM n) cs (List.replicate (2 * n) 0) ad0 picks) := by
  have key : ∀ (st : St (adM n)) (p : Int), (Wf cs st ∧ RowI cs st ∧ AdF n cs st ∧ AdT st) → (Wf cs (pickM cs st p) ∧ RowI cs (pickM cs st p) ∧ AdF n cs (pickM cs st p) ∧ AdT (pickM cs st p)) := fun st p ⟨hw, hR, hF, hT⟩ => by
    cases hno : nowOf (thr cs) st.fin p with
    | none => rw [pickM_idle hno]; exact ⟨hw.idle, ⟨hR.call, hR.grow, hR.same, hR.past, hR.fin, hR.pend, hR.sum⟩, adF_idle hF, hT⟩
    | some i =>
      have hil := (now_open hno).1
      rw [thr_len] at hil
      obtain ⟨x, hx⟩ : ∃ x, cs[i]? = some x := ⟨cs[i], List.getElem?_eq_getElem hil⟩
      have hR' := hR.turned hw hno hx
      have hw' := hw.pick p
      obtain ⟨e0, v0, h1, h2, h3, h4, h5⟩ := pickM_cases hw hno hx
      have hF1 := adF_turn hn hth hF hno hx
      have hF' := adF_step (i := i) hn hF1 (by rw [turn_ticks]; omega) h1 h2 h3
      rw [h5] at hR' hw' ⊢
      refine ⟨hw', hR', hF', ?_⟩
      obtain ⟨T, hTd⟩ : ∃ T, st.turn i x p = T := ⟨_, rfl⟩
      have hTt : ∀ v ∈ T.evs, v ∈ st.evs ∨ v.resp = 0 := fun v hv => by
        rw [← hTd] at hv
        rcases turn_evs hv with h | rfl
        · exact .inl h
        · exact .inr rfl
      have hTg : ∀ (f : Nat) (u : Ev (adM n)), st.evs[f]? = some u → T.evs[f]? = some u := fun f u hu => by
        rw [← hTd]
        unfold St.turn
        split
        · exact hu
        · show (st.evs ++ [_])[f]? = _
          rw [List.getElem?_append_left (List.getElem?_eq_some_iff.1 hu).1]; exact hu
      have hTn : ∀ (f : Nat) (u : Ev (adM n)), T.evs[f]? = some u → u.resp ≠ 0 → st.evs[f]? = some u := fun f u hu hr => by
        rw [← hTd] at hu
        unfold St.turn at hu
        split at hu
        · exact hu
        · rcases snoc_get (show (st.evs ++ [_])[f]? = some u from hu) with ⟨_, rfl⟩ | ⟨_, hu'⟩
          · exact absurd rfl hr
          · exact hu'
      rw [hTd] at h1 h2 hF1 hF' hR' hw' ⊢
      have hel := (List.getElem?_eq_some_iff.1 h2).1
      have hev := step_evs (st := T) (i := i) (p := p) (e := e0) (v := v0)
      obtain ⟨m1, m2, m3, m4, m5⟩ := midEv_facts T v0
      have hmr : (midEv T v0).resp ≠ 0 → (midEv T v0).resp = T.ticks := fun hr => by
        cases ha : (stepQ T.s v0.q T.ws T.cn T.ticks).ans with
        | none => rw [m4 ha] at hr; exact absurd h3 hr
        | some an => exact m5 an ha
      have htk : (T.step i p e0 v0).ticks = T.ticks := step_ticks.1
      intro e f v u q q' m hv hvq hvr hu huq hm hm0
      have hoe : opAt (T.step i p e0 v0).evs e = some q := opAt_iff.2 ⟨v, hv, hvq⟩
      have hof : opAt (T.step i p e0 v0).evs f = some q' := opAt_iff.2 ⟨u, hu, huq⟩
      have hv2 := hv
      rw [hev] at hv2
      rcases set_get hv2 hel with ⟨rfl, rfl⟩ | ⟨hne, hv'⟩
      · rw [hmr hvr]
        obtain ⟨g, q3, hg, ht3, hm3, hs3⟩ := hF'.w.owner hoe hm hm0
        have hgf := hF'.w.one g f q3 q' hg hof ht3
        subst hgf
        rw [hof] at hg; cases hg
        obtain ⟨y, hy⟩ := hF'.ev g u q' hu huq
        have hc := hR'.call u (List.mem_of_getElem? hu)
        have hst := hy.steps
        by_cases hur : u.resp = 0
        · have := hc.2.2.2.2.1 hur; omega
        · have := hc.2.2.2.2.2 hur; omega
      · have hvs := hTn e v hv' hvr
        have hoe1 : opAt st.evs e = some q := opAt_iff.2 ⟨v, hvs, hvq⟩
        obtain ⟨g, q3, hg, ht3, hm3, hs3⟩ := hF.w.owner hoe1 hm hm0
        obtain ⟨u0, hu0, hu0q⟩ := opAt_iff.1 hg
        have hu1 := hTg g u0 hu0
        -- the operation goes on
        have hnext : ∃ u2 q4, (T.step i p e0 v0).evs[g]? = some u2 ∧ u2.inv = u0.inv ∧ u2.q = .inl q4 ∧ q4.th = q3.th := by
          rw [hev]
          by_cases hge : g = e0
          · subst hge
            rw [h2] at hu1; cases hu1
            refine ⟨midEv T v0, _, List.getElem?_set_self hel, m2, (midEv_q T v0).trans (by rw [hu0q, ad_stepQ]), (adNext_keeps _ _).1⟩
          · exact ⟨u0, q3, by rw [List.getElem?_set_ne (fun h => hge h.symm)]; exact hu1, rfl, hu0q, rfl⟩
        obtain ⟨u2, q4, n1, n2, n3, n4⟩ := hnext
        have hog : opAt (T.step i p e0 v0).evs g = some q4 := opAt_iff.2 ⟨u2, n1, n3⟩
        have hgf := hF'.w.one g f q4 q' hog hof (by rw [n4]; exact ht3)
        subst hgf
        rw [n1] at hu; cases hu
        rw [n2]
        exact hT e g v u0 q q3 m hvs hvq hvr hu0 hu0q (by rw [ht3]; exact hm) hm0
  have := foldM (R := fun st => Wf cs st ∧ RowI cs st ∧ AdF n cs st ∧ AdT st) key picks _
    ⟨Wf.first cs (List.replicate (2 * n) 0) ad0, ⟨fun v hv => by simp [stM] at hv, fun i j u v _ hu => by simp [stM] at hu, fun i j u v _ hu => by simp [stM] at hu, fun v hv => by simp [stM] at hv, fun v hv => by simp [stM] at hv, fun e v p hv => by simp [stM] at hv, rfl⟩, adF_first, fun e f v u q q' m hv => by simp [stM] at hv⟩
  exact ⟨this.2.2.1, this.2.2.2⟩
/-- what the laws ask -/
def adDone (cs : List CallV) (x : EvR) : Bool := match cs[x.i]? with
  | some c => decide (c.o = 0 ∧ c.k = 0 ∧ x.resp ≠ 0 ∧ x.ans.err = 0)
  | none => false
theorem adDone_some {x : EvR} {c : CallV} (h : cs[x.i]? = some c) : adDone cs x = decide (c.o = 0 ∧ c.k = 0 ∧ x.resp ≠ 0 ∧ x.ans.err = 0) := by unfold adDone; rw [h]
def adProp (cs : List CallV) (x y : EvR) : Bool := match cs[y.i]? with
  | some c => decide (c.o = 0 ∧ c.k = 0 ∧ c.a = x.ans.val / 2 ∧ y.inv < x.resp)
  | none => false
theorem adProp_some {x y : EvR} {c : CallV} (h : cs[y.i]? = some c) : adProp cs x y = decide (c.o = 0 ∧ c.k = 0 ∧ c.a = x.ans.val / 2 ∧ y.inv < x.resp) := by unfold adProp; rw [h]
structure HoldsOk (cs : List CallV) (evs : List EvR) : Prop where
  call : ∀ x ∈ evs, x.i < cs.length
  prop : ∀ x ∈ evs, adDone cs x = true → evs.any (adProp cs x) = true
  same : ∀ x ∈ evs, ∀ y ∈ evs, adDone cs x = true → adDone cs y = true → x.ans.val % 2 = 1 → y.ans.val / 2 = x.ans.val / 2
  bnd : ∀ x ∈ evs, adDone cs x = true → x.ans.val < 17179869184
theorem AdW.res_lt {ws : List Nat} {pv : Nat → Bool} {O : Nat → Option AdQ} (h : AdW n ws pv O) {e : Nat} {q : AdQ} (he : O e = some q) : adRes q.num q.seen < 17179869184 := by
  have t := (h.th e q he).2.2.1
  unfold adRes
  cases hfi : q.seen.find? oddB with
  | none => simp only; omega
  | some m =>
    obtain ⟨k1, j, k2⟩ := adFind_some hfi
    obtain ⟨g, q3, hg, _, hm3, _⟩ := h.owner he k2 (by omega)
    have t3 := (h.th g q3 hg).2.2.1
    have hm : m / 2 = q3.num := by rw [hm3, adMark_half]
    simp only
    rw [hm]
    split <;> omega
theorem ad_holds (hn : 1 ≤ n) {st : St (adM n)} (h : AdF n cs st) (hT : AdT st) (hR : RowI cs st) : HoldsOk cs (repOf st).evs := by
  have hmem : ∀ x ∈ (repOf st).evs, ∃ e v, st.evs[e]? = some v ∧ x = evR st.s v := fun x hx => by
    obtain ⟨v, hv, rfl⟩ := List.mem_map.1 hx
    obtain ⟨e, he⟩ := List.mem_iff_getElem?.1 hv
    exact ⟨e, v, he, rfl⟩
  have hdone : ∀ e v, st.evs[e]? = some v → adDone cs (evR st.s v) = true → ∃ q x, v.q = .inl q ∧ AdEv n cs v q x ∧ v.resp ≠ 0 := fun e v hv hd => by
    obtain ⟨c, hc⟩ : ∃ c, cs[v.i]? = some c := ⟨_, List.getElem?_eq_getElem (hR.call v (List.mem_of_getElem? hv)).1⟩
    rw [adDone_some (c := c) hc] at hd
    obtain ⟨_, _, d3, d4⟩ := of_decide_eq_true hd
    have d3' : v.resp ≠ 0 := d3
    have d4' : v.ans.err = 0 := d4
    cases hq : v.q with
    | inl q =>
      obtain ⟨x, hx⟩ := h.ev e v q hv hq
      exact ⟨q, x, rfl, hx, d3'⟩
    | inr er =>
      obtain ⟨x, hx⟩ := h.er e v er hv hq
      exact absurd ((hx.ans d3').symm.trans d4') hx.ne
  refine ⟨fun x hx => ?_, fun x hx hd => ?_, fun x hx y hy hdx hdy ho => ?_, fun x hx hd => ?_⟩
  · obtain ⟨e, v, hv, rfl⟩ := hmem x hx
    exact (hR.call v (List.mem_of_getElem? hv)).1
  · obtain ⟨e, v, hv, rfl⟩ := hmem x hx
    obtain ⟨q, c, hq, hE, hr⟩ := hdone e v hv hd
    obtain ⟨d1, d2⟩ := hE.done hr
    have hop : opAt st.evs e = some q := opAt_iff.2 ⟨v, hv, hq⟩
    have hval : (evR st.s v).ans.val = adRes q.num q.seen := by show v.ans.val = _; rw [d2]
    rw [List.any_eq_true]
    rcases h.w.whose hop with hw | ⟨f, q', j, m, hf, hj, hm, hm0, hw⟩
    · refine ⟨evR st.s v, hx, ?_⟩
      rw [adProp_some (c := c) hE.cl, hval, hw]
      have hc := (hR.call v (List.mem_of_getElem? hv)).2.2.2.2.2 hr
      have hl := (h.w.own hop d1 hn).2
      have hs := hE.steps
      have hnm := hE.num
      exact decide_eq_true ⟨hE.ob, hE.kd, by omega, by show v.inv < v.resp; omega⟩
    · obtain ⟨u, hu, huq⟩ := opAt_iff.1 hf
      obtain ⟨c', hE'⟩ := h.ev f u q' hu huq
      refine ⟨evR st.s u, List.mem_map.2 ⟨u, List.mem_of_getElem? hu, rfl⟩, ?_⟩
      rw [adProp_some (c := c') hE'.cl, hval, hw]
      have hnm := hE'.num
      exact decide_eq_true ⟨hE'.ob, hE'.kd, by omega, hT e f v u q q' m hv hq hr hu huq (by rw [hj]; exact hm) hm0⟩
  · obtain ⟨e, v, hv, rfl⟩ := hmem x hx
    obtain ⟨f, u, hu, rfl⟩ := hmem y hy
    obtain ⟨q, c, hq, hE, hr⟩ := hdone e v hv hdx
    obtain ⟨q', c', hq', hE', hr'⟩ := hdone f u hu hdy
    obtain ⟨d1, d2⟩ := hE.done hr
    obtain ⟨d1', d2'⟩ := hE'.done hr'
    have e1 : (evR st.s v).ans.val = adRes q.num q.seen := by show v.ans.val = _; rw [d2]
    have e2 : (evR st.s u).ans.val = adRes q'.num q'.seen := by show u.ans.val = _; rw [d2']
    rw [e1, e2]
    rw [e1] at ho
    exact h.w.holds hn (opAt_iff.2 ⟨v, hv, hq⟩) (opAt_iff.2 ⟨u, hu, hq'⟩) d1 d1' ho
  · obtain ⟨e, v, hv, rfl⟩ := hmem x hx
    obtain ⟨q, c, hq, hE, hr⟩ := hdone e v hv hd
    have d2 := (hE.done hr).2
    show v.ans.val < _
    rw [d2]
    exact h.w.res_lt (opAt_iff.2 ⟨v, hv, hq⟩)
/-- all propose one number -/
theorem ad_same (hn : 1 ≤ n) {a : Nat} (ha : a < 2147483648) (hcs : ∀ (i : Nat) (x : CallV), cs[i]? = some x → x.t = (i : Int) ∧ x.o = 0 ∧ x.k = 0 ∧ x.a = a) {st : St (adM n)} (h : AdF n cs st) (hR : RowI cs st) : ∀ x ∈ (repOf st).evs, x.resp ≠ 0 → x.ans.val = 2 * a + 1 := by
  intro x hx hr
  obtain ⟨v, hvm, rfl⟩ := List.mem_map.1 hx
  obtain ⟨e, hv⟩ := List.mem_iff_getElem?.1 hvm
  have hr' : v.resp ≠ 0 := hr
  show v.ans.val = _
  cases hq : v.q with
  | inl q =>
    obtain ⟨c, hE⟩ := h.ev e v q hv hq
    obtain ⟨d1, d2⟩ := hE.done hr'
    rw [d2]
    refine h.w.same hn (fun f q' hf => ?_) (opAt_iff.2 ⟨v, hv, hq⟩) d1
    obtain ⟨u, hu, huq⟩ := opAt_iff.1 hf
    obtain ⟨c', hE'⟩ := h.ev f u q' hu huq
    rw [hE'.num, (hcs _ _ hE'.cl).2.2.2]
  | inr er =>
    obtain ⟨c, hE⟩ := h.er e v er hv hq
    obtain ⟨c1, c2, c3, c4⟩ := hcs _ _ hE.cl
    rcases hE.why with w | w | w | ⟨f, u, q, hfe, hu, huq, hth⟩
    · exact absurd c2 w
    · exact absurd c3 w
    · omega
    · obtain ⟨c', hE'⟩ := h.ev f u q hu huq
      have h1 := (hcs _ _ hE'.cl).1
      have h2 := hE'.th
      have := hR.same f e u v hfe hu hv (by rw [thr_get hE'.cl, thr_get hE.cl, h2, hth])
      omega
end
end Go.Proofs.Ytglpalomhhhmhaa
