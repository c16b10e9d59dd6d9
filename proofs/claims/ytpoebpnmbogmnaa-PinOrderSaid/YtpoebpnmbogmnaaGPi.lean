/- Pin's history: what was written last is read. | Pin's history is kept by each step; what a play comes to. | Pin: operations done one by one, in the order of their keys, answer the same, plainly. -/
import Derived.Test.YtpoebpnmbogmnaaGPa
import Derived.Test.YtpoebpnmbogmnaaGQ2
import Derived.Test.YtpoebpnmbogmnaaGQ1
namespace Go.Proofs.Ytpoebpnmbogmnaa
section
open Go.RowKit
set_option linter.unusedVariables false
section
variable {n w : Nat} {cs : List CallV}
def isWr (cs : List CallV) (i : Nat) : Prop := ∃ x, cs[i]? = some x ∧ x.t = 0 ∧ x.o = 0 ∧ x.k = 0
def LastC (cs : List CallV) (evs : List (Ev (pinM n w))) (V : Nat → Nat) : Prop :=
  ((∀ i, V i = 0) ∧ ∀ v ∈ evs, isWr cs v.i → v.resp = 0) ∨
  ∃ u ∈ evs, ∃ x, cs[u.i]? = some x ∧ (x.t = 0 ∧ x.o = 0 ∧ x.k = 0) ∧ ¬ u.resp = 0 ∧ (∀ i, V i = (x.a + i) % 18446744073709551616) ∧ ∀ v ∈ evs, isWr cs v.i → ¬ v.resp = 0 → v.resp ≤ u.resp
def LastV (cs : List CallV) (evs : List (Ev (pinM n w))) (t : Nat) (V : Nat → Nat) : Prop :=
  ((∀ i, V i = 0) ∧ ∀ v ∈ evs, isWr cs v.i → ¬ v.resp = 0 → t < v.resp) ∨
  ∃ u ∈ evs, ∃ x, cs[u.i]? = some x ∧ (x.t = 0 ∧ x.o = 0 ∧ x.k = 0) ∧ ¬ u.resp = 0 ∧ u.resp < t ∧ (∀ i, V i = (x.a + i) % 18446744073709551616) ∧ ∀ v ∈ evs, isWr cs v.i → ¬ v.resp = 0 → v.resp ≤ u.resp ∨ t < v.resp
theorem LastC.atT {evs : List (Ev (pinM n w))} {V : Nat → Nat} (h : LastC cs evs V) {t : Nat} (hr : ∀ v ∈ evs, v.resp < t) : LastV cs evs t V := by
  rcases h with ⟨h1, h2⟩ | ⟨u, hu, x, h1, h2, h3, h4, h5⟩
  · exact .inl ⟨h1, fun v hv hw hd => absurd (h2 v hv hw) hd⟩
  · exact .inr ⟨u, hu, x, h1, h2, h3, hr u hu, h4, fun v hv hw hd => .inl (h5 v hv hw hd)⟩
theorem LastC.mono {evs evs' : List (Ev (pinM n w))} {V : Nat → Nat} (h : LastC cs evs V) (hk : ∀ u ∈ evs, ¬ u.resp = 0 → u ∈ evs') (hn : ∀ v ∈ evs', isWr cs v.i → ¬ v.resp = 0 → v ∈ evs) : LastC cs evs' V := by
  rcases h with ⟨h1, h2⟩ | ⟨u, hu, x, h1, h2, h3, h4, h5⟩
  · exact .inl ⟨h1, fun v hv hw => Classical.byContradiction fun hd => hd (h2 v (hn v hv hw hd) hw)⟩
  · exact .inr ⟨u, hk u hu h3, x, h1, h2, h3, h4, fun v hv hw hd => h5 v (hn v hv hw hd) hw hd⟩
theorem LastV.mono {evs evs' : List (Ev (pinM n w))} {t : Nat} {V : Nat → Nat} (h : LastV cs evs t V) (hk : ∀ u ∈ evs, ¬ u.resp = 0 → u ∈ evs') (hn : ∀ v ∈ evs', isWr cs v.i → ¬ v.resp = 0 → v ∈ evs ∨ t < v.resp) : LastV cs evs' t V := by
  rcases h with ⟨h1, h2⟩ | ⟨u, hu, x, h1, h2, h3, h4, h5, h6⟩
  · exact .inl ⟨h1, fun v hv hw hd => (hn v hv hw hd).elim (fun h => h2 v h hw hd) id⟩
  · exact .inr ⟨u, hk u hu h3, x, h1, h2, h3, h4, h5, fun v hv hw hd => (hn v hv hw hd).elim (fun h => h6 v h hw hd) .inr⟩
def errOf (x : CallV) : Nat := if x.o < 0 ∨ 1 ≤ x.o then 12 else if x.k = 0 then (if x.t = 0 then 0 else 11) else 9
def isRd (x : CallV) : Prop := x.o = 0 ∧ x.k = 1
def rdQ : PinQ ⊕ Nat → Option (Nat × Nat)
  | .inl (.take t0 q _) => some (t0, q)
  | .inl (.leave t0 q _) => some (t0, q)
  | _ => none
def PinD (n w : Nat) (cs : List CallV) (evs : List (Ev (pinM n w))) (inv resp : Nat) (key : List Nat) (ans : Ans) (x : CallV) : Prop :=
  (isRd x → ∃ t0 V, key = [2 * t0] ∧ inv ≤ t0 ∧ t0 < resp ∧ LastV cs evs t0 V ∧ ans = ⟨0, 0, (List.range w).map V⟩) ∧ (¬ isRd x → key = [2 * resp] ∧ ans = ⟨errOf x, 0, []⟩)
structure PinV (n w : Nat) (cs : List CallV) (st : St (pinM n w)) : Prop where
  cur : ∃ V, LastC cs st.evs V ∧ ∀ c, c < w → st.ws.getD (wdA n w st.s.cur c) 0 = V c
  rd : ∀ (e : Nat) (v : Ev (pinM n w)) (t0 q : Nat), st.evs[e]? = some v → v.resp = 0 → rdQ v.q = some (t0, q) → ∃ V, LastV cs st.evs t0 V ∧ ∀ c, c < w → st.ws.getD (wdA n w q c) 0 = V c
  er : ∀ (e : Nat) (v : Ev (pinM n w)) (er : Nat), st.evs[e]? = some v → v.resp = 0 → v.q = .inr er → ∀ x, cs[v.i]? = some x → er = errOf x ∧ ¬ isRd x ∧ ¬ (x.t = 0 ∧ x.o = 0 ∧ x.k = 0)
  done : ∀ (e : Nat) (v : Ev (pinM n w)), st.evs[e]? = some v → ¬ v.resp = 0 → ∀ x, cs[v.i]? = some x → PinD n w cs st.evs v.inv v.resp v.key v.ans x
theorem inv_err (s : (pinM n w).S) (x : CallV) (er : Nat) (h : (invQ (M := pinM n w) s x).2 = .inr er) : er = errOf x ∧ ¬ isRd x ∧ ¬ (x.t = 0 ∧ x.o = 0 ∧ x.k = 0) := by
  have hm : ((pinM n w).m : Int) = 1 := rfl
  unfold invQ at h
  unfold errOf isRd
  by_cases ho : x.o < 0 ∨ 1 ≤ x.o
  · rw [if_pos (by rw [hm]; exact ho)] at h
    rw [if_pos ho]
    cases h
    exact ⟨rfl, by omega, by omega⟩
  · rw [if_neg (by rw [hm]; exact ho), pin_inv_eq] at h
    rw [if_neg ho]
    simp only at h
    by_cases k0 : x.k = 0
    · rw [if_pos k0] at h ⊢
      by_cases t0 : x.t = 0
      · rw [if_pos t0] at h; cases h
      · rw [if_neg t0] at h ⊢
        cases h
        exact ⟨rfl, by omega, by omega⟩
    · rw [if_neg k0] at h ⊢
      by_cases k1 : x.k = 1
      · rw [if_pos k1] at h; cases h
      · rw [if_neg k1] at h
        cases h
        exact ⟨rfl, by omega, by omega⟩
theorem rd_new (s : (pinM n w).S) (x : CallV) : rdQ (invQ (M := pinM n w) s x).2 = none := by
  unfold invQ
  split
  · rfl
  · rw [pin_inv_eq]
    simp only
    split
    · split <;> rfl
    · split <;> rfl
theorem rd_tk {q : PinQ ⊕ Nat} {t0 b : Nat} (h : rdQ q = some (t0, b)) : tkOf q = some t0 ∧ inB b q = true := by
  cases q with
  | inr e => cases h
  | inl q =>
    match q, h with
    | .take t1 b1 l, h => cases h; exact ⟨rfl, decide_eq_true rfl⟩
    | .leave t1 b1 l, h => cases h; exact ⟨rfl, decide_eq_true rfl⟩
theorem pinV_first (ws : List Nat) (hws : ∀ a, ws.getD a 0 = 0) (s : PinS) : PinV n w cs (stM (M := pinM n w) cs ws s) :=
  ⟨⟨fun _ => 0, .inl ⟨fun _ => rfl, fun v hv => by simp [stM] at hv⟩, fun c _ => hws _⟩, fun e v t0 q hv => by simp [stM] at hv, fun e v er hv => by simp [stM] at hv, fun e v hv => by simp [stM] at hv⟩
theorem pinV_turn {st : St (pinM n w)} (h : PinV n w cs st) (i : Nat) (x : CallV) (hx : cs[i]? = some x) (p : Int) : PinV n w cs (st.turn i x p) := by
  cases hc : st.cur p with
  | some e0 =>
    have htu : st.turn i x p = st.tick := by unfold St.turn; rw [hc]
    rw [htu]
    exact ⟨h.cur, h.rd, h.er, h.done⟩
  | none =>
    have htu : st.turn i x p = st.tick.begin i x p := by unfold St.turn; rw [hc]
    rw [htu]
    have hs : (st.tick.begin i x p).s = st.s := pin_invQ st.s x
    have hev : (st.tick.begin i x p).evs = st.evs ++ [⟨i, st.ticks + 1, 0, 0, ⟨0, 0, []⟩, [], (invQ st.s x).2⟩] := rfl
    have hk : ∀ u ∈ st.evs, ¬ u.resp = 0 → u ∈ (st.tick.begin i x p).evs := fun u hu _ => by rw [hev]; exact List.mem_append.2 (.inl hu)
    have hnw : ∀ v ∈ (st.tick.begin i x p).evs, isWr cs v.i → ¬ v.resp = 0 → v ∈ st.evs := fun v hv _ hd => by
      rw [hev] at hv
      rcases List.mem_append.1 hv with hv | hv
      · exact hv
      · rw [List.mem_singleton] at hv; subst hv; exact absurd rfl hd
    refine ⟨?_, fun e v t0 q hv hr hq => ?_, fun e v er hv hr hq y hy => ?_, fun e v hv hr y hy => ?_⟩
    · obtain ⟨V, h1, h2⟩ := h.cur
      exact ⟨V, h1.mono hk hnw, fun c hc => by rw [hs]; exact h2 c hc⟩
    · rw [hev] at hv
      rcases snoc_get hv with ⟨_, rfl⟩ | ⟨_, hv'⟩
      · rw [show rdQ (⟨i, st.ticks + 1, 0, 0, ⟨0, 0, []⟩, [], (invQ st.s x).2⟩ : Ev (pinM n w)).q = none from rd_new st.s x] at hq; cases hq
      · obtain ⟨V, h1, h2⟩ := h.rd e v t0 q hv' hr hq
        exact ⟨V, h1.mono hk (fun v hv hw hd => .inl (hnw v hv hw hd)), h2⟩
    · rw [hev] at hv
      rcases snoc_get hv with ⟨_, rfl⟩ | ⟨_, hv'⟩
      · have hy2 : cs[i]? = some y := hy
        rw [hx] at hy2; cases hy2
        exact inv_err st.s x er hq
      · exact h.er e v er hv' hr hq y hy
    · rw [hev] at hv
      rcases snoc_get hv with ⟨_, rfl⟩ | ⟨_, hv'⟩
      · exact absurd rfl hr
      · obtain ⟨a1, a2⟩ := h.done e v hv' hr y hy
        refine ⟨fun hrd => ?_, a2⟩
        obtain ⟨t0, V, b1, b2, b3, b4, b5⟩ := a1 hrd
        exact ⟨t0, V, b1, b2, b3, b4.mono hk (fun v hv hw hd => .inl (hnw v hv hw hd)), b5⟩
/-- one step, told by what it does -/
theorem pinV_build {T : St (pinM n w)} (h : PinV n w cs T) (hts : ∀ (e : Nat) (v : Ev (pinM n w)), T.evs[e]? = some v → ∀ t0, tkOf v.q = some t0 → t0 < T.ticks) (hrs : ∀ v ∈ T.evs, v.resp < T.ticks) {i : Nat} {p : Int} {e : Nat} {v : Ev (pinM n w)} {x : CallV} (hv : T.evs[e]? = some v) (hr0 : v.resp = 0) (hx : cs[v.i]? = some x)
    {s' : PinS} {ws' : List Nat} {cn' : Cn} {q' : PinQ ⊕ Nat} {an : Option Ans}
    (h1 : (stepQ T.s v.q T.ws T.cn T.ticks).s = s') (h2 : (stepQ T.s v.q T.ws T.cn T.ticks).ws = ws') (h4 : (stepQ T.s v.q T.ws T.cn T.ticks).q = q') (h5 : (stepQ T.s v.q T.ws T.cn T.ticks).ans = an)
    (g1 : ∃ V, LastC cs (T.evs.set e (midEv T v)) V ∧ ∀ c, c < w → ws'.getD (wdA n w s'.cur c) 0 = V c)
    (g2 : ∀ (f : Nat) (u : Ev (pinM n w)) (t0 q : Nat), f ≠ e → T.evs[f]? = some u → u.resp = 0 → rdQ u.q = some (t0, q) → ∀ c, c < w → ws'.getD (wdA n w q c) 0 = T.ws.getD (wdA n w q c) 0)
    (g3 : an = none → ∀ t0 q, rdQ q' = some (t0, q) → ∃ V, LastV cs T.evs t0 V ∧ ∀ c, c < w → ws'.getD (wdA n w q c) 0 = V c)
    (g4 : an = none → ∀ er, q' = .inr er → False)
    (g5 : ∀ a, an = some a → PinD n w cs T.evs v.inv T.ticks (keyOr (keyQ (M := pinM n w) s' q') T.ticks) a x) : PinV n w cs (T.step i p e v) := by
  have hel := (List.getElem?_eq_some_iff.1 hv).1
  obtain ⟨m1, m2, m3, m4, m5⟩ := midEv_facts T v
  have hS : (T.step i p e v).s = s' := by rw [← h1]; unfold St.step; split <;> rfl
  have hW : (T.step i p e v).ws = ws' := by rw [step_ws]; exact h2
  have hk : ∀ u ∈ T.evs, ¬ u.resp = 0 → u ∈ T.evs.set e (midEv T v) := fun u hu hd => by
    obtain ⟨f, hf⟩ := List.mem_iff_getElem?.1 hu
    have hfe : f ≠ e := fun ee => by subst ee; rw [hv] at hf; cases hf; exact hd hr0
    exact List.mem_iff_getElem?.2 ⟨f, by rw [List.getElem?_set_ne (fun ee => hfe ee.symm)]; exact hf⟩
  have hnw : ∀ v' ∈ T.evs.set e (midEv T v), ¬ v'.resp = 0 → v' ∈ T.evs ∨ (v' = midEv T v ∧ v'.resp = T.ticks ∧ ∃ a, an = some a) := fun v' hv' hd => by
    obtain ⟨f, hf⟩ := List.mem_iff_getElem?.1 hv'
    rcases set_get hf hel with ⟨_, rfl⟩ | ⟨_, hf'⟩
    · cases ha : an with
      | none => rw [m4 (h5.trans ha)] at hd; exact absurd hr0 hd
      | some a => exact .inr ⟨rfl, m5 a (h5.trans ha), a, rfl⟩
    · exact .inl (List.mem_of_getElem? hf')
  have mono : ∀ {t : Nat} {V : Nat → Nat}, LastV cs T.evs t V → (t < T.ticks ∨ an = none) → LastV cs (T.evs.set e (midEv T v)) t V := fun hL ht => hL.mono hk (fun v' hv' hw' hd => (hnw v' hv' hd).imp id (fun ⟨_, h7, a, ha⟩ => ht.elim (fun h => by omega) (fun h => by rw [h] at ha; cases ha)))
  refine ⟨by rw [hS, hW, step_evs]; exact g1, fun f u t0 q hu hur hq => ?_, fun f u er hu hur hq y hy => ?_, fun f u hu hur y hy => ?_⟩
  · rw [hW, step_evs]
    rw [step_evs] at hu
    rcases set_get hu hel with ⟨_, rfl⟩ | ⟨hfe, hu'⟩
    · cases ha : an with
      | none =>
        rw [midEv_q, h4] at hq
        obtain ⟨V, a1, a2⟩ := g3 ha t0 q hq
        exact ⟨V, mono a1 (.inr ha), a2⟩
      | some a =>
        rw [m5 a (h5.trans ha)] at hur
        have := hrs v (List.mem_of_getElem? hv)
        omega
    · obtain ⟨V, a1, a2⟩ := h.rd f u t0 q hu' hur hq
      exact ⟨V, mono a1 (.inl (hts f u hu' t0 (rd_tk hq).1)), fun c hc => by rw [g2 f u t0 q hfe hu' hur hq c hc]; exact a2 c hc⟩
  · rw [step_evs] at hu
    rcases set_get hu hel with ⟨_, rfl⟩ | ⟨hfe, hu'⟩
    · cases ha : an with
      | none =>
        rw [midEv_q, h4] at hq
        exact (g4 ha er hq).elim
      | some a =>
        rw [m5 a (h5.trans ha)] at hur
        have := hrs v (List.mem_of_getElem? hv)
        omega
    · exact h.er f u er hu' hur hq y hy
  · rw [step_evs] at hu ⊢
    rcases set_get hu hel with ⟨_, rfl⟩ | ⟨hfe, hu'⟩
    · cases ha : an with
      | none => rw [m4 (h5.trans ha)] at hur; exact absurd hr0 hur
      | some a =>
        rw [m1, hx] at hy; cases hy
        obtain ⟨a1, a2⟩ := g5 a ha
        have md : midEv T v = v.done q' T.ticks a (keyQ (M := pinM n w) s' q') := by rw [midEv_done (h5.trans ha), h4, h1]
        rw [m5 a (h5.trans ha), m2]
        have mk : (midEv T v).key = keyOr (keyQ (M := pinM n w) s' q') T.ticks := by rw [md]; rfl
        have ma : (midEv T v).ans = a := by rw [md]; rfl
        rw [mk, ma]
        refine ⟨fun hrd => ?_, a2⟩
        obtain ⟨t0, V, b1, b2, b3, b4, b5⟩ := a1 hrd
        exact ⟨t0, V, b1, b2, b3, mono b4 (.inl b3), b5⟩
    · obtain ⟨a1, a2⟩ := h.done f u hu' hur y hy
      refine ⟨fun hrd => ?_, a2⟩
      obtain ⟨t0, V, b1, b2, b3, b4, b5⟩ := a1 hrd
      have := hrs u (List.mem_of_getElem? hu')
      exact ⟨t0, V, b1, b2, b3, mono b4 (.inl (by omega)), b5⟩
end
end
section
open Go.RowKit
set_option linter.unusedVariables false
section
variable {n w : Nat} {cs : List CallV}
theorem lastC_set {T : St (pinM n w)} {e : Nat} {v : Ev (pinM n w)} {V : Nat → Nat} (h : LastC cs T.evs V) (hv : T.evs[e]? = some v) (hr0 : v.resp = 0) (hno : ¬ isWr cs v.i ∨ (stepQ T.s v.q T.ws T.cn T.ticks).ans = none) : LastC cs (T.evs.set e (midEv T v)) V := by
  have hel := (List.getElem?_eq_some_iff.1 hv).1
  obtain ⟨m1, m2, m3, m4, m5⟩ := midEv_facts T v
  refine h.mono (fun u hu hd => ?_) (fun v' hv' hw' hd => ?_)
  · obtain ⟨f, hf⟩ := List.mem_iff_getElem?.1 hu
    have hfe : f ≠ e := fun ee => by subst ee; rw [hv] at hf; cases hf; exact hd hr0
    exact List.mem_iff_getElem?.2 ⟨f, by rw [List.getElem?_set_ne (fun ee => hfe ee.symm)]; exact hf⟩
  · obtain ⟨f, hf⟩ := List.mem_iff_getElem?.1 hv'
    rcases set_get hf hel with ⟨_, rfl⟩ | ⟨_, hf'⟩
    · rw [m1] at hw'
      exact hno.elim (fun h => absurd hw' h) (fun h => by rw [m4 h] at hd; exact absurd hr0 hd)
    · exact List.mem_of_getElem? hf'
theorem ins_pos {evs : List (Ev (pinM n w))} {u : Ev (pinM n w)} {f b t0 : Nat} (hu : evs[f]? = some u) (hr : u.resp = 0) (hq : rdQ u.q = some (t0, b)) : 0 < insN evs b := by
  unfold insN
  refine List.countP_pos_iff.2 ⟨u, List.mem_of_getElem? hu, ?_⟩
  unfold insE
  rw [hr, (rd_tk hq).2]
  rfl
theorem pinV_step {T : St (pinM n w)} (hn : 1 ≤ n ∧ n ≤ 16) (hw : 1 ≤ w) (hF : PinF n w cs T) (h : PinV n w cs T) (hT : PinT T) (hts : ∀ (e : Nat) (v : Ev (pinM n w)), T.evs[e]? = some v → ∀ t0, tkOf v.q = some t0 → t0 < T.ticks) (hrs : ∀ v ∈ T.evs, v.resp < T.ticks) (ht : 0 < T.ticks) {i : Nat} {p : Int} {e : Nat} {v : Ev (pinM n w)} (hv : T.evs[e]? = some v) (hr0 : v.resp = 0) : PinV n w cs (T.step i p e v) := by
  have hO := hF.ev e v hv hr0
  have hE := loE_lt T.ws
  have hcur := hF.cur
  obtain ⟨Vc, hC1, hC2⟩ := h.cur
  cases hq : v.q with
  | inr er =>
    rw [hq] at hO
    obtain ⟨hs0, x, hx, hnr⟩ := hO
    obtain ⟨b1, b2, b3⟩ := h.er e v er hv hr0 hq x hx
    refine pinV_build (x := x) (s' := T.s) (ws' := T.ws) (cn' := T.cn) (q' := .inr er) (an := some ⟨er, 0, []⟩) h hts hrs hv hr0 hx (by rw [hq]; rfl) (by rw [hq]; rfl) (by rw [hq]; rfl) (by rw [hq]; rfl) ⟨Vc, lastC_set hC1 hv hr0 (.inl fun ⟨y, hy, h1⟩ => by rw [hx] at hy; cases hy; exact b3 h1), hC2⟩ (fun _ _ _ _ _ _ _ _ _ _ => rfl) (fun hh => by cases hh) (fun hh => by cases hh) (fun a ha => ?_)
    cases ha
    exact ⟨fun hh => absurd hh b2, fun _ => ⟨rfl, by rw [b1]⟩⟩
  | inl q0 =>
    rw [hq] at hO
    match q0, hq, hO with
    | .wdone, hq, hO => exact hO.elim
    | .rdone t0, hq, hO => exact hO.elim
    | .look a q, hq, hO =>
      obtain ⟨x, h1, h2, h3, h4, h5, h6, _⟩ := hO
      have e0 := pin_look (n := n) (w := w) T.s a q T.ws T.cn T.ticks
      rw [← hq] at e0
      refine pinV_build (x := x) (s' := T.s) (ws' := T.ws) (cn' := T.cn) (q' := _) (an := none) h hts hrs hv hr0 h1 (by rw [e0]) (by rw [e0]) (by rw [e0]) (by rw [e0]) ⟨Vc, lastC_set hC1 hv hr0 (.inr (by rw [e0])), hC2⟩ (fun _ _ _ _ _ _ _ _ _ _ => rfl) (fun _ t0 b hb => ?_) (fun _ er hh => by cases hh) (fun _ hh => by cases hh)
      split at hb <;> cases hb
    | .fill a q j, hq, hO =>
      obtain ⟨x, h1, h2, h3, h4, h5, h6, h7, h8, h9, _⟩ := hO
      have e0 := pin_fill (n := n) (w := w) T.s a q j T.ws T.cn T.ticks
      rw [← hq] at e0
      refine pinV_build (x := x) (s' := T.s) (ws' := _) (cn' := T.cn) (q' := _) (an := none) h hts hrs hv hr0 h1 (by rw [e0]) (by rw [e0]) (by rw [e0]) (by rw [e0]) ⟨Vc, lastC_set hC1 hv hr0 (.inr (by rw [e0])), fun c hc => by rw [gD_ne (wd_ne hc h9 (fun ee => h6 ee.symm))]; exact hC2 c hc⟩ (fun f u t0 b _ hu hur hb c hc => gD_ne (wd_ne hc h9 (fun ee => ?_))) (fun _ t0 b hb => ?_) (fun _ er hh => by cases hh) (fun _ hh => by cases hh)
      · subst ee
        have := ins_pos hu hur hb
        omega
      · split at hb <;> cases hb
    | .pub a q, hq, hO =>
      obtain ⟨x, h1, h2, h3, h4, h5, h6, h7, h8, h9, h10⟩ := hO
      have e0 := pin_pub (n := n) (w := w) T.s a q T.ws T.cn T.ticks
      rw [← hq] at e0
      have hel := (List.getElem?_eq_some_iff.1 hv).1
      obtain ⟨m1, m2, m3, m4, m5⟩ := midEv_facts T v
      have hrT : (midEv T v).resp = T.ticks := m5 ⟨0, 0, []⟩ (by rw [e0])
      have h0w : ∀ c, wdA n w q c ≠ 0 := fun c => by have := wd_big (n := n) (w := w) q c; omega
      refine pinV_build (x := x) (s' := pinPub T.s q (T.ws.getD 0 0)) (ws' := _) (cn' := T.cn) (q' := .inl .wdone) (an := some ⟨0, 0, []⟩) h hts hrs hv hr0 h1 (by rw [e0]) (by rw [e0]) (by rw [e0]) (by rw [e0]) ⟨fun c => (x.a + c) % 18446744073709551616, .inr ⟨midEv T v, List.mem_iff_getElem?.2 ⟨e, List.getElem?_set_self hel⟩, x, by rw [m1]; exact h1, ⟨h2, h3, h4⟩, by rw [hrT]; omega, fun _ => rfl, fun v' hv' _ hd => ?_⟩, fun c hc => ?_⟩ (fun f u t0 b _ hu hur hb c hc => gD_ne (by have := wd_big (n := n) (w := w) b c; omega)) (fun hh => by cases hh) (fun hh => by cases hh) (fun a' ha => ?_)
      · rw [hrT]
        obtain ⟨f, hf⟩ := List.mem_iff_getElem?.1 hv'
        rcases set_get hf hel with ⟨_, rfl⟩ | ⟨_, hf'⟩
        · rw [hrT]; exact Nat.le_refl _
        · exact Nat.le_of_lt (hrs v' (List.mem_of_getElem? hf'))
      · show (T.ws.set 0 _).getD (wdA n w q c) 0 = _
        rw [gD_ne (h0w c), h10 c hc, h5]
      · cases ha
        refine ⟨fun hh => ?_, fun _ => ⟨rfl, ?_⟩⟩
        · have := hh.2
          omega
        · have : errOf x = 0 := by unfold errOf; rw [if_neg (by omega), if_pos h4, if_pos h2]
          rw [this]
    | .enter, hq, hO =>
      obtain ⟨x, h1, h2, h3, h4⟩ := hO
      have e0 := pin_enter (n := n) (w := w) T.s T.ws T.cn T.ticks
      rw [← hq] at e0
      have h0w : ∀ b c, wdA n w b c ≠ 0 := fun b c => by have := wd_big (n := n) (w := w) b c; omega
      have hb0 : T.ws.getD 0 0 / 4294967296 = T.s.cur := by have := hF.cell; omega
      refine pinV_build (x := x) (s' := T.s) (ws' := _) (cn' := T.cn) (q' := _) (an := none) h hts hrs hv hr0 h1 (by rw [e0]) (by rw [e0]) (by rw [e0]) (by rw [e0]) ⟨Vc, lastC_set hC1 hv hr0 (.inr (by rw [e0])), fun c hc => by rw [gD_ne (h0w _ c)]; exact hC2 c hc⟩ (fun f u t0 b _ hu hur hb c hc => gD_ne (h0w b c)) (fun _ t0 b hb => ?_) (fun _ er hh => by cases hh) (fun _ hh => by cases hh)
      cases hb
      exact ⟨Vc, hC1.atT hrs, fun c hc => by rw [gD_ne (h0w _ c), hb0]; exact hC2 c hc⟩
    | .take t1 q l, hq, hO =>
      obtain ⟨x, h1, h2, h3, h4, _⟩ := hO
      have e0 := pin_take (n := n) (w := w) T.s t1 q l T.ws T.cn T.ticks
      rw [← hq] at e0
      obtain ⟨V, a1, a2⟩ := h.rd e v t1 q hv hr0 (by rw [hq]; rfl)
      refine pinV_build (x := x) (s' := T.s) (ws' := T.ws) (cn' := T.cn) (q' := _) (an := none) h hts hrs hv hr0 h1 (by rw [e0]) (by rw [e0]) (by rw [e0]) (by rw [e0]) ⟨Vc, lastC_set hC1 hv hr0 (.inr (by rw [e0])), hC2⟩ (fun _ _ _ _ _ _ _ _ _ _ => rfl) (fun _ t0 b hb => ?_) (fun _ er hh => by cases hh) (fun _ hh => by cases hh)
      have hb' : some (t1, q) = some (t0, b) := by split at hb <;> exact hb
      cases hb'
      exact ⟨V, a1, a2⟩
    | .leave t1 q l, hq, hO =>
      obtain ⟨x, h1, h2, h3, h4, h5, h6, h7⟩ := hO
      have e0 := pin_leave (n := n) (w := w) T.s t1 q l T.ws T.cn T.ticks
      rw [← hq] at e0
      obtain ⟨V, a1, a2⟩ := h.rd e v t1 q hv hr0 (by rw [hq]; rfl)
      have htk : tkOf v.q = some t1 := by rw [hq]; rfl
      have h1q : ∀ b c, wdA n w b c ≠ 1 + q := fun b c => by have := wd_big (n := n) (w := w) b c; omega
      refine pinV_build (x := x) (s' := T.s) (ws' := _) (cn' := T.cn) (q' := .inl (.rdone t1)) (an := some ⟨0, 0, l⟩) h hts hrs hv hr0 h1 (by rw [e0]) (by rw [e0]) (by rw [e0]) (by rw [e0]) ⟨Vc, lastC_set hC1 hv hr0 (.inl fun ⟨y, hy, _, _, hk⟩ => by rw [h1] at hy; cases hy; omega), fun c hc => by rw [gD_ne (h1q _ c)]; exact hC2 c hc⟩ (fun f u t0 b _ hu hur hb c hc => gD_ne (h1q b c)) (fun hh => by cases hh) (fun hh => by cases hh) (fun a' ha => ?_)
      cases ha
      refine ⟨fun _ => ⟨t1, V, rfl, ((hT e v hv).2 t1 htk).1, hts e v hv t1 htk, a1, ?_⟩, fun hh => absurd ⟨h2, h3⟩ hh⟩
      have : l = (List.range w).map V := by
        apply List.ext_getElem?
        intro c
        rw [List.getElem?_map]
        by_cases hc : c < w
        · rw [h7 c (by omega), a2 c hc, List.getElem?_range hc]; rfl
        · rw [List.getElem?_eq_none (by omega), List.getElem?_eq_none (by rw [List.length_range]; omega)]; rfl
      rw [this]
structure PinH (n w : Nat) (cs : List CallV) (st : St (pinM n w)) : Prop where
  wf : Wf cs st
  cn : CnOk st
  i : PinI n w cs st
  t : PinT st
  v : PinV n w cs st
  r : ∀ v ∈ st.evs, v.resp ≤ st.ticks
theorem pinH_pick (hn : 1 ≤ n ∧ n ≤ 16) (hw : 1 ≤ w) (hth : ∀ x ∈ cs, 0 ≤ x.t ∧ x.t < n) {st : St (pinM n w)} (h : st.ticks ≤ 70000 → PinH n w cs st) (p : Int) (hk : (pickM cs st p).ticks ≤ 70000) : PinH n w cs (pickM cs st p) := by
  cases hno : nowOf (thr cs) st.fin p with
  | none =>
    rw [pickM_idle hno] at hk ⊢
    have h' := h hk
    exact ⟨h'.wf.idle, h'.cn, pinI_idle h'.i, h'.t, ⟨h'.v.cur, h'.v.rd, h'.v.er, h'.v.done⟩, h'.r⟩
  | some i =>
    have hil := (now_open hno).1
    rw [thr_len] at hil
    obtain ⟨x, hx⟩ : ∃ x, cs[i]? = some x := ⟨cs[i], List.getElem?_eq_getElem hil⟩
    have hle : st.ticks ≤ 70000 := by
      by_cases hwf : Wf cs st
      · obtain ⟨e, v, h1, h2, h3, h4, h5⟩ := pickM_cases hwf hno hx
        rw [h5, step_ticks.1, turn_ticks] at hk
        omega
      · have hpt : (pickM cs st p).ticks = st.ticks + 1 := by
          rw [pickM_turn hno hx]
          unfold St.go
          split
          · rw [turn_ticks]
          · split
            · rw [turn_ticks]
            · rw [step_ticks.1, turn_ticks]
        omega
    have h' := h hle
    obtain ⟨e, v, h1, h2, h3, h4, h5⟩ := pickM_cases h'.wf hno hx
    have hwf2 := h'.wf.pick p
    have hcn2 := h'.cn.pick h'.wf p
    rw [h5] at hwf2 hcn2 hk ⊢
    have htt : (st.turn i x p).ticks = st.ticks + 1 := turn_ticks
    have hi1 := pinI_turn hn.1 hth h'.i hno hx
    have ht1 := pinT_turn h'.t i x p
    have hv1 := pinV_turn h'.v i x hx p
    have hpos : 0 < (st.turn i x p).ticks := by omega
    have hmem : ∀ u ∈ (st.turn i x p).evs, u ∈ st.evs ∨ (u.resp = 0 ∧ tkOf u.q = none) := fun u hu => by
      cases hc : st.cur p with
      | some e0 =>
        have htu : st.turn i x p = st.tick := by unfold St.turn; rw [hc]
        rw [htu] at hu
        exact .inl hu
      | none =>
        have htu : st.turn i x p = st.tick.begin i x p := by unfold St.turn; rw [hc]
        rw [htu] at hu
        have hev : (st.tick.begin i x p).evs = st.evs ++ [⟨i, st.ticks + 1, 0, 0, ⟨0, 0, []⟩, [], (invQ st.s x).2⟩] := rfl
        rw [hev] at hu
        rcases List.mem_append.1 hu with hu | hu
        · exact .inl hu
        · rw [List.mem_singleton] at hu
          subst hu
          exact .inr ⟨rfl, tk_new st.s x⟩
    have hrs : ∀ u ∈ (st.turn i x p).evs, u.resp < (st.turn i x p).ticks := fun u hu => by
      rw [htt]
      rcases hmem u hu with hu | hu
      · have := h'.r u hu; omega
      · omega
    have hts : ∀ (f : Nat) (u : Ev (pinM n w)), (st.turn i x p).evs[f]? = some u → ∀ t0, tkOf u.q = some t0 → t0 < (st.turn i x p).ticks := fun f u hu t0 h0 => by
      rw [htt]
      rcases hmem u (List.mem_of_getElem? hu) with hu' | hu'
      · obtain ⟨g, hg⟩ := List.mem_iff_getElem?.1 hu'
        have := ((h'.t g u hg).2 t0 h0).2
        omega
      · rw [hu'.2] at h0; cases h0
    have hcn3 : (st.turn i x p).cn = st.cn := by unfold St.turn; split <;> rfl
    have hcnb := h'.cn
    unfold CnOk at hcnb
    have hF : PinF n w cs (st.turn i x p) := hi1 (by rw [hcn3]; omega)
    refine ⟨hwf2, hcn2, pinI_step hn hw hi1 hpos h1 h2 h3, pinT_step ht1 h2, pinV_step hn hw hF hv1 ht1 hts hrs hpos h2 h3, fun u hu => ?_⟩
    rw [step_ticks.1]
    have hel := (List.getElem?_eq_some_iff.1 h2).1
    obtain ⟨m1, m2, m3, m4, m5⟩ := midEv_facts (st.turn i x p) v
    rw [step_evs] at hu
    obtain ⟨f, hf⟩ := List.mem_iff_getElem?.1 hu
    rcases set_get hf hel with ⟨_, rfl⟩ | ⟨_, hf'⟩
    · cases ha : (stepQ (st.turn i x p).s v.q (st.turn i x p).ws (st.turn i x p).cn (st.turn i x p).ticks).ans with
      | none => rw [m4 ha]; omega
      | some a => rw [m5 a ha]; exact Nat.le_refl _
    · exact Nat.le_of_lt (hrs u (List.mem_of_getElem? hf'))
theorem pinH_end (hn : 1 ≤ n ∧ n ≤ 16) (hw : 1 ≤ w) (hth : ∀ x ∈ cs, 0 ≤ x.t ∧ x.t < n) (picks : List Int) (hp : picks.length ≤ 65536) : PinH n w cs (endM (M := pinM n w) cs (List.replicate (1 + (n + 1) * (1 + w)) 0) ⟨List.replicate (n + 1) 0, 0, 0⟩ picks) := by
  have h0 := endM_evs (M := pinM n w) cs (List.replicate (1 + (n + 1) * (1 + w)) 0) ⟨List.replicate (n + 1) 0, 0, 0⟩ picks
  exact foldM (R := fun st => st.ticks ≤ 70000 → PinH n w cs st) (fun st p h hk => pinH_pick hn hw hth h p hk) picks _ (fun _ => ⟨Wf.first _ _ _, ⟨Nat.le_refl _, rfl⟩, pinI_first, pinT_first _ _, pinV_first _ (fun a => getD_rep _ _) _, fun v hv => by simp [stM] at hv⟩) (by show (endM (M := pinM n w) cs (List.replicate (1 + (n + 1) * (1 + w)) 0) ⟨List.replicate (n + 1) 0, 0, 0⟩ picks).ticks ≤ 70000; omega)
end
end
section
open Go.RowKit
set_option linter.unusedVariables false
def wrL (a m : Nat) : List Nat := (List.range m).map (fun i => (a + i) % 18446744073709551616)
def pinD (w : Nat) : Mod := ⟨List.replicate w 0, fun st x => if x.k = 1 then (st, ⟨0, 0, st⟩) else if x.k = 0 then (if x.t = 0 then (wrL x.a st.length, ⟨0, 0, []⟩) else (st, ⟨11, 0, []⟩)) else (st, ⟨9, 0, []⟩)⟩
theorem pinD_ap (w : Nat) (st : List Nat) (x : CallV) : (pinD w).ap st x = if x.k = 1 then (st, ⟨0, 0, st⟩) else if x.k = 0 then (if x.t = 0 then (wrL x.a st.length, ⟨0, 0, []⟩) else (st, ⟨11, 0, []⟩)) else (st, ⟨9, 0, []⟩) := rfl
section
variable {n w : Nat} {cs : List CallV}
theorem wrL_len (a m : Nat) : (wrL a m).length = m := by unfold wrL; rw [List.length_map, List.length_range]
theorem pin_mStep_no (st : List Nat) (i : Nat) (h : ¬ isWr cs i) : mStep (pinD w) cs st i = st := by
  cases hx : cs[i]? with
  | none => unfold mStep; rw [hx]
  | some x =>
    by_cases ho : x.o < 0 ∨ 1 ≤ x.o
    · exact mStep_off hx ho
    · rw [mStep_on hx ho, pinD_ap]
      by_cases k1 : x.k = 1
      · rw [if_pos k1]
      · rw [if_neg k1]
        by_cases k0 : x.k = 0
        · rw [if_pos k0]
          by_cases t0 : x.t = 0
          · exact absurd ⟨x, hx, t0, by omega, k0⟩ h
          · rw [if_neg t0]
        · rw [if_neg k0]
theorem pin_mStep_yes {st : List Nat} {i : Nat} {x : CallV} (hx : cs[i]? = some x) (h : x.t = 0 ∧ x.o = 0 ∧ x.k = 0) : mStep (pinD w) cs st i = wrL x.a st.length := by
  rw [mStep_on hx (by omega), pinD_ap, if_neg (by omega), if_pos h.2.2, if_pos h.1]
theorem stAt_zero (D : Mod) (evs : List EvR) : stAt D cs evs 0 = D.st0 := rfl
/-- the state is what was written last in order -/
theorem pin_fold (evs : List EvR) : ∀ k, k ≤ (ordP evs evs.length).length →
    (stAt (pinD w) cs evs k = List.replicate w 0 ∧ ∀ (m j : Nat), m < k → (ordP evs evs.length)[m]? = some j → ¬ isWr cs (callOf evs j)) ∨
    ∃ (m j : Nat) (x : CallV), m < k ∧ (ordP evs evs.length)[m]? = some j ∧ cs[callOf evs j]? = some x ∧ (x.t = 0 ∧ x.o = 0 ∧ x.k = 0) ∧ stAt (pinD w) cs evs k = wrL x.a w ∧ ∀ (m' j' : Nat), m < m' → m' < k → (ordP evs evs.length)[m']? = some j' → ¬ isWr cs (callOf evs j') := by
  intro k
  induction k with
  | zero => intro _; exact .inl ⟨rfl, fun m j hm => absurd hm (Nat.not_lt_zero _)⟩
  | succ k ih =>
    intro hk
    obtain ⟨j, hj⟩ : ∃ j, (ordP evs evs.length)[k]? = some j := ⟨_, List.getElem?_eq_getElem (by omega)⟩
    have hjm := ordP_mem.1 (List.mem_of_getElem? hj)
    obtain ⟨y, hy⟩ : ∃ y, evs[j]? = some y := ⟨_, List.getElem?_eq_getElem hjm.1⟩
    rw [stAt_succ hj hy]
    have hcall : callOf evs j = y.i := callOf_some hy
    have hlen : (stAt (pinD w) cs evs k).length = w := by
      rcases ih (by omega) with ⟨h1, _⟩ | ⟨m, j2, x, _, _, _, _, h1, _⟩
      · rw [h1, List.length_replicate]
      · rw [h1, wrL_len]
    by_cases hw : isWr cs y.i
    · obtain ⟨x, hx, hxw⟩ := hw
      refine .inr ⟨k, j, x, Nat.lt_succ_self k, hj, by rw [hcall]; exact hx, hxw, by rw [pin_mStep_yes hx hxw, hlen], fun m' j' h1 h2 => by omega⟩
    · rw [pin_mStep_no _ _ hw]
      rcases ih (by omega) with ⟨h1, h2⟩ | ⟨m, j2, x, h1, h2, h3, h4, h5, h6⟩
      · refine .inl ⟨h1, fun m j' hm hj' => ?_⟩
        by_cases hmk : m = k
        · subst hmk; rw [hj] at hj'; cases hj'; rw [hcall]; exact hw
        · exact h2 m j' (by omega) hj'
      · refine .inr ⟨m, j2, x, by omega, h2, h3, h4, h5, fun m' j' a1 a2 hj' => ?_⟩
        by_cases hmk : m' = k
        · subst hmk; rw [hj] at hj'; cases hj'; rw [hcall]; exact hw
        · exact h6 m' j' a1 (by omega) hj'
theorem pin_keyD {st : St (pinM n w)} (h : PinV n w cs st) (hR : RowI cs st) {e : Nat} {v : Ev (pinM n w)} (hv : st.evs[e]? = some v) (hr : ¬ v.resp = 0) : ∃ x T, cs[v.i]? = some x ∧ v.key = [2 * T] ∧ v.inv ≤ T ∧ T ≤ v.resp ∧ (isWr cs v.i → T = v.resp) := by
  have hc := hR.call v (List.mem_of_getElem? hv)
  obtain ⟨x, hx⟩ : ∃ x, cs[v.i]? = some x := ⟨_, List.getElem?_eq_getElem hc.1⟩
  obtain ⟨h1, h2⟩ := h.done e v hv hr x hx
  by_cases hrd : isRd x
  · obtain ⟨t0, V, a1, a2, a3, _⟩ := h1 hrd
    refine ⟨x, t0, hx, a1, a2, by omega, fun ⟨y, hy, hyw⟩ => ?_⟩
    rw [hx] at hy; cases hy
    have := hrd.2
    omega
  · exact ⟨x, v.resp, hx, (h2 hrd).1, (hc.2.2.2.2.2 hr).1, Nat.le_refl _, fun _ => rfl⟩
theorem pin_pendK {st : St (pinM n w)} (hF : PinF n w cs st) {e : Nat} {v : Ev (pinM n w)} (hv : st.evs[e]? = some v) (hr : v.resp = 0) : keyQ st.s v.q = [] := by
  have hO := hF.ev e v hv hr
  cases hq : v.q with
  | inr er => rfl
  | inl q =>
    rw [hq] at hO
    match q, hO with
    | .look a q, _ => rfl
    | .fill a q j, _ => rfl
    | .pub a q, _ => rfl
    | .enter, _ => rfl
    | .take t0 q l, _ => rfl
    | .leave t0 q l, _ => rfl
    | .wdone, hO => exact hO.elim
    | .rdone t0, hO => exact hO.elim
theorem pin_in {st : St (pinM n w)} (hF : PinF n w cs st) (h : PinV n w cs st) (hR : RowI cs st) : KeysIn st := fun v hv => by
  obtain ⟨e, he⟩ := List.mem_iff_getElem?.1 hv
  refine ⟨fun hr => ?_, fun hr => .inl (pin_pendK hF he hr)⟩
  obtain ⟨x, T, _, hk, h1, h2, _⟩ := pin_keyD h hR he hr
  exact ⟨2 * T, [], hk, by omega, by omega⟩
theorem aheadK_one (a b : Nat) : aheadK [2 * a] [2 * b] = decide (a < b) := by
  rw [aheadK_cons]
  split
  · next h =>
    rw [show aheadK [] [] = false from rfl, decide_eq_false (by omega)]
  · next h =>
    by_cases hlt : a < b
    · rw [decide_eq_true hlt, decide_eq_true (by omega)]
    · rw [decide_eq_false hlt, decide_eq_false (by omega)]
theorem pin_wrong {st : St (pinM n w)} (hF : PinF n w cs st) (h : PinV n w cs st) (hR : RowI cs st) (hU : RespI st) : WrongOk (pinD w) cs (repOf st).evs := fun k j x hj hx hr => by
  have hget : ∀ (j : Nat) (x : EvR), (repOf st).evs[j]? = some x → ∃ v, st.evs[j]? = some v ∧ x = evR st.s v := fun j x hx => by
    have hx' : (st.evs.map (evR st.s))[j]? = some x := hx
    rw [List.getElem?_map] at hx'
    obtain ⟨v, hv, rfl⟩ := Option.map_eq_some_iff.1 hx'
    exact ⟨v, hv, rfl⟩
  have hput : ∀ (j : Nat) (v : Ev (pinM n w)), st.evs[j]? = some v → (repOf st).evs[j]? = some (evR st.s v) := fun j v hv => by
    show (st.evs.map (evR st.s))[j]? = _
    rw [List.getElem?_map, hv]; rfl
  have hlen : (repOf st).evs.length = st.evs.length := by show (st.evs.map (evR st.s)).length = _; rw [List.length_map]
  have hkeyD : ∀ (j : Nat) (v : Ev (pinM n w)), st.evs[j]? = some v → ¬ v.resp = 0 → keyAt (repOf st).evs j = v.key := fun j v hv hr => by
    rw [keyAt_some (hput j v hv)]
    show (if v.resp = 0 then keyQ st.s v.q else v.key) = v.key
    rw [if_neg hr]
  have hcall : ∀ (j : Nat) (v : Ev (pinM n w)), st.evs[j]? = some v → callOf (repOf st).evs j = v.i := fun j v hv => callOf_some (hput j v hv)
  -- who is in the order has responded
  have hord : ∀ (m j : Nat), (ordP (repOf st).evs (repOf st).evs.length)[m]? = some j → ∃ v, st.evs[j]? = some v ∧ ¬ v.resp = 0 := fun m j hm => by
    have h1 := ordP_mem.1 (List.mem_of_getElem? hm)
    obtain ⟨v, hv⟩ : ∃ v, st.evs[j]? = some v := ⟨_, List.getElem?_eq_getElem (by have := h1.1; omega)⟩
    refine ⟨v, hv, fun hr0 => ?_⟩
    have h2 := h1.2
    rw [keyAt_some (hput j v hv)] at h2
    have h3 : (evR st.s v).key = [] := by
      show (if v.resp = 0 then keyQ st.s v.q else v.key) = []
      rw [if_pos hr0]; exact pin_pendK hF hv hr0
    rw [h3] at h2; simp at h2
  have hsort : ∀ (m m' a b : Nat), m < m' → (ordP (repOf st).evs (repOf st).evs.length)[m]? = some a → (ordP (repOf st).evs (repOf st).evs.length)[m']? = some b → aheadK (keyAt (repOf st).evs b) (keyAt (repOf st).evs a) = false := fun m m' a b hlt ha hb => by
    obtain ⟨h1, h1'⟩ := List.getElem?_eq_some_iff.1 ha
    obtain ⟨h2, h2'⟩ := List.getElem?_eq_some_iff.1 hb
    have := (List.pairwise_iff_getElem.1 (ordP_sorted (repOf st).evs (repOf st).evs.length)) m m' h1 h2 hlt
    rw [h1', h2'] at this
    exact this
  obtain ⟨v, hv, rfl⟩ := hget j x hx
  have hr' : ¬ v.resp = 0 := hr
  have hc := hR.call v (List.mem_of_getElem? hv)
  obtain ⟨y, hy⟩ : ∃ y, cs[v.i]? = some y := ⟨_, List.getElem?_eq_getElem hc.1⟩
  obtain ⟨d1, d2⟩ := h.done j v hv hr' y hy
  have e1 : (evR st.s v).ans = v.ans := rfl
  have e2 : (evR st.s v).i = v.i := rfl
  rw [e1, e2]
  by_cases hrd : isRd y
  · obtain ⟨t0, V, a1, a2, a3, a4, a5⟩ := d1 hrd
    rw [mAns_on hy (by have := hrd.1; omega), pinD_ap, if_pos hrd.2, a5]
    show (⟨0, 0, (List.range w).map V⟩ : Ans) = ⟨0, 0, stAt (pinD w) cs (repOf st).evs k⟩
    have hkl : k ≤ (ordP (repOf st).evs (repOf st).evs.length).length := Nat.le_of_lt (List.getElem?_eq_some_iff.1 hj).1
    have hkx : keyAt (repOf st).evs j = [2 * t0] := by rw [hkeyD j v hv hr', a1]
    -- those ahead in order
    have hahead : ∀ (m jm : Nat) (u : Ev (pinM n w)), m < k → (ordP (repOf st).evs (repOf st).evs.length)[m]? = some jm → st.evs[jm]? = some u → ¬ u.resp = 0 → isWr cs u.i → u.resp ≤ t0 := fun m jm u hm hjm hu hur hw => by
      have h1 := hsort m k jm j hm hjm hj
      obtain ⟨_, T, _, hk2, _, _, hT⟩ := pin_keyD h hR hu hur
      rw [hkx, hkeyD jm u hu hur, hk2, aheadK_one, hT hw] at h1
      have := of_decide_eq_false h1
      omega
    -- who wrote ahead of the read's key stands ahead in order
    have hpos : ∀ (ju : Nat) (u : Ev (pinM n w)), st.evs[ju]? = some u → ¬ u.resp = 0 → isWr cs u.i → u.resp < t0 → ∃ m, m < k ∧ (ordP (repOf st).evs (repOf st).evs.length)[m]? = some ju := fun ju u hu hur hw hlt => by
      obtain ⟨_, T, _, hk2, _, _, hT⟩ := pin_keyD h hR hu hur
      have hin : ju ∈ ordP (repOf st).evs (repOf st).evs.length := ordP_mem.2 ⟨by rw [hlen]; exact (List.getElem?_eq_some_iff.1 hu).1, by rw [hkeyD ju u hu hur, hk2]; simp⟩
      obtain ⟨m, hm⟩ := List.mem_iff_getElem?.1 hin
      refine ⟨m, ?_, hm⟩
      rcases Nat.lt_trichotomy m k with h1 | h1 | h1
      · exact h1
      · subst h1
        rw [hm] at hj; cases hj
        rw [hu] at hv; cases hv
        rw [a1] at hk2
        have h12 : 2 * t0 = 2 * T := by simpa using hk2
        rw [hT hw] at h12; omega
      · have h2 := hsort k m j ju h1 hj hm
        rw [hkx, hkeyD ju u hu hur, hk2, aheadK_one, hT hw, decide_eq_true hlt] at h2
        cases h2
    have key : stAt (pinD w) cs (repOf st).evs k = (List.range w).map V := by
      rcases a4 with ⟨z1, z2⟩ | ⟨u, hu, xu, u1, u2, u3, u4, u5, u6⟩
      · rcases pin_fold (w := w) (cs := cs) (repOf st).evs k hkl with ⟨h1, _⟩ | ⟨m, jm, xm, m1, m2, m3, m4, _, _⟩
        · rw [h1]
          apply List.ext_getElem?
          intro c
          rw [List.getElem?_replicate, List.getElem?_map]
          by_cases hcw : c < w
          · rw [if_pos hcw, List.getElem?_range hcw, Option.map_some, z1]
          · rw [if_neg hcw, List.getElem?_eq_none (by rw [List.length_range]; omega)]; rfl
        · obtain ⟨um, hum, hur⟩ := hord m jm m2
          rw [hcall jm um hum] at m3
          have hw2 : isWr cs um.i := ⟨xm, m3, m4⟩
          have h7 := hahead m jm um m1 m2 hum hur hw2
          have h8 := z2 um (List.mem_of_getElem? hum) hw2 hur
          omega
      · obtain ⟨ju, hju⟩ := List.mem_iff_getElem?.1 hu
        have hwu : isWr cs u.i := ⟨xu, u1, u2⟩
        obtain ⟨mu, hmu, hou⟩ := hpos ju u hju u3 hwu u4
        rcases pin_fold (w := w) (cs := cs) (repOf st).evs k hkl with ⟨_, h2⟩ | ⟨m, jm, xm, m1, m2, m3, m4, m5, m6⟩
        · have := h2 mu ju hmu hou
          rw [hcall ju u hju] at this
          exact absurd hwu this
        · obtain ⟨um, hum, hur⟩ := hord m jm m2
          rw [hcall jm um hum] at m3
          have hw2 : isWr cs um.i := ⟨xm, m3, m4⟩
          have h7 := hahead m jm um m1 m2 hum hur hw2
          have h8 : um.resp ≤ u.resp := (u6 um (List.mem_of_getElem? hum) hw2 hur).elim id (fun h => by omega)
          have hle : ¬ m < mu := fun hlt => by
            have := m6 mu ju hlt hmu hou
            rw [hcall ju u hju] at this
            exact this hwu
          have hsame : um = u := by
            by_cases hmm : mu = m
            · subst hmm
              rw [hou] at m2; cases m2
              rw [hju] at hum; exact (Option.some.inj hum).symm
            · have h9 := hsort mu m ju jm (by omega) hou m2
              obtain ⟨_, T, _, hk2, _, _, hT⟩ := pin_keyD h hR hju u3
              obtain ⟨_, T2, _, hk3, _, _, hT2⟩ := pin_keyD h hR hum hur
              rw [hkeyD jm um hum hur, hkeyD ju u hju u3, hk2, hk3, aheadK_one, hT hwu, hT2 hw2] at h9
              have h10 := of_decide_eq_false h9
              have h11 : um.resp = u.resp := by omega
              by_cases hjj : jm = ju
              · subst hjj; rw [hju] at hum; exact (Option.some.inj hum).symm
              · exact absurd h11 (hU.ne jm ju um u hjj hum hju hur)
          subst hsame
          rw [u1] at m3; cases m3
          rw [m5]
          unfold wrL
          congr 1
          funext c
          exact (u5 c).symm
    rw [key]
  · rw [(d2 hrd).2]
    unfold errOf
    by_cases ho : y.o < 0 ∨ 1 ≤ y.o
    · rw [mAns_off hy ho, if_pos ho]
    · rw [mAns_on hy ho, pinD_ap, if_neg ho, if_neg (show ¬ y.k = 1 from fun hk => hrd ⟨by omega, hk⟩)]
      by_cases k0 : y.k = 0
      · rw [if_pos k0, if_pos k0]
        by_cases t0 : y.t = 0
        · rw [if_pos t0, if_pos t0]
        · rw [if_neg t0, if_neg t0]
      · rw [if_neg k0, if_neg k0]
end
end
end Go.Proofs.Ytpoebpnmbogmnaa
