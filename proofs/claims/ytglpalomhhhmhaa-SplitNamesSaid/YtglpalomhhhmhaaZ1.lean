/- Machines: an object's operations, plainly, access by access; a play of them. -/
import Derived.Test.YtglpalomhhhmhaaY2
namespace Go.Proofs.Ytglpalomhhhmhaa
open Go.RowKit

structure Ans where
  err : Nat
  val : Nat
  list : List Nat
inductive Acc where
  | rd (a : Nat)
  | wr (a v : Nat)
  | sw (a x y : Nat)
  | ad (a d : Nat)
def Acc.at' : Acc → Nat
  | .rd a => a
  | .wr a _ => a
  | .sw a _ _ => a
  | .ad a _ => a
/-- what an access tells, and leaves -/
def Acc.run : Acc → List Nat → Cn → Nat × List Nat × Cn
  | .rd a, l, c => (l.getD a 0, l, { c with r := c.r + 1 })
  | .wr a v, l, c => (0, l.set a v, { c with w := c.w + 1 })
  | .sw a x y, l, c => if l.getD a 0 = x then (1, l.set a y, { c with s := c.s + 1 }) else (0, l, { c with s := c.s + 1 })
  | .ad a d, l, c => (l.getD a 0, l.set a ((l.getD a 0 + d) % 18446744073709551616), { c with a := c.a + 1 })
theorem Acc.run_len (x : Acc) (l : List Nat) (c : Cn) : (x.run l c).2.1.length = l.length := by
  cases x <;> simp only [Acc.run]
  · rw [List.length_set]
  · split
    · rw [List.length_set]
    · rfl
  · rw [List.length_set]
theorem Acc.run_cn (x : Acc) (l : List Nat) (c : Cn) : (x.run l c).2.2.r + (x.run l c).2.2.w + (x.run l c).2.2.s + (x.run l c).2.2.a = c.r + c.w + c.s + c.a + 1 ∧ (x.run l c).2.2.f = c.f := by
  cases x with
  | rd a => exact ⟨by show c.r + 1 + c.w + c.s + c.a = _; omega, rfl⟩
  | wr a v => exact ⟨by show c.r + (c.w + 1) + c.s + c.a = _; omega, rfl⟩
  | sw a x y =>
    simp only [Acc.run]
    split
    · exact ⟨by show c.r + c.w + (c.s + 1) + c.a = _; omega, rfl⟩
    · exact ⟨by show c.r + c.w + (c.s + 1) + c.a = _; omega, rfl⟩
  | ad a d => exact ⟨by show c.r + c.w + c.s + (c.a + 1) = _; omega, rfl⟩

structure Mach where
  S : Type
  Q : Type
  m : Nat
  inv : S → CallV → S × (Q ⊕ Nat)
  acc : S → Q → Acc
  next : S → Q → Nat → Nat → S × Q × Option Ans
  key : S → Q → List Nat

structure Ev (M : Mach) where
  i : Nat
  inv : Nat
  resp : Nat
  steps : Nat
  ans : Ans
  key : List Nat
  q : M.Q ⊕ Nat
structure St (M : Mach) where
  fin : List Bool
  ws : List Nat
  cn : Cn
  ticks : Nat
  idle : Nat
  s : M.S
  cur : Int → Option Nat
  evs : List (Ev M)
structure Out (M : Mach) where
  s : M.S
  q : M.Q ⊕ Nat
  ws : List Nat
  cn : Cn
  ans : Option Ans
section
variable {M : Mach}
def keyQ (s : M.S) : M.Q ⊕ Nat → List Nat
  | .inl q => M.key s q
  | .inr _ => []
def invQ (s : M.S) (x : CallV) : M.S × (M.Q ⊕ Nat) := if x.o < 0 ∨ (M.m : Int) ≤ x.o then (s, .inr 12) else M.inv s x
/-- a step of an operation, at a tick -/
def stepQ (s : M.S) (q : M.Q ⊕ Nat) (ws : List Nat) (cn : Cn) (t : Nat) : Out M :=
  match q with
  | .inr e => ⟨s, .inr e, ws, cn, some ⟨e, 0, []⟩⟩
  | .inl q => ⟨(M.next s q ((M.acc s q).run ws cn).1 t).1, .inl (M.next s q ((M.acc s q).run ws cn).1 t).2.1, ((M.acc s q).run ws cn).2.1, ((M.acc s q).run ws cn).2.2, (M.next s q ((M.acc s q).run ws cn).1 t).2.2⟩
def St.tick (st : St M) : St M := { st with ticks := st.ticks + 1 }
def St.begin (st : St M) (i : Nat) (x : CallV) (p : Int) : St M :=
  { st with s := (invQ st.s x).1, cur := updF st.cur p (some st.evs.length), evs := st.evs ++ [⟨i, st.ticks, 0, 0, ⟨0, 0, []⟩, [], (invQ st.s x).2⟩] }
def keyOr (k : List Nat) (t : Nat) : List Nat := if k = [] then [2 * t] else k
def Ev.more (v : Ev M) (q : M.Q ⊕ Nat) : Ev M := { v with steps := v.steps + 1, q := q }
def Ev.done (v : Ev M) (q : M.Q ⊕ Nat) (t : Nat) (a : Ans) (k : List Nat) : Ev M := { v with steps := v.steps + 1, q := q, resp := t, ans := a, key := keyOr k t }
def St.step (st : St M) (i : Nat) (p : Int) (e : Nat) (v : Ev M) : St M :=
  match (stepQ st.s v.q st.ws st.cn st.ticks).ans with
  | none => { st with s := (stepQ st.s v.q st.ws st.cn st.ticks).s, ws := (stepQ st.s v.q st.ws st.cn st.ticks).ws, cn := (stepQ st.s v.q st.ws st.cn st.ticks).cn, evs := st.evs.set e (v.more (stepQ st.s v.q st.ws st.cn st.ticks).q) }
  | some a => { st with s := (stepQ st.s v.q st.ws st.cn st.ticks).s, ws := (stepQ st.s v.q st.ws st.cn st.ticks).ws, cn := (stepQ st.s v.q st.ws st.cn st.ticks).cn, fin := st.fin.set i true, cur := updF st.cur p none,
                        evs := st.evs.set e (v.done (stepQ st.s v.q st.ws st.cn st.ticks).q st.ticks a (keyQ (stepQ st.s v.q st.ws st.cn st.ticks).s (stepQ st.s v.q st.ws st.cn st.ticks).q)) }
/-- the turn's tick, and the operation's beginning, if it is its first step -/
def St.turn (st : St M) (i : Nat) (x : CallV) (p : Int) : St M :=
  match st.cur p with
  | some _ => st.tick
  | none => st.tick.begin i x p
def St.go (st : St M) (i : Nat) (p : Int) : St M :=
  match st.cur p with
  | none => st
  | some e => match st.evs[e]? with
    | none => st
    | some v => st.step i p e v
def pickM (cs : List CallV) (st : St M) (p : Int) : St M :=
  match nowOf (thr cs) st.fin p with
  | none => { st with idle := st.idle + 1 }
  | some i => match cs[i]? with
    | none => st
    | some x => (st.turn i x p).go i p
theorem pickM_idle {cs : List CallV} {st : St M} {p : Int} (h : nowOf (thr cs) st.fin p = none) : pickM cs st p = { st with idle := st.idle + 1 } := by unfold pickM; rw [h]
theorem pickM_turn {cs : List CallV} {st : St M} {p : Int} {i : Nat} {x : CallV} (h : nowOf (thr cs) st.fin p = some i) (hx : cs[i]? = some x) : pickM cs st p = (st.turn i x p).go i p := by unfold pickM; rw [h]; simp only [hx]
theorem go_step {st : St M} {i : Nat} {p : Int} {e : Nat} {v : Ev M} (h : st.cur p = some e) (hv : st.evs[e]? = some v) : st.go i p = st.step i p e v := by unfold St.go; rw [h]; simp only [hv]

/-- what holds of every play -/
structure Wf (cs : List CallV) (st : St M) : Prop where
  cur : ∀ p e, st.cur p = some e → ∃ v, st.evs[e]? = some v ∧ v.resp = 0 ∧ nowOf (thr cs) st.fin p = some v.i
  lfin : st.fin.length = cs.length
theorem Wf.inj {cs : List CallV} {st : St M} (h : Wf cs st) {p p' : Int} {e : Nat} (h1 : st.cur p = some e) (h2 : st.cur p' = some e) : p = p' := by
  obtain ⟨v, hv, _, a⟩ := h.cur p e h1
  obtain ⟨v', hv', _, b⟩ := h.cur p' e h2
  rw [hv] at hv'; cases hv'
  have h3 := (now_open a).2.1
  rw [(now_open b).2.1] at h3
  exact (Option.some.inj h3).symm
theorem Wf.idle {cs : List CallV} {st : St M} (h : Wf cs st) : Wf cs { st with idle := st.idle + 1 } := ⟨h.cur, h.lfin⟩
theorem Wf.tick {cs : List CallV} {st : St M} (h : Wf cs st) : Wf cs st.tick := ⟨h.cur, h.lfin⟩
theorem Wf.begin {cs : List CallV} {st : St M} (h : Wf cs st) {i : Nat} (x : CallV) {p : Int} (hn : nowOf (thr cs) st.fin p = some i) : Wf cs (st.begin i x p) := by
  refine ⟨fun q e hq => ?_, h.lfin⟩
  by_cases hqp : q = p
  · subst hqp
    have : (st.begin i x q).cur q = some st.evs.length := updF_same _ _ _
    rw [this] at hq; cases hq
    exact ⟨⟨i, st.ticks, 0, 0, ⟨0, 0, []⟩, [], (invQ st.s x).2⟩, by show (st.evs ++ [_])[st.evs.length]? = _; rw [List.getElem?_append_right (Nat.le_refl _), Nat.sub_self]; rfl, rfl, hn⟩
  · have h1 : (st.begin i x p).cur q = st.cur q := updF_other _ _ hqp
    rw [h1] at hq
    obtain ⟨v, hv, hr, hw⟩ := h.cur q e hq
    exact ⟨v, by show (st.evs ++ [_])[e]? = _; rw [List.getElem?_append_left (List.getElem?_eq_some_iff.1 hv).1]; exact hv, hr, hw⟩
theorem Wf.turn {cs : List CallV} {st : St M} (h : Wf cs st) {i : Nat} (x : CallV) {p : Int} (hn : nowOf (thr cs) st.fin p = some i) : Wf cs (st.turn i x p) := by
  unfold St.turn
  split
  · exact h.tick
  · exact h.tick.begin x hn
theorem Wf.step {cs : List CallV} {st : St M} (h : Wf cs st) {i : Nat} {p : Int} {e : Nat} {v : Ev M} (hc : st.cur p = some e) (hv : st.evs[e]? = some v) (hn : nowOf (thr cs) st.fin p = some i) : Wf cs (st.step i p e v) := by
  have hvi : v.resp = 0 ∧ v.i = i := by
    obtain ⟨v', hv', hr, hw⟩ := h.cur p e hc
    rw [hv] at hv'; cases hv'
    rw [hn] at hw
    exact ⟨hr, (Option.some.inj hw).symm⟩
  have hel : e < st.evs.length := (List.getElem?_eq_some_iff.1 hv).1
  unfold St.step
  split
  · refine ⟨fun q f hq => ?_, h.lfin⟩
    obtain ⟨v', hv', hr, hw⟩ := h.cur q f hq
    by_cases hfe : f = e
    · subst hfe
      rw [hv] at hv'; cases hv'
      exact ⟨v.more (stepQ st.s v.q st.ws st.cn st.ticks).q, by show (st.evs.set f _)[f]? = _; rw [List.getElem?_set_self hel], hr, hw⟩
    · exact ⟨v', by show (st.evs.set e _)[f]? = _; rw [List.getElem?_set_ne (fun h => hfe h.symm)]; exact hv', hr, hw⟩
  · refine ⟨fun q f hq => ?_, by show (st.fin.set i true).length = _; rw [List.length_set]; exact h.lfin⟩
    by_cases hqp : q = p
    · subst hqp
      have h1 : updF st.cur q none q = some f := hq
      rw [updF_same] at h1; cases h1
    · have h1 : updF st.cur p none q = some f := hq
      rw [updF_other _ _ hqp] at h1
      obtain ⟨v', hv', hr, hw⟩ := h.cur q f h1
      have hfe : f ≠ e := fun e' => hqp (by subst e'; exact h.inj h1 hc)
      refine ⟨v', by show (st.evs.set e _)[f]? = _; rw [List.getElem?_set_ne (fun h => hfe h.symm)]; exact hv', hr, ?_⟩
      show (ownL (thr cs) (st.fin.set i true) q).head? = _
      rw [own_set_other hn hqp]
      exact hw
theorem turn_cur {st : St M} {i : Nat} {x : CallV} {p : Int} : ∃ e, (st.turn i x p).cur p = some e := by
  unfold St.turn
  split
  · next e he => exact ⟨e, he⟩
  · exact ⟨_, updF_same _ _ _⟩
theorem turn_fin {st : St M} {i : Nat} {x : CallV} {p : Int} : (st.turn i x p).fin = st.fin := by
  unfold St.turn
  split <;> rfl
theorem turn_ticks {st : St M} {i : Nat} {x : CallV} {p : Int} : (st.turn i x p).ticks = st.ticks + 1 := by
  unfold St.turn
  split <;> rfl
theorem turn_idle {st : St M} {i : Nat} {x : CallV} {p : Int} : (st.turn i x p).idle = st.idle := by
  unfold St.turn
  split <;> rfl
theorem step_ticks {st : St M} {i : Nat} {p : Int} {e : Nat} {v : Ev M} : (st.step i p e v).ticks = st.ticks ∧ (st.step i p e v).idle = st.idle ∧ (st.step i p e v).evs.length = st.evs.length := by
  unfold St.step
  split
  · exact ⟨rfl, rfl, by simp⟩
  · exact ⟨rfl, rfl, by simp⟩
/-- where a turn comes to -/
theorem pickM_cases {cs : List CallV} {st : St M} (h : Wf cs st) {p : Int} {i : Nat} {x : CallV} (hn : nowOf (thr cs) st.fin p = some i) (hx : cs[i]? = some x) :
    ∃ e v, (st.turn i x p).cur p = some e ∧ (st.turn i x p).evs[e]? = some v ∧ v.resp = 0 ∧ v.i = i ∧ pickM cs st p = (st.turn i x p).step i p e v := by
  obtain ⟨e, he⟩ := turn_cur (st := st) (i := i) (x := x) (p := p)
  obtain ⟨v, hv, hr, hw⟩ := (h.turn x hn).cur p e he
  rw [turn_fin, hn] at hw
  exact ⟨e, v, he, hv, hr, (Option.some.inj hw).symm, by rw [pickM_turn hn hx, go_step he hv]⟩
theorem Wf.pick {cs : List CallV} {st : St M} (h : Wf cs st) (p : Int) : Wf cs (pickM cs st p) := by
  cases hn : nowOf (thr cs) st.fin p with
  | none => rw [pickM_idle hn]; exact h.idle
  | some i =>
    have hil := (now_open hn).1
    rw [thr_len] at hil
    obtain ⟨x, hx⟩ : ∃ x, cs[i]? = some x := ⟨cs[i], List.getElem?_eq_getElem hil⟩
    obtain ⟨e, v, h1, h2, _, _, h5⟩ := pickM_cases h hn hx
    rw [h5]
    exact (h.turn x hn).step h1 h2 (by rw [turn_fin]; exact hn)
/-- how many accesses there were -/
def CnOk (st : St M) : Prop := st.cn.r + st.cn.w + st.cn.s + st.cn.a ≤ st.ticks ∧ st.cn.f = 0
theorem stepQ_cn (s : M.S) (q : M.Q ⊕ Nat) (ws : List Nat) (cn : Cn) (t : Nat) : (stepQ s q ws cn t).cn.r + (stepQ s q ws cn t).cn.w + (stepQ s q ws cn t).cn.s + (stepQ s q ws cn t).cn.a ≤ cn.r + cn.w + cn.s + cn.a + 1 ∧ (stepQ s q ws cn t).cn.f = cn.f := by
  unfold stepQ
  cases q with
  | inl q => have h := Acc.run_cn (M.acc s q) ws cn; simp only; omega
  | inr e => exact ⟨Nat.le_succ _, rfl⟩
theorem CnOk.pick {cs : List CallV} {st : St M} (h : CnOk st) (hw : Wf cs st) (p : Int) : CnOk (pickM cs st p) := by
  cases hn : nowOf (thr cs) st.fin p with
  | none => rw [pickM_idle hn]; exact h
  | some i =>
    have hil := (now_open hn).1
    rw [thr_len] at hil
    obtain ⟨x, hx⟩ : ∃ x, cs[i]? = some x := ⟨cs[i], List.getElem?_eq_getElem hil⟩
    obtain ⟨e, v, h1, h2, _, _, h5⟩ := pickM_cases hw hn hx
    rw [h5]
    have e1 : (st.turn i x p).cn = st.cn := by unfold St.turn; split <;> rfl
    have e2 : ((st.turn i x p).step i p e v).cn = (stepQ (st.turn i x p).s v.q (st.turn i x p).ws (st.turn i x p).cn (st.turn i x p).ticks).cn := by unfold St.step; split <;> rfl
    have e3 := stepQ_cn (st.turn i x p).s v.q (st.turn i x p).ws (st.turn i x p).cn (st.turn i x p).ticks
    unfold CnOk at h ⊢
    have e4 : ((st.turn i x p).step i p e v).ticks = st.ticks + 1 := step_ticks.1.trans turn_ticks
    rw [e2, e4]
    rw [e1] at e3 ⊢
    omega
/-- a play's state at first -/
def stM (cs : List CallV) (ws : List Nat) (s : M.S) : St M := ⟨List.replicate cs.length false, ws, ⟨0, 0, 0, 0, 0⟩, 0, 0, s, fun _ => none, []⟩
theorem Wf.first (cs : List CallV) (ws : List Nat) (s : M.S) : Wf cs (stM (M := M) cs ws s) := ⟨fun p e h => by simp [stM] at h, by simp [stM]⟩
def endM (cs : List CallV) (ws : List Nat) (s : M.S) (picks : List Int) : St M := picks.foldl (pickM cs) (stM cs ws s)
theorem endM_snoc {cs : List CallV} {ws : List Nat} {s : M.S} {picks : List Int} {j : Nat} {p : Int} (h : picks[j]? = some p) : endM cs ws s (picks.take (j + 1)) = pickM cs (endM cs ws s (picks.take j)) p := by
  unfold endM
  rw [take_snoc h, List.foldl_append]
  rfl
/-- whatever holds at first and is kept by turns -/
theorem foldM {cs : List CallV} {R : St M → Prop} (hp : ∀ st p, R st → R (pickM cs st p)) : ∀ (picks : List Int) (st : St M), R st → R (picks.foldl (pickM cs) st)
  | [], _, h => h
  | p :: r, st, h => foldM hp r _ (hp st p h)
end
end Go.Proofs.Ytglpalomhhhmhaa
