/- Machines: an object's operations, plainly, access by access; a play of them. | Lists in memory; copies of them; an operation's key. | A machine at the program; walk of loom: step. | Walk of loom: step, the last one of an operation. -/
import Derived.Test.YtpoebpnmbogmnaaGY
namespace Go.Proofs.Ytpoebpnmbogmnaa
section
open Go.RowKit

structure Ans where
  err : Nat
  val : Nat
  list : List Nat
inductive Acc where
  | rd (a : Nat)
  | wr (a v : Nat)
  | sw (a x y : Nat)
  | ad (a d : Nat)
def Acc.at' : Acc → Nat
  | .rd a => a
  | .wr a _ => a
  | .sw a _ _ => a
  | .ad a _ => a
/-- what an access tells, and leaves -/
def Acc.run : Acc → List Nat → Cn → Nat × List Nat × Cn
  | .rd a, l, c => (l.getD a 0, l, { c with r := c.r + 1 })
  | .wr a v, l, c => (0, l.set a v, { c with w := c.w + 1 })
  | .sw a x y, l, c => if l.getD a 0 = x then (1, l.set a y, { c with s := c.s + 1 }) else (0, l, { c with s := c.s + 1 })
  | .ad a d, l, c => (l.getD a 0, l.set a ((l.getD a 0 + d) % 18446744073709551616), { c with a := c.a + 1 })
theorem Acc.run_len (x : Acc) (l : List Nat) (c : Cn) : (x.run l c).2.1.length = l.length := by
  cases x <;> simp only [Acc.run]
  · rw [List.length_set]
  · split
    · rw [List.length_set]
    · rfl
  · rw [List.length_set]
theorem Acc.run_cn (x : Acc) (l : List Nat) (c : Cn) : (x.run l c).2.2.r + (x.run l c).2.2.w + (x.run l c).2.2.s + (x.run l c).2.2.a = c.r + c.w + c.s + c.a + 1 ∧ (x.run l c).2.2.f = c.f := by
  cases x with
  | rd a => exact ⟨by show c.r + 1 + c.w + c.s + c.a = _; omega, rfl⟩
  | wr a v => exact ⟨by show c.r + (c.w + 1) + c.s + c.a = _; omega, rfl⟩
  | sw a x y =>
    simp only [Acc.run]
    split
    · exact ⟨by show c.r + c.w + (c.s + 1) + c.a = _; omega, rfl⟩
    · exact ⟨by show c.r + c.w + (c.s + 1) + c.a = _; omega, rfl⟩
  | ad a d => exact ⟨by show c.r + c.w + c.s + (c.a + 1) = _; omega, rfl⟩

structure Mach where
  S : Type
  Q : Type
  m : Nat
  inv : S → CallV → S × (Q ⊕ Nat)
  acc : S → Q → Acc
  next : S → Q → Nat → Nat → S × Q × Option Ans
  key : S → Q → List Nat

structure Ev (M : Mach) where
  i : Nat
  inv : Nat
  resp : Nat
  steps : Nat
  ans : Ans
  key : List Nat
  q : M.Q ⊕ Nat
structure St (M : Mach) where
  fin : List Bool
  ws : List Nat
  cn : Cn
  ticks : Nat
  idle : Nat
  s : M.S
  cur : Int → Option Nat
  evs : List (Ev M)
structure Out (M : Mach) where
  s : M.S
  q : M.Q ⊕ Nat
  ws : List Nat
  cn : Cn
  ans : Option Ans
section
variable {M : Mach}
def keyQ (s : M.S) : M.Q ⊕ Nat → List Nat
  | .inl q => M.key s q
  | .inr _ => []
def invQ (s : M.S) (x : CallV) : M.S × (M.Q ⊕ Nat) := if x.o < 0 ∨ (M.m : Int) ≤ x.o then (s, .inr 12) else M.inv s x
/-- a step of an operation, at a tick -/
def stepQ (s : M.S) (q : M.Q ⊕ Nat) (ws : List Nat) (cn : Cn) (t : Nat) : Out M :=
  match q with
  | .inr e => ⟨s, .inr e, ws, cn, some ⟨e, 0, []⟩⟩
  | .inl q => ⟨(M.next s q ((M.acc s q).run ws cn).1 t).1, .inl (M.next s q ((M.acc s q).run ws cn).1 t).2.1, ((M.acc s q).run ws cn).2.1, ((M.acc s q).run ws cn).2.2, (M.next s q ((M.acc s q).run ws cn).1 t).2.2⟩
def St.tick (st : St M) : St M := { st with ticks := st.ticks + 1 }
def St.begin (st : St M) (i : Nat) (x : CallV) (p : Int) : St M :=
  { st with s := (invQ st.s x).1, cur := updF st.cur p (some st.evs.length), evs := st.evs ++ [⟨i, st.ticks, 0, 0, ⟨0, 0, []⟩, [], (invQ st.s x).2⟩] }
def keyOr (k : List Nat) (t : Nat) : List Nat := if k = [] then [2 * t] else k
def Ev.more (v : Ev M) (q : M.Q ⊕ Nat) : Ev M := { v with steps := v.steps + 1, q := q }
def Ev.done (v : Ev M) (q : M.Q ⊕ Nat) (t : Nat) (a : Ans) (k : List Nat) : Ev M := { v with steps := v.steps + 1, q := q, resp := t, ans := a, key := keyOr k t }
def St.step (st : St M) (i : Nat) (p : Int) (e : Nat) (v : Ev M) : St M :=
  match (stepQ st.s v.q st.ws st.cn st.ticks).ans with
  | none => { st with s := (stepQ st.s v.q st.ws st.cn st.ticks).s, ws := (stepQ st.s v.q st.ws st.cn st.ticks).ws, cn := (stepQ st.s v.q st.ws st.cn st.ticks).cn, evs := st.evs.set e (v.more (stepQ st.s v.q st.ws st.cn st.ticks).q) }
  | some a => { st with s := (stepQ st.s v.q st.ws st.cn st.ticks).s, ws := (stepQ st.s v.q st.ws st.cn st.ticks).ws, cn := (stepQ st.s v.q st.ws st.cn st.ticks).cn, fin := st.fin.set i true, cur := updF st.cur p none,
                        evs := st.evs.set e (v.done (stepQ st.s v.q st.ws st.cn st.ticks).q st.ticks a (keyQ (stepQ st.s v.q st.ws st.cn st.ticks).s (stepQ st.s v.q st.ws st.cn st.ticks).q)) }
/-- the turn's tick, and the operation's beginning, if it is its first step -/
def St.turn (st : St M) (i : Nat) (x : CallV) (p : Int) : St M :=
  match st.cur p with
  | some _ => st.tick
  | none => st.tick.begin i x p
def St.go (st : St M) (i : Nat) (p : Int) : St M :=
  match st.cur p with
  | none => st
  | some e => match st.evs[e]? with
    | none => st
    | some v => st.step i p e v
def pickM (cs : List CallV) (st : St M) (p : Int) : St M :=
  match nowOf (thr cs) st.fin p with
  | none => { st with idle := st.idle + 1 }
  | some i => match cs[i]? with
    | none => st
    | some x => (st.turn i x p).go i p
theorem pickM_idle {cs : List CallV} {st : St M} {p : Int} (h : nowOf (thr cs) st.fin p = none) : pickM cs st p = { st with idle := st.idle + 1 } := by unfold pickM; rw [h]
theorem pickM_turn {cs : List CallV} {st : St M} {p : Int} {i : Nat} {x : CallV} (h : nowOf (thr cs) st.fin p = some i) (hx : cs[i]? = some x) : pickM cs st p = (st.turn i x p).go i p := by unfold pickM; rw [h]; simp only [hx]
theorem go_step {st : St M} {i : Nat} {p : Int} {e : Nat} {v : Ev M} (h : st.cur p = some e) (hv : st.evs[e]? = some v) : st.go i p = st.step i p e v := by unfold St.go; rw [h]; simp only [hv]

/-- what holds of every play -/
structure Wf (cs : List CallV) (st : St M) : Prop where
  cur : ∀ p e, st.cur p = some e → ∃ v, st.evs[e]? = some v ∧ v.resp = 0 ∧ nowOf (thr cs) st.fin p = some v.i
  lfin : st.fin.length = cs.length
theorem Wf.inj {cs : List CallV} {st : St M} (h : Wf cs st) {p p' : Int} {e : Nat} (h1 : st.cur p = some e) (h2 : st.cur p' = some e) : p = p' := by
  obtain ⟨v, hv, _, a⟩ := h.cur p e h1
  obtain ⟨v', hv', _, b⟩ := h.cur p' e h2
  rw [hv] at hv'; cases hv'
  have h3 := (now_open a).2.1
  rw [(now_open b).2.1] at h3
  exact (Option.some.inj h3).symm
theorem Wf.idle {cs : List CallV} {st : St M} (h : Wf cs st) : Wf cs { st with idle := st.idle + 1 } := ⟨h.cur, h.lfin⟩
theorem Wf.tick {cs : List CallV} {st : St M} (h : Wf cs st) : Wf cs st.tick := ⟨h.cur, h.lfin⟩
theorem Wf.begin {cs : List CallV} {st : St M} (h : Wf cs st) {i : Nat} (x : CallV) {p : Int} (hn : nowOf (thr cs) st.fin p = some i) : Wf cs (st.begin i x p) := by
  refine ⟨fun q e hq => ?_, h.lfin⟩
  by_cases hqp : q = p
  · subst hqp
    have : (st.begin i x q).cur q = some st.evs.length := updF_same _ _ _
    rw [this] at hq; cases hq
    exact ⟨⟨i, st.ticks, 0, 0, ⟨0, 0, []⟩, [], (invQ st.s x).2⟩, by show (st.evs ++ [_])[st.evs.length]? = _; rw [List.getElem?_append_right (Nat.le_refl _), Nat.sub_self]; rfl, rfl, hn⟩
  · have h1 : (st.begin i x p).cur q = st.cur q := updF_other _ _ hqp
    rw [h1] at hq
    obtain ⟨v, hv, hr, hw⟩ := h.cur q e hq
    exact ⟨v, by show (st.evs ++ [_])[e]? = _; rw [List.getElem?_append_left (List.getElem?_eq_some_iff.1 hv).1]; exact hv, hr, hw⟩
theorem Wf.turn {cs : List CallV} {st : St M} (h : Wf cs st) {i : Nat} (x : CallV) {p : Int} (hn : nowOf (thr cs) st.fin p = some i) : Wf cs (st.turn i x p) := by
  unfold St.turn
  split
  · exact h.tick
  · exact h.tick.begin x hn
theorem Wf.step {cs : List CallV} {st : St M} (h : Wf cs st) {i : Nat} {p : Int} {e : Nat} {v : Ev M} (hc : st.cur p = some e) (hv : st.evs[e]? = some v) (hn : nowOf (thr cs) st.fin p = some i) : Wf cs (st.step i p e v) := by
  have hvi : v.resp = 0 ∧ v.i = i := by
    obtain ⟨v', hv', hr, hw⟩ := h.cur p e hc
    rw [hv] at hv'; cases hv'
    rw [hn] at hw
    exact ⟨hr, (Option.some.inj hw).symm⟩
  have hel : e < st.evs.length := (List.getElem?_eq_some_iff.1 hv).1
  unfold St.step
  split
  · refine ⟨fun q f hq => ?_, h.lfin⟩
    obtain ⟨v', hv', hr, hw⟩ := h.cur q f hq
    by_cases hfe : f = e
    · subst hfe
      rw [hv] at hv'; cases hv'
      exact ⟨v.more (stepQ st.s v.q st.ws st.cn st.ticks).q, by show (st.evs.set f _)[f]? = _; rw [List.getElem?_set_self hel], hr, hw⟩
    · exact ⟨v', by show (st.evs.set e _)[f]? = _; rw [List.getElem?_set_ne (fun h => hfe h.symm)]; exact hv', hr, hw⟩
  · refine ⟨fun q f hq => ?_, by show (st.fin.set i true).length = _; rw [List.length_set]; exact h.lfin⟩
    by_cases hqp : q = p
    · subst hqp
      have h1 : updF st.cur q none q = some f := hq
      rw [updF_same] at h1; cases h1
    · have h1 : updF st.cur p none q = some f := hq
      rw [updF_other _ _ hqp] at h1
      obtain ⟨v', hv', hr, hw⟩ := h.cur q f h1
      have hfe : f ≠ e := fun e' => hqp (by subst e'; exact h.inj h1 hc)
      refine ⟨v', by show (st.evs.set e _)[f]? = _; rw [List.getElem?_set_ne (fun h => hfe h.symm)]; exact hv', hr, ?_⟩
      show (ownL (thr cs) (st.fin.set i true) q).head? = _
      rw [own_set_other hn hqp]
      exact hw
theorem turn_cur {st : St M} {i : Nat} {x : CallV} {p : Int} : ∃ e, (st.turn i x p).cur p = some e := by
  unfold St.turn
  split
  · next e he => exact ⟨e, he⟩
  · exact ⟨_, updF_same _ _ _⟩
theorem turn_fin {st : St M} {i : Nat} {x : CallV} {p : Int} : (st.turn i x p).fin = st.fin := by
  unfold St.turn
  split <;> rfl
theorem turn_ticks {st : St M} {i : Nat} {x : CallV} {p : Int} : (st.turn i x p).ticks = st.ticks + 1 := by
  unfold St.turn
  split <;> rfl
theorem turn_idle {st : St M} {i : Nat} {x : CallV} {p : Int} : (st.turn i x p).idle = st.idle := by
  unfold St.turn
  split <;> rfl
theorem step_ticks {st : St M} {i : Nat} {p : Int} {e : Nat} {v : Ev M} : (st.step i p e v).ticks = st.ticks ∧ (st.step i p e v).idle = st.idle ∧ (st.step i p e v).evs.length = st.evs.length := by
  unfold St.step
  split
  · exact ⟨rfl, rfl, by simp⟩
  · exact ⟨rfl, rfl, by simp⟩
/-- where a turn comes to -/
theorem pickM_cases {cs : List CallV} {st : St M} (h : Wf cs st) {p : Int} {i : Nat} {x : CallV} (hn : nowOf (thr cs) st.fin p = some i) (hx : cs[i]? = some x) :
    ∃ e v, (st.turn i x p).cur p = some e ∧ (st.turn i x p).evs[e]? = some v ∧ v.resp = 0 ∧ v.i = i ∧ pickM cs st p = (st.turn i x p).step i p e v := by
  obtain ⟨e, he⟩ := turn_cur (st := st) (i := i) (x := x) (p := p)
  obtain ⟨v, hv, hr, hw⟩ := (h.turn x hn).cur p e he
  rw [turn_fin, hn] at hw
  exact ⟨e, v, he, hv, hr, (Option.some.inj hw).symm, by rw [pickM_turn hn hx, go_step he hv]⟩
theorem Wf.pick {cs : List CallV} {st : St M} (h : Wf cs st) (p : Int) : Wf cs (pickM cs st p) := by
  cases hn : nowOf (thr cs) st.fin p with
  | none => rw [pickM_idle hn]; exact h.idle
  | some i =>
    have hil := (now_open hn).1
    rw [thr_len] at hil
    obtain ⟨x, hx⟩ : ∃ x, cs[i]? = some x := ⟨cs[i], List.getElem?_eq_getElem hil⟩
    obtain ⟨e, v, h1, h2, _, _, h5⟩ := pickM_cases h hn hx
    rw [h5]
    exact (h.turn x hn).step h1 h2 (by rw [turn_fin]; exact hn)
/-- how many accesses there were -/
def CnOk (st : St M) : Prop := st.cn.r + st.cn.w + st.cn.s + st.cn.a ≤ st.ticks ∧ st.cn.f = 0
theorem stepQ_cn (s : M.S) (q : M.Q ⊕ Nat) (ws : List Nat) (cn : Cn) (t : Nat) : (stepQ s q ws cn t).cn.r + (stepQ s q ws cn t).cn.w + (stepQ s q ws cn t).cn.s + (stepQ s q ws cn t).cn.a ≤ cn.r + cn.w + cn.s + cn.a + 1 ∧ (stepQ s q ws cn t).cn.f = cn.f := by
  unfold stepQ
  cases q with
  | inl q => have h := Acc.run_cn (M.acc s q) ws cn; simp only; omega
  | inr e => exact ⟨Nat.le_succ _, rfl⟩
theorem CnOk.pick {cs : List CallV} {st : St M} (h : CnOk st) (hw : Wf cs st) (p : Int) : CnOk (pickM cs st p) := by
  cases hn : nowOf (thr cs) st.fin p with
  | none => rw [pickM_idle hn]; exact h
  | some i =>
    have hil := (now_open hn).1
    rw [thr_len] at hil
    obtain ⟨x, hx⟩ : ∃ x, cs[i]? = some x := ⟨cs[i], List.getElem?_eq_getElem hil⟩
    obtain ⟨e, v, h1, h2, _, _, h5⟩ := pickM_cases hw hn hx
    rw [h5]
    have e1 : (st.turn i x p).cn = st.cn := by unfold St.turn; split <;> rfl
    have e2 : ((st.turn i x p).step i p e v).cn = (stepQ (st.turn i x p).s v.q (st.turn i x p).ws (st.turn i x p).cn (st.turn i x p).ticks).cn := by unfold St.step; split <;> rfl
    have e3 := stepQ_cn (st.turn i x p).s v.q (st.turn i x p).ws (st.turn i x p).cn (st.turn i x p).ticks
    unfold CnOk at h ⊢
    have e4 : ((st.turn i x p).step i p e v).ticks = st.ticks + 1 := step_ticks.1.trans turn_ticks
    rw [e2, e4]
    rw [e1] at e3 ⊢
    omega
/-- a play's state at first -/
def stM (cs : List CallV) (ws : List Nat) (s : M.S) : St M := ⟨List.replicate cs.length false, ws, ⟨0, 0, 0, 0, 0⟩, 0, 0, s, fun _ => none, []⟩
theorem Wf.first (cs : List CallV) (ws : List Nat) (s : M.S) : Wf cs (stM (M := M) cs ws s) := ⟨fun p e h => by simp [stM] at h, by simp [stM]⟩
def endM (cs : List CallV) (ws : List Nat) (s : M.S) (picks : List Int) : St M := picks.foldl (pickM cs) (stM cs ws s)
theorem endM_snoc {cs : List CallV} {ws : List Nat} {s : M.S} {picks : List Int} {j : Nat} {p : Int} (h : picks[j]? = some p) : endM cs ws s (picks.take (j + 1)) = pickM cs (endM cs ws s (picks.take j)) p := by
  unfold endM
  rw [take_snoc h, List.foldl_append]
  rfl
/-- whatever holds at first and is kept by turns -/
theorem foldM {cs : List CallV} {R : St M → Prop} (hp : ∀ st p, R st → R (pickM cs st p)) : ∀ (picks : List Int) (st : St M), R st → R (picks.foldl (pickM cs) st)
  | [], _, h => h
  | p :: r, st, h => foldM hp r _ (hp st p h)
end
end
section
open Go.ChangeShapes Go.WideShapes Go.ChangeAt Go.RowKit

def BlkT (w : World) (b : Nat) (t : TypeId) : Prop := ∃ cur : Array Value, w.heap[b]? = some (.cells cur t (0, 0))
theorem BlkT.same {w w' : World} {b : Nat} {t : TypeId} (h : BlkT w b t) (e : w'.heap[b]? = w.heap[b]?) : BlkT w' b t := by obtain ⟨c, h⟩ := h; exact ⟨c, e.trans h⟩
theorem BlkT.lt {w : World} {b : Nat} {t : TypeId} (h : BlkT w b t) : b < w.heap.size := by obtain ⟨c, h⟩ := h; exact lt_of_heap h
theorem BlkT.of_row {w : World} {b : Nat} {t : TypeId} {vs : List Value} (h : RowBlk t w b vs) : BlkT w b t := ⟨_, h⟩
theorem BlkT.ne {w : World} {b b' : Nat} {t t' : TypeId} (h : BlkT w b t) (h' : BlkT w b' t') (ht : t ≠ t') : b ≠ b' := by
  intro e; subst e
  obtain ⟨c, h⟩ := h
  obtain ⟨c', h'⟩ := h'
  rw [h] at h'
  simp at h'
  exact ht h'.2
theorem BlkT.ne_map {P : Program} {k t : TypeId} {w : World} {b n g : Nat} {z : Value} {f : Int → Value} (h : MapIs P k w b n z f) (hr : BlkT w g t) : g ≠ b := by
  intro e; subst e; obtain ⟨c, hr⟩ := hr; exact h.no_cells hr
theorem BlkT.ne_owns {w : World} {t e : TypeId} {B sz n g : Nat} {v : Value} {xs : List Value} (h : BlkT w g t) (ho : w.ownsRow B e sz v n xs) (ht : t ≠ e) : v.ownBlock ≠ some g := by
  intro e1
  obtain ⟨c, h⟩ := h
  obtain ⟨_, ⟨rfl, _⟩ | ⟨g', cap, cur, rfl, _, hh, _⟩⟩ := ho
  · cases e1
  · cases e1
    rw [h] at hh
    simp at hh
    exact ht hh.2

theorem row_owns_ne {t e : TypeId} {w : World} {g B sz m : Nat} {v : Value} {vs xs : List Value} (h : RowBlk t w g vs) (ho : w.ownsRow B e sz v m xs) (ht : t ≠ e) : v.ownBlock ≠ some g := by
  intro e1
  obtain ⟨_, ⟨rfl, _⟩ | ⟨g', cap, cur, rfl, _, hh, _⟩⟩ := ho
  · cases e1
  · cases e1
    unfold RowBlk at h
    rw [h] at hh
    simp at hh
    exact ht hh.2

def mkI (x : Nat) : Value := .int .i64 (x : Int)
def mkU (x : Nat) : Value := .int .u64 (x : Int)
/-- a slice's value, and its numbers; 'p': of which blocks its numbers may be -/
def ListAt (w : World) (t : TypeId) (mk : Nat → Value) (p : Nat → Prop) (v : Value) (l : List Nat) : Prop :=
  ∃ (ao : Option Addr) (b o cap : Nat), v = .slice ao l.length cap ∧ (0 < l.length → ao = some ⟨b, o, none⟩ ∧ p b ∧ BlkT w b t) ∧ (ao = none → cap = 0) ∧ l.length ≤ 4294967296 ∧ ∀ (i x : Nat), l[i]? = some x → w.cell? ⟨b, o + i, none⟩ = some (mk x)
theorem ListAt.nil (w : World) (t : TypeId) (mk : Nat → Value) (p : Nat → Prop) : ListAt w t mk p (.slice none 0 0) [] := ⟨none, 0, 0, 0, rfl, fun h => absurd h (by simp), fun _ => rfl, by simp, fun i x h => by simp at h⟩
theorem ListAt.keep {w w' : World} {t : TypeId} {mk : Nat → Value} {p q : Nat → Prop} {v : Value} {l : List Nat} (h : ListAt w t mk p v l) (hb : ∀ b, BlkT w b t → p b → w'.heap[b]? = w.heap[b]? ∧ q b) : ListAt w' t mk q v l := by
  obtain ⟨ao, b, o, cap, rfl, h1, h2, h3, h4⟩ := h
  refine ⟨ao, b, o, cap, rfl, fun h0 => ?_, h2, h3, fun i x hx => ?_⟩
  · obtain ⟨e, hp, ht⟩ := h1 h0
    obtain ⟨e2, hq⟩ := hb b ht hp
    exact ⟨e, hq, ht.same e2⟩
  · have h0 : 0 < l.length := by have := (List.getElem?_eq_some_iff.1 hx).1; omega
    obtain ⟨_, hp, ht⟩ := h1 h0
    rw [← h4 i x hx]
    unfold World.cell?
    rw [(hb b ht hp).1]
theorem ListAt.drew {w : World} {t : TypeId} {mk : Nat → Value} {p : Nat → Prop} {v : Value} {l : List Nat} (h : ListAt w t mk p v l) : ListAt w.drew t mk p v l := h
theorem ListAt.isSlice {w : World} {t : TypeId} {mk : Nat → Value} {p : Nat → Prop} {v : Value} {l : List Nat} (h : ListAt w t mk p v l) : ∃ ao cap, v = .slice ao l.length cap := by
  obtain ⟨ao, b, o, cap, e, _⟩ := h; exact ⟨ao, cap, e⟩

theorem mkI_one (l : List Nat) : (l.map mkI).all (fun u => u.oneCell') = true := by
  rw [List.all_eq_true]; intro u hu; obtain ⟨x, _, rfl⟩ := List.mem_map.1 hu; rfl
theorem mkU_one (l : List Nat) : (l.map mkU).all (fun u => u.oneCell') = true := by
  rw [List.all_eq_true]; intro u hu; obtain ⟨x, _, rfl⟩ := List.mem_map.1 hu; rfl

/-- a copy -/
def CloneP (t : TypeId) (mk : Nat → Value) (l : List Nat) (w : World) (e : Ending) (w' : World) : Prop :=
  ∃ v, e = .returned v ∧ ListAt w' t mk (fun b => w.heap.size ≤ b) v l ∧ Below w.heap.size w w'

set_option maxHeartbeats 1000000 in
theorem clone_ints (p : Nat → Prop) (v : Value) (l : List Nat) (w : World) (h : ListAt w 3 mkI p v l) :
    Calls Try.prog 80 #[v] w (CloneP 3 mkI l w) := by
  have qT : ∀ (w : World) (a : Option Addr) (n c n' c' : Nat), (binOp .eql 24 (.slice a n c) (.slice none n' c')).run Try.prog w = .ok (.bool a.isNone) w := fun w a n c n' c' => Lib.run_eql_slice_nil w _ _ a n c n' c' Try.underlying24
  obtain ⟨ao, b, o, cap, rfl, ha, hn, hl, hc⟩ := h
  cases ao with
  | none =>
    have h0 : l = [] := by
      cases l with
      | nil => rfl
      | cons x l => exact absurd (ha (by simp)).1 (by simp)
    subst h0
    clear ha hc hn
    go_enter Try.func80, Try.ntmps80
    go_wp2
    go_ret
    exact ⟨_, rfl, ListAt.nil _ _ _ _, Below.refl _ _⟩
  | some ad =>
    obtain ⟨iI, ia, ib, ic, id⟩ := info_parts infoIu
    have HA := Lib.hid ha
    have HS : Hid (∀ (j : Nat) (u : Value), (l.map mkI)[j]? = some u → w.cell? ⟨b, o + j, none⟩ = some u) := Lib.hid (fun j u hu => by
      rw [List.getElem?_map] at hu
      obtain ⟨x, hx, rfl⟩ := Option.map_eq_some_iff.1 hu
      exact hc j x hx)
    have HONE := Lib.hid (mkI_one l)
    have HLEN : Hid ((l.map mkI).length = l.length * 1) := Lib.hid (by simp)
    clear ha hc hn
    go_enter Try.func80, Try.ntmps80
    go_wp2_with (at_builtin; refine append_freshk rfl _ _ 24 rfl 3 1 iI (.int .i64 0) 8 Try.underlying24 ia ib ic (by decide) id rfl (by decide) w.heap.size rfl rfl (some ad) b o cap l.length (l.map mkI) rfl HLEN.out (fun h => (HA.out h).1) HS.out (fun h => by cases h) HONE.out hl ?_)
    intro g cap' cur w1 hb hcur hg hbl
    have HC1 : Hid (ListAt w1 3 mkI (fun b => w.heap.size ≤ b) (.slice (some ⟨g, 0, none⟩) l.length cap') l) := Lib.hid ⟨_, g, 0, cap', rfl, fun _ => ⟨rfl, hg, ⟨_, hb⟩⟩, fun h => (by cases h), hl, fun i x hx => cell_of_heap hb (by rw [Nat.zero_add]; exact hcur i _ (by first | exact hx | (rw [List.getElem?_map, hx]; rfl)))⟩
    have HBL := Lib.hid hbl
    clear hb hcur hbl
    go_wp2
    go_ret
    exact ⟨_, rfl, HC1.out, HBL.out⟩

set_option maxHeartbeats 1000000 in
theorem clone_u64s (p : Nat → Prop) (v : Value) (l : List Nat) (w : World) (h : ListAt w 37 mkU p v l) :
    Calls Try.prog 79 #[v] w (CloneP 37 mkU l w) := by
  have qT : ∀ (w : World) (a : Option Addr) (n c n' c' : Nat), (binOp .eql 28 (.slice a n c) (.slice none n' c')).run Try.prog w = .ok (.bool a.isNone) w := fun w a n c n' c' => Lib.run_eql_slice_nil w _ _ a n c n' c' Try.underlying28
  obtain ⟨ao, b, o, cap, rfl, ha, hn, hl, hc⟩ := h
  cases ao with
  | none =>
    have h0 : l = [] := by
      cases l with
      | nil => rfl
      | cons x l => exact absurd (ha (by simp)).1 (by simp)
    subst h0
    clear ha hc hn
    go_enter Try.func79, Try.ntmps79
    go_wp2
    go_ret
    exact ⟨_, rfl, ListAt.nil _ _ _ _, Below.refl _ _⟩
  | some ad =>
    obtain ⟨iI, ia, ib, ic, id⟩ := info_parts info22
    have HA := Lib.hid ha
    have HS : Hid (∀ (j : Nat) (u : Value), (l.map mkU)[j]? = some u → w.cell? ⟨b, o + j, none⟩ = some u) := Lib.hid (fun j u hu => by
      rw [List.getElem?_map] at hu
      obtain ⟨x, hx, rfl⟩ := Option.map_eq_some_iff.1 hu
      exact hc j x hx)
    have HONE := Lib.hid (mkU_one l)
    have HLEN : Hid ((l.map mkU).length = l.length * 1) := Lib.hid (by simp)
    clear ha hc hn
    go_enter Try.func79, Try.ntmps79
    go_wp2_with (at_builtin; refine append_freshk rfl _ _ 28 rfl 37 1 iI (.int .u64 0) 8 Try.underlying28 ia ib ic (by decide) id rfl (by decide) w.heap.size rfl rfl (some ad) b o cap l.length (l.map mkU) rfl HLEN.out (fun h => (HA.out h).1) HS.out (fun h => by cases h) HONE.out hl ?_)
    intro g cap' cur w1 hb hcur hg hbl
    have HC1 : Hid (ListAt w1 37 mkU (fun b => w.heap.size ≤ b) (.slice (some ⟨g, 0, none⟩) l.length cap') l) := Lib.hid ⟨_, g, 0, cap', rfl, fun _ => ⟨rfl, hg, ⟨_, hb⟩⟩, fun h => (by cases h), hl, fun i x hx => cell_of_heap hb (by rw [Nat.zero_add]; exact hcur i _ (by first | exact hx | (rw [List.getElem?_map, hx]; rfl)))⟩
    have HBL := Lib.hid hbl
    clear hb hcur hbl
    go_wp2
    go_ret
    exact ⟨_, rfl, HC1.out, HBL.out⟩

/-- an operation tells its key -/
structure HasKey (opv : Value) (k : List Nat) (w : World) : Prop where
  ask : ∃ (tid : TypeId) (u : Value) (fid : FuncId), opv = .iface tid u ∧ (∀ w' : World, (Instr.typeAssert opv 141 165 true).run Try.prog w' = .ok (.tuple #[.iface tid u, .bool true]) w') ∧
    (∀ w' : World, (method 369 tid u "Key").run Try.prog w' = .ok (fid, u) w') ∧ (∀ (args : Array Value) (w' : World), (callFunc fid args).run Try.prog w' = .ok (.enter fid args) w') ∧
    ∀ W : World, Below w.heap.size w W → Calls Try.prog fid #[u] W fun e w' => ∃ v, e = .returned v ∧ ListAt w' 3 mkI (fun _ => True) v k ∧ Below W.heap.size W w'
def KeyOk (opv : Value) (k : List Nat) (w : World) : Prop := (NoKey opv ∧ k = []) ∨ HasKey opv k w

set_option maxRecDepth 20000 in
set_option maxHeartbeats 1000000 in
theorem key_any (g : Nat) (opv : Value) (k : List Nat) (w : World) (hc : w.cell? ⟨g, 8, none⟩ = some opv) (hk : KeyOk opv k w) :
    Calls Try.prog 78 #[.pointer (some ⟨g, 0, none⟩)] w (CloneP 3 mkI k w) := by
  rcases hk with ⟨hk, rfl⟩ | ⟨tid, u, fid, rfl, hta, hm, hent, hcall⟩
  · exact (key_none g opv w hc hk).mono fun e w' ⟨he, hw⟩ => by subst hw; exact ⟨_, he, ListAt.nil _ _ _ _, Below.refl _ _⟩
  · have HC := Lib.hid hcall
    clear hcall
    go_enter Try.func78, Try.ntmps78
    go_wp2_with fail
    refine (HC.out _ (Below.refl _ _)).mono ?_
    rintro e w1 ⟨v, rfl, hv, hb1⟩
    have HV := Lib.hid hv
    have HB1 := Lib.hid hb1
    obtain ⟨ao, cap, hve⟩ := hv.isSlice
    subst hve
    clear hv hb1
    go_wp2_with fail
    refine (clone_ints _ _ k w1 HV.out).mono ?_
    rintro e w2 ⟨v2, rfl, hv2, hb2⟩
    have z1 := HB1.out.size
    have HV2 : Hid (ListAt w2 3 mkI (fun b => w.heap.size ≤ b) v2 k) := Lib.hid (hv2.keep (fun b _ hb => ⟨rfl, Nat.le_trans z1 hb⟩))
    have HB2 : Hid (Below w.heap.size w w2) := Lib.hid (HB1.out.trans (hb2.mono z1))
    clear hv2 hb2
    go_wp2
    go_ret
    exact ⟨_, rfl, HV2.out, HB2.out⟩
end
section
open Go.RowKit

/-- how a machine's states lie in memory: each in blocks of its own -/
structure MachRel (M : Mach) where
  objs : List Value
  Obj : World → M.S → (Nat → Prop) → Prop
  Op : World → Value → M.Q → (Nat → Prop) → Prop
  obj_keep : ∀ {w w' : World} {s : M.S} {F G : Nat → Prop}, Obj w s F → (∀ k, F k → w'.heap[k]? = w.heap[k]?) → (∀ k, F k → G k) → Obj w' s G
  op_keep : ∀ {w w' : World} {v : Value} {q : M.Q} {F G : Nat → Prop}, Op w v q F → (∀ k, F k → w'.heap[k]? = w.heap[k]?) → (∀ k, F k → G k) → Op w' v q G
  op_iface : ∀ {w : World} {v : Value} {q : M.Q} {F : Nat → Prop}, Op w v q F → ∃ t u, v = .iface t u
section
variable {M : Mach}
def OpQ (K : MachRel M) (w : World) (v : Value) (q : M.Q ⊕ Nat) (F : Nat → Prop) : Prop :=
  match q with
  | .inl q => K.Op w v q F
  | .inr e => v = .iface 146 (.agg #[.int .i64 (e : Int)]) ∧ e ≤ 1000
theorem OpQ.keep {K : MachRel M} {w w' : World} {v : Value} {q : M.Q ⊕ Nat} {F G : Nat → Prop} (h : OpQ K w v q F) (hb : ∀ k, F k → w'.heap[k]? = w.heap[k]?) (hG : ∀ k, F k → G k) : OpQ K w' v q G := by
  cases q with
  | inl q => exact K.op_keep h hb hG
  | inr e => exact h
theorem OpQ.iface {K : MachRel M} {w : World} {v : Value} {q : M.Q ⊕ Nat} {F : Nat → Prop} (h : OpQ K w v q F) : ∃ t u, v = .iface t u := by
  cases q with
  | inl q => exact K.op_iface h
  | inr e => exact ⟨_, _, h.1⟩

/-- what a step answers -/
def AnsOut (p : Nat → Prop) (en : Ending) (w' : World) : Option Ans → Prop
  | none => en = .returned (.tuple #[.agg #[.int .i64 0, .int .u64 0, .slice none 0 0], .bool false])
  | some a => ∃ lv, en = .returned (.tuple #[.agg #[.int .i64 (a.err : Int), .int .u64 (a.val : Int), lv], .bool true]) ∧ ListAt w' 37 mkU p lv a.list
/-- what a step leaves -/
structure StepRel (K : MachRel M) (r : Out M) (opv : Value) (bm bw : Nat) (F FO : Nat → Prop) (w : World) (en : Ending) (w' : World) : Prop where
  mem : MemIs 139 w' bm bw r.ws r.cn
  but : ButS (fun k => k = bm ∨ k = bw ∨ F k ∨ FO k) w w'
  ex : ∃ F' FO' : Nat → Prop, (∀ b, F' b → b < w'.heap.size ∧ (F b ∨ w.heap.size ≤ b)) ∧ (∀ b, FO' b → b < w'.heap.size ∧ (FO b ∨ w.heap.size ≤ b) ∧ ¬ F' b) ∧ K.Obj w' r.s FO' ∧ OpQ K w' opv r.q F' ∧
    AnsOut (fun b => (F b ∨ w.heap.size ≤ b) ∧ ¬ F' b ∧ ¬ FO' b) en w' r.ans
def StepC (K : MachRel M) (r : Out M) (t : Nat) (opv : Value) (bm bw : Nat) (F FO : Nat → Prop) (w : World) : Prop :=
  ∃ (tid : TypeId) (u : Value) (fid : FuncId), opv = .iface tid u ∧ (∀ w' : World, (method 369 tid u "Step").run Try.prog w' = .ok (fid, u) w') ∧ (∀ (args : Array Value) (w' : World), (callFunc fid args).run Try.prog w' = .ok (.enter fid args) w') ∧
    ∀ W : World, Below w.heap.size w W → Calls Try.prog fid #[u, turnAgg bm (t : Int)] W (StepRel K r opv bm bw F FO W)
def Sep (bm bw : Nat) (F FO : Nat → Prop) (w : World) : Prop := (∀ b, F b → b < w.heap.size ∧ b ≠ bm ∧ b ≠ bw ∧ ¬ FO b) ∧ ∀ b, FO b → b < w.heap.size ∧ b ≠ bm ∧ b ≠ bw

/-- an invocation's step, all told -/
structure InvStep (K : MachRel M) (r : Out M) (opv : Value) (g bm bw : Nat) (F FO : Nat → Prop) (call inv steps t : Nat) (w : World) (en : Ending) (w' : World) : Prop where
  mem : MemIs 139 w' bm bw r.ws r.cn
  but : ButS (fun k => k = g ∨ k = bm ∨ k = bw ∨ F k ∨ FO k) w w'
  ex : ∃ F' FO' : Nat → Prop, (∀ b, F' b → b < w'.heap.size ∧ (F b ∨ w.heap.size ≤ b)) ∧ (∀ b, FO' b → b < w'.heap.size ∧ (FO b ∨ w.heap.size ≤ b) ∧ ¬ F' b) ∧ K.Obj w' r.s FO' ∧ OpQ K w' opv r.q F' ∧
    match r.ans with
    | none => en = .returned (.bool false) ∧ RowBlk 148 w' g (invVs call inv 0 (steps + 1) 0 0 (.slice none 0 0) (.slice none 0 0) opv)
    | some a => en = .returned (.bool true) ∧ ∃ lv kv, RowBlk 148 w' g (invVs call inv t (steps + 1) a.err a.val lv kv opv) ∧ ListAt w' 37 mkU (fun b => (F b ∨ w.heap.size ≤ b) ∧ ¬ F' b ∧ ¬ FO' b) lv a.list ∧
        ListAt w' 3 mkI (fun b => w.heap.size ≤ b ∧ ¬ F' b ∧ ¬ FO' b) kv (keyOr (keyQ r.s r.q) t)

/-- from a step's world to that behind the stores -/
theorem StepRel.later {g ga bm bw : Nat} {F FO : Nat → Prop} {w wc w4 W6 : World} (hB : ButS (fun k => k = bm ∨ k = bw ∨ F k ∨ FO k) wc w4) (hwc : Below w.heap.size w wc)
    (hx : ButS (fun k => k = g ∨ k = ga) w4 W6) (hgw : w.heap.size ≤ ga) : ButS (fun k => k = g ∨ k = bm ∨ k = bw ∨ F k ∨ FO k) w W6 :=
  ⟨(hx.os.trans hB.os).trans hwc.os, (hx.tape.trans hB.tape).trans hwc.tape, (hx.output.trans hB.output).trans hwc.output, Nat.le_trans hwc.size (Nat.le_trans hB.size hx.size), fun k hk hs => by
    have h1 := hwc.block k hk
    have h2 := hB.block k (Nat.lt_of_lt_of_le hk hwc.size) (fun h => hs (.inr h))
    have h3 := hx.block k (Nat.lt_of_lt_of_le hk (Nat.le_trans hwc.size hB.size)) (fun h => h.elim (fun h => hs (.inl h)) (fun h => by omega))
    exact h3.trans (h2.trans h1)⟩
theorem inv_more {K : MachRel M} {r : Out M} {opv : Value} {g ga bm bw call inv steps t : Nat} {F FO : Nat → Prop} {w wc w4 W6 : World} {en : Ending} (hR : StepRel K r opv bm bw F FO wc en w4) (ha : r.ans = none) (hwc : Below w.heap.size w wc)
    (hx : ButS (fun k => k = g ∨ k = ga) w4 W6) (hgw : w.heap.size ≤ ga) (hga : w4.heap.size ≤ ga ∨ ga < wc.heap.size) (hsep : Sep bm bw F FO w) (hgF : ¬ F g ∧ ¬ FO g) (hg : g < w.heap.size) (hgm : g ≠ bm) (hgb : g ≠ bw) (hm : bm < w.heap.size) (hb : bw < w.heap.size)
    (hrow : RowBlk 148 W6 g (invVs call inv 0 (steps + 1) 0 0 (.slice none 0 0) (.slice none 0 0) opv)) : InvStep K r opv g bm bw F FO call inv steps t w (.returned (.bool false)) W6 := by
  have z1 := hwc.size
  have z2 := hR.but.size
  obtain ⟨F', FO', h1, h2, h3, h4, _⟩ := hR.ex
  have e1 : ∀ k, F' k → W6.heap[k]? = w4.heap[k]? := fun k hk => hx.block k (h1 k hk).1 (fun h => by
    have hk1 := h1 k hk
    rcases h with rfl | rfl
    · exact hk1.2.elim hgF.1 (fun h => by omega)
    · exact hga.elim (fun h => by omega) (fun h' => hk1.2.elim (fun h => by have := (hsep.1 _ h).1; omega) (fun h => by omega)))
  have e2 : ∀ k, FO' k → W6.heap[k]? = w4.heap[k]? := fun k hk => hx.block k (h2 k hk).1 (fun h => by
    have hk1 := h2 k hk
    rcases h with rfl | rfl
    · exact hk1.2.1.elim hgF.2 (fun h => by omega)
    · exact hga.elim (fun h => by omega) (fun h' => hk1.2.1.elim (fun h => by have := (hsep.2 _ h).1; omega) (fun h => by omega)))
  refine ⟨hR.mem.of_blocks (hx.block bm hR.mem.lt1 (fun h => h.elim (fun h => hgm h.symm) (fun h => by omega))) (hx.block bw hR.mem.lt2 (fun h => h.elim (fun h => hgb h.symm) (fun h => by omega))), StepRel.later hR.but hwc hx hgw, F', FO', fun b hb => ⟨Nat.lt_of_lt_of_le (h1 b hb).1 hx.size, (h1 b hb).2.imp id (fun h => by omega)⟩,
    fun b hb => ⟨Nat.lt_of_lt_of_le (h2 b hb).1 hx.size, (h2 b hb).2.1.imp id (fun h => by omega), (h2 b hb).2.2⟩, K.obj_keep h3 e2 (fun _ h => h), h4.keep e1 (fun _ h => h), ?_⟩
  rw [ha]
  exact ⟨rfl, hrow⟩

set_option maxRecDepth 100000 in
set_option maxHeartbeats 4000000 in
theorem step_more (K : MachRel M) (r : Out M) (opv : Value) (g bm bw : Nat) (F FO : Nat → Prop) (call inv steps t : Nat) (l : List Nat) (c : Cn) (w : World) (hS : StepC K r t opv bm bw F FO w) (hsep : Sep bm bw F FO w) (hM : MemIs 139 w bm bw l c)
    (hg : RowBlk 148 w g (invVs call inv 0 steps 0 0 (.slice none 0 0) (.slice none 0 0) opv)) (hgF : ¬ F g ∧ ¬ FO g) (hst : steps ≤ 4294967296) (ha : r.ans = none) :
    Calls Try.prog 55 #[.pointer (some ⟨g, 0, none⟩), turnAgg bm (t : Int)] w (InvStep K r opv g bm bw F FO call inv steps t w) := by
  obtain ⟨tid, v, fid, rfl, hm, hent, hcall⟩ := hS
  have HCALL := Lib.hid hcall
  have HSEP := Lib.hid hsep
  have HANS := Lib.hid ha
  have HGF := Lib.hid hgF
  have HG := Lib.hid hg
  have hglt := hg.lt
  have hgm : g ≠ bm := by intro e; have h1 := hg; have h2 := hM.1; unfold RowBlk at h1; rw [e, h2] at h1; simp at h1
  have hgw : g ≠ bw := by intro e; have h1 := hg; have h2 := hM.2.1; unfold RowBlk at h1; rw [e, h2] at h1; simp at h1
  have hbml := hM.lt1
  have hbwl := hM.lt2
  have c8 : w.cell? ⟨g, 8, none⟩ = some (.iface tid v) := hg.cell rfl
  clear hcall hM hg ha hsep hgF
  unfold turnAgg
  go_enter Try.func55, Try.ntmps55
  go_wp2_with fail
  have HGa := Lib.hid (HG.out.alloc (.cells #[.iface 97 (.pointer (some ⟨bm, 0, none⟩)), .int .i64 (t : Int)] 113))
  have HTa : Hid (RowBlk 113 (w.alloc (.cells #[.iface 97 (.pointer (some ⟨bm, 0, none⟩)), .int .i64 (t : Int)] 113)) w.heap.size [.iface 97 (.pointer (some ⟨bm, 0, none⟩)), .int .i64 (t : Int)]) := Lib.hid (RowBlk.new _ _ _)
  have HBa : Hid (Below w.heap.size w (w.alloc (.cells #[.iface 97 (.pointer (some ⟨bm, 0, none⟩)), .int .i64 (t : Int)] 113))) := Lib.hid ((Below.refl _ _).alloc (Nat.le_refl _) _)
  have hsa : (w.alloc (.cells #[.iface 97 (.pointer (some ⟨bm, 0, none⟩)), .int .i64 (t : Int)] 113)).heap.size = w.heap.size + 1 := by simp
  generalize w.alloc (.cells #[.iface 97 (.pointer (some ⟨bm, 0, none⟩)), .int .i64 (t : Int)] 113) = wa at HGa HTa HBa hsa ⊢
  have d8 : wa.cell? ⟨g, 8, none⟩ = some (.iface tid v) := HGa.out.cell rfl
  have t0 : wa.cell? ⟨w.heap.size, 0, none⟩ = some (.iface 97 (.pointer (some ⟨bm, 0, none⟩))) := HTa.out.cell rfl
  have t1 : wa.cell? ⟨w.heap.size, 1, none⟩ = some (.int .i64 (t : Int)) := HTa.out.cell rfl
  have HSA := Lib.hid hsa
  have n1 : wa.heap.size ≠ g := by have := HGa.out.lt; omega
  have n2 : wa.heap.size ≠ w.heap.size := by omega
  have n3 : g ≠ wa.heap.size := by have := HGa.out.lt; omega
  have n4 : w.heap.size ≠ wa.heap.size := by omega
  clear c8 hsa
  go_region_held3 (fun w' => w'.cell? ⟨g, 8, none⟩ = some (.iface tid v) ∧ w'.cell? ⟨w.heap.size, 0, none⟩ = some (.iface 97 (.pointer (some ⟨bm, 0, none⟩))) ∧ w'.cell? ⟨w.heap.size, 1, none⟩ = some (.int .i64 (t : Int)))
    (first | exact ⟨e8, e0, e1⟩ | go_keep)
    (first
      | (refine (HCALL.out _ (below_drew (HBa.out.alloc (by have := HSA.out; omega) _))).mono ?_
         rintro e w4 hR
         have hX : AnsOut (fun _ => True) e w4 r.ans := by
           obtain ⟨F', FO', _, _, _, _, ho⟩ := hR.ex
           rw [HANS.out] at ho ⊢
           exact ho
         rw [HANS.out] at hX
         obtain rfl := hX
         have hB4 := hR.but
         have hG4 : RowBlk 148 w4 g (invVs call inv 0 steps 0 0 (.slice none 0 0) (.slice none 0 0) (.iface tid v)) := RowBlk.same ((HGa.out.alloc _).drew) (hB4.block g (by show _ < (wa.alloc _).heap.size; have := HGa.out.lt; simp; omega) (fun h => h.elim hgm (fun h => h.elim hgw (fun h => h.elim HGF.out.1 HGF.out.2))))
         have hT4 : RowBlk 113 w4 w.heap.size [.iface 97 (.pointer (some ⟨bm, 0, none⟩)), .int .i64 (t : Int)] := RowBlk.same ((HTa.out.alloc _).drew) (hB4.block w.heap.size (by show _ < (wa.alloc _).heap.size; have := HTa.out.lt; simp; omega) (fun h => h.elim (by omega) (fun h => h.elim (by omega) (fun h => h.elim (fun h => by have := (HSEP.out.1 _ h).1; omega) (fun h => by have := (HSEP.out.2 _ h).1; omega)))))
         have e8 : w4.cell? ⟨g, 8, none⟩ = some (.iface tid v) := hG4.cell rfl
         have e0 : w4.cell? ⟨w.heap.size, 0, none⟩ = some (.iface 97 (.pointer (some ⟨bm, 0, none⟩))) := hT4.cell rfl
         have e1 : w4.cell? ⟨w.heap.size, 1, none⟩ = some (.int .i64 (t : Int)) := hT4.cell rfl
         have hA4 : RowBlk 39 w4 wa.heap.size [.int .i64 0, .int .u64 0, .slice none 0 0] := RowBlk.same (RowBlk.drew (RowBlk.new wa [.int .i64 0, .int .u64 0, .slice none 0 0] 39)) (hB4.block wa.heap.size (by show wa.heap.size < (wa.alloc _).heap.size; simp) (fun h => h.elim (by have := HSA.out; omega) (fun h => h.elim (by have := HSA.out; omega) (fun h => h.elim (fun h => by have := (HSEP.out.1 _ h).1; have := HSA.out; omega) (fun h => by have := (HSEP.out.2 _ h).1; have := HSA.out; omega)))))
         have a0 := hA4.cell (i := 0) rfl
         have a1 := hA4.cell (i := 1) rfl
         have a2 := hA4.cell (i := 2) rfl
         have z0 : w4.frozen? ⟨wa.heap.size, 0, none⟩ = false := hA4.free
         have z1 : w4.frozen? ⟨wa.heap.size, 1, none⟩ = false := hA4.free
         have z2 : w4.frozen? ⟨wa.heap.size, 2, none⟩ = false := hA4.free
         have hwc : wa.heap.size < (wa.alloc (.cells #[.int .i64 0, .int .u64 0, .slice none 0 0] 39)).heap.size := by simp
         have HA4 := Lib.hid hA4
         clear hA4
         have y1 : w4.heap.size ≠ g := by have := hG4.lt; omega
         have y2 : w4.heap.size ≠ w.heap.size := by have := hT4.lt; omega
         have y3 : g ≠ w4.heap.size := by have := hG4.lt; omega
         have y4 : w.heap.size ≠ w4.heap.size := by have := hT4.lt; omega
         have HWC := Lib.hid hwc
         have HR := Lib.hid hR
         have HG4 := Lib.hid hG4
         have HT4 := Lib.hid hT4
         clear hB4 hG4 hT4 hR hwc)
      | (refine (HCALL.out _ (below_drew HBa.out)).mono ?_
         rintro e w4 hR
         have hX : AnsOut (fun _ => True) e w4 r.ans := by
           obtain ⟨F', FO', _, _, _, _, ho⟩ := hR.ex
           rw [HANS.out] at ho ⊢
           exact ho
         rw [HANS.out] at hX
         obtain rfl := hX
         have hB4 := hR.but
         have hG4 : RowBlk 148 w4 g (invVs call inv 0 steps 0 0 (.slice none 0 0) (.slice none 0 0) (.iface tid v)) := RowBlk.same (HGa.out.drew) (hB4.block g (HGa.out.lt) (fun h => h.elim hgm (fun h => h.elim hgw (fun h => h.elim HGF.out.1 HGF.out.2))))
         have hT4 : RowBlk 113 w4 w.heap.size [.iface 97 (.pointer (some ⟨bm, 0, none⟩)), .int .i64 (t : Int)] := RowBlk.same (HTa.out.drew) (hB4.block w.heap.size (HTa.out.lt) (fun h => h.elim (by omega) (fun h => h.elim (by omega) (fun h => h.elim (fun h => by have := (HSEP.out.1 _ h).1; omega) (fun h => by have := (HSEP.out.2 _ h).1; omega)))))
         have e8 : w4.cell? ⟨g, 8, none⟩ = some (.iface tid v) := hG4.cell rfl
         have e0 : w4.cell? ⟨w.heap.size, 0, none⟩ = some (.iface 97 (.pointer (some ⟨bm, 0, none⟩))) := hT4.cell rfl
         have e1 : w4.cell? ⟨w.heap.size, 1, none⟩ = some (.int .i64 (t : Int)) := hT4.cell rfl
         have y1 : w4.heap.size ≠ g := by have := hG4.lt; omega
         have y2 : w4.heap.size ≠ w.heap.size := by have := hT4.lt; omega
         have y3 : g ≠ w4.heap.size := by have := hG4.lt; omega
         have y4 : w.heap.size ≠ w4.heap.size := by have := hT4.lt; omega
         have HR := Lib.hid hR
         have HG4 := Lib.hid hG4
         have HT4 := Lib.hid hT4
         clear hB4 hG4 hT4 hR))
  · have hG5 := HG4.out.alloc (.cells #[.int .i64 0, .int .u64 0, .slice none 0 0] 39)
    have H5 : Hid (ButS (fun k => k = g ∨ k = w4.heap.size) w4 (w4.alloc (.cells #[.int .i64 0, .int .u64 0, .slice none 0 0] 39))) := Lib.hid ((ButS.refl _ _).alloc _)
    have HZ4 := Lib.hid HR.out.but.size
    generalize w4.alloc (.cells #[.int .i64 0, .int .u64 0, .slice none 0 0] 39) = W5 at hG5 H5 ⊢
    have g3 : W5.cell? ⟨g, 3, none⟩ = some (.int .i64 (steps : Int)) := hG5.cell rfl
    have fz : W5.frozen? ⟨g, 3, none⟩ = false := hG5.free
    have HG5 := Lib.hid hG5
    clear hG5
    go_wp2_with fail
    go_ret
    refine inv_more (ga := w4.heap.size) HR.out HANS.out (below_drew HBa.out) (H5.out.setCell (.inl (.inl rfl)) _) ?_ (.inl (Nat.le_refl _)) HSEP.out HGF.out hglt hgm hgw hbml hbwl ?_
    · have h1 := HZ4.out; have h2 := HSA.out; have h3 : wa.drew.heap.size = wa.heap.size := rfl; omega
    · exact HG5.out.put 3 _
  · have hG5 : RowBlk 148 (((w4.setCell ⟨wa.heap.size, 0, none⟩ (.int .i64 0)).setCell ⟨wa.heap.size, 1, none⟩ (.int .u64 0)).setCell ⟨wa.heap.size, 2, none⟩ (.slice none 0 0)) g (invVs call inv 0 steps 0 0 (.slice none 0 0) (.slice none 0 0) (.iface tid v)) := ((HG4.out.other n3 _).other n3 _).other n3 _
    have H5 : Hid (ButS (fun k => k = g ∨ k = wa.heap.size) w4 (((w4.setCell ⟨wa.heap.size, 0, none⟩ (.int .i64 0)).setCell ⟨wa.heap.size, 1, none⟩ (.int .u64 0)).setCell ⟨wa.heap.size, 2, none⟩ (.slice none 0 0))) := Lib.hid ((((ButS.refl _ _).setCell (.inl (.inr rfl)) _).setCell (.inl (.inr rfl)) _).setCell (.inl (.inr rfl)) _)
    generalize ((w4.setCell ⟨wa.heap.size, 0, none⟩ (.int .i64 0)).setCell ⟨wa.heap.size, 1, none⟩ (.int .u64 0)).setCell ⟨wa.heap.size, 2, none⟩ (.slice none 0 0) = W5 at hG5 H5 ⊢
    have g3 : W5.cell? ⟨g, 3, none⟩ = some (.int .i64 (steps : Int)) := hG5.cell rfl
    have fz : W5.frozen? ⟨g, 3, none⟩ = false := hG5.free
    have HG5 := Lib.hid hG5
    clear hG5
    go_wp2_with fail
    go_ret
    refine inv_more (ga := wa.heap.size) HR.out HANS.out (below_drew (HBa.out.alloc (by have := HSA.out; omega) _)) (H5.out.setCell (.inl (.inl rfl)) _) (by have := HSA.out; omega) (.inr HWC.out) HSEP.out HGF.out hglt hgm hgw hbml hbwl ?_
    exact HG5.out.put 3 _
end
end
section
open Go.RowKit
section
variable {M : Mach}
/-- what a last step leaves, as long as nothing but other blocks is turned -/
structure LastRel (K : MachRel M) (r : Out M) (an : Ans) (opv lv : Value) (bm bw : Nat) (F FO F' FO' : Nat → Prop) (wc w4 : World) : Prop where
  mem : MemIs 139 w4 bm bw r.ws r.cn
  f1 : ∀ b, F' b → b < w4.heap.size ∧ (F b ∨ wc.heap.size ≤ b)
  f2 : ∀ b, FO' b → b < w4.heap.size ∧ (FO b ∨ wc.heap.size ≤ b) ∧ ¬ F' b
  obj : K.Obj w4 r.s FO'
  op : OpQ K w4 opv r.q F'
  lst : ListAt w4 37 mkU (fun b => (F b ∨ wc.heap.size ≤ b) ∧ ¬ F' b ∧ ¬ FO' b) lv an.list
theorem LastRel.later {K : MachRel M} {r : Out M} {an : Ans} {opv lv : Value} {g ga bm bw : Nat} {F FO F' FO' : Nat → Prop} {w wc w4 W6 : World} (h : LastRel K r an opv lv bm bw F FO F' FO' wc w4) (hB : ButS (fun k => k = bm ∨ k = bw ∨ F k ∨ FO k) wc w4) (hwc : Below w.heap.size w wc)
    (hx : ButS (fun k => k = g ∨ k = ga) w4 W6) (hgw : w.heap.size ≤ ga) (hga : w4.heap.size ≤ ga ∨ ga < wc.heap.size) (hsep : Sep bm bw F FO w) (hgF : ¬ F g ∧ ¬ FO g) (hg : g < w.heap.size) (hgm : g ≠ bm) (hgb : g ≠ bw) (hm : bm < w.heap.size) (hb : bw < w.heap.size) :
    LastRel K r an opv lv bm bw F FO F' FO' wc W6 ∧ ButS (fun k => k = g ∨ k = bm ∨ k = bw ∨ F k ∨ FO k) w W6 := by
  have z1 := hwc.size
  have z2 := hB.size
  have e0 : ∀ k, k < w4.heap.size → (F k ∨ wc.heap.size ≤ k) → W6.heap[k]? = w4.heap[k]? := fun k hk hk1 => hx.block k hk (fun h => by
    rcases h with rfl | rfl
    · exact hk1.elim hgF.1 (fun h => by omega)
    · exact hga.elim (fun h => by omega) (fun h' => hk1.elim (fun h => by have := (hsep.1 _ h).1; omega) (fun h => by omega)))
  have e2 : ∀ k, FO' k → W6.heap[k]? = w4.heap[k]? := fun k hk => hx.block k (h.f2 k hk).1 (fun h' => by
    have hk1 := h.f2 k hk
    rcases h' with rfl | rfl
    · exact hk1.2.1.elim hgF.2 (fun h => by omega)
    · exact hga.elim (fun h => by omega) (fun h' => hk1.2.1.elim (fun h => by have := (hsep.2 _ h).1; omega) (fun h => by omega)))
  refine ⟨⟨h.mem.of_blocks (hx.block bm h.mem.lt1 (fun h => h.elim (fun h => hgm h.symm) (fun h => by omega))) (hx.block bw h.mem.lt2 (fun h => h.elim (fun h => hgb h.symm) (fun h => by omega))), fun b hb => ⟨Nat.lt_of_lt_of_le (h.f1 b hb).1 hx.size, (h.f1 b hb).2⟩,
    fun b hb => ⟨Nat.lt_of_lt_of_le (h.f2 b hb).1 hx.size, (h.f2 b hb).2⟩, K.obj_keep h.obj e2 (fun _ h => h), h.op.keep (fun k hk => e0 k (h.f1 k hk).1 (h.f1 k hk).2) (fun _ h => h), h.lst.keep (fun b ht hb => ⟨e0 b ht.lt hb.1, hb⟩)⟩, StepRel.later hB hwc hx hgw⟩
theorem LastRel.below {K : MachRel M} {r : Out M} {an : Ans} {opv lv : Value} {bm bw : Nat} {F FO F' FO' : Nat → Prop} {wc w4 W6 : World} (h : LastRel K r an opv lv bm bw F FO F' FO' wc w4) (hb : Below w4.heap.size w4 W6) : LastRel K r an opv lv bm bw F FO F' FO' wc W6 :=
  ⟨h.mem.of_blocks (hb.block _ h.mem.lt1) (hb.block _ h.mem.lt2), fun b hb' => ⟨Nat.lt_of_lt_of_le (h.f1 b hb').1 hb.size, (h.f1 b hb').2⟩, fun b hb' => ⟨Nat.lt_of_lt_of_le (h.f2 b hb').1 hb.size, (h.f2 b hb').2⟩,
    K.obj_keep h.obj (fun k hk => hb.block k (h.f2 k hk).1) (fun _ h => h), h.op.keep (fun k hk => hb.block k (h.f1 k hk).1) (fun _ h => h), h.lst.keep (fun b ht hp => ⟨hb.block b ht.lt, hp⟩)⟩
theorem inv_last {K : MachRel M} {r : Out M} {an : Ans} {opv lv kv : Value} {g bm bw call inv steps t : Nat} {F FO F' FO' : Nat → Prop} {w wc w4 W : World} (ha : r.ans = some an) (h : LastRel K r an opv lv bm bw F FO F' FO' wc w4) (hB : ButS (fun k => k = g ∨ k = bm ∨ k = bw ∨ F k ∨ FO k) w w4)
    (hwc : w.heap.size ≤ wc.heap.size) (hx : ButS (fun k => k = g) w4 W) (hgF : ¬ F g ∧ ¬ FO g) (hg : g < w.heap.size) (hgm : g ≠ bm) (hgb : g ≠ bw)
    (hrow : RowBlk 148 W g (invVs call inv t (steps + 1) an.err an.val lv kv opv)) (hkv : ListAt W 3 mkI (fun b => w.heap.size ≤ b ∧ ¬ F' b ∧ ¬ FO' b) kv (keyOr (keyQ r.s r.q) t)) : InvStep K r opv g bm bw F FO call inv steps t w (.returned (.bool true)) W := by
  have e0 : ∀ k, k < w4.heap.size → (F k ∨ wc.heap.size ≤ k) → W.heap[k]? = w4.heap[k]? := fun k hk hk1 => hx.block k hk (fun h => by
    subst h; exact hk1.elim hgF.1 (fun h => by omega))
  have e2 : ∀ k, FO' k → W.heap[k]? = w4.heap[k]? := fun k hk => hx.block k (h.f2 k hk).1 (fun h' => by
    subst h'; exact (h.f2 k hk).2.1.elim hgF.2 (fun h => by omega))
  refine ⟨h.mem.of_blocks (hx.block bm h.mem.lt1 (fun h => hgm h.symm)) (hx.block bw h.mem.lt2 (fun h => hgb h.symm)), hB.trans (hx.mono (fun k _ h => .inl h)), F', FO', fun b hb => ⟨Nat.lt_of_lt_of_le (h.f1 b hb).1 hx.size, (h.f1 b hb).2.imp id (fun h => by omega)⟩,
    fun b hb => ⟨Nat.lt_of_lt_of_le (h.f2 b hb).1 hx.size, (h.f2 b hb).2.1.imp id (fun h => by omega), (h.f2 b hb).2.2⟩, K.obj_keep h.obj e2 (fun _ h => h), h.op.keep (fun k hk => e0 k (h.f1 k hk).1 (h.f1 k hk).2) (fun _ h => h), ?_⟩
  rw [ha]
  exact ⟨rfl, lv, kv, hrow, h.lst.keep (fun b ht hb => ⟨e0 b ht.lt hb.1, hb.1.imp id (fun h => by omega), hb.2⟩), hkv⟩
theorem keyOr_nil {k : List Nat} {t : Nat} (h : k = []) : keyOr k t = [2 * t] := by unfold keyOr; rw [if_pos h]
theorem keyOr_some {k : List Nat} {t : Nat} (h : k ≠ []) : keyOr k t = k := by unfold keyOr; rw [if_neg h]

set_option maxRecDepth 100000 in
set_option maxHeartbeats 4000000 in
theorem step_last (K : MachRel M) (r : Out M) (opv : Value) (g bm bw : Nat) (F FO : Nat → Prop) (call inv steps t : Nat) (l : List Nat) (c : Cn) (w : World) (hS : StepC K r t opv bm bw F FO w) (hsep : Sep bm bw F FO w) (hM : MemIs 139 w bm bw l c)
    (hg : RowBlk 148 w g (invVs call inv 0 steps 0 0 (.slice none 0 0) (.slice none 0 0) opv)) (hgF : ¬ F g ∧ ¬ FO g) (hst : steps ≤ 4294967296) (ht : t ≤ 4294967296) {an : Ans} (ha : r.ans = some an)
    (hkey : ∀ (W : World) (F' FO' : Nat → Prop), K.Obj W r.s FO' → OpQ K W opv r.q F' → KeyOk opv (keyQ r.s r.q) W) :
    Calls Try.prog 55 #[.pointer (some ⟨g, 0, none⟩), turnAgg bm (t : Int)] w (InvStep K r opv g bm bw F FO call inv steps t w) := by
  obtain ⟨tid, v, fid, rfl, hm, hent, hcall⟩ := hS
  have HCALL := Lib.hid hcall
  have HSEP := Lib.hid hsep
  have HANS := Lib.hid ha
  have HKEY := Lib.hid hkey
  have HGF := Lib.hid hgF
  have HG := Lib.hid hg
  have hglt := hg.lt
  have hgm : g ≠ bm := by intro e; have h1 := hg; have h2 := hM.1; unfold RowBlk at h1; rw [e, h2] at h1; simp at h1
  have hgw : g ≠ bw := by intro e; have h1 := hg; have h2 := hM.2.1; unfold RowBlk at h1; rw [e, h2] at h1; simp at h1
  have hbml := hM.lt1
  have hbwl := hM.lt2
  have c8 : w.cell? ⟨g, 8, none⟩ = some (.iface tid v) := hg.cell rfl
  clear hcall hM hg ha hsep hgF hkey
  unfold turnAgg
  go_enter Try.func55, Try.ntmps55
  go_wp2_with fail
  have HGa := Lib.hid (HG.out.alloc (.cells #[.iface 97 (.pointer (some ⟨bm, 0, none⟩)), .int .i64 (t : Int)] 113))
  have HTa : Hid (RowBlk 113 (w.alloc (.cells #[.iface 97 (.pointer (some ⟨bm, 0, none⟩)), .int .i64 (t : Int)] 113)) w.heap.size [.iface 97 (.pointer (some ⟨bm, 0, none⟩)), .int .i64 (t : Int)]) := Lib.hid (RowBlk.new _ _ _)
  have HBa : Hid (Below w.heap.size w (w.alloc (.cells #[.iface 97 (.pointer (some ⟨bm, 0, none⟩)), .int .i64 (t : Int)] 113))) := Lib.hid ((Below.refl _ _).alloc (Nat.le_refl _) _)
  have hsa : (w.alloc (.cells #[.iface 97 (.pointer (some ⟨bm, 0, none⟩)), .int .i64 (t : Int)] 113)).heap.size = w.heap.size + 1 := by simp
  generalize w.alloc (.cells #[.iface 97 (.pointer (some ⟨bm, 0, none⟩)), .int .i64 (t : Int)] 113) = wa at HGa HTa HBa hsa ⊢
  have d8 : wa.cell? ⟨g, 8, none⟩ = some (.iface tid v) := HGa.out.cell rfl
  have t0 : wa.cell? ⟨w.heap.size, 0, none⟩ = some (.iface 97 (.pointer (some ⟨bm, 0, none⟩))) := HTa.out.cell rfl
  have t1 : wa.cell? ⟨w.heap.size, 1, none⟩ = some (.int .i64 (t : Int)) := HTa.out.cell rfl
  have HSA := Lib.hid hsa
  have n1 : wa.heap.size ≠ g := by have := HGa.out.lt; omega
  have n2 : wa.heap.size ≠ w.heap.size := by omega
  have n3 : g ≠ wa.heap.size := by have := HGa.out.lt; omega
  have n4 : w.heap.size ≠ wa.heap.size := by omega
  clear c8 hsa
  go_region_held3 (fun w' => w'.cell? ⟨g, 8, none⟩ = some (.iface tid v) ∧ w'.cell? ⟨w.heap.size, 0, none⟩ = some (.iface 97 (.pointer (some ⟨bm, 0, none⟩))) ∧ w'.cell? ⟨w.heap.size, 1, none⟩ = some (.int .i64 (t : Int)))
    (first | exact ⟨e8, e0, e1⟩ | go_keep)
    (first
      | (refine (HCALL.out _ (below_drew (HBa.out.alloc (by have := HSA.out; omega) _))).mono ?_
         rintro e w4 hR
         obtain ⟨F', FO', hF1, hF2, hO4, hQ4, ho⟩ := hR.ex
         rw [HANS.out] at ho
         obtain ⟨lv, rfl, hlv⟩ := ho
         obtain ⟨lao, lcap, rfl⟩ := hlv.isSlice
         have HX4 : Hid (LastRel K r an (.iface tid v) (.slice lao an.list.length lcap) bm bw F FO F' FO' (wa.alloc (.cells #[.int .i64 0, .int .u64 0, .slice none 0 0] 39)).drew w4) := Lib.hid ⟨hR.mem, hF1, hF2, hO4, hQ4, hlv⟩
         have HBT4 := Lib.hid hR.but
         clear hF1 hF2 hO4 hQ4 hlv
         have hB4 := hR.but
         have hG4 : RowBlk 148 w4 g (invVs call inv 0 steps 0 0 (.slice none 0 0) (.slice none 0 0) (.iface tid v)) := RowBlk.same ((HGa.out.alloc _).drew) (hB4.block g (by show _ < (wa.alloc _).heap.size; have := HGa.out.lt; simp; omega) (fun h => h.elim hgm (fun h => h.elim hgw (fun h => h.elim HGF.out.1 HGF.out.2))))
         have hT4 : RowBlk 113 w4 w.heap.size [.iface 97 (.pointer (some ⟨bm, 0, none⟩)), .int .i64 (t : Int)] := RowBlk.same ((HTa.out.alloc _).drew) (hB4.block w.heap.size (by show _ < (wa.alloc _).heap.size; have := HTa.out.lt; simp; omega) (fun h => h.elim (by omega) (fun h => h.elim (by omega) (fun h => h.elim (fun h => by have := (HSEP.out.1 _ h).1; omega) (fun h => by have := (HSEP.out.2 _ h).1; omega)))))
         have e8 : w4.cell? ⟨g, 8, none⟩ = some (.iface tid v) := hG4.cell rfl
         have e0 : w4.cell? ⟨w.heap.size, 0, none⟩ = some (.iface 97 (.pointer (some ⟨bm, 0, none⟩))) := hT4.cell rfl
         have e1 : w4.cell? ⟨w.heap.size, 1, none⟩ = some (.int .i64 (t : Int)) := hT4.cell rfl
         have hA4 : RowBlk 39 w4 wa.heap.size [.int .i64 0, .int .u64 0, .slice none 0 0] := RowBlk.same (RowBlk.drew (RowBlk.new wa [.int .i64 0, .int .u64 0, .slice none 0 0] 39)) (hB4.block wa.heap.size (by show wa.heap.size < (wa.alloc _).heap.size; simp) (fun h => h.elim (by have := HSA.out; omega) (fun h => h.elim (by have := HSA.out; omega) (fun h => h.elim (fun h => by have := (HSEP.out.1 _ h).1; have := HSA.out; omega) (fun h => by have := (HSEP.out.2 _ h).1; have := HSA.out; omega)))))
         have a0 := hA4.cell (i := 0) rfl
         have a1 := hA4.cell (i := 1) rfl
         have a2 := hA4.cell (i := 2) rfl
         have z0 : w4.frozen? ⟨wa.heap.size, 0, none⟩ = false := hA4.free
         have z1 : w4.frozen? ⟨wa.heap.size, 1, none⟩ = false := hA4.free
         have z2 : w4.frozen? ⟨wa.heap.size, 2, none⟩ = false := hA4.free
         have hwc : wa.heap.size < (wa.alloc (.cells #[.int .i64 0, .int .u64 0, .slice none 0 0] 39)).heap.size := by simp
         have HA4 := Lib.hid hA4
         clear hA4
         have y1 : w4.heap.size ≠ g := by have := hG4.lt; omega
         have y2 : w4.heap.size ≠ w.heap.size := by have := hT4.lt; omega
         have y3 : g ≠ w4.heap.size := by have := hG4.lt; omega
         have y4 : w.heap.size ≠ w4.heap.size := by have := hT4.lt; omega
         have HWC := Lib.hid hwc
         have HG4 := Lib.hid hG4
         have HT4 := Lib.hid hT4
         clear hB4 hG4 hT4 hR hwc)
      | (refine (HCALL.out _ (below_drew HBa.out)).mono ?_
         rintro e w4 hR
         obtain ⟨F', FO', hF1, hF2, hO4, hQ4, ho⟩ := hR.ex
         rw [HANS.out] at ho
         obtain ⟨lv, rfl, hlv⟩ := ho
         obtain ⟨lao, lcap, rfl⟩ := hlv.isSlice
         have HX4 : Hid (LastRel K r an (.iface tid v) (.slice lao an.list.length lcap) bm bw F FO F' FO' wa.drew w4) := Lib.hid ⟨hR.mem, hF1, hF2, hO4, hQ4, hlv⟩
         have HBT4 := Lib.hid hR.but
         clear hF1 hF2 hO4 hQ4 hlv
         have hB4 := hR.but
         have hG4 : RowBlk 148 w4 g (invVs call inv 0 steps 0 0 (.slice none 0 0) (.slice none 0 0) (.iface tid v)) := RowBlk.same (HGa.out.drew) (hB4.block g (HGa.out.lt) (fun h => h.elim hgm (fun h => h.elim hgw (fun h => h.elim HGF.out.1 HGF.out.2))))
         have hT4 : RowBlk 113 w4 w.heap.size [.iface 97 (.pointer (some ⟨bm, 0, none⟩)), .int .i64 (t : Int)] := RowBlk.same (HTa.out.drew) (hB4.block w.heap.size (HTa.out.lt) (fun h => h.elim (by omega) (fun h => h.elim (by omega) (fun h => h.elim (fun h => by have := (HSEP.out.1 _ h).1; omega) (fun h => by have := (HSEP.out.2 _ h).1; omega)))))
         have e8 : w4.cell? ⟨g, 8, none⟩ = some (.iface tid v) := hG4.cell rfl
         have e0 : w4.cell? ⟨w.heap.size, 0, none⟩ = some (.iface 97 (.pointer (some ⟨bm, 0, none⟩))) := hT4.cell rfl
         have e1 : w4.cell? ⟨w.heap.size, 1, none⟩ = some (.int .i64 (t : Int)) := hT4.cell rfl
         have y1 : w4.heap.size ≠ g := by have := hG4.lt; omega
         have y2 : w4.heap.size ≠ w.heap.size := by have := hT4.lt; omega
         have y3 : g ≠ w4.heap.size := by have := hG4.lt; omega
         have y4 : w.heap.size ≠ w4.heap.size := by have := hT4.lt; omega
         have HG4 := Lib.hid hG4
         have HT4 := Lib.hid hT4
         clear hB4 hG4 hT4 hR))
  · have H5 : RowBlk 148 (w4.alloc (.cells #[.int .i64 (an.err : Int), .int .u64 (an.val : Int), .slice lao an.list.length lcap] 39)) g (invVs call inv 0 steps 0 0 (.slice none 0 0) (.slice none 0 0) (.iface tid v)) ∧ RowBlk 113 (w4.alloc (.cells #[.int .i64 (an.err : Int), .int .u64 (an.val : Int), .slice lao an.list.length lcap] 39)) w.heap.size [.iface 97 (.pointer (some ⟨bm, 0, none⟩)), .int .i64 (t : Int)] ∧ RowBlk 39 (w4.alloc (.cells #[.int .i64 (an.err : Int), .int .u64 (an.val : Int), .slice lao an.list.length lcap] 39)) w4.heap.size [.int .i64 (an.err : Int), .int .u64 (an.val : Int), .slice lao an.list.length lcap] ∧ ButS (fun k => k = g ∨ k = w4.heap.size) w4 (w4.alloc (.cells #[.int .i64 (an.err : Int), .int .u64 (an.val : Int), .slice lao an.list.length lcap] 39)) :=
      ⟨HG4.out.alloc _, HT4.out.alloc _, RowBlk.new _ _ _, (ButS.refl _ _).alloc _⟩
    have hgaw : w.heap.size ≤ w4.heap.size := by have := HT4.out.lt; omega
    have HWZ : Hid (w.heap.size ≤ wa.drew.heap.size) := Lib.hid HBa.out.size
    clear HG4 HT4
    generalize w4.alloc (.cells #[.int .i64 (an.err : Int), .int .u64 (an.val : Int), .slice lao an.list.length lcap] 39) = W5 at H5 ⊢
    obtain ⟨hG5, hT5, hA5, hB5⟩ := H5
    have HG5 := Lib.hid hG5
    have HT5 := Lib.hid hT5
    have HB5 := Lib.hid hB5
    have nga : w4.heap.size ≠ g := row_ne hA5 hG5 (by decide)
    have ngt : w.heap.size ≠ g := by omega
    have a0 := hA5.cell (i := 0) rfl
    have a1 := hA5.cell (i := 1) rfl
    have a2 := hA5.cell (i := 2) rfl
    have t1' := hT5.cell (i := 1) rfl
    have g3 : W5.cell? ⟨g, 3, none⟩ = some (.int .i64 (steps : Int)) := hG5.cell rfl
    have g2 : W5.cell? ⟨g, 2, none⟩ = some (.int .i64 0) := hG5.cell rfl
    have g4 : W5.cell? ⟨g, 4, none⟩ = some (.int .i64 0) := hG5.cell rfl
    have g5 : W5.cell? ⟨g, 5, none⟩ = some (.int .u64 0) := hG5.cell rfl
    have g6 : W5.cell? ⟨g, 6, none⟩ = some (.slice none 0 0) := hG5.cell rfl
    have fz : ∀ k, W5.frozen? ⟨g, k, none⟩ = false := fun k => HG5.out.free
    have H6 : Hid (RowBlk 148 (((((W5.setCell ⟨g, 3, none⟩ (.int .i64 ((steps : Int) + 1))).setCell ⟨g, 2, none⟩ (.int .i64 (t : Int))).setCell ⟨g, 4, none⟩ (.int .i64 (an.err : Int))).setCell ⟨g, 5, none⟩ (.int .u64 (an.val : Int))).setCell ⟨g, 6, none⟩ (.slice lao an.list.length lcap)) g (invVs call inv t (steps + 1) an.err an.val (.slice lao an.list.length lcap) (.slice none 0 0) (.iface tid v)) ∧
        RowBlk 113 (((((W5.setCell ⟨g, 3, none⟩ (.int .i64 ((steps : Int) + 1))).setCell ⟨g, 2, none⟩ (.int .i64 (t : Int))).setCell ⟨g, 4, none⟩ (.int .i64 (an.err : Int))).setCell ⟨g, 5, none⟩ (.int .u64 (an.val : Int))).setCell ⟨g, 6, none⟩ (.slice lao an.list.length lcap)) w.heap.size [.iface 97 (.pointer (some ⟨bm, 0, none⟩)), .int .i64 (t : Int)] ∧
        ButS (fun k => k = g ∨ k = w4.heap.size) w4 (((((W5.setCell ⟨g, 3, none⟩ (.int .i64 ((steps : Int) + 1))).setCell ⟨g, 2, none⟩ (.int .i64 (t : Int))).setCell ⟨g, 4, none⟩ (.int .i64 (an.err : Int))).setCell ⟨g, 5, none⟩ (.int .u64 (an.val : Int))).setCell ⟨g, 6, none⟩ (.slice lao an.list.length lcap))) := Lib.hid
      ⟨((((hG5.put 3 _).put 2 _).put 4 _).put 5 _).put 6 _, ((((hT5.other ngt _).other ngt _).other ngt _).other ngt _).other ngt _, ((((hB5.setCell (.inl (.inl rfl)) _).setCell (.inl (.inl rfl)) _).setCell (.inl (.inl rfl)) _).setCell (.inl (.inl rfl)) _).setCell (.inl (.inl rfl)) _⟩
    clear hG5 hT5 hA5 hB5 HG5 HT5 HB5
    go_wp2_with fail
    generalize ((((W5.setCell ⟨g, 3, none⟩ (.int .i64 ((steps : Int) + 1))).setCell ⟨g, 2, none⟩ (.int .i64 (t : Int))).setCell ⟨g, 4, none⟩ (.int .i64 (an.err : Int))).setCell ⟨g, 5, none⟩ (.int .u64 (an.val : Int))).setCell ⟨g, 6, none⟩ (.slice lao an.list.length lcap) = W6 at H6 ⊢
    have hL6 : Hid (LastRel K r an (.iface tid v) (.slice lao an.list.length lcap) bm bw F FO F' FO' wa.drew W6 ∧ ButS (fun k => k = g ∨ k = bm ∨ k = bw ∨ F k ∨ FO k) w W6) := Lib.hid
      (HX4.out.later HBT4.out (below_drew HBa.out) H6.out.2.2 hgaw (.inl (Nat.le_refl _)) HSEP.out HGF.out hglt hgm hgw hbml hbwl)
    refine (key_any g _ (keyQ r.s r.q) W6 (H6.out.1.cell rfl) (HKEY.out W6 F' FO' hL6.out.1.obj hL6.out.1.op)).mono ?_
    rintro e W7 ⟨kv, rfl, hkv, hb7⟩
    obtain ⟨kao, kcap, rfl⟩ := hkv.isSlice
    have hG7 := H6.out.1.same (hb7.block _ H6.out.1.lt)
    have hT7 := H6.out.2.1.same (hb7.block _ H6.out.2.1.lt)
    have HL7 : Hid (LastRel K r an (.iface tid v) (.slice lao an.list.length lcap) bm bw F FO F' FO' wa.drew W7 ∧ ButS (fun k => k = g ∨ k = bm ∨ k = bw ∨ F k ∨ FO k) w W7) := Lib.hid ⟨hL6.out.1.below hb7, hL6.out.2.trans (ButS.of_below hb7)⟩
    have HKV : Hid (ListAt W7 3 mkI (fun b => w.heap.size ≤ b ∧ ¬ F' b ∧ ¬ FO' b) (.slice kao (keyQ r.s r.q).length kcap) (keyQ r.s r.q)) := Lib.hid (hkv.keep (fun b _ hb => ⟨rfl, by
      have h1 := hL6.out.2.size
      exact ⟨by omega, fun h => by have := (hL6.out.1.f1 b h).1; omega, fun h => by have := (hL6.out.1.f2 b h).1; omega⟩⟩))
    have k7 : W7.cell? ⟨g, 7, none⟩ = some (.slice none 0 0) := hG7.cell rfl
    have f7 : W7.frozen? ⟨g, 7, none⟩ = false := hG7.free
    have t6 := hT7.cell (i := 1) rfl
    have HG7 := Lib.hid hG7
    have hgl7 := hG7.lt
    clear hb7 hkv hG7 hT7
    by_cases hk : keyQ r.s r.q = []
    · rw [hk] at HKV ⊢
      have hkl : ([] : List Nat).length = 0 := rfl
      rw [hkl] at HKV ⊢
      go_wp2
      go_ret
      have hgl6 := HL7.out.2.size
      refine inv_last (kv := .slice (some ⟨W7.heap.size, 0, none⟩) 1 1) HANS.out HL7.out.1 HL7.out.2 HWZ.out ((((ButS.refl (fun k => k = g) W7).setCell (.inl rfl) _).setCell (.inl rfl) _).alloc _) HGF.out hglt hgm hgw (((HG7.out.put 7 _).put 7 _).alloc _) ?_
      rw [keyOr_nil hk]
      have hr := RowBlk.new ((W7.setCell ⟨g, 7, none⟩ (.slice kao 0 kcap)).setCell ⟨g, 7, none⟩ (.slice (some ⟨W7.heap.size, 0, none⟩) 1 1)) [.int .i64 (2 * (t : Int))] 3
      have e : ((W7.setCell ⟨g, 7, none⟩ (.slice kao 0 kcap)).setCell ⟨g, 7, none⟩ (.slice (some ⟨W7.heap.size, 0, none⟩) 1 1)).heap.size = W7.heap.size := by simp [World.setCell]
      rw [e] at hr
      refine ⟨_, W7.heap.size, 0, 1, rfl, fun _ => ⟨rfl, ⟨hgl6, fun h => by have := (HL7.out.1.f1 _ h).1; omega, fun h => by have := (HL7.out.1.f2 _ h).1; omega⟩, BlkT.of_row hr⟩, fun h => (by cases h), by simp, fun i x hx => ?_⟩
      match i, hx with
      | 0, hx =>
        cases hx
        have := hr.cell (i := 0) rfl
        exact this
    · obtain ⟨m, hm1, hm2⟩ : ∃ m, (keyQ r.s r.q).length = m ∧ 0 < m := ⟨_, rfl, List.length_pos_iff.2 hk⟩
      rw [hm1]
      go_wp2
      go_ret
      refine inv_last HANS.out HL7.out.1 HL7.out.2 HWZ.out ((ButS.refl (fun k => k = g) W7).setCell (.inl rfl) _) HGF.out hglt hgm hgw (HG7.out.put 7 _) ?_
      rw [keyOr_some hk, ← hm1]
      exact HKV.out.keep (fun b ht hp => ⟨Below.heap_setCell _ _ _ _ (fun e => by have := BlkT.ne ht (BlkT.of_row HG7.out) (by decide); exact this e), hp⟩)
  · have H5 : RowBlk 148 (((w4.setCell ⟨wa.heap.size, 0, none⟩ (.int .i64 (an.err : Int))).setCell ⟨wa.heap.size, 1, none⟩ (.int .u64 (an.val : Int))).setCell ⟨wa.heap.size, 2, none⟩ (.slice lao an.list.length lcap)) g (invVs call inv 0 steps 0 0 (.slice none 0 0) (.slice none 0 0) (.iface tid v)) ∧ RowBlk 113 (((w4.setCell ⟨wa.heap.size, 0, none⟩ (.int .i64 (an.err : Int))).setCell ⟨wa.heap.size, 1, none⟩ (.int .u64 (an.val : Int))).setCell ⟨wa.heap.size, 2, none⟩ (.slice lao an.list.length lcap)) w.heap.size [.iface 97 (.pointer (some ⟨bm, 0, none⟩)), .int .i64 (t : Int)] ∧ RowBlk 39 (((w4.setCell ⟨wa.heap.size, 0, none⟩ (.int .i64 (an.err : Int))).setCell ⟨wa.heap.size, 1, none⟩ (.int .u64 (an.val : Int))).setCell ⟨wa.heap.size, 2, none⟩ (.slice lao an.list.length lcap)) wa.heap.size [.int .i64 (an.err : Int), .int .u64 (an.val : Int), .slice lao an.list.length lcap] ∧ ButS (fun k => k = g ∨ k = wa.heap.size) w4 (((w4.setCell ⟨wa.heap.size, 0, none⟩ (.int .i64 (an.err : Int))).setCell ⟨wa.heap.size, 1, none⟩ (.int .u64 (an.val : Int))).setCell ⟨wa.heap.size, 2, none⟩ (.slice lao an.list.length lcap)) :=
      ⟨((HG4.out.other n3 _).other n3 _).other n3 _, ((HT4.out.other n4 _).other n4 _).other n4 _, ((HA4.out.put 0 _).put 1 _).put 2 _, (((ButS.refl _ _).setCell (.inl (.inr rfl)) _).setCell (.inl (.inr rfl)) _).setCell (.inl (.inr rfl)) _⟩
    have hgaw : w.heap.size ≤ wa.heap.size := by have := HSA.out; omega
    have HWZ : Hid (w.heap.size ≤ (wa.alloc (.cells #[.int .i64 0, .int .u64 0, .slice none 0 0] 39)).drew.heap.size) := Lib.hid (Nat.le_trans hgaw (Nat.le_of_lt HWC.out))
    clear HG4 HT4 HA4
    generalize ((w4.setCell ⟨wa.heap.size, 0, none⟩ (.int .i64 (an.err : Int))).setCell ⟨wa.heap.size, 1, none⟩ (.int .u64 (an.val : Int))).setCell ⟨wa.heap.size, 2, none⟩ (.slice lao an.list.length lcap) = W5 at H5 ⊢
    obtain ⟨hG5, hT5, hA5, hB5⟩ := H5
    have HG5 := Lib.hid hG5
    have HT5 := Lib.hid hT5
    have HB5 := Lib.hid hB5
    have nga : wa.heap.size ≠ g := row_ne hA5 hG5 (by decide)
    have ngt : w.heap.size ≠ g := by omega
    have a0 := hA5.cell (i := 0) rfl
    have a1 := hA5.cell (i := 1) rfl
    have a2 := hA5.cell (i := 2) rfl
    have t1' := hT5.cell (i := 1) rfl
    have g3 : W5.cell? ⟨g, 3, none⟩ = some (.int .i64 (steps : Int)) := hG5.cell rfl
    have g2 : W5.cell? ⟨g, 2, none⟩ = some (.int .i64 0) := hG5.cell rfl
    have g4 : W5.cell? ⟨g, 4, none⟩ = some (.int .i64 0) := hG5.cell rfl
    have g5 : W5.cell? ⟨g, 5, none⟩ = some (.int .u64 0) := hG5.cell rfl
    have g6 : W5.cell? ⟨g, 6, none⟩ = some (.slice none 0 0) := hG5.cell rfl
    have fz : ∀ k, W5.frozen? ⟨g, k, none⟩ = false := fun k => HG5.out.free
    have H6 : Hid (RowBlk 148 (((((W5.setCell ⟨g, 3, none⟩ (.int .i64 ((steps : Int) + 1))).setCell ⟨g, 2, none⟩ (.int .i64 (t : Int))).setCell ⟨g, 4, none⟩ (.int .i64 (an.err : Int))).setCell ⟨g, 5, none⟩ (.int .u64 (an.val : Int))).setCell ⟨g, 6, none⟩ (.slice lao an.list.length lcap)) g (invVs call inv t (steps + 1) an.err an.val (.slice lao an.list.length lcap) (.slice none 0 0) (.iface tid v)) ∧
        RowBlk 113 (((((W5.setCell ⟨g, 3, none⟩ (.int .i64 ((steps : Int) + 1))).setCell ⟨g, 2, none⟩ (.int .i64 (t : Int))).setCell ⟨g, 4, none⟩ (.int .i64 (an.err : Int))).setCell ⟨g, 5, none⟩ (.int .u64 (an.val : Int))).setCell ⟨g, 6, none⟩ (.slice lao an.list.length lcap)) w.heap.size [.iface 97 (.pointer (some ⟨bm, 0, none⟩)), .int .i64 (t : Int)] ∧
        ButS (fun k => k = g ∨ k = wa.heap.size) w4 (((((W5.setCell ⟨g, 3, none⟩ (.int .i64 ((steps : Int) + 1))).setCell ⟨g, 2, none⟩ (.int .i64 (t : Int))).setCell ⟨g, 4, none⟩ (.int .i64 (an.err : Int))).setCell ⟨g, 5, none⟩ (.int .u64 (an.val : Int))).setCell ⟨g, 6, none⟩ (.slice lao an.list.length lcap))) := Lib.hid
      ⟨((((hG5.put 3 _).put 2 _).put 4 _).put 5 _).put 6 _, ((((hT5.other ngt _).other ngt _).other ngt _).other ngt _).other ngt _, ((((hB5.setCell (.inl (.inl rfl)) _).setCell (.inl (.inl rfl)) _).setCell (.inl (.inl rfl)) _).setCell (.inl (.inl rfl)) _).setCell (.inl (.inl rfl)) _⟩
    clear hG5 hT5 hA5 hB5 HG5 HT5 HB5
    go_wp2_with fail
    generalize ((((W5.setCell ⟨g, 3, none⟩ (.int .i64 ((steps : Int) + 1))).setCell ⟨g, 2, none⟩ (.int .i64 (t : Int))).setCell ⟨g, 4, none⟩ (.int .i64 (an.err : Int))).setCell ⟨g, 5, none⟩ (.int .u64 (an.val : Int))).setCell ⟨g, 6, none⟩ (.slice lao an.list.length lcap) = W6 at H6 ⊢
    have hL6 : Hid (LastRel K r an (.iface tid v) (.slice lao an.list.length lcap) bm bw F FO F' FO' (wa.alloc (.cells #[.int .i64 0, .int .u64 0, .slice none 0 0] 39)).drew W6 ∧ ButS (fun k => k = g ∨ k = bm ∨ k = bw ∨ F k ∨ FO k) w W6) := Lib.hid
      (HX4.out.later HBT4.out (below_drew (HBa.out.alloc (by have := HSA.out; omega) _)) H6.out.2.2 hgaw (.inr HWC.out) HSEP.out HGF.out hglt hgm hgw hbml hbwl)
    refine (key_any g _ (keyQ r.s r.q) W6 (H6.out.1.cell rfl) (HKEY.out W6 F' FO' hL6.out.1.obj hL6.out.1.op)).mono ?_
    rintro e W7 ⟨kv, rfl, hkv, hb7⟩
    obtain ⟨kao, kcap, rfl⟩ := hkv.isSlice
    have hG7 := H6.out.1.same (hb7.block _ H6.out.1.lt)
    have hT7 := H6.out.2.1.same (hb7.block _ H6.out.2.1.lt)
    have HL7 : Hid (LastRel K r an (.iface tid v) (.slice lao an.list.length lcap) bm bw F FO F' FO' (wa.alloc (.cells #[.int .i64 0, .int .u64 0, .slice none 0 0] 39)).drew W7 ∧ ButS (fun k => k = g ∨ k = bm ∨ k = bw ∨ F k ∨ FO k) w W7) := Lib.hid ⟨hL6.out.1.below hb7, hL6.out.2.trans (ButS.of_below hb7)⟩
    have HKV : Hid (ListAt W7 3 mkI (fun b => w.heap.size ≤ b ∧ ¬ F' b ∧ ¬ FO' b) (.slice kao (keyQ r.s r.q).length kcap) (keyQ r.s r.q)) := Lib.hid (hkv.keep (fun b _ hb => ⟨rfl, by
      have h1 := hL6.out.2.size
      exact ⟨by omega, fun h => by have := (hL6.out.1.f1 b h).1; omega, fun h => by have := (hL6.out.1.f2 b h).1; omega⟩⟩))
    have k7 : W7.cell? ⟨g, 7, none⟩ = some (.slice none 0 0) := hG7.cell rfl
    have f7 : W7.frozen? ⟨g, 7, none⟩ = false := hG7.free
    have t6 := hT7.cell (i := 1) rfl
    have HG7 := Lib.hid hG7
    have hgl7 := hG7.lt
    clear hb7 hkv hG7 hT7
    by_cases hk : keyQ r.s r.q = []
    · rw [hk] at HKV ⊢
      have hkl : ([] : List Nat).length = 0 := rfl
      rw [hkl] at HKV ⊢
      go_wp2
      go_ret
      have hgl6 := HL7.out.2.size
      refine inv_last (kv := .slice (some ⟨W7.heap.size, 0, none⟩) 1 1) HANS.out HL7.out.1 HL7.out.2 HWZ.out ((((ButS.refl (fun k => k = g) W7).setCell (.inl rfl) _).setCell (.inl rfl) _).alloc _) HGF.out hglt hgm hgw (((HG7.out.put 7 _).put 7 _).alloc _) ?_
      rw [keyOr_nil hk]
      have hr := RowBlk.new ((W7.setCell ⟨g, 7, none⟩ (.slice kao 0 kcap)).setCell ⟨g, 7, none⟩ (.slice (some ⟨W7.heap.size, 0, none⟩) 1 1)) [.int .i64 (2 * (t : Int))] 3
      have e : ((W7.setCell ⟨g, 7, none⟩ (.slice kao 0 kcap)).setCell ⟨g, 7, none⟩ (.slice (some ⟨W7.heap.size, 0, none⟩) 1 1)).heap.size = W7.heap.size := by simp [World.setCell]
      rw [e] at hr
      refine ⟨_, W7.heap.size, 0, 1, rfl, fun _ => ⟨rfl, ⟨hgl6, fun h => by have := (HL7.out.1.f1 _ h).1; omega, fun h => by have := (HL7.out.1.f2 _ h).1; omega⟩, BlkT.of_row hr⟩, fun h => (by cases h), by simp, fun i x hx => ?_⟩
      match i, hx with
      | 0, hx =>
        cases hx
        have := hr.cell (i := 0) rfl
        exact this
    · obtain ⟨m, hm1, hm2⟩ : ∃ m, (keyQ r.s r.q).length = m ∧ 0 < m := ⟨_, rfl, List.length_pos_iff.2 hk⟩
      rw [hm1]
      go_wp2
      go_ret
      refine inv_last HANS.out HL7.out.1 HL7.out.2 HWZ.out ((ButS.refl (fun k => k = g) W7).setCell (.inl rfl) _) HGF.out hglt hgm hgw (HG7.out.put 7 _) ?_
      rw [keyOr_some hk, ← hm1]
      exact HKV.out.keep (fun b ht hp => ⟨Below.heap_setCell _ _ _ _ (fun e => by have := BlkT.ne ht (BlkT.of_row HG7.out) (by decide); exact this e), hp⟩)
end
end
end Go.Proofs.Ytpoebpnmbogmnaa
