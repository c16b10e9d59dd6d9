/- The door as a machine, plainly; what its plays keep: phases rise. -/
import Derived.Test.YtcedfcdhdgmelaaQP
namespace Go.Proofs.Ytcedfcdhdgmelaa
open Go.RowKit
set_option linter.unusedVariables false
inductive DoorQ where
  | ent (k own g : Nat)
  | look (a : Nat)
def doorAcc (n : Nat) : DoorQ → Acc
  | .ent k own g => if k < n then .rd k else .wr own ((g + 1) % 18446744073709551616)
  | .look a => .rd a
def doorNext (n : Nat) (q : DoorQ) (r : Nat) : DoorQ × Option Ans :=
  match q with
  | .ent k own g => if k < n then (.ent (k + 1) own (max g r), none) else (.ent k own g, some ⟨0, (g + 1) % 18446744073709551616, []⟩)
  | .look a => (.look a, some ⟨0, r, []⟩)
abbrev doorM (n : Nat) : Mach where
  S := Unit
  Q := DoorQ
  m := 1
  inv := fun s x => (s, if x.k = 0 then .inl (.ent 0 x.t.toNat 0) else if x.k = 1 then (if n ≤ x.a then .inr 10 else .inl (.look x.a)) else .inr 9)
  acc := fun _ q => doorAcc n q
  next := fun s q r _ => (s, (doorNext n q r).1, (doorNext n q r).2)
  key := fun _ _ => []
theorem door_inv_eq (n : Nat) (s : (doorM n).S) (x : CallV) : (doorM n).inv s x = (s, ((if x.k = 0 then Sum.inl (.ent 0 x.t.toNat 0) else if x.k = 1 then (if n ≤ x.a then Sum.inr 10 else Sum.inl (.look x.a)) else Sum.inr 9) : DoorQ ⊕ Nat)) := rfl
theorem countP_put {α : Type} (f : α → Bool) : ∀ (l : List α) (e : Nat) (u v : α), l[e]? = some v → (l.set e u).countP f + (if f v then 1 else 0) = l.countP f + (if f u then 1 else 0)
  | [], _, _, _, h => by simp at h
  | a :: r, 0, u, v, h => by
    have e : a = v := by simpa using h
    subst e
    rw [List.set_cons_zero, List.countP_cons, List.countP_cons]; omega
  | a :: r, e + 1, u, v, h => by
    have := countP_put f r e u v (by simpa using h)
    rw [List.set_cons_succ, List.countP_cons, List.countP_cons]; omega
def isEntC (cs : List CallV) (i : Nat) : Bool := match cs[i]? with | some x => decide (x.o = 0 ∧ x.k = 0) | none => false
theorem isEntC_some {cs : List CallV} {i : Nat} {x : CallV} (h : cs[i]? = some x) : isEntC cs i = decide (x.o = 0 ∧ x.k = 0) := by unfold isEntC; rw [h]
def thC (cs : List CallV) (i : Nat) : Nat := match cs[i]? with | some x => x.t.toNat | none => 0
theorem thC_some {cs : List CallV} {i : Nat} {x : CallV} (h : cs[i]? = some x) : thC cs i = x.t.toNat := by unfold thC; rw [h]
section
variable {n : Nat} {cs : List CallV}
def isFin (cs : List CallV) (w : Nat) (v : Ev (doorM n)) : Bool := decide (¬ v.resp = 0 ∧ v.resp ≤ w) && isEntC cs v.i
def isDone (cs : List CallV) (v : Ev (doorM n)) : Bool := decide (¬ v.resp = 0) && isEntC cs v.i
def doneN (cs : List CallV) (evs : List (Ev (doorM n))) : Nat := evs.countP (isDone cs)
theorem isDone_pend {v : Ev (doorM n)} (h : v.resp = 0) : isDone cs v = false := by unfold isDone; rw [h]; simp
theorem isFin_pend {v : Ev (doorM n)} (h : v.resp = 0) (w : Nat) : isFin cs w v = false := by unfold isFin; rw [h]; simp
theorem isFin_done {v : Ev (doorM n)} {w : Nat} (h : isFin cs w v = true) : isDone cs v = true := by
  unfold isFin at h
  rw [Bool.and_eq_true] at h
  unfold isDone
  rw [Bool.and_eq_true]
  exact ⟨decide_eq_true (of_decide_eq_true h.1).1, h.2⟩
/-- an operation that has not responded -/
def DoorOp (n : Nat) (cs : List CallV) (ws : List Nat) (F steps i : Nat) : DoorQ ⊕ Nat → Prop
  | .inl (.ent k own g) => ∃ x, cs[i]? = some x ∧ 0 ≤ x.t ∧ x.o = 0 ∧ x.k = 0 ∧ own = x.t.toNat ∧ own < n ∧ k ≤ n ∧ g ≤ F ∧ steps = k ∧ (own < k → ws.getD own 0 ≤ g)
  | .inl (.look a) => a < n ∧ steps = 0 ∧ isEntC cs i = false
  | .inr _ => steps = 0 ∧ isEntC cs i = false
structure DoorDone (n : Nat) (cs : List CallV) (ws : List Nat) (evs : List (Ev (doorM n))) (u : Ev (doorM n)) : Prop where
  steps : u.steps = n + 1
  own : thC cs u.i < n
  lo : 1 ≤ u.ans.val
  hi : u.ans.val ≤ evs.countP (isFin cs u.resp)
  word : u.ans.val ≤ ws.getD (thC cs u.i) 0
  rise : ∀ (f : Nat) (v : Ev (doorM n)), evs[f]? = some v → isDone cs v = true → v.resp < u.inv → v.ans.val < u.ans.val
structure DoorF (n : Nat) (cs : List CallV) (st : St (doorM n)) : Prop where
  len : st.ws.length = n
  wF : ∀ a ∈ st.ws, a ≤ doneN cs st.evs
  dw : doneN cs st.evs ≤ st.cn.w
  pend : PendI cs st
  le : ∀ (e : Nat) (v : Ev (doorM n)), st.evs[e]? = some v → v.inv ≤ st.ticks ∧ v.resp ≤ st.ticks ∧ v.steps ≤ n + 1 ∧ v.i < cs.length
  ev : ∀ (e : Nat) (v : Ev (doorM n)), st.evs[e]? = some v → v.resp = 0 → DoorOp n cs st.ws (doneN cs st.evs) v.steps v.i v.q
  seen : ∀ (e : Nat) (v : Ev (doorM n)) (k own g : Nat), st.evs[e]? = some v → v.resp = 0 → v.q = .inl (.ent k own g) → ∀ (f : Nat) (y : Ev (doorM n)), st.evs[f]? = some y → isDone cs y = true → y.resp < v.inv → thC cs y.i < k → y.ans.val ≤ g
  done : ∀ (e : Nat) (v : Ev (doorM n)), st.evs[e]? = some v → isDone cs v = true → DoorDone n cs st.ws st.evs v
theorem doorF_idle {st : St (doorM n)} (h : DoorF n cs st) : DoorF n cs { st with idle := st.idle + 1 } := ⟨h.len, h.wF, h.dw, h.pend, h.le, h.ev, h.seen, h.done⟩
theorem doorF_first : DoorF n cs (stM (M := doorM n) cs (List.replicate n 0) ()) :=
  ⟨by simp [stM], fun a ha => by have := List.eq_of_mem_replicate (show a ∈ List.replicate n 0 from ha); omega, by simp [stM, doneN], fun f y q hy => by simp [stM] at hy, fun e v hv => by simp [stM] at hv, fun e v hv => by simp [stM] at hv, fun e v k o g hv => by simp [stM] at hv, fun e v hv => by simp [stM] at hv⟩
theorem doorOp_new (hth : ∀ x ∈ cs, 0 ≤ x.t ∧ x.t < n) (ws : List Nat) (F : Nat) (s : (doorM n).S) {i : Nat} {x : CallV} (hx : cs[i]? = some x) : DoorOp n cs ws F 0 i (invQ (M := doorM n) s x).2 := by
  have hm : ((doorM n).m : Int) = 1 := rfl
  have ht := hth x (List.mem_of_getElem? hx)
  unfold invQ
  by_cases ho : x.o < 0 ∨ 1 ≤ x.o
  · rw [if_pos (by rw [hm]; exact ho)]
    exact ⟨rfl, by rw [isEntC_some hx]; exact decide_eq_false (by omega)⟩
  · rw [if_neg (by rw [hm]; exact ho), door_inv_eq]
    by_cases k0 : x.k = 0
    · rw [if_pos k0]
      exact ⟨x, hx, ht.1, by omega, k0, rfl, by omega, Nat.zero_le _, Nat.zero_le _, rfl, fun h => absurd h (Nat.not_lt_zero _)⟩
    · rw [if_neg k0]
      have hne : isEntC cs i = false := by rw [isEntC_some hx]; exact decide_eq_false (by omega)
      by_cases k1 : x.k = 1
      · rw [if_pos k1]
        by_cases ha : n ≤ x.a
        · rw [if_pos ha]; exact ⟨rfl, hne⟩
        · rw [if_neg ha]; exact ⟨by omega, rfl, hne⟩
      · rw [if_neg k1]; exact ⟨rfl, hne⟩
theorem door_newq (s : (doorM n).S) (x : CallV) {k own g : Nat} (h : (invQ (M := doorM n) s x).2 = .inl (.ent k own g)) : k = 0 := by
  unfold invQ at h
  split at h
  · cases h
  · rw [door_inv_eq] at h
    simp only at h
    split at h
    · cases h; rfl
    · split at h
      · split at h <;> cases h
      · cases h
theorem doorF_turn (hth : ∀ x ∈ cs, 0 ≤ x.t ∧ x.t < n) {st : St (doorM n)} (h : DoorF n cs st) {i : Nat} {x : CallV} {p : Int} (hno : nowOf (thr cs) st.fin p = some i) (hx : cs[i]? = some x) : DoorF n cs (st.turn i x p) := by
  have hp := h.pend.turn (x := x) hno
  cases hc : st.cur p with
  | some e0 =>
    have htu : st.turn i x p = st.tick := by unfold St.turn; rw [hc]
    rw [htu] at hp ⊢
    exact ⟨h.len, h.wF, h.dw, hp, fun e v hv => by have := h.le e v hv; exact ⟨Nat.le_succ_of_le this.1, Nat.le_succ_of_le this.2.1, this.2.2⟩, h.ev, h.seen, h.done⟩
  | none =>
    have htu : st.turn i x p = st.tick.begin i x p := by unfold St.turn; rw [hc]
    rw [htu] at hp ⊢
    have hte : (st.tick.begin i x p).evs = st.evs ++ [⟨i, st.ticks + 1, 0, 0, ⟨0, 0, []⟩, [], (invQ st.s x).2⟩] := rfl
    have hcnt : ∀ f : Ev (doorM n) → Bool, f ⟨i, st.ticks + 1, 0, 0, ⟨0, 0, []⟩, [], (invQ st.s x).2⟩ = false → (st.tick.begin i x p).evs.countP f = st.evs.countP f := fun f hf => by
      rw [hte, List.countP_append, List.countP_singleton, hf]; rfl
    have hdn : doneN cs (st.tick.begin i x p).evs = doneN cs st.evs := hcnt _ (isDone_pend rfl)
    have hold : ∀ (f : Nat) (y : Ev (doorM n)), (st.tick.begin i x p).evs[f]? = some y → isDone cs y = true → st.evs[f]? = some y := fun f y hy hd => by
      rw [hte] at hy
      rcases snoc_get hy with ⟨_, rfl⟩ | ⟨_, hy'⟩
      · rw [isDone_pend rfl] at hd; cases hd
      · exact hy'
    refine ⟨h.len, fun a ha => by rw [hdn]; exact h.wF a ha, by rw [hdn]; exact h.dw, hp, fun e v hv => ?_, fun e v hv hr => ?_, fun e v k own g hv hr hq f y hy hd hlt hth' => ?_, fun e v hv hd => ?_⟩
    · rw [hte] at hv
      rcases snoc_get hv with ⟨_, rfl⟩ | ⟨_, hv'⟩
      · exact ⟨Nat.le_refl _, Nat.zero_le _, Nat.zero_le _, (List.getElem?_eq_some_iff.1 hx).1⟩
      · have := h.le e v hv'; exact ⟨Nat.le_succ_of_le this.1, Nat.le_succ_of_le this.2.1, this.2.2⟩
    · rw [hdn]
      rw [hte] at hv
      rcases snoc_get hv with ⟨_, rfl⟩ | ⟨_, hv'⟩
      · exact doorOp_new hth st.ws _ st.s hx
      · exact h.ev e v hv' hr
    · have hy' := hold f y hy hd
      rw [hte] at hv
      rcases snoc_get hv with ⟨_, rfl⟩ | ⟨_, hv'⟩
      · have := door_newq st.s x hq; omega
      · exact h.seen e v k own g hv' hr hq f y hy' hd hlt hth'
    · have hd' := h.done e v (hold e v hv hd) hd
      exact ⟨hd'.steps, hd'.own, hd'.lo, by rw [hcnt _ (isFin_pend rfl _)]; exact hd'.hi, hd'.word, fun f y hy hdy hlt => hd'.rise f y (hold f y hy hdy) hdy hlt⟩
theorem doorOp_more {ws : List Nat} {F F' steps i : Nat} (hF : F ≤ F') {q : DoorQ ⊕ Nat} (h : DoorOp n cs ws F steps i q) : DoorOp n cs ws F' steps i q := by
  match q, h with
  | .inl (.ent k own g), h =>
    obtain ⟨x, h1, h2, h3, h4, h5, h6, h7, h8, h9⟩ := h
    exact ⟨x, h1, h2, h3, h4, h5, h6, h7, Nat.le_trans h8 hF, h9⟩
  | .inl (.look a), h => exact h
  | .inr e, h => exact h
theorem getD_set_ne {l : List Nat} {a b y : Nat} (h : b ≠ a) : (l.set a y).getD b 0 = l.getD b 0 := by
  rw [List.getD_eq_getElem?_getD, List.getD_eq_getElem?_getD, List.getElem?_set_ne (fun e => h e.symm)]
theorem getD_set_eq {l : List Nat} {a y : Nat} (h : a < l.length) : (l.set a y).getD a 0 = y := by
  rw [List.getD_eq_getElem?_getD, List.getElem?_set_self h]; rfl
theorem door_acc_rd {k own g : Nat} (hk : k < n) : doorAcc n (.ent k own g) = .rd k := by unfold doorAcc; simp only; rw [if_pos hk]
theorem door_acc_wr {k own g : Nat} (hk : ¬ k < n) : doorAcc n (.ent k own g) = .wr own ((g + 1) % 18446744073709551616) := by unfold doorAcc; simp only; rw [if_neg hk]
theorem door_next_rd {k own g : Nat} (hk : k < n) (r : Nat) : doorNext n (.ent k own g) r = (.ent (k + 1) own (max g r), none) := by unfold doorNext; simp only; rw [if_pos hk]
theorem door_next_wr {k own g : Nat} (hk : ¬ k < n) (r : Nat) : doorNext n (.ent k own g) r = (.ent k own g, some ⟨0, (g + 1) % 18446744073709551616, []⟩) := by unfold doorNext; simp only; rw [if_neg hk]
theorem door_stepQ (s : (doorM n).S) (q : DoorQ) (ws : List Nat) (cn : Cn) (t : Nat) : stepQ (M := doorM n) s (.inl q) ws cn t = ⟨s, .inl (doorNext n q ((doorAcc n q).run ws cn).1).1, ((doorAcc n q).run ws cn).2.1, ((doorAcc n q).run ws cn).2.2, (doorNext n q ((doorAcc n q).run ws cn).1).2⟩ := rfl
/-- a step that does not take a phase -/
theorem doorF_same {T : St (doorM n)} (h : DoorF n cs T) {i : Nat} {p : Int} {e : Nat} {v : Ev (doorM n)} (hc : T.cur p = some e) (hv : T.evs[e]? = some v) (hr0 : v.resp = 0) (ht : 0 < T.ticks)
    (e1 : (stepQ T.s v.q T.ws T.cn T.ticks).ws = T.ws) (e2 : (stepQ T.s v.q T.ws T.cn T.ticks).cn.w = T.cn.w) (e3 : isDone cs (midEv T v) = false) (e4 : (midEv T v).steps ≤ n + 1)
    (h1 : (midEv T v).resp = 0 → DoorOp n cs T.ws (doneN cs T.evs) (midEv T v).steps v.i (midEv T v).q)
    (h2 : (midEv T v).resp = 0 → ∀ k own g, (midEv T v).q = .inl (.ent k own g) → ∀ (f : Nat) (y : Ev (doorM n)), T.evs[f]? = some y → isDone cs y = true → y.resp < v.inv → thC cs y.i < k → y.ans.val ≤ g) : DoorF n cs (T.step i p e v) := by
  have hel := (List.getElem?_eq_some_iff.1 hv).1
  have hev := step_evs (st := T) (i := i) (p := p) (e := e) (v := v)
  have hws := step_ws (st := T) (i := i) (p := p) (e := e) (v := v)
  have htt : (T.step i p e v).ticks = T.ticks := step_ticks.1
  have hcc : (T.step i p e v).cn = (stepQ T.s v.q T.ws T.cn T.ticks).cn := by unfold St.step; split <;> rfl
  obtain ⟨m1, m2, m3, m4, m5⟩ := midEv_facts T v
  have hcnt : ∀ f : Ev (doorM n) → Bool, f v = false → f (midEv T v) = false → (T.evs.set e (midEv T v)).countP f = T.evs.countP f := fun f g1 g2 => by
    have := countP_put f T.evs e (midEv T v) v hv
    rw [g1, g2] at this; simpa using this
  have hdn : doneN cs (T.step i p e v).evs = doneN cs T.evs := by unfold doneN; rw [hev]; exact hcnt _ (isDone_pend hr0) e3
  have hfn : ∀ w, (T.step i p e v).evs.countP (isFin cs w) = T.evs.countP (isFin cs w) := fun w => by
    rw [hev]
    refine hcnt _ (isFin_pend hr0 w) ?_
    cases hh : isFin cs w (midEv T v) with
    | false => rfl
    | true => rw [isFin_done hh] at e3; cases e3
  have hold : ∀ (f : Nat) (y : Ev (doorM n)), (T.step i p e v).evs[f]? = some y → isDone cs y = true → T.evs[f]? = some y := fun f y hy hd => by
    rw [hev] at hy
    rcases set_get hy hel with ⟨_, rfl⟩ | ⟨_, hy'⟩
    · rw [e3] at hd; cases hd
    · exact hy'
  have hres : (midEv T v).resp ≤ T.ticks := by
    cases hh : (stepQ T.s v.q T.ws T.cn T.ticks).ans with
    | none => rw [m4 hh]; omega
    | some an => rw [m5 an hh]; exact Nat.le_refl _
  refine ⟨by rw [hws, e1]; exact h.len, fun a ha => ?_, by rw [hdn, hcc, e2]; exact h.dw, h.pend.step ht hc hv hr0, fun f u hu => ?_, fun f u hu hur => ?_, fun f u k own g hu hur hq f' y hy hd hlt hth => ?_, fun f u hu hd => ?_⟩
  · rw [hws, e1] at ha; rw [hdn]; exact h.wF a ha
  · rw [htt]
    rw [hev] at hu
    rcases set_get hu hel with ⟨_, rfl⟩ | ⟨_, hu'⟩
    · have := h.le e v hv
      rw [m1, m2]; exact ⟨this.1, hres, e4, this.2.2.2⟩
    · exact h.le f u hu'
  · rw [hws, e1, hdn]
    rw [hev] at hu
    rcases set_get hu hel with ⟨_, rfl⟩ | ⟨_, hu'⟩
    · rw [m1]; exact h1 hur
    · exact h.ev f u hu' hur
  · have hy' := hold f' y hy hd
    rw [hev] at hu
    rcases set_get hu hel with ⟨_, rfl⟩ | ⟨_, hu'⟩
    · rw [m2] at hlt; exact h2 hur k own g hq f' y hy' hd hlt hth
    · exact h.seen f u k own g hu' hur hq f' y hy' hd hlt hth
  · have hd' := h.done f u (hold f u hu hd) hd
    exact ⟨hd'.steps, hd'.own, hd'.lo, by rw [hfn]; exact hd'.hi, by rw [hws, e1]; exact hd'.word, fun f' y hy hdy hlt => hd'.rise f' y (hold f' y hy hdy) hdy hlt⟩
theorem doorF_step {T : St (doorM n)} (h : DoorF n cs T) (hcn : T.cn.w < 9223372036854775807) (ht : 0 < T.ticks) {i : Nat} {p : Int} {e : Nat} {v : Ev (doorM n)} (hc : T.cur p = some e) (hv : T.evs[e]? = some v) (hr0 : v.resp = 0) : DoorF n cs (T.step i p e v) := by
  have hel := (List.getElem?_eq_some_iff.1 hv).1
  have hO := h.ev e v hv hr0
  obtain ⟨m1, m2, m3, m4, m5⟩ := midEv_facts T v
  have hvle := h.le e v hv
  cases hq : v.q with
  | inr er =>
    rw [hq] at hO
    have hans : (stepQ T.s v.q T.ws T.cn T.ticks).ans = some ⟨er, 0, []⟩ := by rw [hq]; rfl
    have hrz : ¬ (midEv T v).resp = 0 := by rw [m5 _ hans]; omega
    refine doorF_same h hc hv hr0 ht (by rw [hq]; rfl) (by rw [hq]; rfl) ?_ (by rw [m3, hO.1]; omega) (fun hr => absurd hr hrz) (fun hr => absurd hr hrz)
    unfold isDone; rw [m1, hO.2, Bool.and_false]
  | inl q =>
    rw [hq] at hO
    match q, hq, hO with
    | .look a, hq, hO =>
      obtain ⟨h1, h2, h3⟩ := hO
      have e0 := door_stepQ T.s (.look a) T.ws T.cn T.ticks
      have hans : (stepQ T.s v.q T.ws T.cn T.ticks).ans = some ⟨0, T.ws.getD a 0, []⟩ := by rw [hq]; rfl
      have hrz : ¬ (midEv T v).resp = 0 := by rw [m5 _ hans]; omega
      refine doorF_same h hc hv hr0 ht (by rw [hq]; rfl) (by rw [hq]; rfl) ?_ (by rw [m3, h2]; omega) (fun hr => absurd hr hrz) (fun hr => absurd hr hrz)
      unfold isDone; rw [m1, h3, Bool.and_false]
    | .ent k own g, hq, hO =>
      obtain ⟨x, h1, h2, h3, h4, h5, h6, h7, h8, h9, h10⟩ := hO
      have e0 := door_stepQ T.s (.ent k own g) T.ws T.cn T.ticks
      have hent : isEntC cs v.i = true := by rw [isEntC_some h1]; exact decide_eq_true ⟨h3, h4⟩
      have hthv : thC cs v.i = own := by rw [thC_some h1, h5]
      by_cases hk : k < n
      · rw [door_acc_rd hk] at e0
        have e0' : stepQ (M := doorM n) T.s (.inl (.ent k own g)) T.ws T.cn T.ticks = ⟨T.s, .inl (.ent (k + 1) own (max g (T.ws.getD k 0))), T.ws, { T.cn with r := T.cn.r + 1 }, none⟩ := by
          rw [e0]
          show (⟨T.s, .inl (doorNext n (.ent k own g) (T.ws.getD k 0)).1, T.ws, { T.cn with r := T.cn.r + 1 }, (doorNext n (.ent k own g) (T.ws.getD k 0)).2⟩ : Out (doorM n)) = _
          rw [door_next_rd hk]
        rw [← hq] at e0'
        have hans : (stepQ T.s v.q T.ws T.cn T.ticks).ans = none := by rw [e0']
        have hme : midEv T v = v.more (.inl (.ent (k + 1) own (max g (T.ws.getD k 0)))) := by rw [midEv_more hans, e0']
        have hwk : T.ws.getD k 0 ≤ doneN cs T.evs := by
          have hkl : k < T.ws.length := by rw [h.len]; exact hk
          refine h.wF _ ?_
          rw [List.getD_eq_getElem?_getD, List.getElem?_eq_getElem hkl]
          exact List.getElem_mem hkl
        refine doorF_same h hc hv hr0 ht (by rw [e0']) (by rw [e0']) (isDone_pend (by rw [m4 hans]; exact hr0)) (by rw [m3, h9]; omega) (fun _ => ?_) (fun _ k' own' g' hq' f y hy hd hlt hth => ?_)
        · rw [hme]
          show DoorOp n cs T.ws (doneN cs T.evs) (v.steps + 1) v.i (.inl (.ent (k + 1) own (max g (T.ws.getD k 0))))
          refine ⟨x, h1, h2, h3, h4, h5, h6, by omega, Nat.max_le.2 ⟨h8, hwk⟩, by omega, fun hlt => ?_⟩
          by_cases ho : own < k
          · exact Nat.le_trans (h10 ho) (Nat.le_max_left _ _)
          · have : own = k := by omega
            subst this
            exact Nat.le_max_right _ _
        · rw [hme] at hq'
          have hq2 : (Sum.inl (.ent (k + 1) own (max g (T.ws.getD k 0))) : DoorQ ⊕ Nat) = .inl (.ent k' own' g') := hq'
          cases hq2
          by_cases hyk : thC cs y.i < k
          · exact Nat.le_trans (h.seen e v k own g hv hr0 hq f y hy hd hlt hyk) (Nat.le_max_left _ _)
          · have hyk' : thC cs y.i = k := by omega
            have hw := (h.done f y hy hd).word
            rw [hyk'] at hw
            exact Nat.le_trans hw (Nat.le_max_right _ _)
      · have hkn : k = n := by omega
        have hmod : (g + 1) % 18446744073709551616 = g + 1 := Nat.mod_eq_of_lt (by have := h.dw; omega)
        have e0' : stepQ (M := doorM n) T.s (.inl (.ent k own g)) T.ws T.cn T.ticks = ⟨T.s, .inl (.ent k own g), T.ws.set own (g + 1), { T.cn with w := T.cn.w + 1 }, some ⟨0, g + 1, []⟩⟩ := by
          rw [e0, door_acc_wr hk, hmod]
          show (⟨T.s, .inl (doorNext n (.ent k own g) 0).1, T.ws.set own (g + 1), { T.cn with w := T.cn.w + 1 }, (doorNext n (.ent k own g) 0).2⟩ : Out (doorM n)) = _
          rw [door_next_wr hk, hmod]
        rw [← hq] at e0'
        have hans : (stepQ T.s v.q T.ws T.cn T.ticks).ans = some ⟨0, g + 1, []⟩ := by rw [e0']
        have hev := step_evs (st := T) (i := i) (p := p) (e := e) (v := v)
        have hws : (T.step i p e v).ws = T.ws.set own (g + 1) := by rw [step_ws, e0']
        have htt : (T.step i p e v).ticks = T.ticks := step_ticks.1
        have hcc : (T.step i p e v).cn.w = T.cn.w + 1 := by
          have : (T.step i p e v).cn = (stepQ T.s v.q T.ws T.cn T.ticks).cn := by unfold St.step; split <;> rfl
          rw [this, e0']
        have mr : (midEv T v).resp = T.ticks := m5 _ hans
        have ma : (midEv T v).ans = ⟨0, g + 1, []⟩ := by rw [midEv_done hans]; rfl
        have hdu : isDone cs (midEv T v) = true := by
          unfold isDone; rw [m1, hent, mr, Bool.and_true]; exact decide_eq_true (by omega)
        have hdn : doneN cs (T.step i p e v).evs = doneN cs T.evs + 1 := by
          unfold doneN
          rw [hev]
          have := countP_put (isDone cs) T.evs e (midEv T v) v hv
          rw [isDone_pend hr0, hdu] at this
          simpa using this
        have hfn : ∀ w, T.evs.countP (isFin cs w) ≤ (T.step i p e v).evs.countP (isFin cs w) := fun w => by
          rw [hev]
          have := countP_put (isFin cs w) T.evs e (midEv T v) v hv
          rw [isFin_pend hr0] at this
          have h0 : (if (false : Bool) = true then 1 else 0 : Nat) = 0 := rfl
          omega
        have hle : ∀ (f : Nat) (u : Ev (doorM n)), (T.step i p e v).evs[f]? = some u → u.inv ≤ T.ticks ∧ u.resp ≤ T.ticks ∧ u.steps ≤ n + 1 ∧ u.i < cs.length := fun f u hu => by
          rw [hev] at hu
          rcases set_get hu hel with ⟨_, rfl⟩ | ⟨_, hu'⟩
          · rw [m1, m2, m3, mr, h9]; exact ⟨hvle.1, Nat.le_refl _, by omega, hvle.2.2.2⟩
          · exact h.le f u hu'
        have hol : own < T.ws.length := by rw [h.len]; exact h6
        have hw10 := h10 (by omega)
        refine ⟨by rw [hws, List.length_set]; exact h.len, fun a ha => ?_, by rw [hdn, hcc]; have := h.dw; omega, h.pend.step ht hc hv hr0, fun f u hu => by rw [htt]; exact hle f u hu, fun f u hu hur => ?_, fun f u k' own' g' hu hur hq' f' y hy hd hlt hth => ?_, fun f u hu hd => ?_⟩
        · rw [hws] at ha
          rw [hdn]
          rcases set_mem ha hol with rfl | ha'
          · omega
          · have := h.wF a ha'; omega
        · rw [hev] at hu
          rcases set_get hu hel with ⟨_, rfl⟩ | ⟨hfe, hu'⟩
          · rw [mr] at hur; omega
          · have o2 := doorOp_more (F' := doneN cs T.evs + 1) (by omega) (h.ev f u hu' hur)
            rw [hws, hdn]
            cases hqu : u.q with
            | inr er => rw [hqu] at o2; exact o2
            | inl q2 =>
              rw [hqu] at o2
              match q2, hqu, o2 with
              | .look a, hqu, o2 => exact o2
              | .ent k2 own2 g2, hqu, o2 =>
                obtain ⟨y, y1, y2, y3, y4, y5, y6, y7, y8, y9, y10⟩ := o2
                have hne : own2 ≠ own := fun ee => hfe (h.pend.alone hu' hv hur hr0 (q := x.t) (by rw [thr_get y1]; congr 1; omega) (thr_get h1))
                exact ⟨y, y1, y2, y3, y4, y5, y6, y7, y8, y9, fun hl => by rw [getD_set_ne hne]; exact y10 hl⟩
        · have hule := hle f u hu
          rw [hev] at hu hy
          rcases set_get hu hel with ⟨_, rfl⟩ | ⟨hfe, hu'⟩
          · rw [mr] at hur; omega
          · rcases set_get hy hel with ⟨_, rfl⟩ | ⟨_, hy'⟩
            · rw [mr] at hlt; omega
            · exact h.seen f u k' own' g' hu' hur hq' f' y hy' hd hlt hth
        · have hule := hle f u hu
          have hu2 := hu
          rw [hev] at hu2
          rcases set_get hu2 hel with ⟨_, rfl⟩ | ⟨hfe, hu'⟩
          · refine ⟨by rw [m3, h9, hkn], by rw [m1, hthv]; exact h6, by rw [ma]; show 1 ≤ g + 1; omega, ?_, by rw [hws, m1, hthv, ma, getD_set_eq hol]; exact Nat.le_refl _, fun f' y hy hdy hlt => ?_⟩
            · rw [ma, mr]
              show g + 1 ≤ _
              have h11 : doneN cs (T.step i p e v).evs ≤ (T.step i p e v).evs.countP (isFin cs T.ticks) := by
                unfold doneN
                refine List.countP_mono_left fun y hy hd => ?_
                obtain ⟨f', hf'⟩ := List.mem_iff_getElem?.1 hy
                have := (hle f' y hf').2.1
                unfold isDone at hd
                rw [Bool.and_eq_true] at hd
                unfold isFin
                rw [Bool.and_eq_true]
                exact ⟨decide_eq_true ⟨of_decide_eq_true hd.1, this⟩, hd.2⟩
              omega
            · rw [m2] at hlt
              rw [hev] at hy
              rcases set_get hy hel with ⟨_, rfl⟩ | ⟨_, hy'⟩
              · rw [mr] at hlt; omega
              · have hy2 := h.seen e v k own g hv hr0 hq f' y hy' hdy hlt (by rw [hkn]; exact (h.done f' y hy' hdy).own)
                rw [ma]; show _ < g + 1; omega
          · have hd' := h.done f u hu' hd
            refine ⟨hd'.steps, hd'.own, hd'.lo, Nat.le_trans hd'.hi (hfn _), ?_, fun f' y hy hdy hlt => ?_⟩
            · rw [hws]
              by_cases ho : thC cs u.i = own
              · have := hd'.word
                rw [ho] at this ⊢
                rw [getD_set_eq hol]; omega
              · rw [getD_set_ne ho]; exact hd'.word
            · rw [hev] at hy
              rcases set_get hy hel with ⟨_, rfl⟩ | ⟨_, hy'⟩
              · rw [mr] at hlt; omega
              · exact hd'.rise f' y hy' hdy hlt
theorem run_w_le' (x : Acc) (l : List Nat) (c : Cn) : c.w ≤ (x.run l c).2.2.w := by
  cases x with
  | rd a => exact Nat.le_refl _
  | wr a v => exact Nat.le_succ _
  | sw a x y => simp only [Acc.run]; split <;> exact Nat.le_refl _
  | ad a d => exact Nat.le_refl _
def DoorI (n : Nat) (cs : List CallV) (st : St (doorM n)) : Prop := st.cn.w < 9223372036854775807 → DoorF n cs st
theorem doorI_idle {st : St (doorM n)} (h : DoorI n cs st) : DoorI n cs { st with idle := st.idle + 1 } := fun hc => doorF_idle (h hc)
theorem doorI_first : DoorI n cs (stM (M := doorM n) cs (List.replicate n 0) ()) := fun _ => doorF_first
theorem doorI_turn (hth : ∀ x ∈ cs, 0 ≤ x.t ∧ x.t < n) {st : St (doorM n)} (h : DoorI n cs st) {i : Nat} {x : CallV} {p : Int} (hno : nowOf (thr cs) st.fin p = some i) (hx : cs[i]? = some x) : DoorI n cs (st.turn i x p) := fun hc => by
  have e : (st.turn i x p).cn = st.cn := by unfold St.turn; split <;> rfl
  rw [e] at hc
  exact doorF_turn hth (h hc) hno hx
theorem doorI_step {st : St (doorM n)} (h : DoorI n cs st) (ht : 0 < st.ticks) {i : Nat} {p : Int} {e : Nat} {v : Ev (doorM n)} (hc : st.cur p = some e) (hv : st.evs[e]? = some v) (hr0 : v.resp = 0) : DoorI n cs (st.step i p e v) := fun hcn => by
  have e1 : (st.step i p e v).cn = (stepQ st.s v.q st.ws st.cn st.ticks).cn := by unfold St.step; split <;> rfl
  have e2 : st.cn.w ≤ (stepQ st.s v.q st.ws st.cn st.ticks).cn.w := by
    unfold stepQ
    cases v.q with
    | inl q => exact run_w_le' _ _ _
    | inr e => exact Nat.le_refl _
  rw [e1] at hcn
  exact doorF_step (h (by omega)) (by omega) ht hc hv hr0

/-- what the law asks -/
def begunD (cs : List CallV) (x y : EvR) : Bool := isEntC cs y.i && decide (y.inv < x.resp)
structure RisesE (cs : List CallV) (evs : List EvR) (x : EvR) : Prop where
  lo : 1 ≤ x.ans.val
  hi : x.ans.val ≤ evs.countP (begunD cs x)
  rise : ∀ y ∈ evs, isEntC cs y.i = true → ¬ y.resp = 0 → y.resp < x.inv → y.ans.val < x.ans.val
def RisesOk (n : Nat) (cs : List CallV) (evs : List EvR) : Prop := (∀ x ∈ evs, x.i < cs.length ∧ x.steps ≤ n + 1) ∧ ∀ x ∈ evs, isEntC cs x.i = true → ¬ x.resp = 0 → RisesE cs evs x
theorem door_rises (hn : 1 ≤ n) {st : St (doorM n)} (h : DoorF n cs st) (hR : RowI cs st) : RisesOk n cs (repOf st).evs := by
  have hmem : ∀ x ∈ (repOf st).evs, ∃ e v, st.evs[e]? = some v ∧ x = evR st.s v := fun x hx => by
    obtain ⟨v, hv, rfl⟩ := List.mem_map.1 hx
    obtain ⟨e, he⟩ := List.mem_iff_getElem?.1 hv
    exact ⟨e, v, he, rfl⟩
  refine ⟨fun x hx => ?_, fun x hx he hr => ?_⟩
  · obtain ⟨e, v, hv, rfl⟩ := hmem x hx
    have := h.le e v hv
    exact ⟨this.2.2.2, this.2.2.1⟩
  · obtain ⟨e, v, hv, rfl⟩ := hmem x hx
    have hd : isDone cs v = true := by unfold isDone; rw [Bool.and_eq_true]; exact ⟨decide_eq_true hr, he⟩
    have hD := h.done e v hv hd
    refine ⟨hD.lo, ?_, fun y hy hey hry hlt => ?_⟩
    · refine Nat.le_trans hD.hi ?_
      show _ ≤ (st.evs.map (evR st.s)).countP _
      rw [List.countP_map]
      refine List.countP_mono_left fun u hu hf => ?_
      have hdu := isFin_done hf
      obtain ⟨f, hf'⟩ := List.mem_iff_getElem?.1 hu
      have hS := (h.done f u hf' hdu).steps
      unfold isFin at hf
      rw [Bool.and_eq_true] at hf
      have hf1 := of_decide_eq_true hf.1
      have hc := (hR.call u hu).2.2.2.2.2 hf1.1
      show (isEntC cs u.i && decide (u.inv < v.resp)) = true
      rw [Bool.and_eq_true]
      exact ⟨hf.2, decide_eq_true (by omega)⟩
    · obtain ⟨f, u, hu, rfl⟩ := hmem y hy
      exact hD.rise f u hu (by unfold isDone; rw [Bool.and_eq_true]; exact ⟨decide_eq_true hry, hey⟩) hlt
theorem doorI_end (hth : ∀ x ∈ cs, 0 ≤ x.t ∧ x.t < n) (picks : List Int) : DoorI n cs (endM (M := doorM n) cs (List.replicate n 0) () picks) :=
  endM_keeps (R := DoorI n cs) _ () doorI_first (fun st h => doorI_idle h) (fun st i x p h _ hn hx => doorI_turn hth h hn hx) (fun st i p e v h _ _ hc hv hr _ ht => doorI_step h ht hc hv hr) picks
end
end Go.Proofs.Ytcedfcdhdgmelaa
