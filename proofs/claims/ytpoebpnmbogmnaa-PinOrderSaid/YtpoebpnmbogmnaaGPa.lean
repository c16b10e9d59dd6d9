/- The pin register as a machine, plainly; what keeps its steps safe, and few; what is read was written at once. | What plays of a pin register keep: turns, steps. | What plays of a pin register keep: each step. | What the pin register's laws ask, plainly. | When a pin register's reads entered: within what has happened. -/
import Derived.Test.YtpoebpnmbogmnaaGQ1
namespace Go.Proofs.Ytpoebpnmbogmnaa
section
open Go.RowKit
set_option linter.unusedVariables false
structure PinS where
  ent : List Nat
  tot : Nat
  cur : Nat
inductive PinQ where
  | look (a q : Nat)
  | fill (a q j : Nat)
  | pub (a q : Nat)
  | enter
  | take (t0 q : Nat) (l : List Nat)
  | leave (t0 q : Nat) (l : List Nat)
  | wdone
  | rdone (t0 : Nat)
def wdA (n w q i : Nat) : Nat := n + 2 + q * w + i
def frm (cur b : Nat) : Nat := if b = cur then b + 1 else b
def pinAcc (n w : Nat) (s : PinS) : PinQ → Acc
  | .look _ q => .rd (1 + q)
  | .fill a q j => .wr (wdA n w q j) ((a + j) % 18446744073709551616)
  | .pub _ q => .ad 0 ((q + 18446744073709551616 - s.cur) * 4294967296 % 18446744073709551616)
  | .enter => .ad 0 1
  | .take _ q l => .rd (wdA n w q l.length)
  | .leave _ q _ => .ad (1 + q) 1
  | .wdone => .rd 0
  | .rdone _ => .rd 0
def pinPub (s : PinS) (q r : Nat) : PinS := ⟨s.ent.set s.cur ((s.ent.getD s.cur 0 + (r % 4294967296 + 18446744073709551616 - s.tot)) % 18446744073709551616), r % 4294967296, q⟩
def pinNext (w : Nat) (s : PinS) (q : PinQ) (r t : Nat) : PinS × PinQ × Option Ans :=
  match q with
  | .look a q => (s, if r = s.ent.getD q 0 then .fill a q 0 else .look a (frm s.cur (q + 1)), none)
  | .fill a q j => (s, if j + 1 = w then .pub a q else .fill a q (j + 1), none)
  | .pub a q => (pinPub s q r, .wdone, some ⟨0, 0, []⟩)
  | .enter => (s, .take t (r / 4294967296) [], none)
  | .take t0 q l => (s, if l.length + 1 = w then .leave t0 q (l ++ [r]) else .take t0 q (l ++ [r]), none)
  | .leave t0 q l => (s, .rdone t0, some ⟨0, 0, l⟩)
  | .wdone => (s, .wdone, some ⟨0, 0, []⟩)
  | .rdone t0 => (s, .rdone t0, some ⟨0, 0, []⟩)
def pinKey : PinQ → List Nat
  | .rdone t0 => [2 * t0]
  | _ => []
abbrev pinM (n w : Nat) : Mach where
  S := PinS
  Q := PinQ
  m := 1
  inv := fun s x => (s, if x.k = 0 then (if x.t = 0 then .inl (.look x.a (frm s.cur 0)) else .inr 11) else if x.k = 1 then .inl .enter else .inr 9)
  acc := fun s q => pinAcc n w s q
  next := fun s q r t => pinNext w s q r t
  key := fun _ q => pinKey q
theorem pin_inv_eq (n w : Nat) (s : (pinM n w).S) (x : CallV) : (pinM n w).inv s x = (s, ((if x.k = 0 then (if x.t = 0 then Sum.inl (.look x.a (frm s.cur 0)) else Sum.inr 11) else if x.k = 1 then Sum.inl .enter else Sum.inr 9) : PinQ ⊕ Nat)) := rfl
theorem pin_stepQ (n w : Nat) (s : (pinM n w).S) (q : PinQ) (ws : List Nat) (cn : Cn) (t : Nat) : stepQ (M := pinM n w) s (.inl q) ws cn t = ⟨(pinNext w s q ((pinAcc n w s q).run ws cn).1 t).1, .inl (pinNext w s q ((pinAcc n w s q).run ws cn).1 t).2.1, ((pinAcc n w s q).run ws cn).2.1, ((pinAcc n w s q).run ws cn).2.2, (pinNext w s q ((pinAcc n w s q).run ws cn).1 t).2.2⟩ := rfl
/-- a nodup row of numbers below m is no longer than m -/
theorem nodup_short : ∀ (m : Nat) (l : List Nat), l.Nodup → (∀ x ∈ l, x < m) → l.length ≤ m
  | 0, l, _, h => by
    cases l with
    | nil => exact Nat.le_refl _
    | cons a r => exact absurd (h a List.mem_cons_self) (Nat.not_lt_zero _)
  | m + 1, l, hn, h => by
    have h1 := nodup_short m (l.erase m) (hn.erase m) (fun x hx => by
      have h2 := h x (List.mem_of_mem_erase hx)
      have h3 : x ≠ m := fun e => by
        subst e
        exact (List.Nodup.mem_erase_iff hn).1 hx |>.1 rfl
      omega)
    have h2 : l.length ≤ (l.erase m).length + 1 := by
      rw [List.length_erase]
      split <;> omega
    omega
/-- which reader is in a buffer -/
def inB (q : Nat) : PinQ ⊕ Nat → Bool
  | .inl (.take _ p _) => decide (p = q)
  | .inl (.leave _ p _) => decide (p = q)
  | _ => false
def GoodV (cs : List CallV) (V : Nat → Nat) : Prop := (∀ i, V i = 0) ∨ ∃ (k : Nat) (x : CallV), cs[k]? = some x ∧ x.t = 0 ∧ x.o = 0 ∧ x.k = 0 ∧ ∀ i, V i = (x.a + i) % 18446744073709551616
def GoodL (cs : List CallV) (w : Nat) (l : List Nat) : Prop := l.length = w ∧ ∃ V, GoodV cs V ∧ ∀ i, i < w → l[i]? = some (V i)
def loE (ws : List Nat) : Nat := ws.getD 0 0 % 4294967296
section
variable {n w : Nat} {cs : List CallV}
def insE (q : Nat) (v : Ev (pinM n w)) : Bool := decide (v.resp = 0) && inB q v.q
def insN (evs : List (Ev (pinM n w))) (q : Nat) : Nat := evs.countP (insE q)
def PinOp (n w : Nat) (cs : List CallV) (s : PinS) (ws : List Nat) (ins : Nat → Nat) (steps i : Nat) : PinQ ⊕ Nat → Prop
  | .inl (.look a q) => ∃ x, cs[i]? = some x ∧ x.t = 0 ∧ x.o = 0 ∧ x.k = 0 ∧ a = x.a ∧ q ≠ s.cur ∧ steps + (if s.cur < q then 1 else 0) = q ∧ ∃ q', q ≤ q' ∧ q' ≤ n ∧ q' ≠ s.cur ∧ ins q' = 0
  | .inl (.fill a q j) => ∃ x, cs[i]? = some x ∧ x.t = 0 ∧ x.o = 0 ∧ x.k = 0 ∧ a = x.a ∧ q ≠ s.cur ∧ q ≤ n ∧ ins q = 0 ∧ j < w ∧ steps ≤ n + j ∧ ∀ c, c < j → ws.getD (wdA n w q c) 0 = (a + c) % 18446744073709551616
  | .inl (.pub a q) => ∃ x, cs[i]? = some x ∧ x.t = 0 ∧ x.o = 0 ∧ x.k = 0 ∧ a = x.a ∧ q ≠ s.cur ∧ q ≤ n ∧ ins q = 0 ∧ steps ≤ n + w ∧ ∀ c, c < w → ws.getD (wdA n w q c) 0 = (a + c) % 18446744073709551616
  | .inl .enter => ∃ x, cs[i]? = some x ∧ x.o = 0 ∧ x.k = 1 ∧ steps = 0
  | .inl (.take t0 q l) => ∃ x, cs[i]? = some x ∧ x.o = 0 ∧ x.k = 1 ∧ q ≤ n ∧ l.length < w ∧ steps = 1 + l.length ∧ ∀ c, c < l.length → l[c]? = some (ws.getD (wdA n w q c) 0)
  | .inl (.leave t0 q l) => ∃ x, cs[i]? = some x ∧ x.o = 0 ∧ x.k = 1 ∧ q ≤ n ∧ l.length = w ∧ steps = 1 + l.length ∧ ∀ c, c < l.length → l[c]? = some (ws.getD (wdA n w q c) 0)
  | .inl .wdone => False
  | .inl (.rdone _) => False
  | .inr e => steps = 0 ∧ ∃ x, cs[i]? = some x ∧ ¬ (x.o = 0 ∧ x.k = 1)
structure PinDone (n w : Nat) (cs : List CallV) (v : Ev (pinM n w)) : Prop where
  steps : v.steps ≤ n + w + 1
  rd : ∀ x, cs[v.i]? = some x → x.k = 1 → v.steps ≤ w + 2
  good : ∀ x, cs[v.i]? = some x → x.o = 0 → x.k = 1 → GoodL cs w v.ans.list
structure PinF (n w : Nat) (cs : List CallV) (st : St (pinM n w)) : Prop where
  len : st.ws.length = 1 + (n + 1) * (1 + w)
  elen : st.s.ent.length = n + 1
  cur : st.s.cur ≤ n
  cell : st.ws.getD 0 0 = st.s.cur * 4294967296 + loE st.ws
  tot : st.s.tot ≤ loE st.ws
  cnt : loE st.ws ≤ st.cn.a
  bal : ∀ q, q ≤ n → st.s.ent.getD q 0 + (if q = st.s.cur then loE st.ws - st.s.tot else 0) = st.ws.getD (1 + q) 0 + insN st.evs q
  lim : ∀ q, q ≤ n → st.s.ent.getD q 0 + (if q = st.s.cur then loE st.ws - st.s.tot else 0) ≤ loE st.ws
  buf : ∀ q, q ≤ n → (q = st.s.cur ∨ 0 < insN st.evs q) → ∃ V, GoodV cs V ∧ ∀ c, c < w → st.ws.getD (wdA n w q c) 0 = V c
  pend : PendI cs st
  ev : ∀ (e : Nat) (v : Ev (pinM n w)), st.evs[e]? = some v → v.resp = 0 → PinOp n w cs st.s st.ws (insN st.evs) v.steps v.i v.q
  done : ∀ (e : Nat) (v : Ev (pinM n w)), st.evs[e]? = some v → ¬ v.resp = 0 → PinDone n w cs v
theorem countP_both {α : Type} (f : α → Bool) : ∀ (l : List α) (e : Nat) (u v : α), l[e]? = some v → (l.set e u).countP f + (if f v then 1 else 0) = l.countP f + (if f u then 1 else 0)
  | [], _, _, _, h => by simp at h
  | a :: r, 0, u, v, h => by
    have e : a = v := by simpa using h
    subst e
    rw [List.set_cons_zero, List.countP_cons, List.countP_cons]; omega
  | a :: r, e + 1, u, v, h => by
    have := countP_both f r e u v (by simpa using h)
    rw [List.set_cons_succ, List.countP_cons, List.countP_cons]; omega
theorem wd_ne {q c q' c' : Nat} (hc : c < w) (hc' : c' < w) (h : q ≠ q') : wdA n w q c ≠ wdA n w q' c' := fun e => by
  unfold wdA at e
  have h1 : q * w + c = q' * w + c' := by omega
  have hw : 0 < w := by omega
  have e1 : (q * w + c) / w = q := (Nat.div_eq_iff hw).2 (by omega)
  have e2 : (q' * w + c') / w = q' := (Nat.div_eq_iff hw).2 (by omega)
  rw [h1, e2] at e1
  exact h e1.symm
theorem wd_lt {q c : Nat} (hq : q ≤ n) (hc : c < w) : wdA n w q c < 1 + (n + 1) * (1 + w) := by
  unfold wdA
  have h1 : q * w ≤ n * w := Nat.mul_le_mul_right w hq
  have h2 : (n + 1) * (1 + w) = n + 1 + (n * w + w) := by rw [Nat.mul_add, Nat.mul_one, Nat.succ_mul]
  omega
theorem frm_ne (c b : Nat) : frm c b ≠ c := by unfold frm; split <;> omega
theorem pinF_idle {st : St (pinM n w)} (h : PinF n w cs st) : PinF n w cs { st with idle := st.idle + 1 } := ⟨h.len, h.elen, h.cur, h.cell, h.tot, h.cnt, h.bal, h.lim, h.buf, h.pend, h.ev, h.done⟩
theorem getD_rep (m a : Nat) : (List.replicate m 0).getD a 0 = 0 := by
  rw [List.getD_eq_getElem?_getD, List.getElem?_replicate]
  split <;> rfl
theorem pinF_first : PinF n w cs (stM (M := pinM n w) cs (List.replicate (1 + (n + 1) * (1 + w)) 0) ⟨List.replicate (n + 1) 0, 0, 0⟩) := by
  have g : ∀ a, (stM (M := pinM n w) cs (List.replicate (1 + (n + 1) * (1 + w)) 0) ⟨List.replicate (n + 1) 0, 0, 0⟩).ws.getD a 0 = 0 := fun a => getD_rep _ _
  have l0 : loE (stM (M := pinM n w) cs (List.replicate (1 + (n + 1) * (1 + w)) 0) ⟨List.replicate (n + 1) 0, 0, 0⟩).ws = 0 := by unfold loE; rw [g]
  have ge : ∀ a, (List.replicate (n + 1) 0).getD a 0 = 0 := fun a => getD_rep _ _
  have hc0 : (stM (M := pinM n w) cs (List.replicate (1 + (n + 1) * (1 + w)) 0) ⟨List.replicate (n + 1) 0, 0, 0⟩).s.cur = 0 := rfl
  refine ⟨by simp [stM], by simp [stM], Nat.zero_le _, by rw [g, l0, hc0, Nat.zero_mul], Nat.zero_le _, by rw [l0]; exact Nat.zero_le _, fun q _ => ?_, fun q _ => ?_, fun q _ _ => ⟨fun _ => 0, .inl fun _ => rfl, fun c _ => g _⟩, fun f y q hy => by simp [stM] at hy, fun e v hv => by simp [stM] at hv, fun e v hv => by simp [stM] at hv⟩
  · rw [l0, g]
    show (List.replicate (n + 1) 0).getD q 0 + (if q = 0 then 0 - 0 else 0) = 0 + 0
    rw [ge]; split <;> rfl
  · rw [l0]
    show (List.replicate (n + 1) 0).getD q 0 + (if q = 0 then 0 - 0 else 0) ≤ 0
    rw [ge]; split <;> exact Nat.le_refl _
theorem pinOp_mono {s : PinS} {ws ws' : List Nat} {ins ins' : Nat → Nat} {steps i : Nat} {q : PinQ ⊕ Nat} (h : PinOp n w cs s ws ins steps i q) (hi : ∀ p, ins p = 0 → ins' p = 0)
    (hr : ∀ p c, inB p q = true → c < w → ws'.getD (wdA n w p c) 0 = ws.getD (wdA n w p c) 0) (hw : ∀ x, cs[i]? = some x → x.t = 0 → x.k = 0 → x.o = 0 → ∀ p c, c < w → ws'.getD (wdA n w p c) 0 = ws.getD (wdA n w p c) 0) : PinOp n w cs s ws' ins' steps i q := by
  match q, h, hr with
  | .inl (.look a q), h, hr =>
    obtain ⟨x, h1, h2, h3, h4, h5, h6, h7, q', h8, h9, h10, h11⟩ := h
    exact ⟨x, h1, h2, h3, h4, h5, h6, h7, q', h8, h9, h10, hi q' h11⟩
  | .inl (.fill a q j), h, hr =>
    obtain ⟨x, h1, h2, h3, h4, h5, h6, h7, h8, h9, h10, h11⟩ := h
    exact ⟨x, h1, h2, h3, h4, h5, h6, h7, hi q h8, h9, h10, fun c hc => by rw [hw x h1 h2 h4 h3 q c (by omega)]; exact h11 c hc⟩
  | .inl (.pub a q), h, hr =>
    obtain ⟨x, h1, h2, h3, h4, h5, h6, h7, h8, h9, h10⟩ := h
    exact ⟨x, h1, h2, h3, h4, h5, h6, h7, hi q h8, h9, fun c hc => by rw [hw x h1 h2 h4 h3 q c hc]; exact h10 c hc⟩
  | .inl .enter, h, hr => exact h
  | .inl (.take t0 q l), h, hr =>
    obtain ⟨x, h1, h2, h3, h4, h5, h6, h7⟩ := h
    exact ⟨x, h1, h2, h3, h4, h5, h6, fun c hc => by rw [hr q c (decide_eq_true rfl) (by omega)]; exact h7 c hc⟩
  | .inl (.leave t0 q l), h, hr =>
    obtain ⟨x, h1, h2, h3, h4, h5, h6, h7⟩ := h
    exact ⟨x, h1, h2, h3, h4, h5, h6, fun c hc => by rw [hr q c (decide_eq_true rfl) (by omega)]; exact h7 c hc⟩
  | .inl .wdone, h, hr => exact h
  | .inl (.rdone _), h, hr => exact h
  | .inr e, h, hr => exact h
/-- of n buffers that are not in the cell one has no reader, while thread 0 begins -/
theorem pin_free (hn : 1 ≤ n) (hth : ∀ x ∈ cs, 0 ≤ x.t ∧ x.t < n) {st : St (pinM n w)} (h : PinF n w cs st) (h0 : st.cur 0 = none) : ∃ q', frm st.s.cur 0 ≤ q' ∧ q' ≤ n ∧ q' ≠ st.s.cur ∧ insN st.evs q' = 0 := by
  refine Classical.byContradiction fun hno => ?_
  have hall : ∀ q, ∃ g : Nat, q ≤ n → q ≠ st.s.cur → g + 1 < n ∧ ∃ (f : Nat) (v : Ev (pinM n w)) (x : CallV), st.evs[f]? = some v ∧ insE q v = true ∧ cs[v.i]? = some x ∧ x.t = ((g + 1 : Nat) : Int) := fun q => by
    by_cases hq : q ≤ n ∧ q ≠ st.s.cur
    · have hpos : 0 < insN st.evs q := by
        refine Nat.pos_of_ne_zero fun hz => hno ⟨q, ?_, hq.1, hq.2, hz⟩
        unfold frm
        split <;> omega
      obtain ⟨v, hv, hin⟩ := List.countP_pos_iff.1 hpos
      obtain ⟨f, hf⟩ := List.mem_iff_getElem?.1 hv
      have hr : v.resp = 0 := by unfold insE at hin; rw [Bool.and_eq_true] at hin; exact of_decide_eq_true hin.1
      have hop := h.ev f v hf hr
      have hx : ∃ x, cs[v.i]? = some x := by
        unfold insE at hin
        rw [Bool.and_eq_true] at hin
        cases hq' : v.q with
        | inr e => rw [hq'] at hin; exact (Bool.false_ne_true (show false = true from hin.2)).elim
        | inl q' =>
          rw [hq'] at hin hop
          match q', hop, hin with
          | .take t0 p l, hop, _ => obtain ⟨x, h1, _⟩ := hop; exact ⟨x, h1⟩
          | .leave t0 p l, hop, _ => obtain ⟨x, h1, _⟩ := hop; exact ⟨x, h1⟩
      obtain ⟨x, hx⟩ := hx
      have ht := hth x (List.mem_of_getElem? hx)
      have hne : x.t ≠ 0 := fun e => by
        have := h.pend f v 0 hf hr (by rw [thr_get hx, e])
        rw [h0] at this; cases this
      exact ⟨x.t.toNat - 1, fun _ _ => ⟨by omega, f, v, x, hf, hin, hx, by omega⟩⟩
    · exact ⟨0, fun h1 h2 => absurd ⟨h1, h2⟩ hq⟩
  obtain ⟨g, hg⟩ := Classical.axiomOfChoice hall
  have hrg : (List.range (n + 1)).Nodup := List.nodup_range
  have hmem : ∀ q, q ∈ (List.range (n + 1)).erase st.s.cur → q ≤ n ∧ q ≠ st.s.cur := fun q hq => by
    have h1 := (List.Nodup.mem_erase_iff hrg).1 hq
    have h2 := List.mem_range.1 h1.2
    exact ⟨by omega, h1.1⟩
  have hnd : (((List.range (n + 1)).erase st.s.cur).map g).Nodup := by
    refine List.pairwise_map.2 (List.Pairwise.imp_of_mem (fun {a b} ha hb hab => ?_) (hrg.erase st.s.cur))
    intro e
    obtain ⟨a1, a2⟩ := hmem a ha
    obtain ⟨b1, b2⟩ := hmem b hb
    obtain ⟨_, f, v, x, hf, hin, hx, hxt⟩ := hg a a1 a2
    obtain ⟨_, f', v', x', hf', hin', hx', hxt'⟩ := hg b b1 b2
    have hr : v.resp = 0 := by unfold insE at hin; rw [Bool.and_eq_true] at hin; exact of_decide_eq_true hin.1
    have hr' : v'.resp = 0 := by unfold insE at hin'; rw [Bool.and_eq_true] at hin'; exact of_decide_eq_true hin'.1
    have hff : f = f' := h.pend.alone hf hf' hr hr' (q := x.t) (thr_get hx) (by rw [thr_get hx', hxt', ← e, hxt])
    subst hff
    rw [hf] at hf'; cases hf'
    unfold insE at hin hin'
    rw [Bool.and_eq_true] at hin hin'
    have hb1 := hin.2
    have hb2 := hin'.2
    cases hq' : v.q with
    | inr e => rw [hq'] at hb1; exact (Bool.false_ne_true (show false = true from hb1)).elim
    | inl q' =>
      rw [hq'] at hb1 hb2
      match q', hb1, hb2 with
      | .take t0 p l, hb1, hb2 => exact hab ((of_decide_eq_true hb1).symm.trans (of_decide_eq_true hb2))
      | .leave t0 p l, hb1, hb2 => exact hab ((of_decide_eq_true hb1).symm.trans (of_decide_eq_true hb2))
  have hlen := nodup_short (n - 1) _ hnd (fun y hy => by
    obtain ⟨q, hq, rfl⟩ := List.mem_map.1 hy
    obtain ⟨a1, a2⟩ := hmem q hq
    have := (hg q a1 a2).1
    omega)
  rw [List.length_map, List.length_erase_of_mem (List.mem_range.2 (by have := h.cur; omega)), List.length_range] at hlen
  omega
end
end
section
open Go.RowKit
set_option linter.unusedVariables false
section
variable {n w : Nat} {cs : List CallV}
theorem pin_invQ (s : (pinM n w).S) (x : CallV) : (invQ (M := pinM n w) s x).1 = s := by
  unfold invQ
  split <;> rfl
theorem inB_new (s : (pinM n w).S) (x : CallV) (q : Nat) : inB q (invQ (M := pinM n w) s x).2 = false := by
  unfold invQ
  split
  · rfl
  · rw [pin_inv_eq]
    simp only
    split
    · split <;> rfl
    · split <;> rfl
theorem pinOp_new (hn : 1 ≤ n) (hth : ∀ x ∈ cs, 0 ≤ x.t ∧ x.t < n) {st : St (pinM n w)} (h : PinF n w cs st) {i : Nat} {x : CallV} (hx : cs[i]? = some x) (h0 : x.t = 0 → st.cur 0 = none) : PinOp n w cs st.s st.ws (insN st.evs) 0 i (invQ (M := pinM n w) st.s x).2 := by
  have hm : ((pinM n w).m : Int) = 1 := rfl
  unfold invQ
  by_cases ho : x.o < 0 ∨ 1 ≤ x.o
  · rw [if_pos (by rw [hm]; exact ho)]
    exact ⟨rfl, x, hx, by omega⟩
  · rw [if_neg (by rw [hm]; exact ho), pin_inv_eq]
    by_cases k0 : x.k = 0
    · rw [if_pos k0]
      by_cases t0 : x.t = 0
      · rw [if_pos t0]
        obtain ⟨q', h1, h2, h3, h4⟩ := pin_free hn hth h (h0 t0)
        refine ⟨x, hx, t0, by omega, k0, rfl, frm_ne _ _, ?_, q', h1, h2, h3, h4⟩
        unfold frm
        by_cases hc : 0 = st.s.cur
        · rw [if_pos hc, if_pos (by omega)]
        · rw [if_neg hc, if_neg (by omega)]
      · rw [if_neg t0]; exact ⟨rfl, x, hx, by omega⟩
    · rw [if_neg k0]
      by_cases k1 : x.k = 1
      · rw [if_pos k1]; exact ⟨x, hx, by omega, k1, rfl⟩
      · rw [if_neg k1]; exact ⟨rfl, x, hx, by omega⟩
theorem pinF_turn (hn : 1 ≤ n) (hth : ∀ x ∈ cs, 0 ≤ x.t ∧ x.t < n) {st : St (pinM n w)} (h : PinF n w cs st) {i : Nat} {x : CallV} {p : Int} (hno : nowOf (thr cs) st.fin p = some i) (hx : cs[i]? = some x) : PinF n w cs (st.turn i x p) := by
  have hp := h.pend.turn (x := x) hno
  have hpt : x.t = p := by
    have h1 := (now_open hno).2.1
    rw [thr_get hx] at h1
    exact Option.some.inj h1
  cases hc : st.cur p with
  | some e0 =>
    have htu : st.turn i x p = st.tick := by unfold St.turn; rw [hc]
    rw [htu] at hp ⊢
    exact ⟨h.len, h.elen, h.cur, h.cell, h.tot, h.cnt, h.bal, h.lim, h.buf, hp, h.ev, h.done⟩
  | none =>
    have htu : st.turn i x p = st.tick.begin i x p := by unfold St.turn; rw [hc]
    rw [htu] at hp ⊢
    have hs : (st.tick.begin i x p).s = st.s := pin_invQ st.s x
    have hev : (st.tick.begin i x p).evs = st.evs ++ [⟨i, st.ticks + 1, 0, 0, ⟨0, 0, []⟩, [], (invQ st.s x).2⟩] := rfl
    have hins : insN (st.tick.begin i x p).evs = insN st.evs := by
      funext q
      unfold insN
      rw [hev, List.countP_append, List.countP_singleton]
      have : insE q (⟨i, st.ticks + 1, 0, 0, ⟨0, 0, []⟩, [], (invQ st.s x).2⟩ : Ev (pinM n w)) = false := by
        unfold insE
        rw [inB_new, Bool.and_false]
      rw [this]; rfl
    refine ⟨h.len, by rw [hs]; exact h.elen, by rw [hs]; exact h.cur, by rw [hs]; exact h.cell, by rw [hs]; exact h.tot, h.cnt, fun q hq => by rw [hs, hins]; exact h.bal q hq, fun q hq => by rw [hs]; exact h.lim q hq, fun q hq hor => ?_, hp, fun e v hv hr => ?_, fun e v hv hr => ?_⟩
    · rw [hs, hins] at hor; exact h.buf q hq hor
    · rw [hs, hins]
      rw [hev] at hv
      rcases snoc_get hv with ⟨_, rfl⟩ | ⟨_, hv'⟩
      · exact pinOp_new hn hth h hx (fun t0 => by rw [← t0, hpt]; exact hc)
      · exact h.ev e v hv' hr
    · rw [hev] at hv
      rcases snoc_get hv with ⟨_, rfl⟩ | ⟨_, hv'⟩
      · exact absurd rfl hr
      · exact h.done e v hv' hr
theorem gD_ne {l : List Nat} {a b y : Nat} (h : b ≠ a) : (l.set a y).getD b 0 = l.getD b 0 := by
  rw [List.getD_eq_getElem?_getD, List.getD_eq_getElem?_getD, List.getElem?_set_ne (fun e => h e.symm)]
theorem gD_eq {l : List Nat} {a y : Nat} (h : a < l.length) : (l.set a y).getD a 0 = y := by
  rw [List.getD_eq_getElem?_getD, List.getElem?_set_self h]; rfl
theorem wd_big (q c : Nat) : n + 2 ≤ wdA n w q c := by unfold wdA; omega
/-- one step, told by what it does -/
theorem pinF_build {T : St (pinM n w)} (h : PinF n w cs T) (ht : 0 < T.ticks) {i : Nat} {p : Int} {e : Nat} {v : Ev (pinM n w)} (hc : T.cur p = some e) (hv : T.evs[e]? = some v) (hr0 : v.resp = 0) {s' : PinS} {ws' : List Nat} {cn' : Cn} {q' : PinQ ⊕ Nat} {an : Option Ans}
    (h1 : (stepQ T.s v.q T.ws T.cn T.ticks).s = s') (h2 : (stepQ T.s v.q T.ws T.cn T.ticks).ws = ws') (h3 : (stepQ T.s v.q T.ws T.cn T.ticks).cn = cn') (h4 : (stepQ T.s v.q T.ws T.cn T.ticks).q = q') (h5 : (stepQ T.s v.q T.ws T.cn T.ticks).ans = an)
    (g1 : ws'.length = 1 + (n + 1) * (1 + w)) (g2 : s'.ent.length = n + 1) (g3 : s'.cur ≤ n) (g4 : ws'.getD 0 0 = s'.cur * 4294967296 + loE ws') (g5 : s'.tot ≤ loE ws') (g6 : loE ws' ≤ cn'.a)
    (ins' : Nat → Nat) (hins : ∀ q, ins' q + (if inB q v.q then 1 else 0) = insN T.evs q + (if an = none ∧ inB q q' = true then 1 else 0))
    (g7 : ∀ q, q ≤ n → s'.ent.getD q 0 + (if q = s'.cur then loE ws' - s'.tot else 0) = ws'.getD (1 + q) 0 + ins' q) (g8 : ∀ q, q ≤ n → s'.ent.getD q 0 + (if q = s'.cur then loE ws' - s'.tot else 0) ≤ loE ws')
    (g9 : ∀ q, q ≤ n → (q = s'.cur ∨ 0 < ins' q) → ∃ V, GoodV cs V ∧ ∀ c, c < w → ws'.getD (wdA n w q c) 0 = V c)
    (g10 : an = none → PinOp n w cs s' ws' ins' (v.steps + 1) v.i q')
    (g11 : ∀ a, an = some a → v.steps + 1 ≤ n + w + 1 ∧ (∀ x, cs[v.i]? = some x → x.k = 1 → v.steps + 1 ≤ w + 2) ∧ (∀ x, cs[v.i]? = some x → x.o = 0 → x.k = 1 → GoodL cs w a.list))
    (g12 : ∀ (f : Nat) (u : Ev (pinM n w)), f ≠ e → T.evs[f]? = some u → u.resp = 0 → PinOp n w cs s' ws' ins' u.steps u.i u.q) : PinF n w cs (T.step i p e v) := by
  have hel := (List.getElem?_eq_some_iff.1 hv).1
  obtain ⟨m1, m2, m3, m4, m5⟩ := midEv_facts T v
  have hS : (T.step i p e v).s = s' := by rw [← h1]; unfold St.step; split <;> rfl
  have hC : (T.step i p e v).cn = cn' := by rw [← h3]; unfold St.step; split <;> rfl
  have hW : (T.step i p e v).ws = ws' := by rw [step_ws]; exact h2
  have hI : insN (T.step i p e v).evs = ins' := by
    funext q
    have hb := countP_both (insE q) T.evs e (midEv T v) v hv
    have e1 : insE q v = inB q v.q := by unfold insE; rw [hr0]; rfl
    have e2 : insE q (midEv T v) = decide (an = none ∧ inB q q' = true) := by
      cases ha : an with
      | none =>
        have h5' := h5.trans ha
        rw [midEv_more h5', h4]
        unfold insE
        show (decide (v.resp = 0) && inB q q') = _
        rw [hr0]; simp
      | some a =>
        have h5' := h5.trans ha
        unfold insE
        rw [m5 a h5', decide_eq_false (by omega)]; simp
    rw [step_evs]
    show (T.evs.set e (midEv T v)).countP (insE q) = ins' q
    have h6 := hins q
    have h7 : insN T.evs q = T.evs.countP (insE q) := rfl
    rw [e1, e2] at hb
    by_cases hd : an = none ∧ inB q q' = true
    · rw [if_pos hd] at h6
      rw [decide_eq_true hd, if_pos rfl] at hb
      omega
    · rw [if_neg hd] at h6
      have e0 : (if (false : Bool) = true then 1 else 0 : Nat) = 0 := rfl
      rw [decide_eq_false hd, e0] at hb
      omega
  refine ⟨by rw [hW]; exact g1, by rw [hS]; exact g2, by rw [hS]; exact g3, by rw [hW, hS]; exact g4, by rw [hW, hS]; exact g5, by rw [hW, hC]; exact g6, fun q hq => by rw [hS, hW, hI]; exact g7 q hq, fun q hq => by rw [hS, hW]; exact g8 q hq, fun q hq hor => ?_, h.pend.step ht hc hv hr0, fun f u hu hur => ?_, fun f u hu hur => ?_⟩
  · rw [hS, hI] at hor
    rw [hW]; exact g9 q hq hor
  · rw [hS, hW, hI]
    rw [step_evs] at hu
    rcases set_get hu hel with ⟨_, rfl⟩ | ⟨hfe, hu'⟩
    · cases ha : an with
      | none =>
        have h5' := h5.trans ha
        have := g10 ha
        rw [m1, m3, midEv_more h5', h4]; exact this
      | some a => rw [m5 a (h5.trans ha)] at hur; omega
    · exact g12 f u hfe hu' hur
  · rw [step_evs] at hu
    rcases set_get hu hel with ⟨_, rfl⟩ | ⟨hfe, hu'⟩
    · cases ha : an with
      | none => rw [m4 (h5.trans ha)] at hur; exact absurd hr0 hur
      | some a =>
        obtain ⟨a1, a2, a3⟩ := g11 a ha
        have ma : (midEv T v).ans = a := by rw [midEv_done (h5.trans ha)]; rfl
        exact ⟨by rw [m3]; exact a1, fun x hx hk => by rw [m3]; rw [m1] at hx; exact a2 x hx hk, fun x hx ho hk => by rw [ma]; rw [m1] at hx; exact a3 x hx ho hk⟩
    · exact h.done f u hu' hur
end
end
section
open Go.RowKit
set_option linter.unusedVariables false
section
variable {n w : Nat} {cs : List CallV}
theorem pin_look (s : (pinM n w).S) (a q : Nat) (ws : List Nat) (cn : Cn) (t : Nat) : stepQ (M := pinM n w) s (.inl (.look a q)) ws cn t = ⟨s, .inl (if ws.getD (1 + q) 0 = s.ent.getD q 0 then .fill a q 0 else .look a (frm s.cur (q + 1))), ws, { cn with r := cn.r + 1 }, none⟩ := rfl
theorem pin_fill (s : (pinM n w).S) (a q j : Nat) (ws : List Nat) (cn : Cn) (t : Nat) : stepQ (M := pinM n w) s (.inl (.fill a q j)) ws cn t = ⟨s, .inl (if j + 1 = w then .pub a q else .fill a q (j + 1)), ws.set (wdA n w q j) ((a + j) % 18446744073709551616), { cn with w := cn.w + 1 }, none⟩ := rfl
theorem pin_pub (s : (pinM n w).S) (a q : Nat) (ws : List Nat) (cn : Cn) (t : Nat) : stepQ (M := pinM n w) s (.inl (.pub a q)) ws cn t = ⟨pinPub s q (ws.getD 0 0), .inl .wdone, ws.set 0 ((ws.getD 0 0 + (q + 18446744073709551616 - s.cur) * 4294967296 % 18446744073709551616) % 18446744073709551616), { cn with a := cn.a + 1 }, some ⟨0, 0, []⟩⟩ := rfl
theorem pin_enter (s : (pinM n w).S) (ws : List Nat) (cn : Cn) (t : Nat) : stepQ (M := pinM n w) s (.inl .enter) ws cn t = ⟨s, .inl (.take t (ws.getD 0 0 / 4294967296) []), ws.set 0 ((ws.getD 0 0 + 1) % 18446744073709551616), { cn with a := cn.a + 1 }, none⟩ := rfl
theorem pin_take (s : (pinM n w).S) (t0 q : Nat) (l : List Nat) (ws : List Nat) (cn : Cn) (t : Nat) : stepQ (M := pinM n w) s (.inl (.take t0 q l)) ws cn t = ⟨s, .inl (if l.length + 1 = w then .leave t0 q (l ++ [ws.getD (wdA n w q l.length) 0]) else .take t0 q (l ++ [ws.getD (wdA n w q l.length) 0])), ws, { cn with r := cn.r + 1 }, none⟩ := rfl
theorem pin_leave (s : (pinM n w).S) (t0 q : Nat) (l : List Nat) (ws : List Nat) (cn : Cn) (t : Nat) : stepQ (M := pinM n w) s (.inl (.leave t0 q l)) ws cn t = ⟨s, .inl (.rdone t0), ws.set (1 + q) ((ws.getD (1 + q) 0 + 1) % 18446744073709551616), { cn with a := cn.a + 1 }, some ⟨0, 0, l⟩⟩ := rfl
theorem inB_fill (p q a j : Nat) : inB p (.inl (.fill a q j)) = false := rfl
/-- what pub makes of the cell -/
theorem pub_cell {c q E : Nat} (hc : c ≤ 16) (hq : q ≤ 16) (hE : E < 4294967296) : (c * 4294967296 + E + (q + 18446744073709551616 - c) * 4294967296 % 18446744073709551616) % 18446744073709551616 = q * 4294967296 + E := by omega
theorem low_cell {q E : Nat} (hE : E < 4294967296) : (q * 4294967296 + E) % 4294967296 = E := by omega
theorem high_cell {q E : Nat} (hE : E < 4294967296) : (q * 4294967296 + E) / 4294967296 = q := by omega
theorem loE_lt (ws : List Nat) : loE ws < 4294967296 := Nat.mod_lt _ (by decide)
theorem loE_set {ws : List Nat} {a y : Nat} (h : a ≠ 0) : loE (ws.set a y) = loE ws := by unfold loE; rw [gD_ne (fun e => h e.symm)]
theorem pinF_step {T : St (pinM n w)} (hn : 1 ≤ n ∧ n ≤ 16) (hw : 1 ≤ w) (h : PinF n w cs T) (hcn : T.cn.a < 4294967295) (ht : 0 < T.ticks) {i : Nat} {p : Int} {e : Nat} {v : Ev (pinM n w)} (hc : T.cur p = some e) (hv : T.evs[e]? = some v) (hr0 : v.resp = 0) : PinF n w cs (T.step i p e v) := by
  have hO := h.ev e v hv hr0
  have hE := loE_lt T.ws
  have hEa := h.cnt
  have hcur := h.cur
  -- another operation of thread 0 that writes is none
  have alone : ∀ (x : CallV), cs[v.i]? = some x → x.t = 0 → ∀ (f : Nat) (u : Ev (pinM n w)) (y : CallV), f ≠ e → T.evs[f]? = some u → u.resp = 0 → cs[u.i]? = some y → y.t = 0 → False := fun x hx h0 f u y hfe hu hur hy hy0 =>
    hfe (h.pend.alone hu hv hur hr0 (q := 0) (by rw [thr_get hy, hy0]) (by rw [thr_get hx, h0]))
  cases hq : v.q with
  | inr er =>
    rw [hq] at hO
    obtain ⟨hs0, x, hx, hnr⟩ := hO
    exact pinF_build (s' := T.s) (ws' := T.ws) (cn' := T.cn) (q' := .inr er) (an := some ⟨er, 0, []⟩) h ht hc hv hr0 (by rw [hq]; rfl) (by rw [hq]; rfl) (by rw [hq]; rfl) (by rw [hq]; rfl) (by rw [hq]; rfl) h.len h.elen h.cur h.cell h.tot h.cnt (insN T.evs) (fun q => by rw [hq, if_neg (show ¬ ((some (⟨er, 0, []⟩ : Ans)) = none ∧ inB q (.inr er) = true) from fun hh => by cases hh.1)]; rfl) h.bal h.lim h.buf (fun hh => by cases hh)
      (fun a _ => ⟨by omega, fun _ _ _ => by omega, fun y hy ho hk => by rw [hx] at hy; cases hy; exact absurd ⟨ho, hk⟩ hnr⟩) (fun f u _ hu hur => h.ev f u hu hur)
  | inl q0 =>
    rw [hq] at hO
    match q0, hq, hO with
    | .wdone, hq, hO => exact hO.elim
    | .rdone t0, hq, hO => exact hO.elim
    | .look a q, hq, hO =>
      obtain ⟨x, h1, h2, h3, h4, h5, h6, h7, q', h8, h9, h10, h11⟩ := hO
      have e0 := pin_look (n := n) (w := w) T.s a q T.ws T.cn T.ticks
      rw [← hq] at e0
      have hqn : q ≤ n := by omega
      have hb := h.bal q hqn
      rw [if_neg h6, Nat.add_zero] at hb
      refine pinF_build (s' := T.s) (ws' := T.ws) (cn' := { T.cn with r := T.cn.r + 1 }) (q' := _) (an := none) h ht hc hv hr0 (by rw [e0]) (by rw [e0]) (by rw [e0]) (by rw [e0]) (by rw [e0]) h.len h.elen h.cur h.cell h.tot h.cnt (insN T.evs) (fun p => ?_) h.bal h.lim h.buf (fun _ => ?_) (fun _ hh => by cases hh) (fun f u _ hu hur => h.ev f u hu hur)
      · rw [hq]
        have e2 : inB p (.inl (if T.ws.getD (1 + q) 0 = T.s.ent.getD q 0 then .fill a q 0 else .look a (frm T.s.cur (q + 1)))) = false := by split <;> rfl
        rw [e2]; rfl
      · by_cases hfree : T.ws.getD (1 + q) 0 = T.s.ent.getD q 0
        · rw [if_pos hfree]
          refine ⟨x, h1, h2, h3, h4, h5, h6, hqn, by omega, by omega, ?_, fun c hc => absurd hc (Nat.not_lt_zero _)⟩
          split at h7 <;> omega
        · rw [if_neg hfree]
          have hqq : q' ≠ q := fun ee => by subst ee; omega
          refine ⟨x, h1, h2, h3, h4, h5, frm_ne _ _, ?_, q', ?_, h9, h10, h11⟩
          · unfold frm
            split at h7 <;> split <;> (try split) <;> omega
          · unfold frm
            split <;> omega
    | .fill a q j, hq, hO =>
      obtain ⟨x, h1, h2, h3, h4, h5, h6, h7, h8, h9, h10, h11⟩ := hO
      have e0 := pin_fill (n := n) (w := w) T.s a q j T.ws T.cn T.ticks
      rw [← hq] at e0
      have hbig := wd_big (n := n) (w := w) q j
      have hlt := wd_lt (n := n) (w := w) h7 h9
      have hl0 : loE (T.ws.set (wdA n w q j) ((a + j) % 18446744073709551616)) = loE T.ws := loE_set (by omega)
      have hread : ∀ p c, p ≠ q → c < w → (T.ws.set (wdA n w q j) ((a + j) % 18446744073709551616)).getD (wdA n w p c) 0 = T.ws.getD (wdA n w p c) 0 := fun p c hp hc => gD_ne (wd_ne hc h9 hp)
      refine pinF_build (s' := T.s) (ws' := T.ws.set (wdA n w q j) ((a + j) % 18446744073709551616)) (cn' := { T.cn with w := T.cn.w + 1 }) (q' := _) (an := none) h ht hc hv hr0 (by rw [e0]) (by rw [e0]) (by rw [e0]) (by rw [e0]) (by rw [e0]) (by rw [List.length_set]; exact h.len) h.elen h.cur (by rw [gD_ne (by omega), hl0]; exact h.cell) (by rw [hl0]; exact h.tot) (by rw [hl0]; exact h.cnt) (insN T.evs) (fun p => ?_) (fun p hp => by rw [hl0, gD_ne (by omega)]; exact h.bal p hp) (fun p hp => by rw [hl0]; exact h.lim p hp) (fun p hp hor => ?_) (fun _ => ?_) (fun _ hh => by cases hh) (fun f u hfe hu hur => ?_)
      · rw [hq]
        have e2 : inB p (.inl (if j + 1 = w then .pub a q else .fill a q (j + 1))) = false := by split <;> rfl
        rw [e2]; rfl
      · obtain ⟨V, hV, hVc⟩ := h.buf p hp hor
        have hpq : p ≠ q := fun ee => by subst ee; rcases hor with hh | hh <;> omega
        exact ⟨V, hV, fun c hc => by rw [hread p c hpq hc]; exact hVc c hc⟩
      · have hall : ∀ c, c < j + 1 → (T.ws.set (wdA n w q j) ((a + j) % 18446744073709551616)).getD (wdA n w q c) 0 = (a + c) % 18446744073709551616 := fun c hc => by
          by_cases hcj : c = j
          · subst hcj; exact gD_eq (by rw [h.len]; exact hlt)
          · have hne : wdA n w q c ≠ wdA n w q j := by unfold wdA; omega
            rw [gD_ne hne]; exact h11 c (by omega)
        by_cases hjw : j + 1 = w
        · rw [if_pos hjw]
          exact ⟨x, h1, h2, h3, h4, h5, h6, h7, h8, by omega, fun c hc => hall c (by omega)⟩
        · rw [if_neg hjw]
          exact ⟨x, h1, h2, h3, h4, h5, h6, h7, h8, by omega, by omega, hall⟩
      · refine pinOp_mono (h.ev f u hu hur) (fun _ hh => hh) (fun p c hin hcw => ?_) (fun y hy hy0 _ _ p c _ => (alone x h1 h2 f u y hfe hu hur hy hy0).elim)
        refine hread p c (fun ee => ?_) hcw
        subst ee
        have hpos : 0 < insN T.evs p := List.countP_pos_iff.2 ⟨u, List.mem_of_getElem? hu, by unfold insE; rw [hur, hin]; rfl⟩
        omega
    | .pub a q, hq, hO =>
      obtain ⟨x, h1, h2, h3, h4, h5, h6, h7, h8, h9, h10⟩ := hO
      have e0 := pin_pub (n := n) (w := w) T.s a q T.ws T.cn T.ticks
      rw [← hq] at e0
      have hcell := h.cell
      have htot := h.tot
      have hlim := h.lim T.s.cur hcur
      rw [if_pos rfl] at hlim
      have hws : (T.ws.getD 0 0 + (q + 18446744073709551616 - T.s.cur) * 4294967296 % 18446744073709551616) % 18446744073709551616 = q * 4294967296 + loE T.ws := by
        rw [hcell]; exact pub_cell (by omega) (by omega) hE
      have hmodE : T.ws.getD 0 0 % 4294967296 = loE T.ws := rfl
      have hpub : pinPub T.s q (T.ws.getD 0 0) = ⟨T.s.ent.set T.s.cur (T.s.ent.getD T.s.cur 0 + (loE T.ws - T.s.tot)), loE T.ws, q⟩ := by
        unfold pinPub
        rw [hmodE]
        have e1 : (T.s.ent.getD T.s.cur 0 + (loE T.ws + 18446744073709551616 - T.s.tot)) % 18446744073709551616 = T.s.ent.getD T.s.cur 0 + (loE T.ws - T.s.tot) := by omega
        rw [e1]
      rw [hws, hpub] at e0
      have h0l : 0 < T.ws.length := by rw [h.len]; omega
      have g0 : (T.ws.set 0 (q * 4294967296 + loE T.ws)).getD 0 0 = q * 4294967296 + loE T.ws := gD_eq h0l
      have hl0 : loE (T.ws.set 0 (q * 4294967296 + loE T.ws)) = loE T.ws := by
        show (T.ws.set 0 (q * 4294967296 + loE T.ws)).getD 0 0 % 4294967296 = _
        rw [g0]; exact low_cell hE
      have hread : ∀ b, b ≠ 0 → (T.ws.set 0 (q * 4294967296 + loE T.ws)).getD b 0 = T.ws.getD b 0 := fun b hb => gD_ne hb
      have hent : ∀ r, (T.s.ent.set T.s.cur (T.s.ent.getD T.s.cur 0 + (loE T.ws - T.s.tot))).getD r 0 = T.s.ent.getD r 0 + (if r = T.s.cur then loE T.ws - T.s.tot else 0) := fun r => by
        by_cases hr : r = T.s.cur
        · subst hr
          rw [if_pos rfl, gD_eq (by rw [h.elen]; omega)]
        · rw [if_neg hr, gD_ne hr, Nat.add_zero]
      refine pinF_build (q' := .inl .wdone) (an := some ⟨0, 0, []⟩) h ht hc hv hr0 (congrArg Out.s e0) (congrArg Out.ws e0) (congrArg Out.cn e0) (congrArg Out.q e0) (congrArg Out.ans e0) (by rw [List.length_set]; exact h.len) (by show (T.s.ent.set _ _).length = _; rw [List.length_set]; exact h.elen) h7 (by rw [g0, hl0]) (by rw [hl0]; exact Nat.le_refl _) (by rw [hl0]; show _ ≤ T.cn.a + 1; omega) (insN T.evs) (fun p => ?_) (fun p hp => ?_) (fun p hp => ?_) (fun p hp hor => ?_) (fun hh => by cases hh) (fun _ _ => ⟨by omega, fun y hy hk => ?_, fun y hy _ hk => ?_⟩) (fun f u hfe hu hur => ?_)
      · rw [hq, if_neg (show ¬ ((some (⟨0, 0, []⟩ : Ans)) = none ∧ inB p (.inl .wdone) = true) from fun hh => by cases hh.1)]; rfl
      · show (T.s.ent.set _ _).getD p 0 + (if p = q then loE (T.ws.set 0 _) - loE T.ws else 0) = _
        rw [hl0, Nat.sub_self, hent, hread (1 + p) (by omega), ite_self, Nat.add_zero]
        exact h.bal p hp
      · show (T.s.ent.set _ _).getD p 0 + (if p = q then loE (T.ws.set 0 _) - loE T.ws else 0) ≤ _
        rw [hl0, Nat.sub_self, hent, ite_self, Nat.add_zero]
        exact h.lim p hp
      · have hrd : ∀ c, c < w → (T.ws.set 0 (q * 4294967296 + loE T.ws)).getD (wdA n w p c) 0 = T.ws.getD (wdA n w p c) 0 := fun c _ => hread _ (by have := wd_big (n := n) (w := w) p c; omega)
        by_cases hpq : p = q
        · subst hpq
          exact ⟨fun c => (a + c) % 18446744073709551616, .inr ⟨v.i, x, h1, h2, h3, h4, fun c => by rw [h5]⟩, fun c hc => by rw [hrd c hc]; exact h10 c hc⟩
        · obtain ⟨V, hV, hVc⟩ := h.buf p hp (.inr (hor.elim (fun hh => absurd hh hpq) id))
          exact ⟨V, hV, fun c hc => by rw [hrd c hc]; exact hVc c hc⟩
      · rw [h1] at hy; cases hy; omega
      · rw [h1] at hy; cases hy; omega
      · have o2 := h.ev f u hu hur
        have hrd : ∀ p c, (T.ws.set 0 (q * 4294967296 + loE T.ws)).getD (wdA n w p c) 0 = T.ws.getD (wdA n w p c) 0 := fun p c => hread _ (by have := wd_big (n := n) (w := w) p c; omega)
        cases hqu : u.q with
        | inr er => rw [hqu] at o2; exact o2
        | inl q2 =>
          rw [hqu] at o2
          match q2, o2 with
          | .look a2 p2, o2 => obtain ⟨y, y1, y2, _⟩ := o2; exact (alone x h1 h2 f u y hfe hu hur y1 y2).elim
          | .fill a2 p2 j2, o2 => obtain ⟨y, y1, y2, _⟩ := o2; exact (alone x h1 h2 f u y hfe hu hur y1 y2).elim
          | .pub a2 p2, o2 => obtain ⟨y, y1, y2, _⟩ := o2; exact (alone x h1 h2 f u y hfe hu hur y1 y2).elim
          | .enter, o2 => exact o2
          | .take t0 p2 l, o2 =>
            obtain ⟨y, y1, y2, y3, y4, y5, y6, y7⟩ := o2
            exact ⟨y, y1, y2, y3, y4, y5, y6, fun c hc => by rw [hrd]; exact y7 c hc⟩
          | .leave t0 p2 l, o2 =>
            obtain ⟨y, y1, y2, y3, y4, y5, y6, y7⟩ := o2
            exact ⟨y, y1, y2, y3, y4, y5, y6, fun c hc => by rw [hrd]; exact y7 c hc⟩
          | .wdone, o2 => exact o2.elim
          | .rdone t0, o2 => exact o2.elim
    | .enter, hq, hO =>
      obtain ⟨x, h1, h2, h3, h4⟩ := hO
      have e0 := pin_enter (n := n) (w := w) T.s T.ws T.cn T.ticks
      rw [← hq] at e0
      have hcell := h.cell
      have htot := h.tot
      have hhi : T.ws.getD 0 0 / 4294967296 = T.s.cur := by rw [hcell]; exact high_cell hE
      have hws : (T.ws.getD 0 0 + 1) % 18446744073709551616 = T.s.cur * 4294967296 + (loE T.ws + 1) := by rw [hcell]; omega
      rw [hws, hhi] at e0
      have h0l : 0 < T.ws.length := by rw [h.len]; omega
      have g0 : (T.ws.set 0 (T.s.cur * 4294967296 + (loE T.ws + 1))).getD 0 0 = T.s.cur * 4294967296 + (loE T.ws + 1) := gD_eq h0l
      have hl0 : loE (T.ws.set 0 (T.s.cur * 4294967296 + (loE T.ws + 1))) = loE T.ws + 1 := by
        show (T.ws.set 0 _).getD 0 0 % 4294967296 = _
        rw [g0]; exact low_cell (by omega)
      have hread : ∀ b, b ≠ 0 → (T.ws.set 0 (T.s.cur * 4294967296 + (loE T.ws + 1))).getD b 0 = T.ws.getD b 0 := fun b hb => gD_ne hb
      have hrd : ∀ p c, (T.ws.set 0 (T.s.cur * 4294967296 + (loE T.ws + 1))).getD (wdA n w p c) 0 = T.ws.getD (wdA n w p c) 0 := fun p c => hread _ (by have := wd_big (n := n) (w := w) p c; omega)
      have hz : ∀ p, p ≠ T.s.cur → insN T.evs p + (if p = T.s.cur then 1 else 0) = insN T.evs p := fun p hp => by rw [if_neg hp, Nat.add_zero]
      refine pinF_build (q' := .inl (.take T.ticks T.s.cur [])) (an := none) h ht hc hv hr0 (congrArg Out.s e0) (congrArg Out.ws e0) (congrArg Out.cn e0) (congrArg Out.q e0) (congrArg Out.ans e0) (by rw [List.length_set]; exact h.len) h.elen h.cur (by rw [g0, hl0]) (by rw [hl0]; show T.s.tot ≤ loE T.ws + 1; omega) (by rw [hl0]; show _ ≤ T.cn.a + 1; omega) (fun p => insN T.evs p + (if p = T.s.cur then 1 else 0)) (fun p => ?_) (fun p hp => ?_) (fun p hp => ?_) (fun p hp hor => ?_) (fun _ => ?_) (fun _ hh => by cases hh) (fun f u hfe hu hur => ?_)
      · rw [hq]
        show insN T.evs p + (if p = T.s.cur then 1 else 0) + 0 = insN T.evs p + (if (none : Option Ans) = none ∧ decide (T.s.cur = p) = true then 1 else 0)
        by_cases hpc : p = T.s.cur
        · rw [if_pos hpc, if_pos ⟨rfl, decide_eq_true hpc.symm⟩]
        · rw [if_neg hpc, if_neg (fun hh => hpc (of_decide_eq_true hh.2).symm)]
      · rw [hl0, hread (1 + p) (by omega)]
        have hb := h.bal p hp
        show T.s.ent.getD p 0 + (if p = T.s.cur then loE T.ws + 1 - T.s.tot else 0) = T.ws.getD (1 + p) 0 + (insN T.evs p + (if p = T.s.cur then 1 else 0))
        by_cases hpc : p = T.s.cur
        · rw [if_pos hpc] at hb; rw [if_pos hpc, if_pos hpc]; omega
        · rw [if_neg hpc] at hb; rw [if_neg hpc, if_neg hpc]; omega
      · rw [hl0]
        have hb := h.lim p hp
        show T.s.ent.getD p 0 + (if p = T.s.cur then loE T.ws + 1 - T.s.tot else 0) ≤ loE T.ws + 1
        by_cases hpc : p = T.s.cur
        · rw [if_pos hpc] at hb ⊢; omega
        · rw [if_neg hpc] at hb ⊢; omega
      · obtain ⟨V, hV, hVc⟩ := h.buf p hp (by
          by_cases hpc : p = T.s.cur
          · exact .inl hpc
          · exact .inr (hor.elim (fun hh => absurd hh hpc) (fun hh => by simp only [hz p hpc] at hh; exact hh)))
        exact ⟨V, hV, fun c hc => by rw [hrd]; exact hVc c hc⟩
      · exact ⟨x, h1, h2, h3, hcur, by simp; omega, by rw [h4]; rfl, fun c hc => absurd hc (by simp)⟩
      · have o2 := h.ev f u hu hur
        cases hqu : u.q with
        | inr er => rw [hqu] at o2; exact o2
        | inl q2 =>
          rw [hqu] at o2
          match q2, o2 with
          | .look a2 p2, o2 =>
            obtain ⟨y, y1, y2, y3, y4, y5, y6, y7, q', y8, y9, y10, y11⟩ := o2
            exact ⟨y, y1, y2, y3, y4, y5, y6, y7, q', y8, y9, y10, by simp only [hz q' y10]; exact y11⟩
          | .fill a2 p2 j2, o2 =>
            obtain ⟨y, y1, y2, y3, y4, y5, y6, y7, y8, y9, y10, y11⟩ := o2
            exact ⟨y, y1, y2, y3, y4, y5, y6, y7, by simp only [hz p2 y6]; exact y8, y9, y10, fun c hc => by rw [hrd]; exact y11 c hc⟩
          | .pub a2 p2, o2 =>
            obtain ⟨y, y1, y2, y3, y4, y5, y6, y7, y8, y9, y10⟩ := o2
            exact ⟨y, y1, y2, y3, y4, y5, y6, y7, by simp only [hz p2 y6]; exact y8, y9, fun c hc => by rw [hrd]; exact y10 c hc⟩
          | .enter, o2 => exact o2
          | .take t0 p2 l, o2 =>
            obtain ⟨y, y1, y2, y3, y4, y5, y6, y7⟩ := o2
            exact ⟨y, y1, y2, y3, y4, y5, y6, fun c hc => by rw [hrd]; exact y7 c hc⟩
          | .leave t0 p2 l, o2 =>
            obtain ⟨y, y1, y2, y3, y4, y5, y6, y7⟩ := o2
            exact ⟨y, y1, y2, y3, y4, y5, y6, fun c hc => by rw [hrd]; exact y7 c hc⟩
          | .wdone, o2 => exact o2.elim
          | .rdone t0, o2 => exact o2.elim
    | .take t0 q l, hq, hO =>
      obtain ⟨x, h1, h2, h3, h4, h5, h6, h7⟩ := hO
      have e0 := pin_take (n := n) (w := w) T.s t0 q l T.ws T.cn T.ticks
      rw [← hq] at e0
      refine pinF_build (s' := T.s) (ws' := T.ws) (cn' := { T.cn with r := T.cn.r + 1 }) (q' := _) (an := none) h ht hc hv hr0 (by rw [e0]) (by rw [e0]) (by rw [e0]) (by rw [e0]) (by rw [e0]) h.len h.elen h.cur h.cell h.tot h.cnt (insN T.evs) (fun p => ?_) h.bal h.lim h.buf (fun _ => ?_) (fun _ hh => by cases hh) (fun f u _ hu hur => h.ev f u hu hur)
      · rw [hq]
        have e2 : inB p (.inl (if l.length + 1 = w then .leave t0 q (l ++ [T.ws.getD (wdA n w q l.length) 0]) else .take t0 q (l ++ [T.ws.getD (wdA n w q l.length) 0]))) = decide (q = p) := by split <;> rfl
        rw [e2]
        show insN T.evs p + (if decide (q = p) = true then 1 else 0) = _
        by_cases hqp : q = p
        · rw [decide_eq_true hqp, if_pos rfl, if_pos ⟨rfl, rfl⟩]
        · rw [decide_eq_false hqp, if_neg (by decide), if_neg (fun hh => by cases hh.2)]
      · have hall : ∀ c, c < (l ++ [T.ws.getD (wdA n w q l.length) 0]).length → (l ++ [T.ws.getD (wdA n w q l.length) 0])[c]? = some (T.ws.getD (wdA n w q c) 0) := fun c hc => by
          rw [List.length_append] at hc
          by_cases hcl : c < l.length
          · rw [List.getElem?_append_left hcl]; exact h7 c hcl
          · have hce : c = l.length := by simp at hc; omega
            subst hce
            rw [List.getElem?_append_right (Nat.le_refl _), Nat.sub_self]; rfl
        by_cases hlw : l.length + 1 = w
        · rw [if_pos hlw]
          exact ⟨x, h1, h2, h3, h4, by simp; omega, by simp; omega, hall⟩
        · rw [if_neg hlw]
          exact ⟨x, h1, h2, h3, h4, by simp; omega, by simp; omega, hall⟩
    | .leave t0 q l, hq, hO =>
      obtain ⟨x, h1, h2, h3, h4, h5, h6, h7⟩ := hO
      have e0 := pin_leave (n := n) (w := w) T.s t0 q l T.ws T.cn T.ticks
      rw [← hq] at e0
      have hpos : 0 < insN T.evs q := List.countP_pos_iff.2 ⟨v, List.mem_of_getElem? hv, by unfold insE; rw [hr0, hq]; simp [inB]⟩
      have hbq := h.bal q h4
      have hlq := h.lim q h4
      have hws : (T.ws.getD (1 + q) 0 + 1) % 18446744073709551616 = T.ws.getD (1 + q) 0 + 1 := by omega
      rw [hws] at e0
      have hql : 1 + q < T.ws.length := by
        rw [h.len]
        have : n + 1 ≤ (n + 1) * (1 + w) := Nat.le_mul_of_pos_right _ (by omega)
        omega
      have hl0 : loE (T.ws.set (1 + q) (T.ws.getD (1 + q) 0 + 1)) = loE T.ws := loE_set (by omega)
      have hrd : ∀ p c, (T.ws.set (1 + q) (T.ws.getD (1 + q) 0 + 1)).getD (wdA n w p c) 0 = T.ws.getD (wdA n w p c) 0 := fun p c => gD_ne (by have := wd_big (n := n) (w := w) p c; omega)
      obtain ⟨V, hV, hVc⟩ := h.buf q h4 (.inr hpos)
      refine pinF_build (q' := .inl (.rdone t0)) (an := some ⟨0, 0, l⟩) h ht hc hv hr0 (congrArg Out.s e0) (congrArg Out.ws e0) (congrArg Out.cn e0) (congrArg Out.q e0) (congrArg Out.ans e0) (by rw [List.length_set]; exact h.len) h.elen h.cur (by rw [gD_ne (by omega), hl0]; exact h.cell) (by rw [hl0]; exact h.tot) (by rw [hl0]; show _ ≤ T.cn.a + 1; omega) (fun p => insN T.evs p - (if p = q then 1 else 0)) (fun p => ?_) (fun p hp => ?_) (fun p hp => by rw [hl0]; exact h.lim p hp) (fun p hp hor => ?_) (fun hh => by cases hh) (fun an han => ?_) (fun f u hfe hu hur => ?_)
      · rw [hq]
        rw [if_neg (show ¬ ((some (⟨0, 0, l⟩ : Ans)) = none ∧ inB p (.inl (.rdone t0)) = true) from fun hh => by cases hh.1)]
        show insN T.evs p - (if p = q then 1 else 0) + (if decide (q = p) = true then 1 else 0) = insN T.evs p + 0
        by_cases hpq : p = q
        · subst hpq; simp; omega
        · have hqp : ¬ q = p := fun hh => hpq hh.symm
          simp [hpq, hqp]
      · rw [hl0]
        have hb := h.bal p hp
        obtain ⟨z, hz⟩ : ∃ z, T.s.ent.getD p 0 + (if p = T.s.cur then loE T.ws - T.s.tot else 0) = z := ⟨_, rfl⟩
        show T.s.ent.getD p 0 + (if p = T.s.cur then loE T.ws - T.s.tot else 0) = _ + (insN T.evs p - (if p = q then 1 else 0))
        rw [hz] at hb ⊢
        by_cases hpq : p = q
        · subst hpq
          rw [gD_eq hql, if_pos rfl]; omega
        · rw [gD_ne (show 1 + p ≠ 1 + q by omega), if_neg hpq]; omega
      · obtain ⟨V2, hV2, hVc2⟩ := h.buf p hp (hor.imp id (fun hh => by
          have hh' : 0 < insN T.evs p - (if p = q then 1 else 0) := hh
          omega))
        exact ⟨V2, hV2, fun c hc => by rw [hrd]; exact hVc2 c hc⟩
      · cases han
        refine ⟨by omega, fun _ _ _ => by omega, fun y hy _ _ => ⟨h5, V, hV, fun c hc => ?_⟩⟩
        rw [h7 c (by omega), hVc c hc]
      · refine pinOp_mono (h.ev f u hu hur) (fun p hh => ?_) (fun p c _ _ => hrd p c) (fun _ _ _ _ _ p c _ => hrd p c)
        show insN T.evs p - (if p = q then 1 else 0) = 0
        omega
end
end
section
open Go.RowKit
set_option linter.unusedVariables false
structure PinOk (n w : Nat) (cs : List CallV) (evs : List EvR) : Prop where
  call : ∀ x ∈ evs, x.i < cs.length ∧ x.steps ≤ n + w + 1
  rd : ∀ x ∈ evs, ∀ y, cs[x.i]? = some y → y.k = 1 → x.steps ≤ w + 2
  good : ∀ x ∈ evs, ∀ y, cs[x.i]? = some y → y.o = 0 → y.k = 1 → ¬ x.resp = 0 → GoodL cs w x.ans.list
section
variable {n w : Nat} {cs : List CallV}
theorem run_a_le (x : Acc) (l : List Nat) (c : Cn) : c.a ≤ (x.run l c).2.2.a := by
  cases x with
  | rd a => exact Nat.le_refl _
  | wr a v => exact Nat.le_refl _
  | sw a x y => simp only [Acc.run]; split <;> exact Nat.le_refl _
  | ad a d => exact Nat.le_succ _
def PinI (n w : Nat) (cs : List CallV) (st : St (pinM n w)) : Prop := st.cn.a < 4294967295 → PinF n w cs st
theorem pinI_idle {st : St (pinM n w)} (h : PinI n w cs st) : PinI n w cs { st with idle := st.idle + 1 } := fun hc => pinF_idle (h hc)
theorem pinI_first : PinI n w cs (stM (M := pinM n w) cs (List.replicate (1 + (n + 1) * (1 + w)) 0) ⟨List.replicate (n + 1) 0, 0, 0⟩) := fun _ => pinF_first
theorem pinI_turn (hn : 1 ≤ n) (hth : ∀ x ∈ cs, 0 ≤ x.t ∧ x.t < n) {st : St (pinM n w)} (h : PinI n w cs st) {i : Nat} {x : CallV} {p : Int} (hno : nowOf (thr cs) st.fin p = some i) (hx : cs[i]? = some x) : PinI n w cs (st.turn i x p) := fun hc => by
  have e : (st.turn i x p).cn = st.cn := by unfold St.turn; split <;> rfl
  rw [e] at hc
  exact pinF_turn hn hth (h hc) hno hx
theorem pinI_step (hn : 1 ≤ n ∧ n ≤ 16) (hw : 1 ≤ w) {st : St (pinM n w)} (h : PinI n w cs st) (ht : 0 < st.ticks) {i : Nat} {p : Int} {e : Nat} {v : Ev (pinM n w)} (hc : st.cur p = some e) (hv : st.evs[e]? = some v) (hr0 : v.resp = 0) : PinI n w cs (st.step i p e v) := fun hcn => by
  have e1 : (st.step i p e v).cn = (stepQ st.s v.q st.ws st.cn st.ticks).cn := by unfold St.step; split <;> rfl
  have e2 : st.cn.a ≤ (stepQ st.s v.q st.ws st.cn st.ticks).cn.a := by
    unfold stepQ
    cases v.q with
    | inl q => exact run_a_le _ _ _
    | inr e => exact Nat.le_refl _
  rw [e1] at hcn
  exact pinF_step hn hw (h (by omega)) (by omega) ht hc hv hr0
theorem pinI_end (hn : 1 ≤ n ∧ n ≤ 16) (hw : 1 ≤ w) (hth : ∀ x ∈ cs, 0 ≤ x.t ∧ x.t < n) (picks : List Int) : PinI n w cs (endM (M := pinM n w) cs (List.replicate (1 + (n + 1) * (1 + w)) 0) ⟨List.replicate (n + 1) 0, 0, 0⟩ picks) :=
  endM_keeps (R := PinI n w cs) _ _ pinI_first (fun st h => pinI_idle h) (fun st i x p h _ hn' hx => pinI_turn hn.1 hth h hn' hx) (fun st i p e v h _ _ hc hv hr _ ht => pinI_step hn hw h ht hc hv hr) picks
theorem pinOk_of (hn : 1 ≤ n) {st : St (pinM n w)} (hR : RowI cs st) (h : PinF n w cs st) : PinOk n w cs (repOf st).evs := by
  have hmem : ∀ x ∈ (repOf st).evs, ∃ e v, st.evs[e]? = some v ∧ x = evR st.s v := fun x hx => by
    obtain ⟨v, hv, rfl⟩ := List.mem_map.1 hx
    obtain ⟨e, he⟩ := List.mem_iff_getElem?.1 hv
    exact ⟨e, v, he, rfl⟩
  have hpend : ∀ (e : Nat) (v : Ev (pinM n w)), st.evs[e]? = some v → v.resp = 0 → v.steps ≤ n + w + 1 ∧ ∀ y, cs[v.i]? = some y → y.k = 1 → v.steps ≤ w + 2 := fun e v hv hr => by
    have hO := h.ev e v hv hr
    cases hq : v.q with
    | inr er => rw [hq] at hO; obtain ⟨h0, _⟩ := hO; exact ⟨by omega, fun _ _ _ => by omega⟩
    | inl q =>
      rw [hq] at hO
      match q, hO with
      | .look a q, hO =>
        obtain ⟨x, h1, h2, h3, h4, h5, h6, h7, q', h8, h9, _⟩ := hO
        exact ⟨by omega, fun y hy hk => by rw [h1] at hy; cases hy; omega⟩
      | .fill a q j, hO =>
        obtain ⟨x, h1, h2, h3, h4, h5, h6, h7, h8, h9, h10, _⟩ := hO
        exact ⟨by omega, fun y hy hk => by rw [h1] at hy; cases hy; omega⟩
      | .pub a q, hO =>
        obtain ⟨x, h1, h2, h3, h4, h5, h6, h7, h8, h9, _⟩ := hO
        exact ⟨by omega, fun y hy hk => by rw [h1] at hy; cases hy; omega⟩
      | .enter, hO => obtain ⟨x, h1, h2, h3, h4⟩ := hO; exact ⟨by omega, fun _ _ _ => by omega⟩
      | .take t0 q l, hO => obtain ⟨x, h1, h2, h3, h4, h5, h6, _⟩ := hO; exact ⟨by omega, fun _ _ _ => by omega⟩
      | .leave t0 q l, hO => obtain ⟨x, h1, h2, h3, h4, h5, h6, _⟩ := hO; exact ⟨by omega, fun _ _ _ => by omega⟩
      | .wdone, hO => exact hO.elim
      | .rdone t0, hO => exact hO.elim
  refine ⟨fun x hx => ?_, fun x hx y hy hk => ?_, fun x hx y hy ho hk hr => ?_⟩
  · obtain ⟨e, v, hv, rfl⟩ := hmem x hx
    refine ⟨(hR.call v (List.mem_of_getElem? hv)).1, ?_⟩
    by_cases hr : v.resp = 0
    · exact (hpend e v hv hr).1
    · exact (h.done e v hv hr).steps
  · obtain ⟨e, v, hv, rfl⟩ := hmem x hx
    by_cases hr : v.resp = 0
    · exact (hpend e v hv hr).2 y hy hk
    · exact (h.done e v hv hr).rd y hy hk
  · obtain ⟨e, v, hv, rfl⟩ := hmem x hx
    exact (h.done e v hv hr).good y hy ho hk
/-- what is good, told by its first number -/
theorem goodL_told {l : List Nat} (hw : 1 ≤ w) (hca : ∀ x ∈ cs, x.a < 18446744073709551616) (h : GoodL cs w l) : l.length = w ∧ ((∀ c, c < w → l[c]? = some 0) ∨ ∃ (k : Nat) (x : CallV), cs[k]? = some x ∧ x.t = 0 ∧ x.o = 0 ∧ x.k = 0 ∧ l[0]? = some x.a ∧ ∀ c, c < w → l[c]? = some ((x.a + c) % 18446744073709551616)) := by
  obtain ⟨h1, V, hV, hc⟩ := h
  refine ⟨h1, hV.imp (fun hz c hc' => by rw [hc c hc', hz c]) (fun ⟨k, x, hx, h2, h3, h4, h5⟩ => ⟨k, x, hx, h2, h3, h4, ?_, fun c hc' => by rw [hc c hc', h5 c]⟩)⟩
  have := hca x (List.mem_of_getElem? hx)
  rw [hc 0 (by omega), h5 0, Nat.add_zero, Nat.mod_eq_of_lt this]
end
end
section
open Go.RowKit
set_option linter.unusedVariables false
def tkOf : PinQ ⊕ Nat → Option Nat
  | .inl (.take t0 _ _) => some t0
  | .inl (.leave t0 _ _) => some t0
  | .inl (.rdone t0) => some t0
  | _ => none
section
variable {n w : Nat} {cs : List CallV}
def PinT (st : St (pinM n w)) : Prop := ∀ (e : Nat) (v : Ev (pinM n w)), st.evs[e]? = some v → v.inv ≤ st.ticks ∧ ∀ t0, tkOf v.q = some t0 → v.inv ≤ t0 ∧ t0 ≤ st.ticks
theorem tk_step (s : (pinM n w).S) (q : PinQ ⊕ Nat) (ws : List Nat) (cn : Cn) (t t0 : Nat) (h : tkOf (stepQ (M := pinM n w) s q ws cn t).q = some t0) : tkOf q = some t0 ∨ t0 = t := by
  cases q with
  | inr e => exact .inl h
  | inl q =>
    rw [pin_stepQ] at h
    simp only at h
    match q, h with
    | .look a q, h =>
      simp only [pinNext] at h
      split at h <;> cases h
    | .fill a q j, h =>
      simp only [pinNext] at h
      split at h <;> cases h
    | .pub a q, h => cases h
    | .enter, h =>
      have : t = t0 := Option.some.inj h
      exact .inr this.symm
    | .take t1 q l, h =>
      simp only [pinNext] at h
      split at h <;> exact .inl h
    | .leave t1 q l, h => exact .inl h
    | .wdone, h => cases h
    | .rdone t1, h => exact .inl h
theorem tk_new (s : (pinM n w).S) (x : CallV) : tkOf (invQ (M := pinM n w) s x).2 = none := by
  unfold invQ
  split
  · rfl
  · rw [pin_inv_eq]
    simp only
    split
    · split <;> rfl
    · split <;> rfl
theorem pinT_idle {st : St (pinM n w)} (h : PinT st) : PinT { st with idle := st.idle + 1 } := h
theorem pinT_first (ws : List Nat) (s : PinS) : PinT (stM (M := pinM n w) cs ws s) := fun e v hv => by simp [stM] at hv
theorem pinT_turn {st : St (pinM n w)} (h : PinT st) (i : Nat) (x : CallV) (p : Int) : PinT (st.turn i x p) := by
  have ht : (st.turn i x p).ticks = st.ticks + 1 := turn_ticks
  intro e v hv
  rw [ht]
  cases hc : st.cur p with
  | some e0 =>
    have htu : st.turn i x p = st.tick := by unfold St.turn; rw [hc]
    rw [htu] at hv
    obtain ⟨h1, h2⟩ := h e v hv
    exact ⟨by omega, fun t0 h3 => by have := h2 t0 h3; omega⟩
  | none =>
    have htu : st.turn i x p = st.tick.begin i x p := by unfold St.turn; rw [hc]
    rw [htu] at hv
    have hev : (st.tick.begin i x p).evs = st.evs ++ [⟨i, st.ticks + 1, 0, 0, ⟨0, 0, []⟩, [], (invQ st.s x).2⟩] := rfl
    rw [hev] at hv
    rcases snoc_get hv with ⟨_, rfl⟩ | ⟨_, hv'⟩
    · exact ⟨Nat.le_refl _, fun t0 h3 => by rw [show tkOf (⟨i, st.ticks + 1, 0, 0, ⟨0, 0, []⟩, [], (invQ st.s x).2⟩ : Ev (pinM n w)).q = none from tk_new st.s x] at h3; cases h3⟩
    · obtain ⟨h1, h2⟩ := h e v hv'
      exact ⟨by omega, fun t0 h3 => by have := h2 t0 h3; omega⟩
theorem midEv_q (T : St (pinM n w)) (v : Ev (pinM n w)) : (midEv T v).q = (stepQ T.s v.q T.ws T.cn T.ticks).q := by
  cases ha : (stepQ T.s v.q T.ws T.cn T.ticks).ans with
  | none => rw [midEv_more ha]; rfl
  | some a => rw [midEv_done ha]; rfl
theorem pinT_step {st : St (pinM n w)} (h : PinT st) {i : Nat} {p : Int} {e : Nat} {v : Ev (pinM n w)} (hv : st.evs[e]? = some v) : PinT (st.step i p e v) := by
  have hel := (List.getElem?_eq_some_iff.1 hv).1
  have ht : (st.step i p e v).ticks = st.ticks := step_ticks.1
  obtain ⟨m1, m2, m3, m4, m5⟩ := midEv_facts st v
  intro f u hu
  rw [ht]
  rw [step_evs] at hu
  rcases set_get hu hel with ⟨_, rfl⟩ | ⟨_, hu'⟩
  · obtain ⟨h1, h2⟩ := h e v hv
    refine ⟨by rw [m2]; exact h1, fun t0 h3 => ?_⟩
    rw [midEv_q] at h3
    rw [m2]
    rcases tk_step _ _ _ _ _ _ h3 with h4 | h4
    · exact h2 t0 h4
    · subst h4; exact ⟨h1, Nat.le_refl _⟩
  · exact h f u hu'
end
end
end Go.Proofs.Ytpoebpnmbogmnaa
