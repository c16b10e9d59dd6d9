/- The pool as a machine, plainly; what keeps its steps safe. -/
import Derived.Test.YtebfkkgemccbfaaQP
namespace Go.Proofs.Ytebfkkgemccbfaa
open Go.RowKit
set_option linter.unusedVariables false
inductive PoolQ where
  | look (p e : Nat)
  | mark (p e x : Nat)
  | rel (a v : Nat)
  | done
def poolAcc : PoolQ → Acc
  | .look p _ => .rd p
  | .mark p _ x => .wr p (x + 3)
  | .rel a v => .sw a (2 * v + 1) (2 * v)
  | .done => .rd 0
def poolNext (q : PoolQ) (r : Nat) : PoolQ × Option Ans :=
  match q with
  | .look p e => if r % 2 = 0 then (.mark p e r, none) else (.look (p + 1) e, if p + 1 = e then some ⟨6, 0, []⟩ else none)
  | .mark p e x => (.done, some ⟨0, p + 2 + 1024 * (x / 2 + 1), []⟩)
  | .rel a v => (.rel a v, some ⟨if r = 1 then 0 else 8, 0, []⟩)
  | .done => (.done, some ⟨0, 0, []⟩)
abbrev poolM (n k : Nat) : Mach where
  S := Unit
  Q := PoolQ
  m := 1
  inv := fun s x => (s, if x.k = 0 then .inl (.look (x.t.toNat * k) (x.t.toNat * k + k)) else if x.k = 1 then (if x.a % 1024 < 2 ∨ n * k + 2 ≤ x.a % 1024 ∨ 1099511627776 ≤ x.a / 1024 then .inr 10 else .inl (.rel (x.a % 1024 - 2) (x.a / 1024))) else .inr 9)
  acc := fun _ q => poolAcc q
  next := fun s q r _ => (s, (poolNext q r).1, (poolNext q r).2)
  key := fun _ _ => []
theorem pool_inv_eq (n k : Nat) (s : (poolM n k).S) (x : CallV) : (poolM n k).inv s x = (s, ((if x.k = 0 then Sum.inl (.look (x.t.toNat * k) (x.t.toNat * k + k)) else if x.k = 1 then (if x.a % 1024 < 2 ∨ n * k + 2 ≤ x.a % 1024 ∨ 1099511627776 ≤ x.a / 1024 then Sum.inr 10 else Sum.inl (.rel (x.a % 1024 - 2) (x.a / 1024))) else Sum.inr 9) : PoolQ ⊕ Nat)) := rfl
theorem div_area {t k p : Nat} (h1 : t * k ≤ p) (h2 : p < t * k + k) : p / k = t := by
  have hk : 0 < k := by omega
  rw [Nat.div_eq_iff hk]
  omega
/-- an operation that has not responded -/
def PoolOp (n k : Nat) (cs : List CallV) (ws : List Nat) (steps i : Nat) : PoolQ ⊕ Nat → Prop
  | .inl (.look p e) => ∃ x, cs[i]? = some x ∧ 0 ≤ x.t ∧ x.o = 0 ∧ x.k = 0 ∧ x.t.toNat < n ∧ e = x.t.toNat * k + k ∧ x.t.toNat * k ≤ p ∧ p < e ∧ steps + x.t.toNat * k = p
  | .inl (.mark p e y) => ∃ x, cs[i]? = some x ∧ 0 ≤ x.t ∧ x.o = 0 ∧ x.k = 0 ∧ x.t.toNat < n ∧ e = x.t.toNat * k + k ∧ x.t.toNat * k ≤ p ∧ p < e ∧ steps + x.t.toNat * k = p + 1 ∧ ws.getD p 0 = y ∧ y % 2 = 0
  | .inl (.rel a v) => ∃ x, cs[i]? = some x ∧ x.o = 0 ∧ x.k = 1 ∧ a < n * k ∧ x.a = a + 2 + 1024 * v ∧ v < 1099511627776 ∧ steps = 0
  | .inl .done => False
  | .inr e => steps = 0 ∧ e ≠ 0 ∧ e ≠ 6
structure PoolF (n k : Nat) (cs : List CallV) (st : St (poolM n k)) : Prop where
  len : st.ws.length = n * k
  wB : ∀ a, st.ws.getD a 0 ≤ 2 * st.cn.w + 1
  pend : PendI cs st
  steps : ∀ (e : Nat) (v : Ev (poolM n k)), st.evs[e]? = some v → v.steps ≤ k + 1
  ev : ∀ (e : Nat) (v : Ev (poolM n k)), st.evs[e]? = some v → v.resp = 0 → PoolOp n k cs st.ws v.steps v.i v.q
section
variable {n k : Nat} {cs : List CallV}
theorem poolF_idle {st : St (poolM n k)} (h : PoolF n k cs st) : PoolF n k cs { st with idle := st.idle + 1 } := ⟨h.len, h.wB, h.pend, h.steps, h.ev⟩
theorem getD_repl (m a : Nat) : (List.replicate m 0).getD a 0 = 0 := by
  rw [List.getD_eq_getElem?_getD, List.getElem?_replicate]
  split <;> rfl
theorem poolF_first : PoolF n k cs (stM (M := poolM n k) cs (List.replicate (n * k) 0) ()) :=
  ⟨by simp [stM], fun a => by show (List.replicate (n * k) 0).getD a 0 ≤ _; rw [getD_repl]; omega, fun f y q hy => by simp [stM] at hy, fun e v hv => by simp [stM] at hv, fun e v hv => by simp [stM] at hv⟩
theorem poolOp_new (hk : 1 ≤ k) (hth : ∀ x ∈ cs, 0 ≤ x.t ∧ x.t < n) (ws : List Nat) (s : (poolM n k).S) {i : Nat} {x : CallV} (hx : cs[i]? = some x) : PoolOp n k cs ws 0 i (invQ (M := poolM n k) s x).2 := by
  have hm : ((poolM n k).m : Int) = 1 := rfl
  have ht := hth x (List.mem_of_getElem? hx)
  unfold invQ
  by_cases ho : x.o < 0 ∨ 1 ≤ x.o
  · rw [if_pos (by rw [hm]; exact ho)]
    exact ⟨rfl, by omega, by omega⟩
  · rw [if_neg (by rw [hm]; exact ho), pool_inv_eq]
    by_cases k0 : x.k = 0
    · rw [if_pos k0]
      exact ⟨x, hx, ht.1, by omega, k0, by omega, rfl, Nat.le_refl _, by omega, by omega⟩
    · rw [if_neg k0]
      by_cases k1 : x.k = 1
      · rw [if_pos k1]
        by_cases ha : x.a % 1024 < 2 ∨ n * k + 2 ≤ x.a % 1024 ∨ 1099511627776 ≤ x.a / 1024
        · rw [if_pos ha]; exact ⟨rfl, by omega, by omega⟩
        · rw [if_neg ha]; exact ⟨x, hx, by omega, k1, by omega, by omega, by omega, rfl⟩
      · rw [if_neg k1]; exact ⟨rfl, by omega, by omega⟩
theorem poolF_turn (hk : 1 ≤ k) (hth : ∀ x ∈ cs, 0 ≤ x.t ∧ x.t < n) {st : St (poolM n k)} (h : PoolF n k cs st) {i : Nat} {x : CallV} {p : Int} (hno : nowOf (thr cs) st.fin p = some i) (hx : cs[i]? = some x) : PoolF n k cs (st.turn i x p) := by
  have hp := h.pend.turn (x := x) hno
  have hc : (st.turn i x p).cn = st.cn := by unfold St.turn; split <;> rfl
  refine ⟨by rw [turn_ws]; exact h.len, fun a => by rw [turn_ws, hc]; exact h.wB a, hp, fun e v hv => ?_, fun e v hv hr => ?_⟩
  · rcases turn_evs (List.mem_of_getElem? hv) with hv' | rfl
    · obtain ⟨j, hj⟩ := List.mem_iff_getElem?.1 hv'; exact h.steps j v hj
    · exact Nat.zero_le _
  · rw [turn_ws]
    rcases turn_evs (List.mem_of_getElem? hv) with hv' | rfl
    · obtain ⟨j, hj⟩ := List.mem_iff_getElem?.1 hv'; exact h.ev j v hj hr
    · exact poolOp_new hk hth st.ws st.s hx
theorem getD_put_ne {l : List Nat} {a b y : Nat} (h : b ≠ a) : (l.set a y).getD b 0 = l.getD b 0 := by
  rw [List.getD_eq_getElem?_getD, List.getD_eq_getElem?_getD, List.getElem?_set_ne (fun e => h e.symm)]
theorem getD_put_eq {l : List Nat} {a y : Nat} (h : a < l.length) : (l.set a y).getD a 0 = y := by
  rw [List.getD_eq_getElem?_getD, List.getElem?_set_self h]; rfl
theorem pool_stepQ (s : (poolM n k).S) (q : PoolQ) (ws : List Nat) (cn : Cn) (t : Nat) : stepQ (M := poolM n k) s (.inl q) ws cn t = ⟨s, .inl (poolNext q ((poolAcc q).run ws cn).1).1, ((poolAcc q).run ws cn).2.1, ((poolAcc q).run ws cn).2.2, (poolNext q ((poolAcc q).run ws cn).1).2⟩ := rfl
/-- the steps, each told -/
theorem pool_look_even (s : (poolM n k).S) {p e x : Nat} {ws : List Nat} {cn : Cn} (t : Nat) (hx : ws.getD p 0 = x) (h : x % 2 = 0) : stepQ (M := poolM n k) s (.inl (.look p e)) ws cn t = ⟨s, .inl (.mark p e x), ws, { cn with r := cn.r + 1 }, none⟩ := by
  rw [pool_stepQ]
  show (⟨s, .inl (poolNext (.look p e) (ws.getD p 0)).1, ws, { cn with r := cn.r + 1 }, (poolNext (.look p e) (ws.getD p 0)).2⟩ : Out (poolM n k)) = _
  unfold poolNext
  simp only
  rw [hx, if_pos h]
theorem pool_look_odd (s : (poolM n k).S) {p e x : Nat} {ws : List Nat} {cn : Cn} (t : Nat) (hx : ws.getD p 0 = x) (h : ¬ x % 2 = 0) : stepQ (M := poolM n k) s (.inl (.look p e)) ws cn t = ⟨s, .inl (.look (p + 1) e), ws, { cn with r := cn.r + 1 }, if p + 1 = e then some ⟨6, 0, []⟩ else none⟩ := by
  rw [pool_stepQ]
  show (⟨s, .inl (poolNext (.look p e) (ws.getD p 0)).1, ws, { cn with r := cn.r + 1 }, (poolNext (.look p e) (ws.getD p 0)).2⟩ : Out (poolM n k)) = _
  unfold poolNext
  simp only
  rw [hx, if_neg h]
theorem pool_mark (s : (poolM n k).S) {p e x : Nat} {ws : List Nat} {cn : Cn} (t : Nat) : stepQ (M := poolM n k) s (.inl (.mark p e x)) ws cn t = ⟨s, .inl .done, ws.set p (x + 3), { cn with w := cn.w + 1 }, some ⟨0, p + 2 + 1024 * (x / 2 + 1), []⟩⟩ := rfl
theorem pool_rel_yes (s : (poolM n k).S) {a v : Nat} {ws : List Nat} {cn : Cn} (t : Nat) (h : ws.getD a 0 = 2 * v + 1) : stepQ (M := poolM n k) s (.inl (.rel a v)) ws cn t = ⟨s, .inl (.rel a v), ws.set a (2 * v), { cn with s := cn.s + 1 }, some ⟨0, 0, []⟩⟩ := by
  rw [pool_stepQ]
  have e : (poolAcc (.rel a v)).run ws cn = (1, ws.set a (2 * v), { cn with s := cn.s + 1 }) := by
    unfold poolAcc Acc.run; simp only; rw [if_pos h]
  rw [e]; rfl
theorem pool_rel_no (s : (poolM n k).S) {a v : Nat} {ws : List Nat} {cn : Cn} (t : Nat) (h : ¬ ws.getD a 0 = 2 * v + 1) : stepQ (M := poolM n k) s (.inl (.rel a v)) ws cn t = ⟨s, .inl (.rel a v), ws, { cn with s := cn.s + 1 }, some ⟨8, 0, []⟩⟩ := by
  rw [pool_stepQ]
  have e : (poolAcc (.rel a v)).run ws cn = (0, ws, { cn with s := cn.s + 1 }) := by
    unfold poolAcc Acc.run; simp only; rw [if_neg h]
  rw [e]; rfl
theorem poolOp_same {ws ws' : List Nat} {steps i : Nat} {q : PoolQ ⊕ Nat} (h : PoolOp n k cs ws steps i q) (hq : ∀ p e y, q = .inl (.mark p e y) → ws.getD p 0 = y → y % 2 = 0 → ws'.getD p 0 = y) : PoolOp n k cs ws' steps i q := by
  match q, h, hq with
  | .inl (.look p e), h, _ => exact h
  | .inl (.mark p e y), h, hq =>
    obtain ⟨x, h1, h2, h3, h4, h5, h6, h7, h8, h9, h10, h11⟩ := h
    exact ⟨x, h1, h2, h3, h4, h5, h6, h7, h8, h9, hq p e y rfl h10 h11, h11⟩
  | .inl (.rel a v), h, _ => exact h
  | .inl .done, h, _ => exact h
  | .inr e, h, _ => exact h
/-- of two that are at places, the places are unlike -/
theorem pool_apart {st : St (poolM n k)} (h : PendI cs st) {f e : Nat} {u v : Ev (poolM n k)} (hu : st.evs[f]? = some u) (hv : st.evs[e]? = some v) (hur : u.resp = 0) (hvr : v.resp = 0) (hfe : f ≠ e) {x y : CallV} (hx : cs[u.i]? = some x) (hy : cs[v.i]? = some y) (x0 : 0 ≤ x.t) (y0 : 0 ≤ y.t)
    {p p' : Nat} (h1 : x.t.toNat * k ≤ p) (h2 : p < x.t.toNat * k + k) (h3 : y.t.toNat * k ≤ p') (h4 : p' < y.t.toNat * k + k) : p ≠ p' := fun ee => by
  subst ee
  have e1 := div_area h1 h2
  have e2 := div_area h3 h4
  have et : x.t = y.t := by omega
  exact hfe (h.alone hu hv hur hvr (q := x.t) (thr_get hx) (by rw [thr_get hy, et]))
theorem poolF_step {T : St (poolM n k)} (h : PoolF n k cs T) (ht : 0 < T.ticks) {i : Nat} {p : Int} {e : Nat} {v : Ev (poolM n k)} (hc : T.cur p = some e) (hv : T.evs[e]? = some v) (hr0 : v.resp = 0) : PoolF n k cs (T.step i p e v) := by
  have hel := (List.getElem?_eq_some_iff.1 hv).1
  have hO := h.ev e v hv hr0
  have hpe := h.pend.step (i := i) ht hc hv hr0
  have hws := step_ws (st := T) (i := i) (p := p) (e := e) (v := v)
  have hcc : (T.step i p e v).cn = (stepQ T.s v.q T.ws T.cn T.ticks).cn := by unfold St.step; split <;> rfl
  obtain ⟨m1, m2, m3, m4, m5⟩ := midEv_facts T v
  have fin : ∀ (ws' : List Nat) (cn' : Cn), (stepQ T.s v.q T.ws T.cn T.ticks).ws = ws' → (stepQ T.s v.q T.ws T.cn T.ticks).cn = cn' → ws'.length = n * k → (∀ a, ws'.getD a 0 ≤ 2 * cn'.w + 1) → v.steps + 1 ≤ k + 1 →
      ((midEv T v).resp = 0 → PoolOp n k cs ws' (midEv T v).steps v.i (midEv T v).q) → (∀ (f : Nat) (u : Ev (poolM n k)), f ≠ e → T.evs[f]? = some u → u.resp = 0 → PoolOp n k cs ws' u.steps u.i u.q) → PoolF n k cs (T.step i p e v) := fun ws' cn' e1 e2 h1 h2 h3 h4 h5 => by
    refine ⟨by rw [hws, e1]; exact h1, fun a => by rw [hws, hcc, e1, e2]; exact h2 a, hpe, fun f u hu => ?_, fun f u hu hur => ?_⟩
    · rw [step_evs] at hu
      rcases set_get hu hel with ⟨_, rfl⟩ | ⟨_, hu'⟩
      · rw [m3]; exact h3
      · exact h.steps f u hu'
    · rw [hws, e1]
      rw [step_evs] at hu
      rcases set_get hu hel with ⟨rfl, rfl⟩ | ⟨hfe, hu'⟩
      · rw [m1]; exact h4 hur
      · exact h5 f u hfe hu' hur
  have hres : ∀ a, (stepQ T.s v.q T.ws T.cn T.ticks).ans = some a → ∀ P : Prop, (midEv T v).resp = 0 → P := fun a ha P hr => by rw [m5 a ha] at hr; omega
  cases hq : v.q with
  | inr er =>
    rw [hq] at hO
    have hans : (stepQ T.s v.q T.ws T.cn T.ticks).ans = some ⟨er, 0, []⟩ := by rw [hq]; rfl
    exact fin T.ws T.cn (by rw [hq]; rfl) (by rw [hq]; rfl) h.len h.wB (by have := hO.1; omega) (hres _ hans _) (fun f u _ hu hur => h.ev f u hu hur)
  | inl q =>
    rw [hq] at hO
    match q, hq, hO with
    | .look p2 e2, hq, hO =>
      obtain ⟨x, h1, h2, h3, h4, h5, h6, h7, h8, h9⟩ := hO
      by_cases hx2 : T.ws.getD p2 0 % 2 = 0
      · have e0 := pool_look_even (n := n) (k := k) T.s (e := e2) (cn := T.cn) T.ticks rfl hx2
        rw [← hq] at e0
        have hans : (stepQ T.s v.q T.ws T.cn T.ticks).ans = none := by rw [e0]
        refine fin T.ws { T.cn with r := T.cn.r + 1 } (by rw [e0]) (by rw [e0]) h.len h.wB (by omega) (fun _ => ?_) (fun f u _ hu hur => h.ev f u hu hur)
        rw [m3, midEv_more hans, e0]
        exact ⟨x, h1, h2, h3, h4, h5, h6, h7, h8, by omega, rfl, hx2⟩
      · have e0 := pool_look_odd (n := n) (k := k) T.s (e := e2) (cn := T.cn) T.ticks rfl hx2
        rw [← hq] at e0
        refine fin T.ws { T.cn with r := T.cn.r + 1 } (by rw [e0]) (by rw [e0]) h.len h.wB (by omega) (fun hr => ?_) (fun f u _ hu hur => h.ev f u hu hur)
        by_cases hpe2 : p2 + 1 = e2
        · have hans : (stepQ T.s v.q T.ws T.cn T.ticks).ans = some ⟨6, 0, []⟩ := by rw [e0, if_pos hpe2]
          exact hres _ hans _ hr
        · have hans : (stepQ T.s v.q T.ws T.cn T.ticks).ans = none := by rw [e0, if_neg hpe2]
          rw [m3, midEv_more hans, e0]
          exact ⟨x, h1, h2, h3, h4, h5, h6, by omega, by omega, by omega⟩
    | .mark p2 e2 y, hq, hO =>
      obtain ⟨x, h1, h2, h3, h4, h5, h6, h7, h8, h9, h10, h11⟩ := hO
      have e0 := pool_mark (n := n) (k := k) T.s (p := p2) (e := e2) (x := y) (ws := T.ws) (cn := T.cn) T.ticks
      rw [← hq] at e0
      have hans : (stepQ T.s v.q T.ws T.cn T.ticks).ans = some ⟨0, p2 + 2 + 1024 * (y / 2 + 1), []⟩ := by rw [e0]
      refine fin (T.ws.set p2 (y + 3)) { T.cn with w := T.cn.w + 1 } (by rw [e0]) (by rw [e0]) (by rw [List.length_set]; exact h.len) (fun a => ?_) (by omega) (hres _ hans _) (fun f u hfe hu hur => ?_)
      · show _ ≤ 2 * (T.cn.w + 1) + 1
        by_cases ha : a = p2
        · subst ha
          by_cases hal : a < T.ws.length
          · rw [getD_put_eq hal]; have := h.wB a; omega
          · rw [List.set_eq_of_length_le (by omega)]; have := h.wB a; omega
        · rw [getD_put_ne ha]; have := h.wB a; omega
      · have o2 := h.ev f u hu hur
        refine poolOp_same o2 (fun p3 e3 y3 hq3 hy3 _ => ?_)
        rw [hq3] at o2
        obtain ⟨z, z1, z2, z3, z4, z5, z6, z7, z8, _⟩ := o2
        rw [getD_put_ne (pool_apart h.pend hu hv hur hr0 hfe z1 h1 z2 h2 z7 (by omega) h7 (by omega))]; exact hy3
    | .done, hq, hO => exact hO.elim
    | .rel a2 v2, hq, hO =>
      obtain ⟨x, h1, h2, h3, h4, h5, h6, h7⟩ := hO
      by_cases hx2 : T.ws.getD a2 0 = 2 * v2 + 1
      · have e0 := pool_rel_yes (n := n) (k := k) T.s (cn := T.cn) T.ticks hx2
        rw [← hq] at e0
        have hans : (stepQ T.s v.q T.ws T.cn T.ticks).ans = some ⟨0, 0, []⟩ := by rw [e0]
        refine fin (T.ws.set a2 (2 * v2)) { T.cn with s := T.cn.s + 1 } (by rw [e0]) (by rw [e0]) (by rw [List.length_set]; exact h.len) (fun a => ?_) (by omega) (hres _ hans _) (fun f u hfe hu hur => ?_)
        · show _ ≤ 2 * T.cn.w + 1
          by_cases ha : a = a2
          · subst ha
            by_cases hal : a < T.ws.length
            · rw [getD_put_eq hal]; have := h.wB a; omega
            · rw [List.set_eq_of_length_le (by omega)]; exact h.wB a
          · rw [getD_put_ne ha]; exact h.wB a
        · refine poolOp_same (h.ev f u hu hur) (fun p3 e3 y3 hq3 hy3 hy4 => ?_)
          rw [getD_put_ne (fun ee => by subst ee; omega)]; exact hy3
      · have e0 := pool_rel_no (n := n) (k := k) T.s (cn := T.cn) T.ticks hx2
        rw [← hq] at e0
        have hans : (stepQ T.s v.q T.ws T.cn T.ticks).ans = some ⟨8, 0, []⟩ := by rw [e0]
        exact fin T.ws { T.cn with s := T.cn.s + 1 } (by rw [e0]) (by rw [e0]) h.len h.wB (by omega) (hres _ hans _) (fun f u _ hu hur => h.ev f u hu hur)
end
end Go.Proofs.Ytebfkkgemccbfaa
