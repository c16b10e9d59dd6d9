/- What pools keep: which references were taken, and given back; how many were taken of each place. -/
import Derived.Test.YtebfkkgemccbfaaPO1
import Derived.Test.YtebfkkgemccbfaaQE
import Derived.Test.YtebfkkgemccbfaaQF
namespace Go.Proofs.Ytebfkkgemccbfaa
open Go.RowKit
set_option linter.unusedVariables false
structure Hist (m : Nat) (ws : List Nat) (A R : Nat → Nat → Nat → Nat → Prop) : Prop where
  a1 : ∀ e a α r, A e a α r → a < m ∧ 1 ≤ α ∧ 2 * α ≤ ws.getD a 0
  a2 : ∀ e f a α β r s, A e a α r → A f a β s → e ≠ f → α ≠ β
  a3 : ∀ e f a α β r s, A e a α r → A f a β s → α < β → r < s ∧ ∃ j q, R j a α q ∧ q < s
  a4 : ∀ e a α r, A e a α r → 2 * α + 1 ≠ ws.getD a 0 → ∃ j q, R j a α q
  a5 : ∀ a, a < m → 2 ≤ ws.getD a 0 → ∃ e r, A e a (ws.getD a 0 / 2) r
  r1 : ∀ e a α r, R e a α r → a < m ∧ 1 ≤ α ∧ 2 * α ≤ ws.getD a 0 ∧ 2 * α + 1 ≠ ws.getD a 0
  r2 : ∀ e f a α r s, R e a α r → R f a α s → e = f
  r3 : ∀ e a α r, R e a α r → ∃ f s, A f a α s ∧ s < r
  w1 : ∀ a, ws.getD a 0 ≠ 1
theorem Hist.congr {m : Nat} {ws : List Nat} {A A' R R' : Nat → Nat → Nat → Nat → Prop} (h : Hist m ws A R) (hA : ∀ e a α r, A' e a α r ↔ A e a α r) (hR : ∀ e a α r, R' e a α r ↔ R e a α r) : Hist m ws A' R' := by
  have e1 : A' = A := by funext e a α r; exact propext (hA e a α r)
  have e2 : R' = R := by funext e a α r; exact propext (hR e a α r)
  rw [e1, e2]; exact h
theorem Hist.taken {m : Nat} {ws : List Nat} {A R : Nat → Nat → Nat → Nat → Prop} (h : Hist m ws A R) {p x e0 t : Nat} (hp : p < m) (hl : ws.length = m) (hx : ws.getD p 0 = x) (h2 : x % 2 = 0)
    (hA : ∀ e a α r, A e a α r → r < t) (hR : ∀ e a α r, R e a α r → r < t) : Hist m (ws.set p (x + 3)) (fun e a α r => A e a α r ∨ (e = e0 ∧ a = p ∧ α = x / 2 + 1 ∧ r = t)) R := by
  have g1 : (ws.set p (x + 3)).getD p 0 = x + 3 := getD_put_eq (by omega)
  have g2 : ∀ a, a ≠ p → (ws.set p (x + 3)).getD a 0 = ws.getD a 0 := fun a ha => getD_put_ne ha
  have le : ∀ a, ws.getD a 0 ≤ (ws.set p (x + 3)).getD a 0 := fun a => by
    by_cases ha : a = p
    · subst ha; omega
    · rw [g2 a ha]; omega
  refine ⟨fun e a α r hA' => ?_, fun e f a α β r s h1 h2' hne => ?_, fun e f a α β r s h1 h2' hlt => ?_, fun e a α r h1 hne => ?_, fun a ha hw => ?_, fun e a α r h1 => ?_, h.r2, fun e a α r h1 => ?_, fun a => ?_⟩
  · rcases hA' with h1 | ⟨rfl, rfl, rfl, rfl⟩
    · have := h.a1 e a α r h1; have := le a; omega
    · omega
  · rcases h1 with h1 | ⟨u1, u2, u3, u4⟩ <;> rcases h2' with h2' | ⟨v1, v2, v3, v4⟩
    · exact h.a2 e f a α β r s h1 h2' hne
    · subst v2; have := h.a1 _ _ _ _ h1; omega
    · subst u2; have := h.a1 _ _ _ _ h2'; omega
    · exact absurd (u1.trans v1.symm) hne
  · rcases h1 with h1 | ⟨u1, u2, u3, u4⟩ <;> rcases h2' with h2' | ⟨v1, v2, v3, v4⟩
    · exact h.a3 e f a α β r s h1 h2' hlt
    · subst v2
      obtain ⟨j, q, hj⟩ := h.a4 _ _ _ _ h1 (by omega)
      exact ⟨by rw [v4]; exact hA _ _ _ _ h1, j, q, hj, by rw [v4]; exact hR _ _ _ _ hj⟩
    · subst u2; have := h.a1 _ _ _ _ h2'; omega
    · omega
  · rcases h1 with h1 | ⟨rfl, rfl, rfl, rfl⟩
    · refine h.a4 e a α r h1 ?_
      by_cases ha : a = p
      · subst ha; omega
      · rw [g2 a ha] at hne; exact hne
    · omega
  · by_cases hap : a = p
    · subst hap
      exact ⟨e0, t, .inr ⟨rfl, rfl, by omega, rfl⟩⟩
    · rw [g2 a hap] at hw ⊢
      obtain ⟨e, r, h1⟩ := h.a5 a ha hw
      exact ⟨e, r, .inl h1⟩
  · have h3 := h.r1 e a α r h1
    by_cases hap : a = p
    · subst hap; omega
    · rw [g2 a hap]; exact h3
  · obtain ⟨f, s, h1, h2'⟩ := h.r3 e a α r h1
    exact ⟨f, s, .inl h1, h2'⟩
  · by_cases hap : a = p
    · subst hap; omega
    · rw [g2 a hap]; exact h.w1 a
theorem Hist.given {m : Nat} {ws : List Nat} {A R : Nat → Nat → Nat → Nat → Prop} (h : Hist m ws A R) {p v e0 t : Nat} (hp : p < m) (hl : ws.length = m) (hx : ws.getD p 0 = 2 * v + 1)
    (hA : ∀ e a α r, A e a α r → r < t) : Hist m (ws.set p (2 * v)) A (fun e a α r => R e a α r ∨ (e = e0 ∧ a = p ∧ α = v ∧ r = t)) := by
  have g1 : (ws.set p (2 * v)).getD p 0 = 2 * v := getD_put_eq (by omega)
  have g2 : ∀ a, a ≠ p → (ws.set p (2 * v)).getD a 0 = ws.getD a 0 := fun a ha => getD_put_ne ha
  have hv1 : 1 ≤ v := by have := h.w1 p; omega
  refine ⟨fun e a α r h1 => ?_, h.a2, fun e f a α β r s h1 h2 hlt => ?_, fun e a α r h1 hne => ?_, fun a ha hw => ?_, fun e a α r h1 => ?_, fun e f a α r s h1 h2 => ?_, fun e a α r h1 => ?_, fun a => ?_⟩
  · have h3 := h.a1 e a α r h1
    by_cases hap : a = p
    · subst hap; omega
    · rw [g2 a hap]; exact h3
  · obtain ⟨h3, j, q, h4, h5⟩ := h.a3 e f a α β r s h1 h2 hlt
    exact ⟨h3, j, q, .inl h4, h5⟩
  · by_cases hap : a = p
    · subst hap
      have h3 := h.a1 e a α r h1
      by_cases hv : α = v
      · subst hv; exact ⟨e0, t, .inr ⟨rfl, rfl, rfl, rfl⟩⟩
      · obtain ⟨j, q, h4⟩ := h.a4 e a α r h1 (by omega)
        exact ⟨j, q, .inl h4⟩
    · rw [g2 a hap] at hne
      obtain ⟨j, q, h4⟩ := h.a4 e a α r h1 hne
      exact ⟨j, q, .inl h4⟩
  · by_cases hap : a = p
    · subst hap
      have := h.a5 a ha (by omega)
      rw [hx] at this
      rw [g1, show 2 * v / 2 = (2 * v + 1) / 2 by omega]; exact this
    · rw [g2 a hap] at hw ⊢; exact h.a5 a ha hw
  · rcases h1 with h1 | ⟨rfl, rfl, rfl, rfl⟩
    · have h3 := h.r1 e a α r h1
      by_cases hap : a = p
      · subst hap; omega
      · rw [g2 a hap]; exact h3
    · omega
  · rcases h1 with h1 | ⟨rfl, rfl, rfl, rfl⟩ <;> rcases h2 with h2 | ⟨rfl, h2, h3, rfl⟩
    · exact h.r2 e f a α r s h1 h2
    · have := h.r1 _ _ _ _ h1; subst h2; omega
    · have := h.r1 _ _ _ _ h2; omega
    · rfl
  · rcases h1 with h1 | ⟨rfl, rfl, rfl, rfl⟩
    · exact h.r3 e a α r h1
    · obtain ⟨f, s, h1⟩ := h.a5 a hp (by omega)
      rw [hx, show (2 * α + 1) / 2 = α by omega] at h1
      exact ⟨f, s, h1, hA _ _ _ _ h1⟩
  · by_cases hap : a = p
    · subst hap; omega
    · rw [g2 a hap]; exact h.w1 a
theorem countP_swap {α : Type} (f : α → Bool) : ∀ (l : List α) (e : Nat) (u v : α), l[e]? = some v → f v = false → (l.set e u).countP f = l.countP f + (if f u then 1 else 0)
  | [], _, _, _, h, _ => by simp at h
  | a :: r, 0, u, v, h, hf => by
    have e : a = v := by simpa using h
    subst e
    rw [List.set_cons_zero, List.countP_cons, List.countP_cons, hf]; rfl
  | a :: r, e + 1, u, v, h, hf => by
    have := countP_swap f r e u v (by simpa using h) hf
    rw [List.set_cons_succ, List.countP_cons, List.countP_cons]; omega
def isKC (cs : List CallV) (k : Int) (i : Nat) : Bool := match cs[i]? with | some x => decide (x.o = 0 ∧ x.k = k) | none => false
theorem isKC_some {cs : List CallV} {k : Int} {i : Nat} {x : CallV} (h : cs[i]? = some x) : isKC cs k i = decide (x.o = 0 ∧ x.k = k) := by unfold isKC; rw [h]
theorem isKC_ex {cs : List CallV} {k : Int} {i : Nat} (h : isKC cs k i = true) : ∃ x, cs[i]? = some x ∧ x.o = 0 ∧ x.k = k := by
  unfold isKC at h
  cases hx : cs[i]? with
  | none => rw [hx] at h; cases h
  | some x => rw [hx] at h; exact ⟨x, rfl, of_decide_eq_true h⟩
def caC (cs : List CallV) (i : Nat) : Nat := match cs[i]? with | some x => x.a | none => 0
theorem caC_some {cs : List CallV} {i : Nat} {x : CallV} (h : cs[i]? = some x) : caC cs i = x.a := by unfold caC; rw [h]
section
variable {M : Mach}
/-- one that took (0), or gave back (1) -/
def okC (cs : List CallV) (k : Int) (v : Ev M) : Bool := decide (¬ v.resp = 0 ∧ v.ans.err = 0) && isKC cs k v.i
def refC (cs : List CallV) (k : Int) (v : Ev M) : Nat := if k = 0 then v.ans.val else caC cs v.i
def atC (cs : List CallV) (k : Int) (a : Nat) (v : Ev M) : Bool := okC cs k v && decide (refC cs k v % 1024 = a + 2)
def befC (cs : List CallV) (k : Int) (a w : Nat) (v : Ev M) : Bool := atC cs k a v && decide (v.resp < w)
def Has (cs : List CallV) (m : Nat) (evs : List (Ev M)) (k : Int) (e a α r : Nat) : Prop := a < m ∧ ∃ v, evs[e]? = some v ∧ okC cs k v = true ∧ refC cs k v = a + 2 + 1024 * α ∧ v.resp = r
theorem okC_pend {cs : List CallV} {v : Ev M} (h : v.resp = 0) (k : Int) : okC cs k v = false := by unfold okC; rw [h]; simp
theorem okC_err {cs : List CallV} {v : Ev M} (h : v.ans.err ≠ 0) (k : Int) : okC cs k v = false := by
  unfold okC
  rw [decide_eq_false (fun h' => h h'.2), Bool.false_and]
theorem okC_ok {cs : List CallV} {v : Ev M} {k : Int} (h : okC cs k v = true) : ¬ v.resp = 0 ∧ v.ans.err = 0 ∧ isKC cs k v.i = true := by
  unfold okC at h
  rw [Bool.and_eq_true] at h
  have := of_decide_eq_true h.1
  exact ⟨this.1, this.2, h.2⟩
theorem atC_no {cs : List CallV} {v : Ev M} {k : Int} (h : okC cs k v = false) (a : Nat) : atC cs k a v = false := by unfold atC; rw [h]; rfl
theorem befC_no {cs : List CallV} {v : Ev M} {k : Int} (h : okC cs k v = false) (a w : Nat) : befC cs k a w v = false := by unfold befC; rw [atC_no h]; rfl
end
structure PoolH (n k : Nat) (cs : List CallV) (st : St (poolM n k)) : Prop where
  hist : Hist (n * k) st.ws (Has cs (n * k) st.evs 0) (Has cs (n * k) st.evs 1)
  cov : ∀ (κ : Int) (e : Nat) (v : Ev (poolM n k)), κ = 0 ∨ κ = 1 → st.evs[e]? = some v → okC cs κ v = true → ∃ a α, a < n * k ∧ refC cs κ v = a + 2 + 1024 * α
  own : ∀ (e : Nat) (v : Ev (poolM n k)) (x : CallV), st.evs[e]? = some v → okC cs 0 v = true → cs[v.i]? = some x → 0 ≤ x.t ∧ (v.ans.val % 1024 - 2) / k = x.t.toNat
  cA : ∀ a, a < n * k → st.evs.countP (atC cs 0 a) = st.ws.getD a 0 / 2
  cR : ∀ a, a < n * k → st.evs.countP (atC cs 1 a) + st.ws.getD a 0 % 2 = st.ws.getD a 0 / 2
  scan : ∀ (e : Nat) (v : Ev (poolM n k)) (p E : Nat) (x : CallV), st.evs[e]? = some v → v.resp = 0 → v.q = .inl (.look p E) → cs[v.i]? = some x → ∀ a, x.t.toNat * k ≤ a → a < E →
    (a < p → st.evs.countP (befC cs 0 a v.inv) = st.evs.countP (befC cs 1 a v.inv) + 1) ∧ (p ≤ a → st.evs.countP (befC cs 0 a v.inv) = st.evs.countP (atC cs 0 a) ∧ (st.ws.getD a 0 % 2 = 1 → st.evs.countP (befC cs 1 a v.inv) = st.evs.countP (atC cs 1 a)))
  full : ∀ (e : Nat) (v : Ev (poolM n k)), st.evs[e]? = some v → v.ans.err = 6 → ∃ x, cs[v.i]? = some x ∧ 0 ≤ x.t ∧ x.t.toNat < n ∧ ∀ a, x.t.toNat * k ≤ a → a < x.t.toNat * k + k → st.evs.countP (befC cs 0 a v.inv) = st.evs.countP (befC cs 1 a v.inv) + 1
  pend0 : ∀ (e : Nat) (v : Ev (poolM n k)), st.evs[e]? = some v → v.resp = 0 → v.ans = ⟨0, 0, []⟩
section
variable {n k : Nat} {cs : List CallV}
theorem has_set {M : Mach} {evs : List (Ev M)} {e : Nat} {v u : Ev M} {m : Nat} {κ : Int} (hv : evs[e]? = some v) (hv0 : okC cs κ v = false) (f a α r : Nat) :
    Has cs m (evs.set e u) κ f a α r ↔ Has cs m evs κ f a α r ∨ (f = e ∧ a < m ∧ okC cs κ u = true ∧ refC cs κ u = a + 2 + 1024 * α ∧ u.resp = r) := by
  have hel := (List.getElem?_eq_some_iff.1 hv).1
  constructor
  · rintro ⟨h1, w, hw, h2⟩
    rcases set_get hw hel with ⟨rfl, rfl⟩ | ⟨_, hw'⟩
    · exact .inr ⟨rfl, h1, h2⟩
    · exact .inl ⟨h1, w, hw', h2⟩
  · rintro (⟨h1, w, hw, h2⟩ | ⟨rfl, h1, h2⟩)
    · have hne : f ≠ e := fun ee => by subst ee; rw [hv] at hw; cases hw; rw [hv0] at h2; cases h2.1
      exact ⟨h1, w, by rw [List.getElem?_set_ne (fun h => hne h.symm)]; exact hw, h2⟩
    · exact ⟨h1, u, by rw [List.getElem?_set_self hel], h2⟩
/-- one step, told by what it does to the events and the words -/
theorem poolH_build {T : St (poolM n k)} (h : PoolH n k cs T) (ht : 0 < T.ticks) (hinv : ∀ (f : Nat) (u : Ev (poolM n k)), T.evs[f]? = some u → u.inv ≤ T.ticks) {i : Nat} {p : Int} {e : Nat} {v : Ev (poolM n k)} (hv : T.evs[e]? = some v) (hr0 : v.resp = 0) {ws' : List Nat} (hws : (stepQ T.s v.q T.ws T.cn T.ticks).ws = ws')
    (hH : Hist (n * k) ws' (Has cs (n * k) (T.evs.set e (midEv T v)) 0) (Has cs (n * k) (T.evs.set e (midEv T v)) 1))
    (hcov : ∀ κ : Int, κ = 0 ∨ κ = 1 → okC cs κ (midEv T v) = true → ∃ a α, a < n * k ∧ refC cs κ (midEv T v) = a + 2 + 1024 * α)
    (hown : ∀ x, okC cs 0 (midEv T v) = true → cs[v.i]? = some x → 0 ≤ x.t ∧ ((midEv T v).ans.val % 1024 - 2) / k = x.t.toNat)
    (hc : ∀ a, a < n * k → ws'.getD a 0 / 2 = T.ws.getD a 0 / 2 + (if atC cs 0 a (midEv T v) then 1 else 0) ∧ T.ws.getD a 0 / 2 + (if atC cs 1 a (midEv T v) then 1 else 0) + ws'.getD a 0 % 2 = ws'.getD a 0 / 2 + T.ws.getD a 0 % 2)
    (hs : ∀ (f : Nat) (u : Ev (poolM n k)) (p E : Nat) (x : CallV), f ≠ e → T.evs[f]? = some u → u.resp = 0 → u.q = .inl (.look p E) → cs[u.i]? = some x → ∀ a, x.t.toNat * k ≤ a → a < E → atC cs 0 a (midEv T v) = false ∧ (ws'.getD a 0 % 2 = 1 → T.ws.getD a 0 % 2 = 1 ∧ atC cs 1 a (midEv T v) = false))
    (hme : ∀ (p E : Nat) (x : CallV), (midEv T v).resp = 0 → (midEv T v).q = .inl (.look p E) → cs[v.i]? = some x → ∀ a, x.t.toNat * k ≤ a → a < E →
      (a < p → T.evs.countP (befC cs 0 a v.inv) = T.evs.countP (befC cs 1 a v.inv) + 1) ∧ (p ≤ a → T.evs.countP (befC cs 0 a v.inv) = T.evs.countP (atC cs 0 a) ∧ (ws'.getD a 0 % 2 = 1 → T.evs.countP (befC cs 1 a v.inv) = T.evs.countP (atC cs 1 a))))
    (hfu : (midEv T v).ans.err = 6 → ∃ x, cs[v.i]? = some x ∧ 0 ≤ x.t ∧ x.t.toNat < n ∧ ∀ a, x.t.toNat * k ≤ a → a < x.t.toNat * k + k → T.evs.countP (befC cs 0 a v.inv) = T.evs.countP (befC cs 1 a v.inv) + 1) : PoolH n k cs (T.step i p e v) := by
  have hel := (List.getElem?_eq_some_iff.1 hv).1
  obtain ⟨m1, m2, m3, m4, m5⟩ := midEv_facts T v
  have hvn : ∀ κ, okC cs κ v = false := fun κ => okC_pend hr0 κ
  have cat : ∀ κ a, (T.evs.set e (midEv T v)).countP (atC cs κ a) = T.evs.countP (atC cs κ a) + (if atC cs κ a (midEv T v) then 1 else 0) := fun κ a => countP_swap _ _ _ _ _ hv (atC_no (hvn κ) a)
  have cbe : ∀ κ a w, w ≤ T.ticks → (T.evs.set e (midEv T v)).countP (befC cs κ a w) = T.evs.countP (befC cs κ a w) := fun κ a w hw => by
    rw [countP_swap _ _ _ _ _ hv (befC_no (hvn κ) a w)]
    have : befC cs κ a w (midEv T v) = false := by
      cases ha : (stepQ T.s v.q T.ws T.cn T.ticks).ans with
      | none => exact befC_no (okC_pend (by rw [m4 ha]; exact hr0) κ) a w
      | some an => unfold befC; rw [m5 an ha, decide_eq_false (by omega), Bool.and_false]
    rw [this]; rfl
  refine ⟨by rw [step_evs, step_ws, hws]; exact hH, fun κ f u hκ hu hok => ?_, fun f u x hu hok hx => ?_, fun a ha => ?_, fun a ha => ?_, fun f u p' E x hu hur hq hx a h1 h2 => ?_, fun f u hu hue => ?_, fun f u hu hur => ?_⟩
  · rw [step_evs] at hu
    rcases set_get hu hel with ⟨_, rfl⟩ | ⟨_, hu'⟩
    · exact hcov κ hκ hok
    · exact h.cov κ f u hκ hu' hok
  · rw [step_evs] at hu
    rcases set_get hu hel with ⟨_, rfl⟩ | ⟨_, hu'⟩
    · rw [m1] at hx; exact hown x hok hx
    · exact h.own f u x hu' hok hx
  · rw [step_evs, step_ws, hws, cat]
    have := h.cA a ha; have := (hc a ha).1; omega
  · rw [step_evs, step_ws, hws, cat]
    have := h.cR a ha; have := (hc a ha).2; omega
  · rw [step_evs, step_ws, hws]
    rw [step_evs] at hu
    rcases set_get hu hel with ⟨_, rfl⟩ | ⟨hfe, hu'⟩
    · rw [m1] at hx
      rw [m2, cbe 0 a _ (hinv e v hv), cbe 1 a _ (hinv e v hv), cat, cat, atC_no (okC_pend hur 0), atC_no (okC_pend hur 1)]
      exact hme p' E x hur hq hx a h1 h2
    · have h3 := h.scan f u p' E x hu' hur hq hx a h1 h2
      have h4 := hs f u p' E x hfe hu' hur hq hx a h1 h2
      rw [cbe 0 a _ (hinv f u hu'), cbe 1 a _ (hinv f u hu'), cat, cat, h4.1]
      refine ⟨h3.1, fun hp => ⟨(h3.2 hp).1, fun hw => ?_⟩⟩
      have h5 := h4.2 hw
      rw [h5.2]
      exact (h3.2 hp).2 h5.1
  · rw [step_evs] at hu ⊢
    rcases set_get hu hel with ⟨_, rfl⟩ | ⟨_, hu'⟩
    · obtain ⟨x, hx, h0, h1, h2⟩ := hfu hue
      refine ⟨x, by rw [m1]; exact hx, h0, h1, fun a h3 h4 => ?_⟩
      rw [m2, cbe 0 a _ (hinv e v hv), cbe 1 a _ (hinv e v hv)]; exact h2 a h3 h4
    · obtain ⟨x, hx, h0, h1, h2⟩ := h.full f u hu' hue
      refine ⟨x, hx, h0, h1, fun a h3 h4 => ?_⟩
      rw [cbe 0 a _ (hinv f u hu'), cbe 1 a _ (hinv f u hu')]; exact h2 a h3 h4
  · rw [step_evs] at hu
    rcases set_get hu hel with ⟨_, rfl⟩ | ⟨_, hu'⟩
    · cases ha : (stepQ T.s v.q T.ws T.cn T.ticks).ans with
      | none => rw [midEv_more ha]; exact h.pend0 e v hv hr0
      | some an =>
        exfalso
        rw [m5 an ha] at hur
        omega
    · exact h.pend0 f u hu' hur
/-- a step that neither takes nor gives back -/
theorem poolH_same {T : St (poolM n k)} (h : PoolH n k cs T) (ht : 0 < T.ticks) (hinv : ∀ (f : Nat) (u : Ev (poolM n k)), T.evs[f]? = some u → u.inv ≤ T.ticks) {i : Nat} {p : Int} {e : Nat} {v : Ev (poolM n k)} (hv : T.evs[e]? = some v) (hr0 : v.resp = 0) (hws : (stepQ T.s v.q T.ws T.cn T.ticks).ws = T.ws)
    (hno : ∀ κ, okC cs κ (midEv T v) = false)
    (hme : ∀ (p E : Nat) (x : CallV), (midEv T v).resp = 0 → (midEv T v).q = .inl (.look p E) → cs[v.i]? = some x → ∀ a, x.t.toNat * k ≤ a → a < E →
      (a < p → T.evs.countP (befC cs 0 a v.inv) = T.evs.countP (befC cs 1 a v.inv) + 1) ∧ (p ≤ a → T.evs.countP (befC cs 0 a v.inv) = T.evs.countP (atC cs 0 a) ∧ (T.ws.getD a 0 % 2 = 1 → T.evs.countP (befC cs 1 a v.inv) = T.evs.countP (atC cs 1 a))))
    (hfu : (midEv T v).ans.err = 6 → ∃ x, cs[v.i]? = some x ∧ 0 ≤ x.t ∧ x.t.toNat < n ∧ ∀ a, x.t.toNat * k ≤ a → a < x.t.toNat * k + k → T.evs.countP (befC cs 0 a v.inv) = T.evs.countP (befC cs 1 a v.inv) + 1) : PoolH n k cs (T.step i p e v) := by
  have hvn : ∀ κ, okC cs κ v = false := fun κ => okC_pend hr0 κ
  have hhas : ∀ κ e' a α r, Has cs (n * k) (T.evs.set e (midEv T v)) κ e' a α r ↔ Has cs (n * k) T.evs κ e' a α r := fun κ e' a α r => by
    rw [has_set hv (hvn κ), hno κ]
    exact ⟨fun h => h.elim id (fun h => by cases h.2.2.1), .inl⟩
  refine poolH_build h ht hinv hv hr0 hws (h.hist.congr (hhas 0) (hhas 1)) (fun κ _ h' => by rw [hno κ] at h'; cases h') (fun x h' => by rw [hno 0] at h'; cases h') (fun a ha => ?_) (fun f u p' E x hfe hu hur hq hx a h1 h2 => ?_) hme hfu
  · rw [atC_no (hno 0), atC_no (hno 1)]
    exact ⟨rfl, by simp⟩
  · exact ⟨atC_no (hno 0) a, fun h => ⟨h, atC_no (hno 1) a⟩⟩
theorem poolH_step {T : St (poolM n k)} (hk : 1 ≤ k) (hm : n * k ≤ 512) (hF : PoolF n k cs T) (h : PoolH n k cs T) (ht : 0 < T.ticks) (hinv : ∀ (f : Nat) (u : Ev (poolM n k)), T.evs[f]? = some u → u.inv ≤ T.ticks) (hlt : ∀ (f : Nat) (u : Ev (poolM n k)), T.evs[f]? = some u → u.resp < T.ticks)
    {i : Nat} {p : Int} {e : Nat} {v : Ev (poolM n k)} (hv : T.evs[e]? = some v) (hr0 : v.resp = 0) : PoolH n k cs (T.step i p e v) := by
  have hO := hF.ev e v hv hr0
  have hp0 := h.pend0 e v hv hr0
  have hvn : ∀ κ, okC cs κ v = false := fun κ => okC_pend hr0 κ
  obtain ⟨m1, m2, m3, m4, m5⟩ := midEv_facts T v
  have hA : ∀ κ e' a α r, Has cs (n * k) T.evs κ e' a α r → r < T.ticks := fun κ e' a α r ⟨_, w, hw, _, _, hr⟩ => by rw [← hr]; exact hlt e' w hw
  cases hq : v.q with
  | inr er =>
    rw [hq] at hO
    have hans : (stepQ T.s v.q T.ws T.cn T.ticks).ans = some ⟨er, 0, []⟩ := by rw [hq]; rfl
    have ma : (midEv T v).ans = ⟨er, 0, []⟩ := by rw [midEv_done hans]; rfl
    refine poolH_same h ht hinv hv hr0 (by rw [hq]; rfl) (fun κ => okC_err (by rw [ma]; exact hO.2.1) κ) (fun p' E x hr => by rw [m5 _ hans] at hr; omega) (fun h6 => ?_)
    rw [ma] at h6
    exact absurd h6 hO.2.2
  | inl q =>
    rw [hq] at hO
    match q, hq, hO with
    | .look p2 e2, hq, hO =>
      obtain ⟨x, h1, h2, h3, h4, h5, h6, h7, h8, h9⟩ := hO
      have hsc := fun a => h.scan e v p2 e2 x hv hr0 hq h1 a
      have hp2 : p2 < n * k := by
        have : x.t.toNat * k + k ≤ n * k := by rw [← Nat.succ_mul]; exact Nat.mul_le_mul_right k h5
        omega
      by_cases hx2 : T.ws.getD p2 0 % 2 = 0
      · have e0 := pool_look_even (n := n) (k := k) T.s (e := e2) (cn := T.cn) T.ticks rfl hx2
        rw [← hq] at e0
        have hans : (stepQ T.s v.q T.ws T.cn T.ticks).ans = none := by rw [e0]
        have hme : midEv T v = v.more (.inl (.mark p2 e2 (T.ws.getD p2 0))) := by rw [midEv_more hans, e0]
        refine poolH_same h ht hinv hv hr0 (by rw [e0]) (fun κ => okC_pend (by rw [m4 hans]; exact hr0) κ) (fun p' E y hr hq' => ?_) (fun h6 => ?_)
        · rw [hme] at hq'
          have h10 : (Sum.inl (.mark p2 e2 (T.ws.getD p2 0)) : PoolQ ⊕ Nat) = .inl (.look p' E) := hq'
          cases h10
        · rw [hme] at h6
          have h10 : v.ans.err = 6 := h6
          rw [hp0] at h10; cases h10
      · have e0 := pool_look_odd (n := n) (k := k) T.s (e := e2) (cn := T.cn) T.ticks rfl hx2
        rw [← hq] at e0
        -- the place was taken at the invocation
        have hhere : T.evs.countP (befC cs 0 p2 v.inv) = T.evs.countP (befC cs 1 p2 v.inv) + 1 := by
          have h10 := (hsc p2 h7 h8).2 (Nat.le_refl _)
          have h11 := h10.2 (by omega)
          have h12 := h.cA p2 hp2
          have h13 := h.cR p2 hp2
          omega
        have hall : ∀ a, x.t.toNat * k ≤ a → a < p2 + 1 → a < e2 → T.evs.countP (befC cs 0 a v.inv) = T.evs.countP (befC cs 1 a v.inv) + 1 := fun a ha1 ha2 ha3 => by
          by_cases hap : a = p2
          · subst hap; exact hhere
          · exact (hsc a ha1 ha3).1 (by omega)
        by_cases hpe2 : p2 + 1 = e2
        · have hans : (stepQ T.s v.q T.ws T.cn T.ticks).ans = some ⟨6, 0, []⟩ := by rw [e0, if_pos hpe2]
          have ma : (midEv T v).ans = ⟨6, 0, []⟩ := by rw [midEv_done hans]; rfl
          refine poolH_same h ht hinv hv hr0 (by rw [e0]) (fun κ => okC_err (by rw [ma]; decide) κ) (fun p' E y hr => by rw [m5 _ hans] at hr; omega) (fun _ => ⟨x, h1, h2, h5, fun a ha1 ha2 => hall a ha1 (by omega) (by omega)⟩)
        · have hans : (stepQ T.s v.q T.ws T.cn T.ticks).ans = none := by rw [e0, if_neg hpe2]
          have hme : midEv T v = v.more (.inl (.look (p2 + 1) e2)) := by rw [midEv_more hans, e0]
          refine poolH_same h ht hinv hv hr0 (by rw [e0]) (fun κ => okC_pend (by rw [m4 hans]; exact hr0) κ) (fun p' E y hr hq' hy a ha1 ha2 => ?_) (fun h6 => ?_)
          · rw [hme] at hq'
            have h10 : (Sum.inl (.look (p2 + 1) e2) : PoolQ ⊕ Nat) = .inl (.look p' E) := hq'
            cases h10
            rw [h1] at hy; cases hy
            exact ⟨fun hap => hall a ha1 hap ha2, fun hap => (hsc a ha1 ha2).2 (by omega)⟩
          · rw [hme] at h6
            have h10 : v.ans.err = 6 := h6
            rw [hp0] at h10; cases h10
    | .mark p2 e2 y, hq, hO =>
      obtain ⟨x, h1, h2, h3, h4, h5, h6, h7, h8, h9, h10, h11⟩ := hO
      have e0 := pool_mark (n := n) (k := k) T.s (p := p2) (e := e2) (x := y) (ws := T.ws) (cn := T.cn) T.ticks
      rw [← hq] at e0
      have hans : (stepQ T.s v.q T.ws T.cn T.ticks).ans = some ⟨0, p2 + 2 + 1024 * (y / 2 + 1), []⟩ := by rw [e0]
      have ma : (midEv T v).ans = ⟨0, p2 + 2 + 1024 * (y / 2 + 1), []⟩ := by rw [midEv_done hans]; rfl
      have mr := m5 _ hans
      have hp2 : p2 < n * k := by
        have : x.t.toNat * k + k ≤ n * k := by rw [← Nat.succ_mul]; exact Nat.mul_le_mul_right k h5
        omega
      have hok0 : okC cs 0 (midEv T v) = true := by
        unfold okC; rw [m1, isKC_some h1, Bool.and_eq_true]
        exact ⟨decide_eq_true ⟨by omega, by rw [ma]⟩, decide_eq_true ⟨h3, h4⟩⟩
      have hok1 : okC cs 1 (midEv T v) = false := by
        unfold okC; rw [m1, isKC_some h1, decide_eq_false (show ¬ (x.o = 0 ∧ x.k = 1) by omega), Bool.and_false]
      have href : refC cs 0 (midEv T v) = p2 + 2 + 1024 * (y / 2 + 1) := by unfold refC; rw [if_pos rfl, ma]
      have hat0 : ∀ a, a < n * k → atC cs 0 a (midEv T v) = decide (a = p2) := fun a ha => by
        unfold atC; rw [hok0, href, Bool.true_and]
        exact decide_eq_decide.2 (by omega)
      have hwl : p2 < T.ws.length := by rw [hF.len]; exact hp2
      refine poolH_build h ht hinv hv hr0 (ws' := T.ws.set p2 (y + 3)) (by rw [e0]) ?_ (fun κ hκ hok => ?_) (fun z hok hz => ?_) (fun a ha => ?_) (fun f u p' E z hfe hu hur hqu hz a ha1 ha2 => ?_) (fun p' E z hr => by rw [mr] at hr; omega) (fun h6' => by rw [ma] at h6'; cases h6')
      · refine (h.hist.taken (e0 := e) hp2 hF.len h10 h11 (hA 0) (hA 1)).congr (fun e' a α r => ?_) (fun e' a α r => ?_)
        · rw [has_set hv (hvn 0)]
          refine or_congr_right ⟨fun ⟨g1, g2, g3, g4, g5⟩ => ?_, fun ⟨g1, g2, g3, g4⟩ => ?_⟩
          · rw [href] at g4
            exact ⟨g1, by omega, by omega, by omega⟩
          · subst g1 g2 g3
            exact ⟨rfl, hp2, hok0, href, by omega⟩
        · rw [has_set hv (hvn 1), hok1]
          exact ⟨fun h => h.elim id (fun h => by cases h.2.2.1), .inl⟩
      · rcases hκ with rfl | rfl
        · exact ⟨p2, _, hp2, href⟩
        · rw [hok1] at hok; cases hok
      · rw [h1] at hz; cases hz
        refine ⟨h2, ?_⟩
        rw [ma]
        show ((p2 + 2 + 1024 * (y / 2 + 1)) % 1024 - 2) / k = _
        rw [show (p2 + 2 + 1024 * (y / 2 + 1)) % 1024 - 2 = p2 by omega]
        exact div_area h7 (by omega)
      · rw [hat0 a ha, atC_no hok1]
        by_cases hap : a = p2
        · subst hap
          rw [getD_put_eq hwl, h10, decide_eq_true rfl, if_pos rfl]
          exact ⟨by omega, by rw [if_neg (by decide)]; omega⟩
        · rw [getD_put_ne hap, decide_eq_false hap, if_neg (by decide)]
          exact ⟨by omega, by omega⟩
      · have o2 := hF.ev f u hu hur
        rw [hqu] at o2
        obtain ⟨z', z1, z2, z3, z4, z5, z6, z7, z8, z9⟩ := o2
        rw [hz] at z1; cases z1
        have hne : a ≠ p2 := pool_apart hF.pend hu hv hur hr0 hfe hz h1 z2 h2 ha1 (by omega) h7 (by omega)
        have hak : a < n * k := by
          have : z.t.toNat * k + k ≤ n * k := by rw [← Nat.succ_mul]; exact Nat.mul_le_mul_right k z5
          omega
        rw [hat0 a hak, decide_eq_false hne, getD_put_ne hne]
        exact ⟨rfl, fun hh => ⟨hh, atC_no hok1 a⟩⟩
    | .done, hq, hO => exact hO.elim
    | .rel a2 v2, hq, hO =>
      obtain ⟨x, h1, h2, h3, h4, h5, h6, h7⟩ := hO
      by_cases hx2 : T.ws.getD a2 0 = 2 * v2 + 1
      · have e0 := pool_rel_yes (n := n) (k := k) T.s (cn := T.cn) T.ticks hx2
        rw [← hq] at e0
        have hans : (stepQ T.s v.q T.ws T.cn T.ticks).ans = some ⟨0, 0, []⟩ := by rw [e0]
        have ma : (midEv T v).ans = ⟨0, 0, []⟩ := by rw [midEv_done hans]; rfl
        have mr := m5 _ hans
        have hok1 : okC cs 1 (midEv T v) = true := by
          unfold okC; rw [m1, isKC_some h1, Bool.and_eq_true]
          exact ⟨decide_eq_true ⟨by omega, by rw [ma]⟩, decide_eq_true ⟨h2, h3⟩⟩
        have hok0 : okC cs 0 (midEv T v) = false := by
          unfold okC; rw [m1, isKC_some h1, decide_eq_false (show ¬ (x.o = 0 ∧ x.k = 0) by omega), Bool.and_false]
        have href : refC cs 1 (midEv T v) = a2 + 2 + 1024 * v2 := by unfold refC; rw [if_neg (by decide), m1, caC_some h1, h5]
        have hat1 : ∀ a, a < n * k → atC cs 1 a (midEv T v) = decide (a = a2) := fun a ha => by
          unfold atC; rw [hok1, href, Bool.true_and]
          exact decide_eq_decide.2 (by omega)
        have hwl : a2 < T.ws.length := by rw [hF.len]; exact h4
        refine poolH_build h ht hinv hv hr0 (ws' := T.ws.set a2 (2 * v2)) (by rw [e0]) ?_ (fun κ hκ hok => ?_) (fun z hok hz => by rw [hok0] at hok; cases hok) (fun a ha => ?_) (fun f u p' E z hfe hu hur hqu hz a ha1 ha2 => ?_) (fun p' E z hr => by rw [mr] at hr; omega) (fun h6' => by rw [ma] at h6'; cases h6')
        · refine (h.hist.given (e0 := e) h4 hF.len hx2 (hA 0)).congr (fun e' a α r => ?_) (fun e' a α r => ?_)
          · rw [has_set hv (hvn 0), hok0]
            exact ⟨fun h => h.elim id (fun h => by cases h.2.2.1), .inl⟩
          · rw [has_set hv (hvn 1)]
            refine or_congr_right ⟨fun ⟨g1, g2, g3, g4, g5⟩ => ?_, fun ⟨g1, g2, g3, g4⟩ => ?_⟩
            · rw [href] at g4
              exact ⟨g1, by omega, by omega, by omega⟩
            · subst g1 g2 g3
              exact ⟨rfl, h4, hok1, href, by omega⟩
        · rcases hκ with rfl | rfl
          · rw [hok0] at hok; cases hok
          · exact ⟨a2, _, h4, href⟩
        · rw [hat1 a ha, atC_no hok0]
          by_cases hap : a = a2
          · subst hap
            rw [getD_put_eq hwl, hx2, decide_eq_true rfl, if_pos rfl]
            exact ⟨by rw [if_neg (by decide)]; omega, by omega⟩
          · rw [getD_put_ne hap, decide_eq_false hap]
            exact ⟨by rw [if_neg (by decide)]; omega, by rw [if_neg (by decide)]; omega⟩
        · have hak : a < n * k := by
            have o2 := hF.ev f u hu hur
            rw [hqu] at o2
            obtain ⟨z', z1, z2, z3, z4, z5, z6, z7, z8, z9⟩ := o2
            rw [hz] at z1; cases z1
            have : z.t.toNat * k + k ≤ n * k := by rw [← Nat.succ_mul]; exact Nat.mul_le_mul_right k z5
            omega
          refine ⟨atC_no hok0 a, fun hh => ?_⟩
          by_cases hap : a = a2
          · subst hap
            rw [getD_put_eq hwl] at hh; omega
          · rw [getD_put_ne hap] at hh
            exact ⟨hh, by rw [hat1 a hak, decide_eq_false hap]⟩
      · have e0 := pool_rel_no (n := n) (k := k) T.s (cn := T.cn) T.ticks hx2
        rw [← hq] at e0
        have hans : (stepQ T.s v.q T.ws T.cn T.ticks).ans = some ⟨8, 0, []⟩ := by rw [e0]
        have ma : (midEv T v).ans = ⟨8, 0, []⟩ := by rw [midEv_done hans]; rfl
        exact poolH_same h ht hinv hv hr0 (by rw [e0]) (fun κ => okC_err (by rw [ma]; decide) κ) (fun p' E y hr => by rw [m5 _ hans] at hr; omega) (fun h6' => by rw [ma] at h6'; cases h6')
theorem pool_newq (s : (poolM n k).S) {x : CallV} {p E : Nat} (h : (invQ (M := poolM n k) s x).2 = .inl (.look p E)) : p = x.t.toNat * k := by
  unfold invQ at h
  split at h
  · cases h
  · rw [pool_inv_eq] at h
    simp only at h
    split at h
    · cases h; rfl
    · split at h
      · split at h <;> cases h
      · cases h
theorem poolH_turn {st : St (poolM n k)} (h : PoolH n k cs st) (hle : ∀ (f : Nat) (u : Ev (poolM n k)), st.evs[f]? = some u → u.resp ≤ st.ticks) {i : Nat} {x : CallV} {p : Int} (hx : cs[i]? = some x) : PoolH n k cs (st.turn i x p) := by
  unfold St.turn
  split
  · exact ⟨h.hist, h.cov, h.own, h.cA, h.cR, h.scan, h.full, h.pend0⟩
  · have hev : (st.tick.begin i x p).evs = st.evs ++ [⟨i, st.ticks + 1, 0, 0, ⟨0, 0, []⟩, [], (invQ st.s x).2⟩] := rfl
    have hcnt : ∀ f : Ev (poolM n k) → Bool, f ⟨i, st.ticks + 1, 0, 0, ⟨0, 0, []⟩, [], (invQ st.s x).2⟩ = false → (st.tick.begin i x p).evs.countP f = st.evs.countP f := fun f hf => by
      rw [hev, List.countP_append, List.countP_singleton, hf]; rfl
    have hn : ∀ κ, okC cs κ (⟨i, st.ticks + 1, 0, 0, ⟨0, 0, []⟩, [], (invQ st.s x).2⟩ : Ev (poolM n k)) = false := fun κ => okC_pend rfl κ
    have cat : ∀ κ a, (st.tick.begin i x p).evs.countP (atC cs κ a) = st.evs.countP (atC cs κ a) := fun κ a => hcnt _ (atC_no (hn κ) a)
    have cbe : ∀ κ a w, (st.tick.begin i x p).evs.countP (befC cs κ a w) = st.evs.countP (befC cs κ a w) := fun κ a w => hcnt _ (befC_no (hn κ) a w)
    have hhas : ∀ κ e' a α r, Has cs (n * k) (st.tick.begin i x p).evs κ e' a α r ↔ Has cs (n * k) st.evs κ e' a α r := fun κ e' a α r => by
      rw [hev]
      constructor
      · rintro ⟨g1, w, hw, g2⟩
        rcases snoc_get hw with ⟨_, rfl⟩ | ⟨_, hw'⟩
        · rw [hn κ] at g2; cases g2.1
        · exact ⟨g1, w, hw', g2⟩
      · rintro ⟨g1, w, hw, g2⟩
        exact ⟨g1, w, by rw [List.getElem?_append_left (List.getElem?_eq_some_iff.1 hw).1]; exact hw, g2⟩
    refine ⟨h.hist.congr (hhas 0) (hhas 1), fun κ f u hκ hu hok => ?_, fun f u y hu hok hy => ?_, fun a ha => by rw [cat]; exact h.cA a ha, fun a ha => by rw [cat]; exact h.cR a ha, fun f u p' E y hu hur hq hy a h1 h2 => ?_, fun f u hu hue => ?_, fun f u hu hur => ?_⟩
    · rw [hev] at hu
      rcases snoc_get hu with ⟨_, rfl⟩ | ⟨_, hu'⟩
      · rw [hn κ] at hok; cases hok
      · exact h.cov κ f u hκ hu' hok
    · rw [hev] at hu
      rcases snoc_get hu with ⟨_, rfl⟩ | ⟨_, hu'⟩
      · rw [hn 0] at hok; cases hok
      · exact h.own f u y hu' hok hy
    · rw [cat, cat, cbe, cbe]
      rw [hev] at hu
      rcases snoc_get hu with ⟨_, rfl⟩ | ⟨_, hu'⟩
      · have hy' : cs[i]? = some y := hy
        rw [hx] at hy'; cases hy'
        have hp := pool_newq st.s hq
        have heq : ∀ κ, st.evs.countP (befC cs κ a (st.ticks + 1)) = st.evs.countP (atC cs κ a) := fun κ => List.countP_congr fun w hw => by
          obtain ⟨j, hj⟩ := List.mem_iff_getElem?.1 hw
          have := hle j w hj
          unfold befC
          rw [decide_eq_true (show w.resp < st.ticks + 1 by omega), Bool.and_true]
        exact ⟨fun hap => by omega, fun _ => ⟨heq 0, fun _ => heq 1⟩⟩
      · exact h.scan f u p' E y hu' hur hq hy a h1 h2
    · rw [hev] at hu
      rcases snoc_get hu with ⟨_, rfl⟩ | ⟨_, hu'⟩
      · cases hue
      · obtain ⟨y, hy, h0, h1, h2⟩ := h.full f u hu' hue
        exact ⟨y, hy, h0, h1, fun a h3 h4 => by rw [cbe, cbe]; exact h2 a h3 h4⟩
    · rw [hev] at hu
      rcases snoc_get hu with ⟨_, rfl⟩ | ⟨_, hu'⟩
      · rfl
      · exact h.pend0 f u hu' hur
theorem poolH_first : PoolH n k cs (stM (M := poolM n k) cs (List.replicate (n * k) 0) ()) := by
  have hh : ∀ κ e a α r, ¬ Has cs (n * k) (stM (M := poolM n k) cs (List.replicate (n * k) 0) ()).evs κ e a α r := fun κ e a α r ⟨_, w, hw, _⟩ => by simp [stM] at hw
  have hg : ∀ a, (stM (M := poolM n k) cs (List.replicate (n * k) 0) ()).ws.getD a 0 = 0 := fun a => getD_repl _ _
  refine ⟨⟨fun e a α r h => absurd h (hh _ _ _ _ _), fun e f a α β r s h => absurd h (hh _ _ _ _ _), fun e f a α β r s h => absurd h (hh _ _ _ _ _), fun e a α r h => absurd h (hh _ _ _ _ _), fun a ha hw => ?_, fun e a α r h => absurd h (hh _ _ _ _ _), fun e f a α r s h => absurd h (hh _ _ _ _ _), fun e a α r h => absurd h (hh _ _ _ _ _), fun a => by rw [hg]; decide⟩, fun κ e v _ hv => by simp [stM] at hv, fun e v x hv => by simp [stM] at hv, fun a ha => by rw [hg]; rfl, fun a ha => by rw [hg]; rfl, fun e v p E x hv => by simp [stM] at hv, fun e v hv => by simp [stM] at hv, fun e v hv => by simp [stM] at hv⟩
  rw [hg] at hw; omega
/-- what holds at last -/
theorem pool_end (hk : 1 ≤ k) (hm : n * k ≤ 512) (hth : ∀ x ∈ cs, 0 ≤ x.t ∧ x.t < n) (picks : List Int) : PoolF n k cs (endM (M := poolM n k) cs (List.replicate (n * k) 0) () picks) ∧ PoolH n k cs (endM (M := poolM n k) cs (List.replicate (n * k) 0) () picks) := by
  have key : ∀ (st : St (poolM n k)) (p : Int), Wf cs st ∧ RowI cs st ∧ PoolF n k cs st ∧ PoolH n k cs st → Wf cs (pickM cs st p) ∧ RowI cs (pickM cs st p) ∧ PoolF n k cs (pickM cs st p) ∧ PoolH n k cs (pickM cs st p) := fun st p ⟨hw, hR, hF, hH⟩ => by
    cases hn : nowOf (thr cs) st.fin p with
    | none =>
      rw [pickM_idle hn]
      exact ⟨hw.idle, ⟨hR.call, hR.grow, hR.same, hR.past, hR.fin, hR.pend, hR.sum⟩, poolF_idle hF, ⟨hH.hist, hH.cov, hH.own, hH.cA, hH.cR, hH.scan, hH.full, hH.pend0⟩⟩
    | some i =>
      have hil := (now_open hn).1
      rw [thr_len] at hil
      obtain ⟨x, hx⟩ : ∃ x, cs[i]? = some x := ⟨cs[i], List.getElem?_eq_getElem hil⟩
      have h6 := hR.turned hw hn hx
      have h7 := hw.pick p
      obtain ⟨e, v, h1, h2, h3, h4, h5⟩ := pickM_cases hw hn hx
      have hle : ∀ (f : Nat) (u : Ev (poolM n k)), st.evs[f]? = some u → u.resp ≤ st.ticks := fun f u hu => by
        have := (hR.call u (List.mem_of_getElem? hu)).2.2.2.2.2
        by_cases hr : u.resp = 0
        · omega
        · exact (this hr).2.1
      have htk : (st.turn i x p).ticks = st.ticks + 1 := turn_ticks
      have hev : ∀ (f : Nat) (u : Ev (poolM n k)), (st.turn i x p).evs[f]? = some u → u.inv ≤ (st.turn i x p).ticks ∧ u.resp < (st.turn i x p).ticks := fun f u hu => by
        rw [htk]
        rcases turn_evs (List.mem_of_getElem? hu) with hu' | rfl
        · obtain ⟨j, hj⟩ := List.mem_iff_getElem?.1 hu'
          have := hle j u hj
          have := (hR.call u hu').2.2.1
          omega
        · exact ⟨Nat.le_refl _, Nat.succ_pos _⟩
      have hFt := poolF_turn hk hth hF hn hx
      have hHt := poolH_turn (p := p) hH hle hx
      refine ⟨h7, h6, ?_, ?_⟩
      · rw [h5]; exact poolF_step hFt (by omega) h1 h2 h3
      · rw [h5]; exact poolH_step hk hm hFt hHt (by omega) (fun f u hu => (hev f u hu).1) (fun f u hu => (hev f u hu).2) h2 h3
  have h0 : Wf cs (stM (M := poolM n k) cs (List.replicate (n * k) 0) ()) ∧ RowI cs (stM (M := poolM n k) cs (List.replicate (n * k) 0) ()) ∧ PoolF n k cs (stM (M := poolM n k) cs (List.replicate (n * k) 0) ()) ∧ PoolH n k cs (stM (M := poolM n k) cs (List.replicate (n * k) 0) ()) := ⟨Wf.first (M := poolM n k) cs _ (), rowI_end (M := poolM n k) cs (List.replicate (n * k) 0) () [], poolF_first, poolH_first⟩
  exact (foldM (R := fun st => Wf cs st ∧ RowI cs st ∧ PoolF n k cs st ∧ PoolH n k cs st) key picks _ h0).2.2
end
end Go.Proofs.Ytebfkkgemccbfaa
