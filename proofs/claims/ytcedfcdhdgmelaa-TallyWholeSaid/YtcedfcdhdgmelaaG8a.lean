/- The tally as a machine, plainly; what keeps its steps safe. | What a tally's play keeps, plainly. | A tally's reads lie between; steps; one by one, plainly. -/
import Derived.Test.YtcedfcdhdgmelaaGQ1
import Derived.Test.YtcedfcdhdgmelaaGQ2
namespace Go.Proofs.Ytcedfcdhdgmelaa
section
open Go.RowKit
set_option linter.unusedVariables false
inductive TalQ where
  | cnt (at' : Nat) (found : Bool) (was : Nat)
  | rd (inv next sum : Nat) (key : List Nat)
def nthL (s : List Nat) (k : Nat) : Nat := if k = 0 then 0 else s.getD (k - 1) 0
def talAcc : TalQ → Acc
  | .cnt a false _ => .rd a
  | .cnt a true w => .wr a ((w + 1) % 18446744073709551616)
  | .rd _ k _ _ => .rd k
def talNext (n : Nat) (s : List Nat) (q : TalQ) (r t : Nat) : List Nat × TalQ × Option Ans :=
  match q with
  | .cnt a false _ => (s, .cnt a true r, none)
  | .cnt a true w => (s ++ [t], .cnt a true w, some ⟨0, 0, []⟩)
  | .rd inv k sum key =>
    if k + 1 < n then (s, .rd (if k = 0 then t else inv) (k + 1) ((sum + r) % 18446744073709551616) key, none)
    else (s, .rd (if k = 0 then t else inv) (k + 1) ((sum + r) % 18446744073709551616) [2 * max (if k = 0 then t else inv) (nthL s ((sum + r) % 18446744073709551616)), 2 * t], some ⟨0, (sum + r) % 18446744073709551616, []⟩)
def talKey : TalQ → List Nat
  | .cnt _ _ _ => []
  | .rd _ _ _ key => key
abbrev talM (n : Nat) : Mach where
  S := List Nat
  Q := TalQ
  m := 1
  inv := fun s x => (s, if x.k = 0 then .inl (.cnt x.t.toNat false 0) else if x.k = 1 then .inl (.rd 0 0 0 []) else .inr 9)
  acc := fun _ q => talAcc q
  next := fun s q r t => talNext n s q r t
  key := fun _ q => talKey q
theorem tal_inv_eq (n : Nat) (s : (talM n).S) (x : CallV) : (talM n).inv s x = (s, ((if x.k = 0 then Sum.inl (.cnt x.t.toNat false 0) else if x.k = 1 then Sum.inl (.rd 0 0 0 []) else Sum.inr 9) : TalQ ⊕ Nat)) := rfl
theorem sum_set : ∀ (l : List Nat) (i x y : Nat), l[i]? = some x → (l.set i y).sum + x = l.sum + y
  | [], _, _, _, h => by simp at h
  | a :: r, 0, x, y, h => by
    have e : a = x := by simpa using h
    subst e
    show (y :: r).sum + a = (a :: r).sum + y
    rw [List.sum_cons, List.sum_cons]; omega
  | a :: r, i + 1, x, y, h => by
    have := sum_set r i x y (by simpa using h)
    show (a :: r.set i y).sum + x = (a :: r).sum + y
    rw [List.sum_cons, List.sum_cons]; omega
theorem sum_take_succ {l : List Nat} {k x : Nat} (h : l[k]? = some x) : (l.take (k + 1)).sum = (l.take k).sum + x := by rw [take_snoc h, List.sum_append]; simp
theorem sum_take_le (l : List Nat) (k : Nat) : (l.take k).sum ≤ l.sum := by
  have := congrArg List.sum (List.take_append_drop k l)
  rw [List.sum_append] at this; omega
theorem sum_take_set (l : List Nat) (i k x y : Nat) (h : l[i]? = some x) (hxy : x ≤ y) : (l.take k).sum ≤ ((l.set i y).take k).sum := by
  rw [List.take_set]
  by_cases hik : i < k
  · have := sum_set (l.take k) i x y (by rw [List.getElem?_take_of_lt hik]; exact h)
    omega
  · rw [List.set_eq_of_length_le (by rw [List.length_take]; omega)]; exact Nat.le_refl _
theorem sum_drop_set (l : List Nat) (i k x y : Nat) (h : l[i]? = some x) (hxy : x ≤ y) : (l.drop k).sum ≤ ((l.set i y).drop k).sum := by
  rw [List.drop_set]
  split
  · exact Nat.le_refl _
  · next hik =>
    have := sum_set (l.drop k) (i - k) x y (by rw [List.getElem?_drop, show k + (i - k) = i by omega]; exact h)
    omega
theorem get_le_sum {l : List Nat} {i x : Nat} (h : l[i]? = some x) : x ≤ l.sum := by
  have := sum_set l i x 0 h; omega

def addT (s : List Nat) (t : Nat) : List Nat := s ++ [t]
theorem addT_len (s : List Nat) (t : Nat) : (addT s t).length = s.length + 1 := by unfold addT; rw [List.length_append]; rfl
def TalOp (n : Nat) (cs : List CallV) (ws : List Nat) (i : Nat) : TalQ ⊕ Nat → Prop
  | .inl (.cnt a f w) => ∃ x, cs[i]? = some x ∧ 0 ≤ x.t ∧ x.o = 0 ∧ x.k = 0 ∧ a = x.t.toNat ∧ a < n ∧ (f = true → w = ws.getD a 0)
  | .inl (.rd _ k sum key) => k < n ∧ key = [] ∧ sum ≤ (ws.take k).sum ∧ (k = 0 → sum = 0) ∧ ∃ x, cs[i]? = some x ∧ x.o = 0 ∧ x.k = 1
  | .inr e => ∃ x, cs[i]? = some x ∧ (if x.o < 0 ∨ 1 ≤ x.o then e = 12 else e = 9 ∧ ¬ x.k = 0 ∧ ¬ x.k = 1)
structure TalF (n : Nat) (cs : List CallV) (st : St (talM n)) : Prop where
  len : st.ws.length = n
  sum : st.ws.sum = List.length st.s
  cw : List.length st.s ≤ st.cn.w
  pend : PendI cs st
  ev : ∀ (e : Nat) (v : Ev (talM n)), st.evs[e]? = some v → v.resp = 0 → TalOp n cs st.ws v.i v.q
section
variable {n : Nat} {cs : List CallV}
theorem talF_idle {st : St (talM n)} (h : TalF n cs st) : TalF n cs { st with idle := st.idle + 1 } := ⟨h.len, h.sum, h.cw, h.pend, h.ev⟩
theorem talF_first (hn : 1 ≤ n) : TalF n cs (stM (M := talM n) cs (List.replicate n 0) []) :=
  ⟨by simp [stM], by simp [stM], by simp [stM], fun f y q hy => by simp [stM] at hy, fun e v hv => by simp [stM] at hv⟩
theorem tal_invQ (s : (talM n).S) (x : CallV) : (invQ (M := talM n) s x).1 = s := by
  unfold invQ
  split
  · rfl
  · rfl
theorem talOp_new (hn : 1 ≤ n) (hth : ∀ x ∈ cs, 0 ≤ x.t ∧ x.t < n) (ws : List Nat) (s : (talM n).S) {i : Nat} {x : CallV} (hx : cs[i]? = some x) : TalOp n cs ws i (invQ (M := talM n) s x).2 := by
  have hm : ((talM n).m : Int) = 1 := rfl
  have ht := hth x (List.mem_of_getElem? hx)
  unfold invQ
  by_cases ho : x.o < 0 ∨ 1 ≤ x.o
  · rw [if_pos (by rw [hm]; exact ho)]
    exact ⟨x, hx, by rw [if_pos ho]⟩
  · rw [if_neg (by rw [hm]; exact ho), tal_inv_eq]
    by_cases k0 : x.k = 0
    · rw [if_pos k0]
      exact ⟨x, hx, ht.1, by omega, k0, rfl, by omega, fun h => (by cases h)⟩
    · rw [if_neg k0]
      by_cases k1 : x.k = 1
      · rw [if_pos k1]
        exact ⟨by omega, rfl, Nat.zero_le _, fun _ => rfl, x, hx, by omega, k1⟩
      · rw [if_neg k1]
        exact ⟨x, hx, by rw [if_neg ho]; exact ⟨rfl, k0, k1⟩⟩
theorem talF_turn (hn : 1 ≤ n) (hth : ∀ x ∈ cs, 0 ≤ x.t ∧ x.t < n) {st : St (talM n)} (h : TalF n cs st) {i : Nat} {x : CallV} {p : Int} (hno : nowOf (thr cs) st.fin p = some i) (hx : cs[i]? = some x) : TalF n cs (st.turn i x p) := by
  have hs : (st.turn i x p).s = st.s := by
    unfold St.turn
    split
    · rfl
    · exact tal_invQ _ _
  have hc : (st.turn i x p).cn = st.cn := by unfold St.turn; split <;> rfl
  refine ⟨by rw [turn_ws]; exact h.len, by rw [turn_ws, hs]; exact h.sum, by rw [hs, hc]; exact h.cw, h.pend.turn hno, fun e v hv hr => ?_⟩
  rw [turn_ws]
  rcases turn_evs (List.mem_of_getElem? hv) with hv' | rfl
  · obtain ⟨k, hk⟩ := List.mem_iff_getElem?.1 hv'
    exact h.ev k v hk hr
  · exact talOp_new hn hth _ _ hx
/-- other operations' facts stay when words grow, but for the word that is written -/
theorem talOp_grow {ws ws' : List Nat} {i a : Nat} (hk : ∀ k, (ws.take k).sum ≤ (ws'.take k).sum) (ha : ∀ b, b ≠ a → ws'.getD b 0 = ws.getD b 0) {q : TalQ ⊕ Nat} (h : TalOp n cs ws i q) (hne : ∀ b f w, q = .inl (.cnt b f w) → b ≠ a) : TalOp n cs ws' i q := by
  match q, h, hne with
  | .inl (.cnt b f w), h, hne =>
    obtain ⟨x, h1, h2, h3, h4, h5, h6, h7⟩ := h
    exact ⟨x, h1, h2, h3, h4, h5, h6, fun hf => by rw [ha b (hne b f w rfl)]; exact h7 hf⟩
  | .inl (.rd b k sum key), h, _ =>
    obtain ⟨h1, h2, h3, h4⟩ := h
    exact ⟨h1, h2, Nat.le_trans h3 (hk k), h4⟩
  | .inr e, h, _ => exact h
/-- what a step makes of a tally's words, ticks and operation -/
theorem talF_step {st : St (talM n)} (h : TalF n cs st) (hcn : st.cn.w < 9223372036854775807) (ht : 0 < st.ticks) {i : Nat} {p : Int} {e : Nat} {v : Ev (talM n)} (hc : st.cur p = some e) (hv : st.evs[e]? = some v) (hr0 : v.resp = 0) : TalF n cs (st.step i p e v) := by
  have hel := (List.getElem?_eq_some_iff.1 hv).1
  have hO := h.ev e v hv hr0
  have hpe := h.pend.step (i := i) ht hc hv hr0
  have hws := step_ws (st := st) (i := i) (p := p) (e := e) (v := v)
  have hss : (st.step i p e v).s = (stepQ st.s v.q st.ws st.cn st.ticks).s := by unfold St.step; split <;> rfl
  have hcc : (st.step i p e v).cn = (stepQ st.s v.q st.ws st.cn st.ticks).cn := by unfold St.step; split <;> rfl
  have hmi : (midEv st v).i = v.i := by unfold midEv; split <;> rfl
  -- it is enough to know the words, the ticks, the counts, and the operation
  have fin : ∀ (q' : TalQ ⊕ Nat) (ws' : List Nat) (s' : List Nat) (cn' : Cn), (stepQ st.s v.q st.ws st.cn st.ticks).ws = ws' → (stepQ st.s v.q st.ws st.cn st.ticks).s = s' → (stepQ st.s v.q st.ws st.cn st.ticks).cn = cn' →
      ws'.length = n → ws'.sum = s'.length → s'.length ≤ cn'.w → ((midEv st v).resp = 0 → TalOp n cs ws' v.i (midEv st v).q) →
      (∀ (f : Nat) (u : Ev (talM n)), f ≠ e → st.evs[f]? = some u → u.resp = 0 → TalOp n cs ws' u.i u.q) → TalF n cs (st.step i p e v) := fun q' ws' s' cn' e1 e2 e3 h1 h2 h3 h4 h5 => by
    refine ⟨by rw [hws, e1]; exact h1, by rw [hws, hss, e1, e2]; exact h2, by rw [hss, hcc, e2, e3]; exact h3, hpe, fun f u hu hur => ?_⟩
    rw [hws, e1]
    rw [step_evs] at hu
    rcases set_get hu hel with ⟨rfl, rfl⟩ | ⟨hfe, hu'⟩
    · rw [hmi]; exact h4 hur
    · exact h5 f u hfe hu' hur
  have hth : ∀ (f : Nat) (u : Ev (talM n)), f ≠ e → st.evs[f]? = some u → u.resp = 0 → ∀ a b w w' f1 f2, v.q = .inl (.cnt a f1 w) → u.q = .inl (.cnt b f2 w') → b ≠ a := fun f u hfe hu hur a b w w' f1 f2 hq hq2 hab => by
    subst hab
    have o1 := hO
    rw [hq] at o1
    obtain ⟨x, hx1, hx2, _, _, hx3, _⟩ := o1
    have o2 := h.ev f u hu hur
    rw [hq2] at o2
    obtain ⟨y, hy1, hy2, _, _, hy3, _⟩ := o2
    have et : x.t = y.t := by omega
    exact hfe (h.pend.alone hu hv hur hr0 (q := x.t) (by rw [thr_get hy1, et]) (thr_get hx1))
  cases hq : v.q with
  | inr er =>
    have hans : (stepQ st.s v.q st.ws st.cn st.ticks).ans = some ⟨er, 0, []⟩ := by rw [hq]; rfl
    refine fin (.inr er) st.ws st.s st.cn (by rw [hq]; rfl) (by rw [hq]; rfl) (by rw [hq]; rfl) h.len h.sum h.cw (fun hr => ?_) (fun f u _ hu hur => h.ev f u hu hur)
    rw [midEv_done hans] at hr
    exact absurd (show st.ticks = 0 from hr) (by omega)
  | inl q =>
    rw [hq] at hO
    match q, hq, hO with
    | .cnt a false w, hq, hO =>
      obtain ⟨x, h1, h2, h3, h4, h5, h6, _⟩ := hO
      have hans : (stepQ st.s v.q st.ws st.cn st.ticks).ans = none := by rw [hq]; rfl
      refine fin (.inl (.cnt a true (st.ws.getD a 0))) st.ws st.s { st.cn with r := st.cn.r + 1 } (by rw [hq]; rfl) (by rw [hq]; rfl) (by rw [hq]; rfl) h.len h.sum h.cw (fun _ => ?_) (fun f u _ hu hur => h.ev f u hu hur)
      rw [midEv_more hans, hq]
      exact ⟨x, h1, h2, h3, h4, h5, h6, fun _ => rfl⟩
    | .cnt a true w, hq, hO =>
      obtain ⟨x, h1, h2, h3, h4, h5, h6, h7⟩ := hO
      have hw := h7 rfl
      obtain ⟨y, hy⟩ : ∃ y, st.ws[a]? = some y := ⟨st.ws[a]'(by rw [h.len]; exact h6), List.getElem?_eq_getElem _⟩
      have hyw : w = y := by rw [hw, List.getD_eq_getElem?_getD, hy]; rfl
      subst hyw
      have hans : (stepQ st.s v.q st.ws st.cn st.ticks).ans = some ⟨0, 0, []⟩ := by rw [hq]; rfl
      have hbig : st.ws.sum < 18446744073709551615 := by have h1 := h.sum; have h2 := h.cw; omega
      have hle := get_le_sum hy
      have hmod : (w + 1) % 18446744073709551616 = w + 1 := Nat.mod_eq_of_lt (by omega)
      have hsum := sum_set st.ws a w (w + 1) hy
      refine fin (.inl (.cnt a true w)) (st.ws.set a (w + 1)) (addT st.s st.ticks) { st.cn with w := st.cn.w + 1 } (by rw [hq]; show st.ws.set a ((w + 1) % 18446744073709551616) = _; rw [hmod]) (by rw [hq]; rfl) (by rw [hq]; rfl) (by rw [List.length_set]; exact h.len) ?_ ?_ (fun hr => ?_) (fun f u hfe hu hur => ?_)
      · refine Eq.trans ?_ (addT_len st.s st.ticks).symm; have := h.sum; omega
      · exact Nat.le_trans (Nat.le_of_eq (addT_len st.s st.ticks)) (Nat.succ_le_succ h.cw)
      · rw [midEv_done hans] at hr
        exact absurd (show st.ticks = 0 from hr) (by omega)
      · refine talOp_grow (a := a) (fun k => sum_take_set st.ws a k w (w + 1) hy (by omega)) (fun b hb => ?_) (h.ev f u hu hur) (fun b f2 w' hq2 => hth f u hfe hu hur a b w w' true f2 hq hq2)
        rw [List.getD_eq_getElem?_getD, List.getD_eq_getElem?_getD, List.getElem?_set_ne (fun h => hb h.symm)]
    | .rd b k sum key, hq, hO =>
      obtain ⟨h1, h2, h3, h4, h5⟩ := hO
      subst h2
      obtain ⟨y, hy⟩ : ∃ y, st.ws[k]? = some y := ⟨st.ws[k]'(by rw [h.len]; exact h1), List.getElem?_eq_getElem _⟩
      have hg : st.ws.getD k 0 = y := by rw [List.getD_eq_getElem?_getD, hy]; rfl
      have e0 : stepQ (M := talM n) st.s (.inl (.rd b k sum [])) st.ws st.cn st.ticks = ⟨(talNext n st.s (.rd b k sum []) (st.ws.getD k 0) st.ticks).1, .inl (talNext n st.s (.rd b k sum []) (st.ws.getD k 0) st.ticks).2.1, st.ws, { st.cn with r := st.cn.r + 1 }, (talNext n st.s (.rd b k sum []) (st.ws.getD k 0) st.ticks).2.2⟩ := rfl
      by_cases hk : k + 1 < n
      · have e1 : talNext n st.s (.rd b k sum []) (st.ws.getD k 0) st.ticks = (st.s, .rd (if k = 0 then st.ticks else b) (k + 1) ((sum + st.ws.getD k 0) % 18446744073709551616) [], none) := by unfold talNext; simp only; rw [if_pos hk] <;> rfl
        rw [e1] at e0
        have hans : (stepQ st.s v.q st.ws st.cn st.ticks).ans = none := by rw [hq, e0]
        refine fin (.inl (.rd (if k = 0 then st.ticks else b) (k + 1) ((sum + st.ws.getD k 0) % 18446744073709551616) [])) st.ws st.s { st.cn with r := st.cn.r + 1 } (by rw [hq]; exact congrArg Out.ws e0) (by rw [hq]; exact congrArg Out.s e0) (by rw [hq]; exact congrArg Out.cn e0) h.len h.sum h.cw (fun _ => ?_) (fun f u _ hu hur => h.ev f u hu hur)
        rw [midEv_more hans, hq, e0]
        refine ⟨hk, rfl, ?_, fun h => by omega, h5⟩
        rw [sum_take_succ hy, hg]
        have := Nat.mod_le (sum + y) 18446744073709551616
        omega
      · have e1 : (talNext n st.s (.rd b k sum []) (st.ws.getD k 0) st.ticks).1 = st.s := by unfold talNext; simp only; rw [if_neg hk]
        have e2 : ∃ a, (talNext n st.s (.rd b k sum []) (st.ws.getD k 0) st.ticks).2.2 = some a := by unfold talNext; simp only; rw [if_neg hk]; exact ⟨_, rfl⟩
        obtain ⟨a, e2⟩ := e2
        have hans : (stepQ st.s v.q st.ws st.cn st.ticks).ans = some a := by rw [hq, e0]; exact e2
        refine fin (.inl (talNext n st.s (.rd b k sum []) (st.ws.getD k 0) st.ticks).2.1) st.ws st.s { st.cn with r := st.cn.r + 1 } (by rw [hq]; exact congrArg Out.ws e0) (by rw [hq]; exact (congrArg Out.s e0).trans e1) (by rw [hq]; exact congrArg Out.cn e0) h.len h.sum h.cw (fun hr => ?_) (fun f u _ hu hur => h.ev f u hu hur)
        rw [midEv_done hans] at hr
        exact absurd (show st.ticks = 0 from hr) (by omega)
theorem run_w_le (x : Acc) (l : List Nat) (c : Cn) : c.w ≤ (x.run l c).2.2.w := by
  cases x with
  | rd a => exact Nat.le_refl _
  | wr a v => exact Nat.le_succ _
  | sw a x y => simp only [Acc.run]; split <;> exact Nat.le_refl _
  | ad a d => exact Nat.le_refl _
def TalI (n : Nat) (cs : List CallV) (st : St (talM n)) : Prop := st.cn.w < 9223372036854775807 → TalF n cs st
theorem talI_idle {st : St (talM n)} (h : TalI n cs st) : TalI n cs { st with idle := st.idle + 1 } := fun hc => talF_idle (h hc)
theorem talI_first (hn : 1 ≤ n) : TalI n cs (stM (M := talM n) cs (List.replicate n 0) []) := fun _ => talF_first hn
theorem talI_turn (hn : 1 ≤ n) (hth : ∀ x ∈ cs, 0 ≤ x.t ∧ x.t < n) {st : St (talM n)} (h : TalI n cs st) {i : Nat} {x : CallV} {p : Int} (hno : nowOf (thr cs) st.fin p = some i) (hx : cs[i]? = some x) : TalI n cs (st.turn i x p) := fun hc => by
  have e : (st.turn i x p).cn = st.cn := by unfold St.turn; split <;> rfl
  rw [e] at hc
  exact talF_turn hn hth (h hc) hno hx
theorem talI_step {st : St (talM n)} (h : TalI n cs st) (ht : 0 < st.ticks) {i : Nat} {p : Int} {e : Nat} {v : Ev (talM n)} (hc : st.cur p = some e) (hv : st.evs[e]? = some v) (hr0 : v.resp = 0) : TalI n cs (st.step i p e v) := fun hcn => by
  have e1 : (st.step i p e v).cn = (stepQ st.s v.q st.ws st.cn st.ticks).cn := by unfold St.step; split <;> rfl
  have e2 : st.cn.w ≤ (stepQ st.s v.q st.ws st.cn st.ticks).cn.w := by
    unfold stepQ
    cases v.q with
    | inl q => exact run_w_le _ _ _
    | inr e => exact Nat.le_refl _
  rw [e1] at hcn
  exact talF_step (h (by omega)) (by omega) ht hc hv hr0
end
end
section
open Go.RowKit
set_option linter.unusedVariables false
def isCntC (cs : List CallV) (i : Nat) : Bool := match cs[i]? with | some x => decide (x.o = 0 ∧ x.k = 0) | none => false
theorem isCntC_some {cs : List CallV} {i : Nat} {x : CallV} (h : cs[i]? = some x) : isCntC cs i = decide (x.o = 0 ∧ x.k = 0) := by unfold isCntC; rw [h]
section
variable {n : Nat} {cs : List CallV}
def isCnt (cs : List CallV) (w : Nat) (v : Ev (talM n)) : Bool := decide (¬ v.resp = 0 ∧ v.resp ≤ w) && isCntC cs v.i
def leC (w : Nat) (s : List Nat) : Nat := s.countP (fun t => decide (t ≤ w))
def ltC (w : Nat) (s : List Nat) : Nat := s.countP (fun t => decide (t < w))
/-- what is known of an operation that has made a step, and has not responded -/
def TalPend (s ws : List Nat) (v : Ev (talM n)) : Prop :=
  keyQ (M := talM n) s v.q = [] ∧ (∀ a f w, v.q = .inl (.cnt a f w) → f = true) ∧ (∀ e, v.q ≠ .inr e) ∧
  ∀ inv k sum key, v.q = .inl (.rd inv k sum key) → 1 ≤ k ∧ inv = v.inv ∧ ltC v.inv s ≤ sum + (ws.drop k).sum ∧ ∀ t ∈ s, t ≠ v.inv
def TalDone (cs : List CallV) (s : List Nat) (v : Ev (talM n)) : Prop :=
  ∃ x, cs[v.i]? = some x ∧ ((x.o < 0 ∨ 1 ≤ x.o) → v.ans = ⟨12, 0, []⟩ ∧ v.key = [2 * v.resp]) ∧
    (¬ (x.o < 0 ∨ 1 ≤ x.o) → (x.k = 0 → v.ans = ⟨0, 0, []⟩ ∧ v.key = [2 * v.resp] ∧ v.inv < v.resp) ∧
      (x.k = 1 → ∃ w, v.key = [2 * w, 2 * v.resp] ∧ v.inv ≤ w ∧ w ≤ v.resp ∧ v.ans = ⟨0, leC w s, []⟩) ∧ (¬ x.k = 0 → ¬ x.k = 1 → v.ans = ⟨9, 0, []⟩ ∧ v.key = [2 * v.resp]))
structure TalL (cs : List CallV) (st : St (talM n)) : Prop where
  lt : ∀ t ∈ (st.s : List Nat), 1 ≤ t ∧ t ≤ st.ticks
  srt : List.Pairwise (· < ·) (st.s : List Nat)
  cnt : ∀ w, st.evs.countP (isCnt cs w) = leC w st.s
  pend : ∀ (e : Nat) (v : Ev (talM n)), st.evs[e]? = some v → v.resp = 0 → TalPend st.s st.ws v
  done : ∀ (e : Nat) (v : Ev (talM n)), st.evs[e]? = some v → ¬ v.resp = 0 → TalDone cs st.s v
theorem countP_set {α : Type} (f : α → Bool) : ∀ (l : List α) (e : Nat) (u v : α), l[e]? = some v → (l.set e u).countP f + (if f v then 1 else 0) = l.countP f + (if f u then 1 else 0)
  | [], _, _, _, h => by simp at h
  | a :: r, 0, u, v, h => by
    have e : a = v := by simpa using h
    subst e
    rw [List.set_cons_zero, List.countP_cons, List.countP_cons]; omega
  | a :: r, e + 1, u, v, h => by
    have := countP_set f r e u v (by simpa using h)
    rw [List.set_cons_succ, List.countP_cons, List.countP_cons]; omega
theorem addT_mem {s : List Nat} {t x : Nat} (h : x ∈ addT s t) : x ∈ s ∨ x = t := by
  unfold addT at h
  rcases List.mem_append.1 h with h | h
  · exact .inl h
  · rw [List.mem_singleton] at h; exact .inr h
theorem leC_snoc (w : Nat) (s : List Nat) (t : Nat) : leC w (addT s t) = leC w s + (if t ≤ w then 1 else 0) := by
  unfold leC addT; rw [List.countP_append, List.countP_singleton]; simp
theorem ltC_snoc (w : Nat) (s : List Nat) (t : Nat) : ltC w (addT s t) = ltC w s + (if t < w then 1 else 0) := by
  unfold ltC addT; rw [List.countP_append, List.countP_singleton]; simp
theorem leC_all {w : Nat} {s : List Nat} (h : ∀ t ∈ s, t ≤ w) : leC w s = s.length := by
  unfold leC; rw [List.countP_eq_length]; intro t ht; exact decide_eq_true (h t ht)
theorem ltC_all {w : Nat} {s : List Nat} (h : ∀ t ∈ s, t < w) : ltC w s = s.length := by
  unfold ltC; rw [List.countP_eq_length]; intro t ht; exact decide_eq_true (h t ht)
theorem leC_mono {a b : Nat} (h : a ≤ b) (s : List Nat) : leC a s ≤ leC b s := by
  unfold leC; exact List.countP_mono_left (fun t _ ht => decide_eq_true (by have := of_decide_eq_true ht; omega))
theorem ltC_le {w : Nat} {s : List Nat} (h : ∀ t ∈ s, t ≠ w) : ltC w s = leC w s := by
  unfold leC ltC
  refine List.countP_congr fun t ht => ?_
  have := h t ht
  simp; omega
/-- of a list that grows so many are at most its k-th one -/
theorem leC_nth : ∀ (s : List Nat), s.Pairwise (· < ·) → ∀ (k c : Nat), s[k]? = some c → leC c s = k + 1
  | [], _, k, c, h => by simp at h
  | a :: r, hp, 0, c, h => by
    have e : a = c := by simpa using h
    subst e
    obtain ⟨h1, _⟩ := List.pairwise_cons.1 hp
    unfold leC
    rw [List.countP_cons, if_pos (by simp)]
    have : r.countP (fun t => decide (t ≤ a)) = 0 := by
      rw [List.countP_eq_zero]; intro t ht; have := h1 t ht; simp; omega
    omega
  | a :: r, hp, k + 1, c, h => by
    obtain ⟨h1, h2⟩ := List.pairwise_cons.1 hp
    have hr : r[k]? = some c := by simpa using h
    have ih := leC_nth r h2 k c hr
    have := h1 c (List.mem_of_getElem? hr)
    unfold leC at *
    rw [List.countP_cons, if_pos (by simp; omega), ih]
/-- the moment at which the count was what is read -/
theorem moment_ok {s : List Nat} (hs : s.Pairwise (· < ·)) {inv k : Nat} (hne : ∀ t ∈ s, t ≠ inv) (hlo : ltC inv s ≤ k) (hhi : k ≤ s.length) : leC (max inv (nthL s k)) s = k := by
  unfold nthL
  by_cases hk : k = 0
  · subst hk
    rw [if_pos rfl, Nat.max_zero, ← ltC_le hne]; omega
  · rw [if_neg hk]
    obtain ⟨c, hc⟩ : ∃ c, s[k - 1]? = some c := ⟨s[k - 1]'(by omega), List.getElem?_eq_getElem (by omega)⟩
    rw [show s.getD (k - 1) 0 = c by rw [List.getD_eq_getElem?_getD, hc]; rfl]
    have h1 := leC_nth s hs (k - 1) c hc
    rcases Nat.le_total inv c with h | h
    · rw [Nat.max_eq_right h]; omega
    · rw [Nat.max_eq_left h]
      have h2 := leC_mono h s
      rw [← ltC_le hne] at h2 ⊢
      omega
theorem nth_le {s : List Nat} {t k : Nat} (h : ∀ x ∈ s, x ≤ t) : nthL s k ≤ t := by
  unfold nthL
  split
  · omega
  · rw [List.getD_eq_getElem?_getD]
    cases hc : s[k - 1]? with
    | none => exact Nat.zero_le _
    | some c => exact h c (List.mem_of_getElem? hc)

theorem TalL.stepT {T : St (talM n)} (hF : TalF n cs T) (hcn : T.cn.w < 9223372036854775807) {i : Nat} {p : Int} {e : Nat} {v : Ev (talM n)} (hc : T.cur p = some e) (hv : T.evs[e]? = some v) (hr0 : v.resp = 0) (ht : 0 < T.ticks)
    (hlt : ∀ t ∈ (T.s : List Nat), 1 ≤ t ∧ t < T.ticks) (hsrt : List.Pairwise (· < ·) (T.s : List Nat)) (hcnt : ∀ w, T.evs.countP (isCnt cs w) = leC w T.s)
    (hpend : ∀ (f : Nat) (u : Ev (talM n)), f ≠ e → T.evs[f]? = some u → u.resp = 0 → TalPend T.s T.ws u ∧ u.inv < T.ticks)
    (hdone : ∀ (f : Nat) (u : Ev (talM n)), T.evs[f]? = some u → ¬ u.resp = 0 → TalDone cs T.s u ∧ u.resp < T.ticks)
    (hvp : v.inv ≤ T.ticks ∧ keyQ (M := talM n) T.s v.q = [] ∧ (∀ a w, v.q = .inl (.cnt a true w) → v.inv < T.ticks) ∧ ∀ inv k sum key, v.q = .inl (.rd inv k sum key) → (k = 0 → v.inv = T.ticks) ∧ (1 ≤ k → inv = v.inv) ∧ ltC v.inv T.s ≤ sum + (T.ws.drop k).sum ∧ ∀ t ∈ (T.s : List Nat), t ≠ v.inv) :
    TalL cs (T.step i p e v) := by
  have hel := (List.getElem?_eq_some_iff.1 hv).1
  have hO := hF.ev e v hv hr0
  have hws := step_ws (st := T) (i := i) (p := p) (e := e) (v := v)
  have hss : (T.step i p e v).s = (stepQ T.s v.q T.ws T.cn T.ticks).s := by unfold St.step; split <;> rfl
  have hev := step_evs (st := T) (i := i) (p := p) (e := e) (v := v)
  have htt : (T.step i p e v).ticks = T.ticks := step_ticks.1
  have hmi : (midEv T v).i = v.i ∧ (midEv T v).inv = v.inv := by unfold midEv; split <;> exact ⟨rfl, rfl⟩
  have hnc : ∀ w, isCnt cs w v = false := fun w => by unfold isCnt; rw [hr0]; simp
  -- words and ticks as they were
  have same : (stepQ T.s v.q T.ws T.cn T.ticks).s = T.s → (stepQ T.s v.q T.ws T.cn T.ticks).ws = T.ws → (∀ w, isCnt cs w (midEv T v) = false) → ((midEv T v).resp = 0 → TalPend T.s T.ws (midEv T v)) → (¬ (midEv T v).resp = 0 → TalDone cs T.s (midEv T v)) → TalL cs (T.step i p e v) := fun e1 e2 h1 h2 h3 => by
    refine ⟨fun t h => ?_, ?_, fun w => ?_, fun f u hu hur => ?_, fun f u hu hur => ?_⟩
    · rw [hss, e1] at h; rw [htt]; have := hlt t h; omega
    · rw [hss, e1]; exact hsrt
    · rw [hss, e1, hev, ← hcnt w]
      have := countP_set (isCnt cs w) T.evs e (midEv T v) v hv
      rw [h1 w, hnc w] at this
      simpa using this
    · rw [hss, hws, e1, e2]
      rw [hev] at hu
      rcases set_get hu hel with ⟨rfl, rfl⟩ | ⟨hfe, hu'⟩
      · exact h2 hur
      · exact (hpend f u hfe hu' hur).1
    · rw [hss, e1]
      rw [hev] at hu
      rcases set_get hu hel with ⟨rfl, rfl⟩ | ⟨hfe, hu'⟩
      · exact h3 hur
      · exact (hdone f u hu' hur).1
  cases hq : v.q with
  | inr er =>
    rw [hq] at hO
    obtain ⟨x, hx, hO⟩ := hO
    have hans : (stepQ T.s v.q T.ws T.cn T.ticks).ans = some ⟨er, 0, []⟩ := by rw [hq]; rfl
    have hme : midEv T v = v.done (.inr er) T.ticks ⟨er, 0, []⟩ [] := by rw [midEv_done hans, hq]; rfl
    have hnot : isCntC cs v.i = false := by
      rw [isCntC_some hx]
      by_cases ho : x.o < 0 ∨ 1 ≤ x.o
      · exact decide_eq_false (by omega)
      · rw [if_neg ho] at hO; exact decide_eq_false (by omega)
    refine same (by rw [hq]; rfl) (by rw [hq]; rfl) (fun w => ?_) (fun hr => ?_) (fun hr => ?_)
    · unfold isCnt; rw [hmi.1, hnot, Bool.and_false]
    · rw [hme] at hr; exact absurd (show T.ticks = 0 from hr) (by omega)
    · rw [hme]
      refine ⟨x, hx, fun ho => ?_, fun ho => ?_⟩
      · rw [if_pos ho] at hO; subst hO; exact ⟨rfl, rfl⟩
      · rw [if_neg ho] at hO
        obtain ⟨rfl, k0, k1⟩ := hO
        exact ⟨fun h => absurd h k0, fun h => absurd h k1, fun _ _ => ⟨rfl, rfl⟩⟩
  | inl q =>
    rw [hq] at hO
    match q, hq, hO with
    | .cnt a false w, hq, hO =>
      have hans : (stepQ T.s v.q T.ws T.cn T.ticks).ans = none := by rw [hq]; rfl
      have hme : midEv T v = v.more (.inl (.cnt a true (T.ws.getD a 0))) := by rw [midEv_more hans, hq]; rfl
      refine same (by rw [hq]; rfl) (by rw [hq]; rfl) (fun w => ?_) (fun hr => ?_) (fun hr => ?_)
      · rw [hme]; unfold isCnt; rw [show (v.more _).resp = 0 from hr0]; simp
      · rw [hme]
        refine ⟨rfl, fun a' f w' h => (by cases h; rfl), fun e h => (by cases h), fun inv k sum key h => (by cases h)⟩
      · rw [hme] at hr; exact absurd hr0 hr
    | .cnt a true w, hq, hO =>
      obtain ⟨x, h1, h2, h3, h4, h5, h6, h7⟩ := hO
      have hw := h7 rfl
      obtain ⟨y, hy⟩ : ∃ y, T.ws[a]? = some y := ⟨T.ws[a]'(by rw [hF.len]; exact h6), List.getElem?_eq_getElem _⟩
      have hyw : w = y := by rw [hw, List.getD_eq_getElem?_getD, hy]; rfl
      subst hyw
      have hle := get_le_sum hy
      have hbig : T.ws.sum < 18446744073709551615 := by have h1 := hF.sum; have h2 := hF.cw; omega
      have hmod : (w + 1) % 18446744073709551616 = w + 1 := Nat.mod_eq_of_lt (by omega)
      have hans : (stepQ T.s v.q T.ws T.cn T.ticks).ans = some ⟨0, 0, []⟩ := by rw [hq]; rfl
      have hme : midEv T v = v.done (.inl (.cnt a true w)) T.ticks ⟨0, 0, []⟩ [] := by rw [midEv_done hans, hq]; rfl
      have e1 : (stepQ T.s v.q T.ws T.cn T.ticks).s = addT T.s T.ticks := by rw [hq]; rfl
      have e2 : (stepQ T.s v.q T.ws T.cn T.ticks).ws = T.ws.set a (w + 1) := by rw [hq]; show T.ws.set a ((w + 1) % 18446744073709551616) = _; rw [hmod]
      have hvi := hvp.2.2.1 a w hq
      refine ⟨fun t h => ?_, ?_, fun w' => ?_, fun f u hu hur => ?_, fun f u hu hur => ?_⟩
      · rw [hss, e1] at h; rw [htt]
        rcases addT_mem h with h | h
        · have := hlt t h; omega
        · omega
      · rw [hss, e1]
        refine List.pairwise_append.2 ⟨hsrt, List.pairwise_singleton _ _, fun a ha b hb => ?_⟩
        rw [List.mem_singleton] at hb; subst hb
        exact (hlt a ha).2
      · rw [hss, e1, hev, leC_snoc, ← hcnt w']
        have := countP_set (isCnt cs w') T.evs e (midEv T v) v hv
        rw [hnc w'] at this
        have hc2 : isCnt cs w' (midEv T v) = decide (T.ticks ≤ w') := by
          rw [hme]
          unfold isCnt
          rw [show (v.done (.inl (.cnt a true w)) T.ticks ⟨0, 0, []⟩ []).i = v.i from rfl, isCntC_some h1, show (v.done (.inl (.cnt a true w)) T.ticks ⟨0, 0, []⟩ []).resp = T.ticks from rfl, decide_eq_true (show x.o = 0 ∧ x.k = 0 from ⟨h3, h4⟩), Bool.and_true]
          by_cases hh : T.ticks ≤ w'
          · rw [decide_eq_true hh]; exact decide_eq_true ⟨by omega, hh⟩
          · rw [decide_eq_false hh]; exact decide_eq_false (fun h => hh h.2)
        rw [hc2] at this
        simpa using this
      · rw [hss, hws, e1, e2]
        rw [hev] at hu
        rcases set_get hu hel with ⟨rfl, rfl⟩ | ⟨hfe, hu'⟩
        · rw [hme] at hur; exact absurd (show T.ticks = 0 from hur) (by omega)
        · obtain ⟨⟨g1, g2, g3, g4⟩, hui⟩ := hpend f u hfe hu' hur
          refine ⟨?_, g2, g3, fun inv k sum key hk => ?_⟩
          · cases hqq : u.q with
            | inl q => rw [hqq] at g1; exact g1
            | inr e => rfl
          · obtain ⟨g5, g6, g7, g8⟩ := g4 inv k sum key hk
            refine ⟨g5, g6, ?_, fun t ht' => ?_⟩
            · rw [ltC_snoc, if_neg (by omega)]
              have := sum_drop_set T.ws a k w (w + 1) hy (by omega)
              omega
            · rcases addT_mem ht' with h | h
              · exact g8 t h
              · omega
      · rw [hss, e1]
        rw [hev] at hu
        rcases set_get hu hel with ⟨rfl, rfl⟩ | ⟨hfe, hu'⟩
        · rw [hme]
          refine ⟨x, h1, fun ho => absurd ho (by omega), fun _ => ⟨fun _ => ⟨rfl, rfl, hvi⟩, fun hk => absurd hk (by omega), fun hk => absurd h4 hk⟩⟩
        · obtain ⟨⟨x', g1, g2, g3⟩, hur'⟩ := hdone f u hu' hur
          refine ⟨x', g1, g2, fun ho => ⟨(g3 ho).1, fun hk => ?_, (g3 ho).2.2⟩⟩
          obtain ⟨w', g4, g5, g6, g7⟩ := (g3 ho).2.1 hk
          exact ⟨w', g4, g5, g6, by rw [leC_snoc, if_neg (by omega)]; exact g7⟩
    | .rd b k sum key, hq, hO =>
      obtain ⟨h1, h2, h3, h4, x, hx, hxo, hxk⟩ := hO
      subst h2
      obtain ⟨g1, g2, g3, g4⟩ := hvp.2.2.2 b k sum [] hq
      obtain ⟨y, hy⟩ : ∃ y, T.ws[k]? = some y := ⟨T.ws[k]'(by rw [hF.len]; exact h1), List.getElem?_eq_getElem _⟩
      have hg : T.ws.getD k 0 = y := by rw [List.getD_eq_getElem?_getD, hy]; rfl
      have hdrop : (T.ws.drop k).sum = y + (T.ws.drop (k + 1)).sum := by
        obtain ⟨hkl, hye⟩ := List.getElem?_eq_some_iff.1 hy
        rw [List.drop_eq_getElem_cons hkl, List.sum_cons, hye]
      have hinv : (if k = 0 then T.ticks else b) = v.inv := by
        by_cases hk0 : k = 0
        · rw [if_pos hk0]; exact (g1 hk0).symm
        · rw [if_neg hk0]; exact g2 (by omega)
      have htake := sum_take_succ hy
      have htle := sum_take_le T.ws (k + 1)
      have hsl : T.ws.sum = List.length (T.s : List Nat) := hF.sum
      have hcw := hF.cw
      have hmod : (sum + y) % 18446744073709551616 = sum + y := Nat.mod_eq_of_lt (by omega)
      have hnot : ∀ w, isCnt cs w (midEv T v) = false := fun w => by
        unfold isCnt; rw [hmi.1, isCntC_some hx, show decide (x.o = 0 ∧ x.k = 0) = false from decide_eq_false (by omega), Bool.and_false]
      have e0 : stepQ (M := talM n) T.s (.inl (.rd b k sum [])) T.ws T.cn T.ticks = ⟨(talNext n T.s (.rd b k sum []) (T.ws.getD k 0) T.ticks).1, .inl (talNext n T.s (.rd b k sum []) (T.ws.getD k 0) T.ticks).2.1, T.ws, { T.cn with r := T.cn.r + 1 }, (talNext n T.s (.rd b k sum []) (T.ws.getD k 0) T.ticks).2.2⟩ := rfl
      by_cases hk : k + 1 < n
      · have e1 : talNext n T.s (.rd b k sum []) (T.ws.getD k 0) T.ticks = (T.s, .rd v.inv (k + 1) (sum + y) [], none) := by unfold talNext; simp only; rw [if_pos hk, hg, hmod, hinv] <;> rfl
        rw [e1] at e0
        have hans : (stepQ T.s v.q T.ws T.cn T.ticks).ans = none := by rw [hq, e0]
        have hme : midEv T v = v.more (.inl (.rd v.inv (k + 1) (sum + y) [])) := by rw [midEv_more hans, hq, e0]
        refine same (by rw [hq, e0]) (by rw [hq, e0]) hnot (fun hr => ?_) (fun hr => ?_)
        · rw [hme]
          refine ⟨rfl, fun a' f w' h => (by cases h), fun e h => (by cases h), fun inv k' sum' key' h => ?_⟩
          cases h
          exact ⟨by omega, rfl, by show ltC v.inv _ ≤ _; omega, g4⟩
        · rw [hme] at hr; exact absurd hr0 hr
      · have hkn : k + 1 = n := by omega
        have e1 : talNext n T.s (.rd b k sum []) (T.ws.getD k 0) T.ticks = (T.s, .rd v.inv (k + 1) (sum + y) [2 * max v.inv (nthL T.s (sum + y)), 2 * T.ticks], some ⟨0, sum + y, []⟩) := by unfold talNext; simp only; rw [if_neg hk, hg, hmod, hinv] <;> rfl
        rw [e1] at e0
        have hans : (stepQ T.s v.q T.ws T.cn T.ticks).ans = some ⟨0, sum + y, []⟩ := by rw [hq, e0]
        have hme : midEv T v = v.done (.inl (.rd v.inv (k + 1) (sum + y) [2 * max v.inv (nthL T.s (sum + y)), 2 * T.ticks])) T.ticks ⟨0, sum + y, []⟩ [2 * max v.inv (nthL T.s (sum + y)), 2 * T.ticks] := by rw [midEv_done hans, hq, e0]; rfl
        have hmom : leC (max v.inv (nthL T.s (sum + y))) T.s = sum + y := by
          refine moment_ok hsrt g4 ?_ (by omega)
          have hd0 : (T.ws.drop (k + 1)).sum = 0 := by rw [List.drop_of_length_le (by rw [hF.len]; omega)]; rfl
          omega
        have hmax : max v.inv (nthL T.s (sum + y)) ≤ T.ticks := Nat.max_le.2 ⟨hvp.1, nth_le (fun t ht' => by have := hlt t ht'; omega)⟩
        refine same (by rw [hq, e0]) (by rw [hq, e0]) hnot (fun hr => ?_) (fun hr => ?_)
        · rw [hme] at hr; exact absurd (show T.ticks = 0 from hr) (by omega)
        · rw [hme]
          refine ⟨x, hx, fun ho => absurd ho (by omega), fun _ => ⟨fun h => absurd h (by omega), fun _ => ⟨_, rfl, Nat.le_max_left _ _, hmax, ?_⟩, fun _ h => absurd hxk h⟩⟩
          show (⟨0, sum + y, []⟩ : Ans) = _
          rw [hmom]
theorem TalL.turned (hn : 1 ≤ n) (hth : ∀ x ∈ cs, 0 ≤ x.t ∧ x.t < n) {st : St (talM n)} (h : TalL cs st) (hF : TalF n cs st) (hcn : st.cn.w < 9223372036854775807) (hR : RowI cs st) (hw : Wf cs st) {p : Int} {i : Nat} {x : CallV} (hno : nowOf (thr cs) st.fin p = some i) (hx : cs[i]? = some x) : TalL cs (pickM cs st p) := by
  obtain ⟨e, v, h1, h2, h3, h4, h5⟩ := pickM_cases hw hno hx
  rw [h5]
  have hc : (st.turn i x p).cn = st.cn := by unfold St.turn; split <;> rfl
  have hs : (st.turn i x p).s = st.s := by
    unfold St.turn
    split
    · rfl
    · exact tal_invQ _ _
  have hws : (st.turn i x p).ws = st.ws := turn_ws
  have htt : (st.turn i x p).ticks = st.ticks + 1 := turn_ticks
  have hold : ∀ (f : Nat) (u : Ev (talM n)), st.evs[f]? = some u → u.inv ≤ st.ticks ∧ (¬ u.resp = 0 → u.resp ≤ st.ticks) := fun f u hu => by
    have := hR.call u (List.mem_of_getElem? hu)
    exact ⟨this.2.2.1, fun hr => (this.2.2.2.2.2 hr).2.1⟩
  cases hcu : st.cur p with
  | some e0 =>
    have htu : st.turn i x p = st.tick := by unfold St.turn; rw [hcu]
    have hte : (st.turn i x p).evs = st.evs := by rw [htu]; rfl
    rw [hte] at h2
    refine TalL.stepT (talF_turn hn hth hF hno hx) (by rw [hc]; exact hcn) h1 (by rw [hte]; exact h2) h3 (by omega) (fun t ht => ?_) (by rw [hs]; exact h.srt) (fun w => by rw [hte, hs]; exact h.cnt w) (fun f u _ hu hur => ?_) (fun f u hu hur => ?_) ?_
    · rw [hs] at ht; have := h.lt t ht; omega
    · rw [hte] at hu; rw [hs, hws]
      exact ⟨h.pend f u hu hur, by have := (hold f u hu).1; omega⟩
    · rw [hte] at hu; rw [hs]
      exact ⟨h.done f u hu hur, by have := (hold f u hu).2 hur; omega⟩
    · obtain ⟨g1, g2, g3, g4⟩ := h.pend e v h2 h3
      have hvi := (hold e v h2).1
      rw [hs, hws, htt]
      refine ⟨by omega, g1, fun a w _ => by omega, fun inv k sum key hk => ?_⟩
      obtain ⟨g5, g6, g7, g8⟩ := g4 inv k sum key hk
      exact ⟨fun h0 => by omega, fun _ => g6, g7, g8⟩
  | none =>
    have htu : st.turn i x p = st.tick.begin i x p := by unfold St.turn; rw [hcu]
    have hcur : (st.turn i x p).cur p = some st.evs.length := by rw [htu]; exact updF_same _ _ _
    have hee : e = st.evs.length := by rw [h1] at hcur; exact Option.some.inj hcur
    have hte : (st.turn i x p).evs = st.evs ++ [⟨i, st.ticks + 1, 0, 0, ⟨0, 0, []⟩, [], (invQ st.s x).2⟩] := by rw [htu]; rfl
    have hvv : v = ⟨i, st.ticks + 1, 0, 0, ⟨0, 0, []⟩, [], (invQ st.s x).2⟩ := by
      have h2' := h2
      rw [hte, hee, List.getElem?_append_right (Nat.le_refl _), Nat.sub_self] at h2'
      exact (Option.some.inj h2').symm
    have hb : ∀ (f : Nat) (u : Ev (talM n)), (st.turn i x p).evs[f]? = some u → f ≠ e → st.evs[f]? = some u := fun f u hu hf => by
      rw [hte] at hu
      rcases snoc_get hu with ⟨rfl, _⟩ | ⟨_, hu'⟩
      · exact absurd hee.symm hf
      · exact hu'
    have hb2 : ∀ (f : Nat) (u : Ev (talM n)), (st.turn i x p).evs[f]? = some u → ¬ u.resp = 0 → st.evs[f]? = some u := fun f u hu hr => by
      rw [hte] at hu
      rcases snoc_get hu with ⟨_, rfl⟩ | ⟨_, hu'⟩
      · exact absurd rfl hr
      · exact hu'
    refine TalL.stepT (talF_turn hn hth hF hno hx) (by rw [hc]; exact hcn) h1 h2 h3 (by omega) (fun t ht => ?_) (by rw [hs]; exact h.srt) (fun w => ?_) (fun f u hf hu hur => ?_) (fun f u hu hur => ?_) ?_
    · rw [hs] at ht; have := h.lt t ht; omega
    · rw [hte, hs, List.countP_append, List.countP_singleton, h.cnt w]
      have : isCnt cs w (⟨i, st.ticks + 1, 0, 0, ⟨0, 0, []⟩, [], (invQ st.s x).2⟩ : Ev (talM n)) = false := by unfold isCnt; simp
      rw [this]; rfl
    · have hu' := hb f u hu hf
      rw [hs, hws]
      exact ⟨h.pend f u hu' hur, by have := (hold f u hu').1; omega⟩
    · have hu' := hb2 f u hu hur
      rw [hs]
      exact ⟨h.done f u hu' hur, by have := (hold f u hu').2 hur; omega⟩
    · have hO := talOp_new hn hth st.ws st.s hx
      subst hvv
      rw [hs, hws, htt]
      refine ⟨Nat.le_refl _, ?_, fun a w hq => ?_, fun inv k sum key hq => ?_⟩
      · show keyQ (M := talM n) st.s (invQ (M := talM n) st.s x).2 = []
        cases hq : (invQ (M := talM n) st.s x).2 with
        | inr e => rfl
        | inl q =>
          rw [hq] at hO
          match q, hO with
          | .cnt a f w, _ => rfl
          | .rd b k sum key, hO => exact hO.2.1
      · exfalso
        have hq' : (invQ (M := talM n) st.s x).2 = .inl (.cnt a true w) := hq
        unfold invQ at hq'
        split at hq'
        · cases hq'
        · rw [tal_inv_eq] at hq'
          simp only at hq'
          split at hq'
          · cases hq'
          · split at hq'
            · cases hq'
            · cases hq'
      · have hq' : (invQ (M := talM n) st.s x).2 = .inl (.rd inv k sum key) := hq
        have hk0 : k = 0 ∧ sum = 0 := by
          unfold invQ at hq'
          split at hq'
          · cases hq'
          · rw [tal_inv_eq] at hq'
            simp only at hq'
            split at hq'
            · cases hq'
            · split at hq'
              · cases hq'; exact ⟨rfl, rfl⟩
              · cases hq'
        obtain ⟨rfl, rfl⟩ := hk0
        refine ⟨fun _ => rfl, fun h0 => by omega, ?_, fun t ht => ?_⟩
        · show ltC (st.ticks + 1) st.s ≤ 0 + (st.ws.drop 0).sum
          rw [ltC_all (fun t ht => by have := h.lt t ht; omega), List.drop_zero, Nat.zero_add, hF.sum]
          exact Nat.le_refl _
        · have := h.lt t ht
          show t ≠ st.ticks + 1
          omega
end
end
section
open Go.RowKit
set_option linter.unusedVariables false
section
variable {n : Nat} {cs : List CallV}
/-- steps -/
def TalS (v : Ev (talM n)) : Prop := v.steps ≤ max n 2 ∧ (v.resp = 0 → match v.q with | .inl (.cnt a f w) => v.steps = (if f = true then 1 else 0) | .inl (.rd b k sum key) => v.steps = k ∧ k < n | .inr e => v.steps = 0)
theorem talS_step {st : St (talM n)} (h : ∀ (e : Nat) (v : Ev (talM n)), st.evs[e]? = some v → TalS v) (ht : 0 < st.ticks) {i : Nat} {p : Int} {e : Nat} {v : Ev (talM n)} (hv : st.evs[e]? = some v) (hr0 : v.resp = 0) : ∀ (f : Nat) (u : Ev (talM n)), (st.step i p e v).evs[f]? = some u → TalS u := fun f u hu => by
  have hel := (List.getElem?_eq_some_iff.1 hv).1
  rw [step_evs] at hu
  rcases set_get hu hel with ⟨rfl, rfl⟩ | ⟨_, hu'⟩
  · obtain ⟨h1, h2⟩ := h _ v hv
    have h2 := h2 hr0
    have hdone : ∀ a, (stepQ st.s v.q st.ws st.cn st.ticks).ans = some a → v.steps + 1 ≤ max n 2 → TalS (midEv st v) := fun a ha hs => by
      rw [midEv_done ha]
      exact ⟨hs, fun hr => absurd (show st.ticks = 0 from hr) (by omega)⟩
    cases hq : v.q with
    | inr er =>
      rw [hq] at h2
      exact hdone _ (by rw [hq]; rfl) (by have : v.steps = 0 := h2; omega)
    | inl q =>
      rw [hq] at h2
      match q, hq, h2 with
      | .cnt a false w, hq, h2 =>
        have hans : (stepQ st.s v.q st.ws st.cn st.ticks).ans = none := by rw [hq]; rfl
        have h2' : v.steps = 0 := h2
        rw [midEv_more hans, hq]
        refine ⟨by show v.steps + 1 ≤ _; omega, fun _ => ?_⟩
        show v.steps + 1 = 1
        omega
      | .cnt a true w, hq, h2 =>
        have h2' : v.steps = 1 := h2
        exact hdone _ (by rw [hq]; rfl) (by omega)
      | .rd b k sum key, hq, h2 =>
        obtain ⟨h3, h4⟩ := h2
        have e0 : stepQ (M := talM n) st.s (.inl (.rd b k sum key)) st.ws st.cn st.ticks = ⟨(talNext n st.s (.rd b k sum key) (st.ws.getD k 0) st.ticks).1, .inl (talNext n st.s (.rd b k sum key) (st.ws.getD k 0) st.ticks).2.1, st.ws, { st.cn with r := st.cn.r + 1 }, (talNext n st.s (.rd b k sum key) (st.ws.getD k 0) st.ticks).2.2⟩ := rfl
        by_cases hk : k + 1 < n
        · have e1 : talNext n st.s (.rd b k sum key) (st.ws.getD k 0) st.ticks = (st.s, .rd (if k = 0 then st.ticks else b) (k + 1) ((sum + st.ws.getD k 0) % 18446744073709551616) key, none) := by unfold talNext; simp only; rw [if_pos hk]
          rw [e1] at e0
          have hans : (stepQ st.s v.q st.ws st.cn st.ticks).ans = none := by rw [hq, e0]
          rw [midEv_more hans, hq, e0]
          refine ⟨by show v.steps + 1 ≤ _; omega, fun _ => ?_⟩
          show v.steps + 1 = k + 1 ∧ k + 1 < n
          omega
        · obtain ⟨a, e2⟩ : ∃ a, (talNext n st.s (.rd b k sum key) (st.ws.getD k 0) st.ticks).2.2 = some a := by unfold talNext; simp only; rw [if_neg hk]; exact ⟨_, rfl⟩
          exact hdone a (by rw [hq, e0]; exact e2) (by omega)
  · exact h f u hu'
theorem talS_end (hn : 1 ≤ n) (picks : List Int) (ws : List Nat) (s : (talM n).S) : ∀ (e : Nat) (v : Ev (talM n)), (endM (M := talM n) cs ws s picks).evs[e]? = some v → TalS v :=
  endM_keeps (R := fun st : St (talM n) => ∀ (e : Nat) (v : Ev (talM n)), st.evs[e]? = some v → TalS v) ws s (fun e v hv => by simp [stM] at hv) (fun st h => h) (fun st i x p h _ _ _ e v hv => by
    rcases turn_evs (List.mem_of_getElem? hv) with hv' | rfl
    · obtain ⟨k, hk⟩ := List.mem_iff_getElem?.1 hv'
      exact h k v hk
    · refine ⟨by show 0 ≤ _; omega, fun _ => ?_⟩
      show (match (invQ (M := talM n) st.s x).2 with | .inl (.cnt a f w) => 0 = (if f = true then 1 else 0) | .inl (.rd b k sum key) => 0 = k ∧ k < n | .inr e => 0 = 0)
      have hm : ((talM n).m : Int) = 1 := rfl
      by_cases ho : x.o < 0 ∨ 1 ≤ x.o
      · have e : invQ (M := talM n) st.s x = (st.s, .inr 12) := by unfold invQ; rw [if_pos (by rw [hm]; exact ho)]
        rw [e]
      · have e : invQ (M := talM n) st.s x = (talM n).inv st.s x := by unfold invQ; rw [if_neg (by rw [hm]; exact ho)]
        rw [e, tal_inv_eq]
        by_cases k0 : x.k = 0
        · rw [if_pos k0]; rfl
        · rw [if_neg k0]
          by_cases k1 : x.k = 1
          · rw [if_pos k1]; exact ⟨rfl, by omega⟩
          · rw [if_neg k1]) (fun st i p e v h _ _ _ hv hr _ ht => talS_step h ht hv hr) picks

theorem tal_end (hn : 1 ≤ n) (hth : ∀ x ∈ cs, 0 ≤ x.t ∧ x.t < n) (picks : List Int) (hp : picks.length ≤ 70000) : TalL cs (endM (M := talM n) cs (List.replicate n 0) [] picks) := by
  have key : ∀ (l : List Int) (st : St (talM n)), Wf cs st → CnOk st → TalI n cs st → RowI cs st → TalL cs st → st.ticks + l.length ≤ 70000 → TalL cs (l.foldl (pickM cs) st) := by
    intro l
    induction l with
    | nil => intro st _ _ _ _ h _; exact h
    | cons p r ih =>
      intro st hw hc hI hR h hl
      rw [List.length_cons] at hl
      rw [List.foldl_cons]
      have hcw : st.cn.w < 9223372036854775807 := by have := hc.1; omega
      have hF := hI hcw
      have hRp : RowI cs (pickM cs st p) ∧ TalL cs (pickM cs st p) ∧ TalI n cs (pickM cs st p) ∧ (pickM cs st p).ticks ≤ st.ticks + 1 := by
        cases hn' : nowOf (thr cs) st.fin p with
        | none =>
          rw [pickM_idle hn']
          exact ⟨⟨hR.call, hR.grow, hR.same, hR.past, hR.fin, hR.pend, hR.sum⟩, ⟨h.lt, h.srt, h.cnt, h.pend, h.done⟩, talI_idle hI, Nat.le_succ _⟩
        | some i =>
          have hil := (now_open hn').1
          rw [thr_len] at hil
          obtain ⟨x, hx⟩ : ∃ x, cs[i]? = some x := ⟨cs[i], List.getElem?_eq_getElem hil⟩
          refine ⟨hR.turned hw hn' hx, h.turned hn hth hF hcw hR hw hn' hx, ?_, ?_⟩
          · obtain ⟨e, v, g1, g2, g3, _, g5⟩ := pickM_cases hw hn' hx
            rw [g5]
            exact talI_step (talI_turn hn hth hI hn' hx) (by rw [turn_ticks]; omega) g1 g2 g3
          · obtain ⟨e, v, g1, g2, g3, _, g5⟩ := pickM_cases hw hn' hx
            rw [g5, step_ticks.1, turn_ticks]
            exact Nat.le_refl _
      exact ih _ (hw.pick p) (hc.pick hw p) hRp.2.2.1 hRp.1 hRp.2.1 (by omega)
  exact key picks _ (Wf.first cs _ _) ⟨Nat.le_refl _, rfl⟩ (talI_first hn) ⟨fun v hv => by simp [stM] at hv, fun i j u v _ hu => by simp [stM] at hu, fun i j u v _ hu => by simp [stM] at hu, fun v hv => by simp [stM] at hv, fun v hv => by simp [stM] at hv, fun e v p hv => by simp [stM] at hv, rfl⟩
    ⟨fun t ht => by simp [stM] at ht, by simp [stM], fun w => by simp [stM, leC], fun e v hv => by simp [stM] at hv, fun e v hv => by simp [stM] at hv⟩ (by simpa [stM] using hp)

/-- what Between asks of the reads -/
def cntEv (cs : List CallV) (y : EvR) : Bool := decide (y.ans.err = 0) && isCntC cs y.i
def doneB (cs : List CallV) (x y : EvR) : Bool := cntEv cs y && decide (¬ y.resp = 0 ∧ y.resp < x.inv)
def begunB (cs : List CallV) (x y : EvR) : Bool := cntEv cs y && decide (y.inv < x.resp)
structure BetweenE (cs : List CallV) (evs : List EvR) (x : EvR) : Prop where
  lo : evs.countP (doneB cs x) ≤ x.ans.val
  hi : x.ans.val ≤ evs.countP (begunB cs x)
  reads : ∀ y ∈ evs, ∀ c, cs[y.i]? = some c → c.o = 0 → c.k = 1 → y.ans.err = 0 → ¬ y.resp = 0 → y.resp < x.inv → y.ans.val ≤ x.ans.val
def BetweenOk (cs : List CallV) (evs : List EvR) : Prop := (∀ x ∈ evs, x.i < cs.length) ∧ ∀ x ∈ evs, ∀ c, cs[x.i]? = some c → c.o = 0 → c.k = 1 → ¬ x.resp = 0 → x.ans.err = 0 → BetweenE cs evs x
theorem tal_between {st : St (talM n)} (h : TalL cs st) (hR : RowI cs st) : BetweenOk cs (repOf st).evs := by
  have hmem : ∀ x ∈ (repOf st).evs, ∃ v ∈ st.evs, x = evR st.s v := fun x hx => by
    obtain ⟨v, hv, rfl⟩ := List.mem_map.1 hx
    exact ⟨v, hv, rfl⟩
  have hrd : ∀ v ∈ st.evs, ∀ c, cs[v.i]? = some c → c.o = 0 → c.k = 1 → ¬ v.resp = 0 → ∃ w, v.inv ≤ w ∧ w ≤ v.resp ∧ v.ans.val = leC w st.s := fun v hv c hc ho hk hr => by
    obtain ⟨e, he⟩ := List.mem_iff_getElem?.1 hv
    obtain ⟨x, hx, _, h2⟩ := h.done e v he hr
    rw [hc] at hx; cases hx
    obtain ⟨w, _, g1, g2, g3⟩ := (h2 (by omega)).2.1 hk
    exact ⟨w, g1, g2, by rw [g3]⟩
  refine ⟨fun x hx => ?_, fun x hx c hc ho hk hr he => ?_⟩
  · obtain ⟨v, hv, rfl⟩ := hmem x hx
    exact (hR.call v hv).1
  · obtain ⟨v, hv, rfl⟩ := hmem x hx
    obtain ⟨w, h1, h2, h3⟩ := hrd v hv c hc ho hk hr
    have hv3 : (evR st.s v).ans.val = leC w st.s := h3
    refine ⟨?_, ?_, fun y hy c' hc' ho' hk' he' hr' hlt => ?_⟩
    · rw [hv3, ← h.cnt w]
      show (st.evs.map (evR st.s)).countP _ ≤ _
      rw [List.countP_map]
      refine List.countP_mono_left fun u hu hd => ?_
      have hd' : (cntEv cs (evR st.s u) && decide (¬ (evR st.s u).resp = 0 ∧ (evR st.s u).resp < (evR st.s v).inv)) = true := hd
      rw [Bool.and_eq_true] at hd'
      obtain ⟨d1, d2⟩ := hd'
      have d2 := of_decide_eq_true d2
      unfold cntEv at d1
      rw [Bool.and_eq_true] at d1
      unfold isCnt
      rw [Bool.and_eq_true]
      exact ⟨decide_eq_true ⟨d2.1, by have : u.resp < v.inv := d2.2; omega⟩, d1.2⟩
    · rw [hv3, ← h.cnt w]
      show _ ≤ (st.evs.map (evR st.s)).countP _
      rw [List.countP_map]
      refine List.countP_mono_left fun u hu hd => ?_
      unfold isCnt at hd
      rw [Bool.and_eq_true] at hd
      have d1 := of_decide_eq_true hd.1
      obtain ⟨e, hue⟩ := List.mem_iff_getElem?.1 hu
      obtain ⟨y, hy, _, g2⟩ := h.done e u hue d1.1
      have hcc := hd.2
      rw [isCntC_some hy] at hcc
      have hcc := of_decide_eq_true hcc
      obtain ⟨g3, _, g4⟩ := (g2 (by omega)).1 hcc.2
      show (cntEv cs (evR st.s u) && decide ((evR st.s u).inv < (evR st.s v).resp)) = true
      rw [Bool.and_eq_true]
      refine ⟨?_, decide_eq_true (by show u.inv < v.resp; omega)⟩
      unfold cntEv
      rw [Bool.and_eq_true]
      exact ⟨decide_eq_true (by show u.ans.err = 0; rw [g3]), hd.2⟩
    · obtain ⟨u, hu, rfl⟩ := hmem y hy
      obtain ⟨w', g1, g2, g3⟩ := hrd u hu c' hc' ho' hk' hr'
      have e1 : (evR st.s u).ans.val = leC w' st.s := g3
      rw [e1, hv3]
      refine leC_mono ?_ _
      have : u.resp < v.inv := hlt
      omega
theorem tal_steps {st : St (talM n)} (h : ∀ (e : Nat) (v : Ev (talM n)), st.evs[e]? = some v → TalS v) : ∀ x ∈ (repOf st).evs, x.steps ≤ max n 2 := fun x hx => by
  obtain ⟨v, hv, rfl⟩ := List.mem_map.1 hx
  obtain ⟨e, he⟩ := List.mem_iff_getElem?.1 hv
  exact (h e v he).1

/-- as a model: how many were counted -/
def talD : Mod := ⟨[0], fun st x => if x.k = 0 then ([(st.getD 0 0 + 1) % 18446744073709551616], ⟨0, 0, []⟩) else if x.k = 1 then (st, ⟨0, st.getD 0 0, []⟩) else (st, ⟨9, 0, []⟩)⟩
theorem talD_ap (st : List Nat) (x : CallV) : talD.ap st x = if x.k = 0 then ([(st.getD 0 0 + 1) % 18446744073709551616], ⟨0, 0, []⟩) else if x.k = 1 then (st, ⟨0, st.getD 0 0, []⟩) else (st, ⟨9, 0, []⟩) := rfl
theorem tal_fold (cs : List CallV) : ∀ (is : List Nat) (c : Nat), c + is.length < 18446744073709551616 → is.foldl (mStep talD cs) [c] = [c + is.countP (isCntC cs)]
  | [], c, _ => rfl
  | i :: r, c, hl => by
    rw [List.length_cons] at hl
    rw [List.foldl_cons, List.countP_cons]
    cases hx : cs[i]? with
    | none =>
      have e1 : mStep talD cs [c] i = [c] := by unfold mStep; rw [hx]
      have e2 : isCntC cs i = false := by unfold isCntC; rw [hx]
      rw [e1, e2, tal_fold cs r c (by omega)]; rfl
    | some x =>
      rw [isCntC_some hx]
      by_cases ho : x.o < 0 ∨ 1 ≤ x.o
      · rw [mStep_off hx ho, decide_eq_false (by omega), tal_fold cs r c (by omega)]; rfl
      · rw [mStep_on hx ho, talD_ap]
        by_cases k0 : x.k = 0
        · rw [if_pos k0, decide_eq_true (by omega)]
          show r.foldl (mStep talD cs) [(c + 1) % 18446744073709551616] = _
          rw [Nat.mod_eq_of_lt (by omega), tal_fold cs r (c + 1) (by omega)]
          simp only [if_true]
          congr 1; omega
        · rw [if_neg k0, decide_eq_false (by omega)]
          have e3 : (if x.k = 1 then (([c], ⟨0, [c].getD 0 0, []⟩) : List Nat × Ans) else ([c], ⟨9, 0, []⟩)).1 = [c] := by split <;> rfl
          rw [e3, tal_fold cs r c (by omega)]; rfl
theorem range_countP {α : Type} (f : Option α → Bool) (l : List α) : (List.range l.length).countP (fun i => f l[i]?) = l.countP (fun x => f (some x)) := by
  have e : l.map some = (List.range l.length).map (fun i => l[i]?) := by
    apply List.ext_getElem?
    intro k
    rw [List.getElem?_map, List.getElem?_map]
    by_cases hk : k < l.length
    · rw [List.getElem?_range hk, List.getElem?_eq_getElem hk]; simp [List.getElem?_eq_getElem hk]
    · rw [List.getElem?_eq_none (by omega), List.getElem?_eq_none (by rw [List.length_range]; omega)]; rfl
  have h1 : (l.map some).countP f = l.countP (fun x => f (some x)) := by rw [List.countP_map]; rfl
  have h2 : ((List.range l.length).map (fun i => l[i]?)).countP f = (List.range l.length).countP (fun i => f l[i]?) := by rw [List.countP_map]; rfl
  rw [← h1, ← h2, e]
theorem keyed_countP (evs : List EvR) (g : Nat → Bool) (h : EvR → Bool) (hg : ∀ i x, evs[i]? = some x → 0 < x.key.length → g i = h x) : (keyed evs evs.length).countP g = evs.countP (fun x => decide (0 < x.key.length) && h x) := by
  unfold keyed
  rw [List.countP_filter]
  rw [← range_countP (fun o => match o with | some x => decide (0 < x.key.length) && h x | none => false) evs]
  refine List.countP_congr fun i hi => ?_
  have hil := List.mem_range.1 hi
  obtain ⟨x, hx⟩ : ∃ x, evs[i]? = some x := ⟨evs[i], List.getElem?_eq_getElem hil⟩
  rw [hx, keyAt_some hx]
  by_cases hk : 0 < x.key.length
  · simp [hg i x hx hk, hk]
  · simp [hk]
theorem tal_one {st : St (talM n)} (h : TalL cs st) {w r : Nat} (u : Ev (talM n)) (hu : u ∈ st.evs) : (decide (0 < (evR st.s u).key.length) && (isCntC cs (evR st.s u).i && aheadK (evR st.s u).key [2 * w, 2 * r])) = true ↔ isCnt cs w u = true := by
  obtain ⟨e, hue⟩ := List.mem_iff_getElem?.1 hu
  rw [show (evR st.s u).i = u.i from rfl]
  unfold isCnt
  by_cases hur : u.resp = 0
  · have ek : (evR st.s u).key = [] := by
      show (if u.resp = 0 then keyQ st.s u.q else u.key) = []
      rw [if_pos hur]; exact (h.pend e u hue hur).1
    rw [ek, hur]; simp
  · cases hcc : isCntC cs u.i with
    | false => simp
    | true =>
      obtain ⟨y, hy, _, g6⟩ := h.done e u hue hur
      rw [isCntC_some hy] at hcc
      have hcc := of_decide_eq_true hcc
      have g7 := ((g6 (by omega)).1 hcc.2).2.1
      have ek : (evR st.s u).key = [2 * u.resp] := by show (if u.resp = 0 then keyQ st.s u.q else u.key) = _; rw [if_neg hur]; exact g7
      have d1 : decide (0 < [2 * u.resp].length) = true := rfl
      rw [ek, aheadK_cons, d1, Bool.true_and, Bool.true_and, Bool.and_true]
      clear ek g7 g6 hy d1
      by_cases hw : 2 * u.resp = 2 * w
      · rw [if_pos hw]; exact ⟨fun _ => decide_eq_true ⟨hur, by omega⟩, fun _ => rfl⟩
      · rw [if_neg hw]
        exact ⟨fun h => decide_eq_true ⟨hur, by have := of_decide_eq_true h; omega⟩, fun h => decide_eq_true (by have := (of_decide_eq_true h).2; omega)⟩
theorem tal_wrong {st : St (talM n)} (h : TalL cs st) (hR : RowI cs st) (hU : RespI st) (hev : st.evs.length ≤ 70000) : WrongOk talD cs (repOf st).evs := fun k j x hj hx hr => by
  have hget : ∀ (j : Nat) (x : EvR), (repOf st).evs[j]? = some x → ∃ v, st.evs[j]? = some v ∧ x = evR st.s v := fun j x hx => by
    have hx' : (st.evs.map (evR st.s))[j]? = some x := hx
    rw [List.getElem?_map] at hx'
    obtain ⟨v, hv, rfl⟩ := Option.map_eq_some_iff.1 hx'
    exact ⟨v, hv, rfl⟩
  have hkey : ∀ (e : Nat) (v : Ev (talM n)), st.evs[e]? = some v → ((evR st.s v).key = [] ∧ v.resp = 0) ∨ (¬ v.resp = 0 ∧ ((evR st.s v).key = [2 * v.resp] ∨ ∃ w, (evR st.s v).key = [2 * w, 2 * v.resp])) := fun e v hv => by
    by_cases hr : v.resp = 0
    · exact .inl ⟨by show (if v.resp = 0 then keyQ st.s v.q else v.key) = []; rw [if_pos hr]; exact (h.pend e v hv hr).1, hr⟩
    · refine .inr ⟨hr, ?_⟩
      show (if v.resp = 0 then keyQ st.s v.q else v.key) = [2 * v.resp] ∨ ∃ w, (if v.resp = 0 then keyQ st.s v.q else v.key) = [2 * w, 2 * v.resp]
      rw [if_neg hr]
      obtain ⟨x, hx, h1, h2⟩ := h.done e v hv hr
      by_cases ho : x.o < 0 ∨ 1 ≤ x.o
      · exact .inl (h1 ho).2
      · by_cases k0 : x.k = 0
        · exact .inl ((h2 ho).1 k0).2.1
        · by_cases k1 : x.k = 1
          · obtain ⟨w, hw, _⟩ := (h2 ho).2.1 k1; exact .inr ⟨w, hw⟩
          · exact .inl ((h2 ho).2.2 k0 k1).2
  obtain ⟨v, hv, rfl⟩ := hget j x hx
  have hr' : ¬ v.resp = 0 := hr
  obtain ⟨c, hc, h1, h2⟩ := h.done j v hv hr'
  have e1 : (evR st.s v).ans = v.ans := rfl
  have e2 : (evR st.s v).i = v.i := rfl
  rw [e1, e2]
  by_cases ho : c.o < 0 ∨ 1 ≤ c.o
  · rw [mAns_off hc ho]; exact (h1 ho).1
  · rw [mAns_on hc ho, talD_ap]
    by_cases k0 : c.k = 0
    · rw [if_pos k0]; exact ((h2 ho).1 k0).1
    · rw [if_neg k0]
      by_cases k1 : c.k = 1
      · rw [if_pos k1]
        obtain ⟨w, g1, g2, g3, g4⟩ := (h2 ho).2.1 k1
        rw [g4]
        have hkl : k < (ordP (repOf st).evs (repOf st).evs.length).length := (List.getElem?_eq_some_iff.1 hj).1
        have hol := ordP_len (repOf st).evs (repOf st).evs.length
        have hrl : (repOf st).evs.length = st.evs.length := by show (st.evs.map _).length = _; rw [List.length_map]
        have hst : stAt talD cs (repOf st).evs k = [leC w st.s] := by
          unfold stAt mFold
          have := tal_fold cs (((ordP (repOf st).evs (repOf st).evs.length).take k).map (callOf (repOf st).evs)) 0 (by rw [List.length_map, List.length_take]; omega)
          show List.foldl (mStep talD cs) [0] _ = _
          rw [this, Nat.zero_add, List.countP_map]
          congr 1
          rw [ord_count hj (fun a b ha hb hab hka => ?_) (isCntC cs ∘ callOf (repOf st).evs)]
          · rw [keyed_countP (repOf st).evs _ (fun x => isCntC cs x.i && aheadK x.key [2 * w, 2 * v.resp]) (fun i x hx hk => ?_), ← h.cnt w]
            · show (st.evs.map (evR st.s)).countP _ = _
              rw [List.countP_map]
              refine List.countP_congr fun u hu => ?_
              exact tal_one h u hu
            · have hk1 : (evR st.s v).key = [2 * w, 2 * v.resp] := by show (if v.resp = 0 then keyQ st.s v.q else v.key) = _; rw [if_neg hr']; exact g1
              show (isCntC cs (callOf (repOf st).evs i) && aheadK (keyAt (repOf st).evs i) (keyAt (repOf st).evs j)) = _
              rw [callOf_some hx, keyAt_some hx, keyAt_some (show (repOf st).evs[j]? = some (evR st.s v) from ‹_›), hk1]
          · obtain ⟨xa, hxa⟩ : ∃ xa, (repOf st).evs[a]? = some xa := ⟨(repOf st).evs[a], List.getElem?_eq_getElem ha⟩
            obtain ⟨xb, hxb⟩ : ∃ xb, (repOf st).evs[b]? = some xb := ⟨(repOf st).evs[b], List.getElem?_eq_getElem hb⟩
            obtain ⟨ua, hua, rfl⟩ := hget a xa hxa
            obtain ⟨ub, hub, rfl⟩ := hget b xb hxb
            rw [keyAt_some hxa] at hka ⊢
            rw [keyAt_some hxb]
            intro heq
            rcases hkey a ua hua with ⟨g, _⟩ | ⟨gr, g⟩
            · rw [g] at hka; simp at hka
            · have hne := hU.ne a b ua ub hab hua hub gr
              rcases hkey b ub hub with ⟨g', _⟩ | ⟨gr', g'⟩
              · rw [g'] at heq; rw [heq] at hka; simp at hka
              · rcases g with g | ⟨w1, g⟩ <;> rcases g' with g' | ⟨w2, g'⟩
                · rw [g, g'] at heq; simp at heq; omega
                · rw [g, g'] at heq; simp at heq
                · rw [g, g'] at heq; simp at heq
                · rw [g, g'] at heq; simp at heq; omega
        rw [hst]; rfl
      · rw [if_neg k1]; exact ((h2 ho).2.2 k0 k1).1
theorem tal_in {st : St (talM n)} (h : TalL cs st) (hR : RowI cs st) : KeysIn st := fun v hv => by
  obtain ⟨e, he⟩ := List.mem_iff_getElem?.1 hv
  have hc := hR.call v hv
  refine ⟨fun hr => ?_, fun hr => .inl (h.pend e v he hr).1⟩
  have h3 := hc.2.2.2.2.2 hr
  obtain ⟨x, hx, h1, h2⟩ := h.done e v he hr
  have plain : v.key = [2 * v.resp] → withinL v.key v.inv v.resp := fun hk => ⟨2 * v.resp, [], hk, by omega, by omega⟩
  by_cases ho : x.o < 0 ∨ 1 ≤ x.o
  · exact plain (h1 ho).2
  · by_cases k0 : x.k = 0
    · exact plain ((h2 ho).1 k0).2.1
    · by_cases k1 : x.k = 1
      · obtain ⟨w, g1, g2, g3, _⟩ := (h2 ho).2.1 k1
        exact ⟨2 * w, [2 * v.resp], g1, by omega, by omega⟩
      · exact plain ((h2 ho).2.2 k0 k1).2
end
end
end Go.Proofs.Ytcedfcdhdgmelaa
