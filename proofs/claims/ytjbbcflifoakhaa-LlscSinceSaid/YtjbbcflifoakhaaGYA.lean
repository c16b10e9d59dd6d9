/- Over any program: a map of the call's own, by numbers from 0 to 63, whose elements are known as the values that they are. | Linked words, plainly: the machine, and what holds of it at every turn. | Objects whose operations make one step each, plainly. | Linked words, plainly: who linked last, and whether it was written since. -/
import Derived.Test.YtjbbcflifoakhaaU
import Derived.Test.YtjbbcflifoakhaaQP
namespace Go.Proofs.Ytjbbcflifoakhaa
section
open Go.ChangeShapes Go.WideShapes Go.ChangeAt Go.RowKit Go.Maps

/-- block b is a map of at most n entries, whose keys are in K0, whose element at a is f a, z where there is none -/
def MapJs (P : Program) (k : TypeId) (w : World) (b n : Nat) (z : Value) (f : Int → Value) : Prop :=
  ∃ D : DataW Value, w.ownsMap P k rawEl b n D ∧ (∀ a, D.atKey (.int .i64 a) (.held z) = .held (f a)) ∧ ∀ a, Maps.has D (.int .i64 a) = true → 0 ≤ a ∧ a < 64

section
variable {P : Program} {k t e : TypeId} {w w' : World} {b r n : Nat} {z : Value} {f : Int → Value} 

theorem MapJs.made (P : Program) (k : TypeId) (w : World) (z : Value) : MapJs P k (w.alloc (.map #[] 0)) w.heap.size 0 z (fun _ => z) :=
  ⟨.map [], World.ownsMap_made w P k rawEl, fun _ => rfl, fun a h => by simp [Maps.has] at h⟩

theorem MapJs.lt (h : MapJs P k w b n z f) : b < w.heap.size := by obtain ⟨D, h, _⟩ := h; exact h.lt
theorem MapJs.kept {row : Option Nat} (h : MapJs P k w b n z f) (hg : w.grownBy w' row) (hne : some b ≠ row) : MapJs P k w' b n z f := by
  obtain ⟨D, h, h2⟩ := h; exact ⟨D, h.kept hg hne, h2⟩
theorem MapJs.alloc (h : MapJs P k w b n z f) (o : Obj) : MapJs P k (w.alloc o) b n z f := h.kept (World.grownBy_alloc w o none) (by simp)
theorem MapJs.drew (h : MapJs P k w b n z f) : MapJs P k w.drew b n z f := h
theorem MapJs.drewN (h : MapJs P k w b n z f) (m : Nat) : MapJs P k (w.drewN m) b n z f := h
theorem MapJs.below (h : MapJs P k w b n z f) {B : Nat} (hb : Below B w w') (hB : b < B) : MapJs P k w' b n z f := by
  obtain ⟨D, ⟨es, c, h0, h1⟩, h2⟩ := h
  exact ⟨D, ⟨es, c, (hb.block b hB).trans h0, h1⟩, h2⟩
theorem MapJs.mono (h : MapJs P k w b n z f) {n' : Nat} (hn : n ≤ n') : MapJs P k w b n' z f := by obtain ⟨D, h, h2⟩ := h; exact ⟨D, h.mono hn, h2⟩
theorem MapJs.setCell (h : MapJs P k w b n z f) {a : Addr} (ha : b ≠ a.block) (u : Value) : MapJs P k (w.setCell a u) b n z f := by
  obtain ⟨D, h, h2⟩ := h; exact ⟨D, h.setCell ha u, h2⟩
/-- block b holds no cells -/
theorem MapJs.no_cells (h : MapJs P k w b n z f) {c : Array Value} {ty : TypeId} {fr : Nat × Nat} : w.heap[b]? ≠ some (.cells c ty fr) := by
  obtain ⟨D, ⟨es, cl, h0, _⟩, _⟩ := h
  rw [h0]; simp
theorem MapJs.no_cell (h : MapJs P k w b n z f) (p : Addr) (hp : p.block = b) : w.cell? p = none := by
  obtain ⟨D, ⟨es, cl, h0, _⟩, _⟩ := h
  subst hp
  unfold World.cell?
  simp only [h0]

theorem MapJs.look (h : MapJs P k w b n z f) (hk : P.underlying k = some (.int .i64)) (ht : P.underlying t = some (.map k e)) (hz : (zeroValue e).run P w = .ok z w) {a : Int} (ha : (Lit.int .i64 a).wf = true) :
    (Instr.lookup t (.map (some b)) (.int .i64 a) false).run P w = .ok (f a) w := by
  obtain ⟨D, h, h2, _⟩ := h
  obtain ⟨v, ps, hr, hv⟩ := h.lookup (int_keyed hk) ht hz (zd := .held z) (zp := []) rfl (keyOf_int_mk hk ha)
  rw [h2 a] at hv
  simp only [rawEl, Option.some.injEq, Prod.mk.injEq, DataW.held.injEq] at hv
  rw [hr, hv.1]


theorem MapJs.store (h : MapJs P k w b n z f) (hk : P.underlying k = some (.int .i64)) (ht : P.underlying t = some (.map k e)) (hn : n < maxLen) {a : Int} (ha : 0 ≤ a ∧ a < 64) (v : Value) :
    ∃ w', (Instr.mapUpdate t (.map (some b)) (.int .i64 a) v).run P w = .ok () w' ∧ MapJs P k w' b (n + 1) z (updF f a v) ∧ w.mapTurned w' b := by
  obtain ⟨D, h, h2, h3⟩ := h
  have wf : (Lit.int .i64 a).wf = true := WalkArith.wf_i64 (by omega)
  obtain ⟨w', hr, ho, hm⟩ := h.store (int_keyed hk) ht hn (val := v) (d := .held v) (ps := []) (keyOf_int_mk hk wf) rfl
  refine ⟨w', hr, ⟨_, ho, fun x => ?_, fun x hx => ?_⟩, hm⟩
  · by_cases hxa : x = a
    · subst hxa
      rw [atKey_put_same h.isMap (isKey_int _), updF_same]
    · rw [atKey_put_other (by simp [hxa]), h2, updF_other _ _ hxa]
  · by_cases hxa : x = a
    · subst hxa; exact ha
    · rw [has_put_other (by simp [hxa])] at hx
      exact h3 x hx

theorem MapJs.drop (h : MapJs P k w b n z f) (hk : P.underlying k = some (.int .i64)) (ht : P.underlying t = some (.map k e)) {a : Int} (ha : 0 ≤ a ∧ a < 64) (ty : TypeId) :
    ∃ w', (Builtin.delete_ #[t, k] ty #[.map (some b), .int .i64 a]).run P w = .ok (.tuple #[]) w' ∧ MapJs P k w' b n z (updF f a z) ∧ w.mapTurned w' b := by
  obtain ⟨D, h, h2, h3⟩ := h
  have wf : (Lit.int .i64 a).wf = true := WalkArith.wf_i64 (by omega)
  obtain ⟨w', hr, ho, hm⟩ := h.drop (int_keyed hk) ht (keyOf_int_mk hk wf) ty
  refine ⟨w', hr, ⟨_, ho, fun x => ?_, fun x hx => ?_⟩, hm⟩
  · by_cases hxa : x = a
    · subst hxa
      rw [atKey_del_same, updF_same]
    · rw [atKey_del_other (by simp [hxa]), h2, updF_other _ _ hxa]
  · by_cases hxa : x = a
    · subst hxa; exact ha
    · rw [has_del_other (by simp [hxa])] at hx
      exact h3 x hx

theorem MapJs.sameB (h : MapJs P k w b n z f) (e : w'.heap[b]? = w.heap[b]?) : MapJs P k w' b n z f := by
  obtain ⟨D, ⟨es, c, h0, h1⟩, h2⟩ := h
  exact ⟨D, ⟨es, c, e.trans h0, h1⟩, h2⟩
theorem MapJs.lookOk (h : MapJs P k w b n z f) (hk : P.underlying k = some (.int .i64)) (ht : P.underlying t = some (.map k e)) (hz : (zeroValue e).run P w = .ok z w) {a : Int} (ha : (Lit.int .i64 a).wf = true) :
    (Instr.lookup t (.map (some b)) (.int .i64 a) false).run P w = .ok (f a) w := h.look hk ht hz ha
end
end
section
open Go.RowKit
set_option linter.unusedVariables false
set_option linter.unusedSimpArgs false
structure LlQ where
  kd : Nat
  th : Nat
  pl : Nat
  v : Nat
  lk : Nat
structure LlS where
  lk : Nat → Nat → Option Nat
  n : Nat
def llSucc (l v : Nat) : Nat := (v + (l / 4294967296 + 1) * 4294967296 % 18446744073709551616) % 18446744073709551616
def llPut (f : Nat → Nat → Option Nat) (th pl : Nat) (o : Option Nat) : Nat → Nat → Option Nat := fun t p => if t = th ∧ p = pl then o else f t p
theorem llPut_same (f : Nat → Nat → Option Nat) (th pl : Nat) (o : Option Nat) : llPut f th pl o th pl = o := by unfold llPut; rw [if_pos ⟨rfl, rfl⟩]
theorem llPut_other (f : Nat → Nat → Option Nat) {th pl : Nat} (o : Option Nat) {t p : Nat} (h : ¬ (t = th ∧ p = pl)) : llPut f th pl o t p = f t p := by unfold llPut; rw [if_neg h]
def llAcc (s : LlS) (q : LlQ) : Acc := if q.kd = 1 then .sw q.pl ((s.lk q.th q.pl).getD 0) (llSucc ((s.lk q.th q.pl).getD 0) q.v) else .rd q.pl
def llNext (s : LlS) (q : LlQ) (r : Nat) : LlS × Ans :=
  if q.kd = 0 then (⟨llPut s.lk q.th q.pl (some r), s.n + 1⟩, ⟨0, r % 4294967296, []⟩)
  else if q.kd = 1 then (⟨llPut s.lk q.th q.pl none, s.n⟩, ⟨0, r, []⟩)
  else (s, ⟨0, if r = q.lk then 1 else 0, []⟩)
def llInv (k : Nat) (s : LlS) (x : CallV) : LlQ ⊕ Nat :=
  if x.k < 0 ∨ 2 < x.k then .inr 9
  else if k ≤ x.a ∨ (x.k = 1 ∧ 4294967296 ≤ x.b) then .inr 10
  else if ¬ x.k = 0 ∧ s.lk x.t.toNat x.a = none then .inr 8
  else .inl ⟨x.k.toNat, x.t.toNat, x.a, x.b, (s.lk x.t.toNat x.a).getD 0⟩
abbrev llM (k : Nat) : Mach where
  S := LlS
  Q := LlQ
  m := 1
  inv := fun s x => (s, llInv k s x)
  acc := llAcc
  next := fun s q r _ => ((llNext s q r).1, q, some (llNext s q r).2)
  key := fun _ _ => []
def ll0 : LlS := ⟨fun _ _ => none, 0⟩
theorem ll_inv_eq (k : Nat) (s : (llM k).S) (x : CallV) : (llM k).inv s x = (s, llInv k s x) := rfl
/-- an operation that has not responded -/
def LlOp (n k : Nat) (cs : List CallV) (s : LlS) (i : Nat) : LlQ ⊕ Nat → Prop
  | .inl q => ∃ x, cs[i]? = some x ∧ x.t = (q.th : Int) ∧ x.o = 0 ∧ x.k = (q.kd : Int) ∧ x.a = q.pl ∧ q.th < n ∧ q.pl < k ∧ q.kd ≤ 2 ∧ (q.kd = 1 → q.v < 4294967296 ∧ ∃ w, s.lk q.th q.pl = some w) ∧ q.lk < 18446744073709551616
  | .inr e => e ≠ 0
structure LlF (n k : Nat) (cs : List CallV) (st : St (llM k)) : Prop where
  len : st.ws.length = k
  cnt : st.s.n ≤ st.cn.r
  wB : ∀ a, st.ws.getD a 0 < 18446744073709551616
  lB : ∀ t p w, st.s.lk t p = some w → t < n ∧ p < k ∧ w < 18446744073709551616
  pend : PendI cs st
  ev : ∀ (e : Nat) (v : Ev (llM k)), st.evs[e]? = some v → v.resp = 0 → LlOp n k cs st.s v.i v.q
section
variable {n k : Nat} {cs : List CallV}
theorem llput_ne {l : List Nat} {a b y : Nat} (h : b ≠ a) : (l.set a y).getD b 0 = l.getD b 0 := by
  rw [List.getD_eq_getElem?_getD, List.getD_eq_getElem?_getD, List.getElem?_set_ne (fun e => h e.symm)]
theorem llput_eq {l : List Nat} {a y : Nat} (h : a < l.length) : (l.set a y).getD a 0 = y := by
  rw [List.getD_eq_getElem?_getD, List.getElem?_set_self h]; rfl
theorem llSucc_lt (l v : Nat) : llSucc l v < 18446744073709551616 := Nat.mod_lt _ (by decide)
theorem llF_idle {st : St (llM k)} (h : LlF n k cs st) : LlF n k cs { st with idle := st.idle + 1 } := ⟨h.len, h.cnt, h.wB, h.lB, h.pend, h.ev⟩
theorem ll_repl (m a : Nat) : (List.replicate m 0).getD a 0 = 0 := by
  rw [List.getD_eq_getElem?_getD, List.getElem?_replicate]
  split <;> rfl
theorem llF_first : LlF n k cs (stM (M := llM k) cs (List.replicate k 0) ll0) :=
  ⟨by simp [stM], Nat.zero_le _, fun a => by show (List.replicate k 0).getD a 0 < _; rw [ll_repl]; decide, fun t p w h => by simp [stM, ll0] at h, fun f y q hy => by simp [stM] at hy, fun e v hv => by simp [stM] at hv⟩
theorem llInv_op {s : LlS} {x : CallV} (hlB : ∀ t p w, s.lk t p = some w → t < n ∧ p < k ∧ w < 18446744073709551616) {i : Nat} (hx : cs[i]? = some x) (ht : 0 ≤ x.t ∧ x.t < n) (ho : x.o = 0) : LlOp n k cs s i (llInv k s x) := by
  unfold llInv
  by_cases h1 : x.k < 0 ∨ 2 < x.k
  · rw [if_pos h1]; show (9 : Nat) ≠ 0; decide
  · rw [if_neg h1]
    by_cases h2 : k ≤ x.a ∨ (x.k = 1 ∧ 4294967296 ≤ x.b)
    · rw [if_pos h2]; show (10 : Nat) ≠ 0; decide
    · rw [if_neg h2]
      by_cases h3 : ¬ x.k = 0 ∧ s.lk x.t.toNat x.a = none
      · rw [if_pos h3]; show (8 : Nat) ≠ 0; decide
      · rw [if_neg h3]
        refine ⟨x, hx, ?_, ho, ?_, rfl, ?_, ?_, ?_, ?_, ?_⟩
        · show x.t = ((x.t.toNat : Nat) : Int); omega
        · show x.k = ((x.k.toNat : Nat) : Int); omega
        · show x.t.toNat < n; omega
        · show x.a < k; omega
        · show x.k.toNat ≤ 2; omega
        · intro h
          have hk : x.k.toNat = 1 := h
          refine ⟨show x.b < _ by omega, ?_⟩
          cases hl : s.lk x.t.toNat x.a with
          | none => exact absurd ⟨by omega, hl⟩ h3
          | some w => exact ⟨w, rfl⟩
        · show (s.lk x.t.toNat x.a).getD 0 < _
          cases hl : s.lk x.t.toNat x.a with
          | none => decide
          | some w => exact (hlB _ _ _ hl).2.2
theorem llOp_new {s : LlS} {x : CallV} (hlB : ∀ t p w, s.lk t p = some w → t < n ∧ p < k ∧ w < 18446744073709551616) (hth : ∀ x ∈ cs, 0 ≤ x.t ∧ x.t < n) {i : Nat} (hx : cs[i]? = some x) : LlOp n k cs s i (invQ (M := llM k) s x).2 := by
  have hm : ((llM k).m : Int) = 1 := rfl
  have ht := hth x (List.mem_of_getElem? hx)
  unfold invQ
  by_cases ho : x.o < 0 ∨ 1 ≤ x.o
  · rw [if_pos (by rw [hm]; exact ho)]
    show (12 : Nat) ≠ 0; decide
  · rw [if_neg (by rw [hm]; exact ho), ll_inv_eq]
    exact llInv_op hlB hx ht (by omega)
theorem ll_invs (s : LlS) (x : CallV) : (invQ (M := llM k) s x).1 = s := by unfold invQ; split <;> rfl
theorem ll_turn_s (st : St (llM k)) (i : Nat) (x : CallV) (p : Int) : (st.turn i x p).s = st.s := by
  unfold St.turn
  split
  · rfl
  · exact ll_invs st.s x
theorem ll_turn_cn (st : St (llM k)) (i : Nat) (x : CallV) (p : Int) : (st.turn i x p).cn = st.cn := by unfold St.turn; split <;> rfl
theorem llF_turn (hth : ∀ x ∈ cs, 0 ≤ x.t ∧ x.t < n) {st : St (llM k)} (h : LlF n k cs st) {i : Nat} {x : CallV} {p : Int} (hno : nowOf (thr cs) st.fin p = some i) (hx : cs[i]? = some x) : LlF n k cs (st.turn i x p) := by
  have hp := h.pend.turn (x := x) hno
  refine ⟨by rw [turn_ws]; exact h.len, by rw [ll_turn_s, ll_turn_cn]; exact h.cnt, fun a => by rw [turn_ws]; exact h.wB a, by rw [ll_turn_s]; exact h.lB, hp, fun e v hv hr => ?_⟩
  rw [ll_turn_s]
  rcases turn_evs (List.mem_of_getElem? hv) with hv' | rfl
  · obtain ⟨j, hj⟩ := List.mem_iff_getElem?.1 hv'; exact h.ev j v hj hr
  · exact llOp_new h.lB hth hx
theorem ll_step_s (st : St (llM k)) (i : Nat) (p : Int) (e : Nat) (v : Ev (llM k)) : (st.step i p e v).s = (stepQ st.s v.q st.ws st.cn st.ticks).s := by unfold St.step; split <;> rfl
theorem ll_run_b {l : List Nat} (hB : ∀ a, l.getD a 0 < 18446744073709551616) (s : LlS) (q : LlQ) (c : Cn) : ((llAcc s q).run l c).1 < 18446744073709551616 ∧ ∀ a, ((llAcc s q).run l c).2.1.getD a 0 < 18446744073709551616 := by
  unfold llAcc
  by_cases h : q.kd = 1
  · rw [if_pos h]
    simp only [Acc.run]
    split
    · refine ⟨by show (1 : Nat) < 18446744073709551616; decide, fun a => ?_⟩
      by_cases ha : a = q.pl
      · subst ha
        by_cases hl : q.pl < l.length
        · show (l.set q.pl _).getD q.pl 0 < _; rw [llput_eq hl]; exact llSucc_lt _ _
        · show (l.set q.pl _).getD q.pl 0 < _; rw [List.set_eq_of_length_le (by omega)]; exact hB _
      · show (l.set q.pl _).getD a 0 < _; rw [llput_ne ha]; exact hB a
    · exact ⟨by show (0 : Nat) < 18446744073709551616; decide, hB⟩
  · rw [if_neg h]
    exact ⟨hB _, hB⟩
theorem ll_ans (s : LlS) (q : LlQ ⊕ Nat) (ws : List Nat) (cn : Cn) (t : Nat) : ∃ a, (stepQ (M := llM k) s q ws cn t).ans = some a := by
  cases q with
  | inl q => exact ⟨_, rfl⟩
  | inr e => exact ⟨_, rfl⟩
theorem llF_step {T : St (llM k)} (h : LlF n k cs T) (ht : 0 < T.ticks) {i : Nat} {p : Int} {e : Nat} {v : Ev (llM k)} (hc : T.cur p = some e) (hv : T.evs[e]? = some v) (hr0 : v.resp = 0) : LlF n k cs (T.step i p e v) := by
  have hel := (List.getElem?_eq_some_iff.1 hv).1
  have hO := h.ev e v hv hr0
  have hpe := h.pend.step (i := i) ht hc hv hr0
  have hws := step_ws (st := T) (i := i) (p := p) (e := e) (v := v)
  have hss := ll_step_s T i p e v
  have hcc : (T.step i p e v).cn = (stepQ T.s v.q T.ws T.cn T.ticks).cn := by unfold St.step; split <;> rfl
  obtain ⟨m1, m2, m3, m4, m5⟩ := midEv_facts T v
  obtain ⟨an, han⟩ := ll_ans (k := k) T.s v.q T.ws T.cn T.ticks
  have hmr : (midEv T v).resp = T.ticks := m5 an han
  have hold : ∀ (f : Nat) (u : Ev (llM k)), (T.step i p e v).evs[f]? = some u → u.resp = 0 → f ≠ e ∧ T.evs[f]? = some u := fun f u hu hur => by
    rw [step_evs] at hu
    rcases set_get hu hel with ⟨rfl, rfl⟩ | ⟨hfe, hu'⟩
    · omega
    · exact ⟨hfe, hu'⟩
  cases hq : v.q with
  | inr er =>
    rw [hq] at hws hss hcc
    refine ⟨by rw [hws]; exact h.len, by rw [hss, hcc]; exact h.cnt, fun a => by rw [hws]; exact h.wB a, fun t p w hw => by rw [hss] at hw; exact h.lB t p w hw, hpe, fun f u hu hur => ?_⟩
    rw [hss]
    exact h.ev f u (hold f u hu hur).2 hur
  | inl q =>
    rw [hq] at hws hss hO hcc
    obtain ⟨x, hx, h1, h2, h3, h4, h5, h6, h7, h8, h9⟩ := hO
    have hb := ll_run_b h.wB T.s q T.cn
    have hs2 : (T.step i p e v).s = (llNext T.s q ((llAcc T.s q).run T.ws T.cn).1).1 := hss
    have hw2 : (T.step i p e v).ws = ((llAcc T.s q).run T.ws T.cn).2.1 := hws
    refine ⟨by rw [hw2, Acc.run_len]; exact h.len, ?_, fun a => by rw [hw2]; exact hb.2 a, fun t p' w hw => ?_, hpe, fun f u hu hur => ?_⟩
    · have hc2 : (T.step i p e v).cn = ((llAcc T.s q).run T.ws T.cn).2.2 := hcc
      have hcnt := h.cnt
      rw [hs2, hc2]
      unfold llNext llAcc
      by_cases k0 : q.kd = 0
      · rw [if_pos k0, if_neg (by omega)]; show T.s.n + 1 ≤ T.cn.r + 1; omega
      · rw [if_neg k0]
        by_cases k1 : q.kd = 1
        · rw [if_pos k1, if_pos k1]
          simp only [Acc.run]
          split
          · exact hcnt
          · exact hcnt
        · rw [if_neg k1, if_neg k1]; show T.s.n ≤ T.cn.r + 1; omega
    · rw [hs2] at hw
      unfold llNext at hw
      split at hw
      · by_cases he : t = q.th ∧ p' = q.pl
        · obtain ⟨rfl, rfl⟩ := he
          rw [show (LlS.lk ⟨llPut T.s.lk q.th q.pl (some ((llAcc T.s q).run T.ws T.cn).1), T.s.n + 1⟩ q.th q.pl) = some ((llAcc T.s q).run T.ws T.cn).1 from llPut_same _ _ _ _] at hw
          cases hw
          exact ⟨h5, h6, hb.1⟩
        · rw [show (LlS.lk ⟨llPut T.s.lk q.th q.pl (some ((llAcc T.s q).run T.ws T.cn).1), T.s.n + 1⟩ t p') = T.s.lk t p' from llPut_other _ _ he] at hw
          exact h.lB t p' w hw
      · split at hw
        · by_cases he : t = q.th ∧ p' = q.pl
          · obtain ⟨rfl, rfl⟩ := he
            rw [show (LlS.lk ⟨llPut T.s.lk q.th q.pl none, T.s.n⟩ q.th q.pl) = none from llPut_same _ _ _ _] at hw
            cases hw
          · rw [show (LlS.lk ⟨llPut T.s.lk q.th q.pl none, T.s.n⟩ t p') = T.s.lk t p' from llPut_other _ _ he] at hw
            exact h.lB t p' w hw
        · exact h.lB t p' w hw
    · obtain ⟨hfe, hu'⟩ := hold f u hu hur
      have o2 := h.ev f u hu' hur
      rw [hs2]
      revert o2
      cases hqu : u.q with
      | inr e2 => exact fun o2 => o2
      | inl q2 =>
        rintro ⟨y, hy, g1, g2, g3, g4, g5, g6, g7, g8, g9⟩
        refine ⟨y, hy, g1, g2, g3, g4, g5, g6, g7, fun hk1 => ?_, g9⟩
        obtain ⟨hv2, w, hw⟩ := g8 hk1
        have hne : ¬ (q2.th = q.th ∧ q2.pl = q.pl) := fun ⟨e1, _⟩ =>
          hfe (h.pend.alone hu' hv hur hr0 (q := x.t) (by rw [thr_get hy, g1, e1, h1]) (thr_get hx))
        refine ⟨hv2, w, ?_⟩
        unfold llNext
        split
        · exact (llPut_other _ _ hne).trans hw
        · split
          · exact (llPut_other _ _ hne).trans hw
          · exact hw
end
end
section
open Go.RowKit
set_option linter.unusedVariables false
section
variable {M : Mach}
structure OneI (st : St M) : Prop where
  len : st.evs.length = st.ticks
  cur : ∀ p, st.cur p = none
  ev : ∀ (j : Nat) (v : Ev M), st.evs[j]? = some v → v.inv = j + 1 ∧ v.resp = j + 1 ∧ v.steps = 1
theorem OneI.turned (h1 : ∀ s q r t, ∃ a, (M.next s q r t).2.2 = some a) {cs : List CallV} {st : St M} (h : OneI st) (hw : Wf cs st) {p : Int} {i : Nat} {x : CallV} (hn : nowOf (thr cs) st.fin p = some i) (hx : cs[i]? = some x) : OneI (pickM cs st p) := by
  obtain ⟨e, v, g1, h2, h3, h4, h5⟩ := pickM_cases hw hn hx
  rw [h5]
  have hc := h.cur p
  have htu : st.turn i x p = st.tick.begin i x p := by unfold St.turn; rw [hc]
  have hcur : (st.turn i x p).cur p = some st.evs.length := by rw [htu]; exact updF_same _ _ _
  have hee : e = st.evs.length := by rw [g1] at hcur; exact Option.some.inj hcur
  have hte : (st.turn i x p).evs = st.evs ++ [⟨i, st.ticks + 1, 0, 0, ⟨0, 0, []⟩, [], (invQ st.s x).2⟩] := by rw [htu]; rfl
  have htc : ∀ q, q ≠ p → (st.turn i x p).cur q = st.cur q := fun q hq => by rw [htu]; exact updF_other _ _ hq
  have hvi : v.inv = st.ticks + 1 ∧ v.steps = 0 := by
    rw [hte, hee, List.getElem?_append_right (Nat.le_refl _), Nat.sub_self] at h2
    cases h2; exact ⟨rfl, rfl⟩
  have hev2 : ((st.turn i x p).step i p e v).evs = st.evs ++ [midEv (st.turn i x p) v] := by
    rw [step_evs, hte, hee]
    rw [List.set_append_right _ _ (Nat.le_refl _), Nat.sub_self]; rfl
  obtain ⟨t1, t2, t3⟩ := step_ticks (st := st.turn i x p) (i := i) (p := p) (e := e) (v := v)
  have htt : (st.turn i x p).ticks = st.ticks + 1 := turn_ticks
  obtain ⟨an, ha⟩ : ∃ an, (stepQ (st.turn i x p).s v.q (st.turn i x p).ws (st.turn i x p).cn (st.turn i x p).ticks).ans = some an := by
    cases v.q with
    | inl q => exact h1 _ _ _ _
    | inr e => exact ⟨_, rfl⟩
  have hcu : ((st.turn i x p).step i p e v).cur = updF (st.turn i x p).cur p none := by unfold St.step; rw [ha]
  refine ⟨?_, fun q => ?_, fun j u hu => ?_⟩
  · rw [t1, htt, hev2, List.length_append, h.len]; rfl
  · rw [hcu]
    by_cases hq : q = p
    · subst hq; exact updF_same _ _ _
    · rw [updF_other _ _ hq, htc q hq]; exact h.cur q
  · rw [hev2] at hu
    rcases snoc_get hu with ⟨rfl, rfl⟩ | ⟨hk, hu'⟩
    · rw [midEv_done ha]
      refine ⟨?_, ?_, ?_⟩
      · show v.inv = _; rw [hvi.1, h.len]
      · show (st.turn i x p).ticks = _; rw [htt, h.len]
      · show v.steps + 1 = 1; rw [hvi.2]
    · exact h.ev j u hu'
theorem oneI_end (h1 : ∀ s q r t, ∃ a, (M.next s q r t).2.2 = some a) (cs : List CallV) (ws : List Nat) (s : M.S) (picks : List Int) : OneI (endM (M := M) cs ws s picks) :=
  (foldM (R := fun st => Wf cs st ∧ OneI st) (fun st p h => ⟨h.1.pick p, by
    cases hn : nowOf (thr cs) st.fin p with
    | none => rw [pickM_idle hn]; exact ⟨h.2.len, h.2.cur, h.2.ev⟩
    | some i =>
      have hil := (now_open hn).1
      rw [thr_len] at hil
      exact h.2.turned h1 h.1 hn (List.getElem?_eq_getElem hil)⟩) picks _
    ⟨Wf.first cs ws s, ⟨rfl, fun p => rfl, fun j v hv => by simp [stM] at hv⟩⟩).2
end
end
section
open Go.RowKit
set_option linter.unusedVariables false
set_option linter.unusedSimpArgs false
def isLd (cs : List CallV) (t : Int) (p : Nat) (u : Nat × Ans) : Bool := match cs[u.1]? with
  | some x => decide (x.t = t ∧ x.o = 0 ∧ x.k = 0 ∧ x.a = p ∧ u.2.err = 0)
  | none => false
def isWr (cs : List CallV) (p : Nat) (u : Nat × Ans) : Bool := match cs[u.1]? with
  | some x => decide (x.o = 0 ∧ x.k = 1 ∧ x.a = p ∧ u.2.val = 1)
  | none => false
section
variable {cs : List CallV}
theorem isLd_some {t : Int} {p i : Nat} {a : Ans} {x : CallV} (h : cs[i]? = some x) : isLd cs t p (i, a) = decide (x.t = t ∧ x.o = 0 ∧ x.k = 0 ∧ x.a = p ∧ a.err = 0) := by unfold isLd; simp only [h]
theorem isWr_some {p i : Nat} {a : Ans} {x : CallV} (h : cs[i]? = some x) : isWr cs p (i, a) = decide (x.o = 0 ∧ x.k = 1 ∧ x.a = p ∧ a.val = 1) := by unfold isWr; simp only [h]
/-- f is the last of L that linked t to p -/
structure LastLd (cs : List CallV) (t : Int) (p : Nat) (L : List (Nat × Ans)) (f : Nat) : Prop where
  is : ∃ u, L[f]? = some u ∧ isLd cs t p u = true
  last : ∀ g u, f < g → L[g]? = some u → isLd cs t p u = false
/-- what a link tells -/
structure LkAt (cs : List CallV) (L : List (Nat × Ans)) (y : Nat) (t : Int) (p w f : Nat) : Prop where
  ld : LastLd cs t p L f
  le : w / 4294967296 ≤ y / 4294967296
  same : (∀ g u, f < g → L[g]? = some u → isWr cs p u = false) → y = w
  more : ∀ g u, f < g → L[g]? = some u → isWr cs p u = true → w / 4294967296 < y / 4294967296
theorem LastLd.lt {t : Int} {p f : Nat} {L : List (Nat × Ans)} (h : LastLd cs t p L f) : f < L.length := by
  obtain ⟨u, hu, _⟩ := h.is
  exact (List.getElem?_eq_some_iff.1 hu).1
theorem LastLd.keep {t : Int} {p f : Nat} {L : List (Nat × Ans)} (h : LastLd cs t p L f) {e : Nat × Ans} (he : isLd cs t p e = false) : LastLd cs t p (L ++ [e]) f := by
  have hl := h.lt
  obtain ⟨u, hu, h1⟩ := h.is
  refine ⟨⟨u, by rw [List.getElem?_append_left hl]; exact hu, h1⟩, fun g v hg hv => ?_⟩
  rcases snoc_get hv with ⟨_, rfl⟩ | ⟨_, hv'⟩
  · exact he
  · exact h.last g v hg hv'
theorem LkAt.keep {t : Int} {y y' p w f : Nat} {L : List (Nat × Ans)} (h : LkAt cs L y t p w f) {e : Nat × Ans} (he : isLd cs t p e = false) (hw : isWr cs p e = false) (hy : y' = y) : LkAt cs (L ++ [e]) y' t p w f := by
  subst hy
  refine ⟨h.ld.keep he, h.le, fun hn => h.same fun g u hg hu => ?_, fun g u hg hu hx => ?_⟩
  · exact hn g u hg (by rw [List.getElem?_append_left (List.getElem?_eq_some_iff.1 hu).1]; exact hu)
  · rcases snoc_get hu with ⟨_, rfl⟩ | ⟨_, hu'⟩
    · rw [hw] at hx; cases hx
    · exact h.more g u hg hu' hx
theorem LkAt.wrote {t : Int} {y y' p w f : Nat} {L : List (Nat × Ans)} (h : LkAt cs L y t p w f) {e : Nat × Ans} (he : isLd cs t p e = false) (hw : isWr cs p e = true) (hy : y / 4294967296 < y' / 4294967296) : LkAt cs (L ++ [e]) y' t p w f := by
  have hle := h.le
  refine ⟨h.ld.keep he, by omega, fun hn => ?_, fun g u hg hu hx => by omega⟩
  have h1 := hn L.length e h.ld.lt (by rw [List.getElem?_append_right (Nat.le_refl _), Nat.sub_self]; rfl)
  rw [hw] at h1; cases h1
theorem LkAt.new {t : Int} {y p : Nat} {L : List (Nat × Ans)} {e : Nat × Ans} (he : isLd cs t p e = true) : LkAt cs (L ++ [e]) y t p y L.length := by
  have hno : ∀ (g : Nat) (u : Nat × Ans), L.length < g → (L ++ [e])[g]? = some u → False := fun g u hg hu => by
    have h1 := (List.getElem?_eq_some_iff.1 hu).1
    rw [List.length_append, List.length_singleton] at h1
    omega
  exact ⟨⟨⟨e, by rw [List.getElem?_append_right (Nat.le_refl _), Nat.sub_self]; rfl, he⟩, fun g u hg hu => (hno g u hg hu).elim⟩, Nat.le_refl _, fun _ => rfl, fun g u hg hu _ => (hno g u hg hu).elim⟩
theorem LkAt.iff {t : Int} {y p w f : Nat} {L : List (Nat × Ans)} (h : LkAt cs L y t p w f) : y = w ↔ ∀ g u, f < g → L[g]? = some u → isWr cs p u = false := by
  refine ⟨fun e g u hg hu => ?_, h.same⟩
  cases hb : isWr cs p u with
  | false => rfl
  | true => have := h.more g u hg hu hb; omega
/-- what the document asks of an event that stores or checks -/
def SinceOk (cs : List CallV) (L : List (Nat × Ans)) (i : Nat) (t : Int) (p : Nat) (a : Ans) : Prop :=
  a.val ≤ 1 ∧ ∃ f, f < i ∧ (∃ u, L[f]? = some u ∧ isLd cs t p u = true) ∧ (∀ g u, f < g → g < i → L[g]? = some u → isLd cs t p u = false) ∧ (a.val = 1 ↔ ∀ g u, f < g → g < i → L[g]? = some u → isWr cs p u = false)
theorem SinceOk.keep {L : List (Nat × Ans)} {i p : Nat} {t : Int} {a : Ans} (h : SinceOk cs L i t p a) (hi : i < L.length) (e : Nat × Ans) : SinceOk cs (L ++ [e]) i t p a := by
  obtain ⟨h1, f, h2, ⟨u, hu, hl⟩, h3, h4⟩ := h
  have hg : ∀ g, g < i → (L ++ [e])[g]? = L[g]? := fun g hg => List.getElem?_append_left (by omega)
  refine ⟨h1, f, h2, ⟨u, by rw [hg f h2]; exact hu, hl⟩, fun g u' a1 a2 a3 => h3 g u' a1 a2 (by rw [hg g a2] at a3; exact a3), ?_⟩
  rw [h4]
  exact ⟨fun h g u' a1 a2 a3 => h g u' a1 a2 (by rw [hg g a2] at a3; exact a3), fun h g u' a1 a2 a3 => h g u' a1 a2 (by rw [hg g a2]; exact a3)⟩
theorem LkAt.since {t : Int} {y p w f : Nat} {L : List (Nat × Ans)} (h : LkAt cs L y t p w f) (e : Nat × Ans) {a : Ans} (ha : a.val = if y = w then 1 else 0) : SinceOk cs (L ++ [e]) L.length t p a := by
  have hg : ∀ g, g < L.length → (L ++ [e])[g]? = L[g]? := fun g hg => List.getElem?_append_left (by omega)
  obtain ⟨u, hu, hl⟩ := h.ld.is
  refine ⟨by rw [ha]; split <;> omega, f, h.ld.lt, ⟨u, by rw [hg f h.ld.lt]; exact hu, hl⟩, fun g u' a1 a2 a3 => h.ld.last g u' a1 (by rw [hg g a2] at a3; exact a3), ?_⟩
  have hi := h.iff
  constructor
  · intro h1 g u' a1 a2 a3
    have hy : y = w := by
      by_cases hy : y = w
      · exact hy
      · rw [if_neg hy] at ha; omega
    exact hi.1 hy g u' a1 (by rw [hg g a2] at a3; exact a3)
  · intro h1
    have hy : y = w := hi.2 fun g u' a1 a3 => h1 g u' a1 (List.getElem?_eq_some_iff.1 a3).1 (by rw [hg g (List.getElem?_eq_some_iff.1 a3).1]; exact a3)
    rw [ha, if_pos hy]
/-- what holds of the events, the words, the links -/
structure LlH (cs : List CallV) (L : List (Nat × Ans)) (ws : List Nat) (lk : Nat → Nat → Option Nat) : Prop where
  cB : ∀ a, ws.getD a 0 / 4294967296 ≤ L.length
  lk : ∀ t p w, lk t p = some w → ∃ f, LkAt cs L (ws.getD p 0) (t : Int) p w f
  ev : ∀ (i : Nat) (u : Nat × Ans) (x : CallV), L[i]? = some u → cs[u.1]? = some x → x.o = 0 → x.k = 1 ∨ x.k = 2 → u.2.err = 0 → SinceOk cs L i x.t x.a u.2
theorem LlH.evs {L : List (Nat × Ans)} {ws : List Nat} {lk : Nat → Nat → Option Nat} (h : LlH cs L ws lk) {e : Nat × Ans} (hn : ∀ x, cs[e.1]? = some x → x.o = 0 → x.k = 1 ∨ x.k = 2 → e.2.err = 0 → SinceOk cs (L ++ [e]) L.length x.t x.a e.2) :
    ∀ (i : Nat) (u : Nat × Ans) (x : CallV), (L ++ [e])[i]? = some u → cs[u.1]? = some x → x.o = 0 → x.k = 1 ∨ x.k = 2 → u.2.err = 0 → SinceOk cs (L ++ [e]) i x.t x.a u.2 := fun i u x hu hx ho hk he => by
  rcases snoc_get hu with ⟨rfl, rfl⟩ | ⟨hi, hu'⟩
  · exact hn x hx ho hk he
  · exact (h.ev i u x hu' hx ho hk he).keep hi e
theorem llSucc_val {l v : Nat} (hl : l / 4294967296 ≤ 100000) (hv : v < 4294967296) : llSucc l v = v + (l / 4294967296 + 1) * 4294967296 ∧ llSucc l v / 4294967296 = l / 4294967296 + 1 := by
  have h1 : llSucc l v = v + (l / 4294967296 + 1) * 4294967296 := by unfold llSucc; omega
  exact ⟨h1, by rw [h1]; omega⟩
/-- a refused call -/
theorem LlH.refused {L : List (Nat × Ans)} {ws : List Nat} {lk : Nat → Nat → Option Nat} (h : LlH cs L ws lk) {i er : Nat} {x : CallV} (hx : cs[i]? = some x) (he : er ≠ 0) : LlH cs (L ++ [(i, ⟨er, 0, []⟩)]) ws lk := by
  refine ⟨fun a => by rw [List.length_append]; exact Nat.le_succ_of_le (h.cB a), fun t p w hw => ?_, h.evs fun y hy ho hk h0 => absurd h0 he⟩
  obtain ⟨f, hf⟩ := h.lk t p w hw
  refine ⟨f, hf.keep ?_ ?_ rfl⟩
  · rw [isLd_some hx]; exact decide_eq_false fun h => he h.2.2.2.2
  · rw [isWr_some hx]; exact decide_eq_false fun h => by have := h.2.2.2; cases this
/-- a load -/
theorem LlH.load {L : List (Nat × Ans)} {ws : List Nat} {lk : Nat → Nat → Option Nat} (h : LlH cs L ws lk) {i p0 t0 v : Nat} {x : CallV} (hx : cs[i]? = some x) (ho : x.o = 0) (hk : x.k = 0) (ha : x.a = p0) (ht : x.t = (t0 : Int)) :
    LlH cs (L ++ [(i, ⟨0, v, []⟩)]) ws (llPut lk t0 p0 (some (ws.getD p0 0))) := by
  refine ⟨fun a => by rw [List.length_append]; exact Nat.le_succ_of_le (h.cB a), fun t p w hw => ?_, h.evs fun y hy _ hky _ => ?_⟩
  · by_cases he : t = t0 ∧ p = p0
    · obtain ⟨rfl, rfl⟩ := he
      rw [llPut_same] at hw; cases hw
      exact ⟨L.length, LkAt.new (by rw [isLd_some hx]; exact decide_eq_true ⟨ht, ho, hk, ha, rfl⟩)⟩
    · rw [llPut_other _ _ he] at hw
      obtain ⟨f, hf⟩ := h.lk t p w hw
      refine ⟨f, hf.keep ?_ ?_ rfl⟩
      · rw [isLd_some hx]; exact decide_eq_false fun h => he ⟨by have := h.1; omega, by have := h.2.2.2.1; omega⟩
      · rw [isWr_some hx]; exact decide_eq_false fun h => by have := h.2.1; omega
  · rw [show cs[((i, ⟨0, v, []⟩) : Nat × Ans).1]? = cs[i]? from rfl, hx] at hy; cases hy; omega
/-- a store -/
theorem LlH.store {L : List (Nat × Ans)} {ws : List Nat} {lk : Nat → Nat → Option Nat} (h : LlH cs L ws lk) {i p0 t0 l v r : Nat} {ws' : List Nat} {x : CallV} (hx : cs[i]? = some x) (ho : x.o = 0) (hk : x.k = 1) (ha : x.a = p0) (ht : x.t = (t0 : Int)) (hl : lk t0 p0 = some l) (hv : v < 4294967296) (hp : p0 < ws.length) (hL : L.length ≤ 100000)
    (hr : r = if ws.getD p0 0 = l then 1 else 0) (hw : ws' = if ws.getD p0 0 = l then ws.set p0 (llSucc l v) else ws) : LlH cs (L ++ [(i, ⟨0, r, []⟩)]) ws' (llPut lk t0 p0 none) := by
  obtain ⟨f0, hf0⟩ := h.lk t0 p0 l hl
  have hB := h.cB p0
  have hle := hf0.le
  obtain ⟨s1, s2⟩ := llSucc_val (l := l) (v := v) (by omega) hv
  have hev : ∀ (i_1 : Nat) (u : Nat × Ans) (x : CallV), (L ++ [(i, ⟨0, r, []⟩)])[i_1]? = some u → cs[u.1]? = some x → x.o = 0 → x.k = 1 ∨ x.k = 2 → u.2.err = 0 → SinceOk cs (L ++ [(i, ⟨0, r, []⟩)]) i_1 x.t x.a u.2 := h.evs fun y hy _ hky _ => by
    rw [show cs[((i, ⟨0, r, []⟩) : Nat × Ans).1]? = cs[i]? from rfl, hx] at hy; cases hy
    rw [ht, ha]
    exact hf0.since _ hr
  have hld : ∀ (t : Int) (p : Nat), isLd cs t p (i, ⟨0, r, []⟩) = false := fun t p => by rw [isLd_some hx]; exact decide_eq_false fun h => by have := h.2.2.1; omega
  by_cases hs : ws.getD p0 0 = l
  · rw [if_pos hs] at hw hr
    subst hw hr
    refine ⟨fun a => ?_, fun t p w hw => ?_, hev⟩
    · rw [List.length_append]
      show _ ≤ L.length + 1
      by_cases hap : a = p0
      · subst hap; rw [llput_eq hp]; omega
      · rw [llput_ne hap]; have := h.cB a; omega
    · by_cases he : t = t0 ∧ p = p0
      · obtain ⟨rfl, rfl⟩ := he
        rw [llPut_same] at hw; cases hw
      · rw [llPut_other _ _ he] at hw
        obtain ⟨f, hf⟩ := h.lk t p w hw
        refine ⟨f, ?_⟩
        by_cases hpp : p = p0
        · subst hpp
          refine hf.wrote (hld _ _) (by rw [isWr_some hx]; exact decide_eq_true ⟨ho, hk, ha, rfl⟩) ?_
          rw [llput_eq hp, s2, hs]; omega
        · refine hf.keep (hld _ _) (by rw [isWr_some hx]; exact decide_eq_false fun h => hpp (by have := h.2.2.1; omega)) ?_
          rw [llput_ne hpp]
  · rw [if_neg hs] at hw hr
    subst hw hr
    refine ⟨fun a => by rw [List.length_append]; exact Nat.le_succ_of_le (h.cB a), fun t p w hw => ?_, hev⟩
    by_cases he : t = t0 ∧ p = p0
    · obtain ⟨rfl, rfl⟩ := he
      rw [llPut_same] at hw; cases hw
    · rw [llPut_other _ _ he] at hw
      obtain ⟨f, hf⟩ := h.lk t p w hw
      exact ⟨f, hf.keep (hld _ _) (by rw [isWr_some hx]; exact decide_eq_false fun h => by have := h.2.2.2; cases this) rfl⟩
/-- a check -/
theorem LlH.check {L : List (Nat × Ans)} {ws : List Nat} {lk : Nat → Nat → Option Nat} (h : LlH cs L ws lk) {i p0 t0 l r : Nat} {x : CallV} (hx : cs[i]? = some x) (ho : x.o = 0) (hk : x.k = 2) (ha : x.a = p0) (ht : x.t = (t0 : Int)) (hl : lk t0 p0 = some l)
    (hr : r = if ws.getD p0 0 = l then 1 else 0) : LlH cs (L ++ [(i, ⟨0, r, []⟩)]) ws lk := by
  obtain ⟨f0, hf0⟩ := h.lk t0 p0 l hl
  refine ⟨fun a => by rw [List.length_append]; exact Nat.le_succ_of_le (h.cB a), fun t p w hw => ?_, h.evs fun y hy _ hky _ => ?_⟩
  · obtain ⟨f, hf⟩ := h.lk t p w hw
    refine ⟨f, hf.keep ?_ ?_ rfl⟩
    · rw [isLd_some hx]; exact decide_eq_false fun h => by have := h.2.2.1; omega
    · rw [isWr_some hx]; exact decide_eq_false fun h => by have := h.2.1; omega
  · rw [show cs[((i, ⟨0, r, []⟩) : Nat × Ans).1]? = cs[i]? from rfl, hx] at hy; cases hy
    rw [ht, ha]
    exact hf0.since _ hr
end
section
variable {M : Mach}
/-- one turn of an object whose operations make one step -/
theorem one_pick (h1 : ∀ s q r t, ∃ a, (M.next s q r t).2.2 = some a) {cs : List CallV} {st : St M} (h : OneI st) (hw : Wf cs st) {p : Int} {i : Nat} {x : CallV} (hn : nowOf (thr cs) st.fin p = some i) (hx : cs[i]? = some x) :
    ∃ v an, (pickM cs st p).evs = st.evs ++ [v] ∧ v.i = i ∧ v.ans = an ∧ (stepQ (invQ st.s x).1 (invQ st.s x).2 st.ws st.cn (st.ticks + 1)).ans = some an ∧ (pickM cs st p).ws = (stepQ (invQ st.s x).1 (invQ st.s x).2 st.ws st.cn (st.ticks + 1)).ws ∧ (pickM cs st p).s = (stepQ (invQ st.s x).1 (invQ st.s x).2 st.ws st.cn (st.ticks + 1)).s := by
  obtain ⟨e, v, g1, h2, h3, h4, h5⟩ := pickM_cases hw hn hx
  rw [h5]
  have hc := h.cur p
  have htu : st.turn i x p = st.tick.begin i x p := by unfold St.turn; rw [hc]
  have hcur : (st.turn i x p).cur p = some st.evs.length := by rw [htu]; exact updF_same _ _ _
  have hee : e = st.evs.length := by rw [g1] at hcur; exact Option.some.inj hcur
  have hte : (st.turn i x p).evs = st.evs ++ [⟨i, st.ticks + 1, 0, 0, ⟨0, 0, []⟩, [], (invQ st.s x).2⟩] := by rw [htu]; rfl
  have hts : (st.turn i x p).s = (invQ st.s x).1 ∧ (st.turn i x p).ws = st.ws ∧ (st.turn i x p).cn = st.cn ∧ (st.turn i x p).ticks = st.ticks + 1 := by rw [htu]; exact ⟨rfl, rfl, rfl, rfl⟩
  have hvq : v.q = (invQ st.s x).2 := by
    rw [hte, hee, List.getElem?_append_right (Nat.le_refl _), Nat.sub_self] at h2
    cases h2; rfl
  have hev2 : ((st.turn i x p).step i p e v).evs = st.evs ++ [midEv (st.turn i x p) v] := by
    rw [step_evs, hte, hee]
    rw [List.set_append_right _ _ (Nat.le_refl _), Nat.sub_self]; rfl
  have hws := step_ws (st := st.turn i x p) (i := i) (p := p) (e := e) (v := v)
  have hss : ((st.turn i x p).step i p e v).s = (stepQ (st.turn i x p).s v.q (st.turn i x p).ws (st.turn i x p).cn (st.turn i x p).ticks).s := by unfold St.step; split <;> rfl
  obtain ⟨t1, t2, t3, t4⟩ := hts
  have hmid := fun an => midEv_done (st := st.turn i x p) (v := v) (an := an)
  rw [t1, t2, t3, t4, hvq] at hws hss hmid
  obtain ⟨an, ha⟩ : ∃ an, (stepQ (invQ st.s x).1 (invQ st.s x).2 st.ws st.cn (st.ticks + 1)).ans = some an := by
    cases (invQ st.s x).2 with
    | inl q => exact h1 _ _ _ _
    | inr e => exact ⟨_, rfl⟩
  refine ⟨midEv (st.turn i x p) v, an, hev2, ?_, ?_, ha, hws, hss⟩
  · rw [hmid an ha]; exact h4
  · rw [hmid an ha]; rfl
end
def evL {k : Nat} (st : St (llM k)) : List (Nat × Ans) := st.evs.map fun v => (v.i, v.ans)
theorem ll_hist (n k : Nat) (cs : List CallV) (hth : ∀ x ∈ cs, 0 ≤ x.t ∧ x.t < n) (picks : List Int) (hp : picks.length ≤ 65536) : LlH cs (evL (endM (M := llM k) cs (List.replicate k 0) ll0 picks)) (endM (M := llM k) cs (List.replicate k 0) ll0 picks).ws (endM (M := llM k) cs (List.replicate k 0) ll0 picks).s.lk := by
  have hone : ∀ (s : (llM k).S) (q : (llM k).Q) (r t : Nat), ∃ a, ((llM k).next s q r t).2.2 = some a := fun s q r t => ⟨_, rfl⟩
  have key : Wf cs (endM (M := llM k) cs (List.replicate k 0) ll0 picks) ∧ OneI (endM (M := llM k) cs (List.replicate k 0) ll0 picks) ∧ (endM (M := llM k) cs (List.replicate k 0) ll0 picks).ws.length = k ∧ ((endM (M := llM k) cs (List.replicate k 0) ll0 picks).evs.length ≤ 100000 → LlH cs (evL (endM (M := llM k) cs (List.replicate k 0) ll0 picks)) (endM (M := llM k) cs (List.replicate k 0) ll0 picks).ws (endM (M := llM k) cs (List.replicate k 0) ll0 picks).s.lk) := by
    refine foldM (R := fun st => Wf cs st ∧ OneI st ∧ st.ws.length = k ∧ (st.evs.length ≤ 100000 → LlH cs (evL st) st.ws st.s.lk)) (fun st p h => ?_) picks _ ⟨Wf.first cs _ _, ⟨rfl, fun p => rfl, fun j v hv => by simp [stM] at hv⟩, by simp [stM], fun _ => ⟨fun a => by show (List.replicate k 0).getD a 0 / _ ≤ _; rw [ll_repl]; exact Nat.zero_le _, fun t p w h => by simp [stM, ll0] at h, fun i u x hu => by simp [stM, evL] at hu⟩⟩
    obtain ⟨hw, ho, hl, hH⟩ := h
    refine ⟨hw.pick p, ?_⟩
    cases hn : nowOf (thr cs) st.fin p with
    | none => rw [pickM_idle hn]; exact ⟨⟨ho.len, ho.cur, ho.ev⟩, hl, hH⟩
    | some i =>
      have hil := (now_open hn).1
      rw [thr_len] at hil
      obtain ⟨x, hx⟩ : ∃ x, cs[i]? = some x := ⟨cs[i], List.getElem?_eq_getElem hil⟩
      have ht := hth x (List.mem_of_getElem? hx)
      refine ⟨ho.turned hone hw hn hx, ?_, fun hle => ?_⟩
      · obtain ⟨v, an, he, _, _, _, hws, _⟩ := one_pick hone ho hw hn hx
        rw [hws]
        cases (invQ (M := llM k) st.s x).2 with
        | inl q => exact (Acc.run_len _ _ _).trans hl
        | inr e => exact hl
      · obtain ⟨v, an, he, hvi, hva, hans, hws, hss⟩ := one_pick hone ho hw hn hx
        have hlen : st.evs.length ≤ 100000 := by rw [he, List.length_append] at hle; omega
        have hL := hH hlen
        have hLl : (evL st).length ≤ 100000 := by unfold evL; rw [List.length_map]; exact hlen
        have hevL : evL (pickM cs st p) = evL st ++ [(i, an)] := by unfold evL; rw [he, List.map_append, List.map_singleton, hvi, hva]
        rw [hevL]
        rw [ll_invs] at hans hws hss
        revert hans hws hss
        have hm : ((llM k).m : Int) = 1 := rfl
        unfold invQ
        by_cases h0 : x.o < 0 ∨ 1 ≤ x.o
        · rw [if_pos (by rw [hm]; exact h0)]
          intro hans hws hss
          rw [hws, hss]
          cases hans
          exact hL.refused hx (by decide)
        · rw [if_neg (by rw [hm]; exact h0), ll_inv_eq]
          unfold llInv
          by_cases c1 : x.k < 0 ∨ 2 < x.k
          · rw [if_pos c1]
            intro hans hws hss
            rw [hws, hss]
            cases hans
            exact hL.refused hx (by decide)
          · rw [if_neg c1]
            by_cases c2 : k ≤ x.a ∨ (x.k = 1 ∧ 4294967296 ≤ x.b)
            · rw [if_pos c2]
              intro hans hws hss
              rw [hws, hss]
              cases hans
              exact hL.refused hx (by decide)
            · rw [if_neg c2]
              by_cases c3 : ¬ x.k = 0 ∧ st.s.lk x.t.toNat x.a = none
              · rw [if_pos c3]
                intro hans hws hss
                rw [hws, hss]
                cases hans
                exact hL.refused hx (by decide)
              · rw [if_neg c3]
                intro hans hws hss
                have hws' : (pickM cs st p).ws = ((llAcc st.s ⟨x.k.toNat, x.t.toNat, x.a, x.b, (st.s.lk x.t.toNat x.a).getD 0⟩).run st.ws st.cn).2.1 := hws
                have hss' : (pickM cs st p).s = (llNext st.s ⟨x.k.toNat, x.t.toNat, x.a, x.b, (st.s.lk x.t.toNat x.a).getD 0⟩ ((llAcc st.s ⟨x.k.toNat, x.t.toNat, x.a, x.b, (st.s.lk x.t.toNat x.a).getD 0⟩).run st.ws st.cn).1).1 := hss
                have hans' : (llNext st.s ⟨x.k.toNat, x.t.toNat, x.a, x.b, (st.s.lk x.t.toNat x.a).getD 0⟩ ((llAcc st.s ⟨x.k.toNat, x.t.toNat, x.a, x.b, (st.s.lk x.t.toNat x.a).getD 0⟩).run st.ws st.cn).1).2 = an := Option.some.inj hans
                clear hws hss hans
                rw [hws', hss', ← hans']
                have htt : x.t = ((x.t.toNat : Nat) : Int) := by omega
                by_cases k0 : x.k = 0
                · unfold llNext llAcc
                  simp only [k0, show Int.toNat 0 = 0 from rfl, if_pos, Acc.run, if_neg (show ¬ (0 : Nat) = 1 by decide)]
                  exact hL.load hx (by omega) k0 rfl htt
                · have hlk : ∃ l, st.s.lk x.t.toNat x.a = some l := by
                    cases hl2 : st.s.lk x.t.toNat x.a with
                    | none => exact absurd ⟨k0, hl2⟩ c3
                    | some l => exact ⟨l, rfl⟩
                  obtain ⟨l, hlk⟩ := hlk
                  by_cases k1 : x.k = 1
                  · unfold llNext llAcc
                    simp only [k1, hlk, Option.getD_some, show Int.toNat 1 = 1 from rfl, if_pos, Acc.run, if_neg (show ¬ (1 : Nat) = 0 by decide)]
                    refine hL.store (v := x.b) hx (by omega) k1 rfl htt hlk (by omega) (by omega) hLl ?_ ?_
                    · split <;> rfl
                    · split <;> rfl
                  · have k2 : x.k = 2 := by omega
                    unfold llNext llAcc
                    simp only [k2, hlk, Option.getD_some, show Int.toNat 2 = 2 from rfl, if_neg (show ¬ (2 : Nat) = 0 by decide), if_neg (show ¬ (2 : Nat) = 1 by decide), Acc.run]
                    exact hL.check hx (by omega) k2 rfl htt hlk rfl
  refine key.2.2.2 ?_
  have := endM_evs (M := llM k) cs (List.replicate k 0) ll0 picks
  omega
end
end Go.Proofs.Ytjbbcflifoakhaa
