/- Rows, plainly; walk of within. | Rows, plainly; walk of within. | What a play keeps, plainly. | Rows hold of every machine's play, plainly. | What Rows asks holds of every machine's play whose keys lie within. | Of each thread one operation at most is under way; ticks of responses are unlike, plainly. -/
import Derived.Test.YtpoebpnmbogmnaaGZ3
namespace Go.Proofs.Ytpoebpnmbogmnaa
section
open Go.RowKit
set_option linter.unusedVariables false

def thOf (cs : List CallV) (x : EvR) : Nat := match cs[x.i]? with | some y => y.t.toNat | none => 0
def lastZ (x : EvR) : Int := if x.resp = 0 then -1 else x.resp
def lastL (cs : List CallV) (n : Nat) (evs : List EvR) : List Int := evs.foldl (fun l x => l.set (thOf cs x) (lastZ x)) (List.replicate n 0)
def callL (cs : List CallV) (n : Nat) (evs : List EvR) : List Int := evs.foldl (fun l x => l.set (thOf cs x) ((x.i : Int) + 1)) (List.replicate n 0)
def stepsL (evs : List EvR) : Nat := (evs.map EvR.steps).sum
theorem foldl_set_len {α : Type} (f : α → Nat) (g : α → Int) : ∀ (l : List α) (z : List Int), (l.foldl (fun l x => l.set (f x) (g x)) z).length = z.length
  | [], _ => rfl
  | x :: r, z => by rw [List.foldl_cons, foldl_set_len f g r, List.length_set]
theorem lastL_len (cs : List CallV) (n : Nat) (evs : List EvR) : (lastL cs n evs).length = n := by unfold lastL; rw [foldl_set_len, List.length_replicate]
theorem callL_len (cs : List CallV) (n : Nat) (evs : List EvR) : (callL cs n evs).length = n := by unfold callL; rw [foldl_set_len, List.length_replicate]
theorem lastL_snoc {cs : List CallV} {n : Nat} {evs : List EvR} {j : Nat} {x : EvR} (h : evs[j]? = some x) : lastL cs n (evs.take (j + 1)) = (lastL cs n (evs.take j)).set (thOf cs x) (lastZ x) := by
  unfold lastL; rw [take_snoc h, List.foldl_append]; rfl
theorem callL_snoc {cs : List CallV} {n : Nat} {evs : List EvR} {j : Nat} {x : EvR} (h : evs[j]? = some x) : callL cs n (evs.take (j + 1)) = (callL cs n (evs.take j)).set (thOf cs x) ((x.i : Int) + 1) := by
  unfold callL; rw [take_snoc h, List.foldl_append]; rfl
theorem stepsL_snoc {evs : List EvR} {j : Nat} {x : EvR} (h : evs[j]? = some x) : stepsL (evs.take (j + 1)) = stepsL (evs.take j) + x.steps := by
  unfold stepsL; rw [take_snoc h, List.map_append, List.sum_append]; simp

/-- a key lies between two ticks -/
def withinL (k : List Nat) (a b : Nat) : Prop := ∃ x r, k = x :: r ∧ a ≤ x / 2 ∧ (x + 1) / 2 ≤ b
structure RowE (cs : List CallV) (n : Nat) (r : RepR) (j : Nat) (x : EvR) : Prop where
  call : ∃ y, cs[x.i]? = some y ∧ 0 ≤ y.t ∧ y.t < n
  inv1 : 1 ≤ x.inv
  st1 : 1 ≤ x.steps
  invT : x.inv ≤ r.ticks
  prev : ∀ z, r.evs[j - 1]? = some z → 0 < j → z.inv < x.inv
  last : ∃ l : Int, (lastL cs n (r.evs.take j))[thOf cs x]? = some l ∧ 0 ≤ l ∧ l < x.inv
  cal : ∃ c : Int, (callL cs n (r.evs.take j))[thOf cs x]? = some c ∧ c ≤ x.i ∧ 0 ≤ c
  done : ¬ x.resp = 0 → x.inv ≤ x.resp ∧ x.resp ≤ r.ticks ∧ x.steps + x.inv ≤ x.resp + 1 ∧ withinL x.key x.inv x.resp
  pend : x.resp = 0 → x.key = [] ∨ withinL x.key x.inv r.ticks
structure RowsOk (cs : List CallV) (n : Nat) (r : RepR) : Prop where
  n1 : 1 ≤ n ∧ n ≤ 16
  ev : ∀ (j : Nat) (x : EvR), r.evs[j]? = some x → RowE cs n r j x
  sum : stepsL r.evs = r.ticks
  cn : r.cn.r + r.cn.w + r.cn.s + r.cn.a ≤ r.ticks ∧ r.cn.f = 0
  tl : r.ticks ≤ 70000

end
section
open Go.RowKit
set_option linter.unusedVariables false

set_option maxRecDepth 20000 in
theorem within_yes (ka : Option Addr) (key : List Nat) (kc a b : Nat) (p : Nat → Prop) (w : World) (hk : ListAt w 3 mkI p (.slice ka key.length kc) key) (h : withinL key a b) (hb : b ≤ 100000) :
    Calls Try.prog 40 #[.slice ka key.length kc, .int .i64 (a : Int), .int .i64 (b : Int)] w fun e w' => e = .returned (.bool true) ∧ w = w' := by
  obtain ⟨x, r, rfl, h1, h2⟩ := h
  obtain ⟨ao, g, o, cap, he, h3, _, _, h4⟩ := hk
  cases he
  obtain ⟨rfl, _, ht⟩ := h3 (by simp)
  have c0 : w.cell? ⟨g, o, none⟩ = some (.int .i64 (x : Int)) := by have := h4 0 x rfl; simpa [mkI] using this
  have hgl := ht.lt
  obtain ⟨m, hm, hm0⟩ : ∃ m, (x :: r).length = m ∧ 0 < m := ⟨_, rfl, by simp⟩
  rw [hm]
  have hx : x ≤ 200000 := by omega
  have t1 : Int.tdiv (x : Int) 2 = ((x / 2 : Nat) : Int) := by rw [Int.tdiv_eq_ediv_of_nonneg (by omega)]; omega
  have t2 : Int.tdiv ((x : Int) + 1) 2 = (((x + 1) / 2 : Nat) : Int) := by rw [Int.tdiv_eq_ediv_of_nonneg (by omega)]; omega
  have b0 : (0 : Int) < (m : Int) := by omega
  have b1 : (a : Int) ≤ ((x / 2 : Nat) : Int) := by omega
  have b2 : (((x + 1) / 2 : Nat) : Int) ≤ (b : Int) := by omega
  clear h3 h4 ht h1 h2 hm
  go_enter Try.func40, Try.ntmps40
  go_wp2_with fail
  go_ret
  exact ⟨ret_bool (decide_eq_true (by omega)), rfl⟩
end
section
open Go.RowKit
section
variable {M : Mach}
theorem turn_evs {st : St M} {i : Nat} {x : CallV} {p : Int} {v : Ev M} (h : v ∈ (st.turn i x p).evs) : v ∈ st.evs ∨ (v = ⟨i, st.ticks + 1, 0, 0, ⟨0, 0, []⟩, [], (invQ st.s x).2⟩) := by
  unfold St.turn at h
  split at h
  · exact .inl h
  · rcases List.mem_append.1 (show v ∈ st.evs ++ [_] from h) with h | h
    · exact .inl h
    · rw [List.mem_singleton] at h; exact .inr h
theorem turn_ws {st : St M} {i : Nat} {x : CallV} {p : Int} : (st.turn i x p).ws = st.ws := by unfold St.turn; split <;> rfl
theorem step_evs {st : St M} {i : Nat} {p : Int} {e : Nat} {v : Ev M} : (st.step i p e v).evs = st.evs.set e (midEv st v) := by
  unfold St.step midEv
  split
  · next h => rw [h]
  · next a h => rw [h]
theorem step_ws {st : St M} {i : Nat} {p : Int} {e : Nat} {v : Ev M} : (st.step i p e v).ws = (stepQ st.s v.q st.ws st.cn st.ticks).ws := by unfold St.step; split <;> rfl
theorem set_mem {α : Type} {l : List α} {e : Nat} {y u : α} (h : u ∈ l.set e y) (hl : e < l.length) : u = y ∨ u ∈ l := by
  obtain ⟨f, hf⟩ := List.mem_iff_getElem?.1 h
  by_cases hfe : f = e
  · subst hfe
    rw [List.getElem?_set_self hl] at hf
    exact .inl (Option.some.inj hf).symm
  · rw [List.getElem?_set_ne (fun h => hfe h.symm)] at hf
    exact .inr (List.mem_of_getElem? hf)
/-- what an event becomes in a step -/
theorem midEv_more {st : St M} {v : Ev M} (h : (stepQ st.s v.q st.ws st.cn st.ticks).ans = none) : midEv st v = v.more (stepQ st.s v.q st.ws st.cn st.ticks).q := by unfold midEv; rw [h]
theorem midEv_done {st : St M} {v : Ev M} {an : Ans} (h : (stepQ st.s v.q st.ws st.cn st.ticks).ans = some an) : midEv st v = v.done (stepQ st.s v.q st.ws st.cn st.ticks).q st.ticks an (keyQ (stepQ st.s v.q st.ws st.cn st.ticks).s (stepQ st.s v.q st.ws st.cn st.ticks).q) := by unfold midEv; rw [h]
end

section
variable {M : Mach}
/-- whatever holds at first and is kept by ticks and steps -/
theorem endM_keeps {cs : List CallV} {R : St M → Prop} (ws : List Nat) (s : M.S) (h0 : R (stM cs ws s)) (hi : ∀ st : St M, R st → R { st with idle := st.idle + 1 })
    (ht : ∀ (st : St M) (i : Nat) (x : CallV) (p : Int), R st → Wf cs st → nowOf (thr cs) st.fin p = some i → cs[i]? = some x → R (st.turn i x p))
    (hs : ∀ (st : St M) (i : Nat) (p : Int) (e : Nat) (v : Ev M), R st → Wf cs st → nowOf (thr cs) st.fin p = some i → st.cur p = some e → st.evs[e]? = some v → v.resp = 0 → v.i = i → 0 < st.ticks → R (st.step i p e v)) (picks : List Int) : R (endM cs ws s picks) :=
  (foldM (R := fun st => Wf cs st ∧ R st) (fun st p h => ⟨h.1.pick p, by
    cases hn : nowOf (thr cs) st.fin p with
    | none => rw [pickM_idle hn]; exact hi st h.2
    | some i =>
      have hil := (now_open hn).1
      rw [thr_len] at hil
      obtain ⟨x, hx⟩ : ∃ x, cs[i]? = some x := ⟨cs[i], List.getElem?_eq_getElem hil⟩
      obtain ⟨e, v, h1, h2, h3, h4, h5⟩ := pickM_cases h.1 hn hx
      rw [h5]
      exact hs _ i p e v (ht st i x p h.2 h.1 hn hx) (h.1.turn x hn) (by rw [turn_fin]; exact hn) h1 h2 h3 h4 (by rw [turn_ticks]; omega)⟩) picks _ ⟨Wf.first cs ws s, h0⟩).2
theorem endM_evs (cs : List CallV) (ws : List Nat) (s : M.S) (picks : List Int) : (endM (M := M) cs ws s picks).evs.length ≤ (endM (M := M) cs ws s picks).ticks ∧ (endM (M := M) cs ws s picks).ticks + (endM (M := M) cs ws s picks).idle = picks.length := by
  have key : ∀ (l : List Int) (st : St M), Wf cs st → st.evs.length ≤ st.ticks → (l.foldl (pickM cs) st).evs.length ≤ (l.foldl (pickM cs) st).ticks ∧ (l.foldl (pickM cs) st).ticks + (l.foldl (pickM cs) st).idle = st.ticks + st.idle + l.length := by
    intro l
    induction l with
    | nil => intro st _ h; exact ⟨h, rfl⟩
    | cons p r ih =>
      intro st hw h
      have hp : (pickM cs st p).evs.length ≤ (pickM cs st p).ticks ∧ (pickM cs st p).ticks + (pickM cs st p).idle = st.ticks + st.idle + 1 := by
        cases hn : nowOf (thr cs) st.fin p with
        | none => rw [pickM_idle hn]; exact ⟨h, by show st.ticks + (st.idle + 1) = _; omega⟩
        | some i =>
          have hil := (now_open hn).1
          rw [thr_len] at hil
          obtain ⟨x, hx⟩ : ∃ x, cs[i]? = some x := ⟨cs[i], List.getElem?_eq_getElem hil⟩
          obtain ⟨e, v, h1, h2, h3, h4, h5⟩ := pickM_cases hw hn hx
          rw [h5]
          obtain ⟨t1, t2, t3⟩ := step_ticks (st := st.turn i x p) (i := i) (p := p) (e := e) (v := v)
          rw [t1, t2, t3, turn_ticks, turn_idle]
          refine ⟨?_, by omega⟩
          unfold St.turn
          split
          · show st.evs.length ≤ _; omega
          · show (st.evs ++ [_]).length ≤ _
            rw [List.length_append]; show st.evs.length + 1 ≤ _; omega
      have := ih (pickM cs st p) (hw.pick p) hp.1
      rw [List.foldl_cons, List.length_cons]
      exact ⟨this.1, by rw [this.2, hp.2]; omega⟩
  have := key picks (stM cs ws s) (Wf.first cs ws s) (Nat.le_refl _)
  unfold endM
  refine ⟨this.1, this.2.trans ?_⟩
  simp [stM]
end
end
section
open Go.RowKit
set_option linter.unusedVariables false
section
variable {M : Mach}
def stepsM (evs : List (Ev M)) : Nat := (evs.map Ev.steps).sum
theorem stepsM_snoc (l : List (Ev M)) (v : Ev M) : stepsM (l ++ [v]) = stepsM l + v.steps := by unfold stepsM; simp
theorem stepsM_set : ∀ (l : List (Ev M)) (e : Nat) (v u : Ev M), l[e]? = some v → u.steps = v.steps + 1 → stepsM (l.set e u) = stepsM l + 1
  | [], e, v, u, h, _ => by simp at h
  | x :: l, 0, v, u, h, hu => by
    simp at h; subst h
    show (u.steps :: l.map Ev.steps).sum = (x.steps :: l.map Ev.steps).sum + 1
    simp only [List.sum_cons]; omega
  | x :: l, e + 1, v, u, h, hu => by
    have ih := stepsM_set l e v u (by simpa using h) hu
    unfold stepsM at ih ⊢
    show (x.steps :: (l.set e u).map Ev.steps).sum = (x.steps :: l.map Ev.steps).sum + 1
    simp only [List.sum_cons]; omega

structure RowI (cs : List CallV) (st : St M) : Prop where
  call : ∀ v ∈ st.evs, v.i < cs.length ∧ 1 ≤ v.inv ∧ v.inv ≤ st.ticks ∧ 1 ≤ v.steps ∧ (v.resp = 0 → v.steps + v.inv ≤ st.ticks + 1) ∧ (¬ v.resp = 0 → v.inv ≤ v.resp ∧ v.resp ≤ st.ticks ∧ v.steps + v.inv ≤ v.resp + 1)
  grow : ∀ (i j : Nat) (u v : Ev M), i < j → st.evs[i]? = some u → st.evs[j]? = some v → u.inv < v.inv
  same : ∀ (i j : Nat) (u v : Ev M), i < j → st.evs[i]? = some u → st.evs[j]? = some v → (thr cs)[u.i]? = (thr cs)[v.i]? → ¬ u.resp = 0 ∧ u.resp < v.inv ∧ u.i < v.i
  past : ∀ v ∈ st.evs, ∀ k, k < v.i → (thr cs)[k]? = (thr cs)[v.i]? → st.fin[k]? = some true
  fin : ∀ v ∈ st.evs, ¬ v.resp = 0 → st.fin[v.i]? = some true
  pend : ∀ (e : Nat) (v : Ev M) (p : Int), st.evs[e]? = some v → v.resp = 0 → (thr cs)[v.i]? = some p → st.cur p = some e
  sum : stepsM st.evs = st.ticks

theorem set_get {α : Type} {l : List α} {e k : Nat} {u v : α} (h : (l.set e u)[k]? = some v) (he : e < l.length) : (k = e ∧ v = u) ∨ (k ≠ e ∧ l[k]? = some v) := by
  by_cases hk : k = e
  · subst hk
    rw [List.getElem?_set_self he] at h
    exact .inl ⟨rfl, (Option.some.inj h).symm⟩
  · rw [List.getElem?_set_ne (fun h => hk h.symm)] at h
    exact .inr ⟨hk, h⟩
theorem snoc_get {α : Type} {l : List α} {k : Nat} {u v : α} (h : (l ++ [u])[k]? = some v) : (k = l.length ∧ v = u) ∨ (k < l.length ∧ l[k]? = some v) := by
  by_cases hk : k < l.length
  · rw [List.getElem?_append_left hk] at h; exact .inr ⟨hk, h⟩
  · rw [List.getElem?_append_right (by omega)] at h
    have h0 : k - l.length = 0 := by have := (List.getElem?_eq_some_iff.1 h).1; simp at this; omega
    rw [h0] at h; cases h
    exact .inl ⟨by omega, rfl⟩
theorem midEv_facts (st : St M) (v : Ev M) : (midEv st v).i = v.i ∧ (midEv st v).inv = v.inv ∧ (midEv st v).steps = v.steps + 1 ∧ ((stepQ st.s v.q st.ws st.cn st.ticks).ans = none → (midEv st v).resp = v.resp) ∧ (∀ an, (stepQ st.s v.q st.ws st.cn st.ticks).ans = some an → (midEv st v).resp = st.ticks) := by
  unfold midEv
  split
  · next h => exact ⟨rfl, rfl, rfl, fun _ => rfl, fun an h' => (by rw [h] at h'; cases h')⟩
  · next a h => exact ⟨rfl, rfl, rfl, fun h' => (by rw [h] at h'; cases h'), fun _ _ => rfl⟩

/-- one turn, told by what it does to the events -/
theorem RowI.turned {cs : List CallV} {st : St M} (h : RowI cs st) (hw : Wf cs st) {p : Int} {i : Nat} {x : CallV} (hn : nowOf (thr cs) st.fin p = some i) (hx : cs[i]? = some x) : RowI cs (pickM cs st p) := by
  obtain ⟨e, v, h1, h2, h3, h4, h5⟩ := pickM_cases hw hn hx
  rw [h5]
  have hop := now_open hn
  have hev : ((st.turn i x p).step i p e v).evs = (st.turn i x p).evs.set e (midEv (st.turn i x p) v) := step_evs
  have htk : ((st.turn i x p).step i p e v).ticks = st.ticks + 1 := step_ticks.1.trans turn_ticks
  obtain ⟨m1, m2, m3, m4, m5⟩ := midEv_facts (st.turn i x p) v
  have mr : (midEv (st.turn i x p) v).resp = 0 ∧ ((st.turn i x p).step i p e v).fin = st.fin ∧ ((st.turn i x p).step i p e v).cur = (st.turn i x p).cur ∨
      (midEv (st.turn i x p) v).resp = st.ticks + 1 ∧ ((st.turn i x p).step i p e v).fin = st.fin.set i true ∧ ((st.turn i x p).step i p e v).cur = updF (st.turn i x p).cur p none := by
    cases ha : (stepQ (st.turn i x p).s v.q (st.turn i x p).ws (st.turn i x p).cn (st.turn i x p).ticks).ans with
    | none =>
      left
      refine ⟨(m4 ha).trans h3, ?_, ?_⟩
      · rw [step_none ha]; exact turn_fin
      · rw [step_none ha]; rfl
    | some an =>
      right
      refine ⟨(m5 an ha).trans turn_ticks, ?_, ?_⟩
      · rw [step_some ha]; show (st.turn i x p).fin.set i true = _; rw [turn_fin]
      · rw [step_some ha]
  have hfg : ∀ k : Nat, st.fin[k]? = some true → ((st.turn i x p).step i p e v).fin[k]? = some true := fun k hk => by
    rcases mr with ⟨_, hf, _⟩ | ⟨_, hf, _⟩
    · rw [hf]; exact hk
    · rw [hf, List.getElem?_set]
      split
      · next hik => subst hik; rw [if_pos (List.getElem?_eq_some_iff.1 hk).1]
      · exact hk
  have hfi : ¬ (midEv (st.turn i x p) v).resp = 0 → ((st.turn i x p).step i p e v).fin[i]? = some true := fun hr => by
    rcases mr with ⟨hz, _⟩ | ⟨_, hf, _⟩
    · exact absurd hz hr
    · rw [hf, List.getElem?_set_self (List.getElem?_eq_some_iff.1 hop.2.2).1]
  have hpast : ∀ k, k < i → (thr cs)[k]? = some p → st.fin[k]? = some true := fun k hk hp => by
    have hkl : k < st.fin.length := by have := (List.getElem?_eq_some_iff.1 hop.2.2).1; omega
    cases hf : st.fin[k]? with
    | none => rw [List.getElem?_eq_none_iff] at hf; omega
    | some b =>
      cases b with
      | true => rfl
      | false =>
        exfalso
        have hs := own_sorted (thr cs) st.fin p
        have hc := now_cons hn
        have hm : k ∈ ownL (thr cs) st.fin p := own_mem.2 ⟨by have := (List.getElem?_eq_some_iff.1 hp).1; exact this, openB_iff.2 ⟨hp, hf⟩⟩
        rw [hc] at hm hs
        rcases List.mem_cons.1 hm with he | he
        · omega
        · have := (List.pairwise_cons.1 hs).1 k he; omega
  cases hc : st.cur p with
  | some e0 =>
    have htu : st.turn i x p = st.tick := by unfold St.turn; rw [hc]
    have hte : (st.turn i x p).evs = st.evs := by rw [htu]; rfl
    have htc : (st.turn i x p).cur = st.cur := by rw [htu]; rfl
    rw [hte] at hev h2
    rw [htc] at mr h1
    have hel := (List.getElem?_eq_some_iff.1 h2).1
    have hvm := List.mem_of_getElem? h2
    have hv := h.call v hvm
    generalize midEv (st.turn i x p) v = u at *
    refine ⟨fun y hy => ?_, fun a b y z hab hy hz => ?_, fun a b y z hab hy hz ht => ?_, fun y hy k hk ht => ?_, fun y hy hr => ?_, fun f y q hy hr hq => ?_, ?_⟩
    · rw [htk]
      rw [hev] at hy
      rcases set_mem hy hel with rfl | hy
      · refine ⟨by omega, by omega, by omega, by omega, fun _ => by have := hv.2.2.2.2.1 h3; omega, fun hr => ?_⟩
        rcases mr with ⟨hz, _⟩ | ⟨hz, _⟩
        · exact absurd hz hr
        · have := hv.2.2.2.2.1 h3; omega
      · have := h.call y hy
        exact ⟨this.1, this.2.1, by omega, this.2.2.2.1, fun hr => by have := this.2.2.2.2.1 hr; omega, fun hr => by have := this.2.2.2.2.2 hr; omega⟩
    · rw [hev] at hy hz
      rcases set_get hy hel with ⟨rfl, rfl⟩ | ⟨_, hy'⟩ <;> rcases set_get hz hel with ⟨rfl, rfl⟩ | ⟨_, hz'⟩
      · omega
      · have := h.grow _ _ _ _ hab h2 hz'; omega
      · have := h.grow _ _ _ _ hab hy' h2; omega
      · exact h.grow _ _ _ _ hab hy' hz'
    · rw [hev] at hy hz
      rcases set_get hy hel with ⟨rfl, rfl⟩ | ⟨_, hy'⟩ <;> rcases set_get hz hel with ⟨rfl, rfl⟩ | ⟨_, hz'⟩
      · omega
      · rw [m1] at ht
        have := (h.same _ _ _ _ hab h2 hz' ht).1
        exact absurd h3 this
      · rw [m1] at ht
        have := h.same _ _ _ _ hab hy' h2 ht
        exact ⟨this.1, by omega, by omega⟩
      · exact h.same _ _ _ _ hab hy' hz' ht
    · rw [hev] at hy
      refine hfg k ?_
      rcases set_mem hy hel with rfl | hy
      · rw [m1] at hk ht; exact h.past v hvm k hk ht
      · exact h.past y hy k hk ht
    · rw [hev] at hy
      rcases set_mem hy hel with rfl | hy
      · rw [m1, h4]; exact hfi hr
      · exact hfg _ (h.fin y hy hr)
    · rw [hev] at hy
      rcases set_get hy hel with ⟨rfl, rfl⟩ | ⟨hfe, hy⟩
      · rcases mr with ⟨_, _, hcu⟩ | ⟨hz, _⟩
        · rw [m1, h4, hop.2.1] at hq
          cases hq
          rw [hcu]; exact h1
        · omega
      · have hcq := h.pend f y q hy hr hq
        have hqp : q ≠ p := fun e' => by subst e'; rw [h1] at hcq; cases hcq; exact hfe rfl
        rcases mr with ⟨_, _, hcu⟩ | ⟨_, _, hcu⟩
        · rw [hcu]; exact hcq
        · rw [hcu, updF_other _ _ hqp]; exact hcq
    · rw [hev, htk, stepsM_set _ _ _ _ h2 m3, h.sum]
  | none =>
    have htu : st.turn i x p = st.tick.begin i x p := by unfold St.turn; rw [hc]
    have hcur : (st.turn i x p).cur p = some st.evs.length := by rw [htu]; exact updF_same _ _ _
    have hee : e = st.evs.length := by rw [h1] at hcur; exact Option.some.inj hcur
    have hte : (st.turn i x p).evs = st.evs ++ [⟨i, st.ticks + 1, 0, 0, ⟨0, 0, []⟩, [], (invQ st.s x).2⟩] := by rw [htu]; rfl
    have htc : ∀ q, q ≠ p → (st.turn i x p).cur q = st.cur q := fun q hq => by rw [htu]; exact updF_other _ _ hq
    have hvi : v.inv = st.ticks + 1 ∧ v.steps = 0 := by
      rw [hte, hee, List.getElem?_append_right (Nat.le_refl _), Nat.sub_self] at h2
      cases h2; exact ⟨rfl, rfl⟩
    have hev2 : ((st.turn i x p).step i p e v).evs = st.evs ++ [midEv (st.turn i x p) v] := by
      rw [hev, hte, hee]
      rw [List.set_append_right _ _ (Nat.le_refl _), Nat.sub_self]; rfl
    have hno : ∀ y ∈ st.evs, (thr cs)[y.i]? = some p → ¬ y.resp = 0 := fun y hy hq hr => by
      obtain ⟨f, hf⟩ := List.mem_iff_getElem?.1 hy
      have := h.pend f y p hf hr hq
      rw [hc] at this; cases this
    generalize midEv (st.turn i x p) v = u at *
    refine ⟨fun y hy => ?_, fun a b y z hab hy hz => ?_, fun a b y z hab hy hz ht => ?_, fun y hy k hk ht => ?_, fun y hy hr => ?_, fun f y q hy hr hq => ?_, ?_⟩
    · rw [htk]
      rw [hev2] at hy
      rcases List.mem_append.1 hy with hy | hy
      · have := h.call y hy
        exact ⟨this.1, this.2.1, by omega, this.2.2.2.1, fun hr => by have := this.2.2.2.2.1 hr; omega, fun hr => by have := this.2.2.2.2.2 hr; omega⟩
      · rw [List.mem_singleton] at hy; subst hy
        have hil := hop.1
        rw [thr_len] at hil
        refine ⟨by omega, by omega, by omega, by omega, fun _ => by omega, fun hr => ?_⟩
        rcases mr with ⟨hz, _⟩ | ⟨hz, _⟩
        · exact absurd hz hr
        · omega
    · rw [hev2] at hy hz
      rcases snoc_get hy with ⟨rfl, rfl⟩ | ⟨_, hy'⟩ <;> rcases snoc_get hz with ⟨rfl, rfl⟩ | ⟨_, hz'⟩
      · omega
      · omega
      · have := (h.call y (List.mem_of_getElem? hy')).2.2.1; omega
      · exact h.grow _ _ _ _ hab hy' hz'
    · rw [hev2] at hy hz
      rcases snoc_get hy with ⟨rfl, rfl⟩ | ⟨_, hy'⟩ <;> rcases snoc_get hz with ⟨rfl, rfl⟩ | ⟨_, hz'⟩
      · omega
      · omega
      · rw [m1, h4, hop.2.1] at ht
        have hym := List.mem_of_getElem? hy'
        have hyr := hno y hym ht
        have hyc := (h.call y hym).2.2.2.2.2 hyr
        refine ⟨hyr, by omega, ?_⟩
        have hyf := h.fin y hym hyr
        have hne : y.i ≠ i := fun e' => by rw [e', hop.2.2] at hyf; cases hyf
        rcases Nat.lt_or_ge y.i i with hlt | hge
        · omega
        · have := h.past y hym i (by omega) (by rw [ht]; exact hop.2.1)
          rw [hop.2.2] at this; cases this
      · exact h.same _ _ _ _ hab hy' hz' ht
    · rw [hev2] at hy
      refine hfg k ?_
      rcases List.mem_append.1 hy with hy | hy
      · exact h.past y hy k hk ht
      · rw [List.mem_singleton] at hy; subst hy
        rw [m1, h4] at hk ht
        exact hpast k hk (by rw [ht]; exact hop.2.1)
    · rw [hev2] at hy
      rcases List.mem_append.1 hy with hy | hy
      · exact hfg _ (h.fin y hy hr)
      · rw [List.mem_singleton] at hy; subst hy
        rw [m1, h4]; exact hfi hr
    · rw [hev2] at hy
      rcases snoc_get hy with ⟨rfl, rfl⟩ | ⟨hfl, hy⟩
      · rcases mr with ⟨_, _, hcu⟩ | ⟨hz, _⟩
        · rw [m1, h4, hop.2.1] at hq
          cases hq
          rw [hcu]; exact hcur
        · omega
      · have hcq := h.pend f y q hy hr hq
        have hqp : q ≠ p := fun e' => by subst e'; rw [hc] at hcq; cases hcq
        rcases mr with ⟨_, _, hcu⟩ | ⟨_, _, hcu⟩
        · rw [hcu, htc q hqp]; exact hcq
        · rw [hcu, updF_other _ _ hqp, htc q hqp]; exact hcq
    · rw [hev2, htk, stepsM_snoc, h.sum]; omega
theorem rowI_end (cs : List CallV) (ws : List Nat) (s : M.S) (picks : List Int) : RowI cs (endM (M := M) cs ws s picks) :=
  (foldM (R := fun st => Wf cs st ∧ RowI cs st) (fun st p h => ⟨h.1.pick p, by
    cases hn : nowOf (thr cs) st.fin p with
    | none => rw [pickM_idle hn]; exact ⟨h.2.call, h.2.grow, h.2.same, h.2.past, h.2.fin, h.2.pend, h.2.sum⟩
    | some i =>
      have hil := (now_open hn).1
      rw [thr_len] at hil
      exact h.2.turned h.1 hn (List.getElem?_eq_getElem hil)⟩) picks _
    ⟨Wf.first cs ws s, ⟨fun v hv => by simp [stM] at hv, fun i j u v _ hu => by simp [stM] at hu, fun i j u v _ hu => by simp [stM] at hu, fun v hv => by simp [stM] at hv, fun v hv => by simp [stM] at hv, fun e v p hv => by simp [stM] at hv, rfl⟩⟩).2
end
end
section
open Go.RowKit
set_option linter.unusedVariables false
theorem fold_set_spec {α : Type} (f : α → Nat) (g : α → Int) : ∀ (l : List α) (z : List Int) (p : Nat) (v : Int), (l.foldl (fun l x => l.set (f x) (g x)) z)[p]? = some v → z[p]? = some v ∨ ∃ x ∈ l, f x = p ∧ v = g x
  | [], z, p, v, h => .inl h
  | x :: r, z, p, v, h => by
    rw [List.foldl_cons] at h
    rcases fold_set_spec f g r _ p v h with h | ⟨y, hy, h1, h2⟩
    · rw [List.getElem?_set] at h
      split at h
      · next hfp =>
        split at h
        · exact .inr ⟨x, List.mem_cons_self, hfp, (Option.some.inj h).symm⟩
        · cases h
      · exact .inl h
    · exact .inr ⟨y, List.mem_cons_of_mem _ hy, h1, h2⟩
theorem take_mem {α : Type} {l : List α} {j : Nat} {x : α} (h : x ∈ l.take j) : ∃ i, i < j ∧ l[i]? = some x := by
  obtain ⟨i, hi⟩ := List.mem_iff_getElem?.1 h
  rw [List.getElem?_take] at hi
  split at hi
  · next hij => exact ⟨i, hij, hi⟩
  · cases hi
section
variable {M : Mach}
/-- keys lie within -/
def KeysIn (st : St M) : Prop := ∀ v ∈ st.evs, (¬ v.resp = 0 → withinL v.key v.inv v.resp) ∧ (v.resp = 0 → keyQ st.s v.q = [] ∨ withinL (keyQ st.s v.q) v.inv st.ticks)
theorem stepsL_map (s : M.S) (l : List (Ev M)) : stepsL (l.map (evR s)) = stepsM l := by
  unfold stepsL stepsM
  rw [List.map_map]
  rfl
theorem rows_ok {cs : List CallV} {n : Nat} {st : St M} (h : RowI cs st) (hth : ∀ x ∈ cs, 0 ≤ x.t ∧ x.t < n) (hn : 1 ≤ n ∧ n ≤ 16) (hk : KeysIn st) (hcn : CnOk st) (htl : st.ticks ≤ 70000) : RowsOk cs n (repOf st) := by
  have hget : ∀ (j : Nat) (x : EvR), (repOf st).evs[j]? = some x → ∃ v, st.evs[j]? = some v ∧ x = evR st.s v := fun j x hx => by
    have hx' : (st.evs.map (evR st.s))[j]? = some x := hx
    rw [List.getElem?_map] at hx'
    obtain ⟨v, hv, rfl⟩ := Option.map_eq_some_iff.1 hx'
    exact ⟨v, hv, rfl⟩
  have hcall : ∀ v ∈ st.evs, ∃ y, cs[v.i]? = some y ∧ 0 ≤ y.t ∧ y.t < n := fun v hv => by
    have hl := (h.call v hv).1
    exact ⟨cs[v.i], List.getElem?_eq_getElem hl, hth _ (List.getElem_mem hl)⟩
  have hsame : ∀ (i j : Nat) (u v : Ev M), i < j → st.evs[i]? = some u → st.evs[j]? = some v → thOf cs (evR st.s u) = thOf cs (evR st.s v) → ¬ u.resp = 0 ∧ u.resp < v.inv ∧ u.i < v.i := fun i j u v hij hu hv ht => by
    obtain ⟨y, hy, hy0, _⟩ := hcall u (List.mem_of_getElem? hu)
    obtain ⟨z, hz, hz0, _⟩ := hcall v (List.mem_of_getElem? hv)
    refine h.same i j u v hij hu hv ?_
    have e1 : thOf cs (evR st.s u) = y.t.toNat := by unfold thOf; show (match cs[u.i]? with | some y => y.t.toNat | none => 0) = _; rw [hy]
    have e2 : thOf cs (evR st.s v) = z.t.toNat := by unfold thOf; show (match cs[v.i]? with | some y => y.t.toNat | none => 0) = _; rw [hz]
    rw [thr_get hy, thr_get hz]
    congr 1
    omega
  refine ⟨hn, fun j x hx => ?_, ?_, hcn, htl⟩
  · obtain ⟨v, hv, rfl⟩ := hget j x hx
    have hvm := List.mem_of_getElem? hv
    have hc := h.call v hvm
    obtain ⟨y, hy, hy0, hyn⟩ := hcall v hvm
    have hth' : thOf cs (evR st.s v) = y.t.toNat := by unfold thOf; show (match cs[v.i]? with | some y => y.t.toNat | none => 0) = _; rw [hy]
    have hpn : thOf cs (evR st.s v) < n := by omega
    refine ⟨⟨y, hy, hy0, hyn⟩, hc.2.1, hc.2.2.2.1, hc.2.2.1, fun z hz hj => ?_, ?_, ?_, fun hr => ?_, fun hr => ?_⟩
    · obtain ⟨u, hu, rfl⟩ := hget _ z hz
      exact h.grow (j - 1) j u v (by omega) hu hv
    · obtain ⟨l, hl⟩ : ∃ l, (lastL cs n ((repOf st).evs.take j))[thOf cs (evR st.s v)]? = some l := ⟨_, List.getElem?_eq_getElem (by rw [lastL_len]; exact hpn)⟩
      refine ⟨l, hl, ?_⟩
      rcases fold_set_spec _ _ _ _ _ _ hl with h0 | ⟨x, hxm, hx1, hx2⟩
      · rw [List.getElem?_replicate, if_pos hpn] at h0
        have := Option.some.inj h0
        show 0 ≤ l ∧ l < (v.inv : Int)
        have := hc.2.1
        omega
      · obtain ⟨i, hij, hi⟩ := take_mem hxm
        obtain ⟨u, hu, rfl⟩ := hget i x hi
        have hs := hsame i j u v hij hu hv hx1
        have e : lastZ (evR st.s u) = (u.resp : Int) := by unfold lastZ; exact if_neg hs.1
        show 0 ≤ l ∧ l < (v.inv : Int)
        omega
    · obtain ⟨c, hcc⟩ : ∃ c, (callL cs n ((repOf st).evs.take j))[thOf cs (evR st.s v)]? = some c := ⟨_, List.getElem?_eq_getElem (by rw [callL_len]; exact hpn)⟩
      refine ⟨c, hcc, ?_⟩
      rcases fold_set_spec _ _ _ _ _ _ hcc with h0 | ⟨x, hxm, hx1, hx2⟩
      · rw [List.getElem?_replicate, if_pos hpn] at h0
        have := Option.some.inj h0
        show c ≤ (v.i : Int) ∧ 0 ≤ c
        omega
      · obtain ⟨i, hij, hi⟩ := take_mem hxm
        obtain ⟨u, hu, rfl⟩ := hget i x hi
        have hs := hsame i j u v hij hu hv hx1
        have e : (evR st.s u).i = u.i := rfl
        show c ≤ (v.i : Int) ∧ 0 ≤ c
        omega
    · have hr' : ¬ v.resp = 0 := hr
      have h1 := hc.2.2.2.2.2 hr'
      refine ⟨h1.1, h1.2.1, h1.2.2, ?_⟩
      show withinL (if v.resp = 0 then keyQ st.s v.q else v.key) v.inv v.resp
      rw [if_neg hr']
      exact (hk v hvm).1 hr'
    · have hr' : v.resp = 0 := hr
      show (if v.resp = 0 then keyQ st.s v.q else v.key) = [] ∨ withinL (if v.resp = 0 then keyQ st.s v.q else v.key) v.inv st.ticks
      rw [if_pos hr']
      exact (hk v hvm).2 hr'
  · show stepsL (st.evs.map (evR st.s)) = st.ticks
    rw [stepsL_map, h.sum]
end
theorem wrongL_threads {n : Int} {ts : List Int} (h : wrongL n ts = 0) : (1 ≤ n ∧ n ≤ 16) ∧ ∀ t ∈ ts, 0 ≤ t ∧ t < n := by
  unfold wrongL at h
  split at h
  · cases h
  · next h1 =>
    split at h
    · cases h
    · split at h
      · cases h
      · next h3 =>
        refine ⟨by omega, fun t ht => ?_⟩
        rw [List.any_eq_true] at h3
        have : ¬ (t < 0 ∨ n ≤ t) := fun h' => h3 ⟨t, ht, decide_eq_true h'⟩
        omega
theorem play_threads {n : Int} {cs : List CallV} {np er : Nat} (h : playErr n cs np er = 0) : ∃ k : Nat, n = (k : Int) ∧ (1 ≤ k ∧ k ≤ 16) ∧ (∀ x ∈ cs, 0 ≤ x.t ∧ x.t < k) ∧ np ≤ 65536 ∧ cs.length ≤ 1000 ∧ er = 0 := by
  unfold playErr at h
  split at h
  · next h1 => exact absurd h h1
  · next h1 =>
    have h2 := check_zero (by simpa using h1)
    have h3 := wrongL_threads h2.1
    have h4 := wrong_len h2.1
    rw [thr_len] at h4
    refine ⟨n.toNat, by omega, by omega, fun x hx => ?_, h2.2, h4, h⟩
    have := h3.2 x.t (List.mem_map.2 ⟨x, hx, rfl⟩)
    omega
end
section
open Go.RowKit
set_option linter.unusedVariables false
section
variable {M : Mach}
/-- an operation that has not responded is its thread's present one -/
def PendI (cs : List CallV) (st : St M) : Prop := ∀ (f : Nat) (y : Ev M) (q : Int), st.evs[f]? = some y → y.resp = 0 → (thr cs)[y.i]? = some q → st.cur q = some f
theorem PendI.turn {cs : List CallV} {st : St M} (h : PendI cs st) {i : Nat} {x : CallV} {p : Int} (hn : nowOf (thr cs) st.fin p = some i) : PendI cs (st.turn i x p) := by
  unfold St.turn
  split
  · exact h
  · next hc =>
    intro f y q hy hr hq
    have hy' : (st.evs ++ [(⟨i, st.ticks + 1, 0, 0, ⟨0, 0, []⟩, [], (invQ st.s x).2⟩ : Ev M)])[f]? = some y := hy
    rcases snoc_get hy' with ⟨rfl, rfl⟩ | ⟨_, hy'⟩
    · have h1 := (now_open hn).2.1
      have h2 : (thr cs)[i]? = some q := hq
      rw [h1] at h2; cases h2
      exact updF_same _ _ _
    · have h1 := h f y q hy' hr hq
      have hne : q ≠ p := fun e => by subst e; rw [hc] at h1; cases h1
      show updF st.cur p _ q = _
      rw [updF_other _ _ hne]; exact h1
theorem PendI.step {cs : List CallV} {st : St M} (h : PendI cs st) {i : Nat} {p : Int} {e : Nat} {v : Ev M} (ht : 0 < st.ticks) (hc : st.cur p = some e) (hv : st.evs[e]? = some v) (hr0 : v.resp = 0) : PendI cs (st.step i p e v) := by
  intro f y q hy hr hq
  have hel := (List.getElem?_eq_some_iff.1 hv).1
  rw [step_evs] at hy
  have hmi := midEv_i' st v
  cases ha : (stepQ st.s v.q st.ws st.cn st.ticks).ans with
  | none =>
    have e1 : (st.step i p e v).cur = st.cur := by unfold St.step; rw [ha]
    rw [e1]
    rcases set_get hy hel with ⟨rfl, rfl⟩ | ⟨_, hy'⟩
    · rw [hmi] at hq; exact h f v q hv hr0 hq
    · exact h f y q hy' hr hq
  | some an =>
    have e1 : (st.step i p e v).cur = updF st.cur p none := by unfold St.step; rw [ha]
    rw [e1]
    rcases set_get hy hel with ⟨rfl, rfl⟩ | ⟨hfe, hy'⟩
    · rw [midEv_done ha] at hr
      exact absurd (show st.ticks = 0 from hr) (by omega)
    · have h1 := h f y q hy' hr hq
      have hne : q ≠ p := fun e' => by subst e'; rw [hc] at h1; exact hfe (Option.some.inj h1).symm
      rw [updF_other _ _ hne]; exact h1
where midEv_i' (st : St M) (v : Ev M) : (midEv st v).i = v.i := by unfold midEv; split <;> rfl
theorem PendI.alone {cs : List CallV} {st : St M} (h : PendI cs st) {f e : Nat} {u v : Ev M} {q : Int} (hu : st.evs[f]? = some u) (hv : st.evs[e]? = some v) (hur : u.resp = 0) (hvr : v.resp = 0) (hq : (thr cs)[u.i]? = some q) (hq2 : (thr cs)[v.i]? = some q) : f = e := by
  have h1 := h f u q hu hur hq
  have h2 := h e v q hv hvr hq2
  rw [h1] at h2; exact Option.some.inj h2
/-- responses' ticks: none twice, none above the tick -/
structure RespI (st : St M) : Prop where
  le : ∀ (k : Nat) (v : Ev M), st.evs[k]? = some v → v.resp ≤ st.ticks
  ne : ∀ (a b : Nat) (u v : Ev M), a ≠ b → st.evs[a]? = some u → st.evs[b]? = some v → ¬ u.resp = 0 → u.resp ≠ v.resp
theorem respI_end (cs : List CallV) (ws : List Nat) (s : M.S) (picks : List Int) : RespI (endM (M := M) cs ws s picks) := by
  have key : ∀ (st : St M) (p : Int), Wf cs st → RespI st → RespI (pickM cs st p) := fun st p hw h => by
    cases hn : nowOf (thr cs) st.fin p with
    | none => rw [pickM_idle hn]; exact ⟨h.le, h.ne⟩
    | some i =>
      have hil := (now_open hn).1
      rw [thr_len] at hil
      obtain ⟨x, hx⟩ : ∃ x, cs[i]? = some x := ⟨cs[i], List.getElem?_eq_getElem hil⟩
      obtain ⟨e, v, h1, h2, h3, h4, h5⟩ := pickM_cases hw hn hx
      rw [h5]
      have hT : RespI (st.turn i x p) ∧ ∀ (k : Nat) (u : Ev M), (st.turn i x p).evs[k]? = some u → u.resp ≤ st.ticks := by
        unfold St.turn
        split
        · exact ⟨⟨fun k v hv => Nat.le_succ_of_le (h.le k v hv), h.ne⟩, h.le⟩
        · have hle : ∀ (k : Nat) (u : Ev M), (st.tick.begin i x p).evs[k]? = some u → u.resp ≤ st.ticks := fun k u hu => by
            rcases snoc_get (show (st.evs ++ [_])[k]? = some u from hu) with ⟨_, rfl⟩ | ⟨_, hu'⟩
            · exact Nat.zero_le _
            · exact h.le k u hu'
          refine ⟨⟨fun k v hv => Nat.le_succ_of_le (hle k v hv), fun a b u v hab hu hv hr => ?_⟩, hle⟩
          rcases snoc_get (show (st.evs ++ [_])[a]? = some u from hu) with ⟨_, rfl⟩ | ⟨_, hu'⟩
          · exact absurd rfl hr
          · rcases snoc_get (show (st.evs ++ [_])[b]? = some v from hv) with ⟨_, rfl⟩ | ⟨_, hv'⟩
            · exact hr
            · exact h.ne a b u v hab hu' hv' hr
      obtain ⟨hT, hle⟩ := hT
      have htk : (st.turn i x p).ticks = st.ticks + 1 := turn_ticks
      have hel := (List.getElem?_eq_some_iff.1 h2).1
      have hmid : (midEv (st.turn i x p) v).resp = 0 ∨ (midEv (st.turn i x p) v).resp = st.ticks + 1 := by
        unfold midEv
        split
        · exact .inl h3
        · exact .inr htk
      refine ⟨fun k u hu => ?_, fun a b u w hab hu hw hr => ?_⟩
      · rw [(step_ticks (st := st.turn i x p)).1, htk]
        rw [step_evs] at hu
        rcases set_get hu hel with ⟨rfl, rfl⟩ | ⟨_, hu'⟩
        · omega
        · have := hle k u hu'; omega
      · rw [step_evs] at hu hw
        rcases set_get hu hel with ⟨rfl, rfl⟩ | ⟨_, hu'⟩ <;> rcases set_get hw hel with ⟨rfl, rfl⟩ | ⟨_, hw'⟩
        · exact absurd rfl hab
        · have := hle b w hw'; omega
        · have := hle a u hu'; omega
        · exact hT.ne a b u w hab hu' hw' hr
  exact (foldM (R := fun st => Wf cs st ∧ RespI st) (fun st p h => ⟨h.1.pick p, key st p h.1 h.2⟩) picks _ ⟨Wf.first cs ws s, ⟨fun k v hv => by simp [stM] at hv, fun a b u v _ hu => by simp [stM] at hu⟩⟩).2
end
end
end Go.Proofs.Ytpoebpnmbogmnaa
