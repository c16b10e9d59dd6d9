/- Operations done one by one, by a model, plainly; objects whose operations take effect in their first step. -/
import Derived.Test.YtihhjbcphdnkhaaQF
import Derived.Test.YtihhjbcphdnkhaaQI
namespace Go.Proofs.Ytihhjbcphdnkhaa
open Go.RowKit
set_option linter.unusedVariables false

structure Mod where
  st0 : List Nat
  ap : List Nat → CallV → List Nat × Ans
section
variable (D : Mod)
def mStep (cs : List CallV) (st : List Nat) (i : Nat) : List Nat := match cs[i]? with | none => st | some x => if x.o < 0 ∨ 1 ≤ x.o then st else (D.ap st x).1
def mAns (cs : List CallV) (st : List Nat) (i : Nat) : Ans := match cs[i]? with | none => ⟨0, 0, []⟩ | some x => if x.o < 0 ∨ 1 ≤ x.o then ⟨12, 0, []⟩ else (D.ap st x).2
def mFold (cs : List CallV) (is : List Nat) : List Nat := is.foldl (mStep D cs) D.st0
end
theorem mStep_off {D : Mod} {cs : List CallV} {st : List Nat} {i : Nat} {x : CallV} (hx : cs[i]? = some x) (h : x.o < 0 ∨ 1 ≤ x.o) : mStep D cs st i = st := by unfold mStep; simp only [hx]; rw [if_pos h]
theorem mStep_on {D : Mod} {cs : List CallV} {st : List Nat} {i : Nat} {x : CallV} (hx : cs[i]? = some x) (h : ¬ (x.o < 0 ∨ 1 ≤ x.o)) : mStep D cs st i = (D.ap st x).1 := by unfold mStep; simp only [hx]; rw [if_neg h]
theorem mAns_off {D : Mod} {cs : List CallV} {st : List Nat} {i : Nat} {x : CallV} (hx : cs[i]? = some x) (h : x.o < 0 ∨ 1 ≤ x.o) : mAns D cs st i = ⟨12, 0, []⟩ := by unfold mAns; simp only [hx]; rw [if_pos h]
theorem mAns_on {D : Mod} {cs : List CallV} {st : List Nat} {i : Nat} {x : CallV} (hx : cs[i]? = some x) (h : ¬ (x.o < 0 ∨ 1 ≤ x.o)) : mAns D cs st i = (D.ap st x).2 := by unfold mAns; simp only [hx]; rw [if_neg h]
theorem mFold_snoc (D : Mod) (cs : List CallV) (is : List Nat) (i : Nat) : mFold D cs (is ++ [i]) = mStep D cs (mFold D cs is) i := by unfold mFold; rw [List.foldl_append]; rfl
def callOf (evs : List EvR) (j : Nat) : Nat := match evs[j]? with | some x => x.i | none => 0
theorem callOf_some {evs : List EvR} {j : Nat} {x : EvR} (h : evs[j]? = some x) : callOf evs j = x.i := by unfold callOf; rw [h]
/-- the model's state ahead of the k-th one in order -/
def stAt (D : Mod) (cs : List CallV) (evs : List EvR) (k : Nat) : List Nat := mFold D cs (((ordP evs evs.length).take k).map (callOf evs))
theorem stAt_succ {D : Mod} {cs : List CallV} {evs : List EvR} {k j : Nat} {x : EvR} (hj : (ordP evs evs.length)[k]? = some j) (hx : evs[j]? = some x) : stAt D cs evs (k + 1) = mStep D cs (stAt D cs evs k) x.i := by
  unfold stAt
  rw [take_snoc hj, List.map_append, List.map_singleton, mFold_snoc, callOf_some hx]
/-- what Wrong asks -/
def WrongOk (D : Mod) (cs : List CallV) (evs : List EvR) : Prop := ∀ (k j : Nat) (x : EvR), (ordP evs evs.length)[k]? = some j → evs[j]? = some x → ¬ x.resp = 0 → x.ans = mAns D cs (stAt D cs evs k) x.i

/-- keys in the order of the numbers -/
theorem ord_range {evs : List EvR} (h : ∀ (i : Nat) (x : EvR), evs[i]? = some x → x.key = [2 * x.inv]) (hg : ∀ (i j : Nat) (x y : EvR), i < j → evs[i]? = some x → evs[j]? = some y → x.inv < y.inv) : ∀ n, n ≤ evs.length → ordP evs n = List.range n
  | 0, _ => rfl
  | i + 1, hn => by
    have ih := ord_range h hg i (by omega)
    obtain ⟨x, hx⟩ : ∃ x, evs[i]? = some x := ⟨evs[i]'(by omega), List.getElem?_eq_getElem (by omega)⟩
    have hkx := keyAt_some hx
    have hk := h i x hx
    rw [ordP_some (by rw [hkx, hk]; simp), ih]
    have hp : placeB evs i (List.range i) i = i := by
      cases i with
      | zero => rfl
      | succ k =>
        obtain ⟨y, hy⟩ : ∃ y, evs[k]? = some y := ⟨evs[k]'(by omega), List.getElem?_eq_getElem (by omega)⟩
        refine placeB_no (v := k) (by rw [List.getElem?_range (by omega)]) ?_
        have := hg k (k + 1) y x (by omega) hy hx
        rw [hkx, keyAt_some hy, hk, h k y hy]
        show (if 2 * x.inv = 2 * y.inv then aheadK [] [] else decide (2 * x.inv < 2 * y.inv)) = false
        rw [if_neg (by omega), decide_eq_false (by omega)]
    unfold insB
    rw [List.length_range, hp, List.take_of_length_le (by simp), List.drop_of_length_le (by simp), ← List.range_succ]
theorem range_calls {evs : List EvR} {k : Nat} (hk : k ≤ evs.length) : ((List.range evs.length).take k).map (callOf evs) = (evs.take k).map EvR.i := by
  apply List.ext_getElem?
  intro a
  rw [List.getElem?_map, List.getElem?_map, List.getElem?_take, List.getElem?_take]
  by_cases ha : a < k
  · rw [if_pos ha, if_pos ha, List.getElem?_range (by omega)]
    obtain ⟨x, hx⟩ : ∃ x, evs[a]? = some x := ⟨evs[a]'(by omega), List.getElem?_eq_getElem (by omega)⟩
    rw [hx, Option.map_some, Option.map_some, callOf_some hx]
  · rw [if_neg ha, if_neg ha]; rfl

section
variable {M : Mach}
/-- an object whose operations take effect in their first step; 'G': what one that goes on will answer -/
structure FirstM (D : Mod) (cs : List CallV) (I : St M → Prop) (G : M.S → List Nat → M.Q ⊕ Nat → Nat → Ans → Prop) : Prop where
  key : ∀ s ws q inv a, G s ws q inv a → keyQ s q = [2 * inv]
  first : ∀ (st : St M) (i : Nat) (x : CallV) (t : Nat), I st → cs[i]? = some x → 0 < t →
    (stepQ (invQ st.s x).1 (invQ st.s x).2 st.ws st.cn t).ws = mStep D cs st.ws i ∧
    (∀ a, (stepQ (invQ st.s x).1 (invQ st.s x).2 st.ws st.cn t).ans = some a → a = mAns D cs st.ws i ∧ keyQ (stepQ (invQ st.s x).1 (invQ st.s x).2 st.ws st.cn t).s (stepQ (invQ st.s x).1 (invQ st.s x).2 st.ws st.cn t).q = []) ∧
    ((stepQ (invQ st.s x).1 (invQ st.s x).2 st.ws st.cn t).ans = none → G (stepQ (invQ st.s x).1 (invQ st.s x).2 st.ws st.cn t).s (stepQ (invQ st.s x).1 (invQ st.s x).2 st.ws st.cn t).ws (stepQ (invQ st.s x).1 (invQ st.s x).2 st.ws st.cn t).q t (mAns D cs st.ws i)) ∧
    (∀ q inv a, G st.s st.ws q inv a → G (stepQ (invQ st.s x).1 (invQ st.s x).2 st.ws st.cn t).s (stepQ (invQ st.s x).1 (invQ st.s x).2 st.ws st.cn t).ws q inv a)
  more : ∀ (st : St M) (q : M.Q ⊕ Nat) (inv : Nat) (a : Ans) (t : Nat), I st → G st.s st.ws q inv a → 0 < t →
    (stepQ st.s q st.ws st.cn t).ws = st.ws ∧
    (∀ a', (stepQ st.s q st.ws st.cn t).ans = some a' → a' = a ∧ keyQ (stepQ st.s q st.ws st.cn t).s (stepQ st.s q st.ws st.cn t).q = [2 * inv]) ∧
    ((stepQ st.s q st.ws st.cn t).ans = none → G (stepQ st.s q st.ws st.cn t).s (stepQ st.s q st.ws st.cn t).ws (stepQ st.s q st.ws st.cn t).q inv a) ∧
    (∀ q' inv' a', G st.s st.ws q' inv' a' → G (stepQ st.s q st.ws st.cn t).s (stepQ st.s q st.ws st.cn t).ws q' inv' a')
structure LinI (D : Mod) (cs : List CallV) (G : M.S → List Nat → M.Q ⊕ Nat → Nat → Ans → Prop) (st : St M) : Prop where
  fold : mFold D cs (st.evs.map Ev.i) = st.ws
  done : ∀ (k : Nat) (v : Ev M), st.evs[k]? = some v → ¬ v.resp = 0 → v.ans = mAns D cs (mFold D cs ((st.evs.take k).map Ev.i)) v.i ∧ v.key = [2 * v.inv]
  pend : ∀ (k : Nat) (v : Ev M), st.evs[k]? = some v → v.resp = 0 → G st.s st.ws v.q v.inv (mAns D cs (mFold D cs ((st.evs.take k).map Ev.i)) v.i)
theorem map_set_i (l : List (Ev M)) (e : Nat) (u v : Ev M) (hv : l[e]? = some v) (h : u.i = v.i) : (l.set e u).map Ev.i = l.map Ev.i := by
  rw [List.map_set, h]
  obtain ⟨hl, hv⟩ := List.getElem?_eq_some_iff.1 hv
  apply List.ext_getElem?
  intro k
  rw [List.getElem?_set]
  split
  · next hk =>
    subst hk
    rw [if_pos (by simp; exact hl), List.getElem?_map, List.getElem?_eq_getElem hl, hv]; rfl
  · rfl
theorem take_set_i (l : List (Ev M)) (e k : Nat) (u v : Ev M) (hv : l[e]? = some v) (h : u.i = v.i) : ((l.set e u).take k).map Ev.i = (l.take k).map Ev.i := by
  rw [List.map_take, List.map_take, map_set_i l e u v hv h]
theorem midEv_i (st : St M) (v : Ev M) : (midEv st v).i = v.i ∧ (midEv st v).inv = v.inv := by
  unfold midEv
  split <;> exact ⟨rfl, rfl⟩
theorem step_s {st : St M} {i : Nat} {p : Int} {e : Nat} {v : Ev M} : (st.step i p e v).s = (stepQ st.s v.q st.ws st.cn st.ticks).s := by unfold St.step; split <;> rfl
theorem LinI.turned {D : Mod} {cs : List CallV} {I : St M → Prop} {G : M.S → List Nat → M.Q ⊕ Nat → Nat → Ans → Prop} (hF : FirstM D cs I G) {st : St M} (h : LinI D cs G st) (hI : I st) (hw : Wf cs st) {p : Int} {i : Nat} {x : CallV} (hn : nowOf (thr cs) st.fin p = some i) (hx : cs[i]? = some x) : LinI D cs G (pickM cs st p) := by
  obtain ⟨e, v, h1, h2, h3, h4, h5⟩ := pickM_cases hw hn hx
  rw [h5]
  have hel := (List.getElem?_eq_some_iff.1 h2).1
  have hev := step_evs (st := st.turn i x p) (i := i) (p := p) (e := e) (v := v)
  have hws := step_ws (st := st.turn i x p) (i := i) (p := p) (e := e) (v := v)
  have hss := step_s (st := st.turn i x p) (i := i) (p := p) (e := e) (v := v)
  obtain ⟨m1, m2⟩ := midEv_i (st.turn i x p) v
  have htk : 0 < (st.turn i x p).ticks := by rw [turn_ticks]; omega
  cases hc : st.cur p with
  | some e0 =>
    have htu : st.turn i x p = st.tick := by unfold St.turn; rw [hc]
    rw [htu] at h1 h2 hel hev hws hss m1 m2 htk ⊢
    have hv : st.evs[e]? = some v := h2
    have hG := h.pend e v hv h3
    obtain ⟨a1, a2, a3, a4⟩ := hF.more st v.q v.inv _ st.tick.ticks hI hG htk
    refine ⟨?_, fun k u hu hr => ?_, fun k u hu hr => ?_⟩
    · rw [hev, hws, map_set_i _ e _ v h2 m1]
      exact h.fold.trans a1.symm
    · rw [hev] at hu ⊢
      rw [take_set_i _ e k _ v h2 m1]
      rcases set_get hu hel with ⟨rfl, rfl⟩ | ⟨_, hu'⟩
      · rw [m1, m2]
        cases ha : (stepQ st.s v.q st.ws st.cn st.tick.ticks).ans with
        | none =>
          rw [midEv_more (st := st.tick) ha] at hr
          exact absurd h3 hr
        | some an =>
          obtain ⟨b1, b2⟩ := a2 an ha
          rw [midEv_done (st := st.tick) ha]
          refine ⟨b1, ?_⟩
          show keyOr (keyQ (stepQ st.s v.q st.ws st.cn st.tick.ticks).s (stepQ st.s v.q st.ws st.cn st.tick.ticks).q) _ = _
          rw [b2]; unfold keyOr; rw [if_neg (by simp)]
      · exact h.done k u hu' hr
    · rw [hev] at hu ⊢
      rw [hws, hss, take_set_i _ e k _ v h2 m1]
      rcases set_get hu hel with ⟨rfl, rfl⟩ | ⟨_, hu'⟩
      · rw [m1, m2]
        cases ha : (stepQ st.s v.q st.ws st.cn st.tick.ticks).ans with
        | none =>
          rw [midEv_more (st := st.tick) ha]
          exact a3 ha
        | some an =>
          rw [midEv_done (st := st.tick) ha] at hr
          exact absurd (show st.tick.ticks = 0 from hr) (by omega)
      · exact a4 _ _ _ (h.pend k u hu' hr)
  | none =>
    have htu : st.turn i x p = st.tick.begin i x p := by unfold St.turn; rw [hc]
    have hcur : (st.turn i x p).cur p = some st.evs.length := by rw [htu]; exact updF_same _ _ _
    have hee : e = st.evs.length := by rw [h1] at hcur; exact Option.some.inj hcur
    have hte : (st.turn i x p).evs = st.evs ++ [⟨i, st.ticks + 1, 0, 0, ⟨0, 0, []⟩, [], (invQ st.s x).2⟩] := by rw [htu]; rfl
    have hts : (st.turn i x p).s = (invQ st.s x).1 := by rw [htu]; rfl
    have htw : (st.turn i x p).ws = st.ws := turn_ws
    have htc : (st.turn i x p).cn = st.cn := by rw [htu]; rfl
    have hvi : v.inv = st.ticks + 1 ∧ v.q = (invQ st.s x).2 := by
      rw [hte, hee, List.getElem?_append_right (Nat.le_refl _), Nat.sub_self] at h2
      cases h2; exact ⟨rfl, rfl⟩
    have htt : (st.turn i x p).ticks = st.ticks + 1 := turn_ticks
    obtain ⟨a1, a2, a3, a4⟩ := hF.first st i x (st.ticks + 1) hI hx (by omega)
    have hO : stepQ (st.turn i x p).s v.q (st.turn i x p).ws (st.turn i x p).cn (st.turn i x p).ticks = stepQ (invQ st.s x).1 (invQ st.s x).2 st.ws st.cn (st.ticks + 1) := by rw [hts, hvi.2, htw, htc, htt]
    have hev2 : ((st.turn i x p).step i p e v).evs = st.evs ++ [midEv (st.turn i x p) v] := by
      rw [hev, hte, hee]
      rw [List.set_append_right _ _ (Nat.le_refl _), Nat.sub_self]; rfl
    rw [hO] at hws hss
    have htake : ∀ k, k ≤ st.evs.length → ((st.evs ++ [midEv (st.turn i x p) v]).take k).map Ev.i = (st.evs.take k).map Ev.i := fun k hk => by rw [List.take_append_of_le_length hk]
    refine ⟨?_, fun k u hu hr => ?_, fun k u hu hr => ?_⟩
    · rw [hev2, hws, List.map_append, List.map_singleton, mFold_snoc, h.fold, m1, h4]
      exact a1.symm
    · rw [hev2] at hu ⊢
      rcases snoc_get hu with ⟨rfl, rfl⟩ | ⟨hk, hu'⟩
      · rw [htake _ (Nat.le_refl _), List.take_length, h.fold, m1, m2, h4]
        cases ha : (stepQ (invQ st.s x).1 (invQ st.s x).2 st.ws st.cn (st.ticks + 1)).ans with
        | none =>
          rw [midEv_more (by rw [hO]; exact ha)] at hr
          exact absurd h3 hr
        | some an =>
          obtain ⟨b1, b2⟩ := a2 an ha
          rw [midEv_done (by rw [hO]; exact ha)]
          refine ⟨b1, ?_⟩
          show keyOr (keyQ (stepQ (st.turn i x p).s v.q (st.turn i x p).ws (st.turn i x p).cn (st.turn i x p).ticks).s (stepQ (st.turn i x p).s v.q (st.turn i x p).ws (st.turn i x p).cn (st.turn i x p).ticks).q) _ = _
          rw [hO, b2, htt, hvi.1]; rfl
      · rw [htake k (by omega)]
        exact h.done k u hu' hr
    · rw [hev2] at hu ⊢
      rw [hws, hss]
      rcases snoc_get hu with ⟨rfl, rfl⟩ | ⟨hk, hu'⟩
      · rw [htake _ (Nat.le_refl _), List.take_length, h.fold, m1, m2, h4]
        cases ha : (stepQ (invQ st.s x).1 (invQ st.s x).2 st.ws st.cn (st.ticks + 1)).ans with
        | none =>
          rw [midEv_more (by rw [hO]; exact ha), hvi.1]
          show G _ _ (stepQ (st.turn i x p).s v.q (st.turn i x p).ws (st.turn i x p).cn (st.turn i x p).ticks).q _ _
          rw [hO]
          exact a3 ha
        | some an =>
          rw [midEv_done (by rw [hO]; exact ha)] at hr
          exact absurd (show (st.turn i x p).ticks = 0 from hr) (by omega)
      · rw [htake k (by omega)]
        exact a4 _ _ _ (h.pend k u hu' hr)
theorem linI_end {D : Mod} {cs : List CallV} {I : St M → Prop} {G : M.S → List Nat → M.Q ⊕ Nat → Nat → Ans → Prop} (hF : FirstM D cs I G) {K : MachRel M} (hK : MachOk K cs I) (ws : List Nat) (s : M.S) (h0 : I (stM cs ws s)) (hd : D.st0 = ws) (picks : List Int) : LinI D cs G (endM cs ws s picks) :=
  (foldM (R := fun st => Wf cs st ∧ I st ∧ LinI D cs G st) (fun st p h => ⟨h.1.pick p, hK.pick h.2.1 h.1 p, by
    cases hn : nowOf (thr cs) st.fin p with
    | none => rw [pickM_idle hn]; exact ⟨h.2.2.fold, h.2.2.done, h.2.2.pend⟩
    | some i =>
      have hil := (now_open hn).1
      rw [thr_len] at hil
      exact h.2.2.turned hF h.2.1 h.1 hn (List.getElem?_eq_getElem hil)⟩) picks _
    ⟨Wf.first cs ws s, h0, ⟨hd, fun k v hv => by simp [stM] at hv, fun k v hv => by simp [stM] at hv⟩⟩).2.2
theorem linI_keys {D : Mod} {cs : List CallV} {I : St M → Prop} {G : M.S → List Nat → M.Q ⊕ Nat → Nat → Ans → Prop} (hF : FirstM D cs I G) {st : St M} (h : LinI D cs G st) : ∀ (i : Nat) (x : EvR), (repOf st).evs[i]? = some x → x.key = [2 * x.inv] := fun i x hx => by
  have hx' : (st.evs.map (evR st.s))[i]? = some x := hx
  rw [List.getElem?_map] at hx'
  obtain ⟨v, hv, rfl⟩ := Option.map_eq_some_iff.1 hx'
  show (if v.resp = 0 then keyQ st.s v.q else v.key) = [2 * v.inv]
  by_cases hr : v.resp = 0
  · rw [if_pos hr]; exact hF.key _ _ _ _ _ (h.pend i v hv hr)
  · rw [if_neg hr]; exact (h.done i v hv hr).2
theorem linI_in {D : Mod} {cs : List CallV} {I : St M → Prop} {G : M.S → List Nat → M.Q ⊕ Nat → Nat → Ans → Prop} (hF : FirstM D cs I G) {st : St M} (h : LinI D cs G st) (hR : RowI cs st) : KeysIn st := fun v hv => by
  obtain ⟨k, hk⟩ := List.mem_iff_getElem?.1 hv
  have hc := hR.call v hv
  refine ⟨fun hr => ?_, fun hr => ?_⟩
  · have h3 := hc.2.2.2.2.2 hr
    exact ⟨2 * v.inv, [], (h.done k v hk hr).2, by omega, by omega⟩
  · exact .inr ⟨2 * v.inv, [], hF.key _ _ _ _ _ (h.pend k v hk hr), by omega, by omega⟩
theorem linI_wrong {D : Mod} {cs : List CallV} {I : St M → Prop} {G : M.S → List Nat → M.Q ⊕ Nat → Nat → Ans → Prop} (hF : FirstM D cs I G) {st : St M} (h : LinI D cs G st) (hR : RowI cs st) : WrongOk D cs (repOf st).evs := fun k j x hj hx hr => by
  have hget : ∀ (j : Nat) (x : EvR), (repOf st).evs[j]? = some x → ∃ v, st.evs[j]? = some v ∧ x = evR st.s v := fun j x hx => by
    have hx' : (st.evs.map (evR st.s))[j]? = some x := hx
    rw [List.getElem?_map] at hx'
    obtain ⟨v, hv, rfl⟩ := Option.map_eq_some_iff.1 hx'
    exact ⟨v, hv, rfl⟩
  have hord : ordP (repOf st).evs (repOf st).evs.length = List.range (repOf st).evs.length := ord_range (linI_keys hF h) (fun i j x y hij hx hy => by
    obtain ⟨u, hu, rfl⟩ := hget i x hx
    obtain ⟨v, hv, rfl⟩ := hget j y hy
    exact hR.grow i j u v hij hu hv) _ (Nat.le_refl _)
  have hjl := (List.getElem?_eq_some_iff.1 hx).1
  have hkj : k = j ∧ k < (repOf st).evs.length := by
    rw [hord] at hj
    have hkl := (List.getElem?_eq_some_iff.1 hj).1
    rw [List.length_range] at hkl
    rw [List.getElem?_range hkl] at hj
    exact ⟨Option.some.inj hj, hkl⟩
  obtain ⟨rfl, _⟩ := hkj
  unfold stAt
  rw [hord, range_calls (by omega)]
  obtain ⟨v, hv, rfl⟩ := hget k x hx
  have := (h.done k v hv hr).1
  show v.ans = mAns D cs (mFold D cs ((((st.evs.map (evR st.s))).take k).map EvR.i)) v.i
  rw [← List.map_take, List.map_map]
  exact this
end
end Go.Proofs.Ytihhjbcphdnkhaa
