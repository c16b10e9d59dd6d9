/- Of each thread one operation at most is under way; ticks of responses are unlike, plainly. -/
import Derived.Test.YtglpalomhhhmhaaQF
namespace Go.Proofs.Ytglpalomhhhmhaa
open Go.RowKit
set_option linter.unusedVariables false
section
variable {M : Mach}
/-- an operation that has not responded is its thread's present one -/
def PendI (cs : List CallV) (st : St M) : Prop := ∀ (f : Nat) (y : Ev M) (q : Int), st.evs[f]? = some y → y.resp = 0 → (thr cs)[y.i]? = some q → st.cur q = some f
theorem PendI.turn {cs : List CallV} {st : St M} (h : PendI cs st) {i : Nat} {x : CallV} {p : Int} (hn : nowOf (thr cs) st.fin p = some i) : PendI cs (st.turn i x p) := by
  unfold St.turn
  split
  · exact h
  · next hc =>
    intro f y q hy hr hq
    have hy' : (st.evs ++ [(⟨i, st.ticks + 1, 0, 0, ⟨0, 0, []⟩, [], (invQ st.s x).2⟩ : Ev M)])[f]? = some y := hy
    rcases snoc_get hy' with ⟨rfl, rfl⟩ | ⟨_, hy'⟩
    · have h1 := (now_open hn).2.1
      have h2 : (thr cs)[i]? = some q := hq
      rw [h1] at h2; cases h2
      exact updF_same _ _ _
    · have h1 := h f y q hy' hr hq
      have hne : q ≠ p := fun e => by subst e; rw [hc] at h1; cases h1
      show updF st.cur p _ q = _
      rw [updF_other _ _ hne]; exact h1
theorem PendI.step {cs : List CallV} {st : St M} (h : PendI cs st) {i : Nat} {p : Int} {e : Nat} {v : Ev M} (ht : 0 < st.ticks) (hc : st.cur p = some e) (hv : st.evs[e]? = some v) (hr0 : v.resp = 0) : PendI cs (st.step i p e v) := by
  intro f y q hy hr hq
  have hel := (List.getElem?_eq_some_iff.1 hv).1
  rw [step_evs] at hy
  have hmi := midEv_i' st v
  cases ha : (stepQ st.s v.q st.ws st.cn st.ticks).ans with
  | none =>
    have e1 : (st.step i p e v).cur = st.cur := by unfold St.step; rw [ha]
    rw [e1]
    rcases set_get hy hel with ⟨rfl, rfl⟩ | ⟨_, hy'⟩
    · rw [hmi] at hq; exact h f v q hv hr0 hq
    · exact h f y q hy' hr hq
  | some an =>
    have e1 : (st.step i p e v).cur = updF st.cur p none := by unfold St.step; rw [ha]
    rw [e1]
    rcases set_get hy hel with ⟨rfl, rfl⟩ | ⟨hfe, hy'⟩
    · rw [midEv_done ha] at hr
      exact absurd (show st.ticks = 0 from hr) (by omega)
    · have h1 := h f y q hy' hr hq
      have hne : q ≠ p := fun e' => by subst e'; rw [hc] at h1; exact hfe (Option.some.inj h1).symm
      rw [updF_other _ _ hne]; exact h1
where midEv_i' (st : St M) (v : Ev M) : (midEv st v).i = v.i := by unfold midEv; split <;> rfl
theorem PendI.alone {cs : List CallV} {st : St M} (h : PendI cs st) {f e : Nat} {u v : Ev M} {q : Int} (hu : st.evs[f]? = some u) (hv : st.evs[e]? = some v) (hur : u.resp = 0) (hvr : v.resp = 0) (hq : (thr cs)[u.i]? = some q) (hq2 : (thr cs)[v.i]? = some q) : f = e := by
  have h1 := h f u q hu hur hq
  have h2 := h e v q hv hvr hq2
  rw [h1] at h2; exact Option.some.inj h2
/-- responses' ticks: none twice, none above the tick -/
structure RespI (st : St M) : Prop where
  le : ∀ (k : Nat) (v : Ev M), st.evs[k]? = some v → v.resp ≤ st.ticks
  ne : ∀ (a b : Nat) (u v : Ev M), a ≠ b → st.evs[a]? = some u → st.evs[b]? = some v → ¬ u.resp = 0 → u.resp ≠ v.resp
theorem respI_end (cs : List CallV) (ws : List Nat) (s : M.S) (picks : List Int) : RespI (endM (M := M) cs ws s picks) := by
  have key : ∀ (st : St M) (p : Int), Wf cs st → RespI st → RespI (pickM cs st p) := fun st p hw h => by
    cases hn : nowOf (thr cs) st.fin p with
    | none => rw [pickM_idle hn]; exact ⟨h.le, h.ne⟩
    | some i =>
      have hil := (now_open hn).1
      rw [thr_len] at hil
      obtain ⟨x, hx⟩ : ∃ x, cs[i]? = some x := ⟨cs[i], List.getElem?_eq_getElem hil⟩
      obtain ⟨e, v, h1, h2, h3, h4, h5⟩ := pickM_cases hw hn hx
      rw [h5]
      have hT : RespI (st.turn i x p) ∧ ∀ (k : Nat) (u : Ev M), (st.turn i x p).evs[k]? = some u → u.resp ≤ st.ticks := by
        unfold St.turn
        split
        · exact ⟨⟨fun k v hv => Nat.le_succ_of_le (h.le k v hv), h.ne⟩, h.le⟩
        · have hle : ∀ (k : Nat) (u : Ev M), (st.tick.begin i x p).evs[k]? = some u → u.resp ≤ st.ticks := fun k u hu => by
            rcases snoc_get (show (st.evs ++ [_])[k]? = some u from hu) with ⟨_, rfl⟩ | ⟨_, hu'⟩
            · exact Nat.zero_le _
            · exact h.le k u hu'
          refine ⟨⟨fun k v hv => Nat.le_succ_of_le (hle k v hv), fun a b u v hab hu hv hr => ?_⟩, hle⟩
          rcases snoc_get (show (st.evs ++ [_])[a]? = some u from hu) with ⟨_, rfl⟩ | ⟨_, hu'⟩
          · exact absurd rfl hr
          · rcases snoc_get (show (st.evs ++ [_])[b]? = some v from hv) with ⟨_, rfl⟩ | ⟨_, hv'⟩
            · exact hr
            · exact h.ne a b u v hab hu' hv' hr
      obtain ⟨hT, hle⟩ := hT
      have htk : (st.turn i x p).ticks = st.ticks + 1 := turn_ticks
      have hel := (List.getElem?_eq_some_iff.1 h2).1
      have hmid : (midEv (st.turn i x p) v).resp = 0 ∨ (midEv (st.turn i x p) v).resp = st.ticks + 1 := by
        unfold midEv
        split
        · exact .inl h3
        · exact .inr htk
      refine ⟨fun k u hu => ?_, fun a b u w hab hu hw hr => ?_⟩
      · rw [(step_ticks (st := st.turn i x p)).1, htk]
        rw [step_evs] at hu
        rcases set_get hu hel with ⟨rfl, rfl⟩ | ⟨_, hu'⟩
        · omega
        · have := hle k u hu'; omega
      · rw [step_evs] at hu hw
        rcases set_get hu hel with ⟨rfl, rfl⟩ | ⟨_, hu'⟩ <;> rcases set_get hw hel with ⟨rfl, rfl⟩ | ⟨_, hw'⟩
        · exact absurd rfl hab
        · have := hle b w hw'; omega
        · have := hle a u hu'; omega
        · exact hT.ne a b u w hab hu' hw' hr
  exact (foldM (R := fun st => Wf cs st ∧ RespI st) (fun st p h => ⟨h.1.pick p, key st p h.1 h.2⟩) picks _ ⟨Wf.first cs ws s, ⟨fun k v hv => by simp [stM] at hv, fun a b u v _ hu => by simp [stM] at hu⟩⟩).2
end
end Go.Proofs.Ytglpalomhhhmhaa
