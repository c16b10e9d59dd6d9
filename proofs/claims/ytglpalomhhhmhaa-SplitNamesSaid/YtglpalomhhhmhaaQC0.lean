/- What a play keeps, plainly. -/
import Derived.Test.YtglpalomhhhmhaaZF0
namespace Go.Proofs.Ytglpalomhhhmhaa
open Go.RowKit
section
variable {M : Mach}
theorem turn_evs {st : St M} {i : Nat} {x : CallV} {p : Int} {v : Ev M} (h : v ∈ (st.turn i x p).evs) : v ∈ st.evs ∨ (v = ⟨i, st.ticks + 1, 0, 0, ⟨0, 0, []⟩, [], (invQ st.s x).2⟩) := by
  unfold St.turn at h
  split at h
  · exact .inl h
  · rcases List.mem_append.1 (show v ∈ st.evs ++ [_] from h) with h | h
    · exact .inl h
    · rw [List.mem_singleton] at h; exact .inr h
theorem turn_ws {st : St M} {i : Nat} {x : CallV} {p : Int} : (st.turn i x p).ws = st.ws := by unfold St.turn; split <;> rfl
theorem step_evs {st : St M} {i : Nat} {p : Int} {e : Nat} {v : Ev M} : (st.step i p e v).evs = st.evs.set e (midEv st v) := by
  unfold St.step midEv
  split
  · next h => rw [h]
  · next a h => rw [h]
theorem step_ws {st : St M} {i : Nat} {p : Int} {e : Nat} {v : Ev M} : (st.step i p e v).ws = (stepQ st.s v.q st.ws st.cn st.ticks).ws := by unfold St.step; split <;> rfl
theorem set_mem {α : Type} {l : List α} {e : Nat} {y u : α} (h : u ∈ l.set e y) (hl : e < l.length) : u = y ∨ u ∈ l := by
  obtain ⟨f, hf⟩ := List.mem_iff_getElem?.1 h
  by_cases hfe : f = e
  · subst hfe
    rw [List.getElem?_set_self hl] at hf
    exact .inl (Option.some.inj hf).symm
  · rw [List.getElem?_set_ne (fun h => hfe h.symm)] at hf
    exact .inr (List.mem_of_getElem? hf)
/-- what an event becomes in a step -/
theorem midEv_more {st : St M} {v : Ev M} (h : (stepQ st.s v.q st.ws st.cn st.ticks).ans = none) : midEv st v = v.more (stepQ st.s v.q st.ws st.cn st.ticks).q := by unfold midEv; rw [h]
theorem midEv_done {st : St M} {v : Ev M} {an : Ans} (h : (stepQ st.s v.q st.ws st.cn st.ticks).ans = some an) : midEv st v = v.done (stepQ st.s v.q st.ws st.cn st.ticks).q st.ticks an (keyQ (stepQ st.s v.q st.ws st.cn st.ticks).s (stepQ st.s v.q st.ws st.cn st.ticks).q) := by unfold midEv; rw [h]
end

section
variable {M : Mach}
/-- whatever holds at first and is kept by ticks and steps -/
theorem endM_keeps {cs : List CallV} {R : St M → Prop} (ws : List Nat) (s : M.S) (h0 : R (stM cs ws s)) (hi : ∀ st : St M, R st → R { st with idle := st.idle + 1 })
    (ht : ∀ (st : St M) (i : Nat) (x : CallV) (p : Int), R st → Wf cs st → nowOf (thr cs) st.fin p = some i → cs[i]? = some x → R (st.turn i x p))
    (hs : ∀ (st : St M) (i : Nat) (p : Int) (e : Nat) (v : Ev M), R st → Wf cs st → nowOf (thr cs) st.fin p = some i → st.cur p = some e → st.evs[e]? = some v → v.resp = 0 → v.i = i → 0 < st.ticks → R (st.step i p e v)) (picks : List Int) : R (endM cs ws s picks) :=
  (foldM (R := fun st => Wf cs st ∧ R st) (fun st p h => ⟨h.1.pick p, by
    cases hn : nowOf (thr cs) st.fin p with
    | none => rw [pickM_idle hn]; exact hi st h.2
    | some i =>
      have hil := (now_open hn).1
      rw [thr_len] at hil
      obtain ⟨x, hx⟩ : ∃ x, cs[i]? = some x := ⟨cs[i], List.getElem?_eq_getElem hil⟩
      obtain ⟨e, v, h1, h2, h3, h4, h5⟩ := pickM_cases h.1 hn hx
      rw [h5]
      exact hs _ i p e v (ht st i x p h.2 h.1 hn hx) (h.1.turn x hn) (by rw [turn_fin]; exact hn) h1 h2 h3 h4 (by rw [turn_ticks]; omega)⟩) picks _ ⟨Wf.first cs ws s, h0⟩).2
theorem endM_evs (cs : List CallV) (ws : List Nat) (s : M.S) (picks : List Int) : (endM (M := M) cs ws s picks).evs.length ≤ (endM (M := M) cs ws s picks).ticks ∧ (endM (M := M) cs ws s picks).ticks + (endM (M := M) cs ws s picks).idle = picks.length := by
  have key : ∀ (l : List Int) (st : St M), Wf cs st → st.evs.length ≤ st.ticks → (l.foldl (pickM cs) st).evs.length ≤ (l.foldl (pickM cs) st).ticks ∧ (l.foldl (pickM cs) st).ticks + (l.foldl (pickM cs) st).idle = st.ticks + st.idle + l.length := by
    intro l
    induction l with
    | nil => intro st _ h; exact ⟨h, rfl⟩
    | cons p r ih =>
      intro st hw h
      have hp : (pickM cs st p).evs.length ≤ (pickM cs st p).ticks ∧ (pickM cs st p).ticks + (pickM cs st p).idle = st.ticks + st.idle + 1 := by
        cases hn : nowOf (thr cs) st.fin p with
        | none => rw [pickM_idle hn]; exact ⟨h, by show st.ticks + (st.idle + 1) = _; omega⟩
        | some i =>
          have hil := (now_open hn).1
          rw [thr_len] at hil
          obtain ⟨x, hx⟩ : ∃ x, cs[i]? = some x := ⟨cs[i], List.getElem?_eq_getElem hil⟩
          obtain ⟨e, v, h1, h2, h3, h4, h5⟩ := pickM_cases hw hn hx
          rw [h5]
          obtain ⟨t1, t2, t3⟩ := step_ticks (st := st.turn i x p) (i := i) (p := p) (e := e) (v := v)
          rw [t1, t2, t3, turn_ticks, turn_idle]
          refine ⟨?_, by omega⟩
          unfold St.turn
          split
          · show st.evs.length ≤ _; omega
          · show (st.evs ++ [_]).length ≤ _
            rw [List.length_append]; show st.evs.length + 1 ≤ _; omega
      have := ih (pickM cs st p) (hw.pick p) hp.1
      rw [List.foldl_cons, List.length_cons]
      exact ⟨this.1, by rw [this.2, hp.2]; omega⟩
  have := key picks (stM cs ws s) (Wf.first cs ws s) (Nat.le_refl _)
  unfold endM
  refine ⟨this.1, this.2.trans ?_⟩
  simp [stM]
end
end Go.Proofs.Ytglpalomhhhmhaa
