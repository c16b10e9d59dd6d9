/- Over any machine: the operations of a play, by the numbers of their events. -/
import Derived.Test.YtglpalomhhhmhaaQP
namespace Go.Proofs.Ytglpalomhhhmhaa
open Go.RowKit
set_option linter.unusedVariables false
set_option linter.unusedSimpArgs false
section
variable {M : Mach}
def opQ' : M.Q ⊕ Nat → Option M.Q
  | .inl q => some q
  | .inr _ => none
/-- the operation of an event -/
def opAt (l : List (Ev M)) (e : Nat) : Option M.Q := match l[e]? with
  | some v => opQ' v.q
  | none => none
theorem opAt_iff {l : List (Ev M)} {e : Nat} {q : M.Q} : opAt l e = some q ↔ ∃ v, l[e]? = some v ∧ v.q = .inl q := by
  unfold opAt
  constructor
  · intro h
    cases hv : l[e]? with
    | none => rw [hv] at h; cases h
    | some v =>
      rw [hv] at h
      refine ⟨v, rfl, ?_⟩
      cases hq : v.q with
      | inl q' => simp only [hq, opQ', Option.some.injEq] at h; rw [h]
      | inr c => simp only [hq, opQ'] at h; cases h
  · rintro ⟨v, hv, hq⟩
    rw [hv]; simp only [hq]; rfl
theorem opAt_get {l : List (Ev M)} {e : Nat} {v : Ev M} (h : l[e]? = some v) : opAt l e = opQ' v.q := by unfold opAt; rw [h]
theorem opAt_set {l : List (Ev M)} {e : Nat} (u : Ev M) (he : e < l.length) : opAt (l.set e u) = fun f => if f = e then opQ' u.q else opAt l f := by
  funext f
  by_cases hf : f = e
  · subst hf
    rw [if_pos rfl]
    exact opAt_get (List.getElem?_set_self he)
  · rw [if_neg hf]
    unfold opAt
    rw [List.getElem?_set_ne (fun h => hf h.symm)]
theorem opAt_snoc {l : List (Ev M)} (u : Ev M) : opAt (l ++ [u]) = fun f => if f = l.length then opQ' u.q else opAt l f := by
  funext f
  by_cases hf : f = l.length
  · subst hf
    rw [if_pos rfl]
    refine opAt_get ?_
    rw [List.getElem?_append_right (Nat.le_refl _), Nat.sub_self]; rfl
  · rw [if_neg hf]
    unfold opAt
    by_cases hl : f < l.length
    · rw [List.getElem?_append_left hl]
    · rw [List.getElem?_eq_none (by rw [List.length_append, List.length_singleton]; omega), List.getElem?_eq_none (by omega)]
theorem opAt_len (l : List (Ev M)) : opAt l l.length = none := by unfold opAt; rw [List.getElem?_eq_none (Nat.le_refl _)]
theorem midEv_q (st : St M) (v : Ev M) : (midEv st v).q = (stepQ st.s v.q st.ws st.cn st.ticks).q := by unfold midEv; split <;> rfl
end
theorem gset_ne {l : List Nat} {a b y : Nat} (h : b ≠ a) : (l.set a y).getD b 0 = l.getD b 0 := by
  rw [List.getD_eq_getElem?_getD, List.getD_eq_getElem?_getD, List.getElem?_set_ne (fun e => h e.symm)]
theorem gset_eq {l : List Nat} {a y : Nat} (h : a < l.length) : (l.set a y).getD a 0 = y := by
  rw [List.getD_eq_getElem?_getD, List.getElem?_set_self h]; rfl
theorem grepl (m a : Nat) : (List.replicate m 0).getD a 0 = 0 := by
  rw [List.getD_eq_getElem?_getD, List.getElem?_replicate]
  split <;> rfl
def setB (f : Nat → Bool) (t : Nat) : Nat → Bool := fun u => if u = t then true else f u
theorem setB_same (f : Nat → Bool) (t : Nat) : setB f t t = true := by unfold setB; rw [if_pos rfl]
theorem setB_other (f : Nat → Bool) {t u : Nat} (h : u ≠ t) : setB f t u = f u := by unfold setB; rw [if_neg h]
end Go.Proofs.Ytglpalomhhhmhaa
