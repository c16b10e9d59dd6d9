/- Objects whose operations make one step each, plainly. -/
import Derived.Test.YtihhjbcphdnkhaaQJ
namespace Go.Proofs.Ytihhjbcphdnkhaa
open Go.RowKit
set_option linter.unusedVariables false
section
variable {M : Mach}
structure OneI (st : St M) : Prop where
  len : st.evs.length = st.ticks
  cur : ∀ p, st.cur p = none
  ev : ∀ (j : Nat) (v : Ev M), st.evs[j]? = some v → v.inv = j + 1 ∧ v.resp = j + 1 ∧ v.steps = 1
theorem OneI.turned (h1 : ∀ s q r t, ∃ a, (M.next s q r t).2.2 = some a) {cs : List CallV} {st : St M} (h : OneI st) (hw : Wf cs st) {p : Int} {i : Nat} {x : CallV} (hn : nowOf (thr cs) st.fin p = some i) (hx : cs[i]? = some x) : OneI (pickM cs st p) := by
  obtain ⟨e, v, g1, h2, h3, h4, h5⟩ := pickM_cases hw hn hx
  rw [h5]
  have hc := h.cur p
  have htu : st.turn i x p = st.tick.begin i x p := by unfold St.turn; rw [hc]
  have hcur : (st.turn i x p).cur p = some st.evs.length := by rw [htu]; exact updF_same _ _ _
  have hee : e = st.evs.length := by rw [g1] at hcur; exact Option.some.inj hcur
  have hte : (st.turn i x p).evs = st.evs ++ [⟨i, st.ticks + 1, 0, 0, ⟨0, 0, []⟩, [], (invQ st.s x).2⟩] := by rw [htu]; rfl
  have htc : ∀ q, q ≠ p → (st.turn i x p).cur q = st.cur q := fun q hq => by rw [htu]; exact updF_other _ _ hq
  have hvi : v.inv = st.ticks + 1 ∧ v.steps = 0 := by
    rw [hte, hee, List.getElem?_append_right (Nat.le_refl _), Nat.sub_self] at h2
    cases h2; exact ⟨rfl, rfl⟩
  have hev2 : ((st.turn i x p).step i p e v).evs = st.evs ++ [midEv (st.turn i x p) v] := by
    rw [step_evs, hte, hee]
    rw [List.set_append_right _ _ (Nat.le_refl _), Nat.sub_self]; rfl
  obtain ⟨t1, t2, t3⟩ := step_ticks (st := st.turn i x p) (i := i) (p := p) (e := e) (v := v)
  have htt : (st.turn i x p).ticks = st.ticks + 1 := turn_ticks
  obtain ⟨an, ha⟩ : ∃ an, (stepQ (st.turn i x p).s v.q (st.turn i x p).ws (st.turn i x p).cn (st.turn i x p).ticks).ans = some an := by
    cases v.q with
    | inl q => exact h1 _ _ _ _
    | inr e => exact ⟨_, rfl⟩
  have hcu : ((st.turn i x p).step i p e v).cur = updF (st.turn i x p).cur p none := by unfold St.step; rw [ha]
  refine ⟨?_, fun q => ?_, fun j u hu => ?_⟩
  · rw [t1, htt, hev2, List.length_append, h.len]; rfl
  · rw [hcu]
    by_cases hq : q = p
    · subst hq; exact updF_same _ _ _
    · rw [updF_other _ _ hq, htc q hq]; exact h.cur q
  · rw [hev2] at hu
    rcases snoc_get hu with ⟨rfl, rfl⟩ | ⟨hk, hu'⟩
    · rw [midEv_done ha]
      refine ⟨?_, ?_, ?_⟩
      · show v.inv = _; rw [hvi.1, h.len]
      · show (st.turn i x p).ticks = _; rw [htt, h.len]
      · show v.steps + 1 = 1; rw [hvi.2]
    · exact h.ev j u hu'
theorem oneI_end (h1 : ∀ s q r t, ∃ a, (M.next s q r t).2.2 = some a) (cs : List CallV) (ws : List Nat) (s : M.S) (picks : List Int) : OneI (endM (M := M) cs ws s picks) :=
  (foldM (R := fun st => Wf cs st ∧ OneI st) (fun st p h => ⟨h.1.pick p, by
    cases hn : nowOf (thr cs) st.fin p with
    | none => rw [pickM_idle hn]; exact ⟨h.2.len, h.2.cur, h.2.ev⟩
    | some i =>
      have hil := (now_open hn).1
      rw [thr_len] at hil
      exact h.2.turned h1 h.1 hn (List.getElem?_eq_getElem hil)⟩) picks _
    ⟨Wf.first cs ws s, ⟨rfl, fun p => rfl, fun j v hv => by simp [stM] at hv⟩⟩).2
end
end Go.Proofs.Ytihhjbcphdnkhaa
