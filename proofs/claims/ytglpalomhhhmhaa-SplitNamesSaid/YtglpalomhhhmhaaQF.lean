/- What Rows asks holds of every machine's play whose keys lie within. -/
import Derived.Test.YtglpalomhhhmhaaQE
namespace Go.Proofs.Ytglpalomhhhmhaa
open Go.RowKit
set_option linter.unusedVariables false
theorem fold_set_spec {α : Type} (f : α → Nat) (g : α → Int) : ∀ (l : List α) (z : List Int) (p : Nat) (v : Int), (l.foldl (fun l x => l.set (f x) (g x)) z)[p]? = some v → z[p]? = some v ∨ ∃ x ∈ l, f x = p ∧ v = g x
  | [], z, p, v, h => .inl h
  | x :: r, z, p, v, h => by
    rw [List.foldl_cons] at h
    rcases fold_set_spec f g r _ p v h with h | ⟨y, hy, h1, h2⟩
    · rw [List.getElem?_set] at h
      split at h
      · next hfp =>
        split at h
        · exact .inr ⟨x, List.mem_cons_self, hfp, (Option.some.inj h).symm⟩
        · cases h
      · exact .inl h
    · exact .inr ⟨y, List.mem_cons_of_mem _ hy, h1, h2⟩
theorem take_mem {α : Type} {l : List α} {j : Nat} {x : α} (h : x ∈ l.take j) : ∃ i, i < j ∧ l[i]? = some x := by
  obtain ⟨i, hi⟩ := List.mem_iff_getElem?.1 h
  rw [List.getElem?_take] at hi
  split at hi
  · next hij => exact ⟨i, hij, hi⟩
  · cases hi
section
variable {M : Mach}
/-- keys lie within -/
def KeysIn (st : St M) : Prop := ∀ v ∈ st.evs, (¬ v.resp = 0 → withinL v.key v.inv v.resp) ∧ (v.resp = 0 → keyQ st.s v.q = [] ∨ withinL (keyQ st.s v.q) v.inv st.ticks)
theorem stepsL_map (s : M.S) (l : List (Ev M)) : stepsL (l.map (evR s)) = stepsM l := by
  unfold stepsL stepsM
  rw [List.map_map]
  rfl
theorem rows_ok {cs : List CallV} {n : Nat} {st : St M} (h : RowI cs st) (hth : ∀ x ∈ cs, 0 ≤ x.t ∧ x.t < n) (hn : 1 ≤ n ∧ n ≤ 16) (hk : KeysIn st) (hcn : CnOk st) (htl : st.ticks ≤ 70000) : RowsOk cs n (repOf st) := by
  have hget : ∀ (j : Nat) (x : EvR), (repOf st).evs[j]? = some x → ∃ v, st.evs[j]? = some v ∧ x = evR st.s v := fun j x hx => by
    have hx' : (st.evs.map (evR st.s))[j]? = some x := hx
    rw [List.getElem?_map] at hx'
    obtain ⟨v, hv, rfl⟩ := Option.map_eq_some_iff.1 hx'
    exact ⟨v, hv, rfl⟩
  have hcall : ∀ v ∈ st.evs, ∃ y, cs[v.i]? = some y ∧ 0 ≤ y.t ∧ y.t < n := fun v hv => by
    have hl := (h.call v hv).1
    exact ⟨cs[v.i], List.getElem?_eq_getElem hl, hth _ (List.getElem_mem hl)⟩
  have hsame : ∀ (i j : Nat) (u v : Ev M), i < j → st.evs[i]? = some u → st.evs[j]? = some v → thOf cs (evR st.s u) = thOf cs (evR st.s v) → ¬ u.resp = 0 ∧ u.resp < v.inv ∧ u.i < v.i := fun i j u v hij hu hv ht => by
    obtain ⟨y, hy, hy0, _⟩ := hcall u (List.mem_of_getElem? hu)
    obtain ⟨z, hz, hz0, _⟩ := hcall v (List.mem_of_getElem? hv)
    refine h.same i j u v hij hu hv ?_
    have e1 : thOf cs (evR st.s u) = y.t.toNat := by unfold thOf; show (match cs[u.i]? with | some y => y.t.toNat | none => 0) = _; rw [hy]
    have e2 : thOf cs (evR st.s v) = z.t.toNat := by unfold thOf; show (match cs[v.i]? with | some y => y.t.toNat | none => 0) = _; rw [hz]
    rw [thr_get hy, thr_get hz]
    congr 1
    omega
  refine ⟨hn, fun j x hx => ?_, ?_, hcn, htl⟩
  · obtain ⟨v, hv, rfl⟩ := hget j x hx
    have hvm := List.mem_of_getElem? hv
    have hc := h.call v hvm
    obtain ⟨y, hy, hy0, hyn⟩ := hcall v hvm
    have hth' : thOf cs (evR st.s v) = y.t.toNat := by unfold thOf; show (match cs[v.i]? with | some y => y.t.toNat | none => 0) = _; rw [hy]
    have hpn : thOf cs (evR st.s v) < n := by omega
    refine ⟨⟨y, hy, hy0, hyn⟩, hc.2.1, hc.2.2.2.1, hc.2.2.1, fun z hz hj => ?_, ?_, ?_, fun hr => ?_, fun hr => ?_⟩
    · obtain ⟨u, hu, rfl⟩ := hget _ z hz
      exact h.grow (j - 1) j u v (by omega) hu hv
    · obtain ⟨l, hl⟩ : ∃ l, (lastL cs n ((repOf st).evs.take j))[thOf cs (evR st.s v)]? = some l := ⟨_, List.getElem?_eq_getElem (by rw [lastL_len]; exact hpn)⟩
      refine ⟨l, hl, ?_⟩
      rcases fold_set_spec _ _ _ _ _ _ hl with h0 | ⟨x, hxm, hx1, hx2⟩
      · rw [List.getElem?_replicate, if_pos hpn] at h0
        have := Option.some.inj h0
        show 0 ≤ l ∧ l < (v.inv : Int)
        have := hc.2.1
        omega
      · obtain ⟨i, hij, hi⟩ := take_mem hxm
        obtain ⟨u, hu, rfl⟩ := hget i x hi
        have hs := hsame i j u v hij hu hv hx1
        have e : lastZ (evR st.s u) = (u.resp : Int) := by unfold lastZ; exact if_neg hs.1
        show 0 ≤ l ∧ l < (v.inv : Int)
        omega
    · obtain ⟨c, hcc⟩ : ∃ c, (callL cs n ((repOf st).evs.take j))[thOf cs (evR st.s v)]? = some c := ⟨_, List.getElem?_eq_getElem (by rw [callL_len]; exact hpn)⟩
      refine ⟨c, hcc, ?_⟩
      rcases fold_set_spec _ _ _ _ _ _ hcc with h0 | ⟨x, hxm, hx1, hx2⟩
      · rw [List.getElem?_replicate, if_pos hpn] at h0
        have := Option.some.inj h0
        show c ≤ (v.i : Int) ∧ 0 ≤ c
        omega
      · obtain ⟨i, hij, hi⟩ := take_mem hxm
        obtain ⟨u, hu, rfl⟩ := hget i x hi
        have hs := hsame i j u v hij hu hv hx1
        have e : (evR st.s u).i = u.i := rfl
        show c ≤ (v.i : Int) ∧ 0 ≤ c
        omega
    · have hr' : ¬ v.resp = 0 := hr
      have h1 := hc.2.2.2.2.2 hr'
      refine ⟨h1.1, h1.2.1, h1.2.2, ?_⟩
      show withinL (if v.resp = 0 then keyQ st.s v.q else v.key) v.inv v.resp
      rw [if_neg hr']
      exact (hk v hvm).1 hr'
    · have hr' : v.resp = 0 := hr
      show (if v.resp = 0 then keyQ st.s v.q else v.key) = [] ∨ withinL (if v.resp = 0 then keyQ st.s v.q else v.key) v.inv st.ticks
      rw [if_pos hr']
      exact (hk v hvm).2 hr'
  · show stepsL (st.evs.map (evR st.s)) = st.ticks
    rw [stepsL_map, h.sum]
end
theorem wrongL_threads {n : Int} {ts : List Int} (h : wrongL n ts = 0) : (1 ≤ n ∧ n ≤ 16) ∧ ∀ t ∈ ts, 0 ≤ t ∧ t < n := by
  unfold wrongL at h
  split at h
  · cases h
  · next h1 =>
    split at h
    · cases h
    · split at h
      · cases h
      · next h3 =>
        refine ⟨by omega, fun t ht => ?_⟩
        rw [List.any_eq_true] at h3
        have : ¬ (t < 0 ∨ n ≤ t) := fun h' => h3 ⟨t, ht, decide_eq_true h'⟩
        omega
theorem play_threads {n : Int} {cs : List CallV} {np er : Nat} (h : playErr n cs np er = 0) : ∃ k : Nat, n = (k : Int) ∧ (1 ≤ k ∧ k ≤ 16) ∧ (∀ x ∈ cs, 0 ≤ x.t ∧ x.t < k) ∧ np ≤ 65536 ∧ cs.length ≤ 1000 ∧ er = 0 := by
  unfold playErr at h
  split at h
  · next h1 => exact absurd h h1
  · next h1 =>
    have h2 := check_zero (by simpa using h1)
    have h3 := wrongL_threads h2.1
    have h4 := wrong_len h2.1
    rw [thr_len] at h4
    refine ⟨n.toNat, by omega, by omega, fun x hx => ?_, h2.2, h4, h⟩
    have := h3.2 x.t (List.mem_map.2 ⟨x, hx, rfl⟩)
    omega
end Go.Proofs.Ytglpalomhhhmhaa
