/- What the pool's laws ask, plainly. -/
import Derived.Test.YtebfkkgemccbfaaPO2
namespace Go.Proofs.Ytebfkkgemccbfaa
open Go.RowKit
set_option linter.unusedVariables false
def isB (cs : List CallV) (k : Int) (v : EvR) : Bool := decide (¬ v.resp = 0 ∧ v.ans.err = 0) && isKC cs k v.i
theorem isB_ok {cs : List CallV} {v : EvR} {k : Int} (h : isB cs k v = true) : ¬ v.resp = 0 ∧ v.ans.err = 0 ∧ isKC cs k v.i = true := by
  unfold isB at h
  rw [Bool.and_eq_true] at h
  have := of_decide_eq_true h.1
  exact ⟨this.1, this.2, h.2⟩
structure OnceR (cs : List CallV) (evs : List EvR) (i : Nat) (x : EvR) : Prop where
  one : ∀ (j : Nat) (y : EvR), j ≠ i → evs[j]? = some y → isB cs 1 y = true → caC cs y.i ≠ caC cs x.i
  from' : ∃ (j : Nat) (y : EvR), evs[j]? = some y ∧ isB cs 0 y = true ∧ y.resp < x.resp ∧ y.ans.val = caC cs x.i
structure OnceA (cs : List CallV) (evs : List EvR) (x y : EvR) : Prop where
  ne : y.ans.val ≠ x.ans.val
  gone : x.resp < y.resp ∨ ∃ (m : Nat) (z : EvR), evs[m]? = some z ∧ isB cs 1 z = true ∧ caC cs z.i = y.ans.val ∧ z.resp < x.resp
structure OnceOk (cs : List CallV) (evs : List EvR) : Prop where
  call : ∀ x ∈ evs, x.i < cs.length
  rel : ∀ (i : Nat) (x : EvR), evs[i]? = some x → isB cs 1 x = true → OnceR cs evs i x
  alc : ∀ (i : Nat) (x : EvR) (j : Nat) (y : EvR), evs[i]? = some x → isB cs 0 x = true → j ≠ i → evs[j]? = some y → isB cs 0 y = true → y.ans.val % 1024 = x.ans.val % 1024 → OnceA cs evs x y
section
variable {n k : Nat} {cs : List CallV}
theorem evR_get {M : Mach} {st : St M} {i : Nat} {x : EvR} (h : (repOf st).evs[i]? = some x) : ∃ v, st.evs[i]? = some v ∧ x = evR st.s v := by
  have h2 : (st.evs.map (evR st.s))[i]? = some x := h
  rw [List.getElem?_map, Option.map_eq_some_iff] at h2
  obtain ⟨v, hv, rfl⟩ := h2
  exact ⟨v, hv, rfl⟩
theorem evR_put {M : Mach} {st : St M} {i : Nat} {v : Ev M} (h : st.evs[i]? = some v) : (repOf st).evs[i]? = some (evR st.s v) := by
  show (st.evs.map (evR st.s))[i]? = _
  rw [List.getElem?_map, h]; rfl
theorem pool_once {st : St (poolM n k)} (hm : n * k ≤ 512) (hR : RowI cs st) (h : PoolH n k cs st) : OnceOk cs (repOf st).evs := by
  have hat : ∀ (κ : Int) (i : Nat) (v : Ev (poolM n k)), κ = 0 ∨ κ = 1 → st.evs[i]? = some v → okC cs κ v = true → ∃ a α, Has cs (n * k) st.evs κ i a α v.resp ∧ refC cs κ v = a + 2 + 1024 * α ∧ a < n * k := fun κ i v hκ hv hok => by
    obtain ⟨a, α, ha, hr⟩ := h.cov κ i v hκ hv hok
    exact ⟨a, α, ⟨ha, v, hv, hok, hr, rfl⟩, hr, ha⟩
  have h01 : ∀ {v : Ev (poolM n k)}, okC cs 0 v = true → refC cs 0 v = v.ans.val := fun _ => by unfold refC; rw [if_pos rfl]
  have h11 : ∀ {v : Ev (poolM n k)}, okC cs 1 v = true → refC cs 1 v = caC cs v.i := fun _ => by unfold refC; rw [if_neg (by decide)]
  refine ⟨fun x hx => ?_, fun i x hx hb => ?_, fun i x j y hx hb hji hy hby hmod => ?_⟩
  · obtain ⟨v, hv, rfl⟩ := List.mem_map.1 hx
    exact (hR.call v hv).1
  · obtain ⟨v, hv, rfl⟩ := evR_get hx
    have hok : okC cs 1 v = true := hb
    obtain ⟨a, α, hH, hr, ha⟩ := hat 1 i v (.inr rfl) hv hok
    rw [h11 hok] at hr
    refine ⟨fun j y hji hy hby e => ?_, ?_⟩
    · obtain ⟨u, hu, rfl⟩ := evR_get hy
      have hoku : okC cs 1 u = true := hby
      have hH2 : Has cs (n * k) st.evs 1 j a α u.resp := ⟨ha, u, hu, hoku, by rw [h11 hoku]; exact e.trans hr, rfl⟩
      exact hji (h.hist.r2 _ _ _ _ _ _ hH2 hH)
    · obtain ⟨f, s, ⟨_, u, hu, hoku, hru, hsu⟩, hlt⟩ := h.hist.r3 _ _ _ _ hH
      rw [h01 hoku] at hru
      exact ⟨f, evR st.s u, evR_put hu, hoku, by show u.resp < v.resp; omega, hru.trans hr.symm⟩
  · obtain ⟨v, hv, rfl⟩ := evR_get hx
    obtain ⟨u, hu, rfl⟩ := evR_get hy
    have hok : okC cs 0 v = true := hb
    have hoku : okC cs 0 u = true := hby
    obtain ⟨a, α, hH, hr, ha⟩ := hat 0 i v (.inl rfl) hv hok
    obtain ⟨a', β, hH', hr', ha'⟩ := hat 0 j u (.inl rfl) hu hoku
    rw [h01 hok] at hr
    rw [h01 hoku] at hr'
    have hmod' : u.ans.val % 1024 = v.ans.val % 1024 := hmod
    have haa : a' = a := by omega
    subst haa
    have hne := h.hist.a2 _ _ _ _ _ _ _ hH' hH hji
    refine ⟨show u.ans.val ≠ v.ans.val by omega, ?_⟩
    rcases Nat.lt_or_gt_of_ne hne with hlt | hgt
    · obtain ⟨_, m, q, ⟨_, z, hz, hokz, hrz, hqz⟩, hqv⟩ := h.hist.a3 _ _ _ _ _ _ _ hH' hH hlt
      rw [h11 hokz] at hrz
      exact .inr ⟨m, evR st.s z, evR_put hz, hokz, hrz.trans hr'.symm, by show z.resp < v.resp; omega⟩
    · exact .inl (h.hist.a3 _ _ _ _ _ _ _ hH hH' hgt).1
/-- counting by places -/
theorem countP_step {α : Type} (p : α → Bool) (g : α → Nat) (lo J : Nat) : ∀ l : List α, l.countP (fun v => p v && decide (lo ≤ g v ∧ g v < lo + (J + 1))) = l.countP (fun v => p v && decide (lo ≤ g v ∧ g v < lo + J)) + l.countP (fun v => p v && decide (g v = lo + J))
  | [] => rfl
  | a :: r => by
    have ih := countP_step p g lo J r
    rw [List.countP_cons, List.countP_cons, List.countP_cons, ih]
    cases hp : p a with
    | false => simp
    | true =>
      simp only [Bool.true_and, decide_eq_true_eq]
      by_cases h1 : g a = lo + J
      · rw [if_pos (by omega), if_neg (by omega), if_pos h1]; omega
      · by_cases h2 : lo ≤ g a ∧ g a < lo + J
        · rw [if_pos (by omega), if_pos h2, if_neg h1]; omega
        · rw [if_neg (by omega), if_neg h2, if_neg h1]; omega
theorem countP_area {α : Type} (p q : α → Bool) (g f : α → Nat) (lo : Nat) (l : List α) : ∀ J : Nat, (∀ j, j < J → l.countP (fun v => p v && decide (g v = lo + j)) = l.countP (fun v => q v && decide (f v = lo + j)) + 1) →
    l.countP (fun v => p v && decide (lo ≤ g v ∧ g v < lo + J)) = l.countP (fun v => q v && decide (lo ≤ f v ∧ f v < lo + J)) + J
  | 0, _ => by
    have e1 : ∀ (p : α → Bool) (g : α → Nat), l.countP (fun v => p v && decide (lo ≤ g v ∧ g v < lo + 0)) = 0 := fun p g => by
      rw [List.countP_eq_zero]
      intro v _
      rw [decide_eq_false (by omega), Bool.and_false]; decide
    rw [e1, e1]
  | J + 1, h => by
    rw [countP_step, countP_step, countP_area p q g f lo l J (fun j hj => h j (by omega)), h J (by omega)]
    omega
def thI (cs : List CallV) (i : Nat) : Int := match cs[i]? with | some x => x.t | none => 0
theorem thI_some {cs : List CallV} {i : Nat} {x : CallV} (h : cs[i]? = some x) : thI cs i = x.t := by unfold thI; rw [h]
/-- those that took for a thread, ahead of w; those that gave back its places -/
def tkA (cs : List CallV) (t : Int) (w : Nat) (y : EvR) : Bool := decide (y.resp < w) && (isB cs 0 y && decide (thI cs y.i = t))
def tkR (cs : List CallV) (k : Nat) (t : Int) (w : Nat) (y : EvR) : Bool := decide (y.resp < w) && (isB cs 1 y && decide (((caC cs y.i % 1024 - 2) / k : Nat) = t))
structure FullOk (cs : List CallV) (k : Nat) (evs : List EvR) : Prop where
  call : ∀ x ∈ evs, x.i < cs.length ∧ x.steps ≤ k + 1
  two : ∀ x ∈ evs, isB cs 1 x = true → 2 ≤ caC cs x.i % 1024
  full : ∀ x ∈ evs, x.ans.err = 6 → evs.countP (tkA cs (thI cs x.i) x.inv) = evs.countP (tkR cs k (thI cs x.i) x.inv) + k
theorem pool_full {st : St (poolM n k)} (hk : 1 ≤ k) (hm : n * k ≤ 512) (hR : RowI cs st) (hF : PoolF n k cs st) (h : PoolH n k cs st) : FullOk cs k (repOf st).evs := by
  have hmem : ∀ x ∈ (repOf st).evs, ∃ e v, st.evs[e]? = some v ∧ x = evR st.s v := fun x hx => by
    obtain ⟨v, hv, rfl⟩ := List.mem_map.1 hx
    obtain ⟨e, he⟩ := List.mem_iff_getElem?.1 hv
    exact ⟨e, v, he, rfl⟩
  refine ⟨fun x hx => ?_, fun x hx hb => ?_, fun x hx he => ?_⟩
  · obtain ⟨e, v, hv, rfl⟩ := hmem x hx
    exact ⟨(hR.call v (List.mem_of_getElem? hv)).1, hF.steps e v hv⟩
  · obtain ⟨e, v, hv, rfl⟩ := hmem x hx
    have hok : okC cs 1 v = true := hb
    obtain ⟨a, α, ha, hr⟩ := h.cov 1 e v (.inr rfl) hv hok
    have hr' : caC cs v.i = a + 2 + 1024 * α := by unfold refC at hr; rw [if_neg (by decide)] at hr; exact hr
    show 2 ≤ caC cs v.i % 1024
    omega
  · obtain ⟨e, v, hv, rfl⟩ := hmem x hx
    obtain ⟨z, hz, h0, hzn, hpl⟩ := h.full e v hv he
    have hth : thI cs v.i = z.t := thI_some hz
    show (st.evs.map (evR st.s)).countP (tkA cs (thI cs v.i) v.inv) = (st.evs.map (evR st.s)).countP (tkR cs k (thI cs v.i) v.inv) + k
    rw [hth, List.countP_map, List.countP_map]
    have har : z.t.toNat * k + k ≤ n * k := by rw [← Nat.succ_mul]; exact Nat.mul_le_mul_right k hzn
    have key := countP_area (fun u : Ev (poolM n k) => okC cs 0 u && decide (u.resp < v.inv)) (fun u => okC cs 1 u && decide (u.resp < v.inv)) (fun u => u.ans.val % 1024 - 2) (fun u => caC cs u.i % 1024 - 2) (z.t.toNat * k) st.evs k (fun j hj => by
      have hp := hpl (z.t.toNat * k + j) (by omega) (by omega)
      have e0 : ∀ (κ : Int) (g : Ev (poolM n k) → Nat), κ = 0 ∨ κ = 1 → (∀ u, okC cs κ u = true → refC cs κ u % 1024 = g u % 1024) → st.evs.countP (fun u => (okC cs κ u && decide (u.resp < v.inv)) && decide (g u % 1024 - 2 = z.t.toNat * k + j)) = st.evs.countP (befC cs κ (z.t.toNat * k + j) v.inv) := fun κ g hκ hg => List.countP_congr fun u hu => by
        obtain ⟨f, hf⟩ := List.mem_iff_getElem?.1 hu
        unfold befC atC
        cases hok : okC cs κ u with
        | false => simp
        | true =>
          obtain ⟨a, α, ha, hr⟩ := h.cov κ f u hκ hf hok
          have hg' := hg u hok
          simp only [Bool.true_and, Bool.and_eq_true, decide_eq_true_eq]
          omega
      rw [e0 0 (fun u => u.ans.val) (.inl rfl) (fun u _ => by unfold refC; rw [if_pos rfl]), e0 1 (fun u => caC cs u.i) (.inr rfl) (fun u _ => by unfold refC; rw [if_neg (by decide)])]
      exact hp)
    have eA : st.evs.countP (tkA cs z.t v.inv ∘ evR st.s) = st.evs.countP (fun u => (okC cs 0 u && decide (u.resp < v.inv)) && decide (z.t.toNat * k ≤ u.ans.val % 1024 - 2 ∧ u.ans.val % 1024 - 2 < z.t.toNat * k + k)) := List.countP_congr fun u hu => by
      obtain ⟨f, hf⟩ := List.mem_iff_getElem?.1 hu
      show (decide (u.resp < v.inv) && (okC cs 0 u && decide (thI cs u.i = z.t))) = true ↔ _
      cases hok : okC cs 0 u with
      | false => simp
      | true =>
        obtain ⟨_, _, hkc⟩ := okC_ok hok
        obtain ⟨y, hy, _, _⟩ := isKC_ex hkc
        obtain ⟨hy0, hown⟩ := h.own f u y hf hok hy
        rw [thI_some hy]
        simp only [Bool.true_and, Bool.and_eq_true, decide_eq_true_eq]
        have hdiv : (u.ans.val % 1024 - 2) / k = z.t.toNat ↔ z.t.toNat * k ≤ u.ans.val % 1024 - 2 ∧ u.ans.val % 1024 - 2 < z.t.toNat * k + k := ⟨fun hd => by
          have := (Nat.div_eq_iff (by omega : 0 < k)).1 hd
          omega, fun ⟨a1, a2⟩ => div_area a1 a2⟩
        rw [← hdiv]
        omega
    have eR : st.evs.countP (tkR cs k z.t v.inv ∘ evR st.s) = st.evs.countP (fun u => (okC cs 1 u && decide (u.resp < v.inv)) && decide (z.t.toNat * k ≤ caC cs u.i % 1024 - 2 ∧ caC cs u.i % 1024 - 2 < z.t.toNat * k + k)) := List.countP_congr fun u hu => by
      show (decide (u.resp < v.inv) && (okC cs 1 u && decide ((((caC cs u.i % 1024 - 2) / k : Nat) : Int) = z.t))) = true ↔ _
      cases hok : okC cs 1 u with
      | false => simp
      | true =>
        simp only [Bool.true_and, Bool.and_eq_true, decide_eq_true_eq]
        have hdiv : (caC cs u.i % 1024 - 2) / k = z.t.toNat ↔ z.t.toNat * k ≤ caC cs u.i % 1024 - 2 ∧ caC cs u.i % 1024 - 2 < z.t.toNat * k + k := ⟨fun hd => by
          have := (Nat.div_eq_iff (by omega : 0 < k)).1 hd
          omega, fun ⟨a1, a2⟩ => div_area a1 a2⟩
        rw [← hdiv]
        omega
    rw [eA, eR]; exact key
end
end Go.Proofs.Ytebfkkgemccbfaa
