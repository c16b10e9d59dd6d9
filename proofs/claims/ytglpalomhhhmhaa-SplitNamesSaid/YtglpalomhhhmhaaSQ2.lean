/- Splitters, plainly: what a call and a step keep. -/
import Derived.Test.YtglpalomhhhmhaaSQ1
namespace Go.Proofs.Ytglpalomhhhmhaa
open Go.RowKit
set_option linter.unusedVariables false
set_option linter.unusedSimpArgs false
section
variable {n : Nat} {ws : List Nat} {nv : Nat → Bool} {O : Nat → Option SpQ}
def updS (O : Nat → Option SpQ) (e : Nat) (q : SpQ) : Nat → Option SpQ := fun f => if f = e then some q else O f
theorem updS_cases {e f : Nat} {q q' : SpQ} (h : updS O e q f = some q') : (f = e ∧ q' = q) ∨ (f ≠ e ∧ O f = some q') := by
  unfold updS at h
  split at h
  · next hf => exact .inl ⟨hf, (Option.some.inj h).symm⟩
  · next hf => exact .inr ⟨hf, h⟩
theorem updS_same (e : Nat) (q : SpQ) : updS O e q e = some q := by unfold updS; rw [if_pos rfl]
theorem updS_other {e f : Nat} (q : SpQ) (h : f ≠ e) : updS O e q f = O f := by unfold updS; rw [if_neg h]
theorem spW_first : SpW n (List.replicate (2 * tri n) 0) (fun _ => false) (fun _ => none) :=
  ⟨by simp, fun e q h => (by cases h), fun e f q q' h => (by cases h), fun t h => (by cases h), fun e q h => (by cases h), fun e q i j d h => (by cases h), fun e q i j h => (by cases h), fun e q i j h => (by cases h), fun e q i i' j h => (by cases h), fun e q i j j' h => (by cases h),
    fun e q i j h => (by cases h), fun i j _ h => absurd (grepl _ _) h, fun e q i j h => (by cases h), fun e q h => (by cases h), fun i j _ h => absurd (grepl _ _) h, fun e q i j d h => (by cases h), fun e q h => (by cases h), fun e f q q' h => (by cases h)⟩
theorem SpW.begin (h : SpW n ws nv O) {e t : Nat} (he : O e = none) (ht : t < n) (hno : ∀ f q, O f = some q → q.th ≠ t) : SpW n ws nv (updS O e ⟨t, 0, 0, 0, []⟩) := by
  have h0 : ∀ f q, O f = some q → f ≠ e := fun f q hf e1 => by subst e1; rw [he] at hf; cases hf
  have keep : ∀ f q, O f = some q → updS O e ⟨t, 0, 0, 0, []⟩ f = some q := fun f q hf => by rw [updS_other _ (h0 f q hf)]; exact hf
  refine ⟨h.len, fun f q hf => ?_, fun f g q q' hf hg hth => ?_, fun u hu => ?_, fun f q hf hs => ?_, fun f q i j d hf hm => ?_, fun f q i j hf hm => ?_, fun f q i j hf hm => ?_, fun f q i i' j hf hm hm' => ?_, fun f q i j j' hf hm hm' => ?_, fun f q i j hf hi hj hij => ?_, fun i j hij hw => ?_, fun f q i j hf hm => ?_, fun f q hf hs => ?_, fun i j hij hw => ?_, fun f q i j d hf hm => ?_, fun f q hf hs => ?_, fun f g q q' hf hg hne hs hat hs' => ?_⟩
  · rcases updS_cases hf with ⟨rfl, rfl⟩ | ⟨_, hf'⟩
    · exact ⟨ht, Nat.zero_le _⟩
    · exact h.th f q hf'
  · rcases updS_cases hf with ⟨rfl, rfl⟩ | ⟨_, hf'⟩ <;> rcases updS_cases hg with ⟨rfl, rfl⟩ | ⟨_, hg'⟩
    · rfl
    · exact absurd hth.symm (hno g q' hg')
    · exact absurd hth (hno f q hf')
    · exact h.one f g q q' hf' hg' hth
  · obtain ⟨f, q, hf, hq⟩ := h.nmd u hu
    exact ⟨f, q, keep f q hf, hq⟩
  · rcases updS_cases hf with ⟨rfl, rfl⟩ | ⟨_, hf'⟩
    · cases hs
    · exact h.nm2 f q hf' hs
  · rcases updS_cases hf with ⟨rfl, rfl⟩ | ⟨_, hf'⟩
    · cases hm
    · exact h.hb f q i j d hf' hm
  · rcases updS_cases hf with ⟨rfl, rfl⟩ | ⟨_, hf'⟩
    · cases hm
    · exact h.hr f q i j hf' hm
  · rcases updS_cases hf with ⟨rfl, rfl⟩ | ⟨_, hf'⟩
    · cases hm
    · exact h.hd f q i j hf' hm
  · rcases updS_cases hf with ⟨rfl, rfl⟩ | ⟨_, hf'⟩
    · cases hm
    · exact h.ur f q i i' j hf' hm hm'
  · rcases updS_cases hf with ⟨rfl, rfl⟩ | ⟨_, hf'⟩
    · cases hm
    · exact h.ud f q i j j' hf' hm hm'
  · rcases updS_cases hf with ⟨rfl, rfl⟩ | ⟨_, hf'⟩
    · have h1 : i ≤ 0 := hi
      have h2 : j ≤ 0 := hj
      omega
    · exact h.cr f q i j hf' hi hj hij
  · obtain ⟨f, q, hf, hq⟩ := h.c1 i j hij hw
    exact ⟨f, q, keep f q hf, hq⟩
  · rcases updS_cases hf with ⟨rfl, rfl⟩ | ⟨_, hf'⟩
    · cases hm
    · exact h.c2 f q i j hf' hm
  · rcases updS_cases hf with ⟨rfl, rfl⟩ | ⟨_, hf'⟩
    · exact absurd hs (by show ¬ 4 ≤ 0; omega)
    · exact h.c3 f q hf' hs
  · obtain ⟨f, q, hf, hq⟩ := h.l1 i j hij hw
    exact ⟨f, q, keep f q hf, hq⟩
  · rcases updS_cases hf with ⟨rfl, rfl⟩ | ⟨_, hf'⟩
    · cases hm
    · exact h.l2 f q i j d hf' hm
  · rcases updS_cases hf with ⟨rfl, rfl⟩ | ⟨_, hf'⟩
    · exact absurd hs (by show ¬ 2 ≤ 0; omega)
    · exact h.l3 f q hf' hs
  · rcases updS_cases hf with ⟨rfl, rfl⟩ | ⟨_, hf'⟩
    · cases hs
    · rcases updS_cases hg with ⟨rfl, rfl⟩ | ⟨_, hg'⟩
      · exact absurd hs' (by show ¬ 3 ≤ 0; omega)
      · exact h.st f g q q' hf' hg' hne hs hat hs'
/-- the step of an operation -/
theorem SpW.step (h : SpW n ws nv O) {e : Nat} {q : SpQ} (he : O e = some q) (hs4 : q.s ≤ 4) (hg : q.r + q.c < n) (c : Cn) :
    SpW n ((spAcc q).run ws c).2.1 (spNext ⟨nv⟩ q ((spAcc q).run ws c).1).1.nm (updS O e (spNext ⟨nv⟩ q ((spAcc q).run ws c).1).2.1) := by
  have t1 := (h.th e q he).1
  have hlen := h.len
  have hone : ∀ f q', f ≠ e → O f = some q' → q'.th ≠ q.th := fun f q' hf hq e1 => hf (h.one f e q' q hq he e1)
  have hnl := spName_lt hg
  have hi1 : lastW q < ws.length := by unfold lastW; omega
  have hi2 : clW q < ws.length := by unfold clW; omega
  -- what does not hang on words
  have gen : ∀ (ws' : List Nat) (nv' : Nat → Bool) (q1 : SpQ), ws'.length = ws.length → q1.th = q.th → q1.s ≤ 5 →
      (∀ t, nv' t = true → nv t = true ∨ (t = q.th ∧ q1.s = 5)) → (∀ t, nv t = true → nv' t = true) → (q1.s = 5 → nv' q.th = true) →
      (∀ i j d, (i, j, d) ∈ q1.h → (i, j, d) ∈ q.h ∨ (i = q.r ∧ j = q.c ∧ ((d = true ∧ q1.r = q.r ∧ q1.c = q.c + 1) ∨ (d = false ∧ q1.r = q.r + 1 ∧ q1.c = q.c)))) → (∀ x, x ∈ q.h → x ∈ q1.h) →
      ((q1.r = q.r ∧ q1.c = q.c) ∨ (q1.r = q.r ∧ q1.c = q.c + 1 ∧ (q.r, q.c, true) ∈ q1.h) ∨ (q1.r = q.r + 1 ∧ q1.c = q.c ∧ (q.r, q.c, false) ∈ q1.h)) →
      -- words
      (∀ i j, i + j < n → ws'.getD (2 * spName i j + 1) 0 ≠ 0 → ws.getD (2 * spName i j + 1) 0 ≠ 0 ∨ (i = q.r ∧ j = q.c ∧ q1.at' q.r q.c ∧ 4 ≤ q1.s)) →
      (∀ k, ws.getD k 0 ≠ 0 → ws'.getD k 0 ≠ 0) → (q.s = 4 → (q1.at' q.r q.c ∧ 4 ≤ q1.s) ∨ (q.r, q.c, false) ∈ q1.h) →
      ((q.r, q.c, true) ∈ q1.h → (q.r, q.c, true) ∈ q.h ∨ ws'.getD (clW q) 0 ≠ 0) → (4 ≤ q1.s → ws'.getD (clW q1) 0 ≠ 0) →
      (∀ i j, i + j < n → ws'.getD (2 * spName i j) 0 = ws.getD (2 * spName i j) 0 ∨ (i = q.r ∧ j = q.c ∧ ws'.getD (2 * spName i j) 0 = q.th + 1 ∧ q1.at' q.r q.c ∧ 2 ≤ q1.s)) →
      (2 ≤ q.s → ws.getD (lastW q) 0 = q.th + 1 → (q1.at' q.r q.c ∧ 2 ≤ q1.s) ∨ (q.r, q.c, true) ∈ q1.h) →
      (∀ d, (q.r, q.c, d) ∈ q1.h → ws'.getD (lastW q) 0 ≠ 0) → (2 ≤ q1.s → ws'.getD (lastW q1) 0 ≠ 0) →
      (∀ f q', f ≠ e → O f = some q' → q'.s = 5 → q1.at' q'.r q'.c → 3 ≤ q1.s → q1.s ≠ 5 ∧ ws'.getD (lastW q') 0 ≠ q1.th + 1) →
      (∀ f q', f ≠ e → O f = some q' → q1.s = 5 → q'.at' q1.r q1.c → 3 ≤ q'.s → q'.s ≠ 5 ∧ ws'.getD (lastW q1) 0 ≠ q'.th + 1) →
      SpW n ws' nv' (updS O e q1) := fun ws' nv' q1 b1 b2 b3 b4 b5 b6 b7 b8 b9 b10 b11 b12 b13 b14 b15 b16 b17 b18 b19 b20 => by
    have wit : ∀ {f : Nat} {q' : SpQ}, O f = some q' → f ≠ e → updS O e q1 f = some q' := fun hf hne => by rw [updS_other _ hne]; exact hf
    refine ⟨by rw [b1]; exact hlen, fun f q' hf => ?_, fun f g q' q'' hf hg' hth => ?_, fun u hu => ?_, fun f q' hf hs => ?_, fun f q' i j d hf hm => ?_, fun f q' i j hf hm => ?_, fun f q' i j hf hm => ?_, fun f q' i i' j hf hm hm' => ?_, fun f q' i j j' hf hm hm' => ?_, fun f q' i j hf hi hj hij => ?_, fun i j hij hw => ?_, fun f q' i j hf hm => ?_, fun f q' hf hs => ?_, fun i j hij hw => ?_, fun f q' i j d hf hm => ?_, fun f q' hf hs => ?_, fun f g q' q'' hf hg' hne hs hat hs' => ?_⟩
    · rcases updS_cases hf with ⟨rfl, rfl⟩ | ⟨_, hf'⟩
      · exact ⟨by omega, b3⟩
      · exact h.th f q' hf'
    · rcases updS_cases hf with ⟨rfl, rfl⟩ | ⟨hfe, hf'⟩ <;> rcases updS_cases hg' with ⟨rfl, rfl⟩ | ⟨hge, hg''⟩
      · rfl
      · exact absurd (by rw [← hth]; exact b2) (hone g q'' hge hg'')
      · exact absurd (by rw [hth]; exact b2) (hone f q' hfe hf')
      · exact h.one f g q' q'' hf' hg'' hth
    · rcases b4 u hu with hu' | ⟨rfl, h5⟩
      · obtain ⟨f, q', hf, hq⟩ := h.nmd u hu'
        by_cases hfe : f = e
        · subst hfe
          rw [he] at hf; cases hf
          have := hq.2; omega
        · exact ⟨f, q', wit hf hfe, hq⟩
      · exact ⟨e, q1, updS_same _ _, b2, h5⟩
    · rcases updS_cases hf with ⟨rfl, rfl⟩ | ⟨_, hf'⟩
      · rw [b2]; exact b6 hs
      · exact b5 _ (h.nm2 f q' hf' hs)
    · rcases updS_cases hf with ⟨rfl, rfl⟩ | ⟨_, hf'⟩
      · rcases b7 i j d hm with hm' | ⟨rfl, rfl, _⟩
        · exact h.hb _ q i j d he hm'
        · exact hg
      · exact h.hb f q' i j d hf' hm
    · rcases updS_cases hf with ⟨rfl, rfl⟩ | ⟨_, hf'⟩
      · rcases b7 i j true hm with hm' | ⟨rfl, rfl, h1 | ⟨h1, _⟩⟩
        · have := h.hr _ q i j he hm'
          rcases b9 with b | ⟨b, b', _⟩ | ⟨b, b', _⟩ <;> omega
        · omega
        · cases h1
      · exact h.hr f q' i j hf' hm
    · rcases updS_cases hf with ⟨rfl, rfl⟩ | ⟨_, hf'⟩
      · rcases b7 i j false hm with hm' | ⟨rfl, rfl, ⟨h1, _⟩ | h1⟩
        · have := h.hd _ q i j he hm'
          rcases b9 with b | ⟨b, b', _⟩ | ⟨b, b', _⟩ <;> omega
        · cases h1
        · omega
      · exact h.hd f q' i j hf' hm
    · rcases updS_cases hf with ⟨rfl, rfl⟩ | ⟨_, hf'⟩
      · rcases b7 i j true hm with hm1 | ⟨e1, e2, _⟩ <;> rcases b7 i' j true hm' with hm2 | ⟨e3, e4, _⟩
        · exact h.ur _ q i i' j he hm1 hm2
        · have := (h.hr _ q i j he hm1).2; omega
        · have := (h.hr _ q i' j he hm2).2; omega
        · omega
      · exact h.ur f q' i i' j hf' hm hm'
    · rcases updS_cases hf with ⟨rfl, rfl⟩ | ⟨_, hf'⟩
      · rcases b7 i j false hm with hm1 | ⟨e1, e2, _⟩ <;> rcases b7 i j' false hm' with hm2 | ⟨e3, e4, _⟩
        · exact h.ud _ q i j j' he hm1 hm2
        · have := (h.hd _ q i j he hm1).1; omega
        · have := (h.hd _ q i j' he hm2).1; omega
        · omega
      · exact h.ud f q' i j j' hf' hm hm'
    · rcases updS_cases hf with ⟨rfl, rfl⟩ | ⟨_, hf'⟩
      · by_cases hold : i ≤ q.r ∧ j ≤ q.c
        · rcases h.cr _ q i j he hold.1 hold.2 hij with ⟨a, a1, a2, a3⟩ | ⟨a, a1, a2, a3⟩
          · exact .inl ⟨a, a1, a2, b8 _ a3⟩
          · exact .inr ⟨a, a1, a2, b8 _ a3⟩
        · rcases b9 with b | ⟨b, b', bm⟩ | ⟨b, b', bm⟩
          · omega
          · exact .inl ⟨q.r, by omega, by omega, by rw [show j - 1 = q.c by omega]; exact bm⟩
          · exact .inr ⟨q.c, by omega, by omega, by rw [show i - 1 = q.r by omega]; exact bm⟩
      · exact h.cr f q' i j hf' hi hj hij
    · rcases b10 i j hij hw with hw' | ⟨rfl, rfl, h1, h2⟩
      · obtain ⟨f, q', hf, hq⟩ := h.c1 i j hij hw'
        by_cases hfe : f = e
        · subst hfe
          rw [he] at hf; cases hf
          refine ⟨f, q1, updS_same _ _, ?_⟩
          rcases hq with ⟨⟨rfl, rfl⟩, hq⟩ | hq
          · exact b12 (by omega)
          · exact .inr (b8 _ hq)
        · exact ⟨f, q', wit hf hfe, hq⟩
      · exact ⟨e, q1, updS_same _ _, .inl ⟨h1, h2⟩⟩
    · rcases updS_cases hf with ⟨rfl, rfl⟩ | ⟨_, hf'⟩
      · rcases b7 i j true hm with hm' | ⟨rfl, rfl, _⟩
        · exact b11 _ (h.c2 _ q i j he hm')
        · rcases b13 hm with hm' | hm'
          · exact b11 _ (h.c2 _ q _ _ he hm')
          · exact hm'
      · exact b11 _ (h.c2 f q' i j hf' hm)
    · rcases updS_cases hf with ⟨rfl, rfl⟩ | ⟨_, hf'⟩
      · exact b14 hs
      · exact b11 _ (h.c3 f q' hf' hs)
    · rcases b15 i j hij with hw' | ⟨rfl, rfl, h1, h2, h3⟩
      · rw [hw'] at hw ⊢
        obtain ⟨f, q', hf, hq1, hq⟩ := h.l1 i j hij hw
        by_cases hfe : f = e
        · subst hfe
          rw [he] at hf; cases hf
          refine ⟨f, q1, updS_same _ _, by rw [b2]; exact hq1, ?_⟩
          rcases hq with ⟨⟨rfl, rfl⟩, hq⟩ | hq
          · exact b16 hq hq1
          · exact .inr (b8 _ hq)
        · exact ⟨f, q', wit hf hfe, hq1, hq⟩
      · exact ⟨e, q1, updS_same _ _, by rw [b2]; exact h1, .inl ⟨h2, h3⟩⟩
    · rcases updS_cases hf with ⟨rfl, rfl⟩ | ⟨_, hf'⟩
      · rcases b7 i j d hm with hm' | ⟨rfl, rfl, _⟩
        · exact b11 _ (h.l2 _ q i j d he hm')
        · exact b17 d hm
      · exact b11 _ (h.l2 f q' i j d hf' hm)
    · rcases updS_cases hf with ⟨rfl, rfl⟩ | ⟨_, hf'⟩
      · exact b18 hs
      · exact b11 _ (h.l3 f q' hf' hs)
    · rcases updS_cases hf with ⟨rfl, rfl⟩ | ⟨hfe, hf'⟩ <;> rcases updS_cases hg' with ⟨rfl, rfl⟩ | ⟨hge, hg''⟩
      · exact absurd rfl hne
      · exact b20 g q'' hge hg'' hs hat hs'
      · exact b19 f q' hfe hf' hs hat hs'
      · obtain ⟨s1, s2⟩ := h.st f g q' q'' hf' hg'' hne hs hat hs'
        refine ⟨s1, ?_⟩
        have hgf : q'.r + q'.c < n := by
          have := h.len
          by_cases hx : q'.r + q'.c < n
          · exact hx
          · exfalso
            have h0 := h.l3 f q' hf' (by omega)
            have hout : ws.length ≤ lastW q' := by
              have h1 := tri_mono (show n ≤ q'.r + q'.c by omega)
              unfold lastW spName; omega
            rw [List.getD_eq_getElem?_getD, List.getElem?_eq_none hout] at h0
            exact h0 rfl
        rcases b15 q'.r q'.c hgf with hw' | ⟨k1, k2, k3, _⟩
        · show ws'.getD (2 * spName q'.r q'.c) 0 ≠ _
          rw [hw']; exact s2
        · show ws'.getD (2 * spName q'.r q'.c) 0 ≠ _
          rw [k3]
          have := hone g q'' hge hg''
          omega
  have hl3 : 2 ≤ q.s → ws.getD (lastW q) 0 ≠ 0 := h.l3 e q he
  unfold spNext spAcc
  by_cases c1 : q.s ≤ 1
  · simp only [if_pos c1, Acc.run]
    have hset : ∀ i j, ¬ (i = q.r ∧ j = q.c) → (ws.set (lastW q) (q.th + 1)).getD (2 * spName i j) 0 = ws.getD (2 * spName i j) 0 := fun i j hne => gset_ne (fun e1 => hne (spName_inj (by unfold lastW at e1; omega)))
    have hset1 : (ws.set (lastW q) (q.th + 1)).getD (lastW q) 0 = q.th + 1 := gset_eq hi1
    have hodd : ∀ i j, (ws.set (lastW q) (q.th + 1)).getD (2 * spName i j + 1) 0 = ws.getD (2 * spName i j + 1) 0 := fun i j => gset_ne (by unfold lastW; omega)
    refine gen _ nv _ (by rw [List.length_set]) rfl (by show 2 ≤ 5; omega) (fun t ht => .inl ht) (fun t ht => ht) (fun h5 => absurd h5 (by show ¬ 2 = 5; omega)) (fun i j d hm => .inl hm) (fun x hx => hx) (.inl ⟨rfl, rfl⟩) (fun i j _ hw => .inl (by rw [hodd] at hw; exact hw)) (fun k hk => ?_) (fun h4 => by omega) (fun hm => .inl hm) (fun h4 => absurd h4 (by show ¬ 4 ≤ 2; omega)) (fun i j _ => ?_) (fun h2 => by omega) (fun d hm => ?_) (fun _ => ?_) (fun f q' hfe hf h5 hat h3 => absurd h3 (by show ¬ 3 ≤ 2; omega)) (fun f q' hfe hf h5 => absurd h5 (by show ¬ 2 = 5; omega))
    · by_cases hk2 : k = lastW q
      · rw [hk2, hset1]; omega
      · rw [gset_ne hk2]; exact hk
    · by_cases hij : i = q.r ∧ j = q.c
      · obtain ⟨rfl, rfl⟩ := hij
        exact .inr ⟨rfl, rfl, hset1, ⟨rfl, rfl⟩, Nat.le_refl _⟩
      · exact .inl (hset i j hij)
    · rw [hset1]; omega
    · show (ws.set (lastW q) (q.th + 1)).getD (lastW q) 0 ≠ 0
      rw [hset1]; omega
  · by_cases c2 : q.s = 2
    · simp only [if_neg c1, if_pos c2, Acc.run]
      by_cases hv : ws.getD (clW q) 0 = 0
      · simp only [if_pos hv]
        refine gen ws nv _ rfl rfl (by show 3 ≤ 5; omega) (fun t ht => .inl ht) (fun t ht => ht) (fun h5 => absurd h5 (by show ¬ 3 = 5; omega)) (fun i j d hm => .inl hm) (fun x hx => hx) (.inl ⟨rfl, rfl⟩) (fun i j _ hw => .inl hw) (fun k hk => hk) (fun h4 => by omega) (fun hm => .inl hm) (fun h4 => absurd h4 (by show ¬ 4 ≤ 3; omega)) (fun i j _ => .inl rfl) (fun h2 _ => .inl ⟨⟨rfl, rfl⟩, by show 2 ≤ 3; omega⟩) (fun d hm => hl3 (by omega)) (fun _ => hl3 (by omega)) (fun f q' hfe hf h5 hat h3 => ?_) (fun f q' hfe hf h5 => absurd h5 (by show ¬ 3 = 5; omega))
        exfalso
        have := h.c3 f q' hf (by omega)
        have e1 : clW q' = clW q := by
          obtain ⟨a1, a2⟩ := hat
          have a1' : q.r = q'.r := a1
          have a2' : q.c = q'.c := a2
          unfold clW; rw [a1', a2']
        rw [e1] at this
        exact this hv
      · simp only [if_neg hv]
        refine gen ws nv _ rfl rfl (by show 1 ≤ 5; omega) (fun t ht => .inl ht) (fun t ht => ht) (fun h5 => absurd h5 (by show ¬ 1 = 5; omega)) (fun i j d hm => ?_) (fun x hx => List.mem_cons_of_mem _ hx) (.inr (.inl ⟨rfl, rfl, List.mem_cons_self⟩)) (fun i j _ hw => .inl hw) (fun k hk => hk) (fun h4 => by omega) (fun hm => .inr hv) (fun h4 => absurd h4 (by show ¬ 4 ≤ 1; omega)) (fun i j _ => .inl rfl) (fun h2 _ => .inr List.mem_cons_self) (fun d hm => hl3 (by omega)) (fun h2 => absurd h2 (by show ¬ 2 ≤ 1; omega)) (fun f q' hfe hf h5 hat h3 => absurd h3 (by show ¬ 3 ≤ 1; omega)) (fun f q' hfe hf h5 => absurd h5 (by show ¬ 1 = 5; omega))
        rcases List.mem_cons.1 hm with h1 | h1
        · injection h1 with h1 h2
          injection h2 with h2 h3
          exact .inr ⟨h1, h2, .inl ⟨h3, rfl, rfl⟩⟩
        · exact .inl h1
    · by_cases c3 : q.s = 3
      · simp only [if_neg c1, if_neg c2, if_pos c3, Acc.run]
        have heven : ∀ i j, (ws.set (clW q) 1).getD (2 * spName i j) 0 = ws.getD (2 * spName i j) 0 := fun i j => gset_ne (by unfold clW; omega)
        have hset1 : (ws.set (clW q) 1).getD (clW q) 0 = 1 := gset_eq hi2
        have hk : ∀ k, ws.getD k 0 ≠ 0 → (ws.set (clW q) 1).getD k 0 ≠ 0 := fun k hk => by
          by_cases hk2 : k = clW q
          · rw [hk2, hset1]; omega
          · rw [gset_ne hk2]; exact hk
        refine gen _ nv _ (by rw [List.length_set]) rfl (by show 4 ≤ 5; omega) (fun t ht => .inl ht) (fun t ht => ht) (fun h5 => absurd h5 (by show ¬ 4 = 5; omega)) (fun i j d hm => .inl hm) (fun x hx => hx) (.inl ⟨rfl, rfl⟩) (fun i j _ hw => ?_) hk (fun h4 => by omega) (fun hm => .inl hm) (fun _ => ?_) (fun i j _ => .inl (heven i j)) (fun h2 _ => .inl ⟨⟨rfl, rfl⟩, by show 2 ≤ 4; omega⟩) (fun d hm => hk _ (hl3 (by omega))) (fun _ => hk _ (hl3 (by omega))) (fun f q' hfe hf h5 hat h3 => ⟨by show ¬ 4 = 5; omega, ?_⟩) (fun f q' hfe hf h5 => absurd h5 (by show ¬ 4 = 5; omega))
        · by_cases hij : i = q.r ∧ j = q.c
          · exact .inr ⟨hij.1, hij.2, ⟨rfl, rfl⟩, Nat.le_refl _⟩
          · refine .inl ?_
            rw [gset_ne (fun e1 => hij (spName_inj (by unfold clW at e1; omega)))] at hw
            exact hw
        · show (ws.set (clW q) 1).getD (clW q) 0 ≠ 0
          rw [hset1]; omega
        · show (ws.set (clW q) 1).getD (2 * spName q'.r q'.c) 0 ≠ q.th + 1
          rw [heven]
          exact (h.st f e q' q hf he hfe h5 hat (by omega)).2
      · simp only [if_neg c1, if_neg c2, if_neg c3, Acc.run]
        have c4 : q.s = 4 := by omega
        by_cases hv : ws.getD (lastW q) 0 = q.th + 1
        · simp only [if_pos hv]
          have sameW : ∀ q' : SpQ, q.r = q'.r → q.c = q'.c → lastW q' = lastW q := fun q' a1 a2 => by unfold lastW; rw [a1, a2]
          refine gen ws _ _ rfl rfl (by show 5 ≤ 5; omega) (fun t ht => ?_) (fun t ht => ?_) (fun _ => setB_same _ _) (fun i j d hm => .inl hm) (fun x hx => hx) (.inl ⟨rfl, rfl⟩) (fun i j _ hw => .inl hw) (fun k hk => hk) (fun h4 => .inl ⟨⟨rfl, rfl⟩, by show 4 ≤ 5; omega⟩) (fun hm => .inl hm) (fun _ => h.c3 e q he (by omega)) (fun i j _ => .inl rfl) (fun h2 _ => .inl ⟨⟨rfl, rfl⟩, by show 2 ≤ 5; omega⟩) (fun d hm => hl3 (by omega)) (fun _ => hl3 (by omega)) (fun f q' hfe hf h5 hat h3 => ?_) (fun f q' hfe hf h5 hat h3 => ?_)
          · by_cases htt : t = q.th
            · exact .inr ⟨htt, rfl⟩
            · rw [setB_other _ htt] at ht; exact .inl ht
          · by_cases htt : t = q.th
            · rw [htt]; exact setB_same _ _
            · rw [setB_other _ htt]; exact ht
          · exfalso
            have h1 := (h.st f e q' q hf he hfe h5 hat (by omega)).2
            rw [sameW q' hat.1 hat.2] at h1
            exact h1 hv
          · have e1 : lastW q' = lastW q := sameW q' hat.1.symm hat.2.symm
            refine ⟨fun h5' => ?_, ?_⟩
            · have h1 := (h.st f e q' q hf he hfe h5' ⟨hat.1.symm, hat.2.symm⟩ (by omega)).2
              rw [e1] at h1
              exact h1 hv
            · show ws.getD (lastW q) 0 ≠ _
              rw [hv]
              have := hone f q' hfe hf
              omega
        · simp only [if_neg hv]
          refine gen ws nv _ rfl rfl (by show 1 ≤ 5; omega) (fun t ht => .inl ht) (fun t ht => ht) (fun h5 => absurd h5 (by show ¬ 1 = 5; omega)) (fun i j d hm => ?_) (fun x hx => List.mem_cons_of_mem _ hx) (.inr (.inr ⟨rfl, rfl, List.mem_cons_self⟩)) (fun i j _ hw => .inl hw) (fun k hk => hk) (fun h4 => .inr List.mem_cons_self) (fun hm => ?_) (fun h4 => absurd h4 (by show ¬ 4 ≤ 1; omega)) (fun i j _ => .inl rfl) (fun h2 h3 => absurd h3 hv) (fun d hm => hl3 (by omega)) (fun h2 => absurd h2 (by show ¬ 2 ≤ 1; omega)) (fun f q' hfe hf h5 hat h3 => absurd h3 (by show ¬ 3 ≤ 1; omega)) (fun f q' hfe hf h5 => absurd h5 (by show ¬ 1 = 5; omega))
          · rcases List.mem_cons.1 hm with h1 | h1
            · injection h1 with h1 h2
              injection h2 with h2 h3
              exact .inr ⟨h1, h2, .inr ⟨h3, rfl, rfl⟩⟩
            · exact .inl h1
          · rcases List.mem_cons.1 hm with h1 | h1
            · injection h1 with _ h2
              injection h2 with _ h3
              cases h3
            · exact .inl h1
end
end Go.Proofs.Ytglpalomhhhmhaa
