/- Plain: what is read is written in the same bytes. -/
import Derived.Test.YticaheiomidanaaIK
namespace Go.Proofs.Yticaheiomidanaa
open Go.RowKit

def SpV.toI (x : SpV) : SpI := ⟨x.k, x.p, x.q⟩
def CaV.toI (x : CaV) : CaI := ⟨x.t, x.o, x.k, x.a, x.b, x.c⟩
def ScD.toI (x : ScD) : ScI := ⟨x.n, x.specs.map SpV.toI, x.calls.map CaV.toI, x.picks.map (fun p : Nat => (p : Int))⟩

theorem pNext_eq {L r : List Nat} {x : Nat} (h : pNext L = some (x, r)) : L = x :: r := by
  cases L with
  | nil => cases h
  | cons y t =>
    obtain ⟨rfl, rfl⟩ : y = x ∧ t = r := by simpa [pNext] using h
    rfl
theorem bytes_tail {x : Nat} {r : List Nat} (h : ∀ y ∈ x :: r, y < 256) : x < 256 ∧ ∀ y ∈ r, y < 256 := ⟨h x (by simp), fun y hy => h y (by simp [hy])⟩
theorem bytes_app {a r : List Nat} (h : ∀ y ∈ a ++ r, y < 256) : ∀ y ∈ r, y < 256 := fun y hy => h y (by simp [hy])

theorem pPair_eq {L r : List Nat} {v : Nat} (hL : ∀ y ∈ L, y < 256) (h : pPair L = some (v, r)) : L = pairL v ++ r ∧ v ≤ 65535 := by
  unfold pPair at h
  cases h1 : pNext L with
  | none => rw [h1] at h; cases h
  | some q =>
    obtain ⟨a, r1⟩ := q
    rw [h1] at h
    simp only at h
    cases h2 : pNext r1 with
    | none => rw [h2] at h; cases h
    | some q =>
      obtain ⟨b, r2⟩ := q
      rw [h2] at h
      obtain ⟨rfl, rfl⟩ : a * 256 + b = v ∧ r2 = r := by simpa using h
      have e1 := pNext_eq h1
      have e2 := pNext_eq h2
      subst e2
      subst e1
      obtain ⟨ha, hL2⟩ := bytes_tail hL
      obtain ⟨hb, _⟩ := bytes_tail hL2
      refine ⟨?_, by omega⟩
      unfold pairL
      rw [show (a * 256 + b) / 256 = a by omega, show (a * 256 + b) % 256 = b by omega]
      rfl

theorem varF_small {f x : Nat} (h : x < 128) : varF f x = [x] := by
  cases f with
  | zero => rfl
  | succ f => rw [varF, if_neg (by omega)]
theorem pow_step (i : Nat) : (2 : Nat) ^ (7 * (i + 1)) = 128 * 2 ^ (7 * i) := by rw [show 7 * (i + 1) = 7 + 7 * i by omega, Nat.pow_add]

theorem pVar_eq (f : Nat) : ∀ (i acc : Nat) (L : List Nat) (v : Nat) (r : List Nat), i + f = 9 → (∀ y ∈ L, y < 256) → pVar (f + 1) i acc L = some (v, r) →
    ∃ y, v = acc + y * 2 ^ (7 * i) ∧ L = varF f y ++ r ∧ (0 < i → y ≠ 0) ∧ y < 2 ^ (64 - 7 * i) := by
  induction f with
  | zero =>
    intro i acc L v r hi hL h
    rw [pVar] at h
    cases h1 : pNext L with
    | none => rw [h1] at h; cases h
    | some q =>
      obtain ⟨x, r1⟩ := q
      rw [h1] at h
      simp only at h
      have e1 := pNext_eq h1
      subst e1
      have h9 : i = 9 := by omega
      subst h9
      by_cases hb : (9 = 9 ∧ 1 < x) ∨ (0 < 9 ∧ x = 0)
      · rw [if_pos hb] at h; cases h
      · rw [if_neg hb] at h
        have hx : x = 1 := by omega
        subst hx
        obtain ⟨rfl, rfl⟩ : acc + 1 % 128 * 2 ^ (7 * 9) = v ∧ r1 = r := by simpa using h
        exact ⟨1, rfl, rfl, fun _ => by decide, by decide⟩
  | succ f ih =>
    intro i acc L v r hi hL h
    rw [pVar] at h
    cases h1 : pNext L with
    | none => rw [h1] at h; cases h
    | some q =>
      obtain ⟨x, r1⟩ := q
      rw [h1] at h
      simp only at h
      have e1 := pNext_eq h1
      subst e1
      obtain ⟨hx, hL2⟩ := bytes_tail hL
      by_cases hb : (i = 9 ∧ 1 < x) ∨ (0 < i ∧ x = 0)
      · rw [if_pos hb] at h; cases h
      · rw [if_neg hb] at h
        by_cases h128 : x < 128
        · rw [if_pos h128] at h
          obtain ⟨rfl, rfl⟩ : acc + x % 128 * 2 ^ (7 * i) = v ∧ r1 = r := by simpa using h
          refine ⟨x, by rw [Nat.mod_eq_of_lt h128], by rw [varF_small h128]; rfl, fun h => by omega, ?_⟩
          have : (2 : Nat) ^ 8 ≤ 2 ^ (64 - 7 * i) := Nat.pow_le_pow_right (by decide) (by omega)
          have : (2 : Nat) ^ 8 = 256 := by decide
          omega
        · rw [if_neg h128] at h
          obtain ⟨y, hv, hr, h0, hy⟩ := ih (i + 1) _ r1 v r (by omega) hL2 h
          have hy0 := h0 (by omega)
          refine ⟨x % 128 + 128 * y, ?_, ?_, fun _ => by omega, ?_⟩
          · rw [hv, pow_step, Nat.add_mul, Nat.add_assoc]
            congr 2
            ac_rfl
          · rw [varF, if_pos (by omega), show (x % 128 + 128 * y) % 128 + 128 = x by omega, show (x % 128 + 128 * y) / 128 = y by omega, hr]
            rfl
          · have e : (2 : Nat) ^ (64 - 7 * i) = 128 * 2 ^ (64 - 7 * (i + 1)) := by
              rw [show 64 - 7 * i = 7 + (64 - 7 * (i + 1)) by omega, Nat.pow_add]
            rw [e]
            omega

theorem pVar10 {L r : List Nat} {v : Nat} (hL : ∀ y ∈ L, y < 256) (h : pVar 10 0 0 L = some (v, r)) : L = varF 9 v ++ r ∧ v < 18446744073709551616 := by
  obtain ⟨y, hv, hr, _, hy⟩ := pVar_eq 9 0 0 L v r rfl hL h
  have : v = y := by rw [hv]; simp
  subst this
  exact ⟨hr, by simpa using hy⟩

def okSp (x : SpV) : Prop := x.k ≤ 255 ∧ x.p ≤ 65535 ∧ x.q ≤ 65535
theorem pSpec_eq {L r : List Nat} {s : SpV} (hL : ∀ y ∈ L, y < 256) (h : pSpec L = some (s, r)) : L = specL s.toI ++ r ∧ okSp s := by
  unfold pSpec at h
  cases h1 : pNext L with
  | none => rw [h1] at h; cases h
  | some q =>
    obtain ⟨k, r1⟩ := q
    rw [h1] at h
    simp only at h
    have e1 := pNext_eq h1
    subst e1
    obtain ⟨hk, hL1⟩ := bytes_tail hL
    cases h2 : pPair r1 with
    | none => rw [h2] at h; cases h
    | some q =>
      obtain ⟨p, r2⟩ := q
      rw [h2] at h
      simp only at h
      obtain ⟨e2, hp⟩ := pPair_eq hL1 h2
      subst e2
      have hL2 := bytes_app hL1
      cases h3 : pPair r2 with
      | none => rw [h3] at h; cases h
      | some q =>
        obtain ⟨t, r3⟩ := q
        rw [h3] at h
        obtain ⟨e3, ht⟩ := pPair_eq hL2 h3
        obtain ⟨rfl, rfl⟩ : SpV.mk k p t = s ∧ r3 = r := by simpa using h
        subst e3
        exact ⟨by simp [specL, SpV.toI, List.append_assoc], by show k ≤ 255; omega, hp, ht⟩
theorem pSpecA_eq (n : Nat) : ∀ (acc : List SpV) (L : List Nat) (l : List SpV) (r : List Nat), (∀ y ∈ L, y < 256) → pSpecA n acc L = some (l, r) →
    ∃ m, l = acc ++ m ∧ m.length = n ∧ L = (m.map SpV.toI).flatMap specL ++ r ∧ ∀ s ∈ m, okSp s := by
  induction n with
  | zero =>
    intro acc L l r hL h
    rw [pSpecA] at h
    obtain ⟨rfl, rfl⟩ : acc = l ∧ L = r := by simpa using h
    exact ⟨[], by simp, rfl, rfl, by simp⟩
  | succ n ih =>
    intro acc L l r hL h
    rw [pSpecA] at h
    cases h1 : pSpec L with
    | none => rw [h1] at h; cases h
    | some q =>
      obtain ⟨s, r1⟩ := q
      rw [h1] at h
      obtain ⟨e1, hs⟩ := pSpec_eq hL h1
      subst e1
      obtain ⟨m, hl, hm, hr, hok⟩ := ih _ _ _ _ (bytes_app hL) h
      refine ⟨s :: m, by rw [hl]; simp, by simp [hm], by rw [hr]; simp [List.append_assoc], ?_⟩
      intro t ht
      rcases List.mem_cons.1 ht with rfl | ht
      · exact hs
      · exact hok t ht

def okCa (M : Nat) (x : CaV) : Prop := x.t < M ∧ x.o ≤ 255 ∧ x.k ≤ 255 ∧ x.a < 18446744073709551616 ∧ x.b < 18446744073709551616 ∧ x.c < 18446744073709551616
theorem pCall_eq {M : Nat} {L r : List Nat} {s : CaV} (hL : ∀ y ∈ L, y < 256) (h : pCall M L = some (s, r)) : L = callL s.toI ++ r ∧ okCa M s := by
  unfold pCall at h
  cases h1 : pNext L with
  | none => rw [h1] at h; cases h
  | some q =>
    obtain ⟨t, r1⟩ := q
    rw [h1] at h
    simp only at h
    have e1 := pNext_eq h1
    subst e1
    obtain ⟨ht, hL1⟩ := bytes_tail hL
    by_cases hM : M ≤ t
    · rw [if_pos hM] at h; cases h
    rw [if_neg hM] at h
    cases h2 : pNext r1 with
    | none => rw [h2] at h; cases h
    | some q =>
      obtain ⟨o, r2⟩ := q
      rw [h2] at h
      simp only at h
      have e2 := pNext_eq h2
      subst e2
      obtain ⟨ho, hL2⟩ := bytes_tail hL1
      cases h3 : pNext r2 with
      | none => rw [h3] at h; cases h
      | some q =>
        obtain ⟨k, r3⟩ := q
        rw [h3] at h
        simp only at h
        have e3 := pNext_eq h3
        subst e3
        obtain ⟨hk, hL3⟩ := bytes_tail hL2
        cases h4 : pVar 10 0 0 r3 with
        | none => rw [h4] at h; cases h
        | some q =>
          obtain ⟨a, r4⟩ := q
          rw [h4] at h
          simp only at h
          obtain ⟨e4, ha⟩ := pVar10 hL3 h4
          subst e4
          have hL4 := bytes_app hL3
          cases h5 : pVar 10 0 0 r4 with
          | none => rw [h5] at h; cases h
          | some q =>
            obtain ⟨b, r5⟩ := q
            rw [h5] at h
            simp only at h
            obtain ⟨e5, hb⟩ := pVar10 hL4 h5
            subst e5
            have hL5 := bytes_app hL4
            cases h6 : pVar 10 0 0 r5 with
            | none => rw [h6] at h; cases h
            | some q =>
              obtain ⟨c, r6⟩ := q
              rw [h6] at h
              obtain ⟨e6, hc⟩ := pVar10 hL5 h6
              obtain ⟨rfl, rfl⟩ : CaV.mk t o k a b c = s ∧ r6 = r := by simpa using h
              subst e6
              exact ⟨by simp [callL, CaV.toI, List.append_assoc], by show t < M; omega, by show o ≤ 255; omega, by show k ≤ 255; omega, ha, hb, hc⟩
theorem pCallA_eq (M n : Nat) : ∀ (acc : List CaV) (L : List Nat) (l : List CaV) (r : List Nat), (∀ y ∈ L, y < 256) → pCallA M n acc L = some (l, r) →
    ∃ m, l = acc ++ m ∧ m.length = n ∧ L = (m.map CaV.toI).flatMap callL ++ r ∧ ∀ s ∈ m, okCa M s := by
  induction n with
  | zero =>
    intro acc L l r hL h
    rw [pCallA] at h
    obtain ⟨rfl, rfl⟩ : acc = l ∧ L = r := by simpa using h
    exact ⟨[], by simp, rfl, rfl, by simp⟩
  | succ n ih =>
    intro acc L l r hL h
    rw [pCallA] at h
    cases h1 : pCall M L with
    | none => rw [h1] at h; cases h
    | some q =>
      obtain ⟨s, r1⟩ := q
      rw [h1] at h
      obtain ⟨e1, hs⟩ := pCall_eq hL h1
      subst e1
      obtain ⟨m, hl, hm, hr, hok⟩ := ih _ _ _ _ (bytes_app hL) h
      refine ⟨s :: m, by rw [hl]; simp, by simp [hm], by rw [hr]; simp [List.append_assoc], ?_⟩
      intro t ht
      rcases List.mem_cons.1 ht with rfl | ht
      · exact hs
      · exact hok t ht

abbrev pI (l : List Nat) : List Int := l.map (fun p : Nat => (p : Int))
theorem refR_rep (t : Nat) (l : List Int) (k : Nat) : ∀ n, n + (k + 1) ≤ 255 → (l = [] ∨ n + (k + 1) = 255 ∨ ∃ y r, l = y :: r ∧ y ≠ (t : Int)) →
    refR n (List.replicate (k + 1) (t : Int) ++ l) = t :: (n + (k + 1)) :: refR 0 l := by
  induction k with
  | zero =>
    intro n h1 h2
    show refR n ((t : Int) :: l) = _
    rw [refR_stop h2]
    simp
  | succ k ih =>
    intro n h1 h2
    show refR n ((t : Int) :: (t : Int) :: (List.replicate k (t : Int) ++ l)) = _
    rw [refR_more (by omega)]
    have := ih (n + 1) (by omega) (by rw [show n + 1 + (k + 1) = n + (k + 1 + 1) by omega]; exact h2)
    rw [show n + 1 + (k + 1) = n + (k + 1 + 1) by omega] at this
    exact this
theorem pRuns_eq (N : Nat) : ∀ (last : Int) (lc cnt : Nat) (L : List Nat) (ps : List Nat), L.length ≤ N → (∀ y ∈ L, y < 256) → pRuns last lc cnt L = some ps →
    refR 0 (pI ps) = L ∧ (∀ p ∈ ps, p ≤ 255) ∧ (cnt ≤ 65536 → cnt + ps.length ≤ 65536) ∧ (ps = [] ∨ (∃ y r, pI ps = y :: r ∧ (y = last → 255 ≤ lc))) := by
  induction N with
  | zero =>
    intro last lc cnt L ps hN hL h
    obtain rfl : L = [] := List.length_eq_zero_iff.1 (by omega)
    obtain rfl : [] = ps := by simpa [pRuns] using h
    exact ⟨rfl, by simp, by simp, .inl rfl⟩
  | succ N ih =>
    intro last lc cnt L ps hN hL h
    match L, hN, hL, h with
    | [], _, _, h =>
      obtain rfl : [] = ps := by simpa [pRuns] using h
      exact ⟨rfl, by simp, by simp, .inl rfl⟩
    | [_], _, _, h => cases h
    | t :: c :: r, hN, hL, h =>
      obtain ⟨ht, hL1⟩ := bytes_tail hL
      obtain ⟨hc, hL2⟩ := bytes_tail hL1
      rw [pRuns] at h
      by_cases hb : c = 0 ∨ ((t : Int) = last ∧ lc < 255)
      · rw [if_pos hb] at h; cases h
      rw [if_neg hb] at h
      by_cases hg : 65536 < cnt + c
      · rw [if_pos hg] at h; cases h
      rw [if_neg hg] at h
      cases h1 : pRuns t c (cnt + c) r with
      | none => rw [h1] at h; cases h
      | some qs =>
        rw [h1] at h
        obtain rfl : List.replicate c t ++ qs = ps := by simpa using h
        obtain ⟨e1, e2, e3, e4⟩ := ih t c (cnt + c) r qs (by simp at hN; omega) hL2 h1
        obtain ⟨k, rfl⟩ : ∃ k, c = k + 1 := ⟨c - 1, by omega⟩
        have hpi : pI (List.replicate (k + 1) t ++ qs) = List.replicate (k + 1) (t : Int) ++ pI qs := by simp [pI, List.map_append, List.map_replicate]
        refine ⟨?_, ?_, ?_, ?_⟩
        · rw [hpi, refR_rep t (pI qs) k 0 (by omega) ?_, e1]
          · simp
          · rcases e4 with rfl | ⟨y, r', h5, h6⟩
            · exact .inl rfl
            · by_cases hy : y = (t : Int)
              · exact .inr (.inl (by have := h6 hy; omega))
              · exact .inr (.inr ⟨y, r', h5, hy⟩)
        · intro p hp
          rcases List.mem_append.1 hp with hp | hp
          · rw [(List.mem_replicate.1 hp).2]; omega
          · exact e2 p hp
        · intro hcnt
          have := e3 (by omega)
          rw [List.length_append, List.length_replicate]
          omega
        · right
          refine ⟨(t : Int), List.replicate k (t : Int) ++ pI qs, by rw [hpi]; rfl, fun h => ?_⟩
          omega

/-- WHAT IS READ IS RIGHT, AND IS WRITTEN IN THE SAME BYTES -/
theorem read_back {L : List Nat} {x : ScD} {r : List Nat} (hL : ∀ y ∈ L, y < 256) (h : pScript L = some (x, r)) :
    encL x.toI = L ∧ wrong x.toI = 0 ∧ (∀ s ∈ x.specs, okSp s) ∧ (∀ s ∈ x.calls, okCa x.n s) ∧ (∀ p ∈ x.picks, p ≤ 255) ∧ x.specs.length ≤ 8 ∧ x.calls.length ≤ 1000 ∧ x.picks.length ≤ 65536 ∧ 1 ≤ x.n ∧ x.n ≤ 16 := by
  unfold pScript at h
  cases h1 : pThreads L with
  | none => rw [h1] at h; cases h
  | some q =>
    obtain ⟨n, r1⟩ := q
    rw [h1] at h
    simp only at h
    unfold pThreads at h1
    cases h0 : pNext L with
    | none => rw [h0] at h1; cases h1
    | some q =>
      obtain ⟨n', r1'⟩ := q
      rw [h0] at h1
      simp only at h1
      by_cases hn : n' < 1 ∨ 16 < n'
      · rw [if_pos hn] at h1; cases h1
      rw [if_neg hn] at h1
      obtain ⟨rfl, rfl⟩ : n' = n ∧ r1' = r1 := by simpa using h1
      have e0 := pNext_eq h0
      subst e0
      obtain ⟨_, hL1⟩ := bytes_tail hL
      cases h2 : pSpecs r1' with
      | none => rw [h2] at h; cases h
      | some q =>
        obtain ⟨ls, r2⟩ := q
        rw [h2] at h
        simp only at h
        unfold pSpecs at h2
        cases h3 : pNext r1' with
        | none => rw [h3] at h2; cases h2
        | some q =>
          obtain ⟨ns, r3⟩ := q
          rw [h3] at h2
          simp only at h2
          by_cases hns : 8 < ns
          · rw [if_pos hns] at h2; cases h2
          rw [if_neg hns] at h2
          have e3 := pNext_eq h3
          subst e3
          obtain ⟨_, hL2⟩ := bytes_tail hL1
          obtain ⟨ms, hls, hms, e4, oks⟩ := pSpecA_eq ns [] r3 ls r2 hL2 h2
          obtain rfl : ms = ls := by rw [hls]; rfl
          subst e4
          have hL3 := bytes_app hL2
          cases h5 : pCalls n' r2 with
          | none => rw [h5] at h; cases h
          | some q =>
            obtain ⟨lc, r4⟩ := q
            rw [h5] at h
            simp only at h
            unfold pCalls at h5
            cases h6 : pPair r2 with
            | none => rw [h6] at h5; cases h5
            | some q =>
              obtain ⟨nc, r5⟩ := q
              rw [h6] at h5
              simp only at h5
              by_cases hnc : 1000 < nc
              · rw [if_pos hnc] at h5; cases h5
              rw [if_neg hnc] at h5
              obtain ⟨e6, _⟩ := pPair_eq hL3 h6
              subst e6
              have hL4 := bytes_app hL3
              obtain ⟨mc, hlc, hmc, e7, okc⟩ := pCallA_eq n' nc [] r5 lc r4 hL4 h5
              obtain rfl : mc = lc := by rw [hlc]; rfl
              subst e7
              have hL5 := bytes_app hL4
              cases h8 : pPicks r4 with
              | none => rw [h8] at h; cases h
              | some q =>
                obtain ⟨lp, r6⟩ := q
                rw [h8] at h
                unfold pPicks at h8
                cases h9 : pRuns (-1) 0 0 r4 with
                | none => rw [h9] at h8; cases h8
                | some ps =>
                  rw [h9] at h8
                  obtain ⟨rfl, rfl⟩ : ps = lp ∧ [] = r6 := by simpa using h8
                  obtain ⟨e9, okp, hps, _⟩ := pRuns_eq r4.length (-1) 0 0 r4 ps (Nat.le_refl _) hL5 h9
                  obtain ⟨rfl, rfl⟩ : ScD.mk n' ms mc ps = x ∧ [] = r := by simpa using h
                  have hpl : ps.length ≤ 65536 := by have := hps (by decide); omega
                  refine ⟨?_, ?_, oks, okc, okp, by simp only; omega, by simp only; omega, hpl, by simp only; omega, by simp only; omega⟩
                  · unfold encL ScD.toI
                    dsimp only
                    rw [List.length_map, List.length_map, hms, hmc, e9]
                    simp [List.append_assoc]
                  · unfold wrong ScD.toI
                    dsimp only
                    rw [List.length_map, List.length_map, List.length_map, if_neg (by omega), if_neg (by omega), if_neg]
                    have : room ⟨(n' : Int), ms.map SpV.toI, mc.map CaV.toI, ps.map (fun p : Nat => (p : Int))⟩ = true := by
                      unfold room
                      dsimp only
                      rw [Bool.and_eq_true, Bool.and_eq_true]
                      refine ⟨⟨List.all_eq_true.2 ?_, List.all_eq_true.2 ?_⟩, List.all_eq_true.2 ?_⟩
                      · intro y hy
                        obtain ⟨s, hs, rfl⟩ := List.mem_map.1 hy
                        obtain ⟨a1, a2, a3⟩ := oks s hs
                        simp [okS, wth, SpV.toI]
                        omega
                      · intro y hy
                        obtain ⟨s, hs, rfl⟩ := List.mem_map.1 hy
                        obtain ⟨a1, a2, a3, _⟩ := okc s hs
                        simp [okC, wth, CaV.toI]
                        omega
                      · intro y hy
                        obtain ⟨p, hp, rfl⟩ := List.mem_map.1 hy
                        have := okp p hp
                        simp
                        omega
                    rw [this]; decide
end Go.Proofs.Yticaheiomidanaa
