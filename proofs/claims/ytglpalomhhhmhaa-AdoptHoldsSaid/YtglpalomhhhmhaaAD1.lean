/- Adopters, plainly: the machine; what holds of words and operations. -/
import Derived.Test.YtglpalomhhhmhaaAD0
namespace Go.Proofs.Ytglpalomhhhmhaa
open Go.RowKit
set_option linter.unusedVariables false
set_option linter.unusedSimpArgs false
structure AdQ where
  th : Nat
  num : Nat
  stp : Nat
  oth : Bool
  seen : List Nat
structure AdS where
  pr : Nat → Bool
def adMark (num : Nat) (oth : Bool) : Nat := 2 * num + if oth then 0 else 1
theorem adMark_pos {num : Nat} {oth : Bool} (h : 1 ≤ num) : adMark num oth ≠ 0 := by unfold adMark; omega
theorem adMark_odd {num : Nat} {oth : Bool} : adMark num oth % 2 = 1 ↔ oth = false := by unfold adMark; cases oth <;> simp
theorem adMark_half {num : Nat} {oth : Bool} : adMark num oth / 2 = num := by unfold adMark; cases oth <;> simp <;> omega
def adAcc (n : Nat) (q : AdQ) : Acc :=
  if q.stp = 0 then .wr q.th q.num else if q.stp ≤ n then .rd (q.stp - 1) else if q.stp = n + 1 then .wr (n + q.th) (adMark q.num q.oth) else .rd (n + (q.stp - (n + 2)))
def oddB (m : Nat) : Bool := decide (m % 2 = 1)
def evenB (m : Nat) : Bool := decide (m ≠ 0 ∧ m % 2 ≠ 1)
def adRes (num : Nat) (l : List Nat) : Nat := match l.find? oddB with
  | none => 2 * (num - 1)
  | some m => 2 * (m / 2 - 1) + if l.any evenB then 0 else 1
def adNext (n : Nat) (q : AdQ) (r : Nat) : AdQ × Option Ans :=
  if q.stp = 0 then (⟨q.th, q.num, 1, q.oth, q.seen⟩, none)
  else if q.stp ≤ n then (⟨q.th, q.num, q.stp + 1, q.oth || decide (r ≠ 0 ∧ r ≠ q.num), q.seen⟩, none)
  else if q.stp = n + 1 then (⟨q.th, q.num, q.stp + 1, q.oth, q.seen⟩, none)
  else (⟨q.th, q.num, q.stp + 1, q.oth, q.seen ++ [r]⟩, if q.seen.length + 1 < n then none else some ⟨0, adRes q.num (q.seen ++ [r]), []⟩)
def adInv (s : AdS) (x : CallV) : AdS × (AdQ ⊕ Nat) :=
  if ¬ x.k = 0 then (s, .inr 9) else if 2147483648 ≤ x.a then (s, .inr 10) else if s.pr x.t.toNat = true then (s, .inr 8)
  else (⟨setB s.pr x.t.toNat⟩, .inl ⟨x.t.toNat, x.a + 1, 0, false, []⟩)
abbrev adM (n : Nat) : Mach where
  S := AdS
  Q := AdQ
  m := 1
  inv := adInv
  acc := fun _ q => adAcc n q
  next := fun s q r _ => (s, (adNext n q r).1, (adNext n q r).2)
  key := fun _ _ => []
def ad0 : AdS := ⟨fun _ => false⟩
structure AdW (n : Nat) (ws : List Nat) (pv : Nat → Bool) (O : Nat → Option AdQ) : Prop where
  len : ws.length = 2 * n
  th : ∀ e q, O e = some q → q.th < n ∧ 1 ≤ q.num ∧ q.num ≤ 2147483648 ∧ q.stp ≤ 2 * n + 2 ∧ q.seen.length = q.stp - (n + 2)
  pr : ∀ e q, O e = some q → pv q.th = true
  prx : ∀ t, pv t = true → ∃ e q, O e = some q ∧ q.th = t
  one : ∀ e f q q', O e = some q → O f = some q' → q.th = q'.th → e = f
  num : ∀ e q, O e = some q → ws.getD q.th 0 = if q.stp = 0 then 0 else q.num
  num0 : ∀ t, t < n → ws.getD t 0 ≠ 0 → ∃ e q, O e = some q ∧ q.th = t
  mark : ∀ e q, O e = some q → ws.getD (n + q.th) 0 = if q.stp ≤ n + 1 then 0 else adMark q.num q.oth
  mark0 : ∀ t, t < n → ws.getD (n + t) 0 ≠ 0 → ∃ e q, O e = some q ∧ q.th = t
  oth : ∀ e q, O e = some q → q.oth = true → ∃ f q', O f = some q' ∧ q'.num ≠ q.num
  two : ∀ e f q q', O e = some q → O f = some q' → 1 ≤ q.stp → 1 ≤ q'.stp → q.num ≠ q'.num → q.oth = false → q'.th + 1 < q.stp → q'.oth = true ∨ q'.stp ≤ q.th + 1
  seen : ∀ e q j m, O e = some q → q.seen[j]? = some m → (m = 0 ∨ m = ws.getD (n + j) 0) ∧ (j = q.th → m = ws.getD (n + j) 0)
  cross : ∀ e f q q', O e = some q → O f = some q' → q.seen[q'.th]? = some 0 → ∀ m, q'.seen[q.th]? = some m → m = ws.getD (n + q.th) 0
section
variable {n : Nat} {ws : List Nat} {pr : Nat → Bool} {O : Nat → Option AdQ}
theorem adW_first : AdW n (List.replicate (2 * n) 0) (fun _ => false) (fun _ => none) :=
  ⟨by simp, fun e q h => (by cases h), fun e q h => (by cases h), fun t h => (by cases h), fun e f q q' h => (by cases h), fun e q h => (by cases h), fun t _ h => absurd (grepl _ _) h, fun e q h => (by cases h), fun t _ h => absurd (grepl _ _) h,
    fun e q h => (by cases h), fun e f q q' h => (by cases h), fun e q j m h => (by cases h), fun e f q q' h => (by cases h)⟩
def updO (O : Nat → Option AdQ) (e : Nat) (q : AdQ) : Nat → Option AdQ := fun f => if f = e then some q else O f
theorem updO_cases {e f : Nat} {q q' : AdQ} (h : updO O e q f = some q') : (f = e ∧ q' = q) ∨ (f ≠ e ∧ O f = some q') := by
  unfold updO at h
  split at h
  · next hf => exact .inl ⟨hf, (Option.some.inj h).symm⟩
  · next hf => exact .inr ⟨hf, h⟩
theorem updO_same (e : Nat) (q : AdQ) : updO O e q e = some q := by unfold updO; rw [if_pos rfl]
theorem updO_other {e f : Nat} (q : AdQ) (h : f ≠ e) : updO O e q f = O f := by unfold updO; rw [if_neg h]
/-- a witness that keeps its thread and its number -/
theorem updO_wit {e : Nat} {q q1 : AdQ} (he : O e = some q) (h1 : q1.th = q.th) (h2 : q1.num = q.num) {f : Nat} {q' : AdQ} (h : O f = some q') : ∃ q'', updO O e q1 f = some q'' ∧ q''.th = q'.th ∧ q''.num = q'.num := by
  by_cases hf : f = e
  · subst hf
    rw [he] at h; cases h
    exact ⟨q1, updO_same _ _, h1, h2⟩
  · exact ⟨q', by rw [updO_other _ hf]; exact h, rfl, rfl⟩
theorem AdW.begin (h : AdW n ws pr O) {e t a : Nat} (he : O e = none) (hp : pr t = false) (ht : t < n) (ha : a < 2147483648) : AdW n ws (setB pr t) (updO O e ⟨t, a + 1, 0, false, []⟩) := by
  have hne : ∀ f q, O f = some q → q.th ≠ t := fun f q hf e1 => by have := h.pr f q hf; rw [e1, hp] at this; cases this
  have h0 : ∀ f q, O f = some q → f ≠ e := fun f q hf e1 => by subst e1; rw [he] at hf; cases hf
  have hz : ws.getD t 0 = 0 := by
    by_cases hz : ws.getD t 0 = 0
    · exact hz
    · obtain ⟨f, q, hf, hq⟩ := h.num0 t ht hz
      exact absurd hq (hne f q hf)
  have hz2 : ws.getD (n + t) 0 = 0 := by
    by_cases hz : ws.getD (n + t) 0 = 0
    · exact hz
    · obtain ⟨f, q, hf, hq⟩ := h.mark0 t ht hz
      exact absurd hq (hne f q hf)
  refine ⟨h.len, fun f q hf => ?_, fun f q hf => ?_, fun u hu => ?_, fun f g q q' hf hg hth => ?_, fun f q hf => ?_, fun u hu hw => ?_, fun f q hf => ?_, fun u hu hw => ?_, fun f q hf ho => ?_, fun f g q q' hf hg a1 a2 a3 a4 a5 => ?_, fun f q j m hf hj => ?_, fun f g q q' hf hg a1 m hm => ?_⟩
  · rcases updO_cases hf with ⟨rfl, rfl⟩ | ⟨_, hf'⟩
    · exact ⟨ht, by show 1 ≤ a + 1; omega, by show a + 1 ≤ _; omega, Nat.zero_le _, by show 0 = 0 - (n + 2); omega⟩
    · exact h.th f q hf'
  · rcases updO_cases hf with ⟨rfl, rfl⟩ | ⟨_, hf'⟩
    · exact setB_same _ _
    · rw [setB_other _ (hne f q hf')]; exact h.pr f q hf'
  · by_cases hut : u = t
    · exact ⟨e, _, updO_same _ _, hut.symm⟩
    · rw [setB_other _ hut] at hu
      obtain ⟨f, q, hf, hq⟩ := h.prx u hu
      exact ⟨f, q, by rw [updO_other _ (h0 f q hf)]; exact hf, hq⟩
  · rcases updO_cases hf with ⟨rfl, rfl⟩ | ⟨_, hf'⟩ <;> rcases updO_cases hg with ⟨rfl, rfl⟩ | ⟨_, hg'⟩
    · rfl
    · exact absurd hth.symm (hne g q' hg')
    · exact absurd hth (hne f q hf')
    · exact h.one f g q q' hf' hg' hth
  · rcases updO_cases hf with ⟨rfl, rfl⟩ | ⟨_, hf'⟩
    · rw [if_pos rfl]; exact hz
    · exact h.num f q hf'
  · obtain ⟨f, q, hf, hq⟩ := h.num0 u hu hw
    exact ⟨f, q, by rw [updO_other _ (h0 f q hf)]; exact hf, hq⟩
  · rcases updO_cases hf with ⟨rfl, rfl⟩ | ⟨_, hf'⟩
    · rw [if_pos (Nat.zero_le _)]; exact hz2
    · exact h.mark f q hf'
  · obtain ⟨f, q, hf, hq⟩ := h.mark0 u hu hw
    exact ⟨f, q, by rw [updO_other _ (h0 f q hf)]; exact hf, hq⟩
  · rcases updO_cases hf with ⟨rfl, rfl⟩ | ⟨_, hf'⟩
    · cases ho
    · obtain ⟨g, q', hg, hq⟩ := h.oth f q hf' ho
      exact ⟨g, q', by rw [updO_other _ (h0 g q' hg)]; exact hg, hq⟩
  · rcases updO_cases hf with ⟨rfl, rfl⟩ | ⟨_, hf'⟩
    · exact absurd a1 (by show ¬ 1 ≤ 0; omega)
    · rcases updO_cases hg with ⟨rfl, rfl⟩ | ⟨_, hg'⟩
      · exact absurd a2 (by show ¬ 1 ≤ 0; omega)
      · exact h.two f g q q' hf' hg' a1 a2 a3 a4 a5
  · rcases updO_cases hf with ⟨rfl, rfl⟩ | ⟨_, hf'⟩
    · simp at hj
    · exact h.seen f q j m hf' hj
  · rcases updO_cases hf with ⟨rfl, rfl⟩ | ⟨_, hf'⟩
    · simp at a1
    · rcases updO_cases hg with ⟨rfl, rfl⟩ | ⟨_, hg'⟩
      · simp at hm
      · exact h.cross f g q q' hf' hg' a1 m hm
/-- the step of an operation -/
theorem AdW.step (h : AdW n ws pr O) {e : Nat} {q : AdQ} (he : O e = some q) (hs : q.stp ≤ 2 * n + 1) (c : Cn) : AdW n ((adAcc n q).run ws c).2.1 pr (updO O e (adNext n q ((adAcc n q).run ws c).1).1) := by
  obtain ⟨t1, t2, t3, t4, t5⟩ := h.th e q he
  have hlen := h.len
  have hone : ∀ f q', f ≠ e → O f = some q' → q'.th ≠ q.th := fun f q' hf hq e1 => hf (h.one f e q' q hq he e1)
  -- whatever keeps thread, number
  have gen : ∀ (ws' : List Nat) (q1 : AdQ), ws'.length = 2 * n → q1.th = q.th → q1.num = q.num → q1.stp = q.stp + 1 → q1.seen.length = q1.stp - (n + 2) →
      (∀ f q', updO O e q1 f = some q' → ws'.getD q'.th 0 = if q'.stp = 0 then 0 else q'.num) → (∀ u, u < n → ws'.getD u 0 ≠ 0 → ws.getD u 0 ≠ 0 ∨ u = q.th) →
      (∀ f q', updO O e q1 f = some q' → ws'.getD (n + q'.th) 0 = if q'.stp ≤ n + 1 then 0 else adMark q'.num q'.oth) → (∀ u, u < n → ws'.getD (n + u) 0 ≠ 0 → ws.getD (n + u) 0 ≠ 0 ∨ u = q.th) →
      (q1.oth = true → q.oth = true ∨ ∃ f q', O f = some q' ∧ q'.num ≠ q.num) →
      (∀ f q', f ≠ e → O f = some q' → 1 ≤ q'.stp → q1.num ≠ q'.num → q1.oth = false → q'.th + 1 < q1.stp → q'.oth = true ∨ q'.stp ≤ q1.th + 1) →
      (∀ f q', f ≠ e → O f = some q' → 1 ≤ q'.stp → q'.num ≠ q1.num → q'.oth = false → q1.th + 1 < q'.stp → q1.oth = true ∨ q1.stp ≤ q'.th + 1) →
      (∀ f q' j m, updO O e q1 f = some q' → q'.seen[j]? = some m → (m = 0 ∨ m = ws'.getD (n + j) 0) ∧ (j = q'.th → m = ws'.getD (n + j) 0)) →
      (∀ f g q' q'', updO O e q1 f = some q' → updO O e q1 g = some q'' → q'.seen[q''.th]? = some 0 → ∀ m, q''.seen[q'.th]? = some m → m = ws'.getD (n + q'.th) 0) →
      AdW n ws' pr (updO O e q1) := fun ws' q1 b1 b2 b3 b4 b5 b6 b7 b8 b9 b10 b11 b12 b13 b14 => by
    refine ⟨b1, fun f q' hf => ?_, fun f q' hf => ?_, fun u hu => ?_, fun f g q' q'' hf hg hth => ?_, b6, fun u hu hw => ?_, b8, fun u hu hw => ?_, fun f q' hf ho => ?_, fun f g q' q'' hf hg a1 a2 a3 a4 a5 => ?_, b13, b14⟩
    · rcases updO_cases hf with ⟨rfl, rfl⟩ | ⟨_, hf'⟩
      · exact ⟨by omega, by omega, by omega, by omega, b5⟩
      · exact h.th f q' hf'
    · rcases updO_cases hf with ⟨rfl, rfl⟩ | ⟨_, hf'⟩
      · rw [b2]; exact h.pr _ q he
      · exact h.pr f q' hf'
    · obtain ⟨f, q', hf, hq⟩ := h.prx u hu
      obtain ⟨q'', h1, h2, _⟩ := updO_wit he b2 b3 hf
      exact ⟨f, q'', h1, by rw [h2]; exact hq⟩
    · rcases updO_cases hf with ⟨rfl, rfl⟩ | ⟨hfe, hf'⟩ <;> rcases updO_cases hg with ⟨rfl, rfl⟩ | ⟨hge, hg'⟩
      · rfl
      · exact absurd (by rw [← hth]; exact b2) (hone g q'' hge hg')
      · exact absurd (by rw [hth]; exact b2) (hone f q' hfe hf')
      · exact h.one f g q' q'' hf' hg' hth
    · rcases b7 u hu hw with hw' | rfl
      · obtain ⟨f, q', hf, hq⟩ := h.num0 u hu hw'
        obtain ⟨q'', h1, h2, _⟩ := updO_wit he b2 b3 hf
        exact ⟨f, q'', h1, by rw [h2]; exact hq⟩
      · exact ⟨e, q1, updO_same _ _, b2⟩
    · rcases b9 u hu hw with hw' | rfl
      · obtain ⟨f, q', hf, hq⟩ := h.mark0 u hu hw'
        obtain ⟨q'', h1, h2, _⟩ := updO_wit he b2 b3 hf
        exact ⟨f, q'', h1, by rw [h2]; exact hq⟩
      · exact ⟨e, q1, updO_same _ _, b2⟩
    · rcases updO_cases hf with ⟨rfl, rfl⟩ | ⟨_, hf'⟩
      · have : ∃ g q'', O g = some q'' ∧ q''.num ≠ q.num := (b10 ho).elim (fun h1 => h.oth _ q he h1) id
        obtain ⟨g, q'', hg, hq⟩ := this
        obtain ⟨q3, h1, _, h3⟩ := updO_wit he b2 b3 hg
        exact ⟨g, q3, h1, by rw [h3, b3]; exact hq⟩
      · obtain ⟨g, q'', hg, hq⟩ := h.oth f q' hf' ho
        obtain ⟨q3, h1, _, h3⟩ := updO_wit he b2 b3 hg
        exact ⟨g, q3, h1, by rw [h3]; exact hq⟩
    · rcases updO_cases hf with ⟨rfl, rfl⟩ | ⟨hfe, hf'⟩ <;> rcases updO_cases hg with ⟨rfl, rfl⟩ | ⟨hge, hg'⟩
      · exact absurd rfl a3
      · exact b11 g q'' hge hg' a2 a3 a4 a5
      · exact b12 f q' hfe hf' a1 a3 a4 a5
      · exact h.two f g q' q'' hf' hg' a1 a2 a3 a4 a5
  have hsn : ∀ f q', O f = some q' → q'.stp ≤ n + 1 → q'.seen = [] := fun f q' hf hst => by
    have := (h.th f q' hf).2.2.2.2
    exact List.length_eq_zero_iff.1 (by omega)
  unfold adNext adAcc
  by_cases c0 : q.stp = 0
  · rw [if_pos c0, if_pos c0]
    have hse := hsn e q he (by omega)
    refine gen _ _ (by show (ws.set q.th q.num).length = _; rw [List.length_set]; exact hlen) rfl rfl (by show 1 = _; omega) (by show q.seen.length = 1 - (n + 2); rw [hse]; show 0 = _; omega) (fun f q' hf => ?_) (fun u hu hw => ?_) (fun f q' hf => ?_) (fun u hu hw => ?_) (fun ho => .inl ho) (fun f q' hfe hf a1 a2 a3 a4 => ?_) (fun f q' hfe hf a1 a2 a3 a4 => .inr ?_) (fun f q' j m hf hj => ?_) (fun f g q' q'' hf hg a1 m hm => ?_)
    · show (ws.set q.th q.num).getD q'.th 0 = _
      rcases updO_cases hf with ⟨rfl, rfl⟩ | ⟨hfe, hf'⟩
      · rw [if_neg (by show ¬ 1 = 0; omega)]; exact gset_eq (by omega)
      · rw [gset_ne (hone f q' hfe hf')]; exact h.num f q' hf'
    · by_cases hu2 : u = q.th
      · exact .inr hu2
      · have hw2 : (ws.set q.th q.num).getD u 0 ≠ 0 := hw
        rw [gset_ne hu2] at hw2; exact .inl hw2
    · have hne : n + q'.th ≠ q.th := by omega
      show (ws.set q.th q.num).getD (n + q'.th) 0 = _
      rw [gset_ne hne]
      rcases updO_cases hf with ⟨rfl, rfl⟩ | ⟨hfe, hf'⟩
      · rw [if_pos (by show 1 ≤ n + 1; omega)]
        have := h.mark _ q he
        rw [if_pos (by omega)] at this; exact this
      · exact h.mark f q' hf'
    · have hw2 : (ws.set q.th q.num).getD (n + u) 0 ≠ 0 := hw
      rw [gset_ne (by omega)] at hw2; exact .inl hw2
    · exact absurd a4 (by show ¬ q'.th + 1 < 1; omega)
    · show 1 ≤ q'.th + 1; omega
    · have e1 : (ws.set q.th q.num).getD (n + j) 0 = ws.getD (n + j) 0 := gset_ne (by omega)
      show (m = 0 ∨ m = (ws.set q.th q.num).getD (n + j) 0) ∧ (j = q'.th → m = (ws.set q.th q.num).getD (n + j) 0)
      rw [e1]
      rcases updO_cases hf with ⟨rfl, rfl⟩ | ⟨hfe, hf'⟩
      · have hj' : q.seen[j]? = some m := hj
        rw [hse] at hj'; simp at hj'
      · exact h.seen f q' j m hf' hj
    · show m = (ws.set q.th q.num).getD (n + q'.th) 0
      rw [gset_ne (show n + q'.th ≠ q.th by omega)]
      rcases updO_cases hf with ⟨rfl, rfl⟩ | ⟨hfe, hf'⟩
      · have hj' : q.seen[q''.th]? = some 0 := a1
        rw [hse] at hj'; simp at hj'
      · rcases updO_cases hg with ⟨rfl, rfl⟩ | ⟨hge, hg'⟩
        · have hj' : q.seen[q'.th]? = some m := hm
          rw [hse] at hj'; simp at hj'
        · exact h.cross f g q' q'' hf' hg' a1 m hm
  · rw [if_neg c0, if_neg c0]
    by_cases c1 : q.stp ≤ n
    · rw [if_pos c1, if_pos c1]
      have hse := hsn e q he (by omega)
      obtain ⟨r, hr⟩ : ∃ r, ws.getD (q.stp - 1) 0 = r := ⟨_, rfl⟩
      show AdW n ws pr (updO O e ⟨q.th, q.num, q.stp + 1, q.oth || decide (ws.getD (q.stp - 1) 0 ≠ 0 ∧ ws.getD (q.stp - 1) 0 ≠ q.num), q.seen⟩)
      rw [hr]
      have hw : ∀ f q', O f = some q' → 1 ≤ q'.stp → q'.th = q.stp - 1 → r = q'.num ∧ r ≠ 0 := fun f q' hf hst hth => by
        have := h.num f q' hf
        rw [if_neg (by omega), hth, hr] at this
        have := (h.th f q' hf).2.1
        exact ⟨by assumption, by omega⟩
      refine gen _ _ hlen rfl rfl rfl (by show q.seen.length = q.stp + 1 - (n + 2); rw [hse]; show 0 = _; omega) (fun f q' hf => ?_) (fun u hu hw => .inl hw) (fun f q' hf => ?_) (fun u hu hw => .inl hw) (fun ho => ?_) (fun f q' hfe hf a1 a2 a3 a4 => ?_) (fun f q' hfe hf a1 a2 a3 a4 => ?_) (fun f q' j m hf hj => ?_) (fun f g q' q'' hf hg a1 m hm => ?_)
      · rcases updO_cases hf with ⟨rfl, rfl⟩ | ⟨hfe, hf'⟩
        · have := h.num _ q he
          rw [if_neg c0] at this
          rw [if_neg (by show ¬ q.stp + 1 = 0; omega)]; exact this
        · exact h.num f q' hf'
      · rcases updO_cases hf with ⟨rfl, rfl⟩ | ⟨hfe, hf'⟩
        · have := h.mark _ q he
          rw [if_pos (by omega)] at this
          rw [if_pos (by show q.stp + 1 ≤ n + 1; omega)]; exact this
        · exact h.mark f q' hf'
      · have ho' : (q.oth || decide (r ≠ 0 ∧ r ≠ q.num)) = true := ho
        rw [Bool.or_eq_true] at ho'
        rcases ho' with ho' | ho'
        · exact .inl ho'
        · obtain ⟨o1, o2⟩ := of_decide_eq_true ho'
          obtain ⟨f, q', hf, hth⟩ := h.num0 (q.stp - 1) (by omega) (by rw [hr]; exact o1)
          refine .inr ⟨f, q', hf, ?_⟩
          have := h.num f q' hf
          rw [hth, hr] at this
          split at this
          · exact absurd this o1
          · rw [← this]; exact o2
      · have a3' : (q.oth || decide (r ≠ 0 ∧ r ≠ q.num)) = false := a3
        rw [Bool.or_eq_false_iff] at a3'
        have a4' : q'.th + 1 < q.stp + 1 := a4
        by_cases hlt : q'.th + 1 < q.stp
        · exact h.two e f q q' he hf (by omega) a1 a2 a3'.1 hlt
        · obtain ⟨w1, w2⟩ := hw f q' hf a1 (by omega)
          exact absurd ⟨w2, fun e1 => a2 (by show q.num = q'.num; rw [← e1]; exact w1)⟩ (of_decide_eq_false a3'.2)
      · show (q.oth || decide (r ≠ 0 ∧ r ≠ q.num)) = true ∨ q.stp + 1 ≤ q'.th + 1
        rw [Bool.or_eq_true]
        rcases h.two f e q' q hf he a1 (by omega) a2 a3 a4 with ho | ho
        · exact .inl (.inl ho)
        · by_cases hlt : q.stp = q'.th + 1
          · obtain ⟨w1, w2⟩ := hw f q' hf a1 (by omega)
            exact .inl (.inr (decide_eq_true ⟨w2, by rw [w1]; exact a2⟩))
          · exact .inr (by omega)
      · rcases updO_cases hf with ⟨rfl, rfl⟩ | ⟨hfe, hf'⟩
        · have hj' : q.seen[j]? = some m := hj
          rw [hse] at hj'; simp at hj'
        · exact h.seen f q' j m hf' hj
      · rcases updO_cases hf with ⟨rfl, rfl⟩ | ⟨hfe, hf'⟩
        · have hj' : q.seen[q''.th]? = some 0 := a1
          rw [hse] at hj'; simp at hj'
        · rcases updO_cases hg with ⟨rfl, rfl⟩ | ⟨hge, hg'⟩
          · have hj' : q.seen[q'.th]? = some m := hm
            rw [hse] at hj'; simp at hj'
          · exact h.cross f g q' q'' hf' hg' a1 m hm
    · rw [if_neg c1, if_neg c1]
      by_cases c2 : q.stp = n + 1
      · rw [if_pos c2, if_pos c2]
        have hse := hsn e q he (by omega)
        refine gen _ _ (by show (ws.set (n + q.th) (adMark q.num q.oth)).length = _; rw [List.length_set]; exact hlen) rfl rfl rfl (by show q.seen.length = q.stp + 1 - (n + 2); rw [hse]; show 0 = _; omega) (fun f q' hf => ?_) (fun u hu hw => ?_) (fun f q' hf => ?_) (fun u hu hw => ?_) (fun ho => .inl ho) (fun f q' hfe hf a1 a2 a3 a4 => ?_) (fun f q' hfe hf a1 a2 a3 a4 => ?_) (fun f q' j m hf hj => ?_) (fun f g q' q'' hf hg a1 m hm => ?_)
        · have hth' : q'.th < n := by
            rcases updO_cases hf with ⟨rfl, rfl⟩ | ⟨hfe, hf'⟩
            · exact t1
            · exact (h.th f q' hf').1
          show (ws.set (n + q.th) (adMark q.num q.oth)).getD q'.th 0 = _
          rw [gset_ne (show q'.th ≠ n + q.th by omega)]
          rcases updO_cases hf with ⟨rfl, rfl⟩ | ⟨hfe, hf'⟩
          · have := h.num _ q he
            rw [if_neg c0] at this
            rw [if_neg (by show ¬ q.stp + 1 = 0; omega)]; exact this
          · exact h.num f q' hf'
        · have hw2 : (ws.set (n + q.th) (adMark q.num q.oth)).getD u 0 ≠ 0 := hw
          rw [gset_ne (by omega)] at hw2; exact .inl hw2
        · show (ws.set (n + q.th) (adMark q.num q.oth)).getD (n + q'.th) 0 = _
          rcases updO_cases hf with ⟨rfl, rfl⟩ | ⟨hfe, hf'⟩
          · rw [if_neg (by show ¬ q.stp + 1 ≤ n + 1; omega)]; exact gset_eq (by omega)
          · rw [gset_ne (by have := hone f q' hfe hf'; omega)]; exact h.mark f q' hf'
        · by_cases hu2 : u = q.th
          · exact .inr hu2
          · have hw2 : (ws.set (n + q.th) (adMark q.num q.oth)).getD (n + u) 0 ≠ 0 := hw
            rw [gset_ne (by omega)] at hw2; exact .inl hw2
        · have := (h.th f q' hf).1
          exact h.two e f q q' he hf (by omega) a1 a2 a3 (by omega)
        · have := (h.th f q' hf).1
          rcases h.two f e q' q hf he a1 (by omega) a2 a3 a4 with ho | ho
          · exact .inl ho
          · omega
        · show (m = 0 ∨ m = (ws.set (n + q.th) (adMark q.num q.oth)).getD (n + j) 0) ∧ (j = q'.th → m = (ws.set (n + q.th) (adMark q.num q.oth)).getD (n + j) 0)
          rcases updO_cases hf with ⟨rfl, rfl⟩ | ⟨hfe, hf'⟩
          · have hj' : q.seen[j]? = some m := hj
            rw [hse] at hj'; simp at hj'
          · obtain ⟨s1, s2⟩ := h.seen f q' j m hf' hj
            by_cases hjt : j = q.th
            · subst hjt
              have hm := h.mark _ q he
              rw [if_pos (by omega)] at hm
              rw [hm] at s1
              exact ⟨.inl (s1.elim id id), fun e1 => absurd e1.symm (hone f q' hfe hf')⟩
            · rw [gset_ne (by omega)]; exact ⟨s1, s2⟩
        · show m = (ws.set (n + q.th) (adMark q.num q.oth)).getD (n + q'.th) 0
          rcases updO_cases hf with ⟨rfl, rfl⟩ | ⟨hfe, hf'⟩
          · have hj' : q.seen[q''.th]? = some 0 := a1
            rw [hse] at hj'; simp at hj'
          · rw [gset_ne (by have := hone f q' hfe hf'; omega)]
            rcases updO_cases hg with ⟨rfl, rfl⟩ | ⟨hge, hg'⟩
            · have hj' : q.seen[q'.th]? = some m := hm
              rw [hse] at hj'; simp at hj'
            · exact h.cross f g q' q'' hf' hg' a1 m hm
      · rw [if_neg c2, if_neg c2]
        obtain ⟨j0, hj0⟩ : ∃ j0, q.stp - (n + 2) = j0 := ⟨_, rfl⟩
        rw [hj0] at t5 ⊢
        obtain ⟨r, hr⟩ : ∃ r, ws.getD (n + j0) 0 = r := ⟨_, rfl⟩
        show AdW n ws pr (updO O e ⟨q.th, q.num, q.stp + 1, q.oth, q.seen ++ [ws.getD (n + j0) 0]⟩)
        rw [hr]
        have hget : ∀ j m, (q.seen ++ [r])[j]? = some m → (j = j0 ∧ m = r) ∨ q.seen[j]? = some m := fun j m hj => by
          rcases snoc_get hj with ⟨h1, h2⟩ | ⟨_, h2⟩
          · exact .inl ⟨by omega, h2⟩
          · exact .inr h2
        have hmk := h.mark e q he
        rw [if_neg (by omega)] at hmk
        have hmp := adMark_pos (oth := q.oth) t2
        refine gen _ _ hlen rfl rfl rfl (by show (q.seen ++ [r]).length = q.stp + 1 - (n + 2); rw [List.length_append, List.length_singleton]; omega) (fun f q' hf => ?_) (fun u hu hw => .inl hw) (fun f q' hf => ?_) (fun u hu hw => .inl hw) (fun ho => .inl ho) (fun f q' hfe hf a1 a2 a3 a4 => ?_) (fun f q' hfe hf a1 a2 a3 a4 => ?_) (fun f q' j m hf hj => ?_) (fun f g q' q'' hf hg a1 m hm => ?_)
        · rcases updO_cases hf with ⟨rfl, rfl⟩ | ⟨hfe, hf'⟩
          · have := h.num _ q he
            rw [if_neg c0] at this
            rw [if_neg (by show ¬ q.stp + 1 = 0; omega)]; exact this
          · exact h.num f q' hf'
        · rcases updO_cases hf with ⟨rfl, rfl⟩ | ⟨hfe, hf'⟩
          · rw [if_neg (by show ¬ q.stp + 1 ≤ n + 1; omega)]; exact hmk
          · exact h.mark f q' hf'
        · have := (h.th f q' hf).1
          exact h.two e f q q' he hf (by omega) a1 a2 a3 (by omega)
        · have := (h.th f q' hf).1
          rcases h.two f e q' q hf he a1 (by omega) a2 a3 a4 with ho | ho
          · exact .inl ho
          · omega
        · rcases updO_cases hf with ⟨rfl, rfl⟩ | ⟨hfe, hf'⟩
          · rcases hget j m hj with ⟨rfl, rfl⟩ | hj'
            · exact ⟨.inr hr.symm, fun _ => hr.symm⟩
            · exact h.seen _ q j m he hj'
          · exact h.seen f q' j m hf' hj
        · rcases updO_cases hf with ⟨rfl, rfl⟩ | ⟨hfe, hf'⟩
          · rcases updO_cases hg with ⟨rfl, rfl⟩ | ⟨hge, hg'⟩
            · rcases hget _ m hm with ⟨e1, e2⟩ | hj'
              · have e1' : q.th = j0 := e1
                show m = ws.getD (n + q.th) 0
                rw [e2, e1']; exact hr.symm
              · exact (h.seen _ q _ m he hj').2 rfl
            · rcases hget _ 0 a1 with ⟨e1, e2⟩ | hj'
              · have hm2 := h.mark g q'' hg'
                rw [e1, hr, ← e2] at hm2
                by_cases hst : q''.stp ≤ n + 1
                · rw [hsn g q'' hg' hst] at hm; simp at hm
                · rw [if_neg hst] at hm2
                  exact absurd hm2.symm (adMark_pos (h.th g q'' hg').2.1)
              · exact h.cross _ g q q'' he hg' hj' m hm
          · rcases updO_cases hg with ⟨rfl, rfl⟩ | ⟨hge, hg'⟩
            · rcases hget _ m hm with ⟨e1, rfl⟩ | hj'
              · rw [e1]; exact hr.symm
              · exact h.cross f _ q' q hf' he a1 m hj'
            · exact h.cross f g q' q'' hf' hg' a1 m hm
/-- both alone: one number -/
theorem AdW.agree (h : AdW n ws pr O) {e f : Nat} {q q' : AdQ} (he : O e = some q) (hf : O f = some q') (h1 : n + 1 ≤ q.stp) (h2 : n + 1 ≤ q'.stp) (o1 : q.oth = false) (o2 : q'.oth = false) : q.num = q'.num := by
  by_cases hne : q.num = q'.num
  · exact hne
  · have t1 := (h.th e q he).1
    have t2 := (h.th f q' hf).1
    rcases h.two e f q q' he hf (by omega) (by omega) hne o1 (by omega) with ho | ho
    · rw [o2] at ho; cases ho
    · omega
/-- whose mark was seen -/
theorem AdW.owner (h : AdW n ws pr O) {e j m : Nat} {q : AdQ} (he : O e = some q) (hj : q.seen[j]? = some m) (hm : m ≠ 0) : ∃ f q', O f = some q' ∧ q'.th = j ∧ m = adMark q'.num q'.oth ∧ n + 2 ≤ q'.stp := by
  obtain ⟨t1, t2, t3, t4, t5⟩ := h.th e q he
  have hjl := (List.getElem?_eq_some_iff.1 hj).1
  have hw : m = ws.getD (n + j) 0 := (h.seen e q j m he hj).1.elim (fun h => absurd h hm) id
  obtain ⟨f, q', hf, hth⟩ := h.mark0 j (by omega) (by rw [← hw]; exact hm)
  have hk := h.mark f q' hf
  rw [hth, ← hw] at hk
  by_cases hst : q'.stp ≤ n + 1
  · rw [if_pos hst] at hk; exact absurd hk hm
  · rw [if_neg hst] at hk
    exact ⟨f, q', hf, hth, hk, by omega⟩
theorem adFind_some {l : List Nat} {m : Nat} (h : l.find? oddB = some m) : m % 2 = 1 ∧ ∃ j : Nat, l[j]? = some m :=
  by
  have h1 : oddB m = true := List.find?_some h
  exact ⟨of_decide_eq_true h1, List.mem_iff_getElem?.1 (List.mem_of_find?_eq_some h)⟩
theorem adFind_none {l : List Nat} (h : l.find? oddB = none) {j m : Nat} (hj : l[j]? = some m) : m % 2 ≠ 1 := by
  have := List.find?_eq_none.1 h m (List.mem_of_getElem? hj)
  exact fun e => this (decide_eq_true e)
theorem adRes_half (num m : Nat) (l : List Nat) (h : l.find? oddB = some m) : adRes num l / 2 = m / 2 - 1 ∧ (adRes num l % 2 = 1 ↔ l.any evenB = false) := by
  unfold adRes
  rw [h]
  simp only
  cases l.any evenB <;> simp <;> omega
theorem any_even {l : List Nat} (h : l.any evenB = false) {j m : Nat} (hj : l[j]? = some m) (hm : m ≠ 0) : m % 2 = 1 := by
  by_cases h2 : m % 2 = 1
  · exact h2
  · have : l.any evenB = true := List.any_eq_true.2 ⟨m, List.mem_of_getElem? hj, decide_eq_true ⟨hm, h2⟩⟩
    rw [h] at this; cases this
/-- its own mark was seen -/
theorem AdW.own (h : AdW n ws pr O) {e : Nat} {q : AdQ} (he : O e = some q) (hl : q.seen.length = n) (hn : 1 ≤ n) : q.seen[q.th]? = some (adMark q.num q.oth) ∧ n + 2 ≤ q.stp := by
  obtain ⟨t1, t2, t3, t4, t5⟩ := h.th e q he
  have hst : n + 2 ≤ q.stp := by omega
  have hj : q.seen[q.th]? = some (q.seen[q.th]'(by omega)) := List.getElem?_eq_getElem (by omega)
  have h1 := (h.seen e q _ _ he hj).2 rfl
  have h2 := h.mark e q he
  rw [if_neg (by omega)] at h2
  rw [hj, h1, h2]
  exact ⟨rfl, hst⟩
/-- whoever agrees, the others have that number -/
theorem AdW.holds (h : AdW n ws pr O) (hn : 1 ≤ n) {e f : Nat} {q q' : AdQ} (he : O e = some q) (hf : O f = some q') (hl : q.seen.length = n) (hl' : q'.seen.length = n) (hodd : adRes q.num q.seen % 2 = 1) : adRes q'.num q'.seen / 2 = adRes q.num q.seen / 2 := by
  obtain ⟨w1, w2⟩ := h.own he hl hn
  obtain ⟨w1', w2'⟩ := h.own hf hl' hn
  have tn := (h.th e q he).2.1
  have tn' := (h.th f q' hf).2.1
  cases hfi : q.seen.find? oddB with
  | none => unfold adRes at hodd; rw [hfi] at hodd; simp only at hodd; omega
  | some m =>
    obtain ⟨g1, g2⟩ := adRes_half q.num m q.seen hfi
    have hne := g2.1 hodd
    have ho : q.oth = false := adMark_odd.1 (any_even hne w1 (adMark_pos tn))
    have fst : ∀ (e2 : Nat) (q2 : AdQ) (m2 : Nat), O e2 = some q2 → q2.seen.find? oddB = some m2 → m2 / 2 = q.num := fun e2 q2 m2 h2 hf2 => by
      obtain ⟨k1, j, k2⟩ := adFind_some hf2
      obtain ⟨g, q3, hg, _, hm3, hs3⟩ := h.owner h2 k2 (by omega)
      rw [hm3] at k1
      have := h.agree he hg (by omega) (by omega) ho (adMark_odd.1 k1)
      rw [hm3, adMark_half]; exact this.symm
    have hodd' : ∃ j m : Nat, q'.seen[j]? = some m ∧ m % 2 = 1 := by
      have hj : q.seen[q'.th]? = some (q.seen[q'.th]'(by have := (h.th f q' hf).1; omega)) := List.getElem?_eq_getElem _
      obtain ⟨y, hy⟩ : ∃ y, q.seen[q'.th]'(by have := (h.th f q' hf).1; omega) = y := ⟨_, rfl⟩
      rw [hy] at hj
      by_cases hy0 : y = 0
      · subst hy0
        have hj2 : q'.seen[q.th]? = some (q'.seen[q.th]'(by have := (h.th e q he).1; omega)) := List.getElem?_eq_getElem _
        have h1 := h.cross e f q q' he hf hj _ hj2
        have h2 := h.mark e q he
        rw [if_neg (by omega)] at h2
        refine ⟨_, _, hj2, ?_⟩
        rw [h1, h2]; exact adMark_odd.2 ho
      · have hodd2 := any_even hne hj hy0
        obtain ⟨g, q3, hg, ht3, hm3, _⟩ := h.owner he hj hy0
        have hgf := h.one g f q3 q' hg hf ht3
        subst hgf
        rw [hf] at hg; cases hg
        rw [hm3] at hodd2
        exact ⟨_, _, w1', hodd2⟩
    obtain ⟨j, m', hj', hm'⟩ := hodd'
    cases hfi' : q'.seen.find? oddB with
    | none => exact absurd hm' (adFind_none hfi' hj')
    | some m2 =>
      rw [(adRes_half q'.num m2 q'.seen hfi').1, g1, fst f q' m2 hf hfi', fst e q m he hfi]
/-- whose number is kept -/
theorem AdW.whose (h : AdW n ws pr O) {e : Nat} {q : AdQ} (he : O e = some q) : adRes q.num q.seen / 2 = q.num - 1 ∨ ∃ (f : Nat) (q' : AdQ) (j m : Nat), O f = some q' ∧ q'.th = j ∧ q.seen[j]? = some m ∧ m ≠ 0 ∧ adRes q.num q.seen / 2 = q'.num - 1 := by
  cases hfi : q.seen.find? oddB with
  | none => left; unfold adRes; rw [hfi]; simp only; omega
  | some m =>
    right
    obtain ⟨k1, j, k2⟩ := adFind_some hfi
    obtain ⟨g, q3, hg, ht3, hm3, hs3⟩ := h.owner he k2 (by omega)
    exact ⟨g, q3, j, m, hg, ht3, k2, by omega, by rw [(adRes_half q.num m q.seen hfi).1, hm3, adMark_half]⟩
/-- if all propose one number, all agree -/
theorem AdW.same (h : AdW n ws pr O) (hn : 1 ≤ n) {a e : Nat} {q : AdQ} (hall : ∀ f q', O f = some q' → q'.num = a + 1) (he : O e = some q) (hl : q.seen.length = n) : adRes q.num q.seen = 2 * a + 1 := by
  have hno : ∀ f q', O f = some q' → q'.oth = false := fun f q' hf => by
    cases ho : q'.oth with
    | false => rfl
    | true =>
      obtain ⟨g, q3, hg, hne⟩ := h.oth f q' hf ho
      rw [hall g q3 hg, hall f q' hf] at hne
      exact absurd rfl hne
  obtain ⟨w1, w2⟩ := h.own he hl hn
  cases hfi : q.seen.find? oddB with
  | none => exact absurd (adMark_odd.2 (hno e q he)) (adFind_none hfi w1)
  | some m =>
    obtain ⟨k1, j, k2⟩ := adFind_some hfi
    obtain ⟨g, q3, hg, ht3, hm3, hs3⟩ := h.owner he k2 (by omega)
    have hev : q.seen.any evenB = false := by
      cases hc : q.seen.any evenB with
      | false => rfl
      | true =>
        obtain ⟨x, hx, hxe⟩ := List.any_eq_true.1 hc
        obtain ⟨i, hi⟩ := List.mem_iff_getElem?.1 hx
        obtain ⟨x0, x1⟩ := of_decide_eq_true hxe
        obtain ⟨g2, q4, hg2, _, hm4, _⟩ := h.owner he hi x0
        rw [hm4] at x1
        exact absurd (adMark_odd.2 (hno g2 q4 hg2)) x1
    unfold adRes
    rw [hfi]
    simp only
    rw [hev, hm3, adMark_half, hall g q3 hg]
    simp
end
end Go.Proofs.Ytglpalomhhhmhaa
