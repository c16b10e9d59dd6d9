/- Lines, plainly: both readings are the same; what is read is written so; what is written is read so. -/
import Derived.Test.YthacohejdpjjeaaMA
namespace Go.Proofs.Ythacohejdpjjeaa

theorem isC_bad (c : Nat) (l : List Nat) : isC c (l, true) = false := by simp [isC]
theorem isC_elim {c : Nat} {s : PS} (h : isC c s = true) : ∃ r, s = (c :: r, false) := by
  obtain ⟨l, b⟩ := s
  cases b with
  | true => rw [isC_bad] at h; cases h
  | false =>
    cases l with
    | nil => simp [isC] at h
    | cons x r => simp [isC] at h; exact ⟨r, by rw [h]⟩
theorem isC_cons (c x : Nat) (r : List Nat) : isC c (x :: r, false) = decide (x = c) := by simp [isC]
theorem isC_nil (c : Nat) (b : Bool) : isC c ([], b) = false := by simp [isC]
theorem passP_bad (c : Nat) (l : List Nat) : passP c (l, true) = (l, true) := by simp [passP, isC_bad]
theorem passP_good {c : Nat} {s : PS} {r : List Nat} (h : passP c s = (r, false)) : s = (c :: r, false) := by
  unfold passP at h
  split at h
  · rename_i h1
    obtain ⟨t, rfl⟩ := isC_elim h1
    cases h; rfl
  · cases h
theorem passP_cons (c : Nat) (r : List Nat) : passP c (c :: r, false) = (r, false) := by simp [passP, isC_cons]
theorem passP_not {c : Nat} {s : PS} (h : isC c s = false) : passP c s = (s.1, true) := by simp [passP, h]
def dgt (l : List Nat) : Bool := (digO l).isSome
theorem dgt_cons (x : Nat) (r : List Nat) : dgt (x :: r) = decide (48 ≤ x ∧ x ≤ 57) := by
  unfold dgt digO
  by_cases h : 48 ≤ x ∧ x ≤ 57 <;> simp [h]
theorem isC_dgt {c : Nat} (hc : c < 48 ∨ 57 < c) (l : List Nat) (b : Bool) : isC c (l, b || dgt l) = isC c (l, b) := by
  cases l with
  | nil => rw [isC_nil, isC_nil]
  | cons x r =>
    by_cases h : 48 ≤ x ∧ x ≤ 57
    · have h2 : ¬ x = c := by omega
      rw [dgt_cons, decide_eq_true h, Bool.or_true, isC_bad]
      cases b with
      | true => rw [isC_bad]
      | false => rw [isC_cons, decide_eq_false h2]
    · rw [dgt_cons, decide_eq_false h, Bool.or_false]
theorem passP_dgt {c : Nat} (hc : c < 48 ∨ 57 < c) (l : List Nat) (b : Bool) : passP c (l, b || dgt l) = passP c (l, b) := by
  unfold passP
  rw [isC_dgt hc]
  split
  · rename_i h
    obtain ⟨r, h⟩ := isC_elim h
    cases h
    have : dgt (c :: r) = false := by rw [dgt_cons]; exact decide_eq_false (by omega)
    rw [this]
    rfl
  · rfl
/-- what the two readers make of a number -/
structure NumRel {α : Type} (q q' : α × PS) : Prop where
  v : q'.1 = q.1
  s : q'.2 = (q.2.1, q.2.2 || dgt q.2.1)
theorem NumRel.pass {α : Type} {q q' : α × PS} (h : NumRel q q') {c : Nat} (hc : c < 48 ∨ 57 < c) : passP c q'.2 = passP c q.2 := by rw [h.s, passP_dgt hc]
theorem NumRel.isC {α : Type} {q q' : α × PS} (h : NumRel q q') {c : Nat} (hc : c < 48 ∨ 57 < c) : Go.Proofs.Ythacohejdpjjeaa.isC c q'.2 = Go.Proofs.Ythacohejdpjjeaa.isC c q.2 := by rw [h.s, isC_dgt hc]

theorem eatP_len (m : Nat) : ∀ (l : List Nat) (x : Nat), (eatP m x l).2.length ≤ l.length
  | [], x => Nat.le_refl _
  | c :: r, x => by
    rw [eatP]
    split
    · have := eatP_len m r (10 * x + (c - 48))
      simp; omega
    · exact Nat.le_refl _
theorem eatR_eq (m : Nat) : ∀ (l : List Nat) (x : Nat), 0 < x → eatR m false x l = ((eatP m x l).1, (eatP m x l).2, dgt (eatP m x l).2)
  | [], x, _ => rfl
  | c :: r, x, h => by
    by_cases hd : 48 ≤ c ∧ c ≤ 57
    · by_cases hm : 10 * x + (c - 48) ≤ m
      · rw [eatR, if_pos hd, if_neg (by omega), eatP, if_pos ⟨hd.1, hd.2, hm⟩, eatR_eq m r _ (by omega)]
      · rw [eatR, if_pos hd, if_pos (by omega), eatP, if_neg (by omega), dgt_cons, decide_eq_true hd]
    · rw [eatR, if_neg hd, eatP, if_neg (by omega), dgt_cons, decide_eq_false hd]
theorem mag_rel {m : Nat} (hm : 9 ≤ m) (s : PS) : NumRel (magP m s) (magR m s) := by
  obtain ⟨l, b⟩ := s
  cases b with
  | true =>
    have e1 : magP m (l, true) = (0, (l, true)) := by simp [magP, isC_bad]
    have e2 : magR m (l, true) = (0, (l, true)) := by simp [magR]
    rw [e1, e2]
    exact ⟨rfl, by simp⟩
  | false =>
    cases l with
    | nil => exact ⟨by simp [magP, magR, eatP, eatR, isC_nil], by simp [magP, magR, eatP, eatR, isC_nil, dgt, digO]⟩
    | cons c r =>
      by_cases h0 : c = 48
      · subst h0
        have e1 : magP m (48 :: r, false) = (0, (r, false)) := by simp [magP, isC_cons]
        have e2 : magR m (48 :: r, false) = (0, (r, dgt r)) := by
          have e3 : eatR m true 0 (48 :: r) = eatR m false 0 r := by
            rw [eatR, if_pos (by omega), if_neg (by simp)]
          have e4 : eatR m false 0 r = (0, r, dgt r) := by
            cases r with
            | nil => rfl
            | cons c2 r2 =>
              by_cases hd : 48 ≤ c2 ∧ c2 ≤ 57
              · rw [eatR, if_pos hd, if_pos (Or.inl ⟨rfl, rfl⟩), dgt_cons, decide_eq_true hd]
              · rw [eatR, if_neg hd, dgt_cons, decide_eq_false hd]
          unfold magR
          rw [if_neg (by simp), e3, e4]
          simp
        rw [e1, e2]
        exact ⟨rfl, by simp⟩
      · have hi : isC 48 (c :: r, false) = false := by rw [isC_cons]; exact decide_eq_false h0
        by_cases hd : 48 ≤ c ∧ c ≤ 57
        · have e1 : eatP m 0 (c :: r) = eatP m (c - 48) r := by rw [eatP, if_pos (by omega), show 10 * 0 + (c - 48) = c - 48 by omega]
          have e2 : eatR m true 0 (c :: r) = eatR m false (c - 48) r := by rw [eatR, if_pos hd, if_neg (by simp; omega), show 10 * 0 + (c - 48) = c - 48 by omega]
          have e3 := eatR_eq m r (c - 48) (by omega)
          have e4 := eatP_len m r (c - 48)
          have e5 : ¬ (eatP m (c - 48) r).2.length = (c :: r).length := by simp; omega
          unfold magP magR
          simp only [hi, e1, e2, e3]
          refine ⟨by simp, ?_⟩
          simp only [Bool.false_eq_true, if_false, e5, decide_false, Bool.or_false, Bool.false_or]
        · have e1 : eatP m 0 (c :: r) = (0, c :: r) := by rw [eatP, if_neg (by omega)]
          have e2 : eatR m true 0 (c :: r) = (0, c :: r, false) := by rw [eatR, if_neg hd]
          unfold magP magR
          simp only [hi, e1, e2]
          exact ⟨by simp, by simp⟩
theorem isC0 (c : Nat) (r : List Nat) : isC c (r, false) = decide (r.head? = some c) := by simp [isC]
theorem digO_zero (l : List Nat) : decide (digO l = some 0) = decide (l.head? = some 48) := by
  cases l with
  | nil => simp [digO]
  | cons x r =>
    unfold digO
    by_cases h : x = 48
    · subst h; simp
    · have h2 : ¬ (x - 48 = 0 ∧ 48 ≤ x) := by omega
      by_cases h3 : 48 ≤ x ∧ x ≤ 57
      · have h4 : ¬ x - 48 = 0 := by omega
        simp [h3, h4, h]
      · simp [h3, h]
theorem intP_neg (r : List Nat) : intP (45 :: r, false) = if digO r = some 0 then (0, (r, true)) else (-((magP 9223372036854775808 (r, false)).1 : Int), (magP 9223372036854775808 (r, false)).2) := by
  unfold intP
  rw [if_pos (by rw [isC_cons]; simp)]
  rfl
theorem intP_pos {s : PS} (h : isC 45 s = false) : intP s = (((magP 9223372036854775807 s).1 : Int), (magP 9223372036854775807 s).2) := by
  unfold intP
  rw [if_neg (by rw [h]; simp)]
theorem intR_neg (r : List Nat) : intR (45 :: r, false) = if isC 48 (r, false) = true then (0, (r, true)) else (-((magR 9223372036854775808 (r, false)).1 : Int), (magR 9223372036854775808 (r, false)).2) := by
  unfold intR
  rw [if_pos (by rw [isC_cons]; simp)]
  rfl
theorem int_rel (s : PS) : NumRel (intP s) (intR s) := by
  by_cases h : isC 45 s = true
  · obtain ⟨r, rfl⟩ := isC_elim h
    rw [intP_neg, intR_neg]
    have h48 : isC 48 (r, false) = decide (digO r = some 0) := by rw [digO_zero, isC0]
    by_cases h0 : digO r = some 0
    · rw [if_pos h0, if_pos (by rw [h48]; exact decide_eq_true h0)]
      exact ⟨rfl, by simp⟩
    · rw [if_neg h0, if_neg (by rw [h48]; simp [h0])]
      have := mag_rel (m := 9223372036854775808) (by decide) (r, false)
      exact ⟨by show -((magR _ _).1 : Int) = -((magP _ _).1 : Int); rw [this.v], this.s⟩
  · rw [intP_pos (by simpa using h)]
    unfold intR
    rw [if_neg h]
    have := mag_rel (m := 9223372036854775807) (by decide) s
    exact ⟨by show ((magR _ _).1 : Int) = ((magP _ _).1 : Int); rw [this.v], this.s⟩
theorem word_rel (s : PS) : NumRel (wordP s) (wordR s) := mag_rel (by decide) s
theorem field_eq (s : PS) : fieldR s = fieldP s := by
  have h := int_rel s
  unfold fieldR fieldP
  rw [h.v, h.pass (by omega)]

/-- a reader of numbers: stopped, it goes no further; it goes further or stops -/
structure NumOk {α : Type} (p : PS → α × PS) : Prop where
  bad : ∀ l, (p (l, true)).2 = (l, true)
  less : ∀ l, (p (l, false)).2.2 = true ∨ (p (l, false)).2.1.length < l.length
theorem mag_ok (m : Nat) : NumOk (magP m) := by
  refine ⟨fun l => by simp [magP, isC_bad], fun l => ?_⟩
  unfold magP
  by_cases h : isC 48 (l, false) = true
  · rw [if_pos h]
    obtain ⟨r, e⟩ := isC_elim h
    cases e
    right; simp
  · rw [if_neg h, if_neg (by simp)]
    have := eatP_len m l 0
    by_cases h2 : (eatP m 0 l).2.length = l.length
    · left; simp [h2]
    · right
      show (eatP m 0 l).2.length < l.length
      omega
theorem word_ok : NumOk wordP := mag_ok _
theorem int_ok : NumOk intP := by
  refine ⟨fun l => by rw [intP_pos (isC_bad _ _)]; exact (mag_ok 9223372036854775807).bad l, fun l => ?_⟩
  by_cases h : isC 45 (l, false) = true
  · obtain ⟨r, e⟩ := isC_elim h
    cases e
    rw [intP_neg]
    split
    · left; rfl
    · rcases (mag_ok 9223372036854775808).less r with h | h
      · left; exact h
      · right; simp only [List.length_cons]; omega
  · rw [intP_pos (by simpa using h)]
    exact (mag_ok 9223372036854775807).less l

theorem sepR_bad {α : Type} {acc : List α} {s : PS} (h : (sepR acc s).2 = true) : sepR acc s = (s.1, true) := by
  unfold sepR at h ⊢
  split at h
  · rename_i h1
    rw [if_pos h1]
    unfold passP at h ⊢
    split at h
    · rename_i h2
      obtain ⟨r, rfl⟩ := isC_elim h2
      cases h
    · rename_i h2
      rw [if_neg h2]
  · rename_i h1
    rw [if_neg h1, ← h]
theorem sepR_false {α : Type} {acc : List α} {s : PS} (h : (sepR acc s).2 = false) : s.2 = false := by
  unfold sepR at h
  split at h
  · obtain ⟨l, b⟩ := s
    cases b with
    | true => rw [passP_bad] at h; cases h
    | false => rfl
  · exact h
theorem loopR_bad {α : Type} {q : PS → α × PS} {s : PS} (h : s.2 = true) : ∀ (f : Nat) (acc : List α), (loopR q f acc s).2 = s
  | 0, _ => rfl
  | f + 1, acc => by rw [loopR, if_pos (Or.inr h)]
theorem loopR_stop {α : Type} {q : PS → α × PS} {s : PS} (h : isC 93 s = true) : ∀ (f : Nat) (acc : List α), loopR q f acc s = (acc, s)
  | 0, _ => rfl
  | f + 1, acc => by rw [loopR, if_pos (Or.inl h)]
theorem loop_eq {α : Type} {p q : PS → α × PS} (hr : ∀ s, NumRel (p s) (q s)) (ho : NumOk p) : ∀ (f : Nat) (acc : List α) (s : PS), isC 93 s = false → ((sepR acc s).2 = true ∨ (sepR acc s).1.length < f) →
    (loopP p f acc (sepR acc s)).2 = passP 93 (loopR q f acc s).2 ∧ ((loopP p f acc (sepR acc s)).2.2 = false → (loopP p f acc (sepR acc s)).1 = some (loopR q f acc s).1)
  | 0, acc, s, h93, hf => by
    have hb : (sepR acc s).2 = true := by
      rcases hf with h | h
      · exact h
      · omega
    have e := sepR_bad hb
    simp only [loopP, loopR]
    rw [passP_not h93, e]
    exact ⟨rfl, fun h => by cases h⟩
  | f + 1, acc, s, h93, hf => by
    by_cases hb : (sepR acc s).2 = true
    · have e := sepR_bad hb
      have e2 : (loopR q (f + 1) acc s).2 = (s.1, true) ∨ (loopR q (f + 1) acc s).2 = s := by
        rw [loopR]
        split
        · exact Or.inr rfl
        · have hq : (q (sepR acc s)).2 = (s.1, true) := by
            rw [e, (hr _).s, ho.bad]; simp
          rw [hq]
          exact Or.inl (loopR_bad rfl _ _)
      have e3 : passP 93 (loopR q (f + 1) acc s).2 = (s.1, true) := by
        rcases e2 with e2 | e2
        · rw [e2, passP_bad]
        · rw [e2, passP_not h93]
      rw [e3, loopP, if_pos hb, e]
      exact ⟨rfl, fun h => by cases h⟩
    · have hb' : (sepR acc s).2 = false := by simpa using hb
      have hs : s.2 = false := sepR_false hb'
      have hlt : (sepR acc s).1.length < f + 1 := by
        rcases hf with h | h
        · exact absurd h hb
        · exact h
      have hR : loopR q (f + 1) acc s = loopR q f (acc ++ [(q (sepR acc s)).1]) (q (sepR acc s)).2 := by
        rw [loopR, if_neg (by rw [h93, hs]; simp)]
      have hrel := hr (sepR acc s)
      have hl := ho.less (sepR acc s).1
      have et : ((sepR acc s).1, false) = sepR acc s := by rw [← hb']
      rw [et] at hl
      generalize sepR acc s = t at hb hb' hlt hR hrel hl ⊢
      rw [hR, hrel.v]
      by_cases h9 : isC 93 (p t).2 = true
      · rw [loopP, if_neg hb, if_pos h9]
        have h9' : isC 93 (q t).2 = true := by rw [hrel.isC (by omega)]; exact h9
        rw [loopR_stop h9']
        obtain ⟨r, e⟩ := isC_elim h9
        have e2 : (q t).2 = (93 :: r, false) := by
          rw [hrel.s, e]
          have : dgt (93 :: r) = false := by rw [dgt_cons]; exact decide_eq_false (by omega)
          simp only [this, Bool.or_false]
        rw [e2, e, passP_cons]
        exact ⟨rfl, fun _ => rfl⟩
      · rw [loopP, if_neg hb, if_neg h9]
        have e1 : sepR (acc ++ [(p t).1]) (q t).2 = passP 32 (p t).2 := by
          unfold sepR
          rw [if_pos (by simp), hrel.pass (by omega)]
        have := loop_eq hr ho f (acc ++ [(p t).1]) (q t).2 (by rw [hrel.isC (by omega)]; simpa using h9) (by
          rw [e1]
          by_cases h2 : (passP 32 (p t).2).2 = true
          · exact Or.inl h2
          · right
            obtain ⟨u, hu⟩ : ∃ u, passP 32 (p t).2 = (u, false) := ⟨(passP 32 (p t).2).1, by
              have : (passP 32 (p t).2).2 = false := by simpa using h2
              rw [← this]⟩
            have hp := passP_good hu
            rw [hu]
            rw [hp] at hl
            rcases hl with hl | hl
            · cases hl
            · simp at hl; simp; omega)
        rw [e1] at this
        exact this
theorem list_eq {α : Type} {p q : PS → α × PS} (hr : ∀ s, NumRel (p s) (q s)) (ho : NumOk p) (s : PS) : (listR q s).2 = (listP p s).2 ∧ ((listP p s).2.2 = false → (listP p s).1 = some (listR q s).1) := by
  unfold listP listR
  by_cases h : isC 93 (passP 91 s) = true
  · rw [if_pos h, loopR_stop h]
    obtain ⟨r, e⟩ := isC_elim h
    rw [e, passP_cons]
    exact ⟨rfl, fun _ => rfl⟩
  · rw [if_neg h]
    have := loop_eq hr ho ((passP 91 s).1.length + 1) [] (passP 91 s) (by simpa using h) (Or.inr (by simp [sepR]))
    have e : sepR ([] : List α) (passP 91 s) = passP 91 s := by simp [sepR]
    rw [e] at this
    exact ⟨this.1.symm, this.2⟩
theorem list_bad {α : Type} (p : PS → α × PS) (l : List Nat) : (listP p (l, true)).2 = (l, true) := by
  unfold listP
  rw [passP_bad, if_neg (by rw [isC_bad]; simp), loopP, if_pos rfl]

theorem s1_eq (L : List Nat) : s1R L = s1P L := field_eq _
theorem s2_eq (L : List Nat) : s2R L = s2P L := by unfold s2R s2P; rw [s1_eq]; exact field_eq _
theorem s3_eq (L : List Nat) : s3R L = s3P L := by unfold s3R s3P; rw [s2_eq]; exact field_eq _
theorem s4_eq (L : List Nat) : s4R L = s4P L := by unfold s4R s4P; rw [s3_eq]; exact field_eq _
theorem s5_eq (L : List Nat) : s5R L = s5P L := by unfold s5R s5P; rw [s4_eq]; exact field_eq _
theorem s6_rel (L : List Nat) : NumRel (s6P L) (s6R L) := by unfold s6R s6P; rw [s5_eq]; exact word_rel _
theorem s7_eq (L : List Nat) : (s7R L).2 = (s7P L).2 ∧ ((s7P L).2.2 = false → (s7P L).1 = some (s7R L).1) := by
  unfold s7R s7P; rw [(s6_rel L).pass (by omega)]; exact list_eq word_rel word_ok _
theorem s8_eq (L : List Nat) : (s8R L).2 = (s8P L).2 ∧ ((s8P L).2.2 = false → (s8P L).1 = some (s8R L).1) := by
  unfold s8R s8P; rw [(s7_eq L).1]; exact list_eq int_rel int_ok _
theorem okP_end {L : List Nat} (h : okP L = true) : endP L = ([], false) := by
  unfold okP at h
  generalize endP L = q at h ⊢
  obtain ⟨l, b⟩ := q
  cases b with
  | true => simp at h
  | false =>
    cases l with
    | nil => rfl
    | cons x r => simp at h
theorem okP_s7 {L : List Nat} (h : okP L = true) : (s7P L).2.2 = false := by
  cases hb : (s7P L).2.2 with
  | false => rfl
  | true =>
    have e := okP_end h
    have e2 : (s7P L).2 = ((s7P L).2.1, true) := by rw [← hb]
    unfold endP s8P at e
    rw [e2, passP_bad, list_bad] at e
    exact absurd (congrArg Prod.snd e) (by simp)
/-- the event that the document's answer tells -/
def evR (L : List Nat) : EvX := ⟨(s1R L).1, (s2R L).1, (s3R L).1, (s4R L).1, (s5R L).1, (s6R L).1, (s7R L).1, (s8R L).1⟩
theorem evR_eq {L : List Nat} (h : okP L = true) : evR L = evP L := by
  unfold evR evP
  rw [s1_eq, s2_eq, s3_eq, s4_eq, s5_eq, (s6_rel L).v, (s7_eq L).2 (okP_s7 h), (s8_eq L).2 (by have := okP_end h; unfold endP at this; rw [this])]
  rfl
end Go.Proofs.Ythacohejdpjjeaa
