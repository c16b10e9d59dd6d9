/- Lines, plainly: what is read is written so; what is written is read so. -/
import Derived.Test.YthacohejdpjjeaaMB
namespace Go.Proofs.Ythacohejdpjjeaa

/-! what is read is written so -/
theorem eat_good {m : Nat} (hm : m < 100000000000000000000) : ∀ (l : List Nat) (x : Nat), 0 < x → x ≤ m → digs x ++ l = digs (eatP m x l).1 ++ (eatP m x l).2 ∧ (eatP m x l).1 ≤ m ∧ 0 < (eatP m x l).1
  | [], x, h0, hx => ⟨rfl, hx, h0⟩
  | c :: r, x, h0, hx => by
    rw [eatP]
    split
    · rename_i h
      have := eat_good hm r (10 * x + (c - 48)) (by omega) h.2.2
      refine ⟨?_, this.2⟩
      rw [← this.1, digs_snoc h0 (by omega) (by omega), show 48 + (c - 48) = c by omega, List.append_assoc]
      rfl
    · exact ⟨rfl, hx, h0⟩
theorem mag_good {m : Nat} (hm : m < 100000000000000000000) (h9 : 9 ≤ m) {s : PS} {r : List Nat} (h : (magP m s).2 = (r, false)) : s = (digs (magP m s).1 ++ r, false) ∧ (magP m s).1 ≤ m := by
  obtain ⟨l, b⟩ := s
  cases b with
  | true => rw [(mag_ok m).bad] at h; cases h
  | false =>
    unfold magP at h ⊢
    by_cases h0 : isC 48 (l, false) = true
    · rw [if_pos h0] at h ⊢
      obtain ⟨t, e⟩ := isC_elim h0
      cases e
      cases h
      exact ⟨by show _ = (digs 0 ++ t, false); rw [digs_lo (by decide)]; rfl, Nat.zero_le _⟩
    · rw [if_neg h0, if_neg (by simp)] at h ⊢
      simp only [Prod.mk.injEq, decide_eq_false_iff_not] at h
      obtain ⟨rfl, h2⟩ := h
      cases l with
      | nil => exact absurd rfl h2
      | cons c t =>
        have hc : ¬ c = 48 := by rw [isC_cons] at h0; simpa using h0
        by_cases hd : 48 ≤ c ∧ c ≤ 57
        · have e : eatP m 0 (c :: t) = eatP m (c - 48) t := by rw [eatP, if_pos (by omega), show 10 * 0 + (c - 48) = c - 48 by omega]
          have := eat_good hm t (c - 48) (by omega) (by omega)
          rw [e]
          refine ⟨?_, this.2.1⟩
          rw [← this.1, digs_lo (by omega), show 48 + (c - 48) = c by omega]
          rfl
        · exact absurd (by rw [eatP, if_neg (by omega)]) h2
theorem word_good {s : PS} {r : List Nat} (h : (wordP s).2 = (r, false)) : s = (digs (wordP s).1 ++ r, false) ∧ (wordP s).1 < 18446744073709551616 := by
  obtain ⟨h1, h2⟩ := mag_good (by decide) (by decide) h
  exact ⟨h1, Nat.lt_succ_of_le h2⟩
theorem int_good {s : PS} {r : List Nat} (h : (intP s).2 = (r, false)) : s = (digI (intP s).1 ++ r, false) ∧ I63 (intP s).1 := by
  by_cases h0 : isC 45 s = true
  · obtain ⟨t, rfl⟩ := isC_elim h0
    rw [intP_neg] at h ⊢
    by_cases hz : digO t = some 0
    · rw [if_pos hz] at h; cases h
    · rw [if_neg hz] at h ⊢
      simp only at h ⊢
      obtain ⟨h1, h2⟩ := mag_good (by decide) (by decide) h
      generalize (magP 9223372036854775808 (t, false)).1 = x at h1 h2 ⊢
      have hx : 0 < x := by
        rcases Nat.eq_zero_or_pos x with rfl | h3
        · rw [digs_lo (by decide)] at h1
          cases h1
          exact absurd rfl hz
        · exact h3
      refine ⟨?_, by constructor <;> omega⟩
      rw [digI, if_pos (by omega), show (-(x : Int)).natAbs = x by omega, List.cons_append, ← show t = digs x ++ r from congrArg Prod.fst h1]
  · rw [intP_pos (by simpa using h0)] at h ⊢
    obtain ⟨h1, h2⟩ := mag_good (by decide) (by decide) h
    generalize (magP 9223372036854775807 s).1 = x at h1 h2 ⊢
    refine ⟨?_, by constructor <;> simp only <;> omega⟩
    simp only
    rw [digI, if_neg (by omega), show ((x : Int)).natAbs = x by omega]
    exact h1
theorem field_good {s : PS} {r : List Nat} (h : (fieldP s).2 = (r, false)) : s = (digI (fieldP s).1 ++ 32 :: r, false) ∧ I63 (fieldP s).1 := int_good (passP_good h)
theorem loop_good {α : Type} {nx : PS → α × PS} {pr : α → List Nat} {Q : α → Prop} (hg : ∀ s r, (nx s).2 = (r, false) → s = (pr (nx s).1 ++ r, false) ∧ Q (nx s).1) :
    ∀ (f : Nat) (acc : List α) (s : PS) (r : List Nat), (loopP nx f acc s).2 = (r, false) → ∃ x more, (loopP nx f acc s).1 = some (acc ++ x :: more) ∧ s = (numsF pr true (x :: more) ++ 93 :: r, false) ∧ ∀ y ∈ x :: more, Q y
  | 0, acc, s, r, h => by
    simp only [loopP] at h
    cases h
  | f + 1, acc, s, r, h => by
    by_cases hb : s.2 = true
    · rw [loopP, if_pos hb] at h
      simp only at h
      rw [h] at hb; cases hb
    · rw [loopP, if_neg hb] at h ⊢
      by_cases h9 : isC 93 (nx s).2 = true
      · rw [if_pos h9] at h ⊢
        obtain ⟨t, e⟩ := isC_elim h9
        rw [e] at h
        cases h
        obtain ⟨h1, h2⟩ := hg s _ e
        refine ⟨(nx s).1, [], rfl, ?_, fun y hy => by simp at hy; rw [hy]; exact h2⟩
        exact h1.trans (by simp [numsF])
      · rw [if_neg h9] at h ⊢
        obtain ⟨x, more, h1, h2, h3⟩ := loop_good hg f _ _ r h
        have e := passP_good h2
        obtain ⟨h4, h5⟩ := hg s _ e
        refine ⟨(nx s).1, x :: more, by rw [h1]; simp, ?_, fun y hy => ?_⟩
        · exact h4.trans (by simp [numsF])
        · rcases List.mem_cons.1 hy with rfl | hy
          · exact h5
          · exact h3 y hy
theorem list_good {α : Type} {nx : PS → α × PS} {pr : α → List Nat} {Q : α → Prop} (hg : ∀ s r, (nx s).2 = (r, false) → s = (pr (nx s).1 ++ r, false) ∧ Q (nx s).1) {s : PS} {r : List Nat} (h : (listP nx s).2 = (r, false)) :
    s = (listL pr ((listP nx s).1.getD []) ++ r, false) ∧ ∀ y ∈ (listP nx s).1.getD [], Q y := by
  unfold listP at h ⊢
  by_cases h9 : isC 93 (passP 91 s) = true
  · rw [if_pos h9] at h ⊢
    obtain ⟨t, e⟩ := isC_elim h9
    rw [e] at h
    cases h
    have := passP_good e
    exact ⟨by rw [this]; simp [listL, numsF], fun y hy => by simp at hy⟩
  · rw [if_neg h9] at h ⊢
    obtain ⟨x, more, h1, h2, h3⟩ := loop_good hg _ _ _ r h
    have := passP_good h2
    rw [h1]
    refine ⟨?_, by simpa using h3⟩
    rw [this]
    simp [listL]
/-- WHAT IS READ IS WRITTEN SO -/
theorem read_good {L : List Nat} (h : okP L = true) : L = evLine (evP L) ∧ (evP L).Ok := by
  have h8 := okP_end h
  unfold endP s8P at h8
  obtain ⟨e8, q8⟩ := list_good (pr := digI) (Q := I63) (fun s r => int_good) h8
  have e7 := passP_good e8
  unfold s7P at e7
  obtain ⟨e7, q7⟩ := list_good (pr := digs) (Q := fun x => x < 18446744073709551616) (fun s r => word_good) e7
  have e6 := passP_good e7
  unfold s6P at e6
  obtain ⟨e6, q6⟩ := word_good e6
  unfold s5P at e6
  obtain ⟨e5, q5⟩ := field_good e6
  unfold s4P at e5
  obtain ⟨e4, q4⟩ := field_good e5
  unfold s3P at e4
  obtain ⟨e3, q3⟩ := field_good e4
  unfold s2P at e3
  obtain ⟨e2, q2⟩ := field_good e3
  unfold s1P at e2
  obtain ⟨e1, q1⟩ := field_good e2
  refine ⟨?_, ⟨q1, q2, q3, q4, q5, q6, q7, q8⟩⟩
  have := congrArg Prod.fst e1
  simp only at this
  refine this.trans ?_
  show _ = evLine ⟨(s1P L).1, (s2P L).1, (s3P L).1, (s4P L).1, (s5P L).1, (s6P L).1, (s7P L).1.getD [], (s8P L).1.getD []⟩
  unfold evLine s8P s7P s6P s5P s4P s3P s2P s1P
  simp [numsF]

/-! what is written is read so -/
theorem eat_go {m : Nat} (hm : m < 100000000000000000000) : ∀ (n y : Nat), y ≤ n → 0 < y → y ≤ m → ∀ t, eatP m 0 (digs y ++ t) = eatP m y t
  | 0, y, h, h0, _, _ => by omega
  | n + 1, y, h, h0, hy, t => by
    by_cases h1 : y < 10
    · rw [digs_lo h1]
      show eatP m 0 ((48 + y) :: t) = _
      rw [eatP, if_pos (by omega), show 10 * 0 + (48 + y - 48) = y by omega]
    · rw [digs_hi (by omega) (by omega), List.append_assoc, eat_go hm n (y / 10) (by omega) (by omega) (by omega)]
      show eatP m (y / 10) ((48 + y % 10) :: t) = _
      rw [eatP, if_pos (by omega), show 10 * (y / 10) + (48 + y % 10 - 48) = y by omega]
theorem eat_stop {m x : Nat} {r : List Nat} (h : dgt r = false) : eatP m x r = (x, r) := by
  cases r with
  | nil => rfl
  | cons c t =>
    rw [dgt_cons, decide_eq_false_iff_not] at h
    rw [eatP, if_neg (by omega)]
theorem digs_ne (x : Nat) : 0 < (digs x).length := by
  unfold digs
  rw [List.length_reverse, rdg]
  simp
theorem mag_back {m x : Nat} (hm : m < 100000000000000000000) (hx : x ≤ m) {r : List Nat} (hr : dgt r = false) : magP m (digs x ++ r, false) = (x, (r, false)) := by
  rcases Nat.eq_zero_or_pos x with rfl | h0
  · rw [digs_lo (by decide)]
    show magP m (48 :: r, false) = _
    simp [magP, isC_cons]
  · obtain ⟨d, t, e, h1, h2⟩ := digs_head x x (Nat.le_refl _) h0 (by omega)
    have h3 : isC 48 (digs x ++ r, false) = false := by
      rw [e, List.cons_append, isC_cons]
      exact decide_eq_false (by omega)
    have h4 : eatP m 0 (digs x ++ r) = (x, r) := by rw [eat_go hm x x (Nat.le_refl _) h0 hx, eat_stop hr]
    have h5 := digs_ne x
    unfold magP
    rw [h3, if_neg (by simp), if_neg (by simp), h4]
    simp only [List.length_append]
    rw [decide_eq_false (by omega)]
theorem digO_digs {x : Nat} (h0 : 0 < x) (hx : x < 100000000000000000000) (r : List Nat) : digO (digs x ++ r) ≠ some 0 := by
  obtain ⟨d, t, e, h1, h2⟩ := digs_head x x (Nat.le_refl _) h0 hx
  rw [e]
  show digO ((48 + d) :: (t ++ r)) ≠ _
  unfold digO
  simp only
  split
  · intro h
    have := Option.some.inj h
    omega
  · simp
theorem int_back {z : Int} (hz : I63 z) {r : List Nat} (hr : dgt r = false) : intP (digI z ++ r, false) = (z, (r, false)) := by
  obtain ⟨h1, h2⟩ := hz
  by_cases h0 : z < 0
  · rw [digI, if_pos h0, List.cons_append, intP_neg, if_neg (digO_digs (by omega) (by omega) r), mag_back (by decide) (by omega) hr]
    simp only [Prod.mk.injEq, and_true]
    omega
  · have h3 : isC 45 (digs z.natAbs ++ r, false) = false := by
      rcases Nat.eq_zero_or_pos z.natAbs with h4 | h4
      · rw [h4, digs_lo (by decide)]; rfl
      · obtain ⟨d, t, e, h5, h6⟩ := digs_head z.natAbs z.natAbs (Nat.le_refl _) h4 (by omega)
        rw [e, List.cons_append, isC_cons]
        exact decide_eq_false (by omega)
    rw [digI, if_neg h0, intP_pos h3, mag_back (by decide) (by omega) hr]
    simp only [Prod.mk.injEq, and_true]
    omega
theorem word_back {x : Nat} (hx : x < 18446744073709551616) {r : List Nat} (hr : dgt r = false) : wordP (digs x ++ r, false) = (x, (r, false)) := mag_back (by decide) (by omega) hr
theorem field_back {z : Int} (hz : I63 z) (r : List Nat) : fieldP (digI z ++ 32 :: r, false) = (z, (r, false)) := by
  unfold fieldP
  rw [int_back hz (by rw [dgt_cons]; rfl), passP_cons]
theorem loop_back {α : Type} {nx : PS → α × PS} {pr : α → List Nat} {Q : α → Prop} (hn : ∀ x r, Q x → dgt r = false → nx (pr x ++ r, false) = (x, (r, false))) (r : List Nat) :
    ∀ (l : List α) (f : Nat) (acc : List α), 0 < l.length → l.length ≤ f → (∀ x ∈ l, Q x) → loopP nx f acc (numsF pr true l ++ 93 :: r, false) = (some (acc ++ l), (r, false))
  | [], f, acc, h, _, _ => by simp at h
  | [x], 0, acc, _, h, _ => by simp at h
  | [x], f + 1, acc, _, _, hq => by
    have e : numsF pr true [x] ++ 93 :: r = pr x ++ 93 :: r := by simp [numsF]
    rw [e, loopP, if_neg (by simp), hn x _ (hq x (by simp)) (by rw [dgt_cons]; rfl), if_pos (by rw [isC_cons]; simp)]
    simp
  | x :: y :: l, 0, acc, _, h, _ => by simp at h
  | x :: y :: l, f + 1, acc, _, h, hq => by
    have e : numsF pr true (x :: y :: l) ++ 93 :: r = pr x ++ 32 :: (numsF pr true (y :: l) ++ 93 :: r) := by simp [numsF]
    have ih := loop_back hn r (y :: l) f (acc ++ [x]) (by simp) (by simp at h ⊢; omega) (fun z hz => hq z (by simp at hz ⊢; right; exact hz))
    rw [e, loopP, if_neg (by simp), hn x _ (hq x (by simp)) (by rw [dgt_cons]; rfl), if_neg (by rw [isC_cons]; simp), passP_cons, ih]
    simp
theorem numsF_ge {α : Type} {pr : α → List Nat} (hp : ∀ x, 0 < (pr x).length) : ∀ (b : Bool) (l : List α), l.length ≤ (numsF pr b l).length
  | _, [] => Nat.zero_le _
  | b, x :: l => by
    have := numsF_ge hp false l
    have := hp x
    rw [numsF, List.length_append, List.length_append, List.length_cons]
    omega
theorem list_back {α : Type} {nx : PS → α × PS} {pr : α → List Nat} {Q : α → Prop} (hn : ∀ x r, Q x → dgt r = false → nx (pr x ++ r, false) = (x, (r, false))) (hp : ∀ x, ∃ c t, pr x = c :: t ∧ c ≠ 93) (l : List α) (hq : ∀ x ∈ l, Q x) (r : List Nat) :
    listP nx (listL pr l ++ r, false) = (some l, (r, false)) := by
  unfold listP listL
  rw [List.cons_append, passP_cons, List.append_assoc]
  cases l with
  | nil => rw [if_pos (by simp [numsF, isC_cons])]; rfl
  | cons x l =>
    obtain ⟨c, t, e, h1⟩ := hp x
    rw [if_neg (by simp [numsF, e, isC_cons, h1])]
    have hge := numsF_ge (pr := pr) (fun x => by obtain ⟨c, t, e, _⟩ := hp x; rw [e]; simp) true (x :: l)
    have := loop_back hn r (x :: l) ((numsF pr true (x :: l) ++ ([93] ++ r), false).1.length + 1) [] (by simp) (by simp only [List.length_append, List.length_cons] at hge ⊢; omega) hq
    exact this
theorem digs_not93 (x : Nat) : ∃ c t, digs x = c :: t ∧ c ≠ 93 := by
  have h1 := digs_ne x
  cases h : digs x with
  | nil => rw [h] at h1; simp at h1
  | cons c t =>
    refine ⟨c, t, rfl, ?_⟩
    have := rdg_b 20 x c (by have : c ∈ digs x := by rw [h]; simp
                             simpa [digs] using this)
    omega
theorem digI_not93 (x : Int) : ∃ c t, digI x = c :: t ∧ c ≠ 93 := by
  unfold digI
  split
  · exact ⟨45, _, rfl, by decide⟩
  · exact digs_not93 _
/-- WHAT IS WRITTEN IS READ SO -/
theorem written_good {e : EvX} (h : e.Ok) : okP (evLine e) = true ∧ evP (evLine e) = e := by
  obtain ⟨ca, iv, rs, st, er, vl, lw, kw⟩ := e
  obtain ⟨h1, h2, h3, h4, h5, h6, h7, h8⟩ := h
  simp only at h1 h2 h3 h4 h5 h6 h7 h8
  have e0 : evLine ⟨ca, iv, rs, st, er, vl, lw, kw⟩ = digI ca ++ 32 :: (digI iv ++ 32 :: (digI rs ++ 32 :: (digI st ++ 32 :: (digI er ++ 32 :: (digs vl ++ 32 :: (listL digs lw ++ 32 :: (listL digI kw ++ []))))))) := by
    simp [evLine, numsF]
  generalize evLine ⟨ca, iv, rs, st, er, vl, lw, kw⟩ = L at e0 ⊢
  have f1 : s1P L = (ca, (digI iv ++ 32 :: (digI rs ++ 32 :: (digI st ++ 32 :: (digI er ++ 32 :: (digs vl ++ 32 :: (listL digs lw ++ 32 :: (listL digI kw ++ [])))))), false)) := by unfold s1P; rw [e0, field_back h1]
  have f2 : s2P L = (iv, (digI rs ++ 32 :: (digI st ++ 32 :: (digI er ++ 32 :: (digs vl ++ 32 :: (listL digs lw ++ 32 :: (listL digI kw ++ []))))), false)) := by unfold s2P; rw [f1, field_back h2]
  have f3 : s3P L = (rs, (digI st ++ 32 :: (digI er ++ 32 :: (digs vl ++ 32 :: (listL digs lw ++ 32 :: (listL digI kw ++ [])))), false)) := by unfold s3P; rw [f2, field_back h3]
  have f4 : s4P L = (st, (digI er ++ 32 :: (digs vl ++ 32 :: (listL digs lw ++ 32 :: (listL digI kw ++ []))), false)) := by unfold s4P; rw [f3, field_back h4]
  have f5 : s5P L = (er, (digs vl ++ 32 :: (listL digs lw ++ 32 :: (listL digI kw ++ [])), false)) := by unfold s5P; rw [f4, field_back h5]
  have f6 : s6P L = (vl, (32 :: (listL digs lw ++ 32 :: (listL digI kw ++ [])), false)) := by unfold s6P; rw [f5, word_back h6 (by rw [dgt_cons]; rfl)]
  have f7 : s7P L = (some lw, (32 :: (listL digI kw ++ []), false)) := by unfold s7P; rw [f6, passP_cons, list_back (Q := fun x => x < 18446744073709551616) (fun x r hx hr => word_back hx hr) digs_not93 lw h7]
  have f8 : s8P L = (some kw, ([], false)) := by unfold s8P; rw [f7, passP_cons, list_back (Q := I63) (fun x r hx hr => int_back hx hr) digI_not93 kw h8]
  refine ⟨?_, ?_⟩
  · unfold okP endP; rw [f8]; rfl
  · unfold evP; rw [f1, f2, f3, f4, f5, f6, f7, f8]; rfl
theorem evLine_inj {a b : EvX} (ha : a.Ok) (hb : b.Ok) (h : evLine a = evLine b) : a = b := by
  rw [← (written_good ha).2, h, (written_good hb).2]
end Go.Proofs.Ythacohejdpjjeaa
