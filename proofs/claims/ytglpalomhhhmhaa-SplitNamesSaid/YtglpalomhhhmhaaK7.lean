/- Over any program: of a region that draws its order, the first operations in whatever order, held; and then its tail, each operation of which waits for all ahead of it, one by one. -/
import Derived.Test.YtglpalomhhhmhaaK3
import Derived.Deep.RegionHeld3
namespace Go.Proofs.Ytglpalomhhhmhaa
open Go.RowKit
section
variable {P : Program} {Q : Exit → Act → World → Prop} {md : Region.Mode}
/-- behind the first operations: the tail -/
def tailQ (P : Program) (ops : Array Oper) (Q : Exit → Act → World → Prop) (tail : List Oper) : Exit → Act → World → Prop
  | .normal, a, w => wpList P ops Q tail a w
  | .ret, a, w => Q .ret a w
  | .panic c, a, w => Q (.panic c) a w
  | .outgrown, a, w => Q .outgrown a w
  | e, a, w => Q e a w
theorem tail_upon {o : Oper} {ops : Array Oper} {tail : List Oper} {a : Act} {K : Act → World → Prop} {r : Result Next} (h : o.upon P a K (tailQ P ops Q tail) r) : o.upon P a K Q r := by
  cases r with
  | ok n w' =>
    cases n with
    | value v => exact h
    | skip => exact h
    | defer d => exact h
    | enter f args => exact Calls.mono h (fun e w'' he => by cases e <;> exact he)
    | row row args => exact h
    | _ => exact h
  | halt x w' => cases x <;> exact h
theorem tail_op {o : Oper} {ops : Array Oper} {tail : List Oper} {a : Act} {w : World} {K : Act → World → Prop} (h : o.wp P a w K (tailQ P ops Q tail)) : o.wp P a w K Q := tail_upon h
theorem wanted_none {o : Oper} (h : o.guard = none) (l : Nat → Option Bool) : Region.wanted o l = true := by simp [Region.wanted, h]
/-- each operation waits for ones ahead of it only; from n on for all ahead of it; none is guarded -/
def tailB (md : Region.Mode) (l : List Oper) (n : Nat) : Bool :=
  l.all (fun o => o.guard.isNone) && decide (n ≤ l.length) &&
  (List.range l.length).all (fun j => match l[j]? with
    | none => true
    | some o => o.after.all (fun e => !Region.binds md e || decide (e.on < j)) && (decide (j < n) || (List.range j).all (fun i => decide (n ≤ i ∧ i + 1 < j) || o.after.any (fun e => Region.binds md e && e.on == i))))
structure TailOk (md : Region.Mode) (l : List Oper) (n : Nat) : Prop where
  guard : ∀ (j : Nat) (o : Oper), l[j]? = some o → o.guard = none
  le : n ≤ l.length
  back : ∀ (j : Nat) (o : Oper), l[j]? = some o → ∀ e ∈ o.after, Region.binds md e = true → e.on < j
  wait : ∀ (j : Nat) (o : Oper), l[j]? = some o → n ≤ j → ∀ i, i < j → (i < n ∨ i + 1 = j) → ∃ e ∈ o.after, Region.binds md e = true ∧ e.on = i
theorem tailB_ok {l : List Oper} {n : Nat} (h : tailB md l n = true) : TailOk md l n := by
  unfold tailB at h
  rw [Bool.and_eq_true, Bool.and_eq_true] at h
  obtain ⟨⟨h1, h2⟩, h3⟩ := h
  rw [List.all_eq_true] at h1 h3
  have key : ∀ (j : Nat) (o : Oper), l[j]? = some o → (o.after.all (fun e => !Region.binds md e || decide (e.on < j)) && (decide (j < n) || (List.range j).all (fun i => decide (n ≤ i ∧ i + 1 < j) || o.after.any (fun e => Region.binds md e && e.on == i)))) = true := fun j o ho => by
    have := h3 j (List.mem_range.2 (List.getElem?_eq_some_iff.1 ho).1)
    rw [ho] at this; exact this
  refine ⟨fun j o ho => ?_, of_decide_eq_true h2, fun j o ho e he hb => ?_, fun j o ho hj i hi hor => ?_⟩
  · have := h1 o (List.mem_of_getElem? ho)
    exact Option.isNone_iff_eq_none.1 this
  · have := key j o ho
    rw [Bool.and_eq_true] at this
    have h4 := (Array.all_eq_true_iff_forall_mem.1 this.1) e he
    rw [hb] at h4
    simpa using h4
  · have := key j o ho
    rw [Bool.and_eq_true, Bool.or_eq_true] at this
    rcases this.2 with h4 | h4
    · exact absurd (of_decide_eq_true h4) (by omega)
    · rw [List.all_eq_true] at h4
      have h5 := h4 i (List.mem_range.2 hi)
      rw [decide_eq_false (by omega), Bool.false_or] at h5
      rw [← Array.any_toList, List.any_eq_true] at h5
      obtain ⟨e, he, h6⟩ := h5
      rw [Bool.and_eq_true] at h6
      exact ⟨e, Array.mem_toList_iff.1 he, h6.1, by simpa using h6.2⟩
/-- what is listed in both -/
structure TailRel (n N : Nat) (listed L : Array Bool) : Prop where
  s1 : listed.size = n
  s2 : L.size = N
  low : ∀ j, j < n → L[j]? = listed[j]?
  high : ∀ j, n ≤ j → j < N → L[j]? = some false
theorem getD_some {L : Array Bool} {j : Nat} {b d : Bool} (h : L[j]? = some b) : L.getD j d = b := by
  rw [Array.getD_eq_getD_getElem?, h]; rfl
theorem tail_run {l : List Oper} {n : Nat} (hT : TailOk md l n) : ∀ (m k : Nat), l.length - k = m → n ≤ k → k ≤ l.length → ∀ (fuel : Nat), m ≤ fuel → ∀ (L : Array Bool) (a : Act) (w : World), L.size = l.length → (∀ j, j < k → L[j]? = some true) → (∀ j, k ≤ j → j < l.length → L[j]? = some false) →
    wpList P l.toArray Q (l.drop k) a w → wpAny P md l.toArray Q fuel L a w := by
  intro m
  induction m with
  | zero =>
    intro k hm hnk hkl fuel hf L a w hs h1 h2 h
    have hk : k = l.length := by omega
    have hr : Region.ready md l.toArray L = [] := by
      rw [List.eq_nil_iff_forall_not_mem]
      intro j hj
      obtain ⟨g1, o, g2, _⟩ := mem_ready.1 hj
      have hjl : j < l.length := by
        have := (Array.getElem?_eq_some_iff.1 g2).1; simpa using this
      rw [getD_some (h1 j (by omega))] at g1; cases g1
    rw [hk, List.drop_length] at h
    have hQ : Q .normal a w := h
    cases fuel with
    | zero => exact ⟨hr, hQ⟩
    | succ f => exact ⟨fun _ => hQ, fun i hi => (by rw [hr] at hi; cases hi)⟩
  | succ m ih =>
    intro k hm hnk hkl fuel hf L a w hs h1 h2 h
    obtain ⟨f, rfl⟩ : ∃ f, fuel = f + 1 := ⟨fuel - 1, by omega⟩
    have hkl' : k < l.length := by omega
    obtain ⟨o, ho⟩ : ∃ o, l[k]? = some o := ⟨l[k], List.getElem?_eq_getElem hkl'⟩
    have hoa : l.toArray[k]? = some o := by simpa using ho
    have hmem : k ∈ Region.ready md l.toArray L := mem_ready.2 ⟨getD_some (h2 k (Nat.le_refl _) hkl'), o, hoa, fun e he hb => getD_some (h1 _ (hT.back k o ho e he hb))⟩
    refine ⟨fun hr => (by rw [hr] at hmem; cases hmem), fun i hi => ?_⟩
    obtain ⟨g1, oi, g2, g3⟩ := mem_ready.1 hi
    have hil : i < l.length := by have := (Array.getElem?_eq_some_iff.1 g2).1; simpa using this
    have hik : i = k := by
      rcases Nat.lt_trichotomy i k with hlt | he | hgt
      · rw [getD_some (h1 i hlt)] at g1; cases g1
      · exact he
      · obtain ⟨e, he, hb, hon⟩ := hT.wait i oi (by simpa using g2) (by omega) (i - 1) (by omega) (by omega)
        have := g3 e he hb
        rw [hon, getD_some (h2 (i - 1) (by omega) (by omega))] at this; cases this
    subst hik
    rw [List.drop_eq_getElem_cons hkl', (List.getElem?_eq_some_iff.1 ho).2] at h
    unfold wpOp
    simp only [hoa]
    have hw := wanted_none (hT.guard i o ho) (yielded l.toArray a.tmps)
    unfold wpList at h
    rw [hw] at h ⊢
    simp only [if_true] at h ⊢
    refine h.imp (fun h' => ?_) id
    refine Oper.wp_mono (fun a' w' h'' => ?_) h'
    refine ih (i + 1) (by omega) (by omega) (by omega) f (by omega) _ a' w' (by simp [hs]) (fun j hj => ?_) (fun j hj hjl => ?_) h''
    · rw [Array.getElem?_setIfInBounds]
      split
      · next hij => subst hij; rw [if_pos (by omega)]
      · exact h1 j (by omega)
    · rw [Array.getElem?_setIfInBounds, if_neg (by omega)]
      exact h2 j (by omega) hjl
theorem tail_all {S : World → Prop} {l : List Oper} {n : Nat} (hT : TailOk md l n) : ∀ (fuel : Nat) (listed L : Array Bool) (a : Act) (w : World), TailRel n l.length listed L →
    wpAnyH P md (l.take n).toArray (tailQ P l.toArray Q (l.drop n)) S fuel listed a w → wpAny P md l.toArray Q (fuel + (l.length - n)) L a w := by
  have hle := hT.le
  have hlow : ∀ (j : Nat) (o : Oper), l[j]? = some o → j < n → ∀ (listed L : Array Bool), TailRel n l.length listed L → (j ∈ Region.ready md l.toArray L ↔ j ∈ Region.ready md (l.take n).toArray listed) := fun j o ho hj listed L hR => by
    have e1 : L.getD j true = listed.getD j true := by rw [Array.getD_eq_getD_getElem?, Array.getD_eq_getD_getElem?, hR.low j hj]
    have e2 : l.toArray[j]? = some o := by simpa using ho
    have e3 : (l.take n).toArray[j]? = some o := by
      have : (l.take n)[j]? = some o := by rw [List.getElem?_take_of_lt hj]; exact ho
      simpa using this
    rw [mem_ready, mem_ready, e1, e2, e3]
    refine and_congr Iff.rfl ⟨fun ⟨o', h1, h2⟩ => ⟨o', h1, fun e he hb => ?_⟩, fun ⟨o', h1, h2⟩ => ⟨o', h1, fun e he hb => ?_⟩⟩
    · cases h1
      have h3 := hT.back j o ho e he hb
      have h4 := h2 e he hb
      rw [Array.getD_eq_getD_getElem?, hR.low _ (by omega)] at h4
      rw [Array.getD_eq_getD_getElem?]; exact h4
    · cases h1
      have h3 := hT.back j o ho e he hb
      have h4 := h2 e he hb
      rw [Array.getD_eq_getD_getElem?] at h4
      rw [Array.getD_eq_getD_getElem?, hR.low _ (by omega)]; exact h4
  -- where nothing may come up all have come up
  have hall : ∀ (listed L : Array Bool), TailRel n l.length listed L → Region.ready md (l.take n).toArray listed = [] → ∀ j, j < n → L[j]? = some true := fun listed L hR hr j => by
    induction j using Nat.strongRecOn with
    | ind j ih =>
      intro hj
      rw [hR.low j hj]
      obtain ⟨b, hb⟩ : ∃ b, listed[j]? = some b := ⟨listed[j]'(by rw [hR.s1]; exact hj), Array.getElem?_eq_getElem _⟩
      cases b with
      | true => exact hb
      | false =>
        exfalso
        obtain ⟨o, ho⟩ : ∃ o, l[j]? = some o := ⟨l[j]'(by omega), List.getElem?_eq_getElem _⟩
        have : j ∈ Region.ready md (l.take n).toArray listed := (hlow j o ho hj listed L hR).1 (mem_ready.2 ⟨getD_some (by rw [hR.low j hj]; exact hb), o, by simpa using ho, fun e he hbi => by
          have h3 := hT.back j o ho e he hbi
          exact getD_some (ih e.on h3 (by omega))⟩)
        rw [hr] at this; cases this
  have hend : ∀ (fuel : Nat) (listed L : Array Bool) (a : Act) (w : World), TailRel n l.length listed L → Region.ready md (l.take n).toArray listed = [] → tailQ P l.toArray Q (l.drop n) .normal a w → wpAny P md l.toArray Q (fuel + (l.length - n)) L a w := fun fuel listed L a w hR hr hQ =>
    tail_run hT (l.length - n) n rfl (Nat.le_refl _) hle _ (by omega) L a w hR.s2 (hall listed L hR hr) hR.high hQ
  intro fuel
  induction fuel with
  | zero => intro listed L a w hR h; exact hend 0 listed L a w hR h.1 h.2
  | succ f ih =>
    intro listed L a w hR h
    by_cases hr : Region.ready md (l.take n).toArray listed = []
    · exact hend (f + 1) listed L a w hR hr (h.1 hr)
    · obtain ⟨j0, hj0⟩ := List.exists_mem_of_ne_nil _ hr
      have hj0n : j0 < n := by
        obtain ⟨_, o, g2, _⟩ := mem_ready.1 hj0
        have := (Array.getElem?_eq_some_iff.1 g2).1
        simp at this; omega
      have hun : L[j0]? = some false := by
        obtain ⟨g1, _⟩ := mem_ready.1 hj0
        rw [hR.low j0 hj0n]
        obtain ⟨b, hb⟩ : ∃ b, listed[j0]? = some b := ⟨listed[j0]'(by rw [hR.s1]; exact hj0n), Array.getElem?_eq_getElem _⟩
        rw [getD_some hb] at g1; subst g1; exact hb
      rw [show f + 1 + (l.length - n) = (f + (l.length - n)) + 1 by omega]
      refine ⟨fun hr' => ?_, fun i hi => ?_⟩
      · obtain ⟨o, ho⟩ : ∃ o, l[j0]? = some o := ⟨l[j0]'(by omega), List.getElem?_eq_getElem _⟩
        have := (hlow j0 o ho hj0n listed L hR).2 hj0
        rw [hr'] at this; cases this
      · obtain ⟨g1, oi, g2, g3⟩ := mem_ready.1 hi
        have hil : i < l.length := by have := (Array.getElem?_eq_some_iff.1 g2).1; simpa using this
        have ho : l[i]? = some oi := by simpa using g2
        have hin : i < n := by
          rcases Nat.lt_or_ge i n with h' | h'
          · exact h'
          · obtain ⟨e, he, hb, hon⟩ := hT.wait i oi ho h' j0 (by omega) (by omega)
            have := g3 e he hb
            rw [hon, getD_some hun] at this; cases this
        have hi2 := (hlow i oi ho hin listed L hR).1 hi
        have hw2 := h.2 i hi2
        have e3 : (l.take n).toArray[i]? = some oi := by
          have : (l.take n)[i]? = some oi := by rw [List.getElem?_take_of_lt hin]; exact ho
          simpa using this
        unfold wpOp at hw2 ⊢
        simp only [e3] at hw2
        simp only [g2]
        have hg := hT.guard i oi ho
        rw [wanted_none hg] at hw2 ⊢
        simp only [if_true] at hw2 ⊢
        rcases hw2 with h5 | ⟨h5, a0, w0, h6⟩
        · refine .inl (tail_op (Oper.wp_mono (fun a' w' h' => ?_) h5))
          refine ih _ _ a' w' ⟨by simp [hR.s1], by simp [hR.s2], fun j hj => ?_, fun j hj hjl => ?_⟩ h'.2
          · rw [Array.getElem?_setIfInBounds, Array.getElem?_setIfInBounds, hR.low j hj, hR.s1, hR.s2]
            by_cases hij : i = j
            · rw [if_pos hij, if_pos hij, if_pos hil, if_pos hin]
            · rw [if_neg hij, if_neg hij]
          · rw [Array.getElem?_setIfInBounds, if_neg (by omega)]; exact hR.high j hj hjl
        · exact .inr ⟨h5, a0, w0, h6⟩
/-- the beginning: the first n operations, held by S; then the tail -/
theorem wp_region_tail {S : World → Prop} {id : Nat} {l : List Oper} {a : Act} {w : World} (n : Nat) (hm : P.follows .mixedOrders = true) (hB : tailB .any l n = true) (hS : S w.drew)
    (h : S w.drew → wpAnyH P .any (l.take n).toArray (tailQ P l.toArray Q (l.drop n)) S n (Array.replicate n false) a w.drew) : (Code.region id l.toArray true).wp P Q a w := by
  have hT := tailB_ok hB
  have hle := hT.le
  refine wp_region_any hm ?_
  have h2 := tail_all hT n (Array.replicate n false) (Array.replicate l.length false) a w.drew ⟨by simp, by simp, fun j hj => by rw [Array.getElem?_replicate, Array.getElem?_replicate, if_pos hj, if_pos (by omega)], fun j _ hj => by rw [Array.getElem?_replicate, if_pos hj]⟩ (h hS)
  rw [show n + (l.length - n) = l.length by omega] at h2
  have e : l.toArray.size = l.length := by simp
  rw [e]
  exact h2
end
end Go.Proofs.Ytglpalomhhhmhaa
