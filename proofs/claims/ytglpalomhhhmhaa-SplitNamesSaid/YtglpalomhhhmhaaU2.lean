/- Plain: which call a thread is at, by which ones are finished; whose turn picks give. -/
import Derived.Test.YtglpalomhhhmhaaU
namespace Go.Proofs.Ytglpalomhhhmhaa

/-- call i is of thread p, and not finished -/
def openB (ts : List Int) (fin : List Bool) (p : Int) (i : Nat) : Bool := ts[i]? == some p && fin[i]? == some false
def ownL (ts : List Int) (fin : List Bool) (p : Int) : List Nat := (List.range ts.length).filter (openB ts fin p)
def nowOf (ts : List Int) (fin : List Bool) (p : Int) : Option Nat := (ownL ts fin p).head?
def nowI (ts : List Int) (fin : List Bool) (p : Int) : Int := match nowOf ts fin p with | some i => (i : Int) | none => -1

theorem own_mem {ts : List Int} {fin : List Bool} {p : Int} {i : Nat} : i ∈ ownL ts fin p ↔ i < ts.length ∧ openB ts fin p i = true := by
  unfold ownL; rw [List.mem_filter, List.mem_range]
theorem own_sorted (ts : List Int) (fin : List Bool) (p : Int) : (ownL ts fin p).Pairwise (· < ·) := List.Pairwise.filter _ List.pairwise_lt_range
theorem openB_iff {ts : List Int} {fin : List Bool} {p : Int} {i : Nat} : openB ts fin p i = true ↔ ts[i]? = some p ∧ fin[i]? = some false := by
  unfold openB; rw [Bool.and_eq_true, beq_iff_eq, beq_iff_eq]
theorem now_cons {ts : List Int} {fin : List Bool} {p : Int} {i : Nat} (h : nowOf ts fin p = some i) : ownL ts fin p = i :: (ownL ts fin p).tail := by
  unfold nowOf at h
  cases ho : ownL ts fin p with
  | nil => rw [ho] at h; cases h
  | cons a r => rw [ho] at h; simp at h; subst h; rfl
theorem now_nil {ts : List Int} {fin : List Bool} {p : Int} : nowOf ts fin p = none ↔ ownL ts fin p = [] := by
  unfold nowOf; exact List.head?_eq_none_iff
theorem now_open {ts : List Int} {fin : List Bool} {p : Int} {i : Nat} (h : nowOf ts fin p = some i) : i < ts.length ∧ ts[i]? = some p ∧ fin[i]? = some false := by
  have : i ∈ ownL ts fin p := by rw [now_cons h]; exact List.mem_cons_self
  obtain ⟨h1, h2⟩ := own_mem.1 this
  exact ⟨h1, openB_iff.1 h2⟩
theorem now_first {ts : List Int} {fin : List Bool} {p : Int} {j : Nat} (hj : j < ts.length) (h : ∀ i, i < j → openB ts fin p i = false) (ho : openB ts fin p j = true) : nowOf ts fin p = some j := by
  unfold nowOf ownL
  rw [List.head?_filter, List.find?_range_eq_some]
  exact ⟨ho, by simpa using hj, fun i hi => by simp [h i hi]⟩
theorem now_none {ts : List Int} {fin : List Bool} {p : Int} (h : ∀ i, i < ts.length → openB ts fin p i = false) : nowOf ts fin p = none := by
  rw [now_nil, List.eq_nil_iff_forall_not_mem]
  intro i hi
  obtain ⟨h1, h2⟩ := own_mem.1 hi
  rw [h i h1] at h2; cases h2
theorem openB_set {ts : List Int} {fin : List Bool} {p : Int} {i j : Nat} : openB ts (fin.set i true) p j = (openB ts fin p j && !(j == i)) := by
  unfold openB
  rw [List.getElem?_set]
  by_cases h : i = j
  · subst h
    simp
  · have : (j == i) = false := by simp; omega
    simp [h, this]
theorem filter_ne_tail : ∀ {l : List Nat} {i : Nat}, l.Pairwise (· < ·) → l.head? = some i → l.filter (fun j => !(j == i)) = l.tail := by
  intro l i hl hh
  cases l with
  | nil => cases hh
  | cons a r =>
    simp at hh
    subst hh
    rw [List.filter_cons]
    simp
    intro x hx
    have := (List.pairwise_cons.1 hl).1 x hx
    omega
theorem own_set_same {ts : List Int} {fin : List Bool} {p : Int} {i : Nat} (h : nowOf ts fin p = some i) : ownL ts (fin.set i true) p = (ownL ts fin p).tail := by
  rw [← filter_ne_tail (own_sorted ts fin p) h]
  unfold ownL
  rw [List.filter_filter]
  apply List.filter_congr
  intro j _
  rw [openB_set, Bool.and_comm]
theorem own_set_other {ts : List Int} {fin : List Bool} {p q : Int} {i : Nat} (h : nowOf ts fin p = some i) (hq : q ≠ p) : ownL ts (fin.set i true) q = ownL ts fin q := by
  unfold ownL
  apply List.filter_congr
  intro j _
  rw [openB_set]
  by_cases hj : j = i
  · subst hj
    have : openB ts fin q j = false := by
      cases ho : openB ts fin q j with
      | false => rfl
      | true =>
        have h1 := (openB_iff.1 ho).1
        rw [(now_open h).2.1] at h1
        exact absurd (Option.some.inj h1).symm hq
    rw [this]; rfl
  · have : (j == i) = false := by simp [hj]
    rw [this]; simp
theorem own_set_fun {ts : List Int} {fin : List Bool} {p : Int} {i : Nat} (h : nowOf ts fin p = some i) : ownL ts (fin.set i true) = updF (ownL ts fin) p (ownL ts fin p).tail := by
  funext q
  by_cases hq : q = p
  · subst hq; rw [own_set_same h, updF_same]
  · rw [own_set_other h hq, updF_other _ _ hq]

/-- what a line has, of the first j calls -/
def ownU (ts : List Int) (j : Nat) (p : Int) : List Nat := (List.range j).filter (fun i => ts[i]? == some p)
theorem ownU_zero (ts : List Int) : ownU ts 0 = fun _ => [] := rfl
theorem ownU_succ {ts : List Int} {j : Nat} {t : Int} (h : ts[j]? = some t) : ownU ts (j + 1) = updF (ownU ts j) t (ownU ts j t ++ [j]) := by
  funext p
  unfold ownU
  rw [List.range_succ, List.filter_append, List.filter_cons]
  by_cases hp : p = t
  · subst hp; rw [updF_same, h]; simp
  · rw [updF_other _ _ hp, h]
    have : (some t == some p) = false := by simp; exact fun e => hp e.symm
    rw [this]; simp
theorem ownU_all (ts : List Int) : ownU ts ts.length = ownL ts (List.replicate ts.length false) := by
  funext p
  unfold ownU ownL
  apply List.filter_congr
  intro i hi
  rw [List.mem_range] at hi
  unfold openB
  rw [List.getElem?_replicate, if_pos hi]
  simp
theorem ownU_len (ts : List Int) (j : Nat) (p : Int) : (ownU ts j p).length ≤ j := by
  have := List.length_filter_le (fun i => ts[i]? == some p) (List.range j)
  rw [List.length_range] at this
  exact this

/-- sums over threads -/
def sumN (n : Nat) (g : Int → Nat) : Nat := ((List.range n).map (fun k : Nat => g (k : Int))).sum
theorem sumN_succ (n : Nat) (g : Int → Nat) : sumN (n + 1) g = sumN n g + g n := by
  unfold sumN; rw [List.range_succ]; simp
theorem sumN_congr {n : Nat} {g h : Int → Nat} (e : ∀ a : Int, 0 ≤ a → a < n → g a = h a) : sumN n g = sumN n h := by
  unfold sumN
  congr 1
  apply List.map_congr_left
  intro k hk
  rw [List.mem_range] at hk
  exact e k (by omega) (by omega)
theorem sumN_upd {n : Nat} {g : Int → Nat} {a : Int} (h0 : 0 ≤ a) (h1 : a < n) (v : Nat) : sumN n (updF g a v) + g a = sumN n g + v := by
  induction n with
  | zero => omega
  | succ n ih =>
    rw [sumN_succ, sumN_succ]
    by_cases ha : a = n
    · subst ha
      rw [updF_same, sumN_congr (h := g) (fun x _ hx => updF_other _ _ (by omega))]
      omega
    · rw [updF_other _ _ (fun e => ha e.symm)]
      have := ih (by omega)
      omega
theorem sumN_zero (n : Nat) : sumN n (fun _ => 0) = 0 := by
  induction n with
  | zero => rfl
  | succ n ih => rw [sumN_succ, ih]
theorem sumN_ownU {ts : List Int} (hts : ∀ t ∈ ts, 0 ≤ t ∧ t < 16) : ∀ j, j ≤ ts.length → sumN 16 (fun p => (ownU ts j p).length) = j := by
  intro j
  induction j with
  | zero => intro _; exact sumN_zero 16
  | succ j ih =>
    intro hj
    have hx : ts[j]? = some ts[j] := List.getElem?_eq_getElem (by omega)
    have ht := hts ts[j] (List.getElem_mem _)
    rw [ownU_succ hx]
    have e : (fun p => (updF (ownU ts j) ts[j] (ownU ts j ts[j] ++ [j]) p).length) = updF (fun p => (ownU ts j p).length) ts[j] ((ownU ts j ts[j]).length + 1) := by
      funext p
      by_cases hp : p = ts[j]
      · subst hp; rw [updF_same, updF_same]; simp
      · rw [updF_other _ _ hp, updF_other _ _ hp]
    rw [e]
    have h1 := sumN_upd (g := fun p => (ownU ts j p).length) ht.1 ht.2 ((ownU ts j ts[j]).length + 1)
    have h2 := ih (by omega)
    simp only at h1
    omega

/-- why there is no line -/
def wrongL (n : Int) (ts : List Int) : Nat := if n < 1 ∨ 16 < n then 1 else if 1000 < ts.length then 3 else if ts.any (fun t => decide (t < 0 ∨ n ≤ t)) then 1 else 0
theorem wrongL_n {n : Int} {ts : List Int} (h : n < 1 ∨ 16 < n) : wrongL n ts = 1 := by unfold wrongL; rw [if_pos h]
theorem wrongL_long {n : Int} {ts : List Int} (h : ¬ (n < 1 ∨ 16 < n)) (h1 : 1000 < ts.length) : wrongL n ts = 3 := by unfold wrongL; rw [if_neg h, if_pos h1]
theorem wrongL_bad {n : Int} {ts : List Int} (h : ¬ (n < 1 ∨ 16 < n)) (h1 : ¬ 1000 < ts.length) {j : Nat} {t : Int} (hj : ts[j]? = some t) (ht : t < 0 ∨ n ≤ t) : wrongL n ts = 1 := by
  unfold wrongL; rw [if_neg h, if_neg h1, if_pos]
  exact List.any_eq_true.2 ⟨t, List.mem_of_getElem? hj, by simpa using ht⟩
theorem wrongL_ok {n : Int} {ts : List Int} (h : ¬ (n < 1 ∨ 16 < n)) (h1 : ¬ 1000 < ts.length) (hj : ∀ t ∈ ts, 0 ≤ t ∧ t < n) : wrongL n ts = 0 := by
  unfold wrongL; rw [if_neg h, if_neg h1, if_neg]
  rw [List.any_eq_true]
  rintro ⟨t, ht, h⟩
  have := hj t ht
  simp at h
  omega
theorem wrongL_inv {n : Int} {ts : List Int} (h : wrongL n ts = 0) : (1 ≤ n ∧ n ≤ 16) ∧ ts.length ≤ 1000 ∧ ∀ t ∈ ts, 0 ≤ t ∧ t < n := by
  unfold wrongL at h
  by_cases h1 : n < 1 ∨ 16 < n
  · rw [if_pos h1] at h; cases h
  · rw [if_neg h1] at h
    by_cases h2 : 1000 < ts.length
    · rw [if_pos h2] at h; cases h
    · rw [if_neg h2] at h
      by_cases h3 : ts.any (fun t => decide (t < 0 ∨ n ≤ t)) = true
      · rw [if_pos h3] at h; cases h
      · refine ⟨by omega, by omega, fun t ht => ?_⟩
        rw [List.any_eq_true] at h3
        apply Classical.byContradiction
        intro hc
        exact h3 ⟨t, ht, by simp; omega⟩
theorem wrongL_cases (n : Int) (ts : List Int) : wrongL n ts = 0 ∨ wrongL n ts = 1 ∨ wrongL n ts = 3 := by
  unfold wrongL
  split
  · exact .inr (.inl rfl)
  · split
    · exact .inr (.inr rfl)
    · split
      · exact .inr (.inl rfl)
      · exact .inl rfl

/-- how many steps a call needs -/
def mostOf (need : List Int) (i : Nat) : Int := match need[i]? with | some x => max x 1 | none => 1
/-- the turns, and how many picks are idle -/
def turnsGo (ts need : List Int) : List Int → List Bool → List Int → List Nat × Nat
  | [], _, _ => ([], 0)
  | p :: ps, fin, made => match nowOf ts fin p with
    | none => ((turnsGo ts need ps fin made).1, (turnsGo ts need ps fin made).2 + 1)
    | some i =>
      let m := made.getD i 0 + 1
      let r := turnsGo ts need ps (if mostOf need i ≤ m then fin.set i true else fin) (made.set i m)
      (i :: r.1, r.2)
theorem turnsGo_idle {ts need ps : List Int} {p : Int} {fin : List Bool} {made : List Int} (h : nowOf ts fin p = none) : turnsGo ts need (p :: ps) fin made = ((turnsGo ts need ps fin made).1, (turnsGo ts need ps fin made).2 + 1) := by
  rw [turnsGo, h]
theorem turnsGo_last {ts need ps : List Int} {p m : Int} {fin : List Bool} {made : List Int} {i : Nat} (h : nowOf ts fin p = some i) (hm : made[i]? = some m) (hl : mostOf need i ≤ m + 1) :
    turnsGo ts need (p :: ps) fin made = (i :: (turnsGo ts need ps (fin.set i true) (made.set i (m + 1))).1, (turnsGo ts need ps (fin.set i true) (made.set i (m + 1))).2) := by
  have e : made.getD i 0 = m := by rw [List.getD_eq_getElem?_getD, hm]; rfl
  rw [turnsGo, h]
  simp only [e, if_pos hl]
theorem turnsGo_more {ts need ps : List Int} {p m : Int} {fin : List Bool} {made : List Int} {i : Nat} (h : nowOf ts fin p = some i) (hm : made[i]? = some m) (hl : ¬ mostOf need i ≤ m + 1) :
    turnsGo ts need (p :: ps) fin made = (i :: (turnsGo ts need ps fin (made.set i (m + 1))).1, (turnsGo ts need ps fin (made.set i (m + 1))).2) := by
  have e : made.getD i 0 = m := by rw [List.getD_eq_getElem?_getD, hm]; rfl
  rw [turnsGo, h]
  simp only [e, if_neg hl]
theorem turnsGo_len (ts need : List Int) : ∀ (ps : List Int) (fin : List Bool) (made : List Int), (turnsGo ts need ps fin made).1.length + (turnsGo ts need ps fin made).2 = ps.length
  | [], _, _ => rfl
  | p :: ps, fin, made => by
    rw [turnsGo]
    cases h : nowOf ts fin p with
    | none => have := turnsGo_len ts need ps fin made; simp; omega
    | some i =>
      have := turnsGo_len ts need ps (if mostOf need i ≤ made.getD i 0 + 1 then fin.set i true else fin) (made.set i (made.getD i 0 + 1))
      simp only [List.length_cons]
      omega

/-- turns are of calls that there are, and no thread goes back -/
def rowsGo (ts : List Int) : List Nat → (Int → Nat) → Prop
  | [], _ => True
  | i :: r, last => ∃ t, ts[i]? = some t ∧ last t ≤ i ∧ rowsGo ts r (updF last t i)
theorem rows_turns (ts need : List Int) : ∀ (ps : List Int) (fin : List Bool) (made : List Int) (last : Int → Nat), (∀ p i, nowOf ts fin p = some i → last p ≤ i) → rowsGo ts (turnsGo ts need ps fin made).1 last
  | [], _, _, _, _ => trivial
  | p :: ps, fin, made, last, hl => by
    rw [turnsGo]
    cases h : nowOf ts fin p with
    | none => exact rows_turns ts need ps fin made last hl
    | some i =>
      refine ⟨p, (now_open h).2.1, hl p i h, ?_⟩
      apply rows_turns
      intro q k hk
      by_cases hf : mostOf need i ≤ made.getD i 0 + 1
      · rw [if_pos hf] at hk
        by_cases hq : q = p
        · subst hq
          rw [updF_same]
          unfold nowOf at hk
          rw [own_set_same h] at hk
          have hs := own_sorted ts fin q
          rw [now_cons h] at hs
          have := (List.pairwise_cons.1 hs).1 k (List.mem_of_mem_head? (by rw [hk]; rfl))
          omega
        · rw [updF_other _ _ hq]
          unfold nowOf at hk
          rw [own_set_other h hq] at hk
          exact hl q k hk
      · rw [if_neg hf] at hk
        by_cases hq : q = p
        · subst hq
          rw [h] at hk
          rw [updF_same]; cases hk; omega
        · rw [updF_other _ _ hq]; exact hl q k hk
end Go.Proofs.Ytglpalomhhhmhaa
