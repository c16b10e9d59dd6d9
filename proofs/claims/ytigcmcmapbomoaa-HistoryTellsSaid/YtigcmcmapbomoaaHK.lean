/- history: the reference's Right, plainly; that both are alike. -/
import Derived.Test.YtigcmcmapbomoaaHI
namespace Go.Proofs.Ytigcmcmapbomoaa
open Go.RowKit
set_option linter.unusedVariables false
set_option linter.unusedSimpArgs false

def thrOk (n : Int) (ts : List Int) (x : EvL) : Bool := match thr ts x with | none => false | some t => decide (0 ≤ t) && decide (t < n)
def prevOk (l : List EvL) (x : EvL) : Nat → Bool
  | 0 => true
  | j + 1 => match l[j]? with | none => false | some y => decide (y.iv < x.iv)
def ok1 (n : Int) (ts : List Int) (l : List EvL) (k : Int) (i : Nat) : Bool := match l[i]? with | none => true | some x => thrOk n ts x && timely x k && prevOk l x i
def ok2 (ts : List Int) (l : List EvL) (i j : Nat) : Bool := match l[i]?, l[j]? with | some x, some y => !(decide (thr ts y = thr ts x)) || (ahd y x && decide (y.ca < x.ca)) | _, _ => true
def rrgt (n : Int) (ts : List Int) (l : List EvL) (k : Int) : Bool := (List.range l.length).all (ok1 n ts l k) && (List.range l.length).all (fun i => (List.range i).all (ok2 ts l i))
theorem rrgt_iff {n : Int} {ts : List Int} {l : List EvL} {k : Int} : rrgt n ts l k = true ↔ (∀ i, i < l.length → ok1 n ts l k i = true) ∧ ∀ i, i < l.length → ∀ j, j < i → ok2 ts l i j = true := by
  unfold rrgt
  rw [Bool.and_eq_true, List.all_eq_true, List.all_eq_true]
  simp only [List.mem_range, List.all_eq_true]
theorem rrgt_no1 {n : Int} {ts : List Int} {l : List EvL} {k : Int} {i : Nat} (hi : i < l.length) (h : ok1 n ts l k i = false) : rrgt n ts l k = false := by
  cases hr : rrgt n ts l k with
  | false => rfl
  | true => have := (rrgt_iff.1 hr).1 i hi; rw [h] at this; cases this
theorem rrgt_no2 {n : Int} {ts : List Int} {l : List EvL} {k : Int} {i j : Nat} (hi : i < l.length) (hj : j < i) (h : ok2 ts l i j = false) : rrgt n ts l k = false := by
  cases hr : rrgt n ts l k with
  | false => rfl
  | true => have := (rrgt_iff.1 hr).2 i hi j hj; rw [h] at this; cases this

theorem okG_some {l : List EvL} {x z : EvL} {j : Nat} (h : l[j]? = some z) : okG l x (some j) = (ahd x z && decide (x.ca < z.ca)) := by
  show (match l[j]? with | none => false | some y => ahd x y && decide (x.ca < y.ca)) = _
  rw [h]
theorem prevOk_succ {l : List EvL} {x y : EvL} {j : Nat} (h : l[j]? = some y) : prevOk l x (j + 1) = decide (y.iv < x.iv) := by
  show (match l[j]? with | none => false | some y => decide (y.iv < x.iv)) = _
  rw [h]
/-- the next event of a thread -/
theorem gOf_dn (ts : List Int) (l : List EvL) (t : Int) : ∀ j, j ≤ l.length →
    (∀ k, gOf ts l (dn l.length j) t = some k → (∃ x, l[k]? = some x ∧ thr ts x = some t) ∧ l.length - j ≤ k ∧ ∀ m y, l.length - j ≤ m → m < k → l[m]? = some y → thr ts y ≠ some t) ∧
    (gOf ts l (dn l.length j) t = none → ∀ m y, l.length - j ≤ m → l[m]? = some y → thr ts y ≠ some t)
  | 0, _ => ⟨fun k h => by simp [gOf, dn] at h, fun _ m y hm hy => by have := (List.getElem?_eq_some_iff.1 hy).1; omega⟩
  | j + 1, hj => by
    obtain ⟨ih1, ih2⟩ := gOf_dn ts l t j (by omega)
    have hlt : l.length - 1 - j < l.length := by omega
    have hx : l[l.length - 1 - j]? = some (evAt l ⟨l.length - 1 - j, hlt⟩) := List.getElem?_eq_getElem _
    rw [dn_succ (by omega) (i := ⟨l.length - 1 - j, hlt⟩) rfl, gOf_snoc]
    by_cases h : thr ts (evAt l ⟨l.length - 1 - j, hlt⟩) = some t
    · rw [if_pos h]
      refine ⟨fun k hk => ?_, fun hn => by cases hn⟩
      obtain rfl : l.length - 1 - j = k := by simpa using hk
      exact ⟨⟨_, hx, h⟩, by omega, fun m y h1 h2 _ => by omega⟩
    · rw [if_neg h]
      have key : ∀ m y, l.length - (j + 1) ≤ m → l[m]? = some y → ¬ l.length - j ≤ m → thr ts y ≠ some t := by
        intro m y h1 h2 h3
        have : m = l.length - 1 - j := by omega
        subst this
        rw [hx] at h2
        cases h2
        exact h
      refine ⟨fun k hk => ?_, fun hn m y hm hy => ?_⟩
      · obtain ⟨h1, h2, h3⟩ := ih1 k hk
        exact ⟨h1, by omega, fun m y h4 h5 h6 => by
          by_cases h7 : l.length - j ≤ m
          · exact h3 m y h7 h5 h6
          · exact key m y h4 h6 h7⟩
      · by_cases h7 : l.length - j ≤ m
        · exact ih2 hn m y h7 hy
        · exact key m y hm hy h7

theorem okS_parts {n : Int} {ts : List Int} {l : List EvL} {k : Int} {pre : List (Fin l.length)} {i : Fin l.length} : okS n ts l k pre i = true ↔
    ∃ t, thr ts (evAt l i) = some t ∧ (0 ≤ t ∧ t < n) ∧ timely (evAt l i) k = true ∧ okN l i.val (evAt l i) = true ∧ okG l (evAt l i) (gOf ts l pre t) = true := by
  unfold okS
  cases h : thr ts (evAt l i) with
  | none => simp
  | some t => simp [and_assoc]
theorem rgt_iff {n : Int} {ts : List Int} {l : List EvL} {k : Int} : rgt n ts l k = true ↔ ∀ i (h : i < l.length), okS n ts l k (dn l.length (l.length - 1 - i)) ⟨i, h⟩ = true := by
  unfold rgt
  rw [List.all_eq_true]
  constructor
  · intro h i hi
    have := h (l.length - 1 - i) (by simp; omega)
    rw [dif_pos (by omega)] at this
    have e : (⟨l.length - 1 - (l.length - 1 - i), by omega⟩ : Fin l.length) = ⟨i, hi⟩ := Fin.ext (by show l.length - 1 - (l.length - 1 - i) = i; omega)
    rwa [e] at this
  · intro h j hj
    have hj' : j < l.length := by simpa using hj
    rw [dif_pos hj']
    have := h (l.length - 1 - j) (by omega)
    rwa [show l.length - 1 - (l.length - 1 - j) = j by omega] at this
theorem ahd_iff {x y : EvL} : ahd x y = true ↔ x.rs ≠ 0 ∧ x.rs < y.iv := by unfold ahd done; simp

/-- the two are alike -/
theorem right_eq (n : Int) (ts : List Int) (l : List EvL) (k : Int) : rgt n ts l k = rrgt n ts l k := by
  rw [Bool.eq_iff_iff, rgt_iff, rrgt_iff]
  constructor
  · intro H
    have H2 : ∀ i x, l[i]? = some x → ∃ t, thr ts x = some t ∧ (0 ≤ t ∧ t < n) ∧ timely x k = true ∧ okN l i x = true ∧ okG l x (gOf ts l (dn l.length (l.length - 1 - i)) t) = true := by
      intro i x hx
      have hi := (List.getElem?_eq_some_iff.1 hx).1
      have he : evAt l ⟨i, hi⟩ = x := (List.getElem?_eq_some_iff.1 hx).2
      have := okS_parts.1 (H i hi)
      rwa [he] at this
    have T : ∀ (d i j : Nat) (x y : EvL) (t : Int), i = j + d → 0 < d → l[i]? = some x → l[j]? = some y → thr ts x = some t → thr ts y = some t → ahd y x = true ∧ y.ca < x.ca := by
      intro d
      induction d using Nat.strongRecOn with
      | ind d ih =>
        intro i j x y t hij hd hx hy htx hty
        have hi := (List.getElem?_eq_some_iff.1 hx).1
        obtain ⟨t', ht', _, _, _, hg⟩ := H2 j y hy
        rw [hty] at ht'
        cases ht'
        obtain ⟨g1, g2⟩ := gOf_dn ts l t (l.length - 1 - j) (by omega)
        cases hgo : gOf ts l (dn l.length (l.length - 1 - j)) t with
        | none => exact absurd htx (g2 hgo i x (by omega) hx)
        | some m =>
          obtain ⟨⟨z, hz, htz⟩, h1, h2⟩ := g1 m hgo
          rw [hgo, okG_some hz] at hg
          simp only [Bool.and_eq_true, decide_eq_true_eq] at hg
          by_cases hmi : m = i
          · subst hmi
            rw [hx] at hz
            cases hz
            exact hg
          · have hlt : m < i := by
              rcases Nat.lt_or_ge m i with h | h
              · exact h
              · exact absurd htx (h2 i x (by omega) (by omega) hx)
            obtain ⟨q1, q2⟩ := ih (i - m) (by omega) i m x z t (by omega) (by omega) hx hz htx htz
            obtain ⟨_, _, _, htim, _, _⟩ := H2 m z hz
            rw [timely_iff] at htim
            obtain ⟨p1, p2⟩ := ahd_iff.1 hg.1
            obtain ⟨p3, p4⟩ := ahd_iff.1 q1
            refine ⟨ahd_iff.2 ⟨p1, ?_⟩, by omega⟩
            rcases htim.2 with h | h <;> omega
    refine ⟨fun i hi => ?_, fun i hi j hj => ?_⟩
    · obtain ⟨x, hx⟩ : ∃ x, l[i]? = some x := ⟨_, List.getElem?_eq_getElem hi⟩
      obtain ⟨t, ht, h1, h2, _, _⟩ := H2 i x hx
      unfold ok1
      rw [hx]
      have a1 : thrOk n ts x = true := by unfold thrOk; rw [ht]; simp; omega
      have a2 : prevOk l x i = true := by
        cases i with
        | zero => rfl
        | succ j =>
          obtain ⟨y, hy⟩ : ∃ y, l[j]? = some y := ⟨_, List.getElem?_eq_getElem (by omega)⟩
          obtain ⟨_, _, _, _, hN, _⟩ := H2 j y hy
          unfold okN at hN
          rw [hx] at hN
          rw [prevOk_succ hy]
          exact hN
      simp [a1, a2, h2]
    · obtain ⟨x, hx⟩ : ∃ x, l[i]? = some x := ⟨_, List.getElem?_eq_getElem hi⟩
      obtain ⟨y, hy⟩ : ∃ y, l[j]? = some y := ⟨_, List.getElem?_eq_getElem (by omega)⟩
      obtain ⟨t, ht, _⟩ := H2 i x hx
      unfold ok2
      rw [hx, hy]
      by_cases he : thr ts y = thr ts x
      · obtain ⟨q1, q2⟩ := T (i - j) i j x y t (by omega) (by omega) hx hy ht (he.trans ht)
        simp [q1, q2]
      · simp [he]
  · intro ⟨H1, H2⟩ i hi
    have K1 : ∀ i x, l[i]? = some x → thrOk n ts x = true ∧ timely x k = true ∧ prevOk l x i = true := by
      intro i x hx
      have := H1 i (List.getElem?_eq_some_iff.1 hx).1
      unfold ok1 at this
      rw [hx] at this
      simpa [and_assoc] using this
    have hx : l[i]? = some (evAt l ⟨i, hi⟩) := List.getElem?_eq_getElem hi
    rw [okS_parts]
    obtain ⟨a1, a2, a3⟩ := K1 i _ hx
    unfold thrOk at a1
    cases ht : thr ts (evAt l ⟨i, hi⟩) with
    | none => rw [ht] at a1; cases a1
    | some t =>
      rw [ht] at a1
      refine ⟨t, rfl, by simpa using a1, a2, ?_, ?_⟩
      · unfold okN
        cases hn : l[i + 1]? with
        | none => rfl
        | some y =>
          obtain ⟨_, _, b3⟩ := K1 (i + 1) y hn
          rw [prevOk_succ hx] at b3
          exact b3
      · cases hgo : gOf ts l (dn l.length (l.length - 1 - i)) t with
        | none => rfl
        | some m =>
          obtain ⟨⟨z, hz, htz⟩, h1, _⟩ := (gOf_dn ts l t (l.length - 1 - i) (by omega)).1 m hgo
          have hm := (List.getElem?_eq_some_iff.1 hz).1
          have := H2 m hm i (by omega)
          unfold ok2 at this
          rw [hz, hx] at this
          simp only [ht, htz] at this
          rw [okG_some hz]
          simpa using this
end Go.Proofs.Ytigcmcmapbomoaa
