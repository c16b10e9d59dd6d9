/- Splitters, plainly: names, the machine; what holds of words and operations. -/
import Derived.Test.YtglpalomhhhmhaaAD0
namespace Go.Proofs.Ytglpalomhhhmhaa
open Go.RowKit
set_option linter.unusedVariables false
set_option linter.unusedSimpArgs false
/-- the splitters of lower diagonals -/
def tri (d : Nat) : Nat := d * (d + 1) / 2
theorem tri_mul (d : Nat) : d * (d + 1) = 2 * tri d := by
  unfold tri
  induction d with
  | zero => rfl
  | succ d ih =>
    have e : (d + 1) * (d + 1 + 1) = d * (d + 1) + 2 * (d + 1) := by rw [Nat.mul_comm (d + 1) (d + 1 + 1), Nat.add_mul (d + 1) 1 (d + 1), Nat.one_mul, Nat.add_mul d 1 (d + 1), Nat.one_mul]; omega
    omega
theorem tri_succ (d : Nat) : tri (d + 1) = tri d + d + 1 := by
  have h1 := tri_mul d
  have h2 := tri_mul (d + 1)
  have e : (d + 1) * (d + 1 + 1) = d * (d + 1) + 2 * (d + 1) := by rw [Nat.mul_comm (d + 1) (d + 1 + 1), Nat.add_mul (d + 1) 1 (d + 1), Nat.one_mul, Nat.add_mul d 1 (d + 1), Nat.one_mul]; omega
  omega
theorem tri_mono {a b : Nat} (h : a ≤ b) : tri a ≤ tri b := by
  induction h with
  | refl => exact Nat.le_refl _
  | step h ih => rw [tri_succ]; omega
def spName (r c : Nat) : Nat := tri (r + c) + r
theorem spName_lt {r c m : Nat} (h : r + c < m) : spName r c < tri m := by
  have h1 := tri_mono (show r + c + 1 ≤ m by omega)
  rw [tri_succ] at h1
  unfold spName; omega
theorem spName_inj {r c r' c' : Nat} (h : spName r c = spName r' c') : r = r' ∧ c = c' := by
  unfold spName at h
  have hd : r + c = r' + c' := by
    rcases Nat.lt_trichotomy (r + c) (r' + c') with hl | hl | hl
    · have h1 := tri_mono (show r + c + 1 ≤ r' + c' by omega)
      rw [tri_succ] at h1; omega
    · exact hl
    · have h1 := tri_mono (show r' + c' + 1 ≤ r + c by omega)
      rw [tri_succ] at h1; omega
  rw [hd] at h
  omega
structure SpQ where
  th : Nat
  r : Nat
  c : Nat
  s : Nat
  h : List (Nat × Nat × Bool)
structure SpS where
  nm : Nat → Bool
def lastW (q : SpQ) : Nat := 2 * spName q.r q.c
def clW (q : SpQ) : Nat := 2 * spName q.r q.c + 1
def spAcc (q : SpQ) : Acc := if q.s ≤ 1 then .wr (lastW q) (q.th + 1) else if q.s = 2 then .rd (clW q) else if q.s = 3 then .wr (clW q) 1 else .rd (lastW q)
def spNext (s : SpS) (q : SpQ) (v : Nat) : SpS × SpQ × Option Ans :=
  if q.s ≤ 1 then (s, ⟨q.th, q.r, q.c, 2, q.h⟩, none)
  else if q.s = 2 then (if v = 0 then (s, ⟨q.th, q.r, q.c, 3, q.h⟩, none) else (s, ⟨q.th, q.r, q.c + 1, 1, (q.r, q.c, true) :: q.h⟩, none))
  else if q.s = 3 then (s, ⟨q.th, q.r, q.c, 4, q.h⟩, none)
  else if v = q.th + 1 then (⟨setB s.nm q.th⟩, ⟨q.th, q.r, q.c, 5, q.h⟩, some ⟨0, spName q.r q.c, []⟩)
  else (s, ⟨q.th, q.r + 1, q.c, 1, (q.r, q.c, false) :: q.h⟩, none)
def spInv (s : SpS) (x : CallV) : SpS × (SpQ ⊕ Nat) :=
  if ¬ x.k = 0 then (s, .inr 9) else if s.nm x.t.toNat = true then (s, .inr 8) else (s, .inl ⟨x.t.toNat, 0, 0, 0, []⟩)
abbrev spM : Mach where
  S := SpS
  Q := SpQ
  m := 1
  inv := spInv
  acc := fun _ q => spAcc q
  next := fun s q v _ => spNext s q v
  key := fun _ _ => []
def sp0 : SpS := ⟨fun _ => false⟩
def SpQ.at' (q : SpQ) (i j : Nat) : Prop := q.r = i ∧ q.c = j
structure SpW (n : Nat) (ws : List Nat) (nv : Nat → Bool) (O : Nat → Option SpQ) : Prop where
  len : ws.length = 2 * tri n
  th : ∀ e q, O e = some q → q.th < n ∧ q.s ≤ 5
  one : ∀ e f q q', O e = some q → O f = some q' → q.th = q'.th → e = f
  nmd : ∀ t, nv t = true → ∃ e q, O e = some q ∧ q.th = t ∧ q.s = 5
  nm2 : ∀ e q, O e = some q → q.s = 5 → nv q.th = true
  hb : ∀ e q i j d, O e = some q → (i, j, d) ∈ q.h → i + j < n
  hr : ∀ e q i j, O e = some q → (i, j, true) ∈ q.h → i ≤ q.r ∧ j < q.c
  hd : ∀ e q i j, O e = some q → (i, j, false) ∈ q.h → i < q.r ∧ j ≤ q.c
  ur : ∀ e q i i' j, O e = some q → (i, j, true) ∈ q.h → (i', j, true) ∈ q.h → i = i'
  ud : ∀ e q i j j', O e = some q → (i, j, false) ∈ q.h → (i, j', false) ∈ q.h → j = j'
  cr : ∀ e q i j, O e = some q → i ≤ q.r → j ≤ q.c → 1 ≤ i + j → (∃ a, i ≤ a ∧ 1 ≤ j ∧ (a, j - 1, true) ∈ q.h) ∨ (∃ b, j ≤ b ∧ 1 ≤ i ∧ (i - 1, b, false) ∈ q.h)
  -- the second word
  c1 : ∀ i j, i + j < n → ws.getD (2 * spName i j + 1) 0 ≠ 0 → ∃ e q, O e = some q ∧ ((q.at' i j ∧ 4 ≤ q.s) ∨ (i, j, false) ∈ q.h)
  c2 : ∀ e q i j, O e = some q → (i, j, true) ∈ q.h → ws.getD (2 * spName i j + 1) 0 ≠ 0
  c3 : ∀ e q, O e = some q → 4 ≤ q.s → ws.getD (clW q) 0 ≠ 0
  -- the last thread
  l1 : ∀ i j, i + j < n → ws.getD (2 * spName i j) 0 ≠ 0 → ∃ e q, O e = some q ∧ ws.getD (2 * spName i j) 0 = q.th + 1 ∧ ((q.at' i j ∧ 2 ≤ q.s) ∨ (i, j, true) ∈ q.h)
  l2 : ∀ e q i j d, O e = some q → (i, j, d) ∈ q.h → ws.getD (2 * spName i j) 0 ≠ 0
  l3 : ∀ e q, O e = some q → 2 ≤ q.s → ws.getD (lastW q) 0 ≠ 0
  -- at most one stays
  st : ∀ e f q q', O e = some q → O f = some q' → e ≠ f → q.s = 5 → q'.at' q.r q.c → 3 ≤ q'.s → q'.s ≠ 5 ∧ ws.getD (lastW q) 0 ≠ q'.th + 1
section
variable {n : Nat} {ws : List Nat} {nv : Nat → Bool} {O : Nat → Option SpQ}
def cntO (L : Nat) (O : Nat → Option SpQ) (p : SpQ → Bool) : Nat := (List.range L).countP fun e => match O e with | some q => p q | none => false
def regB (i j : Nat) (q : SpQ) : Bool := decide (i ≤ q.r ∧ j ≤ q.c)
theorem cntO_lt {L : Nat} {p p' : SpQ → Bool} (h : ∀ q, p q = true → p' q = true) {e : Nat} {q : SpQ} (he : e < L) (hq : O e = some q) (h1 : p' q = true) (h2 : p q = false) : cntO L O p + 1 ≤ cntO L O p' := by
  unfold cntO
  have key : ∀ l : List Nat, e ∈ l → (l.countP fun e => match O e with | some q => p q | none => false) + 1 ≤ l.countP fun e => match O e with | some q => p' q | none => false := by
    have mono : ∀ l : List Nat, (l.countP fun e => match O e with | some q => p q | none => false) ≤ l.countP fun e => match O e with | some q => p' q | none => false := fun l => List.countP_mono_left fun a _ ha => by
      cases hO : O a with
      | none => simp only [hO] at ha; cases ha
      | some q' => simp only [hO] at ha ⊢; exact h q' ha
    intro l
    induction l with
    | nil => intro hm; cases hm
    | cons a l ih =>
      intro hm
      rw [List.countP_cons, List.countP_cons]
      rcases List.mem_cons.1 hm with rfl | hm
      · have := mono l
        simp only [hq, h1, h2]
        simp
        exact this
      · have := ih hm
        have hh : (if (match O a with | some q => p q | none => false) = true then 1 else 0) ≤ (if (match O a with | some q => p' q | none => false) = true then 1 else 0 : Nat) := by
          cases hO : O a with
          | none => simp
          | some q' =>
            simp only
            by_cases hp : p q' = true
            · rw [if_pos hp, if_pos (h q' hp)]; exact Nat.le_refl _
            · rw [if_neg hp]; exact Nat.zero_le _
        omega
  exact key _ (List.mem_range.2 he)
theorem cntO_pos {L : Nat} {p : SpQ → Bool} {e : Nat} {q : SpQ} (he : e < L) (hq : O e = some q) (h : p q = true) : 1 ≤ cntO L O p := by
  unfold cntO
  exact List.countP_pos_iff.2 ⟨e, List.mem_range.2 he, by simp only [hq]; exact h⟩
/-- whoever came farther: fewer -/
theorem SpW.less (h : SpW n ws nv O) {L : Nat} (hL : ∀ e q, O e = some q → e < L) : ∀ (d i j : Nat), i + j = d → (∃ e q, O e = some q ∧ i ≤ q.r ∧ j ≤ q.c) → cntO L O (regB i j) + i + j ≤ cntO L O (fun _ => true)
  | 0, i, j, hd, _ => by
    obtain rfl : i = 0 := by omega
    obtain rfl : j = 0 := by omega
    have e1 : regB 0 0 = fun _ => true := by
      funext q
      exact decide_eq_true ⟨Nat.zero_le _, Nat.zero_le _⟩
    rw [e1]; exact Nat.le_refl _
  | d + 1, i, j, hd, ⟨e0, q0, hq0, hr0, hc0⟩ => by
    have step : ∀ (i' j' : Nat), i' + j' = d → i' ≤ i → j' ≤ j → (∃ e q, O e = some q ∧ i' ≤ q.r ∧ j' ≤ q.c ∧ ¬ (i ≤ q.r ∧ j ≤ q.c)) → cntO L O (regB i j) + i + j ≤ cntO L O (fun _ => true) := fun i' j' hd' hi hj ⟨e, q, hq, h1, h2, h3⟩ => by
      have ih := h.less hL d i' j' hd' ⟨e, q, hq, h1, h2⟩
      have := cntO_lt (L := L) (O := O) (p := regB i j) (p' := regB i' j') (fun q hp => by have := of_decide_eq_true hp; exact decide_eq_true ⟨by omega, by omega⟩) (hL e q hq) hq (decide_eq_true ⟨h1, h2⟩) (decide_eq_false h3)
      omega
    rcases h.cr e0 q0 i j hq0 hr0 hc0 (by omega) with ⟨a, ha, hj1, hm⟩ | ⟨b, hb, hi1, hm⟩
    · by_cases hno : ∃ e q, O e = some q ∧ i ≤ q.r ∧ j - 1 ≤ q.c ∧ ¬ (i ≤ q.r ∧ j ≤ q.c)
      · exact step i (j - 1) (by omega) (Nat.le_refl _) (by omega) hno
      · exfalso
        have grow : ∀ m : Nat, ∃ a, m ≤ a ∧ i ≤ a ∧ ∃ e q, O e = some q ∧ (a, j - 1, true) ∈ q.h := by
          intro m
          induction m with
          | zero => exact ⟨a, Nat.zero_le _, ha, e0, q0, hq0, hm⟩
          | succ m ih =>
            obtain ⟨a1, g1, g2, e, q, hq, hm1⟩ := ih
            have hb1 := h.hb e q _ _ _ hq hm1
            obtain ⟨e2, q2, hq2, hy⟩ := h.c1 a1 (j - 1) hb1 (h.c2 e q _ _ hq hm1)
            rcases hy with ⟨⟨y1, y2⟩, _⟩ | hy
            · exact absurd ⟨e2, q2, hq2, by omega, by omega, by omega⟩ hno
            · have hdn := h.hd e2 q2 _ _ hq2 hy
              have hin : i ≤ q2.r ∧ j ≤ q2.c := by
                by_cases hin : i ≤ q2.r ∧ j ≤ q2.c
                · exact hin
                · exact absurd ⟨e2, q2, hq2, by omega, by omega, hin⟩ hno
              rcases h.cr e2 q2 (a1 + 1) j hq2 (by omega) hin.2 (by omega) with ⟨a3, k1, _, k3⟩ | ⟨b3, k1, _, k3⟩
              · exact ⟨a3, by omega, by omega, e2, q2, hq2, k3⟩
              · have := h.ud e2 q2 _ _ _ hq2 hy (by simpa using k3)
                omega
        obtain ⟨a1, g1, _, e, q, hq, hm1⟩ := grow n
        have := h.hb e q _ _ _ hq hm1
        omega
    · by_cases hno : ∃ e q, O e = some q ∧ i - 1 ≤ q.r ∧ j ≤ q.c ∧ ¬ (i ≤ q.r ∧ j ≤ q.c)
      · exact step (i - 1) j (by omega) (by omega) (Nat.le_refl _) hno
      · exfalso
        have grow : ∀ m : Nat, ∃ b, m ≤ b ∧ j ≤ b ∧ ∃ e q, O e = some q ∧ (i - 1, b, false) ∈ q.h := by
          intro m
          induction m with
          | zero => exact ⟨b, Nat.zero_le _, hb, e0, q0, hq0, hm⟩
          | succ m ih =>
            obtain ⟨b1, g1, g2, e, q, hq, hm1⟩ := ih
            have hb1 := h.hb e q _ _ _ hq hm1
            obtain ⟨e2, q2, hq2, _, hy⟩ := h.l1 (i - 1) b1 hb1 (h.l2 e q _ _ _ hq hm1)
            rcases hy with ⟨⟨y1, y2⟩, _⟩ | hy
            · exact absurd ⟨e2, q2, hq2, by omega, by omega, by omega⟩ hno
            · have hdn := h.hr e2 q2 _ _ hq2 hy
              have hin : i ≤ q2.r ∧ j ≤ q2.c := by
                by_cases hin : i ≤ q2.r ∧ j ≤ q2.c
                · exact hin
                · exact absurd ⟨e2, q2, hq2, by omega, by omega, hin⟩ hno
              rcases h.cr e2 q2 i (b1 + 1) hq2 hin.1 (by omega) (by omega) with ⟨a3, k1, _, k3⟩ | ⟨b3, k1, _, k3⟩
              · have := h.ur e2 q2 _ _ _ hq2 hy (by simpa using k3)
                omega
              · exact ⟨b3, by omega, by omega, e2, q2, hq2, k3⟩
        obtain ⟨b1, g1, _, e, q, hq, hm1⟩ := grow n
        have := h.hb e q _ _ _ hq hm1
        omega
theorem cntO_th {L : Nat} (hone : ∀ e f q q', O e = some q → O f = some q' → q.th = q'.th → e = f) (bg : Nat → Bool) (hbg : ∀ e q, O e = some q → bg q.th = true) : ∀ m : Nat, cntO L O (fun q => decide (q.th < m)) ≤ (List.range m).countP bg
  | 0 => by
    have : cntO L O (fun q => decide (q.th < 0)) = 0 := by
      unfold cntO
      rw [List.countP_eq_zero]
      intro e _
      cases O e with
      | none => simp
      | some q => simp
    omega
  | m + 1 => by
    have ih := cntO_th hone bg hbg m (L := L)
    rw [List.range_succ, List.countP_append, List.countP_singleton]
    have hsplit : ∀ l : List Nat, (l.countP fun e => match O e with | some q => decide (q.th < m + 1) | none => false) = (l.countP fun e => match O e with | some q => decide (q.th < m) | none => false) + l.countP fun e => match O e with | some q => decide (q.th = m) | none => false := by
      intro l
      induction l with
      | nil => rfl
      | cons a l ih =>
        rw [List.countP_cons, List.countP_cons, List.countP_cons, ih]
        cases hO : O a with
        | none => simp
        | some q =>
          simp only
          by_cases h1 : q.th < m
          · rw [if_pos (decide_eq_true (show q.th < m + 1 by omega)), if_pos (decide_eq_true h1), if_neg (fun h => absurd (of_decide_eq_true h) (show ¬ q.th = m by omega))]; omega
          · by_cases h2 : q.th = m
            · rw [if_pos (decide_eq_true (show q.th < m + 1 by omega)), if_neg (fun h => h1 (of_decide_eq_true h)), if_pos (decide_eq_true h2)]; omega
            · rw [if_neg (fun h => absurd (of_decide_eq_true h) (show ¬ q.th < m + 1 by omega)), if_neg (fun h => h1 (of_decide_eq_true h)), if_neg (fun h => h2 (of_decide_eq_true h))]; omega
    have hle : ((List.range L).countP fun e => match O e with | some q => decide (q.th = m) | none => false) ≤ if bg m = true then 1 else 0 := by
      have h1 : ∀ l : List Nat, l.Nodup → (l.countP fun e => match O e with | some q => decide (q.th = m) | none => false) ≤ 1 := by
        intro l
        induction l with
        | nil => intro _; exact Nat.zero_le _
        | cons a l ih =>
          intro hnd
          rw [List.nodup_cons] at hnd
          rw [List.countP_cons]
          by_cases ha : (match O a with | some q => decide (q.th = m) | none => false) = true
          · have h0 : (l.countP fun e => match O e with | some q => decide (q.th = m) | none => false) = 0 := by
              rw [List.countP_eq_zero]
              intro b hb hbt
              cases hOa : O a with
              | none => simp only [hOa] at ha; cases ha
              | some qa =>
                cases hOb : O b with
                | none => simp only [hOb] at hbt; cases hbt
                | some qb =>
                  simp only [hOa] at ha
                  simp only [hOb] at hbt
                  have e1 := of_decide_eq_true ha
                  have e2 := of_decide_eq_true hbt
                  have := hone a b qa qb hOa hOb (by omega)
                  subst this
                  exact hnd.1 hb
            rw [h0, if_pos ha]; omega
          · have := ih hnd.2
            rw [if_neg ha]; omega
      by_cases hb : bg m = true
      · rw [if_pos hb]; exact h1 _ List.nodup_range
      · rw [if_neg hb, Nat.le_zero, List.countP_eq_zero]
        intro e _ he
        cases hO : O e with
        | none => simp only [hO] at he; cases he
        | some q =>
          simp only [hO] at he
          have e1 := of_decide_eq_true he
          exact hb (by rw [← e1]; exact hbg e q hO)
    have hc := hsplit (List.range L)
    have ih' : ((List.range L).countP fun e => match O e with | some q => decide (q.th < m) | none => false) ≤ (List.range m).countP bg := ih
    show ((List.range L).countP fun e => match O e with | some q => decide (q.th < m + 1) | none => false) ≤ _
    rw [hc]
    exact Nat.add_le_add ih' hle
/-- how far whoever comes -/
theorem SpW.far (h : SpW n ws nv O) {L : Nat} (hL : ∀ e q, O e = some q → e < L) (bg : Nat → Bool) (hbg : ∀ e q, O e = some q → bg q.th = true) {e : Nat} {q : SpQ} (he : O e = some q) : q.r + q.c + 1 ≤ (List.range n).countP bg := by
  have h1 := h.less hL (q.r + q.c) q.r q.c rfl ⟨e, q, he, Nat.le_refl _, Nat.le_refl _⟩
  have h2 := cntO_pos (L := L) (O := O) (p := regB q.r q.c) (hL e q he) he (decide_eq_true ⟨Nat.le_refl _, Nat.le_refl _⟩)
  have h3 := cntO_th (L := L) (O := O) h.one bg hbg n
  have h4 : cntO L O (fun _ => true) = cntO L O (fun q => decide (q.th < n)) := by
    unfold cntO
    refine List.countP_congr fun e _ => ?_
    cases hO : O e with
    | none => simp
    | some q' => simp; exact (h.th e q' hO).1
  omega
theorem SpW.grid (h : SpW n ws nv O) {L : Nat} (hL : ∀ e q, O e = some q → e < L) {e : Nat} {q : SpQ} (he : O e = some q) : q.r + q.c < n := by
  have h1 := h.far hL (fun _ => true) (fun _ _ _ => rfl) he
  have h2 : (List.range n).countP (fun _ => true) ≤ n := by simp
  omega
end
end Go.Proofs.Ytglpalomhhhmhaa
