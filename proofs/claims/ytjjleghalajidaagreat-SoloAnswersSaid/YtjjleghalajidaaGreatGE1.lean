/- solo: what calls answer that are done whole, plainly; rows of words, answers and calls in memory. | Rows of words, answers and calls in memory: what stays, what is stored, what is appended. | Objects that are laid, or not: table.Lay, and the reference's Lay, for any objects. | The reference's New gives a row of the call's own. | solo: the state in memory; check, begin. -/
import Derived.Test.YtjjleghalajidaaGreatGJ6
import Derived.Test.YtjjleghalajidaaGreatGJ1
import Derived.Test.YtjjleghalajidaaGreatGK
import Derived.Deep.AppendLies
namespace Go.Proofs.YtjjleghalajidaaGreat
section
open Go.ChangeShapes Go.WideShapes Go.ChangeAt Go.RowKit
set_option linter.unusedVariables false
set_option linter.unusedSimpArgs false
set_option maxRecDepth 100000

/-- the first error of objects -/
def errGo (n : Int) : List Tb.SpecL → Int
  | [] => 0
  | x :: l => if Tb.tbErr n x.k x.p x.q ≠ 0 then Tb.tbErr n x.k x.p x.q else errGo n l
theorem errGo_err {n : Int} {x : Tb.SpecL} {l : List Tb.SpecL} (h : Tb.tbErr n x.k x.p x.q ≠ 0) : errGo n (x :: l) = Tb.tbErr n x.k x.p x.q := by rw [errGo, if_pos h]
theorem errGo_next {n : Int} {x : Tb.SpecL} {l : List Tb.SpecL} (h : Tb.tbErr n x.k x.p x.q = 0) : errGo n (x :: l) = errGo n l := by rw [errGo, if_neg (by omega)]
theorem errGo_zero {n : Int} : ∀ {l : List Tb.SpecL}, errGo n l = 0 → ∀ x ∈ l, Tb.tbErr n x.k x.p x.q = 0
  | [], _, x, hx => by simp at hx
  | y :: l, h, x, hx => by
    by_cases hy : Tb.tbErr n y.k y.p y.q = 0
    · rw [errGo_next hy] at h
      rcases List.mem_cons.1 hx with rfl | hx
      · exact hy
      · exact errGo_zero h x hx
    · rw [errGo_err hy] at h; exact absurd h hy
/-- what is wrong with objects -/
def laErr (n : Int) (l : List Tb.SpecL) : Int :=
  if ¬ (1 ≤ n ∧ n ≤ 16) then 1 else if 8 < l.length then 3 else if errGo n l ≠ 0 then errGo n l else ((wrongGo (Tb.szs n l) 0 : Nat) : Int)
def thrOk (n : Int) (cs : List CallM) : Bool := cs.all fun c => decide (0 ≤ c.th ∧ c.th < n)
/-- what is wrong with a play done whole -/
def soErr (n : Int) (l : List Tb.SpecL) (cs : List CallM) : Int :=
  if ¬ (1 ≤ n ∧ n ≤ 16) then 1 else if 1000 < cs.length then 3 else if thrOk n cs = false then 1 else laErr n l
theorem laErr_ok {n : Int} {l : List Tb.SpecL} (h : laErr n l = 0) : (1 ≤ n ∧ n ≤ 16) ∧ l.length ≤ 8 ∧ (∀ x ∈ l, Tb.tbErr n x.k x.p x.q = 0) ∧ wrongGo (Tb.szs n l) 0 = 0 := by
  unfold laErr at h
  split at h
  · cases h
  · rename_i h1
    split at h
    · cases h
    · rename_i h2
      split at h
      · rename_i h3; exact absurd h h3
      · rename_i h3
        exact ⟨Decidable.not_not.1 h1, by omega, errGo_zero (Decidable.not_not.1 h3), by omega⟩
theorem soErr_ok {n : Int} {l : List Tb.SpecL} {cs : List CallM} (h : soErr n l cs = 0) : (1 ≤ n ∧ n ≤ 16) ∧ cs.length ≤ 1000 ∧ thrOk n cs = true ∧ laErr n l = 0 := by
  unfold soErr at h
  split at h
  · cases h
  · rename_i h1
    split at h
    · cases h
    · rename_i h2
      split at h
      · cases h
      · rename_i h3
        exact ⟨Decidable.not_not.1 h1, by omega, by simpa using h3, h⟩
theorem thrOk_mem {n : Int} {cs : List CallM} (h : thrOk n cs = true) : ∀ c ∈ cs, 0 ≤ c.th ∧ c.th < n := fun c hc => by
  have := List.all_eq_true.1 h c hc
  simpa using this

/-- objects: their models, and whose value was taken last -/
structure SoS where
  ms : List (List Nat)
  la : List Int
def usedN (t : Int) (m : List Nat) (la : Int) : Nat := mdOwn t.toNat m + (if la = t then 1 else 0)
def sp0 : Tb.SpecL := ⟨0, 0, 0⟩
def soIn (l : List Tb.SpecL) (x : CallM) : Prop := 0 ≤ x.ob ∧ x.ob < l.length
instance (l : List Tb.SpecL) (x : CallM) : Decidable (soIn l x) := by unfold soIn; infer_instance
def soR (n : Int) (l : List Tb.SpecL) (s : SoS) (x : CallM) : MdR :=
  mdOp n (l.getD x.ob.toNat sp0).k (l.getD x.ob.toNat sp0).p (l.getD x.ob.toNat sp0).q (s.ms.getD x.ob.toNat []) x
def soFull (n : Int) (l : List Tb.SpecL) (s : SoS) (x : CallM) : Prop :=
  (l.getD x.ob.toNat sp0).k = 8 ∧ (soR n l s x).err = 0 ∧ x.kd ≠ 1 ∧ (l.getD x.ob.toNat sp0).p ≤ (usedN x.th (s.ms.getD x.ob.toNat []) (s.la.getD x.ob.toNat (-1)) : Int)
def soTake (n : Int) (l : List Tb.SpecL) (s : SoS) (x : CallM) : Prop := (l.getD x.ob.toNat sp0).k = 8 ∧ (soR n l s x).err = 0 ∧ x.kd = 1
instance (n : Int) (l : List Tb.SpecL) (s : SoS) (x : CallM) : Decidable (soFull n l s x) := by unfold soFull; infer_instance
instance (n : Int) (l : List Tb.SpecL) (s : SoS) (x : CallM) : Decidable (soTake n l s x) := by unfold soTake; infer_instance
/-- one call: what then, and its answer -/
def soStep (n : Int) (l : List Tb.SpecL) (s : SoS) (x : CallM) : SoS × MdR :=
  if ¬ soIn l x then (s, ⟨[], 12, 0, []⟩)
  else if soFull n l s x then (s, ⟨[], 6, 0, []⟩)
  else (⟨s.ms.set x.ob.toNat (soR n l s x).st, if soTake n l s x then s.la.set x.ob.toNat ((s.ms.getD x.ob.toNat []).getD 0 0 : Nat) else s.la⟩, ⟨[], (soR n l s x).err, (soR n l s x).val, (soR n l s x).ls⟩)
def soRun (n : Int) (l : List Tb.SpecL) : SoS → List MdR → List CallM → SoS × List MdR
  | s, az, [] => (s, az)
  | s, az, x :: cs => soRun n l (soStep n l s x).1 (az ++ [(soStep n l s x).2]) cs
theorem soRun_next {n : Int} {l : List Tb.SpecL} {s s' : SoS} {az : List MdR} {a : MdR} {x : CallM} {cs : List CallM} (h : soStep n l s x = (s', a)) : soRun n l s az (x :: cs) = soRun n l s' (az ++ [a]) cs := by
  rw [soRun, h]
theorem soRun_len {n : Int} {l : List Tb.SpecL} : ∀ (cs : List CallM) (s : SoS) (az : List MdR), (soRun n l s az cs).2.length = az.length + cs.length
  | [], s, az => by simp [soRun]
  | x :: cs, s, az => by rw [soRun, soRun_len cs]; simp; omega
/-- objects at first -/
def soNew (n : Int) (l : List Tb.SpecL) : SoS := ⟨l.map fun x => mdNew n x.k x.p, l.map fun _ => -1⟩

/-- the even words of a queue's model are threads -/
def qThr : List Nat → Prop
  | x :: _ :: r => x < 16 ∧ qThr r
  | _ => True
theorem qThr_app : ∀ {m : List Nat} {t a : Nat}, m.length % 2 = 0 → qThr m → t < 16 → qThr (m ++ [t, a])
  | [], t, a, _, _, ht => ⟨ht, trivial⟩
  | [x], t, a, h, _, _ => by simp at h
  | x :: y :: r, t, a, h, hq, ht => ⟨hq.1, qThr_app (by simp only [List.length_cons] at h; omega) hq.2 ht⟩
theorem qThr_drop : ∀ {m : List Nat}, qThr m → qThr (m.drop 2)
  | [], h => trivial
  | [x], h => trivial
  | x :: y :: r, h => h.2
theorem qThr_head : ∀ {m : List Nat}, m.length % 2 = 0 → qThr m → m ≠ [] → m.getD 0 0 < 16
  | [], _, _, h => absurd rfl h
  | [x], h, _, _ => by simp at h
  | x :: y :: r, _, h, _ => h.1
theorem own_app {t : Nat} : ∀ {m : List Nat} {u a : Nat}, m.length % 2 = 0 → mdOwn t (m ++ [u, a]) = mdOwn t m + (if u = t then 1 else 0)
  | [], u, a, _ => by simp [mdOwn]
  | [x], u, a, h => by simp at h
  | x :: y :: r, u, a, h => by
    have := own_app (t := t) (m := r) (u := u) (a := a) (by simp only [List.length_cons] at h; omega)
    simp only [List.cons_append, mdOwn]
    omega
theorem own_drop {t : Nat} : ∀ {m : List Nat}, m ≠ [] → m.length % 2 = 0 → mdOwn t m = mdOwn t (m.drop 2) + (if m.getD 0 0 = t then 1 else 0)
  | [], h, _ => absurd rfl h
  | [x], _, h => by simp at h
  | x :: y :: r, _, _ => by simp [mdOwn]; omega

/-- one object is az it may be -/
structure ObOk (n : Int) (x : Tb.SpecL) (m : List Nat) (la : Int) (j : Nat) : Prop where
  is : mdIs n x.k x.p m = true
  words : AllW m
  lb : -1 ≤ la ∧ la < 16
  thr : x.k = 8 → qThr m
  len : x.k = 8 → m.length ≤ 2 * j
  used : x.k = 8 → ∀ t : Int, 0 ≤ t ∧ t < n → (usedN t m la : Int) ≤ x.p
structure SoOk (n : Int) (l : List Tb.SpecL) (s : SoS) (j : Nat) : Prop where
  lm : s.ms.length = l.length
  ll : s.la.length = l.length
  ob : ∀ (i : Nat) (x : Tb.SpecL), l[i]? = some x → ObOk n x (s.ms.getD i []) (s.la.getD i (-1)) j
theorem ObOk.mono {n : Int} {x : Tb.SpecL} {m : List Nat} {la : Int} {j j' : Nat} (h : ObOk n x m la j) (hj : j ≤ j') : ObOk n x m la j' := ⟨h.is, h.words, h.lb, h.thr, fun e => by have := h.len e; omega, h.used⟩
theorem mdIs_len {n k p q : Int} {m : List Nat} (hok : Tb.tbErr n k p q = 0) (h : mdIs n k p m = true) (h8 : k ≠ 8) : m.length ≤ 64 := by
  have ho := okS hok
  unfold mdIs at h
  split at h
  · rw [Bool.and_eq_true, decide_eq_true_eq] at h
    have h2 := h.2
    unfold sqRight at h2
    simp only [Bool.and_eq_true, decide_eq_true_eq] at h2
    have := sqHi_le p.toNat
    have h3 := List.length_tail (l := m)
    omega
  · rename_i h7
    first
      | (rw [decide_eq_true_eq] at h
         have := (mdLen_bd ho h7).2; omega)
      | (split at h
         · rename_i h9; exact absurd h9 h8
         · rw [decide_eq_true_eq] at h
           have := (mdLen_bd ho h7).2; omega)
      | (rw [if_neg h8, decide_eq_true_eq] at h
         have := (mdLen_bd ho h7).2; omega)
theorem ObOk.small {n : Int} {x : Tb.SpecL} {m : List Nat} {la : Int} {j : Nat} (h : ObOk n x m la j) (hok : Tb.tbErr n x.k x.p x.q = 0) (hj : j ≤ 1000) : m.length ≤ 2000 := by
  by_cases h8 : x.k = 8
  · have := h.len h8; omega
  · have := mdIs_len hok h.is h8; omega
theorem getD_some' {α : Type} {l : List α} {i : Nat} {x d : α} (h : l[i]? = some x) : l.getD i d = x := by rw [List.getD_eq_getElem?_getD, h]; rfl
theorem lo_le_hi' (x : Nat) : sqLo x ≤ sqHi x := by
  unfold sqLo sqHi
  repeat' split
  all_goals omega
theorem mdIs_new_of {n k p q : Int} (hok : Tb.tbErr n k p q = 0) : mdIs n k p (mdNew n k p) = true := by
  have h := okS hok
  unfold mdIs
  split
  · rename_i h7
    subst h7
    have e : mdNew n 7 p = 0 :: List.replicate (sqLo p.toNat) 0 := by
      unfold mdNew mdNL; rw [if_pos rfl, Nat.add_comm, List.replicate_succ]
    rw [e]
    have hp := (h.h7 rfl).1
    have := sqLo_le p.toNat
    unfold sqRight
    rw [sqIs_yes hp]
    simp only [List.length_cons, List.tail_cons, List.length_replicate, Bool.true_and, Bool.and_eq_true, decide_eq_true_eq]
    exact ⟨by omega, by omega, lo_le_hi' _⟩
  · rename_i h7
    split
    · rename_i h8
      subst h8
      rfl
    · unfold mdNew mdNL
      rw [if_neg h7, List.length_replicate, decide_eq_true_eq]
      have := (mdLen_bd h h7).1
      omega
theorem soOk_new {n : Int} {l : List Tb.SpecL} (h : ∀ x ∈ l, Tb.tbErr n x.k x.p x.q = 0) : SoOk n l (soNew n l) 0 := by
  refine ⟨by simp [soNew], by simp [soNew], fun i x hx => ?_⟩
  have hok := h x (List.mem_of_getElem? hx)
  have ho := okS hok
  have e1 : (soNew n l).ms.getD i [] = mdNew n x.k x.p := getD_some' (by simp [soNew, hx])
  have e2 : (soNew n l).la.getD i (-1) = -1 := getD_some' (by simp [soNew, hx])
  rw [e1, e2]
  have e8 : x.k = 8 → mdNew n x.k x.p = [] := fun e => by rw [e]; rfl
  refine ⟨mdIs_new_of hok, mdNew_words _ _ _, by omega, fun e => by rw [e8 e]; trivial, fun e => by rw [e8 e]; simp, fun e t ht => ?_⟩
  rw [e8 e]
  unfold usedN
  rw [if_neg (by omega)]
  have := ho.h8 e
  simp only [mdOwn]
  omega

theorem mdOp_queue {n p q : Int} {m : List Nat} {x : CallM} : mdOp n 8 p q m x = (if ¬ (0 ≤ x.kd ∧ x.kd < 2) then ⟨m, 9, 0, []⟩ else mdQ m x.th x.kd x.a) := by
  unfold mdOp
  have : Tb.tbKn 8 p = 2 := rfl
  rw [this]
  split
  · rfl
  · simp
/-- a queue's operation that goes on -/
theorem queue_goes {n p q : Int} {m : List Nat} {x : CallM} (h : (mdOp n 8 p q m x).err = 0) : (x.kd = 0 ∧ mdOp n 8 p q m x = ⟨m ++ [x.th.toNat, x.a], 0, 0, []⟩) ∨ (x.kd = 1 ∧ m ≠ [] ∧ mdOp n 8 p q m x = ⟨m.drop 2, 0, m.getD 1 0, []⟩) := by
  rw [mdOp_queue] at h ⊢
  split at h
  · cases h
  · rename_i hk
    rw [if_neg hk]
    rw [Decidable.not_not] at hk
    unfold mdQ at h ⊢
    rw [if_neg (Decidable.not_not.2 hk)] at h ⊢
    by_cases h0 : x.kd = 0
    · rw [if_pos h0] at h ⊢
      split at h
      · cases h
      · rename_i h1; rw [if_neg h1]; exact .inl ⟨h0, rfl⟩
    · rw [if_neg h0] at h ⊢
      split at h
      · cases h
      · rename_i h1; rw [if_neg h1]; exact .inr ⟨by omega, h1, rfl⟩
theorem queue_stays {n p q : Int} {m : List Nat} {x : CallM} (h : (mdOp n 8 p q m x).err ≠ 0) : (mdOp n 8 p q m x).st = m := by
  rw [mdOp_queue] at h ⊢
  split
  · rfl
  · rename_i hk
    rw [if_neg hk] at h
    unfold mdQ at h ⊢
    rw [if_neg hk] at h ⊢
    split
    · rename_i h0
      rw [if_pos h0] at h
      split
      · rfl
      · rename_i h1; rw [if_neg h1] at h; exact absurd rfl h
    · rename_i h0
      rw [if_neg h0] at h
      split
      · rename_i h1; rfl
      · rename_i h1; rw [if_neg h1] at h; exact absurd rfl h

theorem ObOk.step {n : Int} {x : Tb.SpecL} {m : List Nat} {la : Int} {j : Nat} {c : CallM} (h : ObOk n x m la j) (hok : Tb.tbErr n x.k x.p x.q = 0) (hx : c.Ok) (hth : 0 ≤ c.th ∧ c.th < n)
    (hf : ¬ (x.k = 8 ∧ (mdOp n x.k x.p x.q m c).err = 0 ∧ c.kd ≠ 1 ∧ x.p ≤ (usedN c.th m la : Int))) :
    ObOk n x (mdOp n x.k x.p x.q m c).st (if x.k = 8 ∧ (mdOp n x.k x.p x.q m c).err = 0 ∧ c.kd = 1 then (m.getD 0 0 : Nat) else la) (j + 1) := by
  have hn := (okS hok).n16
  refine ⟨mdOp_is n x.k x.p x.q m c hok h.is, mdOp_words n x.k x.p x.q m c hok hx hth h.words, ?_, ?_, ?_, ?_⟩
  · split
    · rename_i h1
      obtain ⟨h8, he, hk⟩ := h1
      have h2 : m.length % 2 = 0 := by have := h.is; rw [h8] at this; simpa [mdIs] using this
      rw [h8] at he
      rcases queue_goes he with ⟨h3, _⟩ | ⟨_, h3, _⟩
      · omega
      · have := qThr_head h2 (h.thr h8) h3; omega
    · exact h.lb
  all_goals intro h8
  all_goals have h2 : m.length % 2 = 0 := by have := h.is; rw [h8] at this; simpa [mdIs] using this
  all_goals have ht := h.thr h8
  all_goals have hl := h.len h8
  all_goals have hu := h.used h8
  all_goals rw [h8]
  all_goals by_cases he : (mdOp n 8 x.p x.q m c).err = 0
  · rcases queue_goes he with ⟨_, e⟩ | ⟨_, _, e⟩ <;> rw [e]
    · exact qThr_app h2 ht (by omega)
    · exact qThr_drop ht
  · rw [queue_stays he]; exact ht
  · rcases queue_goes he with ⟨_, e⟩ | ⟨_, _, e⟩ <;> rw [e] <;> simp <;> omega
  · rw [queue_stays he]; omega
  · intro t htn
    have hut := hu t htn
    rcases queue_goes he with ⟨hk, e⟩ | ⟨hk, hm, e⟩
    · have hcc : ¬ ((8 : Int) = 8 ∧ (mdOp n 8 x.p x.q m c).err = 0 ∧ c.kd = 1) := fun h => by omega
      rw [if_neg hcc, e]
      unfold usedN at hut ⊢
      show ((mdOwn t.toNat (m ++ [c.th.toNat, c.a]) + _ : Nat) : Int) ≤ _
      rw [own_app h2]
      by_cases hct : c.th = t
      · subst hct
        have hlt : ¬ x.p ≤ (usedN c.th m la : Int) := fun hp => hf ⟨h8, by rw [h8]; exact he, by omega, hp⟩
        unfold usedN at hlt
        rw [if_pos rfl]; omega
      · rw [if_neg (by omega)]; omega
    · have hcc : (8 : Int) = 8 ∧ (mdOp n 8 x.p x.q m c).err = 0 ∧ c.kd = 1 := ⟨rfl, he, hk⟩
      rw [if_pos hcc, e]
      unfold usedN at hut ⊢
      show ((mdOwn t.toNat (m.drop 2) + _ : Nat) : Int) ≤ _
      have := own_drop (t := t.toNat) hm h2
      by_cases hg : m.getD 0 0 = t.toNat
      · rw [if_pos hg] at this
        rw [if_pos (by omega)]
        split at hut <;> omega
      · rw [if_neg hg] at this
        rw [if_neg (by omega)]
        split at hut <;> omega
  · intro t htn
    have hcc : ¬ ((8 : Int) = 8 ∧ (mdOp n 8 x.p x.q m c).err = 0 ∧ c.kd = 1) := fun h => he h.2.1
    rw [if_neg hcc, queue_stays he]
    exact hu t htn

theorem getD_set_same {α : Type} {l : List α} {i : Nat} {x d : α} (h : i < l.length) : (l.set i x).getD i d = x := by
  rw [List.getD_eq_getElem?_getD, List.getElem?_set_self h]; rfl
theorem getD_set_ne {α : Type} {l : List α} {i j : Nat} {x d : α} (h : i ≠ j) : (l.set i x).getD j d = l.getD j d := by
  rw [List.getD_eq_getElem?_getD, List.getElem?_set_ne h, ← List.getD_eq_getElem?_getD]

theorem SoOk.mono {n : Int} {l : List Tb.SpecL} {s : SoS} {j j' : Nat} (h : SoOk n l s j) (hj : j ≤ j') : SoOk n l s j' := ⟨h.lm, h.ll, fun i x hx => (h.ob i x hx).mono hj⟩
theorem SoOk.step {n : Int} {l : List Tb.SpecL} {s : SoS} {j : Nat} {c : CallM} (h : SoOk n l s j) (hok : ∀ x ∈ l, Tb.tbErr n x.k x.p x.q = 0) (hc : c.Ok) (hth : 0 ≤ c.th ∧ c.th < n) : SoOk n l (soStep n l s c).1 (j + 1) := by
  unfold soStep
  split
  · exact h.mono (by omega)
  · rename_i hin
    rw [Decidable.not_not] at hin
    unfold soIn at hin
    split
    · exact h.mono (by omega)
    · rename_i hf
      obtain ⟨x, hx⟩ : ∃ x, l[c.ob.toNat]? = some x := ⟨_, List.getElem?_eq_getElem (show c.ob.toNat < l.length by omega)⟩
      have ex : l.getD c.ob.toNat sp0 = x := getD_some' hx
      have hs := (h.ob _ _ hx).step (hok x (List.mem_of_getElem? hx)) hc hth (by unfold soFull soR at hf; rw [ex] at hf; exact hf)
      refine ⟨by simp [h.lm], by simp only; split <;> simp [h.ll], fun i y hy => ?_⟩
      have hi := (List.getElem?_eq_some_iff.1 hx).1
      by_cases hic : i = c.ob.toNat
      · subst hic
        rw [hx] at hy; cases hy
        simp only
        rw [getD_set_same (by rw [h.lm]; exact hi)]
        have e2 : (if soTake n l s c then s.la.set c.ob.toNat ((s.ms.getD c.ob.toNat []).getD 0 0 : Nat) else s.la).getD c.ob.toNat (-1) = (if x.k = 8 ∧ (mdOp n x.k x.p x.q (s.ms.getD c.ob.toNat []) c).err = 0 ∧ c.kd = 1 then (((s.ms.getD c.ob.toNat []).getD 0 0 : Nat) : Int) else s.la.getD c.ob.toNat (-1)) := by
          by_cases ht : soTake n l s c
          · have ht' := ht
            unfold soTake soR at ht'
            rw [ex] at ht'
            rw [if_pos ht, if_pos ht', getD_set_same (by rw [h.ll]; exact hi)]
          · have ht' := ht
            unfold soTake soR at ht'
            rw [ex] at ht'
            rw [if_neg ht, if_neg ht']
        rw [e2]
        unfold soR
        rw [ex]
        exact hs
      · have := (h.ob i y hy).mono (show j ≤ j + 1 by omega)
        simp only
        rw [getD_set_ne (fun e => hic e.symm)]
        have e2 : (if soTake n l s c then s.la.set c.ob.toNat ((s.ms.getD c.ob.toNat []).getD 0 0 : Nat) else s.la).getD i (-1) = s.la.getD i (-1) := by
          split
          · exact getD_set_ne (fun e => hic e.symm)
          · rfl
        rw [e2]
        exact this
end
section
open Go.ChangeShapes Go.WideShapes Go.ChangeAt Go.RowKit Go.Maps
set_option linter.unusedVariables false
set_option linter.unusedSimpArgs false
set_option maxRecDepth 100000

/-- the block of a slice that is not empty -/
def blkOf : Value → Option Nat
  | .slice (some ad) (n + 1) _ => some ad.block
  | _ => none
theorem ArgB.blk {w : World} {B : Nat} {u : Value} {m : List Nat} (h : ArgB w B u m) {b : Nat} (hb : blkOf u = some b) : B ≤ b ∧ b < w.heap.size := by
  obtain ⟨ao, b', o, cap, rfl, h1, h2, h3⟩ := h
  cases m with
  | nil => cases ao <;> simp [blkOf] at hb
  | cons x m =>
    obtain ⟨rfl, hB⟩ := h1 (by simp)
    simp only [List.length_cons, blkOf, Option.some.injEq] at hb
    subst hb
    exact ⟨hB, World.block_lt_of_cell? w _ (h3 0 x rfl)⟩
theorem ArgB.keepE {w w' : World} {B : Nat} {u : Value} {m : List Nat} (h : ArgB w B u m) (hk : ∀ b, blkOf u = some b → w'.heap[b]? = w.heap[b]?) : ArgB w' B u m := by
  obtain ⟨ao, b', o, cap, rfl, h1, h2, h3⟩ := h
  refine ⟨ao, b', o, cap, rfl, h1, h2, fun i x hx => ?_⟩
  have hl : 0 < m.length := by have := (List.getElem?_eq_some_iff.1 hx).1; omega
  obtain ⟨rfl, hB⟩ := h1 hl
  have e := hk b' (by cases m with | nil => simp at hl | cons x m => rfl)
  exact (World.cell?_of_block (a := ⟨b', o + i, none⟩) e).trans (h3 i x hx)
/-- no slice of words lies in that row's block -/
def Off (r : Value) (us : List Value) : Prop := ∀ u ∈ us, ∀ b, blkOf u = some b → r.ownBlock ≠ some b
theorem Off.nil (r : Value) : Off r [] := fun u h => by simp at h
theorem Off.none' {r : Value} (us : List Value) (h : r.ownBlock = none) : Off r us := fun u _ b _ e => by rw [h] at e; cases e
theorem Off.app {r : Value} {us vs : List Value} (h : Off r us) (k : Off r vs) : Off r (us ++ vs) := fun u hu b hb => by
  rcases List.mem_append.1 hu with hu | hu
  · exact h u hu b hb
  · exact k u hu b hb
theorem Off.one {r u : Value} (h : ∀ b, blkOf u = some b → r.ownBlock ≠ some b) : Off r [u] := fun u' hu b hb => by
  rw [List.mem_singleton.1 hu] at hb; exact h b hb
theorem Off.set {r : Value} {us : List Value} (h : Off r us) (i : Nat) {u : Value} (k : ∀ b, blkOf u = some b → r.ownBlock ≠ some b) : Off r (us.set i u) := fun u' hu b hb => by
  rcases List.mem_or_eq_of_mem_set hu with hu | rfl
  · exact h u' hu b hb
  · exact k b hb
/-- a row's block is elder than those words -/
theorem off_new {w w1 : World} {B C : Nat} {e : TypeId} {s n : Nat} {r u : Value} {xs : List Value} {m : List Nat} (hr : w.ownsRow C e s r n xs) (hu : ArgB w1 B u m) (hB : w.heap.size ≤ B) : ∀ b, blkOf u = some b → r.ownBlock ≠ some b := fun b hb e => by
  have := (hr.lt b e).2
  have := (hu.blk hb).1
  omega

/-- slices of words -/
def WsAt (w : World) (C : Nat) (us : List Value) (ms : List (List Nat)) : Prop := us.length = ms.length ∧ ∀ (i : Nat) (u : Value) (m : List Nat), us[i]? = some u → ms[i]? = some m → ArgB w C u m ∧ Room u
theorem WsAt.nil (w : World) (C : Nat) : WsAt w C [] [] := ⟨rfl, fun i u m h => by simp at h⟩
theorem WsAt.lt {w : World} {C : Nat} {us : List Value} {ms : List (List Nat)} (h : WsAt w C us ms) {u : Value} (hu : u ∈ us) {b : Nat} (hb : blkOf u = some b) : C ≤ b ∧ b < w.heap.size := by
  obtain ⟨i, hi⟩ := List.mem_iff_getElem?.1 hu
  have hl := (List.getElem?_eq_some_iff.1 hi).1
  obtain ⟨m, hm⟩ : ∃ m, ms[i]? = some m := ⟨_, List.getElem?_eq_getElem (by rw [← h.1]; exact hl)⟩
  exact (h.2 i u m hi hm).1.blk hb
theorem WsAt.keepE {w w' : World} {C : Nat} {us : List Value} {ms : List (List Nat)} (h : WsAt w C us ms) (hk : ∀ u ∈ us, ∀ b, blkOf u = some b → w'.heap[b]? = w.heap[b]?) : WsAt w' C us ms :=
  ⟨h.1, fun i u m hu hm => ⟨(h.2 i u m hu hm).1.keepE (hk u (List.mem_of_getElem? hu)), (h.2 i u m hu hm).2⟩⟩
theorem WsAt.below {w w' : World} {C : Nat} {us : List Value} {ms : List (List Nat)} (h : WsAt w C us ms) (hb : Below w.heap.size w w') : WsAt w' C us ms := h.keepE fun u hu b hbl => hb.block b (h.lt hu hbl).2
theorem WsAt.set {w : World} {C : Nat} {us : List Value} {ms : List (List Nat)} (h : WsAt w C us ms) (i : Nat) {u : Value} {m : List Nat} (hu : ArgB w C u m) (hr : Room u) : WsAt w C (us.set i u) (ms.set i m) := by
  refine ⟨by simp [h.1], fun j u' m' h1 h2 => ?_⟩
  rw [List.getElem?_set] at h1 h2
  by_cases hij : i = j
  · subst hij
    rw [if_pos rfl] at h1 h2
    split at h1 <;> split at h2 <;> cases h1 <;> cases h2
    exact ⟨hu, hr⟩
  · rw [if_neg hij] at h1 h2
    exact h.2 j u' m' h1 h2
theorem WsAt.snoc {w : World} {C : Nat} {us : List Value} {ms : List (List Nat)} (h : WsAt w C us ms) {u : Value} {m : List Nat} (hu : ArgB w C u m) (hr : Room u) : WsAt w C (us ++ [u]) (ms ++ [m]) := by
  refine ⟨by simp [h.1], fun j u' m' h1 h2 => ?_⟩
  rcases Nat.lt_trichotomy j us.length with hl | hl | hl
  · rw [List.getElem?_append_left hl] at h1
    rw [List.getElem?_append_left (by rw [← h.1]; exact hl)] at h2
    exact h.2 j u' m' h1 h2
  · subst hl
    rw [List.getElem?_append_right (Nat.le_refl _), Nat.sub_self] at h1
    rw [h.1, List.getElem?_append_right (Nat.le_refl _), Nat.sub_self] at h2
    cases h1; cases h2
    exact ⟨hu, hr⟩
  · rw [List.getElem?_eq_none (by simp; omega)] at h1; cases h1

/-- answers in a row -/
def ansVs (l : List (MdR × Value)) : List Value := l.flatMap fun p => [.int .i64 (p.1.err : Int), .int .u64 (p.1.val : Int), p.2]
theorem ansVs_snoc (l : List (MdR × Value)) (p : MdR × Value) : ansVs (l ++ [p]) = ansVs l ++ [.int .i64 (p.1.err : Int), .int .u64 (p.1.val : Int), p.2] := by simp [ansVs]
theorem ansVs_get : ∀ {l : List (MdR × Value)} {i : Nat} {p : MdR × Value}, l[i]? = some p → (ansVs l)[i * 3]? = some (.int .i64 (p.1.err : Int)) ∧ (ansVs l)[i * 3 + 1]? = some (.int .u64 (p.1.val : Int)) ∧ (ansVs l)[i * 3 + 2]? = some p.2
  | [], i, p, h => by simp at h
  | q :: l, 0, p, h => by cases h; exact ⟨rfl, rfl, rfl⟩
  | q :: l, i + 1, p, h => by
    have hp := ansVs_get (l := l) (i := i) (p := p) (by simpa using h)
    have e : ansVs (q :: l) = .int .i64 (q.1.err : Int) :: .int .u64 (q.1.val : Int) :: q.2 :: ansVs l := rfl
    rw [e, show (i + 1) * 3 = i * 3 + 1 + 1 + 1 by omega]
    exact hp
def LsAt (w : World) (C : Nat) (l : List (MdR × Value)) : Prop := ∀ p ∈ l, ArgB w C p.2 p.1.ls
theorem LsAt.keepE {w w' : World} {C : Nat} {l : List (MdR × Value)} (h : LsAt w C l) (hk : ∀ p ∈ l, ∀ b, blkOf p.2 = some b → w'.heap[b]? = w.heap[b]?) : LsAt w' C l := fun p hp => (h p hp).keepE (hk p hp)
theorem LsAt.below {w w' : World} {C : Nat} {l : List (MdR × Value)} (h : LsAt w C l) (hb : Below w.heap.size w w') : LsAt w' C l := h.keepE fun p hp b hbl => hb.block b ((h p hp).blk hbl).2
theorem LsAt.snoc {w : World} {C : Nat} {l : List (MdR × Value)} (h : LsAt w C l) {p : MdR × Value} (hp : ArgB w C p.2 p.1.ls) : LsAt w C (l ++ [p]) := fun q hq => by
  rcases List.mem_append.1 hq with hq | hq
  · exact h q hq
  · rw [List.mem_singleton.1 hq]; exact hp
/-- answers, in a row of the call's own: these are az -/
structure AnsW (w : World) (C : Nat) (v : Value) (az : List MdR) (l : List (MdR × Value)) : Prop where
  eq : l.map (·.1) = az
  row : w.ownsRow C 57 3 v az.length (ansVs l)
  ls : LsAt w C l
  off : Off v (l.map (·.2))
theorem AnsW.none' (w : World) (C : Nat) : AnsW w C (.slice none 0 0) [] [] := ⟨rfl, World.ownsRow_nil _ _ _ _, fun p h => by simp at h, Off.nil _⟩
theorem AnsW.keep {w w' : World} {C : Nat} {v : Value} {az : List MdR} {l : List (MdR × Value)} (h : AnsW w C v az l) {row : Option Nat} (hg : w.grownBy w' row) (hr : v.ownBlock = none ∨ v.ownBlock ≠ row) (ho : ∀ p ∈ l, ∀ b, blkOf p.2 = some b → some b ≠ row) : AnsW w' C v az l :=
  ⟨h.eq, h.row.kept hg hr, h.ls.keepE fun p hp b hb => hg.block b ((h.ls p hp).blk hb).2 (ho p hp b hb), h.off⟩
theorem grown_below {w w' : World} (h : Below w.heap.size w w') : w.grownBy w' none := ⟨h.os, h.tape, h.output, h.size, fun k hk _ => h.block k hk⟩
theorem AnsW.below {w w' : World} {C : Nat} {v : Value} {az : List MdR} {l : List (MdR × Value)} (h : AnsW w C v az l) (hb : Below w.heap.size w w') : AnsW w' C v az l :=
  h.keep (grown_below hb) (by cases hv : v.ownBlock with | none => exact .inl rfl | some g => exact .inr (fun e => by cases e)) (fun _ _ _ _ e => by cases e)

/-- calls lie in a row -/
def CallsM (w : World) (b o : Nat) (l : List CallM) : Prop :=
  ∀ (i : Nat) (x : CallM), l[i]? = some x → w.cell? ⟨b, o + i * 6, none⟩ = some (.int .i64 x.th) ∧ w.cell? ⟨b, o + i * 6 + 1, none⟩ = some (.int .i64 x.ob) ∧ w.cell? ⟨b, o + i * 6 + 2, none⟩ = some (.int .i64 x.kd) ∧ w.cell? ⟨b, o + i * 6 + 3, none⟩ = some (.int .u64 (x.a : Int)) ∧ w.cell? ⟨b, o + i * 6 + 4, none⟩ = some (.int .u64 (x.b : Int)) ∧ w.cell? ⟨b, o + i * 6 + 5, none⟩ = some (.int .u64 (x.c : Int))
theorem CallsM.keep {w w' : World} {b o : Nat} {l : List CallM} (h : CallsM w b o l) (hb : 0 < l.length → w'.heap[b]? = w.heap[b]?) : CallsM w' b o l := fun i x hx => by
  have e := hb (by have := (List.getElem?_eq_some_iff.1 hx).1; omega)
  obtain ⟨h0, h1, h2, h3, h4, h5⟩ := h i x hx
  exact ⟨(World.cell?_of_block (a := ⟨b, _, none⟩) e).trans h0, (World.cell?_of_block (a := ⟨b, _, none⟩) e).trans h1, (World.cell?_of_block (a := ⟨b, _, none⟩) e).trans h2, (World.cell?_of_block (a := ⟨b, _, none⟩) e).trans h3, (World.cell?_of_block (a := ⟨b, _, none⟩) e).trans h4, (World.cell?_of_block (a := ⟨b, _, none⟩) e).trans h5⟩
theorem CallsM.stays {w wr : World} {b o B : Nat} {l : List CallM} (h : CallsM w b o l) (hb : Below B w wr) (hB : 0 < l.length → b < B) : CallsM wr b o l := h.keep fun hl => hb.block b (hB hl)
theorem CallsM.lt {w : World} {b o : Nat} {l : List CallM} (h : CallsM w b o l) (hl : 0 < l.length) : b < w.heap.size := by
  obtain ⟨x, hx⟩ : ∃ x, l[0]? = some x := ⟨_, List.getElem?_eq_getElem hl⟩
  exact World.block_lt_of_cell? w _ (h 0 x hx).1
theorem specs_lt {w : World} {b o : Nat} {l : List Tb.SpecL} (h : Tb.SpecsAt w b o l) (hl : 0 < l.length) : b < w.heap.size := by
  obtain ⟨x, hx⟩ : ∃ x, l[0]? = some x := ⟨_, List.getElem?_eq_getElem hl⟩
  exact World.block_lt_of_cell? w _ (h 0 x hx).1
theorem specs_keep {w w' : World} {b o : Nat} {l : List Tb.SpecL} (h : Tb.SpecsAt w b o l) (hb : 0 < l.length → w'.heap[b]? = w.heap[b]?) : Tb.SpecsAt w' b o l := fun i x hx => by
  have e := hb (by have := (List.getElem?_eq_some_iff.1 hx).1; omega)
  obtain ⟨h0, h1, h2⟩ := h i x hx
  exact ⟨(World.cell?_of_block (a := ⟨b, _, none⟩) e).trans h0, (World.cell?_of_block (a := ⟨b, _, none⟩) e).trans h1, (World.cell?_of_block (a := ⟨b, _, none⟩) e).trans h2⟩
theorem drop_callsM {l : List CallM} {j : Nat} {x : CallM} (h : l[j]? = some x) : l.drop j = x :: l.drop (j + 1) := by
  have hl := (List.getElem?_eq_some_iff.1 h).1
  rw [List.drop_eq_getElem_cons hl]
  rw [List.getElem?_eq_getElem hl, Option.some.injEq] at h
  rw [h]
theorem drop_specsM {l : List Tb.SpecL} {j : Nat} {x : Tb.SpecL} (h : l[j]? = some x) : l.drop j = x :: l.drop (j + 1) := by
  have hl := (List.getElem?_eq_some_iff.1 h).1
  rw [List.drop_eq_getElem_cons hl]
  rw [List.getElem?_eq_getElem hl, Option.some.injEq] at h
  rw [h]
end
section
open Go.ChangeShapes Go.WideShapes Go.ChangeAt Go.RowKit Go.Maps
set_option linter.unusedVariables false
set_option linter.unusedSimpArgs false
set_option maxRecDepth 100000

theorem szs_get {n : Int} {l : List Tb.SpecL} {j : Nat} {x : Tb.SpecL} (h : l[j]? = some x) : (Tb.szs n l)[j]? = some (Tb.tbN n x.k x.p x.q) := by unfold Tb.szs; rw [List.getElem?_map, h]; rfl
theorem szs_len (n : Int) (l : List Tb.SpecL) : (Tb.szs n l).length = l.length := by simp [Tb.szs]
theorem szV_ints (n : Int) (l : List Tb.SpecL) : Tb.szV n l l.length = (Tb.szs n l).map (Value.int .i64) := by unfold Tb.szV; rw [List.take_of_length_le (by rw [szs_len]; exact Nat.le_refl _)]
theorem tbErr_parts {n k p q : Int} (h : Tb.tbErr n k p q = 0) : (1 ≤ n ∧ n ≤ 16) ∧ (0 ≤ k ∧ k ≤ 9) ∧ Tb.tbIn k p q := by
  unfold Tb.tbErr at h
  split at h
  · cases h
  · rename_i h1
    split at h
    · cases h
    · rename_i h2
      split at h
      · rename_i h3; exact ⟨Decidable.not_not.1 h1, Decidable.not_not.1 h2, h3⟩
      · cases h
theorem tbN_sz {n k p q : Int} (h : Tb.tbErr n k p q = 0) : Tb.tbN n k p q = Tb.tbSz n k p q := by unfold Tb.tbN; rw [if_pos h]

/-- the error alone -/
def SzE (er : Int) (w : World) (e : Ending) (w' : World) : Prop := e = .returned (.tuple #[.slice none 0 0, .int .i64 er]) ∧ Below w.heap.size w w'
set_option maxHeartbeats 1000000 in
theorem sizesOf_far (n : Int) (ao : Option Addr) (c : Nat) (l : List Tb.SpecL) (w : World) (hn : ¬ (1 ≤ n ∧ n ≤ 16)) :
    Calls Tryz.prog 86 #[.int .i64 n, .slice ao l.length c] w (SzE 1 w) := by
  have HP : Hid (∀ W, Calls Tryz.prog 107 #[.int .i64 n] W fun e w' => e = .returned (.bool false) ∧ W = w') := Lib.hid (fun W => by have := Tb.canPlay_any n W; rw [decide_eq_false hn] at this; exact this)
  clear hn
  go_enter Tryz.func86, Tryz.ntmps86
  go_wp2_with (go_at_call 107; refine (HP.out _).mono ?_; rintro e w4 ⟨rfl, rfl⟩)
  go_ret2
  exact ⟨rfl, Below.refl _ _⟩
set_option maxHeartbeats 1000000 in
theorem sizesOf_long (n : Int) (ao : Option Addr) (c : Nat) (l : List Tb.SpecL) (w : World) (hn : 1 ≤ n ∧ n ≤ 16) (hl : 8 < l.length) :
    Calls Tryz.prog 86 #[.int .i64 n, .slice ao l.length c] w (SzE 3 w) := by
  have HP : Hid (∀ W, Calls Tryz.prog 107 #[.int .i64 n] W fun e w' => e = .returned (.bool true) ∧ W = w') := Lib.hid (fun W => by have := Tb.canPlay_any n W; rw [decide_eq_true hn] at this; exact this)
  have d : decide ((8 : Int) < (l.length : Int)) = true := decide_eq_true (by omega)
  clear hn
  go_enter Tryz.func86, Tryz.ntmps86
  go_wp2_with (go_at_call 107; refine (HP.out _).mono ?_; rintro e w4 ⟨rfl, rfl⟩)
  go_ret2
  exact ⟨rfl, Below.refl _ _⟩
set_option maxHeartbeats 2000000 in
theorem sizesOf_err (n : Int) (ao : Option Addr) (b o c : Nat) (l : List Tb.SpecL) (w : World) (hn : 1 ≤ n ∧ n ≤ 16) (hl : l.length ≤ 8) (ha : 0 < l.length → ao = some ⟨b, o, none⟩) (hb : 0 < l.length → b < w.heap.size) (hc : Tb.SpecsAt w b o l) (he : errGo n l ≠ 0) :
    Calls Tryz.prog 86 #[.int .i64 n, .slice ao l.length c] w (SzE (errGo n l) w) := by
  obtain ⟨iI, ia, ib, ic, id⟩ := info_parts Tb.infoI
  have HC := Lib.hid hc
  have HA := Lib.hid ha
  have HB := Lib.hid hb
  have HE := Lib.hid he
  have HP : Hid (∀ W, Calls Tryz.prog 107 #[.int .i64 n] W fun e w' => e = .returned (.bool true) ∧ W = w') := Lib.hid (fun W => by have := Tb.canPlay_any n W; rw [decide_eq_true hn] at this; exact this)
  clear hc ha hb he hn
  go_enter Tryz.func86, Tryz.ntmps86
  go_wp2_with (go_at_call 107; refine (HP.out _).mono ?_; rintro e w4 ⟨rfl, rfl⟩)
  go_loopw [6, 19] (fun v k wr => ∃ (j : Nat), j ≤ l.length ∧ k = .int .i64 j ∧ wr.ownsRow w.heap.size 3 1 v j (Tb.szV n l j) ∧ Hid (errGo n (l.drop j) = errGo n l) ∧ Below w.heap.size w wr) (fun _ k _ => l.length - (intOf k).toNat)
  case atStart => exact ⟨0, Nat.zero_le _, rfl, World.ownsRow_nil _ _ _ _, Lib.hid rfl, Below.refl _ _⟩
  case round =>
    obtain ⟨j, hj, rfl, hown, hp, hbl⟩ := hrel
    have hsz := hbl.size
    by_cases hlt : j < l.length
    · obtain rfl := HA.out (by omega)
      obtain ⟨x, hx⟩ : ∃ x, l[j]? = some x := ⟨l[j], List.getElem?_eq_getElem (by omega)⟩
      obtain ⟨c0, c1, c2⟩ := HC.out.stays hbl HB.out j _ hx
      have hd := Lib.hid (drop_specsM hx)
      obtain ⟨s, hs⟩ : ∃ s, Tb.tbN n x.k x.p x.q = s := ⟨_, rfl⟩
      by_cases hx0 : Tb.tbErr n x.k x.p x.q = 0
      · have HS : Hid (∀ w, Calls Tryz.prog 88 #[.int .i64 n, Tb.specV x.k x.p x.q] w fun e w' => e = .returned (.tuple #[.int .i64 s, .int .i64 0]) ∧ Below w.heap.size w w') := Lib.hid (fun w => by have := Tb.size_any n x.k x.p x.q w; rw [hx0, hs] at this; exact this)
        have HV : Hid (Tb.szV n l (j + 1) = Tb.szV n l j ++ [.int .i64 s]) := Lib.hid (by rw [← hs]; exact Tb.szV_succ hx)
        have hN : Hid (errGo n (l.drop (j + 1)) = errGo n l) := Lib.hid (by rw [← hp.out, hd.out, errGo_next hx0])
        clear hx hs hx0 hp hd
        unfold Tb.specV at HS
        go_wp2_with (first
          | (go_at_call 88; refine (HS.out _).mono ?_; rintro e w5 ⟨rfl, hb5⟩; (have hown5 := owns_below (hown.alloc _) hb5); (have hbl5 := (hbl.alloc hsz _).trans (hb5.mono (by simp; omega))); (have hsz5 := hbl5.size); clear hb5)
          | (at_builtin; refine append_new rfl _ _ 24 rfl w.heap.size 3 iI (.int .i64 0) 1 8 Tryz.underlying24 ia ib ic id rfl (by decide) (by decide) _ j _ rfl hown5 [.int .i64 s] rfl rfl rfl (by omega) hsz5 ?_; intro v1 w1 hown1 hbl1 _ _; (have hown1' : Hid (w1.ownsRow w.heap.size 3 1 v1 (j + 1) (Tb.szV n l (j + 1))) := Lib.hid (by rw [HV.out]; exact hown1)); (have hb2 := Lib.hid (hbl5.trans hbl1)); clear hown1 hown hown5 hbl hbl1 hbl5 c0 c1 c2))
        go_roundw
        case rel => exact ⟨j + 1, by omega, by go_num, hown1'.out, hN, hb2.out⟩
        case measure => simp [intOf]; omega
      · obtain ⟨er, her⟩ : ∃ er, Tb.tbErr n x.k x.p x.q = er := ⟨_, rfl⟩
        have HS : Hid (∀ w, Calls Tryz.prog 88 #[.int .i64 n, Tb.specV x.k x.p x.q] w fun e w' => e = .returned (.tuple #[.int .i64 s, .int .i64 er]) ∧ Below w.heap.size w w') := Lib.hid (fun w => by have := Tb.size_any n x.k x.p x.q w; rw [her, hs] at this; exact this)
        have hN : Hid (errGo n l = er) := Lib.hid (by rw [← hp.out, hd.out, errGo_err hx0, her])
        rw [her] at hx0
        clear hx hs her hp hd
        unfold Tb.specV at HS
        go_wp2_with (go_at_call 88; refine (HS.out _).mono ?_; rintro e w5 ⟨rfl, hb5⟩; (have hbl5 := Lib.hid ((hbl.alloc hsz _).trans (hb5.mono (by simp; omega)))); clear hb5)
        go_ret2
        exact ⟨by rw [hN.out]; rfl, hbl5.out⟩
    · have : j = l.length := by omega
      subst this
      exact absurd (by rw [← hp.out, List.drop_length]; rfl) HE.out

def LayE (er : Int) (w : World) (e : Ending) (w' : World) : Prop := ∃ v x, e = .returned (.tuple #[v, x, .int .i64 er]) ∧ Below w.heap.size w w'
set_option maxHeartbeats 1000000 in
theorem tlay_err (n er : Int) (v : Value) (w : World) (he : er ≠ 0) (hS : Calls Tryz.prog 86 #[.int .i64 n, v] w (SzE er w)) :
    Calls Tryz.prog 52 #[.int .i64 n, v] w (LayE er w) := by
  have HS := Lib.hid hS
  clear hS
  go_enter Tryz.func52, Tryz.ntmps52
  go_wp2_with (go_at_call 86; refine HS.out.mono ?_; rintro e w5 ⟨rfl, hb5⟩; (have HB5 := Lib.hid hb5); clear hb5)
  go_ret3
  exact ⟨_, _, rfl, HB5.out⟩
theorem tbSz_le {n k p q : Int} (hn : 1 ≤ n ∧ n ≤ 16) (hk : 0 ≤ k ∧ k ≤ 9) (h : Tb.tbIn k p q) : 0 ≤ Tb.tbSz n k p q ∧ Tb.tbSz n k p q ≤ 100000 := by
  rcases Tb.tb_nine hk with rfl | rfl | rfl | rfl | rfl | rfl | rfl | rfl | rfl | rfl
  · rw [Tb.tbSz_0]; have := h.1 rfl; omega
  · rw [Tb.tbSz_1]; omega
  · rw [Tb.tbSz_2]; omega
  · rw [Tb.tbSz_3]; omega
  · rw [Tb.tbSz_4]
    have hp := h.2.1 rfl
    have e : (2 : Int) ^ p.toNat = ((2 ^ p.toNat : Nat) : Int) := by simp
    have h1 : 2 ^ p.toNat ≤ 2 ^ 12 := Nat.pow_le_pow_right (by omega) (by omega)
    have h2 : 0 < 2 ^ p.toNat := Nat.pow_pos (by omega)
    rw [e]
    omega
  · rw [Tb.tbSz_5]
    have hp := h.2.2.1 rfl
    have b1 := Tb.mul_bd (a := n) (b := p) (A := 16) (B := 64) (by omega) (by omega)
    have b2 := Tb.mul_bd (a := n * p) (b := n + 1) (A := 1024) (B := 17) (by omega) (by omega)
    omega
  · rw [Tb.tbSz_6]
    have hp := h.2.2.2.1 rfl
    have b1 := Tb.mul_bd (a := n) (b := q) (A := 16) (B := 64) (by omega) (by omega)
    have b2 := Tb.mul_bd (a := n * q) (b := p + 1) (A := 1024) (B := 17) (by omega) (by omega)
    omega
  · rw [Tb.tbSz_7]
    have hp := h.2.2.2.2.1 rfl
    omega
  · rw [Tb.tbSz_8]
    have hp := h.2.2.2.2.2.1 rfl
    have b1 := Tb.mul_bd (a := n) (b := p) (A := 16) (B := 32) (by omega) (by omega)
    omega
  · rw [Tb.tbSz_9]
    have hp := h.2.2.2.2.2.2 rfl
    have b2 := Tb.mul_bd (a := n + 1) (b := p + 1) (A := 17) (B := 9) (by omega) (by omega)
    omega
theorem tbN_bd {n k p q : Int} (h : Tb.tbErr n k p q = 0) : 0 ≤ Tb.tbN n k p q ∧ Tb.tbN n k p q ≤ 100000 := by
  obtain ⟨h1, h2, h3⟩ := tbErr_parts h
  rw [tbN_sz h]
  exact tbSz_le h1 h2 h3
theorem szs_bd {n : Int} {l : List Tb.SpecL} (h : ∀ x ∈ l, Tb.tbErr n x.k x.p x.q = 0) : ∀ z ∈ Tb.szs n l, 0 ≤ z ∧ z ≤ 100000 := fun z hz => by
  unfold Tb.szs at hz
  obtain ⟨x, hx, rfl⟩ := List.mem_map.1 hz
  exact tbN_bd (h x hx)
theorem rlay_two (ao : Option Addr) (b o c : Nat) (l : List Int) (w : World) (hl : l.length ≤ 4294967296) (ha : 0 < l.length → ao = some ⟨b, o, none⟩) (hb : 0 < l.length → b < w.heap.size) (hc : ICells w b o l) :
    Calls Tryz.prog 87 #[.slice ao l.length c] w (LayE (wrongGo l 0 : Nat) w) := by
  refine (Tb.lay_any ao b o c l w hl ha hb hc).mono ?_
  rintro e w' ⟨v, h1, h2, hb⟩
  by_cases hw : wrongGo l 0 = 0
  · obtain ⟨he, _⟩ := h1 hw
    exact ⟨v, _, by rw [he, hw]; rfl, hb⟩
  · exact ⟨_, _, h2 hw, hb⟩
set_option maxHeartbeats 2000000 in
theorem tlay_ok (n : Int) (ao : Option Addr) (b o c : Nat) (l : List Tb.SpecL) (w : World) (hn : 1 ≤ n ∧ n ≤ 16) (hl : l.length ≤ 8) (ha : 0 < l.length → ao = some ⟨b, o, none⟩) (hb : 0 < l.length → b < w.heap.size) (hc : Tb.SpecsAt w b o l) (hok : errGo n l = 0) :
    Calls Tryz.prog 52 #[.int .i64 n, .slice ao l.length c] w (LayE (wrongGo (Tb.szs n l) 0 : Nat) w) := by
  have HZ := Lib.hid (Tb.sizesOf_ok n ao b o c l w hn hl ha hb hc (errGo_zero hok))
  have hle : (Tb.szs n l).length ≤ 4294967296 := by rw [szs_len]; omega
  have hsl := szs_len n l
  have HBD := Lib.hid (szs_bd (errGo_zero hok))
  rw [szV_ints] at HZ
  generalize Tb.szs n l = zs at *
  obtain ⟨er, her⟩ : ∃ er : Nat, wrongGo zs 0 = er := ⟨_, rfl⟩
  have HLY : Hid (∀ (W : World) (v : Value) (B : Nat), W.ownsRow B 3 1 v l.length (zs.map (Value.int .i64)) → Calls Tryz.prog 87 #[v] W (LayE (er : Nat) W)) := Lib.hid (fun W v B hown => by
    obtain ⟨ao5, g, cap, rfl, h1, h2, h3, h4⟩ := owns_open hown
    rw [← hsl] at h1 h3 ⊢
    rw [← her]
    exact rlay_two ao5 g 0 cap zs W hle h1 h3 (fun i x hx => ⟨by rw [Nat.zero_add]; exact h4 i _ (by rw [List.getElem?_map, hx]; rfl), by have := HBD.out x (List.mem_of_getElem? hx); omega⟩))
  rw [her]
  clear ha hb hc hok hsl hle her HBD
  go_enter Tryz.func52, Tryz.ntmps52
  go_wp2_with (first
    | (go_at_call 86; refine HZ.out.mono ?_; rintro e w5 ⟨v, rfl, hown, hb5⟩; (have HL := Lib.hid (HLY.out w5 v _ hown)); (have HB5 := Lib.hid hb5); clear hown hb5)
    | (go_at_call 87; refine HL.out.mono ?_; rintro e w6 ⟨v6, x6, rfl, hb6⟩; (have HB6 := Lib.hid hb6); clear hb6))
  go_ret3
  exact ⟨_, _, rfl, HB5.out.trans (HB6.out.mono HB5.out.size)⟩
/-- table.Lay, for any objects: the error -/
theorem tlay_any (n : Int) (ao : Option Addr) (b o c : Nat) (l : List Tb.SpecL) (w : World) (ha : 0 < l.length → ao = some ⟨b, o, none⟩) (hb : 0 < l.length → b < w.heap.size) (hc : Tb.SpecsAt w b o l) (hl : l.length ≤ 4294967296) :
    Calls Tryz.prog 52 #[.int .i64 n, .slice ao l.length c] w (LayE (laErr n l) w) := by
  unfold laErr
  by_cases hn : 1 ≤ n ∧ n ≤ 16
  · rw [if_neg (not_not_intro hn)]
    by_cases h8 : 8 < l.length
    · rw [if_pos h8]
      exact tlay_err n 3 _ w (by decide) (sizesOf_long n ao c l w hn h8)
    · rw [if_neg h8]
      by_cases he : errGo n l = 0
      · rw [if_neg (not_not_intro he)]
        exact tlay_ok n ao b o c l w hn (by omega) ha hb hc he
      · rw [if_pos he]
        exact tlay_err n _ _ w he (sizesOf_err n ao b o c l w hn (by omega) ha hb hc he)
  · rw [if_pos hn]
    exact tlay_err n 1 _ w (by decide) (sizesOf_far n ao c l w hn)

set_option maxHeartbeats 2000000 in
/-- the reference's Bases: the error alone -/
theorem rbases_any (n : Int) (ao : Option Addr) (b o c : Nat) (l : List Tb.SpecL) (w : World) (hl : l.length ≤ 8) (ha : 0 < l.length → ao = some ⟨b, o, none⟩) (hb : 0 < l.length → b < w.heap.size) (hc : Tb.SpecsAt w b o l) (hok : errGo n l = 0) :
    Calls Tryz.prog 32 #[.int .i64 n, .slice ao l.length c] w (LayE (wrongGo (Tb.szs n l) 0 : Nat) w) := by
  obtain ⟨iI, ia, ib, ic, id⟩ := info_parts Tb.infoI
  have HC := Lib.hid hc
  have HA := Lib.hid ha
  have HB := Lib.hid hb
  have HK := Lib.hid (errGo_zero hok)
  have HSL := Lib.hid (szs_len n l)
  clear hc ha hb hok
  go_enter Tryz.func32, Tryz.ntmps32
  go_wp2
  go_loopw [7, 8, 9, 14] (fun v x lg k wr => ∃ (j : Nat) (e : Int) (g : Bool) (xs : List Value), j ≤ l.length ∧ (0 ≤ e ∧ e ≤ 65536) ∧ k = .int .i64 j ∧ x = .int .i64 e ∧ lg = .bool g ∧ Hid (g = true → wrongGo (Tb.szs n l) 0 = 3) ∧ Hid (g = false → wrongGo ((Tb.szs n l).drop j) e = wrongGo (Tb.szs n l) 0) ∧
     wr.ownsRow w.heap.size 3 1 v j xs ∧ Below w.heap.size w wr) (fun _ _ _ k _ => l.length - (intOf k).toNat)
  case atStart => exact ⟨0, 0, false, [], Nat.zero_le _, by omega, rfl, rfl, rfl, Lib.hid (fun h => by cases h), Lib.hid (fun _ => rfl), World.ownsRow_nil _ _ _ _, Below.refl _ _⟩
  case round =>
    obtain ⟨j, e, g, xs, hj, he, rfl, rfl, rfl, ht, hf, hown, hbl⟩ := hrel
    have hsz := hbl.size
    by_cases hlt : j < l.length
    · obtain rfl := HA.out (by omega)
      obtain ⟨x, hx⟩ : ∃ x, l[j]? = some x := ⟨l[j], List.getElem?_eq_getElem (by omega)⟩
      obtain ⟨c0, c1, c2⟩ := HC.out.stays hbl HB.out j _ hx
      have h0 := HK.out x (List.mem_of_getElem? hx)
      obtain ⟨p1, p2, p3⟩ := tbErr_parts h0
      have hbd := tbN_bd h0
      have hdr := Lib.hid (drop_cons (szs_get (n := n) hx))
      obtain ⟨s, hs⟩ : ∃ s, Tb.tbN n x.k x.p x.q = s := ⟨_, rfl⟩
      have HS : Hid (∀ w, Calls Tryz.prog 33 #[.int .i64 n, Tb.specV x.k x.p x.q] w fun e w' => e = .returned (.int .i64 s) ∧ Below w.heap.size w w') := Lib.hid (fun w => by have := Tb.psize_any n x.k x.p x.q p1 p2 w; rw [if_pos p3, ← tbN_sz h0, hs] at this; exact this)
      rw [hs] at hbd hdr
      clear hx hs h0 p1 p2 p3
      unfold Tb.specV at HS
      by_cases hlg : 65536 - e < s
      · have hT : Hid (wrongGo (Tb.szs n l) 0 = 3) := Lib.hid (by
          cases g with
          | true => exact ht.out rfl
          | false => rw [← hf.out rfl, hdr.out]; exact wrongGo_long (by omega) hlg)
        go_wp2_with (first
          | (go_at_call 33; refine (HS.out _).mono ?_; rintro e5 w5 ⟨rfl, hb5⟩; (have hown5 := owns_below hown hb5); (have hbl5 := hbl.trans (hb5.mono hsz)); (have hsz5 := hbl5.size); clear hb5)
          | (at_builtin; refine append_new rfl _ _ 24 rfl w.heap.size 3 iI (.int .i64 0) 1 8 Tryz.underlying24 ia ib ic id rfl (by decide) (by decide) _ j _ rfl hown5 [.int .i64 e] rfl rfl rfl (by omega) hsz5 ?_; intro v1 w1 hown1 hbl1 _ _; (have hown1' := Lib.hid hown1); (have hb2 := Lib.hid (hbl5.trans hbl1)); clear hown1 hown hown5 hbl hbl1 hbl5 c0 c1 c2))
        go_roundw
        case rel => exact ⟨j + 1, e, true, _, by omega, he, by go_num, by first | rfl | (congr 1; omega), rfl, Lib.hid (fun _ => hT.out), Lib.hid (fun h => by cases h), hown1'.out, hb2.out⟩
        case measure => simp [intOf]; omega
      · have hF : Hid (g = false → wrongGo ((Tb.szs n l).drop (j + 1)) (e + s) = wrongGo (Tb.szs n l) 0) := Lib.hid (fun h => by rw [← hf.out h, hdr.out]; exact (wrongGo_next (by omega) (by omega)).symm)
        go_wp2_with (first
          | (go_at_call 33; refine (HS.out _).mono ?_; rintro e5 w5 ⟨rfl, hb5⟩; (have hown5 := owns_below hown hb5); (have hbl5 := hbl.trans (hb5.mono hsz)); (have hsz5 := hbl5.size); clear hb5)
          | (at_builtin; refine append_new rfl _ _ 24 rfl w.heap.size 3 iI (.int .i64 0) 1 8 Tryz.underlying24 ia ib ic id rfl (by decide) (by decide) _ j _ rfl hown5 [.int .i64 e] rfl rfl rfl (by omega) hsz5 ?_; intro v1 w1 hown1 hbl1 _ _; (have hown1' := Lib.hid hown1); (have hb2 := Lib.hid (hbl5.trans hbl1)); clear hown1 hown hown5 hbl hbl1 hbl5 c0 c1 c2))
        go_roundw
        case rel => exact ⟨j + 1, e + s, g, _, by omega, by omega, by go_num, by first | rfl | (congr 1; omega), rfl, ht, hF, hown1'.out, hb2.out⟩
        case measure => simp [intOf]; omega
    · have hjl : j = l.length := by omega
      subst hjl
      cases g with
      | true =>
        have hR : Hid (wrongGo (Tb.szs n l) 0 = 3) := Lib.hid (ht.out rfl)
        go_wp2
        go_ret3
        exact ⟨_, _, by rw [hR.out]; rfl, hbl⟩
      | false =>
        have hR : Hid (wrongGo (Tb.szs n l) 0 = 0) := Lib.hid (by rw [← hf.out rfl, List.drop_of_length_le (by rw [HSL.out]; exact Nat.le_refl _)]; rfl)
        go_wp2
        go_ret3
        exact ⟨_, _, by rw [hR.out]; rfl, hbl⟩

set_option maxHeartbeats 2000000 in
/-- the reference's Lay -/
theorem rlay_any (n : Int) (ao : Option Addr) (b o c : Nat) (l : List Tb.SpecL) (w : World) (ha : 0 < l.length → ao = some ⟨b, o, none⟩) (hb : 0 < l.length → b < w.heap.size) (hc : Tb.SpecsAt w b o l) :
    Calls Tryz.prog 9 #[.int .i64 n, .slice ao l.length c] w fun e w' => e = .returned (.int .i64 (laErr n l)) ∧ Below w.heap.size w w' := by
  unfold laErr
  by_cases hn : 1 ≤ n ∧ n ≤ 16
  case neg =>
    rw [if_pos hn]
    clear hc hb ha
    by_cases h1 : n < 1
    · clear hn
      have d : decide (n < 1) = true := decide_eq_true h1
      go_enter Tryz.func9, Tryz.ntmps9
      go_wp2
      go_ret
      exact ⟨rfl, Below.refl _ _⟩
    · have h16 : 16 < n := by omega
      have d : decide (n < 1) = false := decide_eq_false h1
      have d2 : decide (16 < n) = true := decide_eq_true h16
      clear hn
      go_enter Tryz.func9, Tryz.ntmps9
      go_wp2
      go_ret
      exact ⟨rfl, Below.refl _ _⟩
  rw [if_neg (not_not_intro hn)]
  have d : decide (n < 1) = false := decide_eq_false (by omega)
  have d2 : decide (16 < n) = false := decide_eq_false (by omega)
  by_cases h8 : 8 < l.length
  · rw [if_pos h8]
    have d3 : decide ((8 : Int) < (l.length : Int)) = true := decide_eq_true (by omega)
    clear hn hc hb ha
    go_enter Tryz.func9, Tryz.ntmps9
    go_wp2
    go_ret
    exact ⟨rfl, Below.refl _ _⟩
  rw [if_neg h8]
  have d3 : decide ((8 : Int) < (l.length : Int)) = false := decide_eq_false (by omega)
  have h8' : l.length ≤ 8 := by omega
  have HBS := Lib.hid (fun (W : World) (hok : errGo n l = 0) (h1 : 0 < l.length → b < W.heap.size) (h2 : Tb.SpecsAt W b o l) => rbases_any n ao b o c l W h8' ha h1 h2 hok)
  have HC := Lib.hid hc
  have HA := Lib.hid ha
  have HB := Lib.hid hb
  obtain ⟨wg, hwg⟩ : ∃ wg : Nat, wrongGo (Tb.szs n l) 0 = wg := ⟨_, rfl⟩
  rw [hwg] at HBS ⊢
  obtain ⟨R, hR⟩ : ∃ R : Int, (if errGo n l ≠ 0 then errGo n l else (wg : Int)) = R := ⟨_, rfl⟩
  rw [hR]
  have HR := Lib.hid hR
  clear hc ha hb hn hwg hR
  go_enter Tryz.func9, Tryz.ntmps9
  go_wp2
  go_loopw [22] (fun k wr => ∃ (j : Nat), j ≤ l.length ∧ k = .int .i64 j ∧ Hid (errGo n (l.drop j) = errGo n l) ∧ Below w.heap.size w wr) (fun k _ => l.length - (intOf k).toNat)
  case atStart => exact ⟨0, Nat.zero_le _, rfl, Lib.hid rfl, Below.refl _ _⟩
  case round =>
    obtain ⟨j, hj, rfl, hp, hbl⟩ := hrel
    have hsz := hbl.size
    by_cases hlt : j < l.length
    · obtain rfl := HA.out (by omega)
      obtain ⟨x, hx⟩ : ∃ x, l[j]? = some x := ⟨l[j], List.getElem?_eq_getElem (by omega)⟩
      obtain ⟨c0, c1, c2⟩ := HC.out.stays hbl HB.out j _ hx
      have hd := Lib.hid (drop_specsM hx)
      obtain ⟨s, hs⟩ : ∃ s, Tb.tbN n x.k x.p x.q = s := ⟨_, rfl⟩
      by_cases hx0 : Tb.tbErr n x.k x.p x.q = 0
      · have HS : Hid (∀ w, Calls Tryz.prog 31 #[.int .i64 n, Tb.specV x.k x.p x.q] w fun e w' => e = .returned (.tuple #[.int .i64 s, .int .i64 0]) ∧ Below w.heap.size w w') := Lib.hid (fun w => by have := Tb.rsize_any n x.k x.p x.q w; rw [hx0, hs] at this; exact this)
        have hN : Hid (errGo n (l.drop (j + 1)) = errGo n l) := Lib.hid (by rw [← hp.out, hd.out, errGo_next hx0])
        clear hx hs hx0 hp hd
        unfold Tb.specV at HS
        go_wp2_with (go_at_call 31; refine (HS.out _).mono ?_; rintro e w5 ⟨rfl, hb5⟩; (have hbl5 := Lib.hid (hbl.trans (hb5.mono hsz))); clear hb5)
        go_roundw
        case rel => exact ⟨j + 1, by omega, by go_num, hN, hbl5.out⟩
        case measure => simp [intOf]; omega
      · obtain ⟨er, her⟩ : ∃ er, Tb.tbErr n x.k x.p x.q = er := ⟨_, rfl⟩
        have HS : Hid (∀ w, Calls Tryz.prog 31 #[.int .i64 n, Tb.specV x.k x.p x.q] w fun e w' => e = .returned (.tuple #[.int .i64 s, .int .i64 er]) ∧ Below w.heap.size w w') := Lib.hid (fun w => by have := Tb.rsize_any n x.k x.p x.q w; rw [her, hs] at this; exact this)
        have hN : Hid (errGo n l = er) := Lib.hid (by rw [← hp.out, hd.out, errGo_err hx0, her])
        rw [her] at hx0
        clear hx hs her hp hd
        unfold Tb.specV at HS
        go_wp2_with (go_at_call 31; refine (HS.out _).mono ?_; rintro e w5 ⟨rfl, hb5⟩; (have hbl5 := Lib.hid (hbl.trans (hb5.mono hsz))); clear hb5)
        go_ret
        exact ⟨by rw [← HR.out, hN.out, if_pos hx0]; rfl, hbl5.out⟩
    · have hjl : j = l.length := by omega
      subst hjl
      have hok : Hid (errGo n l = 0) := Lib.hid (by rw [← hp.out, List.drop_length]; rfl)
      have HBS2 := Lib.hid (HBS.out wr hok.out (fun h => Nat.lt_of_lt_of_le (HB.out h) hsz) (HC.out.stays hbl HB.out))
      go_wp2_with (go_at_call 32; refine HBS2.out.mono ?_; rintro e w5 ⟨v5, x5, rfl, hb5⟩; (have hbl5 := Lib.hid (hbl.trans (hb5.mono hsz))); clear hb5)
      go_ret
      exact ⟨by rw [← HR.out, hok.out, if_neg (by decide)]; rfl, hbl5.out⟩
end
section
open Go.ChangeShapes Go.WideShapes Go.ChangeAt Go.RowKit
set_option linter.unusedVariables false
set_option linter.unusedSimpArgs false
set_option maxRecDepth 100000

def GivesO (l : List Nat) (w : World) (e : Ending) (w' : World) : Prop := ∃ v, e = .returned v ∧ OwnW w' w.heap.size v l ∧ Below w.heap.size w w'
theorem GivesO_mk (w : World) (k p q : Int) (a : Nat) (h : OwnW ((w.alloc (Tb.specO k p q)).alloc (.cells (Array.replicate a (wU 0)) 55)) w.heap.size (.slice (some ⟨w.heap.size + 1, 0, none⟩) a a) (List.replicate a 0)) (hb : Below w.heap.size w ((w.alloc (Tb.specO k p q)).alloc (.cells (Array.replicate a (wU 0)) 55))) :
    GivesO (List.replicate a 0) w (.returned (.slice (some ⟨w.heap.size + 1, 0, none⟩) a a)) ((w.alloc (Tb.specO k p q)).alloc (.cells (Array.replicate a (wU 0)) 55)) := ⟨_, rfl, h, hb⟩
set_option maxHeartbeats 1000000 in
theorem rnewO_any (n k p q : Int) (hok : Tb.tbErr n k p q = 0) (w : World) :
    Calls Tryz.prog 34 #[.int .i64 n, Tb.specV k p q] w (GivesO (mdNew n k p) w) := by
  have h := okS hok
  clear hok
  have hn1 := h.n1
  have hn2 := h.n16
  have hSP : ∀ w : World, (w.alloc (Tb.specO k p q)).heap.size = w.heap.size + 1 := fun w => World.size_alloc _ _
  by_cases h7 : k = 7
  · subst h7
    obtain ⟨⟨hp0, hp7⟩, _⟩ := h.h7 rfl
    have hsl := sqLo_le p.toNat
    have HN := Lib.hid (fun w => refNew_any p w)
    rw [sqIs_yes ⟨hp0, hp7⟩, if_pos rfl] at HN
    have hE : mdNew n 7 p = List.replicate (1 + sqLo p.toNat) 0 := rfl
    rw [hE]
    clear h hE
    generalize sqLo p.toNat = a at *
    obtain ⟨iI, ia, ib, ic, id⟩ := info_parts info22
    have HLEN : Hid (((List.replicate a 0).map wU).length = a) := Lib.hid (by simp)
    have HONE := Lib.hid (wU_one (List.replicate a 0))
    have HZ := Lib.hid (zeros_one a)
    have HO1 : Hid (OwnW ((w.alloc (Tb.specO 7 p q)).alloc (.cells #[wU 0] 55)) w.heap.size (.slice (some ⟨w.heap.size + 1, 0, none⟩) 1 1) (List.replicate 1 0)) := Lib.hid (made_own (w.alloc (Tb.specO 7 p q)) 1 w.heap.size _ (hSP w).symm (by omega) (by rw [hSP]; omega))
    unfold Tb.specV at *
    go_enter Tryz.func34, Tryz.ntmps34
    go_wp2_with (first
      | (go_at_call 60; refine (HN.out _).mono ?_; rintro e w2 ⟨v2, rfl, ho2, hb2⟩; (have HO2 : Hid (w2.ownsRow w.heap.size 55 1 (.slice (some ⟨w.heap.size + 1, 0, none⟩) 1 1) 1 [.int .u64 0]) := Lib.hid (HO1.out.below hb2)); (obtain ⟨ao2, b2, o2, cap2, rfl, hA2, hn2', hc2⟩ := ho2); (have HA2 := Lib.hid hA2); (have HN2 := Lib.hid hn2'); (have HC2 : Hid (∀ (j : Nat) (u : Value), ((List.replicate a 0).map wU)[j]? = some u → w2.cell? ⟨b2, o2 + j, none⟩ = some u) := Lib.hid (fun j u hu => by rw [List.getElem?_map] at hu; obtain ⟨x, hx, rfl⟩ := Option.map_eq_some_iff.1 hu; exact hc2 j x hx)); (have hsz2 : w.heap.size ≤ w2.heap.size := by have := hb2.size; simp at this; omega); (have HB2 : Hid (Below w.heap.size w w2) := Lib.hid ((((Below.refl _ _).alloc (Nat.le_refl _) _).alloc (by simp) _).trans (hb2.mono (by simp; omega)))); clear hb2 hA2 hn2' hc2)
      | (at_builtin; rw [List.length_replicate] at *; refine append_onto_own rfl _ _ 37 rfl w.heap.size 55 iI (.int .u64 0) 8 Tryz.underlying37 ia ib ic id rfl (by decide) _ 1 _ rfl HO2.out ao2 b2 o2 cap2 a ((List.replicate a 0).map wU) rfl HLEN.out HA2.out HN2.out HC2.out HONE.out (by omega) hsz2 ?_; intro v3 w3 ho3 hb3 _; (have HO3 : Hid (OwnW w3 w.heap.size v3 (List.replicate (1 + a) 0)) := Lib.hid (by unfold OwnW; rw [List.length_replicate, ← HZ.out]; exact ho3)); (have HB3 := Lib.hid (HB2.out.trans hb3)); clear ho3 hb3))
    go_ret
    exact ⟨_, rfl, HO3.out, HB3.out⟩
  · have hbd := mdLen_bd h h7
    by_cases h1 : k = 8
    · subst h1
      clear h hbd
      unfold Tb.specV at *
      go_enter Tryz.func34, Tryz.ntmps34
      go_wp2_with fail
      go_ret
      exact ⟨_, rfl, OwnW.nil _ _, (Below.refl _ _).alloc (Nat.le_refl _) _⟩
    by_cases h2 : k = 0 ∨ k = 9 ∨ k = 5 ∨ k = 6
    · obtain ⟨a, ha⟩ : ∃ a : Nat, mdLen n k p = a := ⟨(mdLen n k p).toNat, by omega⟩
      have hE : mdNew n k p = List.replicate a 0 := by unfold mdNew mdNL; rw [if_neg h7, ha]; rfl
      rw [hE]
      rw [ha] at hbd
      have HM := run_mkW a (by omega)
      have HE : ∀ w : World, Below w.heap.size w ((w.alloc (Tb.specO k p q)).alloc (.cells (Array.replicate a (wU 0)) 55)) := fun w => ((Below.refl _ _).alloc (Nat.le_refl _) _).alloc (by simp) _
      have HO : ∀ w : World, OwnW ((w.alloc (Tb.specO k p q)).alloc (.cells (Array.replicate a (wU 0)) 55)) w.heap.size (.slice (some ⟨w.heap.size + 1, 0, none⟩) a a) (List.replicate a 0) := fun w => made_own (w.alloc (Tb.specO k p q)) a w.heap.size _ (hSP w).symm (by omega) (by rw [hSP]; omega)
      have HX := Lib.hid (fun w => GivesO_mk w k p q a (HO w) (HE w))
      clear hE h
      rcases h2 with rfl | rfl | rfl | rfl
      · have e : p = a := ha
        subst e
        clear ha
        unfold Tb.specV at *
        go_enter Tryz.func34, Tryz.ntmps34
        go_wp2_with fail
        go_ret
        exact HX.out w
      · have e : p = a := ha
        subst e
        clear ha
        unfold Tb.specV at *
        go_enter Tryz.func34, Tryz.ntmps34
        go_wp2_with fail
        go_ret
        exact HX.out w
      · have e : 2 * n = a := ha
        clear ha
        unfold Tb.specV at *
        go_enter Tryz.func34, Tryz.ntmps34
        go_wp2_with fail
        go_ret
        exact HX.out w
      · have e : p + n = a := ha
        clear ha
        unfold Tb.specV at *
        go_enter Tryz.func34, Tryz.ntmps34
        go_wp2_with fail
        go_ret
        exact HX.out w
    · have hm : mdNew n k p = [0] := by unfold mdNew mdNL mdLen; rw [if_neg h7, if_neg (by omega), if_neg (by omega), if_neg (by omega), if_neg h1]; rfl
      rw [hm]
      have n0 : ¬ k = 0 := by omega
      have n9 : ¬ k = 9 := by omega
      have n5 : ¬ k = 5 := by omega
      have n6 : ¬ k = 6 := by omega
      clear h hm h2
      unfold Tb.specV at *
      go_enter Tryz.func34, Tryz.ntmps34
      go_wp2_with fail
      go_ret
      exact ⟨_, rfl, made_own (w.alloc (Tb.specO k p q)) 1 w.heap.size _ (hSP w).symm (by omega) (by rw [hSP]; omega), ((Below.refl _ _).alloc (Nat.le_refl _) _).alloc (by simp) _⟩
end
section
open Go.ChangeShapes Go.WideShapes Go.ChangeAt Go.RowKit Go.Maps
set_option linter.unusedVariables false
set_option linter.unusedSimpArgs false
set_option maxRecDepth 100000

/-- append of one element that was just made: the row is the old one, or a new block -/
theorem append_lie {P : Program} {w : World} {ops : Array Oper} {rest : List Oper} {o : Oper} {a : Act} {Q : Exit → Act → World → Prop} (hgd : o.guard = none) (s x : Operand) (t : TypeId)
    (ho : o.op = .call { callee := .builtin .append, args := #[s, x], argTypes := #[t, t] })
    (base : Nat) (e : TypeId) (i : TypeInfo) (z : Value) (size bytes : Nat) (ht : P.underlying t = some (.slice e)) (hi : P.info? e = some i) (hz : i.zero = some z)
    (hsize : i.size = size) (hby : i.bytes = bytes) (hzs : z.cells.size = size) (hsz : 0 < size) (hbs : bytes ≤ 4096)
    (v : Value) (n : Nat) (xs : List Value) (hs : a.eval s = v) (hown : w.ownsRow base e size v n xs)
    (us : List Value) (hx : a.eval x = .slice (some ⟨w.heap.size, 0, none⟩) 1 1) (hl : us.length = size) (h1 : ∀ u ∈ us, u.oneCell' = true)
    (hn : n ≤ 4294967296) (hbase : base ≤ w.heap.size)
    (h : ∀ g cap w', w'.ownsRow base e size (.slice (some ⟨g, 0, none⟩) (n + 1) cap) (n + 1) (xs ++ us) → (w.alloc (.cells us.toArray e)).grownBy w' v.ownBlock → (v.ownBlock = some g ∨ g = w.heap.size + 1) → wpList P ops Q rest (a.put o.dst (.slice (some ⟨g, 0, none⟩) (n + 1) cap)) w') : wpList P ops Q (o :: rest) a (w.alloc (.cells us.toArray e)) := by
  refine wpList_append_lies _ hgd s x t ho base e i z size bytes ht hi hz hsize hby hzs hsz v n xs hs (hown.alloc _) ⟨w.heap.size, 0, none⟩ 1 1 us hx (by rw [hl, Nat.one_mul]) ?_ h1 (by decide) (by unfold maxLen; omega) ?_ (by simp; omega) (w.heap.size + 1) (by simp) ?_
  · intro j u hj
    rw [addr_add _ j w.heap.size 0 rfl, World.cell?_alloc_at _ _ _ _ rfl]
    simpa using hj
  · have : (n + 1) * bytes ≤ 4294967297 * 4096 := Nat.mul_le_mul (by omega) hbs
    omega
  · intro g cap w' h2 h3 h4 _
    exact h g cap w' h2 h3 h4
theorem step_append_lie {P : Program} {w : World} {ops : Array Oper} {o : Oper} {a : Act} {K : Act → World → Prop} {Q : Exit → Act → World → Prop} {E : Prop} (hgd : o.guard = none) (s x : Operand) (t : TypeId)
    (ho : o.op = .call { callee := .builtin .append, args := #[s, x], argTypes := #[t, t] })
    (base : Nat) (e : TypeId) (i : TypeInfo) (z : Value) (size bytes : Nat) (ht : P.underlying t = some (.slice e)) (hi : P.info? e = some i) (hz : i.zero = some z)
    (hsize : i.size = size) (hby : i.bytes = bytes) (hzs : z.cells.size = size) (hsz : 0 < size) (hbs : bytes ≤ 4096)
    (v : Value) (n : Nat) (xs : List Value) (hs : a.eval s = v) (hown : w.ownsRow base e size v n xs)
    (us : List Value) (hx : a.eval x = .slice (some ⟨w.heap.size, 0, none⟩) 1 1) (hl : us.length = size) (h1 : ∀ u ∈ us, u.oneCell' = true)
    (hn : n ≤ 4294967296) (hbase : base ≤ w.heap.size)
    (h : ∀ g cap w', w'.ownsRow base e size (.slice (some ⟨g, 0, none⟩) (n + 1) cap) (n + 1) (xs ++ us) → (w.alloc (.cells us.toArray e)).grownBy w' v.ownBlock → (v.ownBlock = some g ∨ g = w.heap.size + 1) → K (a.put o.dst (.slice (some ⟨g, 0, none⟩) (n + 1) cap)) w') :
    if Region.wanted o (yielded ops a.tmps) = true then Oper.wp P o a (w.alloc (.cells us.toArray e)) K Q else E := by
  refine step_append_lies _ hgd s x t ho base e i z size bytes ht hi hz hsize hby hzs hsz v n xs hs (hown.alloc _) ⟨w.heap.size, 0, none⟩ 1 1 us hx (by rw [hl, Nat.one_mul]) ?_ h1 (by decide) (by unfold maxLen; omega) ?_ (by simp; omega) (w.heap.size + 1) (by simp) ?_
  · intro j u hj
    rw [addr_add _ j w.heap.size 0 rfl, World.cell?_alloc_at _ _ _ _ rfl]
    simpa using hj
  · have : (n + 1) * bytes ≤ 4294967297 * 4096 := Nat.mul_le_mul (by omega) hbs
    omega
  · intro g cap w' h2 h3 h4 _
    exact h g cap w' h2 h3 h4
theorem off_lies {v : Value} {us : List Value} {g cap n H : Nat} (h : Off v us) (hlt : ∀ u ∈ us, ∀ b, blkOf u = some b → b < H) (hg : v.ownBlock = some g ∨ g = H) : Off (.slice (some ⟨g, 0, none⟩) n cap) us := fun u hu b hb e => by
  simp only [Value.ownBlock, Option.some.injEq] at e
  subst e
  rcases hg with hg | hg
  · exact h u hu g hb hg
  · have := hlt u hu g hb; omega
theorem infoS : (Tryz.prog.info? 37).map (fun i => (i.zero, i.size, i.bytes)) = some (some (.slice none 0 0), 1, 24) := by kernel_rfl
theorem infoAns : (Tryz.prog.info? 57).map (fun i => (i.zero, i.size, i.bytes)) = some (some (.agg #[.int .i64 0, .int .u64 0, .slice none 0 0]), 3, 40) := by kernel_rfl

/-- what is wrong apart from objects -/
def chErr (n : Int) (cs : List CallM) : Int := if ¬ (1 ≤ n ∧ n ≤ 16) then 1 else if 1000 < cs.length then 3 else if thrOk n cs = false then 1 else 0
theorem soErr_ch {n : Int} {l : List Tb.SpecL} {cs : List CallM} (h : chErr n cs ≠ 0) : soErr n l cs = chErr n cs := by
  unfold chErr at h ⊢; unfold soErr
  split
  · rfl
  · rename_i h1
    rw [if_neg h1] at h
    split
    · rfl
    · rename_i h2
      rw [if_neg h2] at h
      split
      · rfl
      · rename_i h3; rw [if_neg h3] at h; exact absurd rfl h
theorem soErr_la {n : Int} {l : List Tb.SpecL} {cs : List CallM} (h : chErr n cs = 0) : soErr n l cs = laErr n l := by
  unfold chErr at h; unfold soErr
  split
  · rename_i h1; rw [if_pos h1] at h; cases h
  · rename_i h1
    rw [if_neg h1] at h
    split
    · rename_i h2; rw [if_pos h2] at h; cases h
    · rename_i h2
      rw [if_neg h2] at h
      split
      · rename_i h3; rw [if_pos h3] at h; cases h
      · rfl
theorem thrOk_cons {n : Int} {x : CallM} {l : List CallM} (h : 0 ≤ x.th ∧ x.th < n) : thrOk n (x :: l) = thrOk n l := by unfold thrOk; rw [List.all_cons, decide_eq_true h, Bool.true_and]
theorem thrOk_no {n : Int} {x : CallM} {l : List CallM} (h : ¬ (0 ≤ x.th ∧ x.th < n)) : thrOk n (x :: l) = false := by unfold thrOk; rw [List.all_cons, decide_eq_false h, Bool.false_and]
set_option maxHeartbeats 2000000 in
theorem check_any (n : Int) (ao : Option Addr) (b o c : Nat) (cs : List CallM) (w : World) (ha : 0 < cs.length → ao = some ⟨b, o, none⟩) (hc : CallsM w b o cs) (hb : 0 < cs.length → b < w.heap.size) :
    Calls Tryz.prog 77 #[.int .i64 n, .slice ao cs.length c] w fun e w' => e = .returned (.int .i64 (chErr n cs)) ∧ Below w.heap.size w w' := by
  obtain ⟨R, hR⟩ : ∃ R : Int, chErr n cs = R := ⟨_, rfl⟩
  rw [hR]
  have HR := Lib.hid hR
  clear hR
  by_cases hn : 1 ≤ n ∧ n ≤ 16
  case neg =>
    have hr : Hid (R = 1) := Lib.hid (by rw [← HR.out]; unfold chErr; rw [if_pos hn])
    clear hc hb ha HR
    by_cases h1 : n < 1
    · clear hn
      have d : decide (n < 1) = true := decide_eq_true h1
      go_enter Tryz.func77, Tryz.ntmps77
      go_wp2
      go_ret
      exact ⟨by rw [hr.out]; rfl, Below.refl _ _⟩
    · have h16 : 16 < n := by omega
      have d : decide (n < 1) = false := decide_eq_false h1
      have d2 : decide (16 < n) = true := decide_eq_true h16
      clear hn
      go_enter Tryz.func77, Tryz.ntmps77
      go_wp2
      go_ret
      exact ⟨by rw [hr.out]; rfl, Below.refl _ _⟩
  have d : decide (n < 1) = false := decide_eq_false (by omega)
  have d2 : decide (16 < n) = false := decide_eq_false (by omega)
  have hn1 := hn
  by_cases h8 : 1000 < cs.length
  · have d3 : decide ((1000 : Int) < (cs.length : Int)) = true := decide_eq_true (by omega)
    have hr : Hid (R = 3) := Lib.hid (by rw [← HR.out]; unfold chErr; rw [if_neg (not_not_intro hn), if_pos h8])
    clear hn hc hb ha HR
    go_enter Tryz.func77, Tryz.ntmps77
    go_wp2
    go_ret
    exact ⟨by rw [hr.out]; rfl, Below.refl _ _⟩
  have d3 : decide ((1000 : Int) < (cs.length : Int)) = false := decide_eq_false (by omega)
  have hlen : cs.length ≤ 1000 := by omega
  have HR2 : Hid (R = if thrOk n cs = false then 1 else 0) := Lib.hid (by rw [← HR.out]; unfold chErr; rw [if_neg (not_not_intro hn), if_neg h8])
  have HC := Lib.hid hc
  have HA := Lib.hid ha
  have HB := Lib.hid hb
  clear hc hb ha hn HR h8
  go_enter Tryz.func77, Tryz.ntmps77
  go_wp2
  go_loopw [18] (fun k wr => ∃ (j : Nat), j ≤ cs.length ∧ k = .int .i64 j ∧ Hid (thrOk n (cs.drop j) = thrOk n cs) ∧ Below w.heap.size w wr) (fun k _ => cs.length - (intOf k).toNat)
  case atStart => exact ⟨0, Nat.zero_le _, rfl, Lib.hid rfl, Below.refl _ _⟩
  case round =>
    obtain ⟨j, hj, rfl, hp, hbl⟩ := hrel
    have hsz := hbl.size
    by_cases hlt : j < cs.length
    · obtain rfl := HA.out (by omega)
      obtain ⟨x, hx⟩ : ∃ x, cs[j]? = some x := ⟨cs[j], List.getElem?_eq_getElem (by omega)⟩
      obtain ⟨c0, c1, c2, c3, c4, c5⟩ := HC.out.stays hbl HB.out j _ hx
      have hd := Lib.hid (drop_callsM hx)
      clear hx
      by_cases h0 : x.th < 0
      · have hN : Hid (R = 1) := Lib.hid (by rw [HR2.out, ← hp.out, hd.out, thrOk_no (by omega), if_pos rfl])
        have d4 : decide (x.th < 0) = true := decide_eq_true h0
        clear hp hd
        go_wp2
        go_ret
        exact ⟨by rw [hN.out]; rfl, hbl.alloc hsz _⟩
      · have d4 : decide (x.th < 0) = false := decide_eq_false h0
        by_cases h1 : n ≤ x.th
        · have hN : Hid (R = 1) := Lib.hid (by rw [HR2.out, ← hp.out, hd.out, thrOk_no (by omega), if_pos rfl])
          have d5 : decide (n ≤ x.th) = true := decide_eq_true h1
          clear hp hd
          go_wp2
          go_ret
          exact ⟨by rw [hN.out]; rfl, hbl.alloc hsz _⟩
        · have d5 : decide (n ≤ x.th) = false := decide_eq_false h1
          have hN : Hid (thrOk n (cs.drop (j + 1)) = thrOk n cs) := Lib.hid (by rw [← hp.out, hd.out, thrOk_cons (by omega)])
          clear hp hd
          go_wp2
          go_roundw
          case rel => exact ⟨j + 1, by omega, by go_num, hN, hbl.alloc hsz _⟩
          case measure => simp [intOf]; omega
    · have hjl : j = cs.length := by omega
      subst hjl
      have hN : Hid (R = 0) := Lib.hid (by
        have : thrOk n cs = true := by rw [← hp.out, List.drop_length]; rfl
        rw [HR2.out, this, if_neg (by decide)])
      go_wp2
      go_ret
      exact ⟨by rw [hN.out]; rfl, hbl⟩

/- the state in memory -/
structure SoM where
  g : Nat
  mb : Nat
  sao : Option Addr
  sb : Nat
  so : Nat
  sc : Nat
  C0 : Nat
abbrev soO (n : Int) (sv mv : Value) (mb : Nat) : Obj := .cells #[.int .i64 n, sv, mv, .map (some mb)] 96
def tkV (t : Int) : Value := if t < 0 then .agg #[.bool false, .int .u64 0] else .agg #[.bool true, .int .u64 t]
def laF (la : List Int) (a : Int) : Value := if 0 ≤ a then tkV (la.getD a.toNat (-1)) else tkV (-1)
structure SoAt (w : World) (n : Int) (l : List Tb.SpecL) (q : SoM) (mv : Value) (r : Nat) (us : List Value) (s : SoS) (k : Nat) : Prop where
  st : w.heap[q.g]? = some (soO n (.slice q.sao l.length q.sc) mv q.mb)
  sa : 0 < l.length → q.sao = some ⟨q.sb, q.so, none⟩
  sl : 0 < l.length → q.sb < q.C0
  sp : Tb.SpecsAt w q.sb q.so l
  row : w.ownsRow (q.g + 1) 37 1 mv r us
  ws : WsAt w (q.g + 1) us s.ms
  off : Off mv us
  map : MapIs Tryz.prog 3 w q.mb k (tkV (-1)) (laF s.la)
  mC : q.C0 ≤ q.mb ∧ q.mb < q.g
theorem MapIs.same {P : Program} {k : TypeId} {w w' : World} {b n : Nat} {z : Value} {f : Int → Value} (h : MapIs P k w b n z f) (e : w'.heap[b]? = w.heap[b]?) : MapIs P k w' b n z f := by
  obtain ⟨D, ⟨es, c, h0, h1⟩, h2⟩ := h
  exact ⟨D, ⟨es, c, e.trans h0, h1⟩, h2⟩
theorem SoAt.lt {w : World} {n : Int} {l : List Tb.SpecL} {q : SoM} {mv : Value} {r : Nat} {us : List Value} {s : SoS} {k : Nat} (h : SoAt w n l q mv r us s k) : q.g < w.heap.size := blk_lt h.st
/-- all that there is stays, but for another row's block -/
theorem SoAt.keep {w w' : World} {n : Int} {l : List Tb.SpecL} {q : SoM} {mv : Value} {r : Nat} {us : List Value} {s : SoS} {k : Nat} (h : SoAt w n l q mv r us s k) {row : Option Nat} (hg : w.grownBy w' row) (hr : ∀ b, row = some b → q.g < b) (hm : mv.ownBlock = none ∨ mv.ownBlock ≠ row) (ho : ∀ u ∈ us, ∀ b, blkOf u = some b → some b ≠ row) : SoAt w' n l q mv r us s k := by
  have hlt := h.lt
  have hne : ∀ b, b ≤ q.g → some b ≠ row := fun b hb e => by have := hr b e.symm; omega
  refine ⟨(hg.block _ hlt (hne _ (Nat.le_refl _))).trans h.st, h.sa, h.sl, specs_keep h.sp (fun hl => hg.block _ (specs_lt h.sp hl) (hne _ ?_)), h.row.kept hg hm, h.ws.keepE (fun u hu b hb => hg.block b (h.ws.lt hu hb).2 (ho u hu b hb)), h.off, h.map.same (hg.block _ h.map.lt (hne _ (Nat.le_of_lt h.mC.2))), h.mC⟩
  have := h.sl hl
  have := h.mC
  omega
theorem SoAt.below {w w' : World} {n : Int} {l : List Tb.SpecL} {q : SoM} {mv : Value} {r : Nat} {us : List Value} {s : SoS} {k : Nat} (h : SoAt w n l q mv r us s k) (hb : Below w.heap.size w w') : SoAt w' n l q mv r us s k :=
  h.keep (grown_below hb) (fun b e => by cases e) (by cases hv : mv.ownBlock with | none => exact .inl rfl | some g => exact .inr (fun e => by cases e)) (fun _ _ _ _ e => by cases e)
theorem SoAt.alloc {w : World} {n : Int} {l : List Tb.SpecL} {q : SoM} {mv : Value} {r : Nat} {us : List Value} {s : SoS} {k : Nat} (h : SoAt w n l q mv r us s k) (o : Obj) : SoAt (w.alloc o) n l q mv r us s k := h.below ((Below.refl _ _).alloc (Nat.le_refl _) _)
theorem SoAt.drewN {w : World} {n : Int} {l : List Tb.SpecL} {q : SoM} {mv : Value} {r : Nat} {us : List Value} {s : SoS} {k : Nat} (h : SoAt w n l q mv r us s k) (m : Nat) : SoAt (w.drewN m) n l q mv r us s k := h.below (below_drewN (Below.refl _ _) m)
end
end Go.Proofs.YtjjleghalajidaaGreat
