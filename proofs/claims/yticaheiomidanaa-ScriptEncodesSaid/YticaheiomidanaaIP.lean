/- Plain: what is written is read as it was. -/
import Derived.Test.YticaheiomidanaaIL
namespace Go.Proofs.Yticaheiomidanaa
open Go.RowKit

theorem pPair_fwd {v : Nat} (r : List Nat) (h : v ≤ 65535) : pPair (pairL v ++ r) = some (v, r) := by
  show pPair (v / 256 :: v % 256 :: r) = _
  unfold pPair
  simp only [pNext]
  rw [show v / 256 * 256 + v % 256 = v by omega]
theorem pVar_fwd (f : Nat) : ∀ (i acc y : Nat) (r : List Nat), i + f = 9 → (0 < i → y ≠ 0) → y < 2 ^ (64 - 7 * i) → pVar (f + 1) i acc (varF f y ++ r) = some (acc + y * 2 ^ (7 * i), r) := by
  induction f with
  | zero =>
    intro i acc y r hi h0 hy
    obtain rfl : i = 9 := by omega
    have hy1 : y = 1 := by
      have := h0 (by decide)
      have : (2 : Nat) ^ (64 - 7 * 9) = 2 := by decide
      omega
    subst hy1
    show pVar 1 9 acc (1 :: r) = _
    rw [pVar]
    simp [pNext]
  | succ f ih =>
    intro i acc y r hi h0 hy
    by_cases h : 128 ≤ y
    · have hp : 0 < y / 128 := by omega
      rw [varF, if_pos h]
      show pVar (f + 1 + 1) i acc ((y % 128 + 128) :: (varF f (y / 128) ++ r)) = _
      rw [pVar]
      simp only [pNext]
      rw [if_neg (by omega), if_neg (by omega)]
      have e : (2 : Nat) ^ (64 - 7 * i) = 128 * 2 ^ (64 - 7 * (i + 1)) := by
        rw [show 64 - 7 * i = 7 + (64 - 7 * (i + 1)) by omega, Nat.pow_add]
      rw [ih (i + 1) _ (y / 128) r (by omega) (fun _ => by omega) (by rw [e] at hy; omega)]
      congr 2
      rw [pow_step, Nat.add_assoc]
      congr 1
      rw [show (y % 128 + 128) % 128 = y % 128 by omega]
      have := Nat.div_add_mod y 128
      calc y % 128 * 2 ^ (7 * i) + y / 128 * (128 * 2 ^ (7 * i)) = (128 * (y / 128) + y % 128) * 2 ^ (7 * i) := by rw [Nat.add_mul]; ac_rfl
        _ = y * 2 ^ (7 * i) := by rw [this]
    · rw [varF_small (by omega)]
      show pVar (f + 1 + 1) i acc (y :: r) = _
      rw [pVar]
      simp only [pNext]
      rw [if_neg (by omega), if_pos (by omega), Nat.mod_eq_of_lt (by omega)]
theorem pVar_full {y : Nat} (r : List Nat) (h : y < 18446744073709551616) : pVar 10 0 0 (varF 9 y ++ r) = some (y, r) := by
  rw [pVar_fwd 9 0 0 y r rfl (fun h => absurd h (by decide)) (by simpa using h)]
  simp
theorem pSpec_fwd {s : SpV} (r : List Nat) (h : okSp s) : pSpec (specL s.toI ++ r) = some (s, r) := by
  have e : specL s.toI ++ r = s.k :: (pairL s.p ++ (pairL s.q ++ r)) := by simp [specL, SpV.toI, List.append_assoc]
  rw [e]
  unfold pSpec
  simp only [pNext]
  rw [pPair_fwd _ h.2.1]
  simp only
  rw [pPair_fwd _ h.2.2]
theorem pSpecA_fwd (m : List SpV) : ∀ (acc : List SpV) (r : List Nat), (∀ s ∈ m, okSp s) → pSpecA m.length acc ((m.map SpV.toI).flatMap specL ++ r) = some (acc ++ m, r) := by
  induction m with
  | nil => intro acc r _; simp [pSpecA]
  | cons s m ih =>
    intro acc r h
    rw [List.length_cons, pSpecA, List.map_cons, List.flatMap_cons, List.append_assoc, pSpec_fwd _ (h s (by simp))]
    simp only
    rw [ih _ _ (fun t ht => h t (by simp [ht]))]
    simp
theorem pCall_fwd {M : Nat} {s : CaV} (r : List Nat) (h : okCa M s) : pCall M (callL s.toI ++ r) = some (s, r) := by
  have e : callL s.toI ++ r = s.t :: s.o :: s.k :: (varF 9 s.a ++ (varF 9 s.b ++ (varF 9 s.c ++ r))) := by simp [callL, CaV.toI, List.append_assoc]
  obtain ⟨h1, h2, h3, h4, h5, h6⟩ := h
  rw [e]
  unfold pCall
  simp only [pNext]
  rw [if_neg (by omega), pVar_full _ h4]
  simp only
  rw [pVar_full _ h5]
  simp only
  rw [pVar_full _ h6]
theorem pCallA_fwd (M : Nat) (m : List CaV) : ∀ (acc : List CaV) (r : List Nat), (∀ s ∈ m, okCa M s) → pCallA M m.length acc ((m.map CaV.toI).flatMap callL ++ r) = some (acc ++ m, r) := by
  induction m with
  | nil => intro acc r _; simp [pCallA]
  | cons s m ih =>
    intro acc r h
    rw [List.length_cons, pCallA, List.map_cons, List.flatMap_cons, List.append_assoc, pCall_fwd _ (h s (by simp))]
    simp only
    rw [ih _ _ (fun t ht => h t (by simp [ht]))]
    simp
theorem pRuns_fwd (l : List Nat) : ∀ (x n : Nat) (last : Int) (lc cnt : Nat), n < 255 → ((x : Int) = last → 255 ≤ lc) → cnt + n + (l.length + 1) ≤ 65536 →
    pRuns last lc cnt (refR n (pI (x :: l))) = some (List.replicate n x ++ (x :: l)) := by
  induction l with
  | nil =>
    intro x n last lc cnt hn hl hc
    show pRuns last lc cnt [(x : Int).toNat, n + 1] = _
    rw [pRuns, if_neg (by simp at *; omega), if_neg (by simp at hc; omega)]
    show some (List.replicate (n + 1) (x : Int).toNat ++ []) = _
    rw [Int.toNat_natCast, List.append_nil, List.replicate_succ']
  | cons y l ih =>
    intro x n last lc cnt hn hl hc
    simp only [List.length_cons] at hc
    by_cases h : n + 1 = 255 ∨ (y : Int) ≠ (x : Int)
    · have e : refR n (pI (x :: y :: l)) = x :: (n + 1) :: refR 0 (pI (y :: l)) := by
        show refR n ((x : Int) :: (y : Int) :: pI l) = _
        rw [refR, if_pos h, Int.toNat_natCast]; rfl
      rw [e, pRuns, if_neg (by omega), if_neg (by omega), ih y 0 (x : Int) (n + 1) (cnt + (n + 1)) (by decide) (fun hyx => by
        rcases h with h | h
        · omega
        · exact absurd hyx h) (by omega)]
      simp [List.replicate_succ']
    · have hxy : y = x := by omega
      subst hxy
      have e : refR n (pI (y :: y :: l)) = refR (n + 1) (pI (y :: l)) := by
        show refR n ((y : Int) :: (y : Int) :: pI l) = _
        rw [refR_more (by omega)]; rfl
      rw [e, ih y (n + 1) last lc cnt (by omega) hl (by omega), List.replicate_succ']
      simp
theorem pPicks_fwd (l : List Nat) (h : l.length ≤ 65536) : pPicks (refR 0 (pI l)) = some (l, []) := by
  unfold pPicks
  cases l with
  | nil => rfl
  | cons x l =>
    rw [pRuns_fwd l x 0 (-1) 0 0 (by decide) (by omega) (by simp at h; omega)]
    rfl

/-- WHAT IS WRITTEN IS READ AS IT WAS -/
theorem read_written {x : ScD} (h1 : ∀ s ∈ x.specs, okSp s) (h2 : ∀ s ∈ x.calls, okCa x.n s) (l1 : x.specs.length ≤ 8) (l2 : x.calls.length ≤ 1000) (l3 : x.picks.length ≤ 65536) (hn1 : 1 ≤ x.n) (hn2 : x.n ≤ 16) :
    pScript (encL x.toI) = some (x, []) := by
  obtain ⟨n, specs, calls, picks⟩ := x
  dsimp only at *
  have e : encL (ScD.toI ⟨n, specs, calls, picks⟩) = n :: specs.length :: ((specs.map SpV.toI).flatMap specL ++ (pairL calls.length ++ ((calls.map CaV.toI).flatMap callL ++ refR 0 (pI picks)))) := by
    unfold encL ScD.toI
    simp [List.append_assoc]
  rw [e]
  unfold pScript pThreads
  simp only [pNext]
  rw [if_neg (by omega)]
  simp only
  unfold pSpecs
  simp only [pNext]
  rw [if_neg (by omega), pSpecA_fwd specs [] _ h1]
  simp only
  unfold pCalls
  rw [pPair_fwd _ (by omega)]
  simp only
  rw [if_neg (by omega), pCallA_fwd n calls [] _ h2]
  simp only
  rw [pPicks_fwd picks l3]
  simp

/-- a script that is right, as it is read -/
def ScI.toD (s : ScI) : ScD := ⟨s.n.toNat, s.specs.map (fun y => ⟨y.k.toNat, y.p.toNat, y.q.toNat⟩), s.calls.map (fun y => ⟨y.t.toNat, y.o.toNat, y.k.toNat, y.a, y.b, y.c⟩), s.picks.map Int.toNat⟩
theorem map_self {α : Type} {f : α → α} (l : List α) (h : ∀ x ∈ l, f x = x) : l.map f = l := by
  conv => rhs; rw [← List.map_id l]
  exact List.map_congr_left h
theorem right_toD {s : ScI} (hw : wrong s = 0) (hc : ∀ y ∈ s.calls, y.a < 18446744073709551616 ∧ y.b < 18446744073709551616 ∧ y.c < 18446744073709551616) :
    s.toD.toI = s ∧ pScript (encL s) = some (s.toD, []) := by
  obtain ⟨⟨hn1, hn2⟩, l1, l2, l3, r1, r2, r3⟩ := right_parts hw
  have e : s.toD.toI = s := by
    obtain ⟨n, specs, calls, picks⟩ := s
    dsimp only at *
    unfold ScI.toD ScD.toI
    dsimp only
    congr 1
    · omega
    · rw [List.map_map]
      refine map_self _ (fun y hy => ?_)
      have := r1 y hy
      obtain ⟨k, p, q⟩ := y
      dsimp only at this
      simp only [Function.comp, SpV.toI]
      congr 1 <;> omega
    · rw [List.map_map]
      refine map_self _ (fun y hy => ?_)
      have := r2 y hy
      obtain ⟨t, o, k, a, b, c⟩ := y
      dsimp only at this
      simp only [Function.comp, CaV.toI]
      congr 1 <;> omega
    · rw [List.map_map]
      refine map_self _ (fun y hy => ?_)
      have := r3 y hy
      simp only [Function.comp]
      omega
  refine ⟨e, ?_⟩
  have := read_written (x := s.toD) ?_ ?_ (by simpa [ScI.toD] using l1) (by simpa [ScI.toD] using l2) (by simpa [ScI.toD] using l3) (by show 1 ≤ s.n.toNat; omega) (by show s.n.toNat ≤ 16; omega)
  · rw [e] at this; exact this
  · intro t ht
    obtain ⟨y, hy, rfl⟩ := List.mem_map.1 ht
    have := r1 y hy
    exact ⟨by show y.k.toNat ≤ 255; omega, by show y.p.toNat ≤ 65535; omega, by show y.q.toNat ≤ 65535; omega⟩
  · intro t ht
    obtain ⟨y, hy, rfl⟩ := List.mem_map.1 ht
    have := r2 y hy
    have h5 := hc y hy
    exact ⟨by show y.t.toNat < s.n.toNat; omega, by show y.o.toNat ≤ 255; omega, by show y.k.toNat ≤ 255; omega, h5⟩
end Go.Proofs.Yticaheiomidanaa
