/- Walk of adds; of None. -/
import Derived.Test.YtjlopeijdmnacaaYE
namespace Go.Proofs.Ytjlopeijdmnacaa
open Go.RowKit

def addCs : List CallV := [⟨0, 0, 3, 0, 5, 0⟩, ⟨1, 0, 3, 0, 7, 0⟩]
/-- two threads that add to a cell -/
theorem adds_end : stEnd addCs 1 [1, 0, 1] = ⟨[true, true], [12], ⟨0, 0, 0, 2, 0⟩, 2, 1, [⟨1, 1, 0, 0⟩, ⟨0, 2, 0, 7⟩]⟩ := by rfl
set_option maxRecDepth 20000 in
set_option maxHeartbeats 2000000 in
theorem adds_any (w : World) : Calls Try.prog 19 #[] w fun e w' => e = .returned (.bool true) ∧ Below w.heap.size w w' := by
  go_enter Try.func19, Try.ntmps19
  go_wp2_with fail
  generalize hw2 : (w.alloc (.cells #[.int .i64 0, .int .i64 0, .int .i64 3, .int .u64 0, .int .u64 5, .int .u64 0, .int .i64 1, .int .i64 0, .int .i64 3, .int .u64 0, .int .u64 7, .int .u64 0] 45)).alloc (.cells #[.int .i64 1, .int .i64 0, .int .i64 1] 3) = w2
  have HB0 : Hid (Below w.heap.size w w2) := Lib.hid (by rw [← hw2]; exact ((Below.refl _ _).alloc (Nat.le_refl _) _).alloc (by simp) _)
  have hsz : w2.heap.size = w.heap.size + 2 := by rw [← hw2]; simp
  have hc : CallsAt w2 w.heap.size 0 addCs := by
    have e : ∀ k, w2.cell? ⟨w.heap.size, k, none⟩ = (#[.int .i64 0, .int .i64 0, .int .i64 3, .int .u64 0, .int .u64 5, .int .u64 0, .int .i64 1, .int .i64 0, .int .i64 3, .int .u64 0, .int .u64 7, .int .u64 0] : Array Value)[k]? := fun k => by
      rw [← hw2, World.cell?_alloc_past _ _ _ (by simp), World.cell?_alloc_at _ _ _ _ rfl]
    intro i x hx
    match i, hx with
    | 0, hx => cases hx; refine ⟨e _, e _, e _, e _, e _, e _, ?_⟩; decide
    | 1, hx => cases hx; refine ⟨e _, e _, e _, e _, e _, e _, ?_⟩; decide
    | i + 2, hx => simp [addCs] at hx
  have hp : ICells w2 (w.heap.size + 1) 0 [1, 0, 1] := by
    have e : ∀ k, w2.cell? ⟨w.heap.size + 1, k, none⟩ = (#[.int .i64 1, .int .i64 0, .int .i64 1] : Array Value)[k]? := fun k => by
      rw [← hw2, World.cell?_alloc_at _ _ _ _ (by simp)]
    intro i x hx
    match i, hx with
    | 0, hx => cases hx; exact ⟨e _, by decide⟩
    | 1, hx => cases hx; exact ⟨e _, by decide⟩
    | 2, hx => cases hx; exact ⟨e _, by decide⟩
    | i + 3, hx => simp at hx
  have HG := Lib.hid (cells_good 2 1 (some ⟨w.heap.size, 0, none⟩) w.heap.size 0 2 addCs (some ⟨w.heap.size + 1, 0, none⟩) (w.heap.size + 1) 0 3 [1, 0, 1] w2 (fun _ => rfl) (fun _ => by omega) hc (fun h => by cases h) (fun _ => rfl) (fun _ => by omega) hp (by decide) (by decide))
  clear hw2 hc hp
  refine (show Calls Try.prog 20 #[.int .i64 2, .int .i64 1, .slice (some ⟨w.heap.size, 0, none⟩) 2 2, .slice (some ⟨w.heap.size + 1, 0, none⟩) 3 3] w2 (GoodPost addCs 1 [1, 0, 1] w2) from HG.out).mono ?_
  rintro e w3 ⟨aoE, gE, capE, gw, rfl, hao, hev, hrw, _, hb3⟩
  rw [adds_end] at hao hev hrw ⊢
  obtain rfl := hao (by decide)
  have z := hb3.size
  have HB3 : Hid (Below w.heap.size w w3) := Lib.hid (HB0.out.trans (hb3.mono (by omega)))
  obtain ⟨_, kb0, ck0, _, v0⟩ := hev 0 _ rfl
  obtain ⟨_, kb1, ck1, _, v1⟩ := hev 1 _ rfl
  have r0 : w3.cell? ⟨gE, 0, none⟩ = some (.int .i64 1) := v0.c0
  have r5 : w3.cell? ⟨gE, 5, none⟩ = some (.int .u64 0) := v0.c5
  have r13 : w3.cell? ⟨gE, 13, none⟩ = some (.int .u64 7) := v1.c5
  have rw0 : w3.cell? ⟨gw, 0, none⟩ = some (.int .u64 12) := hrw.cell rfl
  have l1 := World.block_lt_of_cell? w3 ⟨gE, 0, none⟩ r0
  have l2 := hrw.lt
  clear hao hev hrw hb3 v0 v1 HG
  unfold repVs
  go_wp2_with fail
  go_ret
  exact ⟨rfl, HB3.out.alloc (by omega) _⟩

set_option maxRecDepth 20000 in
set_option maxHeartbeats 2000000 in
theorem same_zero (w : World) : Calls Try.prog 32 #[zeroRep, zeroRep] w fun e w' => e = .returned (.bool true) ∧ Below w.heap.size w w' := by
  unfold zeroRep zeroVs
  go_enter Try.func32, Try.ntmps32
  go_wp2_with fail
  refine (same_yes none none 0 0 0 0 0 0 [] _ (by simp) (fun h => absurd h (by simp)) (fun h => absurd h (by simp)) (fun i x h => by simp at h) (fun i x h => by simp at h)).mono ?_
  rintro e w1 ⟨rfl, m, rfl⟩
  go_wp2_with fail
  refine wp_loop_rounds 1 ?_
  rw [rounds_succ]
  go_wp2_with fail
  go_ret
  exact ⟨rfl, below_drewN (((Below.refl _ _).alloc (Nat.le_refl _) _).alloc (by simp) _) m⟩

set_option maxRecDepth 20000 in
theorem none_zero (w : World) : Calls Try.prog 21 #[zeroRep] w fun e w' => e = .returned (.bool true) ∧ Below w.heap.size w w' := by
  have hs := same_zero (w.alloc (.cells zeroVs.toArray 53))
  unfold zeroRep zeroVs at *
  go_enter Try.func21, Try.ntmps21
  go_wp2_with fail
  refine hs.mono ?_
  rintro e w1 ⟨rfl, hb1⟩
  go_wp2_with fail
  go_ret
  exact ⟨rfl, ((Below.refl _ _).alloc (Nat.le_refl _) _).trans (hb1.mono (by simp))⟩

/-! what more picks leave -/
theorem pick_grows {cs : List CallV} {size : Nat} {st : PlaySt} {p : Int} : (∃ l, (pickStep cs size st p).evs = st.evs ++ l) ∧ st.ticks ≤ (pickStep cs size st p).ticks ∧ st.idle ≤ (pickStep cs size st p).idle := by
  unfold pickStep
  split
  · exact ⟨⟨[], by simp⟩, Nat.le_refl _, Nat.le_succ _⟩
  · split
    · exact ⟨⟨[], by simp⟩, Nat.le_refl _, Nat.le_refl _⟩
    · exact ⟨⟨_, rfl⟩, Nat.le_succ _, Nat.le_refl _⟩
theorem picks_grow {cs : List CallV} {size : Nat} : ∀ (l : List Int) (st : PlaySt), (∃ r, (l.foldl (pickStep cs size) st).evs = st.evs ++ r) ∧ st.ticks ≤ (l.foldl (pickStep cs size) st).ticks ∧ st.idle ≤ (l.foldl (pickStep cs size) st).idle
  | [], _ => ⟨⟨[], by simp⟩, Nat.le_refl _, Nat.le_refl _⟩
  | p :: r, st => by
    obtain ⟨⟨l1, h1⟩, h2, h3⟩ := pick_grows (cs := cs) (size := size) (st := st) (p := p)
    obtain ⟨⟨l2, h4⟩, h5, h6⟩ := picks_grow (cs := cs) (size := size) r (pickStep cs size st p)
    refine ⟨⟨l1 ++ l2, ?_⟩, Nat.le_trans h2 h5, Nat.le_trans h3 h6⟩
    rw [List.foldl_cons, h4, h1, List.append_assoc]
theorem stEnd_take (cs : List CallV) (size : Nat) (picks : List Int) (k : Nat) : (∃ r, (stEnd cs size picks).evs = (stEnd cs size (picks.take k)).evs ++ r) ∧ (stEnd cs size (picks.take k)).ticks ≤ (stEnd cs size picks).ticks ∧ (stEnd cs size (picks.take k)).idle ≤ (stEnd cs size picks).idle := by
  have h := picks_grow (cs := cs) (size := size) (picks.drop k) (stEnd cs size (picks.take k))
  have e : (picks.drop k).foldl (pickStep cs size) (stEnd cs size (picks.take k)) = stEnd cs size picks := by
    unfold stEnd
    rw [← List.foldl_append, List.take_append_drop]
  rw [e] at h
  exact h
theorem pick_len {cs : List CallV} {size : Nat} {st : PlaySt} {p : Int} : (pickStep cs size st p).evs.length ≤ st.evs.length + 1 := by
  unfold pickStep
  split
  · simp
  · split <;> simp
theorem picks_len {cs : List CallV} {size : Nat} : ∀ (l : List Int) (st : PlaySt), (l.foldl (pickStep cs size) st).evs.length ≤ st.evs.length + l.length
  | [], _ => by simp
  | p :: r, st => by
    have h1 := pick_len (cs := cs) (size := size) (st := st) (p := p)
    have h2 := picks_len (cs := cs) (size := size) r (pickStep cs size st p)
    rw [List.foldl_cons, List.length_cons]
    omega
theorem stEnd_len (cs : List CallV) (size : Nat) (picks : List Int) : (stEnd cs size picks).evs.length ≤ picks.length := by
  have := picks_len (cs := cs) (size := size) picks (st0 cs size)
  have e : (st0 cs size).evs.length = 0 := rfl
  unfold stEnd
  omega
theorem err_take (n size : Int) (cs : List CallV) {np k : Nat} (hk : k ≤ np) (h : cellsErr n size cs np = 0) : cellsErr n size cs k = 0 := by
  unfold cellsErr at h ⊢
  split at h
  · next h1 => exact absurd h h1
  · next h1 =>
    split at h
    · cases h
    · next h2 =>
      have h1' := Decidable.not_not.1 h1
      have h3 := check_zero h1'
      have h4 : checkL n (thr cs) k = 0 := by
        unfold checkL at h1' ⊢
        split at h1'
        · next h5 => exact absurd h1' h5
        · next h5 => rw [if_neg h5, if_neg (by omega)]; exact h3.1
      rw [if_neg (by simpa using h4), if_neg h2]
end Go.Proofs.Ytjlopeijdmnacaa
