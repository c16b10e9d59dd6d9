/- Walks for laws on plays: what reports hold; Many, None. -/
import Derived.Test.YtglpalomhhhmhaaZC
import Derived.Test.YtglpalomhhhmhaaN5
namespace Go.Proofs.Ytglpalomhhhmhaa
open Go.RowKit
theorem evCells_get : ∀ (l : List EvK) (i k : Nat) (y : EvK), l[i]? = some y → k < 8 → (l.flatMap evCells)[i * 8 + k]? = (evCells y)[k]?
  | [], _, _, _, h, _ => by simp at h
  | a :: r, 0, k, y, h, hk => by
    simp at h
    subst h
    rw [List.flatMap_cons, List.getElem?_append_left (by simp [evCells, evVs]; omega)]
    simp
  | a :: r, i + 1, k, y, h, hk => by
    have := evCells_get r i k y (by simpa using h) hk
    rw [List.flatMap_cons, List.getElem?_append_right (by simp [evCells, evVs]; omega), ← this]
    congr 1
    simp [evCells, evVs]
    omega

/-- an event in its place -/
structure EvC (B : Nat) (w : World) (g i : Nat) (x : EvR) (la ka : Option Addr) (lc kc : Nat) : Prop where
  c0 : w.cell? ⟨g, i * 8, none⟩ = some (.int .i64 (x.i : Int))
  c1 : w.cell? ⟨g, i * 8 + 1, none⟩ = some (.int .i64 (x.inv : Int))
  c2 : w.cell? ⟨g, i * 8 + 2, none⟩ = some (.int .i64 (x.resp : Int))
  c3 : w.cell? ⟨g, i * 8 + 3, none⟩ = some (.int .i64 (x.steps : Int))
  c4 : w.cell? ⟨g, i * 8 + 4, none⟩ = some (.int .i64 (x.ans.err : Int))
  c5 : w.cell? ⟨g, i * 8 + 5, none⟩ = some (.int .u64 (x.ans.val : Int))
  c6 : w.cell? ⟨g, i * 8 + 6, none⟩ = some (.slice la x.ans.list.length lc)
  c7 : w.cell? ⟨g, i * 8 + 7, none⟩ = some (.slice ka x.key.length kc)
  lst : ListAt w 37 mkU (fun b => B ≤ b) (.slice la x.ans.list.length lc) x.ans.list
  key : ListAt w 3 mkI (fun b => B ≤ b) (.slice ka x.key.length kc) x.key
theorem EvC.below {B : Nat} {w w' : World} {g i : Nat} {x : EvR} {la ka : Option Addr} {lc kc : Nat} (h : EvC B w g i x la ka lc kc) (hb : Below w.heap.size w w') : EvC B w' g i x la ka lc kc := by
  have hg : g < w.heap.size := World.block_lt_of_cell? w ⟨g, i * 8, none⟩ h.c0
  have e : ∀ k, w'.cell? ⟨g, k, none⟩ = w.cell? ⟨g, k, none⟩ := fun k => hb.cell (p := ⟨g, k, none⟩) hg
  exact ⟨(e _).trans h.c0, (e _).trans h.c1, (e _).trans h.c2, (e _).trans h.c3, (e _).trans h.c4, (e _).trans h.c5, (e _).trans h.c6, (e _).trans h.c7, h.lst.keep (fun b ht hB => ⟨hb.block b ht.lt, hB⟩), h.key.keep (fun b ht hB => ⟨hb.block b ht.lt, hB⟩)⟩
def EvAllG (B : Nat) (w : World) (g : Nat) (evs : List EvR) : Prop := ∀ (i : Nat) (x : EvR), evs[i]? = some x → B ≤ g ∧ ∃ la ka lc kc, EvC B w g i x la ka lc kc
theorem EvAllG.below {w w' : World} {B g : Nat} {evs : List EvR} (h : EvAllG B w g evs) {B' : Nat} (hb : Below B' w w') (hB : w.heap.size ≤ B') : EvAllG B w' g evs := fun i x hx => by
  obtain ⟨h1, la, ka, lc, kc, h3⟩ := h i x hx
  exact ⟨h1, la, ka, lc, kc, h3.below (hb.mono hB)⟩
theorem EvAllG.setCell {w : World} {B g : Nat} {evs : List EvR} (h : EvAllG B w g evs) {a : Addr} (ha : a.block < B) (v : Value) : EvAllG B (w.setCell a v) g evs := fun i x hx => by
  obtain ⟨h1, la, ka, lc, kc, h3⟩ := h i x hx
  have e : ∀ k, (w.setCell a v).cell? ⟨g, k, none⟩ = w.cell? ⟨g, k, none⟩ := fun k => by unfold World.cell?; rw [Below.heap_setCell _ _ _ _ (show g ≠ a.block by omega)]
  exact ⟨h1, la, ka, lc, kc, (e _).trans h3.c0, (e _).trans h3.c1, (e _).trans h3.c2, (e _).trans h3.c3, (e _).trans h3.c4, (e _).trans h3.c5, (e _).trans h3.c6, (e _).trans h3.c7, h3.lst.keep (fun b _ hB => ⟨Below.heap_setCell _ _ _ _ (by omega), hB⟩), h3.key.keep (fun b _ hB => ⟨Below.heap_setCell _ _ _ _ (by omega), hB⟩)⟩
theorem EvAllG.mono {w : World} {B B' g : Nat} {evs : List EvR} (h : EvAllG B w g evs) (hB : B' ≤ B) : EvAllG B' w g evs := fun i x hx => by
  obtain ⟨h1, la, ka, lc, kc, h3⟩ := h i x hx
  exact ⟨Nat.le_trans hB h1, la, ka, lc, kc, h3.c0, h3.c1, h3.c2, h3.c3, h3.c4, h3.c5, h3.c6, h3.c7, h3.lst.keep (fun b _ h => ⟨rfl, Nat.le_trans hB h⟩), h3.key.keep (fun b _ h => ⟨rfl, Nat.le_trans hB h⟩)⟩
theorem EvsG.opened {B : Nat} {w : World} {v : Value} {evs : List EvR} (h : EvsG B w v evs) :
    ∃ ao g cap, v = .slice ao evs.length cap ∧ (0 < evs.length → ao = some ⟨g, 0, none⟩) ∧ (0 < evs.length → g < w.heap.size) ∧ EvAllG B w g evs := by
  obtain ⟨ek, ho, hm, hk⟩ := h
  obtain ⟨ao, g, cap, rfl, h1, h2, h3, hc⟩ := owns_open ho
  refine ⟨ao, g, cap, rfl, h1, h3, fun i x hx => ?_⟩
  have hB := h2 (by have := (List.getElem?_eq_some_iff.1 hx).1; omega)
  rw [← hm, List.getElem?_map, Option.map_eq_some_iff] at hx
  obtain ⟨y, hy, rfl⟩ := hx
  obtain ⟨k1, k2⟩ := hk y (List.mem_of_getElem? hy)
  obtain ⟨la, lc, e1⟩ := k1.isSlice
  obtain ⟨ka, kc, e2⟩ := k2.isSlice
  have c : ∀ k u, k < 8 → (evCells y)[k]? = some u → w.cell? ⟨g, i * 8 + k, none⟩ = some u := fun k u hk8 hu => hc _ u ((evCells_get ek i k y hy hk8).trans hu)
  exact ⟨hB, la, ka, lc, kc, c 0 _ (by omega) rfl, c 1 _ (by omega) rfl, c 2 _ (by omega) rfl, c 3 _ (by omega) rfl, c 4 _ (by omega) rfl, c 5 _ (by omega) rfl, c 6 _ (by omega) (by rw [← e1]; rfl), c 7 _ (by omega) (by rw [← e2]; rfl), by rw [← e1]; exact k1, by rw [← e2]; exact k2⟩

/-- what a play that is played gives -/
def GoodG (r : RepR) (w : World) (e : Ending) (w' : World) : Prop :=
  ∃ aoE gE capE gw, e = .returned (.tuple #[.agg (repVs (.slice aoE r.evs.length capE) gw r).toArray, .int .i64 0]) ∧ (0 < r.evs.length → aoE = some ⟨gE, 0, none⟩) ∧
    EvAllG w.heap.size w' gE r.evs ∧ RowBlk 37 w' gw (u64s r.ws) ∧ w.heap.size ≤ gw ∧ Below w.heap.size w w'
theorem PlayG.good {M : Mach} {n : Int} {er : Nat} {cs : List CallV} {ws : List Nat} {s : M.S} {picks : List Int} {w w' : World} {e : Ending} (h : PlayG M n er cs ws s picks w e w') (he : playErr n cs picks.length er = 0) : GoodG (repOf (endM (M := M) cs ws s picks)) w e w' := by
  obtain ⟨_, _, _, _, _, _, _, _, _, _, _, _, _, v, rfl, _, _, hR, hb'⟩ := h
  obtain ⟨ev, gw, rfl, hev, hrw, hgw⟩ := hR he
  obtain ⟨aoE, gE, capE, rfl, h1, _, h3⟩ := hev.opened
  exact ⟨aoE, gE, capE, gw, by rw [he]; rfl, h1, h3, hrw, hgw, hb'⟩
theorem PlayG.bad {M : Mach} {n : Int} {er : Nat} {cs : List CallV} {ws : List Nat} {s : M.S} {picks : List Int} {w w' : World} {e : Ending} (h : PlayG M n er cs ws s picks w e w') (he : playErr n cs picks.length er ≠ 0) :
    e = .returned (.tuple #[zeroRep, .int .i64 (playErr n cs picks.length er : Nat)]) ∧ Below w.heap.size w w' := by
  obtain ⟨_, _, _, _, _, _, _, _, _, _, _, _, _, v, rfl, _, hz, _, hb'⟩ := h
  rw [hz he]
  exact ⟨rfl, hb'⟩
set_option maxRecDepth 20000 in
theorem many_yes (ao ao3 : Option Addr) (cl cap pl cap3 : Nat) (w : World) (hp : pl ≤ 9223372036854775807) (h : (60 < cl ∧ cl ≤ 1000) ∨ (600 < pl ∧ pl ≤ 65536) ∨ 1100 < cl) :
    Calls Try.prog 6 #[.slice ao cl cap, .slice ao3 pl cap3] w fun e w' => e = .returned (.bool true) ∧ w = w' := by
  go_enter Try.func6, Try.ntmps6
  by_cases h1 : 60 < cl
  · by_cases h2 : cl ≤ 1000
    · go_wp2
      go_ret
      exact ⟨rfl, rfl⟩
    · by_cases h3 : 600 < pl
      · by_cases h4 : pl ≤ 65536
        · go_wp2
          go_ret
          exact ⟨rfl, rfl⟩
        · have h5 : 1100 < cl := by omega
          go_wp2
          go_ret
          exact ⟨by simp; omega, rfl⟩
      · have h5 : 1100 < cl := by omega
        go_wp2
        go_ret
        exact ⟨by simp; omega, rfl⟩
  · have h3 : 600 < pl := by omega
    have h4 : pl ≤ 65536 := by omega
    go_wp2
    go_ret
    exact ⟨rfl, rfl⟩

set_option maxRecDepth 20000 in
theorem many_no (ao ao3 : Option Addr) (cl cap pl cap3 : Nat) (w : World) (hp : pl ≤ 9223372036854775807) (h : ¬ ((60 < cl ∧ cl ≤ 1000) ∨ (600 < pl ∧ pl ≤ 65536) ∨ 1100 < cl)) :
    Calls Try.prog 6 #[.slice ao cl cap, .slice ao3 pl cap3] w fun e w' => e = .returned (.bool false) ∧ w = w' := by
  have h5 : ¬ 1100 < cl := by omega
  go_enter Try.func6, Try.ntmps6
  by_cases h1 : 60 < cl
  · have h2 : ¬ cl ≤ 1000 := by omega
    by_cases h3 : 600 < pl
    · have h4 : ¬ pl ≤ 65536 := by omega
      clear h
      go_wp2
      go_ret
      exact ⟨by simp; omega, rfl⟩
    · clear h
      go_wp2
      go_ret
      exact ⟨by simp; omega, rfl⟩
  · by_cases h3 : 600 < pl
    · have h4 : ¬ pl ≤ 65536 := by omega
      clear h
      go_wp2
      go_ret
      exact ⟨by simp; omega, rfl⟩
    · clear h
      go_wp2
      go_ret
      exact ⟨by simp; omega, rfl⟩

set_option maxRecDepth 20000 in
set_option maxHeartbeats 2000000 in
theorem same_zero (w : World) : Calls Try.prog 15 #[zeroRep, zeroRep] w fun e w' => e = .returned (.bool true) ∧ Below w.heap.size w w' := by
  unfold zeroRep zeroVs
  go_enter Try.func15, Try.ntmps15
  go_wp2_with fail
  refine (same_yes none none 0 0 0 0 0 0 [] _ (by simp) (fun h => absurd h (by simp)) (fun h => absurd h (by simp)) (fun i x h => by simp at h) (fun i x h => by simp at h)).mono ?_
  rintro e w1 ⟨rfl, m, rfl⟩
  go_wp2_with fail
  refine wp_loop_rounds 1 ?_
  rw [rounds_succ]
  go_wp2_with fail
  go_ret
  exact ⟨rfl, below_drewN (((Below.refl _ _).alloc (Nat.le_refl _) _).alloc (by simp) _) m⟩

set_option maxRecDepth 20000 in
theorem none_zero (w : World) : Calls Try.prog 9 #[zeroRep] w fun e w' => e = .returned (.bool true) ∧ Below w.heap.size w w' := by
  have hs := same_zero (w.alloc (.cells zeroVs.toArray 31))
  unfold zeroRep zeroVs at *
  go_enter Try.func9, Try.ntmps9
  go_wp2_with fail
  refine hs.mono ?_
  rintro e w1 ⟨rfl, hb1⟩
  go_wp2_with fail
  go_ret
  exact ⟨rfl, ((Below.refl _ _).alloc (Nat.le_refl _) _).trans (hb1.mono (by simp))⟩

end Go.Proofs.Ytglpalomhhhmhaa
