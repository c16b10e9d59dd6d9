/- Walks for the laws of loom: what reports hold; Many, Ints, Answer, Event. -/
import Derived.Test.YtjlopeijdmnacaaYD
import Derived.Test.YtjlopeijdmnacaaN5
namespace Go.Proofs.Ytjlopeijdmnacaa
open Go.RowKit

theorem evV_get : ∀ (l : List (EvG × Nat × Nat)) (i k : Nat) (y : EvG × Nat × Nat), l[i]? = some y → k < 8 → (l.flatMap evV)[i * 8 + k]? = (evV y)[k]?
  | [], _, _, _, h, _ => by simp at h
  | a :: r, 0, k, y, h, hk => by
    simp at h
    subst h
    rw [List.flatMap_cons, List.getElem?_append_left (by simp [evV]; omega)]
    simp
  | a :: r, i + 1, k, y, h, hk => by
    have := evV_get r i k y (by simpa using h) hk
    rw [List.flatMap_cons, List.getElem?_append_right (by simp [evV]; omega), ← this]
    congr 1
    simp [evV]
    omega

/-- an event in its place -/
structure EvCells (w : World) (g i : Nat) (x : EvG) (kb ck : Nat) : Prop where
  c0 : w.cell? ⟨g, i * 8, none⟩ = some (.int .i64 (x.i : Int))
  c1 : w.cell? ⟨g, i * 8 + 1, none⟩ = some (.int .i64 (x.t : Int))
  c2 : w.cell? ⟨g, i * 8 + 2, none⟩ = some (.int .i64 (x.t : Int))
  c3 : w.cell? ⟨g, i * 8 + 3, none⟩ = some (.int .i64 1)
  c4 : w.cell? ⟨g, i * 8 + 4, none⟩ = some (.int .i64 (x.e : Int))
  c5 : w.cell? ⟨g, i * 8 + 5, none⟩ = some (.int .u64 (x.v : Int))
  c6 : w.cell? ⟨g, i * 8 + 6, none⟩ = some (.slice none 0 0)
  c7 : w.cell? ⟨g, i * 8 + 7, none⟩ = some (.slice (some ⟨kb, 0, none⟩) 1 ck)
  key : KeyAt w kb x.t

theorem EvCells.below {w w' : World} {g i : Nat} {x : EvG} {kb ck : Nat} (h : EvCells w g i x kb ck) {B : Nat} (hb : Below B w w') (hB : w.heap.size ≤ B) : EvCells w' g i x kb ck := by
  have hg : g < w.heap.size := World.block_lt_of_cell? w ⟨g, i * 8, none⟩ h.c0
  have e : ∀ k, w'.cell? ⟨g, k, none⟩ = w.cell? ⟨g, k, none⟩ := fun k => hb.cell (p := ⟨g, k, none⟩) (Nat.lt_of_lt_of_le hg hB)
  exact ⟨(e _).trans h.c0, (e _).trans h.c1, (e _).trans h.c2, (e _).trans h.c3, (e _).trans h.c4, (e _).trans h.c5, (e _).trans h.c6, (e _).trans h.c7, h.key.same (hb.block _ (Nat.lt_of_lt_of_le h.key.lt hB))⟩

/-- events in their places, all from a block on -/
def EvAll (B : Nat) (w : World) (g : Nat) (evs : List EvG) : Prop := ∀ i x, evs[i]? = some x → B ≤ g ∧ ∃ kb ck, B ≤ kb ∧ EvCells w g i x kb ck
theorem EvAll.below {w w' : World} {B g : Nat} {evs : List EvG} (h : EvAll B w g evs) {B' : Nat} (hb : Below B' w w') (hB : w.heap.size ≤ B') : EvAll B w' g evs := fun i x hx => by
  obtain ⟨h1, kb, ck, h2, h3⟩ := h i x hx
  exact ⟨h1, kb, ck, h2, h3.below hb hB⟩
theorem EvAll.setCell {w : World} {B g : Nat} {evs : List EvG} (h : EvAll B w g evs) {a : Addr} (ha : a.block < B) (v : Value) : EvAll B (w.setCell a v) g evs := fun i x hx => by
  obtain ⟨h1, kb, ck, h2, h3⟩ := h i x hx
  have e : ∀ k, (w.setCell a v).cell? ⟨g, k, none⟩ = w.cell? ⟨g, k, none⟩ := fun k => by unfold World.cell?; rw [Below.heap_setCell _ _ _ _ (show g ≠ a.block by omega)]
  exact ⟨h1, kb, ck, h2, (e _).trans h3.c0, (e _).trans h3.c1, (e _).trans h3.c2, (e _).trans h3.c3, (e _).trans h3.c4, (e _).trans h3.c5, (e _).trans h3.c6, (e _).trans h3.c7, h3.key.same (Below.heap_setCell _ _ _ _ (show kb ≠ a.block by omega))⟩
theorem EvAll.mono {w : World} {B B' g : Nat} {evs : List EvG} (h : EvAll B w g evs) (hB : B' ≤ B) : EvAll B' w g evs := fun i x hx => by
  obtain ⟨h1, kb, ck, h2, h3⟩ := h i x hx
  exact ⟨by omega, kb, ck, by omega, h3⟩

theorem EvsIs.opened {B : Nat} {w : World} {v : Value} {evs : List EvG} (h : EvsIs B w v evs) :
    ∃ ao g cap, v = .slice ao evs.length cap ∧ (0 < evs.length → ao = some ⟨g, 0, none⟩) ∧ (0 < evs.length → g < w.heap.size) ∧ EvAll B w g evs := by
  obtain ⟨ek, ho, hm, hk⟩ := h
  obtain ⟨ao, g, cap, rfl, h1, h2, h3, hc⟩ := owns_open ho
  refine ⟨ao, g, cap, rfl, h1, h3, fun i x hx => ?_⟩
  have hB := h2 (by have := (List.getElem?_eq_some_iff.1 hx).1; omega)
  rw [← hm, List.getElem?_map, Option.map_eq_some_iff] at hx
  obtain ⟨y, hy, rfl⟩ := hx
  have c : ∀ k u, k < 8 → (evV y)[k]? = some u → w.cell? ⟨g, i * 8 + k, none⟩ = some u := fun k u hk8 hu => hc _ u ((evV_get ek i k y hy hk8).trans hu)
  exact ⟨hB, y.2.1, y.2.2, (hk y (List.mem_of_getElem? hy)).2, c 0 _ (by omega) rfl, c 1 _ (by omega) rfl, c 2 _ (by omega) rfl, c 3 _ (by omega) rfl, c 4 _ (by omega) rfl, c 5 _ (by omega) rfl, c 6 _ (by omega) rfl, c 7 _ (by omega) rfl, (hk y (List.mem_of_getElem? hy)).1⟩

set_option maxRecDepth 20000 in
theorem many_yes (ao ao3 : Option Addr) (cl cap pl cap3 : Nat) (w : World) (hp : pl ≤ 9223372036854775807) (h : (60 < cl ∧ cl ≤ 1000) ∨ (600 < pl ∧ pl ≤ 65536) ∨ 1100 < cl) :
    Calls Try.prog 18 #[.slice ao cl cap, .slice ao3 pl cap3] w fun e w' => e = .returned (.bool true) ∧ w = w' := by
  go_enter Try.func18, Try.ntmps18
  by_cases h1 : 60 < cl
  · by_cases h2 : cl ≤ 1000
    · go_wp2
      go_ret
      exact ⟨rfl, rfl⟩
    · by_cases h3 : 600 < pl
      · by_cases h4 : pl ≤ 65536
        · go_wp2
          go_ret
          exact ⟨rfl, rfl⟩
        · have h5 : 1100 < cl := by omega
          go_wp2
          go_ret
          exact ⟨by simp; omega, rfl⟩
      · have h5 : 1100 < cl := by omega
        go_wp2
        go_ret
        exact ⟨by simp; omega, rfl⟩
  · have h3 : 600 < pl := by omega
    have h4 : pl ≤ 65536 := by omega
    go_wp2
    go_ret
    exact ⟨rfl, rfl⟩

set_option maxRecDepth 20000 in
theorem many_no (ao ao3 : Option Addr) (cl cap pl cap3 : Nat) (w : World) (hp : pl ≤ 9223372036854775807) (h : ¬ ((60 < cl ∧ cl ≤ 1000) ∨ (600 < pl ∧ pl ≤ 65536) ∨ 1100 < cl)) :
    Calls Try.prog 18 #[.slice ao cl cap, .slice ao3 pl cap3] w fun e w' => e = .returned (.bool false) ∧ w = w' := by
  have h5 : ¬ 1100 < cl := by omega
  go_enter Try.func18, Try.ntmps18
  by_cases h1 : 60 < cl
  · have h2 : ¬ cl ≤ 1000 := by omega
    by_cases h3 : 600 < pl
    · have h4 : ¬ pl ≤ 65536 := by omega
      clear h
      go_wp2
      go_ret
      exact ⟨by simp; omega, rfl⟩
    · clear h
      go_wp2
      go_ret
      exact ⟨by simp; omega, rfl⟩
  · by_cases h3 : 600 < pl
    · have h4 : ¬ pl ≤ 65536 := by omega
      clear h
      go_wp2
      go_ret
      exact ⟨by simp; omega, rfl⟩
    · clear h
      go_wp2
      go_ret
      exact ⟨by simp; omega, rfl⟩

set_option maxRecDepth 20000 in
theorem ints_one (g1 c1 g2 c2 : Nat) (x : Int) (w : World) (h1 : w.cell? ⟨g1, 0, none⟩ = some (.int .i64 x)) (h2 : w.cell? ⟨g2, 0, none⟩ = some (.int .i64 x)) :
    Calls Try.prog 34 #[.slice (some ⟨g1, 0, none⟩) 1 c1, .slice (some ⟨g2, 0, none⟩) 1 c2] w fun e w' => e = .returned (.bool true) ∧ ∃ m, w' = w.drewN m := by
  go_enter Try.func34, Try.ntmps34
  go_wp2_with fail
  refine wp_loop_rounds 2 ?_
  rw [rounds_succ]
  go_wp2_with fail
  go_quiet (fail)
  go_wp2_with fail
  rw [rounds_succ]
  go_wp2_with fail
  go_ret
  exact ⟨rfl, _, rfl⟩

def ansV (e v : Int) : Value := .agg #[.int .i64 e, .int .u64 v, .slice none 0 0]
set_option maxRecDepth 20000 in
theorem answer_same (er v : Int) (w : World) : Calls Try.prog 27 #[ansV er v, ansV er v] w fun e w' => e = .returned (.bool true) ∧ Below w.heap.size w w' := by
  unfold ansV
  go_enter Try.func27, Try.ntmps27
  go_wp2_with fail
  refine (same_yes none none 0 0 0 0 0 0 [] _ (by simp) (fun h => absurd h (by simp)) (fun h => absurd h (by simp)) (fun i x h => by simp at h) (fun i x h => by simp at h)).mono ?_
  rintro e w1 ⟨rfl, m, rfl⟩
  go_wp2_with fail
  go_ret
  exact ⟨rfl, below_drewN (((Below.refl _ _).alloc (Nat.le_refl _) _).alloc (by simp) _) m⟩

def evVal (x : EvG) (kb ck : Nat) : Value := .agg (evV (x, kb, ck)).toArray
set_option maxRecDepth 20000 in
theorem event_same (x : EvG) (k1 c1 k2 c2 : Nat) (w : World) (h1 : KeyAt w k1 x.t) (h2 : KeyAt w k2 x.t) : Calls Try.prog 23 #[evVal x k1 c1, evVal x k2 c2] w fun e w' => e = .returned (.bool true) ∧ Below w.heap.size w w' := by
  have l1 := h1.lt
  have l2 := h2.lt
  have q1 := h1.cell
  have q2 := h2.cell
  clear h1 h2
  unfold evVal evV
  go_enter Try.func23, Try.ntmps23
  go_wp2_with fail
  generalize hw2 : (w.alloc (.cells #[.int .i64 (x.i : Int), .int .i64 (x.t : Int), .int .i64 (x.t : Int), .int .i64 1, .int .i64 (x.e : Int), .int .u64 (x.v : Int), .slice none 0 0, .slice (some ⟨k1, 0, none⟩) 1 c1] 63)).alloc (.cells #[.int .i64 (x.i : Int), .int .i64 (x.t : Int), .int .i64 (x.t : Int), .int .i64 1, .int .i64 (x.e : Int), .int .u64 (x.v : Int), .slice none 0 0, .slice (some ⟨k2, 0, none⟩) 1 c2] 63) = w2
  have HB0 : Hid (Below w.heap.size w w2) := Lib.hid (by rw [← hw2]; exact ((Below.refl _ _).alloc (Nat.le_refl _) _).alloc (by simp) _)
  have hsz : w2.heap.size = w.heap.size + 2 := by rw [← hw2]; simp
  have e1 : w2.cell? ⟨w.heap.size, 7, none⟩ = some (.slice (some ⟨k1, 0, none⟩) 1 c1) := by rw [← hw2, World.cell?_alloc_past _ _ _ (by simp), World.cell?_alloc_at _ _ _ _ rfl]; rfl
  have e2 : w2.cell? ⟨w.heap.size + 1, 7, none⟩ = some (.slice (some ⟨k2, 0, none⟩) 1 c2) := by rw [← hw2, World.cell?_alloc_at _ _ _ _ (by simp)]; rfl
  have p1 := (HB0.out.cell (p := ⟨k1, 0, none⟩) l1).trans q1
  have p2 := (HB0.out.cell (p := ⟨k2, 0, none⟩) l2).trans q2
  clear hw2 q1 q2
  refine (answer_same (x.e : Int) (x.v : Int) w2).mono ?_
  rintro e w1 ⟨rfl, hb1⟩
  have z := hb1.size
  have HB1 : Hid (Below w.heap.size w w1) := Lib.hid (HB0.out.trans (hb1.mono (by omega)))
  have f1 := (hb1.cell (p := ⟨w.heap.size, 7, none⟩) (by show w.heap.size < _; omega)).trans e1
  have f2 := (hb1.cell (p := ⟨w.heap.size + 1, 7, none⟩) (by show w.heap.size + 1 < _; omega)).trans e2
  have r1 := (hb1.cell (p := ⟨k1, 0, none⟩) (by show k1 < _; omega)).trans p1
  have r2 := (hb1.cell (p := ⟨k2, 0, none⟩) (by show k2 < _; omega)).trans p2
  clear hb1 p1 p2 e1 e2
  go_wp2_with fail
  refine (ints_one k1 c1 k2 c2 _ w1 r1 r2).mono ?_
  rintro e w3 ⟨rfl, m, rfl⟩
  go_wp2_with fail
  go_ret
  exact ⟨rfl, below_drewN HB1.out m⟩

/-- what a play that is played gives -/
def GoodPost (cs : List CallV) (size : Nat) (picks : List Int) (w : World) (e : Ending) (w' : World) : Prop :=
  ∃ aoE gE capE gw, e = .returned (.tuple #[.agg (repVs (.slice aoE (stEnd cs size picks).evs.length capE) gw (stEnd cs size picks)).toArray, .int .i64 0]) ∧ (0 < (stEnd cs size picks).evs.length → aoE = some ⟨gE, 0, none⟩) ∧
    EvAll w.heap.size w' gE (stEnd cs size picks).evs ∧ RowBlk 43 w' gw (u64s (stEnd cs size picks).ws) ∧ w.heap.size ≤ gw ∧ Below w.heap.size w w'
theorem cells_good (n size : Int) (ao : Option Addr) (b o cap : Nat) (cs : List CallV) (ao3 : Option Addr) (b3 o3 cap3 : Nat) (picks : List Int) (w : World) (ha : 0 < cs.length → ao = some ⟨b, o, none⟩) (hb : 0 < cs.length → b < w.heap.size) (hc : CallsAt w b o cs) (hcap : ao = none → cap = 0)
    (ha3 : 0 < picks.length → ao3 = some ⟨b3, o3, none⟩) (hb3 : 0 < picks.length → b3 < w.heap.size) (hc3 : ICells w b3 o3 picks) (hnp : picks.length ≤ 9223372036854775807) (h : cellsErr n size cs picks.length = 0) :
    Calls Try.prog 20 #[.int .i64 n, .int .i64 size, .slice ao cs.length cap, .slice ao3 picks.length cap3] w (GoodPost cs size.toNat picks w) := by
  refine (cells_any n size ao b o cap cs ao3 b3 o3 cap3 picks w ha hb hc hcap ha3 hb3 hc3 hnp).mono ?_
  rintro e w' ⟨_, _, _, _, _, _, _, _, _, _, _, _, _, v, rfl, _, _, hR, hb'⟩
  obtain ⟨ev, gw, rfl, hev, hrw, hgw⟩ := hR h
  obtain ⟨aoE, gE, capE, rfl, h1, _, h3⟩ := hev.opened
  exact ⟨aoE, gE, capE, gw, by rw [h]; rfl, h1, h3, hrw, hgw, hb'⟩
theorem cells_bad (n size : Int) (ao : Option Addr) (b o cap : Nat) (cs : List CallV) (ao3 : Option Addr) (b3 o3 cap3 : Nat) (picks : List Int) (w : World) (ha : 0 < cs.length → ao = some ⟨b, o, none⟩) (hb : 0 < cs.length → b < w.heap.size) (hc : CallsAt w b o cs) (hcap : ao = none → cap = 0)
    (ha3 : 0 < picks.length → ao3 = some ⟨b3, o3, none⟩) (hb3 : 0 < picks.length → b3 < w.heap.size) (hc3 : ICells w b3 o3 picks) (hnp : picks.length ≤ 9223372036854775807) (h : cellsErr n size cs picks.length ≠ 0) :
    Calls Try.prog 20 #[.int .i64 n, .int .i64 size, .slice ao cs.length cap, .slice ao3 picks.length cap3] w fun e w' => e = .returned (.tuple #[zeroRep, .int .i64 (cellsErr n size cs picks.length : Nat)]) ∧ Below w.heap.size w w' := by
  refine (cells_any n size ao b o cap cs ao3 b3 o3 cap3 picks w ha hb hc hcap ha3 hb3 hc3 hnp).mono ?_
  rintro e w' ⟨_, _, _, _, _, _, _, _, _, _, _, _, _, v, rfl, _, hz, _, hb'⟩
  rw [hz h]
  exact ⟨rfl, hb'⟩
end Go.Proofs.Ytjlopeijdmnacaa
