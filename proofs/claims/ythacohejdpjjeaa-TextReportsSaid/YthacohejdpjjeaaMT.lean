/- Walk of the reader of lines: an event. -/
import Derived.Test.YthacohejdpjjeaaMS
namespace Go.Proofs.Ythacohejdpjjeaa
open Go.RowKit Go.Lib Go.Sort

theorem But1.heap {p : Nat} {a w : World} (h : But1 p a w) {k : Nat} {o : Obj} (hp : k ≠ p) (hk : a.heap[k]? = some o) : w.heap[k]? = some o := (h.block k (lt_of_heap hk) hp).trans hk
theorem set_other {w : World} {b k g : Nat} {v : Value} (h : k ≠ b) : (w.setCell ⟨b, g, none⟩ v).heap[k]? = w.heap[k]? := by
  simp only [World.setCell, Array.getElem?_modify]
  rw [if_neg (fun e => h e.symm)]
theorem TRd.other {w : World} {rb b g : Nat} {v : Value} {L : List Nat} {i : Nat} {d : Bool} (h : TRd w rb L i d) (hb : rb ≠ b) : TRd (w.setCell ⟨b, g, none⟩ v) rb L i d := (set_other hb).trans h
/-- eight cells of an event -/
def evB (w : World) (g : Nat) (c0 c1 c2 c3 c4 c5 c6 c7 : Value) : Prop := w.heap[g]? = some (.cells #[c0, c1, c2, c3, c4, c5, c6, c7] 44 (0, 0))

/-- a row of the call's own, in a block of another type than the one that is written -/
theorem own_lower {w : World} {B B2 : Nat} {e : TypeId} {s n : Nat} {v : Value} {xs : List Value} (h : w.ownsRow B e s v n xs) (hB : B2 ≤ B) : w.ownsRow B2 e s v n xs := by
  obtain ⟨hl, ⟨rfl, e0⟩ | ⟨g, cap, cur, rfl, hb, hg⟩⟩ := h
  · exact ⟨hl, .inl ⟨rfl, e0⟩⟩
  · exact ⟨hl, .inr ⟨g, cap, cur, rfl, Nat.le_trans hB hb, hg⟩⟩
theorem own_not {w : World} {B : Nat} {e t : TypeId} {s n : Nat} {v : Value} {xs : List Value} {b : Nat} {cs : Array Value} (h : w.ownsRow B e s v n xs) (hb : w.heap[b]? = some (.cells cs t (0, 0))) (he : e ≠ t) : v.ownBlock ≠ some b := by
  obtain ⟨hl, ⟨rfl, e0⟩ | ⟨g, cap, cur, rfl, hb2, hg, _⟩⟩ := h
  · intro h; cases h
  · intro h
    simp only [Value.ownBlock, Option.some.injEq] at h
    subst h
    rw [hb] at hg
    simp at hg
    exact he hg.2.symm
theorem own_set {w : World} {B : Nat} {e : TypeId} {s n : Nat} {v : Value} {xs : List Value} {b k : Nat} {u : Value} (h : w.ownsRow B e s v n xs) (hb : v.ownBlock ≠ some b) : (w.setCell ⟨b, k, none⟩ u).ownsRow B e s v n xs := by
  obtain ⟨hl, ⟨rfl, e0⟩ | ⟨g, cap, cur, rfl, hb2, hg, h1⟩⟩ := h
  · exact ⟨hl, .inl ⟨rfl, e0⟩⟩
  · refine ⟨hl, .inr ⟨g, cap, cur, rfl, hb2, (set_other (fun e => hb (by rw [← e]; rfl))).trans hg, h1⟩⟩

def put8 (W : World) (g : Nat) (c0 c1 c2 c3 c4 c5 c6 c7 : Value) : World := (((((((W.setCell ⟨g, 0, none⟩ c0).setCell ⟨g, 1, none⟩ c1).setCell ⟨g, 2, none⟩ c2).setCell ⟨g, 3, none⟩ c3).setCell ⟨g, 4, none⟩ c4).setCell ⟨g, 5, none⟩ c5).setCell ⟨g, 6, none⟩ c6).setCell ⟨g, 7, none⟩ c7
theorem evB_set {W : World} {g : Nat} {d0 d1 d2 d3 d4 d5 d6 d7 : Value} (h : evB W g d0 d1 d2 d3 d4 d5 d6 d7) (c : Value) :
    evB (W.setCell ⟨g, 0, none⟩ c) g c d1 d2 d3 d4 d5 d6 d7 ∧ evB (W.setCell ⟨g, 1, none⟩ c) g d0 c d2 d3 d4 d5 d6 d7 ∧ evB (W.setCell ⟨g, 2, none⟩ c) g d0 d1 c d3 d4 d5 d6 d7 ∧ evB (W.setCell ⟨g, 3, none⟩ c) g d0 d1 d2 c d4 d5 d6 d7 ∧
    evB (W.setCell ⟨g, 4, none⟩ c) g d0 d1 d2 d3 c d5 d6 d7 ∧ evB (W.setCell ⟨g, 5, none⟩ c) g d0 d1 d2 d3 d4 c d6 d7 ∧ evB (W.setCell ⟨g, 6, none⟩ c) g d0 d1 d2 d3 d4 d5 c d7 ∧ evB (W.setCell ⟨g, 7, none⟩ c) g d0 d1 d2 d3 d4 d5 d6 c := by
  unfold evB
  refine ⟨?_, ?_, ?_, ?_, ?_, ?_, ?_, ?_⟩ <;> (rw [heap_set_self h]; rfl)
theorem put8_heap {W : World} {g : Nat} {d0 d1 d2 d3 d4 d5 d6 d7 c0 c1 c2 c3 c4 c5 c6 c7 : Value} (h : evB W g d0 d1 d2 d3 d4 d5 d6 d7) : evB (put8 W g c0 c1 c2 c3 c4 c5 c6 c7) g c0 c1 c2 c3 c4 c5 c6 c7 := by
  unfold put8
  have h0 := (evB_set h c0).1
  have h1 := (evB_set h0 c1).2.1
  have h2 := (evB_set h1 c2).2.2.1
  have h3 := (evB_set h2 c3).2.2.2.1
  have h4 := (evB_set h3 c4).2.2.2.2.1
  have h5 := (evB_set h4 c5).2.2.2.2.2.1
  have h6 := (evB_set h5 c6).2.2.2.2.2.2.1
  exact (evB_set h6 c7).2.2.2.2.2.2.2
theorem put8_own {W : World} {g : Nat} {c0 c1 c2 c3 c4 c5 c6 c7 : Value} {B : Nat} {e : TypeId} {s n : Nat} {v : Value} {xs : List Value} (h : W.ownsRow B e s v n xs) (hb : v.ownBlock ≠ some g) : (put8 W g c0 c1 c2 c3 c4 c5 c6 c7).ownsRow B e s v n xs := by
  unfold put8
  have h0 := own_set (b := g) (k := 0) (u := c0) h hb
  have h1 := own_set (b := g) (k := 1) (u := c1) h0 hb
  have h2 := own_set (b := g) (k := 2) (u := c2) h1 hb
  have h3 := own_set (b := g) (k := 3) (u := c3) h2 hb
  have h4 := own_set (b := g) (k := 4) (u := c4) h3 hb
  have h5 := own_set (b := g) (k := 5) (u := c5) h4 hb
  have h6 := own_set (b := g) (k := 6) (u := c6) h5 hb
  have h7 := own_set (b := g) (k := 7) (u := c7) h6 hb
  exact h7
theorem put8_but {p : Nat} {a W : World} {g : Nat} {c0 c1 c2 c3 c4 c5 c6 c7 : Value} (h : But1 p a W) (hg : a.heap.size ≤ g) : But1 p a (put8 W g c0 c1 c2 c3 c4 c5 c6 c7) := by
  unfold put8
  have h0 := But1.setCell h (x := ⟨g, 0, none⟩) (.inr hg) c0
  have h1 := But1.setCell h0 (x := ⟨g, 1, none⟩) (.inr hg) c1
  have h2 := But1.setCell h1 (x := ⟨g, 2, none⟩) (.inr hg) c2
  have h3 := But1.setCell h2 (x := ⟨g, 3, none⟩) (.inr hg) c3
  have h4 := But1.setCell h3 (x := ⟨g, 4, none⟩) (.inr hg) c4
  have h5 := But1.setCell h4 (x := ⟨g, 5, none⟩) (.inr hg) c5
  have h6 := But1.setCell h5 (x := ⟨g, 6, none⟩) (.inr hg) c6
  have h7 := But1.setCell h6 (x := ⟨g, 7, none⟩) (.inr hg) c7
  exact h7
theorem put8_trd {W : World} {rb g : Nat} {c0 c1 c2 c3 c4 c5 c6 c7 : Value} {L : List Nat} {i : Nat} {d : Bool} (h : TRd W rb L i d) (hb : rb ≠ g) : TRd (put8 W g c0 c1 c2 c3 c4 c5 c6 c7) rb L i d := by
  unfold put8
  have h0 := TRd.other (b := g) (g := 0) (v := c0) h hb
  have h1 := TRd.other (b := g) (g := 1) (v := c1) h0 hb
  have h2 := TRd.other (b := g) (g := 2) (v := c2) h1 hb
  have h3 := TRd.other (b := g) (g := 3) (v := c3) h2 hb
  have h4 := TRd.other (b := g) (g := 4) (v := c4) h3 hb
  have h5 := TRd.other (b := g) (g := 5) (v := c5) h4 hb
  have h6 := TRd.other (b := g) (g := 6) (v := c6) h5 hb
  have h7 := TRd.other (b := g) (g := 7) (v := c7) h6 hb
  exact h7

/-- what the reading of an event leaves -/
def EvP (rb : Nat) (L : List Nat) (W : World) (e : Ending) (w' : World) : Prop :=
  ∃ a7 n7 c7 a8 n8 c8, e = .returned (.agg #[.int .i64 (evP L).ca, .int .i64 (evP L).iv, .int .i64 (evP L).rs, .int .i64 (evP L).st, .int .i64 (evP L).er, .int .u64 ((evP L).vl : Int), .slice a7 n7 c7, .slice a8 n8 c8]) ∧
    w'.ownsRow W.heap.size 37 1 (.slice a7 n7 c7) (evP L).lw.length ((evP L).lw.map (fun z : Nat => Value.int .u64 (z : Int))) ∧ w'.ownsRow W.heap.size 3 1 (.slice a8 n8 c8) (evP L).kw.length ((evP L).kw.map (fun z : Int => Value.int .i64 z)) ∧
    But1 rb W w' ∧ ∃ j, j ≤ L.length ∧ TRd w' rb L j (endP L).2 ∧ L.drop j = (endP L).1

theorem isSlice_of {w : World} {B : Nat} {e : TypeId} {s n : Nat} {v : Value} {xs : List Value} (h : w.ownsRow B e s v n xs) : ∃ a m c, v = .slice a m c := by
  obtain ⟨_, ⟨rfl, _⟩ | ⟨g, cap, cur, rfl, _⟩⟩ := h
  · exact ⟨_, _, _, rfl⟩
  · exact ⟨_, _, _, rfl⟩

set_option maxHeartbeats 4000000 in
set_option maxRecDepth 100000 in
theorem revent_reads (rb : Nat) (L : List Nat) (w : World) (hL : BytL L) (hl : L.length ≤ 1000000) (hr : TRd w rb L 0 false) (hrb : rb < w.heap.size) :
    Calls Try.prog 42 #[.pointer (some ⟨rb, 0, none⟩)] w (EvP rb L w) := by
  have HF := Lib.hid (fun j b' W (h : TRd W rb L j b') (hj : j ≤ L.length) => field_any rb L j b' W hL h hj)
  have HWD := Lib.hid (fun j b' W (h : TRd W rb L j b') (hj : j ≤ L.length) => word_any rb L j b' W hL h hj)
  have HPS := Lib.hid (fun j b' W (h : TRd W rb L j b') (hj : j ≤ L.length) => pass_any rb L j b' 32 W hL h hj (by decide))
  have HLW := Lib.hid (fun j b' W (h : TRd W rb L j b') (hj : j ≤ L.length) (hb : rb < W.heap.size) => listW_any rb L j b' W hL hl h hj hb)
  have HLI := Lib.hid (fun j b' W (h : TRd W rb L j b') (hj : j ≤ L.length) (hb : rb < W.heap.size) => listI_any rb L j b' W hL hl h hj hb)
  obtain ⟨w0, hw0⟩ : ∃ w0, (w.alloc (.cells #[.int .i64 0, .int .i64 0, .int .i64 0, .int .i64 0, .int .i64 0, .int .u64 0, .slice none 0 0, .slice none 0 0] 44)).alloc (.cells #[.int .i64 0, .int .i64 0, .int .i64 0, .int .i64 0, .int .i64 0, .int .u64 0, .slice none 0 0, .slice none 0 0] 44) = w0 := ⟨_, rfl⟩
  have s1 : (w.alloc (.cells #[.int .i64 0, .int .i64 0, .int .i64 0, .int .i64 0, .int .i64 0, .int .u64 0, .slice none 0 0, .slice none 0 0] 44)).heap.size = w.heap.size + 1 := by simp
  have hR0 : evB w0 w.heap.size (.int .i64 0) (.int .i64 0) (.int .i64 0) (.int .i64 0) (.int .i64 0) (.int .u64 0) (.slice none 0 0) (.slice none 0 0) := by
    rw [← hw0]
    exact (Below.heap_alloc _ _ w.heap.size (by omega)).trans (heap_alloc_new _ _)
  have hX0 : evB w0 (w.heap.size + 1) (.int .i64 0) (.int .i64 0) (.int .i64 0) (.int .i64 0) (.int .i64 0) (.int .u64 0) (.slice none 0 0) (.slice none 0 0) := by
    rw [← hw0, ← s1]
    exact heap_alloc_new _ _
  have hb0 : But1 rb w w0 := by rw [← hw0]; exact ((But1.refl rb w).alloc _).alloc _
  have hr0 : TRd w0 rb L 0 false := by
    rw [← hw0]
    exact (Below.heap_alloc _ _ rb (by omega)).trans ((Below.heap_alloc _ _ rb (by omega)).trans hr)
  have hW := Lib.hid hw0
  have n1 : rb ≠ w.heap.size := by omega
  have n2 : rb ≠ w.heap.size + 1 := by omega
  have hF1 := HF.out 0 false w0 hr0 (Nat.zero_le _)
  rw [List.drop_zero] at hF1
  obtain ⟨q1, hq1⟩ : ∃ q, fieldP (L, false) = q := ⟨_, rfl⟩
  rw [hq1] at hF1
  obtain ⟨x0, l1, b1⟩ := q1
  have E1 : Hid (s1P L = (x0, l1, b1)) := Lib.hid hq1
  have HC1 := Lib.hid hF1
  have HX0 := Lib.hid hX0
  have HR0 := Lib.hid hR0
  have HB0 := Lib.hid hb0
  clear hq1 hF1 hX0 hR0 hb0 hr0 s1 hr
  go_enter Try.func42, Try.ntmps42
  go_wp2_with fail
  try rw [hw0]
  clear hw0
  refine HC1.out.mono ?_
  rintro e u1 ⟨rfl, hb, j1, hj1, hr, hd⟩
  dsimp only at hr hd
  have hX : evB u1 (w.heap.size + 1) (.int .i64 0) (.int .i64 0) (.int .i64 0) (.int .i64 0) (.int .i64 0) (.int .u64 0) (.slice none 0 0) (.slice none 0 0) := hb.heap n2.symm HX0.out
  have hR : evB u1 w.heap.size (.int .i64 0) (.int .i64 0) (.int .i64 0) (.int .i64 0) (.int .i64 0) (.int .u64 0) (.slice none 0 0) (.slice none 0 0) := hb.heap n1.symm HR0.out
  have c1 := cell_of_heap hX (k := 0) rfl
  have f1 := free_of_heap (k := 0) hX
  have hB := HB0.out.trans hb
  have HX1 : Hid (evB (u1.setCell ⟨w.heap.size + 1, 0, none⟩ (.int .i64 x0)) (w.heap.size + 1) (.int .i64 x0) (.int .i64 0) (.int .i64 0) (.int .i64 0) (.int .i64 0) (.int .u64 0) (.slice none 0 0) (.slice none 0 0)) := Lib.hid (by unfold evB; rw [heap_set_self hX]; rfl)
  have HR1 : Hid (evB (u1.setCell ⟨w.heap.size + 1, 0, none⟩ (.int .i64 x0)) w.heap.size (.int .i64 0) (.int .i64 0) (.int .i64 0) (.int .i64 0) (.int .i64 0) (.int .u64 0) (.slice none 0 0) (.slice none 0 0)) := Lib.hid ((set_other (by omega)).trans hR)
  have HB1 : Hid (But1 rb w (u1.setCell ⟨w.heap.size + 1, 0, none⟩ (.int .i64 x0))) := Lib.hid (hB.setCell (.inr (by show w.heap.size ≤ w.heap.size + 1; omega)) _)
  have hT : TRd (u1.setCell ⟨w.heap.size + 1, 0, none⟩ (.int .i64 x0)) rb L j1 b1 := hr.other n2
  have hF := HF.out j1 b1 _ hT hj1
  rw [hd] at hF
  obtain ⟨q, hq⟩ : ∃ q, fieldP (l1, b1) = q := ⟨_, rfl⟩
  rw [hq] at hF
  obtain ⟨x1, l2, b2⟩ := q
  have E2 : Hid (s2P L = (x1, l2, b2)) := Lib.hid (by unfold s2P; rw [E1.out]; exact hq)
  have HC2 := Lib.hid hF
  clear hb hr hd hX hR hB hT hF hq HX0 HR0 HB0
  go_wp2_with fail
  refine HC2.out.mono ?_
  rintro e u2 ⟨rfl, hb, j2, hj2, hr, hd⟩
  dsimp only at hr hd
  have hX : evB u2 (w.heap.size + 1) (.int .i64 x0) (.int .i64 0) (.int .i64 0) (.int .i64 0) (.int .i64 0) (.int .u64 0) (.slice none 0 0) (.slice none 0 0) := hb.heap n2.symm HX1.out
  have hR : evB u2 w.heap.size (.int .i64 0) (.int .i64 0) (.int .i64 0) (.int .i64 0) (.int .i64 0) (.int .u64 0) (.slice none 0 0) (.slice none 0 0) := hb.heap n1.symm HR1.out
  have c1 := cell_of_heap hX (k := 1) rfl
  have f1 := free_of_heap (k := 1) hX
  have hB := HB1.out.trans hb
  have HX2 : Hid (evB (u2.setCell ⟨w.heap.size + 1, 1, none⟩ (.int .i64 x1)) (w.heap.size + 1) (.int .i64 x0) (.int .i64 x1) (.int .i64 0) (.int .i64 0) (.int .i64 0) (.int .u64 0) (.slice none 0 0) (.slice none 0 0)) := Lib.hid (by unfold evB; rw [heap_set_self hX]; rfl)
  have HR2 : Hid (evB (u2.setCell ⟨w.heap.size + 1, 1, none⟩ (.int .i64 x1)) w.heap.size (.int .i64 0) (.int .i64 0) (.int .i64 0) (.int .i64 0) (.int .i64 0) (.int .u64 0) (.slice none 0 0) (.slice none 0 0)) := Lib.hid ((set_other (by omega)).trans hR)
  have HB2 : Hid (But1 rb w (u2.setCell ⟨w.heap.size + 1, 1, none⟩ (.int .i64 x1))) := Lib.hid (hB.setCell (.inr (by show w.heap.size ≤ w.heap.size + 1; omega)) _)
  have hT : TRd (u2.setCell ⟨w.heap.size + 1, 1, none⟩ (.int .i64 x1)) rb L j2 b2 := hr.other n2
  have hF := HF.out j2 b2 _ hT hj2
  rw [hd] at hF
  obtain ⟨q, hq⟩ : ∃ q, fieldP (l2, b2) = q := ⟨_, rfl⟩
  rw [hq] at hF
  obtain ⟨x2, l3, b3⟩ := q
  have E3 : Hid (s3P L = (x2, l3, b3)) := Lib.hid (by unfold s3P; rw [E2.out]; exact hq)
  have HC3 := Lib.hid hF
  clear hb hr hd hX hR hB hT hF hq HX1 HR1 HB1
  go_wp2_with fail
  refine HC3.out.mono ?_
  rintro e u3 ⟨rfl, hb, j3, hj3, hr, hd⟩
  dsimp only at hr hd
  have hX : evB u3 (w.heap.size + 1) (.int .i64 x0) (.int .i64 x1) (.int .i64 0) (.int .i64 0) (.int .i64 0) (.int .u64 0) (.slice none 0 0) (.slice none 0 0) := hb.heap n2.symm HX2.out
  have hR : evB u3 w.heap.size (.int .i64 0) (.int .i64 0) (.int .i64 0) (.int .i64 0) (.int .i64 0) (.int .u64 0) (.slice none 0 0) (.slice none 0 0) := hb.heap n1.symm HR2.out
  have c1 := cell_of_heap hX (k := 2) rfl
  have f1 := free_of_heap (k := 2) hX
  have hB := HB2.out.trans hb
  have HX3 : Hid (evB (u3.setCell ⟨w.heap.size + 1, 2, none⟩ (.int .i64 x2)) (w.heap.size + 1) (.int .i64 x0) (.int .i64 x1) (.int .i64 x2) (.int .i64 0) (.int .i64 0) (.int .u64 0) (.slice none 0 0) (.slice none 0 0)) := Lib.hid (by unfold evB; rw [heap_set_self hX]; rfl)
  have HR3 : Hid (evB (u3.setCell ⟨w.heap.size + 1, 2, none⟩ (.int .i64 x2)) w.heap.size (.int .i64 0) (.int .i64 0) (.int .i64 0) (.int .i64 0) (.int .i64 0) (.int .u64 0) (.slice none 0 0) (.slice none 0 0)) := Lib.hid ((set_other (by omega)).trans hR)
  have HB3 : Hid (But1 rb w (u3.setCell ⟨w.heap.size + 1, 2, none⟩ (.int .i64 x2))) := Lib.hid (hB.setCell (.inr (by show w.heap.size ≤ w.heap.size + 1; omega)) _)
  have hT : TRd (u3.setCell ⟨w.heap.size + 1, 2, none⟩ (.int .i64 x2)) rb L j3 b3 := hr.other n2
  have hF := HF.out j3 b3 _ hT hj3
  rw [hd] at hF
  obtain ⟨q, hq⟩ : ∃ q, fieldP (l3, b3) = q := ⟨_, rfl⟩
  rw [hq] at hF
  obtain ⟨x3, l4, b4⟩ := q
  have E4 : Hid (s4P L = (x3, l4, b4)) := Lib.hid (by unfold s4P; rw [E3.out]; exact hq)
  have HC4 := Lib.hid hF
  clear hb hr hd hX hR hB hT hF hq HX2 HR2 HB2
  go_wp2_with fail
  refine HC4.out.mono ?_
  rintro e u4 ⟨rfl, hb, j4, hj4, hr, hd⟩
  dsimp only at hr hd
  have hX : evB u4 (w.heap.size + 1) (.int .i64 x0) (.int .i64 x1) (.int .i64 x2) (.int .i64 0) (.int .i64 0) (.int .u64 0) (.slice none 0 0) (.slice none 0 0) := hb.heap n2.symm HX3.out
  have hR : evB u4 w.heap.size (.int .i64 0) (.int .i64 0) (.int .i64 0) (.int .i64 0) (.int .i64 0) (.int .u64 0) (.slice none 0 0) (.slice none 0 0) := hb.heap n1.symm HR3.out
  have c1 := cell_of_heap hX (k := 3) rfl
  have f1 := free_of_heap (k := 3) hX
  have hB := HB3.out.trans hb
  have HX4 : Hid (evB (u4.setCell ⟨w.heap.size + 1, 3, none⟩ (.int .i64 x3)) (w.heap.size + 1) (.int .i64 x0) (.int .i64 x1) (.int .i64 x2) (.int .i64 x3) (.int .i64 0) (.int .u64 0) (.slice none 0 0) (.slice none 0 0)) := Lib.hid (by unfold evB; rw [heap_set_self hX]; rfl)
  have HR4 : Hid (evB (u4.setCell ⟨w.heap.size + 1, 3, none⟩ (.int .i64 x3)) w.heap.size (.int .i64 0) (.int .i64 0) (.int .i64 0) (.int .i64 0) (.int .i64 0) (.int .u64 0) (.slice none 0 0) (.slice none 0 0)) := Lib.hid ((set_other (by omega)).trans hR)
  have HB4 : Hid (But1 rb w (u4.setCell ⟨w.heap.size + 1, 3, none⟩ (.int .i64 x3))) := Lib.hid (hB.setCell (.inr (by show w.heap.size ≤ w.heap.size + 1; omega)) _)
  have hT : TRd (u4.setCell ⟨w.heap.size + 1, 3, none⟩ (.int .i64 x3)) rb L j4 b4 := hr.other n2
  have hF := HF.out j4 b4 _ hT hj4
  rw [hd] at hF
  obtain ⟨q, hq⟩ : ∃ q, fieldP (l4, b4) = q := ⟨_, rfl⟩
  rw [hq] at hF
  obtain ⟨x4, l5, b5⟩ := q
  have E5 : Hid (s5P L = (x4, l5, b5)) := Lib.hid (by unfold s5P; rw [E4.out]; exact hq)
  have HC5 := Lib.hid hF
  clear hb hr hd hX hR hB hT hF hq HX3 HR3 HB3
  go_wp2_with fail
  refine HC5.out.mono ?_
  rintro e u5 ⟨rfl, hb, j5, hj5, hr, hd⟩
  dsimp only at hr hd
  have hX : evB u5 (w.heap.size + 1) (.int .i64 x0) (.int .i64 x1) (.int .i64 x2) (.int .i64 x3) (.int .i64 0) (.int .u64 0) (.slice none 0 0) (.slice none 0 0) := hb.heap n2.symm HX4.out
  have hR : evB u5 w.heap.size (.int .i64 0) (.int .i64 0) (.int .i64 0) (.int .i64 0) (.int .i64 0) (.int .u64 0) (.slice none 0 0) (.slice none 0 0) := hb.heap n1.symm HR4.out
  have c1 := cell_of_heap hX (k := 4) rfl
  have f1 := free_of_heap (k := 4) hX
  have hB := HB4.out.trans hb
  have HX5 : Hid (evB (u5.setCell ⟨w.heap.size + 1, 4, none⟩ (.int .i64 x4)) (w.heap.size + 1) (.int .i64 x0) (.int .i64 x1) (.int .i64 x2) (.int .i64 x3) (.int .i64 x4) (.int .u64 0) (.slice none 0 0) (.slice none 0 0)) := Lib.hid (by unfold evB; rw [heap_set_self hX]; rfl)
  have HR5 : Hid (evB (u5.setCell ⟨w.heap.size + 1, 4, none⟩ (.int .i64 x4)) w.heap.size (.int .i64 0) (.int .i64 0) (.int .i64 0) (.int .i64 0) (.int .i64 0) (.int .u64 0) (.slice none 0 0) (.slice none 0 0)) := Lib.hid ((set_other (by omega)).trans hR)
  have HB5 : Hid (But1 rb w (u5.setCell ⟨w.heap.size + 1, 4, none⟩ (.int .i64 x4))) := Lib.hid (hB.setCell (.inr (by show w.heap.size ≤ w.heap.size + 1; omega)) _)
  have hT : TRd (u5.setCell ⟨w.heap.size + 1, 4, none⟩ (.int .i64 x4)) rb L j5 b5 := hr.other n2
  have hF := HWD.out j5 b5 _ hT hj5
  rw [hd] at hF
  obtain ⟨q, hq⟩ : ∃ q, wordP (l5, b5) = q := ⟨_, rfl⟩
  rw [hq] at hF
  obtain ⟨x5, l6, b6⟩ := q
  have E6 : Hid (s6P L = (x5, l6, b6)) := Lib.hid (by unfold s6P; rw [E5.out]; exact hq)
  have HC6 := Lib.hid hF
  clear hb hr hd hX hR hB hT hF hq HX4 HR4 HB4
  go_wp2_with fail
  refine HC6.out.mono ?_
  rintro e u6 ⟨rfl, hb, j6, hj6, hr, hd⟩
  dsimp only at hr hd
  have hX : evB u6 (w.heap.size + 1) (.int .i64 x0) (.int .i64 x1) (.int .i64 x2) (.int .i64 x3) (.int .i64 x4) (.int .u64 0) (.slice none 0 0) (.slice none 0 0) := hb.heap n2.symm HX5.out
  have hR : evB u6 w.heap.size (.int .i64 0) (.int .i64 0) (.int .i64 0) (.int .i64 0) (.int .i64 0) (.int .u64 0) (.slice none 0 0) (.slice none 0 0) := hb.heap n1.symm HR5.out
  have c1 := cell_of_heap hX (k := 5) rfl
  have f1 := free_of_heap (k := 5) hX
  have hB := HB5.out.trans hb
  have HX6 : Hid (evB (u6.setCell ⟨w.heap.size + 1, 5, none⟩ (.int .u64 (x5 : Int))) (w.heap.size + 1) (.int .i64 x0) (.int .i64 x1) (.int .i64 x2) (.int .i64 x3) (.int .i64 x4) (.int .u64 (x5 : Int)) (.slice none 0 0) (.slice none 0 0)) := Lib.hid (by unfold evB; rw [heap_set_self hX]; rfl)
  have HR6 : Hid (evB (u6.setCell ⟨w.heap.size + 1, 5, none⟩ (.int .u64 (x5 : Int))) w.heap.size (.int .i64 0) (.int .i64 0) (.int .i64 0) (.int .i64 0) (.int .i64 0) (.int .u64 0) (.slice none 0 0) (.slice none 0 0)) := Lib.hid ((set_other (by omega)).trans hR)
  have HB6 : Hid (But1 rb w (u6.setCell ⟨w.heap.size + 1, 5, none⟩ (.int .u64 (x5 : Int)))) := Lib.hid (hB.setCell (.inr (by show w.heap.size ≤ w.heap.size + 1; omega)) _)
  have hT : TRd (u6.setCell ⟨w.heap.size + 1, 5, none⟩ (.int .u64 (x5 : Int))) rb L j6 b6 := hr.other n2
  have hF := HPS.out j6 b6 _ hT hj6
  rw [hd] at hF
  obtain ⟨q, hq⟩ : ∃ q, passP 32 (l6, b6) = q := ⟨_, rfl⟩
  rw [hq] at hF
  obtain ⟨l6', b6'⟩ := q
  have Q6 := Lib.hid hq
  have HC6' := Lib.hid hF
  clear hb hr hd hX hR hB hT hF hq HX5 HR5 HB5
  go_wp2_with fail
  refine HC6'.out.mono ?_
  rintro e u7 ⟨rfl, hb, j7, hj7, hr, hd⟩
  dsimp only at hr hd
  have HX6' : Hid (evB u7 (w.heap.size + 1) (.int .i64 x0) (.int .i64 x1) (.int .i64 x2) (.int .i64 x3) (.int .i64 x4) (.int .u64 (x5 : Int)) (.slice none 0 0) (.slice none 0 0)) := Lib.hid (hb.heap n2.symm HX6.out)
  have HR6' : Hid (evB u7 w.heap.size (.int .i64 0) (.int .i64 0) (.int .i64 0) (.int .i64 0) (.int .i64 0) (.int .u64 0) (.slice none 0 0) (.slice none 0 0)) := Lib.hid (hb.heap n1.symm HR6.out)
  have HB6' := Lib.hid (HB6.out.trans hb)
  have hsz := HB6'.out.size
  have hF := HLW.out j7 b6' u7 hr hj7 (by omega)
  rw [hd] at hF
  obtain ⟨q, hq⟩ : ∃ q, listP wordP (l6', b6') = q := ⟨_, rfl⟩
  rw [hq] at hF
  obtain ⟨o7, l7, b7⟩ := q
  have E7 : Hid (s7P L = (o7, l7, b7)) := Lib.hid (by unfold s7P; rw [E6.out, Q6.out]; exact hq)
  have HC7 := Lib.hid hF
  have HSZ7 := Lib.hid hsz
  clear hb hr hd hF hq HX6 HR6 HB6 hsz
  go_wp2_with fail
  refine HC7.out.mono ?_
  rintro e u8 ⟨v7, rfl, ho7, hb, j8, hj8, hr, hd⟩
  dsimp only at hr hd ho7
  obtain ⟨a7, m7, k7, rfl⟩ := isSlice_of ho7
  have hX : evB u8 (w.heap.size + 1) (.int .i64 x0) (.int .i64 x1) (.int .i64 x2) (.int .i64 x3) (.int .i64 x4) (.int .u64 (x5 : Int)) (.slice none 0 0) (.slice none 0 0) := hb.heap n2.symm HX6'.out
  have hR : evB u8 w.heap.size (.int .i64 0) (.int .i64 0) (.int .i64 0) (.int .i64 0) (.int .i64 0) (.int .u64 0) (.slice none 0 0) (.slice none 0 0) := hb.heap n1.symm HR6'.out
  have c1 := cell_of_heap hX (k := 6) rfl
  have f1 := free_of_heap (k := 6) hX
  have hB := HB6'.out.trans hb
  have HO7 : Hid ((u8.setCell ⟨w.heap.size + 1, 6, none⟩ (.slice a7 m7 k7)).ownsRow w.heap.size 37 1 (.slice a7 m7 k7) (o7.getD []).length ((o7.getD []).map (fun z : Nat => Value.int .u64 (z : Int)))) := Lib.hid (by
    have h := own_lower ho7 HSZ7.out
    exact own_set h (own_not ho7 hX (by decide)))
  have HX7 : Hid (evB (u8.setCell ⟨w.heap.size + 1, 6, none⟩ (.slice a7 m7 k7)) (w.heap.size + 1) (.int .i64 x0) (.int .i64 x1) (.int .i64 x2) (.int .i64 x3) (.int .i64 x4) (.int .u64 (x5 : Int)) (.slice a7 m7 k7) (.slice none 0 0)) := Lib.hid (by unfold evB; rw [heap_set_self hX]; rfl)
  have HR7 : Hid (evB (u8.setCell ⟨w.heap.size + 1, 6, none⟩ (.slice a7 m7 k7)) w.heap.size (.int .i64 0) (.int .i64 0) (.int .i64 0) (.int .i64 0) (.int .i64 0) (.int .u64 0) (.slice none 0 0) (.slice none 0 0)) := Lib.hid ((set_other (by omega)).trans hR)
  have HB7 : Hid (But1 rb w (u8.setCell ⟨w.heap.size + 1, 6, none⟩ (.slice a7 m7 k7))) := Lib.hid (hB.setCell (.inr (by show w.heap.size ≤ w.heap.size + 1; omega)) _)
  have hT : TRd (u8.setCell ⟨w.heap.size + 1, 6, none⟩ (.slice a7 m7 k7)) rb L j8 b7 := hr.other n2
  have hF := HPS.out j8 b7 _ hT hj8
  rw [hd] at hF
  obtain ⟨q, hq⟩ : ∃ q, passP 32 (l7, b7) = q := ⟨_, rfl⟩
  rw [hq] at hF
  obtain ⟨l7', b7'⟩ := q
  have Q7 := Lib.hid hq
  have HC7' := Lib.hid hF
  clear hb hr hd hX hR hB hT hF hq HX6' HR6' HB6' ho7
  go_wp2_with fail
  refine HC7'.out.mono ?_
  rintro e u9 ⟨rfl, hb, j9, hj9, hr, hd⟩
  dsimp only at hr hd
  have HX7' : Hid (evB u9 (w.heap.size + 1) (.int .i64 x0) (.int .i64 x1) (.int .i64 x2) (.int .i64 x3) (.int .i64 x4) (.int .u64 (x5 : Int)) (.slice a7 m7 k7) (.slice none 0 0)) := Lib.hid (hb.heap n2.symm HX7.out)
  have HR7' : Hid (evB u9 w.heap.size (.int .i64 0) (.int .i64 0) (.int .i64 0) (.int .i64 0) (.int .i64 0) (.int .u64 0) (.slice none 0 0) (.slice none 0 0)) := Lib.hid (hb.heap n1.symm HR7.out)
  have HB7' := Lib.hid (HB7.out.trans hb)
  have HO7' := Lib.hid (hb.own HO7.out hrb)
  have hsz := HB7'.out.size
  have hF := HLI.out j9 b7' u9 hr hj9 (by omega)
  rw [hd] at hF
  obtain ⟨q, hq⟩ : ∃ q, listP intP (l7', b7') = q := ⟨_, rfl⟩
  rw [hq] at hF
  obtain ⟨o8, l8, b8⟩ := q
  have E8 : Hid (s8P L = (o8, l8, b8)) := Lib.hid (by unfold s8P; rw [E7.out, Q7.out]; exact hq)
  have HC8 := Lib.hid hF
  have HSZ8 := Lib.hid hsz
  clear hb hr hd hF hq HX7 HR7 HB7 hsz HO7
  go_wp2_with fail
  refine HC8.out.mono ?_
  rintro e u10 ⟨v8, rfl, ho8, hb, j10, hj10, hr, hd⟩
  dsimp only at hr hd ho8
  obtain ⟨a8, m8, k8, rfl⟩ := isSlice_of ho8
  have hX : evB u10 (w.heap.size + 1) (.int .i64 x0) (.int .i64 x1) (.int .i64 x2) (.int .i64 x3) (.int .i64 x4) (.int .u64 (x5 : Int)) (.slice a7 m7 k7) (.slice none 0 0) := hb.heap n2.symm HX7'.out
  have hR : evB u10 w.heap.size (.int .i64 0) (.int .i64 0) (.int .i64 0) (.int .i64 0) (.int .i64 0) (.int .u64 0) (.slice none 0 0) (.slice none 0 0) := hb.heap n1.symm HR7'.out
  have HO7'' := Lib.hid (hb.own HO7'.out hrb)
  have HO8 := Lib.hid (own_lower ho8 HSZ8.out)
  have hB := HB7'.out.trans hb
  have HEX : Hid (evP L = ⟨x0, x1, x2, x3, x4, x5, o7.getD [], o8.getD []⟩ ∧ endP L = (l8, b8)) := Lib.hid (by
    unfold evP endP
    rw [E1.out, E2.out, E3.out, E4.out, E5.out, E6.out, E7.out, E8.out]
    exact ⟨rfl, rfl⟩)
  have c0 := cell_of_heap hX (k := 0) rfl
  have z0 := cell_of_heap hR (k := 0) rfl
  have g0 := free_of_heap (k := 0) hR
  have c1 := cell_of_heap hX (k := 1) rfl
  have z1 := cell_of_heap hR (k := 1) rfl
  have g1 := free_of_heap (k := 1) hR
  have c2 := cell_of_heap hX (k := 2) rfl
  have z2 := cell_of_heap hR (k := 2) rfl
  have g2 := free_of_heap (k := 2) hR
  have c3 := cell_of_heap hX (k := 3) rfl
  have z3 := cell_of_heap hR (k := 3) rfl
  have g3 := free_of_heap (k := 3) hR
  have c4 := cell_of_heap hX (k := 4) rfl
  have z4 := cell_of_heap hR (k := 4) rfl
  have g4 := free_of_heap (k := 4) hR
  have c5 := cell_of_heap hX (k := 5) rfl
  have z5 := cell_of_heap hR (k := 5) rfl
  have g5 := free_of_heap (k := 5) hR
  have c6 := cell_of_heap hX (k := 6) rfl
  have z6 := cell_of_heap hR (k := 6) rfl
  have g6 := free_of_heap (k := 6) hR
  have c7 := cell_of_heap hX (k := 7) rfl
  have z7 := cell_of_heap hR (k := 7) rfl
  have g7 := free_of_heap (k := 7) hR
  have f7 := free_of_heap (k := 7) hX
  have HXX := Lib.hid hX
  have HRR := Lib.hid hR
  have HBB := Lib.hid hB
  have HTT := Lib.hid (And.intro hr hd)
  clear hb hr hd hX hR hB HX7' HR7' HB7' ho8 HO7' HSZ7 HSZ8
  go_wp2_with fail
  suffices key : ∀ Wf, Wf = put8 (u10.setCell ⟨w.heap.size + 1, 7, none⟩ (.slice a8 m8 k8)) w.heap.size (.int .i64 x0) (.int .i64 x1) (.int .i64 x2) (.int .i64 x3) (.int .i64 x4) (.int .u64 (x5 : Int)) (.slice a7 m7 k7) (.slice a8 m8 k8) → bodyPost Try.prog Try.f42 (EvP rb L w) Exit.ret _ Wf from key _ rfl
  intro Wf hWf
  have hE : evB Wf w.heap.size (.int .i64 x0) (.int .i64 x1) (.int .i64 x2) (.int .i64 x3) (.int .i64 x4) (.int .u64 (x5 : Int)) (.slice a7 m7 k7) (.slice a8 m8 k8) := by rw [hWf]; exact put8_heap ((set_other (by omega)).trans HRR.out)
  have k0 := cell_of_heap hE (k := 0) rfl
  have k1 := cell_of_heap hE (k := 1) rfl
  have k2 := cell_of_heap hE (k := 2) rfl
  have k3 := cell_of_heap hE (k := 3) rfl
  have k4 := cell_of_heap hE (k := 4) rfl
  have k5 := cell_of_heap hE (k := 5) rfl
  have k6 := cell_of_heap hE (k := 6) rfl
  have k7' := cell_of_heap hE (k := 7) rfl
  refine bodyPost_ret (v := .agg #[.int .i64 x0, .int .i64 x1, .int .i64 x2, .int .i64 x3, .int .i64 x4, .int .u64 (x5 : Int), .slice a7 m7 k7, .slice a8 m8 k8]) (by simp [results, Try.results42, go_sem, k0, k1, k2, k3, k4, k5, k6, k7']) rfl ?_
  unfold EvP
  rw [HEX.out.1, HEX.out.2, hWf]
  refine ⟨a7, m7, k7, a8, m8, k8, rfl, put8_own (own_set HO7''.out (own_not HO7''.out HXX.out (by decide))) (own_not HO7''.out HRR.out (by decide)), put8_own (own_set HO8.out (own_not HO8.out HXX.out (by decide))) (own_not HO8.out HRR.out (by decide)),
    put8_but (HBB.out.setCell (.inr (by show w.heap.size ≤ w.heap.size + 1; omega)) _) (Nat.le_refl _), j10, hj10, put8_trd (HTT.out.1.other n2) n1, HTT.out.2⟩
end Go.Proofs.Ythacohejdpjjeaa
