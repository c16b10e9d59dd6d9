/- Walk of the reading of a line. -/
import Derived.Test.YthacohejdpjjeaaMT
namespace Go.Proofs.Ythacohejdpjjeaa
open Go.RowKit Go.Lib Go.Sort

theorem row_parts {α : Type} {w : World} {B : Nat} {t : TypeId} {a : Option Addr} {n c : Nat} {l : List α} {enc : α → Value} (h : w.ownsRow B t 1 (.slice a n c) l.length (l.map enc)) :
    n = l.length ∧ ∃ g, (0 < l.length → a = some ⟨g, 0, none⟩) ∧ (0 < l.length → B ≤ g) ∧ (0 < l.length → g < w.heap.size) ∧ l.length ≤ c ∧ ∀ (i : Nat) (x : α), l[i]? = some x → w.cell? ⟨g, 0 + i, none⟩ = some (enc x) := by
  have hle : n = l.length ∧ l.length ≤ c := by
    obtain ⟨_, ⟨e, e0⟩ | ⟨g, cap, cur, e, _, _, hn, _⟩⟩ := h
    · cases e; exact ⟨e0.symm, by omega⟩
    · cases e; exact ⟨rfl, hn⟩
  obtain ⟨ao, g, cap, hv, h1, h2, h3, h4⟩ := owns_open h
  cases hv
  refine ⟨hle.1, g, h1, h2, h3, hle.2, fun i x hx => ?_⟩
  rw [Nat.zero_add]
  exact h4 i (enc x) (by rw [List.getElem?_map, hx]; rfl)
theorem below_set {B : Nat} {a W : World} (h : Below B a W) {x : Addr} (hx : B ≤ x.block) (v : Value) : Below B a (W.setCell x v) :=
  ⟨h.os, h.tape, h.output, by simpa [World.setCell] using h.size, fun k hk => (Below.heap_setCell W x v k (by omega)).trans (h.block k hk)⟩
theorem put8_below {B : Nat} {a W : World} {g : Nat} {c0 c1 c2 c3 c4 c5 c6 c7 : Value} (h : Below B a W) (hg : B ≤ g) : Below B a (put8 W g c0 c1 c2 c3 c4 c5 c6 c7) := by
  unfold put8
  have h0 := below_set h (x := ⟨g, 0, none⟩) hg c0
  have h1 := below_set h0 (x := ⟨g, 1, none⟩) hg c1
  have h2 := below_set h1 (x := ⟨g, 2, none⟩) hg c2
  have h3 := below_set h2 (x := ⟨g, 3, none⟩) hg c3
  have h4 := below_set h3 (x := ⟨g, 4, none⟩) hg c4
  have h5 := below_set h4 (x := ⟨g, 5, none⟩) hg c5
  have h6 := below_set h5 (x := ⟨g, 6, none⟩) hg c6
  exact below_set h6 (x := ⟨g, 7, none⟩) hg c7
theorem put8_other {W : World} {g k : Nat} {c0 c1 c2 c3 c4 c5 c6 c7 : Value} (h : k ≠ g) : (put8 W g c0 c1 c2 c3 c4 c5 c6 c7).heap[k]? = W.heap[k]? := by
  unfold put8
  rw [set_other h, set_other h, set_other h, set_other h, set_other h, set_other h, set_other h, set_other h]
theorem cell_same {w w' : World} {b o : Nat} (h : w'.heap[b]? = w.heap[b]?) : w'.cell? ⟨b, o, none⟩ = w.cell? ⟨b, o, none⟩ := by
  unfold World.cell?
  rw [h]
theorem evB_drew {W : World} {g : Nat} {c0 c1 c2 c3 c4 c5 c6 c7 : Value} (h : evB W g c0 c1 c2 c3 c4 c5 c6 c7) : evB W.drew g c0 c1 c2 c3 c4 c5 c6 c7 := h
theorem below_drew {B : Nat} {a W : World} (h : Below B a W) : Below B a W.drew := ⟨h.os, h.tape, h.output, h.size, h.block⟩
theorem put8_size {W : World} {g : Nat} {c0 c1 c2 c3 c4 c5 c6 c7 : Value} : (put8 W g c0 c1 c2 c3 c4 c5 c6 c7).heap.size = W.heap.size := by
  simp [put8, World.setCell]
/-- what reading a line gives -/
def zeroV : Value := .agg #[.int .i64 0, .int .i64 0, .int .i64 0, .int .i64 0, .int .i64 0, .int .u64 0, .slice none 0 0, .slice none 0 0]
def ReadP (L : List Nat) (W : World) (e : Ending) (w' : World) : Prop :=
  Below W.heap.size W w' ∧ ((okP L = true ∧ ∃ s, e = .returned (.tuple #[evV (evP L) s, .int .i64 0, .bool true]) ∧ EvR w' (evP L) s) ∨
    (okP L = false ∧ e = .returned (.tuple #[zeroV, .int .i64 ((L.length - (endP L).1.length : Nat) : Int), .bool false])))

set_option maxHeartbeats 4000000 in
set_option maxRecDepth 100000 in
theorem read_any (L : List Nat) (w : World) (hL : BytL L) (hl : L.length ≤ 1000000) :
    Calls Try.prog 28 #[.string (strB L)] w (ReadP L w) := by
  obtain ⟨w0, hw0⟩ : ∃ w0, (w.alloc (.cells #[.int .i64 0, .int .i64 0, .int .i64 0, .int .i64 0, .int .i64 0, .int .u64 0, .slice none 0 0, .slice none 0 0] 44)).alloc (.cells #[.string (strB L), .int .i64 0, .bool false] 94) = w0 := ⟨_, rfl⟩
  have s1 : (w.alloc (.cells #[.int .i64 0, .int .i64 0, .int .i64 0, .int .i64 0, .int .i64 0, .int .u64 0, .slice none 0 0, .slice none 0 0] 44)).heap.size = w.heap.size + 1 := by simp
  have hR0 : evB w0 w.heap.size (.int .i64 0) (.int .i64 0) (.int .i64 0) (.int .i64 0) (.int .i64 0) (.int .u64 0) (.slice none 0 0) (.slice none 0 0) := by
    rw [← hw0]
    exact (Below.heap_alloc _ _ w.heap.size (by omega)).trans (heap_alloc_new _ _)
  have hT0 : TRd w0 (w.heap.size + 1) L 0 false := by
    rw [← hw0, ← s1]
    exact heap_alloc_new _ _
  have hb0 : Below w.heap.size w w0 := by rw [← hw0]; exact ((Below.refl _ _).alloc (Nat.le_refl _) _).alloc (by omega) _
  have hs0 : w0.heap.size = w.heap.size + 2 := by rw [← hw0]; simp
  have hev := revent_reads (w.heap.size + 1) L w0 hL hl hT0 (by omega)
  have HE := Lib.hid hev
  have HB0 := Lib.hid hb0
  have HR0 := Lib.hid hR0
  have HS0 := Lib.hid hs0
  have hsz := strB_size L
  have HL := Lib.hid hL
  clear hev hT0 hb0 hR0 hs0 s1 hL
  go_enter Try.func28, Try.ntmps28
  go_wp2_with fail
  try rw [hw0]
  clear hw0
  refine HE.out.mono ?_
  rintro e w1 ⟨a7, n7, k7, a8, n8, k8, rfl, ho7, ho8, hb, j, hj, hr, hd⟩
  obtain ⟨rfl, g7, p7⟩ := row_parts ho7
  obtain ⟨rfl, g8, p8⟩ := row_parts ho8
  have hR1 : evB w1 w.heap.size (.int .i64 0) (.int .i64 0) (.int .i64 0) (.int .i64 0) (.int .i64 0) (.int .u64 0) (.slice none 0 0) (.slice none 0 0) := hb.heap (by omega) HR0.out
  have hs1 : w0.heap.size ≤ w1.heap.size := hb.size
  have HB1 : Hid (Below w.heap.size w w1) := Lib.hid (HB0.out.trans (hb.below (by omega) (by have := HS0.out; omega)))
  have hend : okP L = !((endP L).2 || decide (0 < (endP L).1.length)) := rfl
  have hlen : j = L.length - (endP L).1.length := by
    rw [← hd, List.length_drop]; omega
  have hrest : (0 < (endP L).1.length) ↔ j < L.length := by
    rw [← hd, List.length_drop]; omega
  have HJ0 := Lib.hid hlen
  generalize endP L = q at hr hd hend hlen hrest
  obtain ⟨l, b⟩ := q
  dsimp only at hr hd hend hlen hrest
  generalize hX : evP L = X at *
  obtain ⟨ca, iv, rs, st, er, vl, lw, kw⟩ := X
  dsimp only at *
  have hxx : evB (w1.alloc (.cells #[.int .i64 ca, .int .i64 iv, .int .i64 rs, .int .i64 st, .int .i64 er, .int .u64 (vl : Int), .slice a7 lw.length k7, .slice a8 kw.length k8] 44)) w1.heap.size (.int .i64 ca) (.int .i64 iv) (.int .i64 rs) (.int .i64 st) (.int .i64 er) (.int .u64 (vl : Int)) (.slice a7 lw.length k7) (.slice a8 kw.length k8) := heap_alloc_new _ _
  have hr2 : TRd (w1.alloc (.cells #[.int .i64 ca, .int .i64 iv, .int .i64 rs, .int .i64 st, .int .i64 er, .int .u64 (vl : Int), .slice a7 lw.length k7, .slice a8 kw.length k8] 44)) (w.heap.size + 1) L j b := (Below.heap_alloc _ _ _ (lt_of_heap hr)).trans hr
  have hR2 : evB (w1.alloc (.cells #[.int .i64 ca, .int .i64 iv, .int .i64 rs, .int .i64 st, .int .i64 er, .int .u64 (vl : Int), .slice a7 lw.length k7, .slice a8 kw.length k8] 44)) w.heap.size (.int .i64 0) (.int .i64 0) (.int .i64 0) (.int .i64 0) (.int .i64 0) (.int .u64 0) (.slice none 0 0) (.slice none 0 0) := (Below.heap_alloc _ _ _ (lt_of_heap hR1)).trans hR1
  have HB2 : Hid (Below w.heap.size w (w1.alloc (.cells #[.int .i64 ca, .int .i64 iv, .int .i64 rs, .int .i64 st, .int .i64 er, .int .u64 (vl : Int), .slice a7 lw.length k7, .slice a8 kw.length k8] 44))) := Lib.hid (HB1.out.alloc HB1.out.size _)
  have r0 := cell_of_heap hr2 (k := 0) rfl
  have r1 := cell_of_heap hr2 (k := 1) rfl
  have r2 := cell_of_heap hr2 (k := 2) rfl
  have HRR := Lib.hid hR2
  have HZ : Hid (w.heap.size < w1.heap.size) := Lib.hid (lt_of_heap hR1)
  have z0 := cell_of_heap hR2 (k := 0) rfl
  have y0 := free_of_heap (k := 0) hR2
  have x0 := cell_of_heap hxx (k := 0) rfl
  have z1 := cell_of_heap hR2 (k := 1) rfl
  have y1 := free_of_heap (k := 1) hR2
  have x1 := cell_of_heap hxx (k := 1) rfl
  have z2 := cell_of_heap hR2 (k := 2) rfl
  have y2 := free_of_heap (k := 2) hR2
  have x2 := cell_of_heap hxx (k := 2) rfl
  have z3 := cell_of_heap hR2 (k := 3) rfl
  have y3 := free_of_heap (k := 3) hR2
  have x3 := cell_of_heap hxx (k := 3) rfl
  have z4 := cell_of_heap hR2 (k := 4) rfl
  have y4 := free_of_heap (k := 4) hR2
  have x4 := cell_of_heap hxx (k := 4) rfl
  have z5 := cell_of_heap hR2 (k := 5) rfl
  have y5 := free_of_heap (k := 5) hR2
  have x5 := cell_of_heap hxx (k := 5) rfl
  have z6 := cell_of_heap hR2 (k := 6) rfl
  have y6 := free_of_heap (k := 6) hR2
  have x6 := cell_of_heap hxx (k := 6) rfl
  have z7 := cell_of_heap hR2 (k := 7) rfl
  have y7 := free_of_heap (k := 7) hR2
  have x7 := cell_of_heap hxx (k := 7) rfl
  cases b with
  | true =>
    have HP : Hid (okP L = false) := Lib.hid (by rw [hend]; rfl)
    have HJ := HJ0
    clear hb hr hd hend hlen hrest hR1 hs1 p7 p8 ho7 ho8 hr2 hR2 hxx x0 x1 x2 x3 x4 x5 x6 x7
    go_wp2_with fail
    go_region
    go_wp2
    suffices key : ∀ Wf, Wf = (put8 (w1.alloc (.cells #[.int .i64 ca, .int .i64 iv, .int .i64 rs, .int .i64 st, .int .i64 er, .int .u64 (vl : Int), .slice a7 lw.length k7, .slice a8 kw.length k8] 44)) w.heap.size (.int .i64 0) (.int .i64 0) (.int .i64 0) (.int .i64 0) (.int .i64 0) (.int .u64 0) (.slice none 0 0) (.slice none 0 0)).drew → bodyPost Try.prog Try.f28 (ReadP L w) Exit.ret _ Wf from key _ rfl
    intro Wf hWf
    have hE : evB Wf w.heap.size (.int .i64 0) (.int .i64 0) (.int .i64 0) (.int .i64 0) (.int .i64 0) (.int .u64 0) (.slice none 0 0) (.slice none 0 0) := by rw [hWf]; exact evB_drew (put8_heap HRR.out)
    have hBf : Below w.heap.size w Wf := by rw [hWf]; exact below_drew (put8_below HB2.out (Nat.le_refl w.heap.size))
    have k0' := cell_of_heap hE (k := 0) rfl
    have k1' := cell_of_heap hE (k := 1) rfl
    have k2' := cell_of_heap hE (k := 2) rfl
    have k3' := cell_of_heap hE (k := 3) rfl
    have k4' := cell_of_heap hE (k := 4) rfl
    have k5' := cell_of_heap hE (k := 5) rfl
    have k6' := cell_of_heap hE (k := 6) rfl
    have k7' := cell_of_heap hE (k := 7) rfl
    refine bodyPost_ret (v := .tuple #[zeroV, .int .i64 (j : Int), .bool false]) (by simp [results, Try.results28, go_sem, zeroV, k0', k1', k2', k3', k4', k5', k6', k7']) rfl ⟨hBf, Or.inr ⟨HP.out, ?_⟩⟩
    rw [← HJ.out]
  | false =>
    by_cases hjl : j < L.length
    · have djl : (j : Int) < (L.length : Int) := by omega
      have HP : Hid (okP L = false) := Lib.hid (by rw [hend, decide_eq_true (hrest.2 hjl)]; rfl)
      have HJ := HJ0
      clear hjl hb hr hd hend hlen hrest hR1 hs1 p7 p8 ho7 ho8 hr2 hR2 hxx x0 x1 x2 x3 x4 x5 x6 x7
      go_wp2_with fail
      go_region
      go_wp2
      suffices key : ∀ Wf, Wf = (put8 (w1.alloc (.cells #[.int .i64 ca, .int .i64 iv, .int .i64 rs, .int .i64 st, .int .i64 er, .int .u64 (vl : Int), .slice a7 lw.length k7, .slice a8 kw.length k8] 44)) w.heap.size (.int .i64 0) (.int .i64 0) (.int .i64 0) (.int .i64 0) (.int .i64 0) (.int .u64 0) (.slice none 0 0) (.slice none 0 0)).drew → bodyPost Try.prog Try.f28 (ReadP L w) Exit.ret _ Wf from key _ rfl
      intro Wf hWf
      have hE : evB Wf w.heap.size (.int .i64 0) (.int .i64 0) (.int .i64 0) (.int .i64 0) (.int .i64 0) (.int .u64 0) (.slice none 0 0) (.slice none 0 0) := by rw [hWf]; exact evB_drew (put8_heap HRR.out)
      have hBf : Below w.heap.size w Wf := by rw [hWf]; exact below_drew (put8_below HB2.out (Nat.le_refl w.heap.size))
      have k0' := cell_of_heap hE (k := 0) rfl
      have k1' := cell_of_heap hE (k := 1) rfl
      have k2' := cell_of_heap hE (k := 2) rfl
      have k3' := cell_of_heap hE (k := 3) rfl
      have k4' := cell_of_heap hE (k := 4) rfl
      have k5' := cell_of_heap hE (k := 5) rfl
      have k6' := cell_of_heap hE (k := 6) rfl
      have k7' := cell_of_heap hE (k := 7) rfl
      refine bodyPost_ret (v := .tuple #[zeroV, .int .i64 (j : Int), .bool false]) (by simp [results, Try.results28, go_sem, zeroV, k0', k1', k2', k3', k4', k5', k6', k7']) rfl ⟨hBf, Or.inr ⟨HP.out, ?_⟩⟩
      rw [← HJ.out]
    · have djl : ¬ (j : Int) < (L.length : Int) := by omega
      have HP : Hid (okP L = true) := Lib.hid (by rw [hend, decide_eq_false (by rw [hrest]; exact hjl)]; rfl)
      have HX := Lib.hid hX
      have HQ7 := Lib.hid p7
      have HQ8 := Lib.hid p8
      clear hb hr hd hend hlen hrest hR1 hs1 p7 p8 ho7 ho8 hjl hX hr2 hR2 hxx
      go_wp2_with fail
      suffices key : ∀ Wf, Wf = put8 (w1.alloc (.cells #[.int .i64 ca, .int .i64 iv, .int .i64 rs, .int .i64 st, .int .i64 er, .int .u64 (vl : Int), .slice a7 lw.length k7, .slice a8 kw.length k8] 44)) w.heap.size (.int .i64 ca) (.int .i64 iv) (.int .i64 rs) (.int .i64 st) (.int .i64 er) (.int .u64 (vl : Int)) (.slice a7 lw.length k7) (.slice a8 kw.length k8) → bodyPost Try.prog Try.f28 (ReadP L w) Exit.ret _ Wf from key _ rfl
      intro Wf hWf
      have hE : evB Wf w.heap.size (.int .i64 ca) (.int .i64 iv) (.int .i64 rs) (.int .i64 st) (.int .i64 er) (.int .u64 (vl : Int)) (.slice a7 lw.length k7) (.slice a8 kw.length k8) := by rw [hWf]; exact put8_heap HRR.out
      have hBf : Below w.heap.size w Wf := by rw [hWf]; exact put8_below HB2.out (Nat.le_refl w.heap.size)
      have hoth : ∀ g, g < w1.heap.size → g ≠ w.heap.size → Wf.heap[g]? = w1.heap[g]? := fun g h1 h2 => by rw [hWf, put8_other h2]; exact Below.heap_alloc _ _ _ h1
      have hszf : w1.heap.size ≤ Wf.heap.size := by rw [hWf, put8_size]; simp
      have k0' := cell_of_heap hE (k := 0) rfl
      have k1' := cell_of_heap hE (k := 1) rfl
      have k2' := cell_of_heap hE (k := 2) rfl
      have k3' := cell_of_heap hE (k := 3) rfl
      have k4' := cell_of_heap hE (k := 4) rfl
      have k5' := cell_of_heap hE (k := 5) rfl
      have k6' := cell_of_heap hE (k := 6) rfl
      have k7' := cell_of_heap hE (k := 7) rfl
      refine bodyPost_ret (v := .tuple #[.agg #[.int .i64 ca, .int .i64 iv, .int .i64 rs, .int .i64 st, .int .i64 er, .int .u64 (vl : Int), .slice a7 lw.length k7, .slice a8 kw.length k8], .int .i64 0, .bool true]) (by simp [results, Try.results28, go_sem, k0', k1', k2', k3', k4', k5', k6', k7']) rfl ⟨hBf, Or.inl ⟨HP.out, ⟨a7, g7, 0, k7, a8, g8, 0, k8⟩, ?_, ?_⟩⟩
      · rw [HX.out]
      · rw [HX.out]
        obtain ⟨q1, q2, q3, q4, q5⟩ := HQ7.out
        obtain ⟨t1, t2, t3, t4, t5⟩ := HQ8.out
        have hs := HS0.out
        refine ⟨q1, fun h => Nat.lt_of_lt_of_le (q3 h) hszf, q4, fun i x hx => ?_, t1, fun h => Nat.lt_of_lt_of_le (t3 h) hszf, t4, fun i x hx => ?_⟩
        · dsimp only at hx
          have h0 : 0 < lw.length := by have := (List.getElem?_eq_some_iff.1 hx).1; omega
          exact (cell_same (hoth g7 (q3 h0) (by have := q2 h0; omega))).trans (q5 i x hx)
        · dsimp only at hx
          have h0 : 0 < kw.length := by have := (List.getElem?_eq_some_iff.1 hx).1; omega
          exact (cell_same (hoth g8 (t3 h0) (by have := t2 h0; omega))).trans (t5 i x hx)
end Go.Proofs.Ythacohejdpjjeaa
