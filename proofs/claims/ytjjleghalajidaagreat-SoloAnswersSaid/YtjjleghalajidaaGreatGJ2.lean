/- operation: kind by kind, over its function's contract. | The closures that several kinds share: show, add, list, update. | Apply and Legal. | The kinds' own closures, and their functions: update, agree, count, sum, raise, access, share, shareAny. | More kinds: agree, raise, access. -/
import Derived.Test.YtjjleghalajidaaGreatGJ1
import Derived.Deep.RegionWith
import Derived.Deep.Cut
namespace Go.Proofs.YtjjleghalajidaaGreat
section
open Go.ChangeShapes Go.WideShapes Go.ChangeAt Go.RowKit
set_option linter.unusedVariables false
set_option linter.unusedSimpArgs false
set_option maxRecDepth 100000

theorem ChgK.lift {B0 B1 : Nat} {w : World} {m : List Nat} {r : MdR} {fid : FuncId} {ex : List Value} (h : ChgK B1 w m r fid ex) (hb : B0 ≤ B1) : ChgK B0 w m r fid ex :=
  ⟨h.1, fun W B v h1 h2 h3 h4 => h.2 W B v h1 h2 h3 (fun g hg => by have := h4 g hg; omega)⟩
theorem OpP.lift {m : List Nat} {r : MdR} {W W1 w' : World} {e : Ending} (h : OpP m r W1 e w') (hb : Below W.heap.size W W1) : OpP m r W e w' := by
  obtain ⟨fid, ex, rfl, hk, hb1⟩ := h
  exact ⟨fid, ex, rfl, hk.lift hb.size, hb.trans (hb1.mono hb.size)⟩
/-- the two boxes of operation's parameters -/
abbrev opW (w : World) (k p q t ob kd a b c : Int) : World := (w.alloc (Tb.specO k p q)).alloc (callO t ob kd a b c)
structure OpBox (w W : World) (k p q t ob kd a b c : Int) : Prop where
  s0 : W.cell? ⟨w.heap.size, 0, none⟩ = some (.int .i64 k)
  s1 : W.cell? ⟨w.heap.size, 1, none⟩ = some (.int .i64 p)
  s2 : W.cell? ⟨w.heap.size, 2, none⟩ = some (.int .i64 q)
  c0 : W.cell? ⟨w.heap.size + 1, 0, none⟩ = some (.int .i64 t)
  c1 : W.cell? ⟨w.heap.size + 1, 1, none⟩ = some (.int .i64 ob)
  c2 : W.cell? ⟨w.heap.size + 1, 2, none⟩ = some (.int .i64 kd)
  c3 : W.cell? ⟨w.heap.size + 1, 3, none⟩ = some (.int .u64 a)
  c4 : W.cell? ⟨w.heap.size + 1, 4, none⟩ = some (.int .u64 b)
  c5 : W.cell? ⟨w.heap.size + 1, 5, none⟩ = some (.int .u64 c)
  bel : Below w.heap.size w W
  lt : w.heap.size + 1 < W.heap.size
theorem opBox (w : World) (k p q t ob kd a b c : Int) : OpBox w (opW w k p q t ob kd a b c) k p q t ob kd a b c := by
  have hcb : (opW w k p q t ob kd a b c).heap[w.heap.size + 1]? = some (callO t ob kd a b c) := by
    have := heap_alloc_new (w.alloc (Tb.specO k p q)) (callO t ob kd a b c)
    rw [World.size_alloc] at this; exact this
  have hsb : (opW w k p q t ob kd a b c).heap[w.heap.size]? = some (Tb.specO k p q) := (Below.heap_alloc _ _ _ (by simp)).trans (heap_alloc_new _ _)
  exact ⟨Tb.cell_of_blkT hsb rfl, Tb.cell_of_blkT hsb rfl, Tb.cell_of_blkT hsb rfl, Tb.cell_of_blkT hcb rfl, Tb.cell_of_blkT hcb rfl, Tb.cell_of_blkT hcb rfl, Tb.cell_of_blkT hcb rfl, Tb.cell_of_blkT hcb rfl, Tb.cell_of_blkT hcb rfl,
    ((Below.refl _ _).alloc (Nat.le_refl _) _).alloc (by simp) _, blk_lt hcb⟩
theorem OpBox.next {w W W' : World} {k p q t ob kd a b c : Int} (h : OpBox w W k p q t ob kd a b c) (hb : Below W.heap.size W W') : OpBox w W' k p q t ob kd a b c := by
  have hlt := h.lt
  have e : ∀ (j : Nat) (v : Value), W.cell? ⟨w.heap.size, j, none⟩ = some v → W'.cell? ⟨w.heap.size, j, none⟩ = some v := fun j v hv => (hb.cell (p := ⟨w.heap.size, j, none⟩) (by show w.heap.size < _; omega)).trans hv
  have e1 : ∀ (j : Nat) (v : Value), W.cell? ⟨w.heap.size + 1, j, none⟩ = some v → W'.cell? ⟨w.heap.size + 1, j, none⟩ = some v := fun j v hv => (hb.cell (p := ⟨w.heap.size + 1, j, none⟩) (by show w.heap.size + 1 < _; omega)).trans hv
  exact ⟨e _ _ h.s0, e _ _ h.s1, e _ _ h.s2, e1 _ _ h.c0, e1 _ _ h.c1, e1 _ _ h.c2, e1 _ _ h.c3, e1 _ _ h.c4, e1 _ _ h.c5, h.bel.trans (hb.mono (by omega)), by have := hb.size; omega⟩

set_option maxHeartbeats 2000000 in
theorem op_0 (n p q t ob kd a b c : Int) (m : List Nat) (r : MdR) (hk : 0 ≤ kd ∧ kd < Tb.tbKn 0 p) (hS : ∀ W, Calls Tryz.prog 114 #[.int .i64 p, callV t ob kd a b c] W (OpP m r W)) (w : World) :
    Calls Tryz.prog 95 #[.int .i64 n, Tb.specV 0 p q, callV t ob kd a b c] w (OpP m r w) := by
  have d1 : decide (kd < 0) = false := decide_eq_false (by omega)
  have d2 : decide (Tb.tbKn 0 p ≤ kd) = false := decide_eq_false (by omega)
  clear hk
  have HS := Lib.hid hS
  have HB0 := Lib.hid (opBox w 0 p q t ob kd a b c)
  unfold opW at HB0
  have hKn := Tb.kinds_any 0 p q
  have HK := Lib.hid hKn
  clear hS hKn
  obtain ⟨s0, s1, s2, c0, c1, c2, c3, c4, c5, _, hlt⟩ := HB0.out
  generalize hW : ((w.alloc (Tb.specO 0 p q)).alloc (callO t ob kd a b c)) = W at *
  unfold Tb.specV Tb.specO at *
  have l0 : ∀ p' : BW W.heap.size W, p'.v.cell? ⟨w.heap.size, 0, none⟩ = some (.int .i64 0) := fun p' => p'.cell (by show w.heap.size < _; omega) s0
  have l1 : ∀ p' : BW W.heap.size W, p'.v.cell? ⟨w.heap.size, 1, none⟩ = some (.int .i64 p) := fun p' => p'.cell (by show w.heap.size < _; omega) s1
  have l2 : ∀ p' : BW W.heap.size W, p'.v.cell? ⟨w.heap.size, 2, none⟩ = some (.int .i64 q) := fun p' => p'.cell (by show w.heap.size < _; omega) s2
  have l3 : ∀ p' : BW W.heap.size W, p'.v.cell? ⟨w.heap.size + 1, 2, none⟩ = some (.int .i64 kd) := fun p' => p'.cell hlt c2
  clear s0 s1 s2 c0 c1 c2 c3 c4 c5
  go_enter Tryz.func95, Tryz.ntmps95
  go_wp2
  refine wp_region_low (B := W.heap.size) (w := W) (by kernel_rfl) (by kernel_rfl) ?_
  repeat (go_big_quiet_step ((go_at_call 112; exact low_call (HK.out _) (Nat.le_refl _))))
  refine wpQuiet_nil ?_
  intro _ hw'
  obtain ⟨⟨w2, hb2⟩, rfl⟩ := hw'
  have HB2 := Lib.hid (HB0.out.next hb2)
  obtain ⟨s0, s1, s2, c0, c1, c2, c3, c4, c5, hbel, hlt2⟩ := HB2.out
  go_wp2_with (go_at_call 114; refine (HS.out _).mono ?_; intro e w3 h3; obtain ⟨fid, ex, rfl, hk3, hb3⟩ := (OpP.lift h3 HB2.out.bel))
  go_ret
  exact ⟨fid, ex, rfl, hk3, hb3⟩

set_option maxHeartbeats 2000000 in
theorem op_1 (n p q t ob kd a b c : Int) (m : List Nat) (r : MdR) (hk : 0 ≤ kd ∧ kd < Tb.tbKn 1 p) (hS : ∀ W, Calls Tryz.prog 115 #[callV t ob kd a b c] W (OpP m r W)) (w : World) :
    Calls Tryz.prog 95 #[.int .i64 n, Tb.specV 1 p q, callV t ob kd a b c] w (OpP m r w) := by
  have d1 : decide (kd < 0) = false := decide_eq_false (by omega)
  have d2 : decide (Tb.tbKn 1 p ≤ kd) = false := decide_eq_false (by omega)
  clear hk
  have HS := Lib.hid hS
  have HB0 := Lib.hid (opBox w 1 p q t ob kd a b c)
  unfold opW at HB0
  have hKn := Tb.kinds_any 1 p q
  have HK := Lib.hid hKn
  clear hS hKn
  obtain ⟨s0, s1, s2, c0, c1, c2, c3, c4, c5, _, hlt⟩ := HB0.out
  generalize hW : ((w.alloc (Tb.specO 1 p q)).alloc (callO t ob kd a b c)) = W at *
  unfold Tb.specV Tb.specO at *
  have l0 : ∀ p' : BW W.heap.size W, p'.v.cell? ⟨w.heap.size, 0, none⟩ = some (.int .i64 1) := fun p' => p'.cell (by show w.heap.size < _; omega) s0
  have l1 : ∀ p' : BW W.heap.size W, p'.v.cell? ⟨w.heap.size, 1, none⟩ = some (.int .i64 p) := fun p' => p'.cell (by show w.heap.size < _; omega) s1
  have l2 : ∀ p' : BW W.heap.size W, p'.v.cell? ⟨w.heap.size, 2, none⟩ = some (.int .i64 q) := fun p' => p'.cell (by show w.heap.size < _; omega) s2
  have l3 : ∀ p' : BW W.heap.size W, p'.v.cell? ⟨w.heap.size + 1, 2, none⟩ = some (.int .i64 kd) := fun p' => p'.cell hlt c2
  clear s0 s1 s2 c0 c1 c2 c3 c4 c5
  go_enter Tryz.func95, Tryz.ntmps95
  go_wp2
  refine wp_region_low (B := W.heap.size) (w := W) (by kernel_rfl) (by kernel_rfl) ?_
  repeat (go_big_quiet_step ((go_at_call 112; exact low_call (HK.out _) (Nat.le_refl _))))
  refine wpQuiet_nil ?_
  intro _ hw'
  obtain ⟨⟨w2, hb2⟩, rfl⟩ := hw'
  have HB2 := Lib.hid (HB0.out.next hb2)
  obtain ⟨s0, s1, s2, c0, c1, c2, c3, c4, c5, hbel, hlt2⟩ := HB2.out
  go_wp2_with (go_at_call 115; refine (HS.out _).mono ?_; intro e w3 h3; obtain ⟨fid, ex, rfl, hk3, hb3⟩ := (OpP.lift h3 HB2.out.bel))
  go_ret
  exact ⟨fid, ex, rfl, hk3, hb3⟩

set_option maxHeartbeats 2000000 in
theorem op_2 (n p q t ob kd a b c : Int) (m : List Nat) (r : MdR) (hk : 0 ≤ kd ∧ kd < Tb.tbKn 2 p) (hS : ∀ W, Calls Tryz.prog 116 #[callV t ob kd a b c] W (OpP m r W)) (w : World) :
    Calls Tryz.prog 95 #[.int .i64 n, Tb.specV 2 p q, callV t ob kd a b c] w (OpP m r w) := by
  have d1 : decide (kd < 0) = false := decide_eq_false (by omega)
  have d2 : decide (Tb.tbKn 2 p ≤ kd) = false := decide_eq_false (by omega)
  clear hk
  have HS := Lib.hid hS
  have HB0 := Lib.hid (opBox w 2 p q t ob kd a b c)
  unfold opW at HB0
  have hKn := Tb.kinds_any 2 p q
  have HK := Lib.hid hKn
  clear hS hKn
  obtain ⟨s0, s1, s2, c0, c1, c2, c3, c4, c5, _, hlt⟩ := HB0.out
  generalize hW : ((w.alloc (Tb.specO 2 p q)).alloc (callO t ob kd a b c)) = W at *
  unfold Tb.specV Tb.specO at *
  have l0 : ∀ p' : BW W.heap.size W, p'.v.cell? ⟨w.heap.size, 0, none⟩ = some (.int .i64 2) := fun p' => p'.cell (by show w.heap.size < _; omega) s0
  have l1 : ∀ p' : BW W.heap.size W, p'.v.cell? ⟨w.heap.size, 1, none⟩ = some (.int .i64 p) := fun p' => p'.cell (by show w.heap.size < _; omega) s1
  have l2 : ∀ p' : BW W.heap.size W, p'.v.cell? ⟨w.heap.size, 2, none⟩ = some (.int .i64 q) := fun p' => p'.cell (by show w.heap.size < _; omega) s2
  have l3 : ∀ p' : BW W.heap.size W, p'.v.cell? ⟨w.heap.size + 1, 2, none⟩ = some (.int .i64 kd) := fun p' => p'.cell hlt c2
  clear s0 s1 s2 c0 c1 c2 c3 c4 c5
  go_enter Tryz.func95, Tryz.ntmps95
  go_wp2
  refine wp_region_low (B := W.heap.size) (w := W) (by kernel_rfl) (by kernel_rfl) ?_
  repeat (go_big_quiet_step ((go_at_call 112; exact low_call (HK.out _) (Nat.le_refl _))))
  refine wpQuiet_nil ?_
  intro _ hw'
  obtain ⟨⟨w2, hb2⟩, rfl⟩ := hw'
  have HB2 := Lib.hid (HB0.out.next hb2)
  obtain ⟨s0, s1, s2, c0, c1, c2, c3, c4, c5, hbel, hlt2⟩ := HB2.out
  go_wp2_with (go_at_call 116; refine (HS.out _).mono ?_; intro e w3 h3; obtain ⟨fid, ex, rfl, hk3, hb3⟩ := (OpP.lift h3 HB2.out.bel))
  go_ret
  exact ⟨fid, ex, rfl, hk3, hb3⟩

set_option maxHeartbeats 2000000 in
theorem op_3 (n p q t ob kd a b c : Int) (m : List Nat) (r : MdR) (hk : 0 ≤ kd ∧ kd < Tb.tbKn 3 p) (hS : ∀ W, Calls Tryz.prog 117 #[callV t ob kd a b c] W (OpP m r W)) (w : World) :
    Calls Tryz.prog 95 #[.int .i64 n, Tb.specV 3 p q, callV t ob kd a b c] w (OpP m r w) := by
  have d1 : decide (kd < 0) = false := decide_eq_false (by omega)
  have d2 : decide (Tb.tbKn 3 p ≤ kd) = false := decide_eq_false (by omega)
  clear hk
  have HS := Lib.hid hS
  have HB0 := Lib.hid (opBox w 3 p q t ob kd a b c)
  unfold opW at HB0
  have hKn := Tb.kinds_any 3 p q
  have HK := Lib.hid hKn
  clear hS hKn
  obtain ⟨s0, s1, s2, c0, c1, c2, c3, c4, c5, _, hlt⟩ := HB0.out
  generalize hW : ((w.alloc (Tb.specO 3 p q)).alloc (callO t ob kd a b c)) = W at *
  unfold Tb.specV Tb.specO at *
  have l0 : ∀ p' : BW W.heap.size W, p'.v.cell? ⟨w.heap.size, 0, none⟩ = some (.int .i64 3) := fun p' => p'.cell (by show w.heap.size < _; omega) s0
  have l1 : ∀ p' : BW W.heap.size W, p'.v.cell? ⟨w.heap.size, 1, none⟩ = some (.int .i64 p) := fun p' => p'.cell (by show w.heap.size < _; omega) s1
  have l2 : ∀ p' : BW W.heap.size W, p'.v.cell? ⟨w.heap.size, 2, none⟩ = some (.int .i64 q) := fun p' => p'.cell (by show w.heap.size < _; omega) s2
  have l3 : ∀ p' : BW W.heap.size W, p'.v.cell? ⟨w.heap.size + 1, 2, none⟩ = some (.int .i64 kd) := fun p' => p'.cell hlt c2
  clear s0 s1 s2 c0 c1 c2 c3 c4 c5
  go_enter Tryz.func95, Tryz.ntmps95
  go_wp2
  refine wp_region_low (B := W.heap.size) (w := W) (by kernel_rfl) (by kernel_rfl) ?_
  repeat (go_big_quiet_step ((go_at_call 112; exact low_call (HK.out _) (Nat.le_refl _))))
  refine wpQuiet_nil ?_
  intro _ hw'
  obtain ⟨⟨w2, hb2⟩, rfl⟩ := hw'
  have HB2 := Lib.hid (HB0.out.next hb2)
  obtain ⟨s0, s1, s2, c0, c1, c2, c3, c4, c5, hbel, hlt2⟩ := HB2.out
  go_wp2_with (go_at_call 117; refine (HS.out _).mono ?_; intro e w3 h3; obtain ⟨fid, ex, rfl, hk3, hb3⟩ := (OpP.lift h3 HB2.out.bel))
  go_ret
  exact ⟨fid, ex, rfl, hk3, hb3⟩

set_option maxHeartbeats 2000000 in
theorem op_4 (n p q t ob kd a b c : Int) (m : List Nat) (r : MdR) (hk : 0 ≤ kd ∧ kd < Tb.tbKn 4 p) (hS : ∀ W, Calls Tryz.prog 118 #[.int .i64 p, callV t ob kd a b c] W (OpP m r W)) (w : World) :
    Calls Tryz.prog 95 #[.int .i64 n, Tb.specV 4 p q, callV t ob kd a b c] w (OpP m r w) := by
  have d1 : decide (kd < 0) = false := decide_eq_false (by omega)
  have d2 : decide (Tb.tbKn 4 p ≤ kd) = false := decide_eq_false (by omega)
  clear hk
  have HS := Lib.hid hS
  have HB0 := Lib.hid (opBox w 4 p q t ob kd a b c)
  unfold opW at HB0
  have hKn := Tb.kinds_any 4 p q
  have HK := Lib.hid hKn
  clear hS hKn
  obtain ⟨s0, s1, s2, c0, c1, c2, c3, c4, c5, _, hlt⟩ := HB0.out
  generalize hW : ((w.alloc (Tb.specO 4 p q)).alloc (callO t ob kd a b c)) = W at *
  unfold Tb.specV Tb.specO at *
  have l0 : ∀ p' : BW W.heap.size W, p'.v.cell? ⟨w.heap.size, 0, none⟩ = some (.int .i64 4) := fun p' => p'.cell (by show w.heap.size < _; omega) s0
  have l1 : ∀ p' : BW W.heap.size W, p'.v.cell? ⟨w.heap.size, 1, none⟩ = some (.int .i64 p) := fun p' => p'.cell (by show w.heap.size < _; omega) s1
  have l2 : ∀ p' : BW W.heap.size W, p'.v.cell? ⟨w.heap.size, 2, none⟩ = some (.int .i64 q) := fun p' => p'.cell (by show w.heap.size < _; omega) s2
  have l3 : ∀ p' : BW W.heap.size W, p'.v.cell? ⟨w.heap.size + 1, 2, none⟩ = some (.int .i64 kd) := fun p' => p'.cell hlt c2
  clear s0 s1 s2 c0 c1 c2 c3 c4 c5
  go_enter Tryz.func95, Tryz.ntmps95
  go_wp2
  refine wp_region_low (B := W.heap.size) (w := W) (by kernel_rfl) (by kernel_rfl) ?_
  repeat (go_big_quiet_step ((go_at_call 112; exact low_call (HK.out _) (Nat.le_refl _))))
  refine wpQuiet_nil ?_
  intro _ hw'
  obtain ⟨⟨w2, hb2⟩, rfl⟩ := hw'
  have HB2 := Lib.hid (HB0.out.next hb2)
  obtain ⟨s0, s1, s2, c0, c1, c2, c3, c4, c5, hbel, hlt2⟩ := HB2.out
  go_wp2_with (go_at_call 118; refine (HS.out _).mono ?_; intro e w3 h3; obtain ⟨fid, ex, rfl, hk3, hb3⟩ := (OpP.lift h3 HB2.out.bel))
  go_ret
  exact ⟨fid, ex, rfl, hk3, hb3⟩

set_option maxHeartbeats 2000000 in
theorem op_5 (n p q t ob kd a b c : Int) (m : List Nat) (r : MdR) (hk : 0 ≤ kd ∧ kd < Tb.tbKn 5 p) (hS : ∀ W, Calls Tryz.prog 119 #[.int .i64 n, .int .i64 p, callV t ob kd a b c] W (OpP m r W)) (w : World) :
    Calls Tryz.prog 95 #[.int .i64 n, Tb.specV 5 p q, callV t ob kd a b c] w (OpP m r w) := by
  have d1 : decide (kd < 0) = false := decide_eq_false (by omega)
  have d2 : decide (Tb.tbKn 5 p ≤ kd) = false := decide_eq_false (by omega)
  clear hk
  have HS := Lib.hid hS
  have HB0 := Lib.hid (opBox w 5 p q t ob kd a b c)
  unfold opW at HB0
  have hKn := Tb.kinds_any 5 p q
  have HK := Lib.hid hKn
  clear hS hKn
  obtain ⟨s0, s1, s2, c0, c1, c2, c3, c4, c5, _, hlt⟩ := HB0.out
  generalize hW : ((w.alloc (Tb.specO 5 p q)).alloc (callO t ob kd a b c)) = W at *
  unfold Tb.specV Tb.specO at *
  have l0 : ∀ p' : BW W.heap.size W, p'.v.cell? ⟨w.heap.size, 0, none⟩ = some (.int .i64 5) := fun p' => p'.cell (by show w.heap.size < _; omega) s0
  have l1 : ∀ p' : BW W.heap.size W, p'.v.cell? ⟨w.heap.size, 1, none⟩ = some (.int .i64 p) := fun p' => p'.cell (by show w.heap.size < _; omega) s1
  have l2 : ∀ p' : BW W.heap.size W, p'.v.cell? ⟨w.heap.size, 2, none⟩ = some (.int .i64 q) := fun p' => p'.cell (by show w.heap.size < _; omega) s2
  have l3 : ∀ p' : BW W.heap.size W, p'.v.cell? ⟨w.heap.size + 1, 2, none⟩ = some (.int .i64 kd) := fun p' => p'.cell hlt c2
  clear s0 s1 s2 c0 c1 c2 c3 c4 c5
  go_enter Tryz.func95, Tryz.ntmps95
  go_wp2
  refine wp_region_low (B := W.heap.size) (w := W) (by kernel_rfl) (by kernel_rfl) ?_
  repeat (go_big_quiet_step ((go_at_call 112; exact low_call (HK.out _) (Nat.le_refl _))))
  refine wpQuiet_nil ?_
  intro _ hw'
  obtain ⟨⟨w2, hb2⟩, rfl⟩ := hw'
  have HB2 := Lib.hid (HB0.out.next hb2)
  obtain ⟨s0, s1, s2, c0, c1, c2, c3, c4, c5, hbel, hlt2⟩ := HB2.out
  go_wp2_with (go_at_call 119; refine (HS.out _).mono ?_; intro e w3 h3; obtain ⟨fid, ex, rfl, hk3, hb3⟩ := (OpP.lift h3 HB2.out.bel))
  go_ret
  exact ⟨fid, ex, rfl, hk3, hb3⟩

set_option maxHeartbeats 2000000 in
theorem op_6 (n p q t ob kd a b c : Int) (m : List Nat) (r : MdR) (hk : 0 ≤ kd ∧ kd < Tb.tbKn 6 p) (hS : ∀ W, Calls Tryz.prog 120 #[.int .i64 p, .int .i64 q, callV t ob kd a b c] W (OpP m r W)) (w : World) :
    Calls Tryz.prog 95 #[.int .i64 n, Tb.specV 6 p q, callV t ob kd a b c] w (OpP m r w) := by
  have d1 : decide (kd < 0) = false := decide_eq_false (by omega)
  have d2 : decide (Tb.tbKn 6 p ≤ kd) = false := decide_eq_false (by omega)
  clear hk
  have HS := Lib.hid hS
  have HB0 := Lib.hid (opBox w 6 p q t ob kd a b c)
  unfold opW at HB0
  have hKn := Tb.kinds_any 6 p q
  have HK := Lib.hid hKn
  clear hS hKn
  obtain ⟨s0, s1, s2, c0, c1, c2, c3, c4, c5, _, hlt⟩ := HB0.out
  generalize hW : ((w.alloc (Tb.specO 6 p q)).alloc (callO t ob kd a b c)) = W at *
  unfold Tb.specV Tb.specO at *
  have l0 : ∀ p' : BW W.heap.size W, p'.v.cell? ⟨w.heap.size, 0, none⟩ = some (.int .i64 6) := fun p' => p'.cell (by show w.heap.size < _; omega) s0
  have l1 : ∀ p' : BW W.heap.size W, p'.v.cell? ⟨w.heap.size, 1, none⟩ = some (.int .i64 p) := fun p' => p'.cell (by show w.heap.size < _; omega) s1
  have l2 : ∀ p' : BW W.heap.size W, p'.v.cell? ⟨w.heap.size, 2, none⟩ = some (.int .i64 q) := fun p' => p'.cell (by show w.heap.size < _; omega) s2
  have l3 : ∀ p' : BW W.heap.size W, p'.v.cell? ⟨w.heap.size + 1, 2, none⟩ = some (.int .i64 kd) := fun p' => p'.cell hlt c2
  clear s0 s1 s2 c0 c1 c2 c3 c4 c5
  go_enter Tryz.func95, Tryz.ntmps95
  go_wp2
  refine wp_region_low (B := W.heap.size) (w := W) (by kernel_rfl) (by kernel_rfl) ?_
  repeat (go_big_quiet_step ((go_at_call 112; exact low_call (HK.out _) (Nat.le_refl _))))
  refine wpQuiet_nil ?_
  intro _ hw'
  obtain ⟨⟨w2, hb2⟩, rfl⟩ := hw'
  have HB2 := Lib.hid (HB0.out.next hb2)
  obtain ⟨s0, s1, s2, c0, c1, c2, c3, c4, c5, hbel, hlt2⟩ := HB2.out
  go_wp2_with (go_at_call 120; refine (HS.out _).mono ?_; intro e w3 h3; obtain ⟨fid, ex, rfl, hk3, hb3⟩ := (OpP.lift h3 HB2.out.bel))
  go_ret
  exact ⟨fid, ex, rfl, hk3, hb3⟩

set_option maxHeartbeats 2000000 in
theorem op_7 (n p q t ob kd a b c : Int) (m : List Nat) (r : MdR) (hk : 0 ≤ kd ∧ kd < Tb.tbKn 7 p) (hS : ∀ W, Calls Tryz.prog 121 #[.int .i64 p, .int .i64 q, callV t ob kd a b c] W (OpP m r W)) (w : World) :
    Calls Tryz.prog 95 #[.int .i64 n, Tb.specV 7 p q, callV t ob kd a b c] w (OpP m r w) := by
  have d1 : decide (kd < 0) = false := decide_eq_false (by omega)
  have d2 : decide (Tb.tbKn 7 p ≤ kd) = false := decide_eq_false (by omega)
  clear hk
  have HS := Lib.hid hS
  have HB0 := Lib.hid (opBox w 7 p q t ob kd a b c)
  unfold opW at HB0
  have hKn := Tb.kinds_any 7 p q
  have HK := Lib.hid hKn
  clear hS hKn
  obtain ⟨s0, s1, s2, c0, c1, c2, c3, c4, c5, _, hlt⟩ := HB0.out
  generalize hW : ((w.alloc (Tb.specO 7 p q)).alloc (callO t ob kd a b c)) = W at *
  unfold Tb.specV Tb.specO at *
  have l0 : ∀ p' : BW W.heap.size W, p'.v.cell? ⟨w.heap.size, 0, none⟩ = some (.int .i64 7) := fun p' => p'.cell (by show w.heap.size < _; omega) s0
  have l1 : ∀ p' : BW W.heap.size W, p'.v.cell? ⟨w.heap.size, 1, none⟩ = some (.int .i64 p) := fun p' => p'.cell (by show w.heap.size < _; omega) s1
  have l2 : ∀ p' : BW W.heap.size W, p'.v.cell? ⟨w.heap.size, 2, none⟩ = some (.int .i64 q) := fun p' => p'.cell (by show w.heap.size < _; omega) s2
  have l3 : ∀ p' : BW W.heap.size W, p'.v.cell? ⟨w.heap.size + 1, 2, none⟩ = some (.int .i64 kd) := fun p' => p'.cell hlt c2
  clear s0 s1 s2 c0 c1 c2 c3 c4 c5
  go_enter Tryz.func95, Tryz.ntmps95
  go_wp2
  refine wp_region_low (B := W.heap.size) (w := W) (by kernel_rfl) (by kernel_rfl) ?_
  repeat (go_big_quiet_step ((go_at_call 112; exact low_call (HK.out _) (Nat.le_refl _))))
  refine wpQuiet_nil ?_
  intro _ hw'
  obtain ⟨⟨w2, hb2⟩, rfl⟩ := hw'
  have HB2 := Lib.hid (HB0.out.next hb2)
  obtain ⟨s0, s1, s2, c0, c1, c2, c3, c4, c5, hbel, hlt2⟩ := HB2.out
  go_wp2_with (go_at_call 121; refine (HS.out _).mono ?_; intro e w3 h3; obtain ⟨fid, ex, rfl, hk3, hb3⟩ := (OpP.lift h3 HB2.out.bel))
  go_ret
  exact ⟨fid, ex, rfl, hk3, hb3⟩

set_option maxHeartbeats 2000000 in
theorem op_8 (n p q t ob kd a b c : Int) (m : List Nat) (r : MdR) (hk : 0 ≤ kd ∧ kd < Tb.tbKn 8 p) (hS : ∀ W, Calls Tryz.prog 122 #[callV t ob kd a b c] W (OpP m r W)) (w : World) :
    Calls Tryz.prog 95 #[.int .i64 n, Tb.specV 8 p q, callV t ob kd a b c] w (OpP m r w) := by
  have d1 : decide (kd < 0) = false := decide_eq_false (by omega)
  have d2 : decide (Tb.tbKn 8 p ≤ kd) = false := decide_eq_false (by omega)
  clear hk
  have HS := Lib.hid hS
  have HB0 := Lib.hid (opBox w 8 p q t ob kd a b c)
  unfold opW at HB0
  have hKn := Tb.kinds_any 8 p q
  have HK := Lib.hid hKn
  clear hS hKn
  obtain ⟨s0, s1, s2, c0, c1, c2, c3, c4, c5, _, hlt⟩ := HB0.out
  generalize hW : ((w.alloc (Tb.specO 8 p q)).alloc (callO t ob kd a b c)) = W at *
  unfold Tb.specV Tb.specO at *
  have l0 : ∀ p' : BW W.heap.size W, p'.v.cell? ⟨w.heap.size, 0, none⟩ = some (.int .i64 8) := fun p' => p'.cell (by show w.heap.size < _; omega) s0
  have l1 : ∀ p' : BW W.heap.size W, p'.v.cell? ⟨w.heap.size, 1, none⟩ = some (.int .i64 p) := fun p' => p'.cell (by show w.heap.size < _; omega) s1
  have l2 : ∀ p' : BW W.heap.size W, p'.v.cell? ⟨w.heap.size, 2, none⟩ = some (.int .i64 q) := fun p' => p'.cell (by show w.heap.size < _; omega) s2
  have l3 : ∀ p' : BW W.heap.size W, p'.v.cell? ⟨w.heap.size + 1, 2, none⟩ = some (.int .i64 kd) := fun p' => p'.cell hlt c2
  clear s0 s1 s2 c0 c1 c2 c3 c4 c5
  go_enter Tryz.func95, Tryz.ntmps95
  go_wp2
  refine wp_region_low (B := W.heap.size) (w := W) (by kernel_rfl) (by kernel_rfl) ?_
  repeat (go_big_quiet_step ((go_at_call 112; exact low_call (HK.out _) (Nat.le_refl _))))
  refine wpQuiet_nil ?_
  intro _ hw'
  obtain ⟨⟨w2, hb2⟩, rfl⟩ := hw'
  have HB2 := Lib.hid (HB0.out.next hb2)
  obtain ⟨s0, s1, s2, c0, c1, c2, c3, c4, c5, hbel, hlt2⟩ := HB2.out
  go_wp2_with (go_at_call 122; refine (HS.out _).mono ?_; intro e w3 h3; obtain ⟨fid, ex, rfl, hk3, hb3⟩ := (OpP.lift h3 HB2.out.bel))
  go_ret
  exact ⟨fid, ex, rfl, hk3, hb3⟩

set_option maxHeartbeats 2000000 in
theorem op_9 (n p q t ob kd a b c : Int) (m : List Nat) (r : MdR) (hk : 0 ≤ kd ∧ kd < Tb.tbKn 9 p) (hS : ∀ W, Calls Tryz.prog 123 #[.int .i64 p, callV t ob kd a b c] W (OpP m r W)) (w : World) :
    Calls Tryz.prog 95 #[.int .i64 n, Tb.specV 9 p q, callV t ob kd a b c] w (OpP m r w) := by
  have d1 : decide (kd < 0) = false := decide_eq_false (by omega)
  have d2 : decide (Tb.tbKn 9 p ≤ kd) = false := decide_eq_false (by omega)
  clear hk
  have HS := Lib.hid hS
  have HB0 := Lib.hid (opBox w 9 p q t ob kd a b c)
  unfold opW at HB0
  have hKn := Tb.kinds_any 9 p q
  have HK := Lib.hid hKn
  clear hS hKn
  obtain ⟨s0, s1, s2, c0, c1, c2, c3, c4, c5, _, hlt⟩ := HB0.out
  generalize hW : ((w.alloc (Tb.specO 9 p q)).alloc (callO t ob kd a b c)) = W at *
  unfold Tb.specV Tb.specO at *
  have l0 : ∀ p' : BW W.heap.size W, p'.v.cell? ⟨w.heap.size, 0, none⟩ = some (.int .i64 9) := fun p' => p'.cell (by show w.heap.size < _; omega) s0
  have l1 : ∀ p' : BW W.heap.size W, p'.v.cell? ⟨w.heap.size, 1, none⟩ = some (.int .i64 p) := fun p' => p'.cell (by show w.heap.size < _; omega) s1
  have l2 : ∀ p' : BW W.heap.size W, p'.v.cell? ⟨w.heap.size, 2, none⟩ = some (.int .i64 q) := fun p' => p'.cell (by show w.heap.size < _; omega) s2
  have l3 : ∀ p' : BW W.heap.size W, p'.v.cell? ⟨w.heap.size + 1, 2, none⟩ = some (.int .i64 kd) := fun p' => p'.cell hlt c2
  clear s0 s1 s2 c0 c1 c2 c3 c4 c5
  go_enter Tryz.func95, Tryz.ntmps95
  go_wp2
  refine wp_region_low (B := W.heap.size) (w := W) (by kernel_rfl) (by kernel_rfl) ?_
  repeat (go_big_quiet_step ((go_at_call 112; exact low_call (HK.out _) (Nat.le_refl _))))
  refine wpQuiet_nil ?_
  intro _ hw'
  obtain ⟨⟨w2, hb2⟩, rfl⟩ := hw'
  have HB2 := Lib.hid (HB0.out.next hb2)
  obtain ⟨s0, s1, s2, c0, c1, c2, c3, c4, c5, hbel, hlt2⟩ := HB2.out
  go_wp2_with (go_at_call 123; refine (HS.out _).mono ?_; intro e w3 h3; obtain ⟨fid, ex, rfl, hk3, hb3⟩ := (OpP.lift h3 HB2.out.bel))
  go_ret
  exact ⟨fid, ex, rfl, hk3, hb3⟩

set_option maxHeartbeats 2000000 in
theorem op_kind (n p q t ob kd a b c : Int) (k : Int) (m : List Nat) (hk : ¬ (0 ≤ kd ∧ kd < Tb.tbKn k p)) (w : World) :
    Calls Tryz.prog 95 #[.int .i64 n, Tb.specV k p q, callV t ob kd a b c] w (OpP m ⟨m, 9, 0, []⟩ w) := by
  have hS : ∀ W, Calls Tryz.prog 113 #[.int .i64 9] W (OpP m ⟨m, 9, 0, []⟩ W) := fun W => fail_any 9 W m
  by_cases h0 : kd < 0
  · have d1 : decide (kd < 0) = true := decide_eq_true h0
    clear hk
    have HS := Lib.hid hS
    have HB0 := Lib.hid (opBox w k p q t ob kd a b c)
    unfold opW at HB0
    have hKn := Tb.kinds_any k p q
    have HK := Lib.hid hKn
    clear hS hKn
    obtain ⟨s0, s1, s2, c0, c1, c2, c3, c4, c5, _, hlt⟩ := HB0.out
    generalize hW : ((w.alloc (Tb.specO k p q)).alloc (callO t ob kd a b c)) = W at *
    unfold Tb.specV Tb.specO at *
    have l0 : ∀ p' : BW W.heap.size W, p'.v.cell? ⟨w.heap.size, 0, none⟩ = some (.int .i64 k) := fun p' => p'.cell (by show w.heap.size < _; omega) s0
    have l1 : ∀ p' : BW W.heap.size W, p'.v.cell? ⟨w.heap.size, 1, none⟩ = some (.int .i64 p) := fun p' => p'.cell (by show w.heap.size < _; omega) s1
    have l2 : ∀ p' : BW W.heap.size W, p'.v.cell? ⟨w.heap.size, 2, none⟩ = some (.int .i64 q) := fun p' => p'.cell (by show w.heap.size < _; omega) s2
    have l3 : ∀ p' : BW W.heap.size W, p'.v.cell? ⟨w.heap.size + 1, 2, none⟩ = some (.int .i64 kd) := fun p' => p'.cell hlt c2
    clear s0 s1 s2 c0 c1 c2 c3 c4 c5
    go_enter Tryz.func95, Tryz.ntmps95
    go_wp2
    refine wp_region_low (B := W.heap.size) (w := W) (by kernel_rfl) (by kernel_rfl) ?_
    repeat (go_big_quiet_step ((go_at_call 112; exact low_call (HK.out _) (Nat.le_refl _))))
    refine wpQuiet_nil ?_
    intro _ hw'
    obtain ⟨⟨w2, hb2⟩, rfl⟩ := hw'
    have HB2 := Lib.hid (HB0.out.next hb2)
    obtain ⟨s0, s1, s2, c0, c1, c2, c3, c4, c5, hbel, hlt2⟩ := HB2.out
    go_wp2_with (go_at_call 113; refine (HS.out _).mono ?_; intro e w3 h3; obtain ⟨fid, ex, rfl, hk3, hb3⟩ := (OpP.lift h3 HB2.out.bel))
    go_ret
    exact ⟨fid, ex, rfl, hk3, hb3⟩
  · have d1 : decide (kd < 0) = false := decide_eq_false h0
    have d2 : decide (Tb.tbKn k p ≤ kd) = true := decide_eq_true (by omega)
    clear hk
    have HS := Lib.hid hS
    have HB0 := Lib.hid (opBox w k p q t ob kd a b c)
    unfold opW at HB0
    have hKn := Tb.kinds_any k p q
    have HK := Lib.hid hKn
    clear hS hKn
    obtain ⟨s0, s1, s2, c0, c1, c2, c3, c4, c5, _, hlt⟩ := HB0.out
    generalize hW : ((w.alloc (Tb.specO k p q)).alloc (callO t ob kd a b c)) = W at *
    unfold Tb.specV Tb.specO at *
    have l0 : ∀ p' : BW W.heap.size W, p'.v.cell? ⟨w.heap.size, 0, none⟩ = some (.int .i64 k) := fun p' => p'.cell (by show w.heap.size < _; omega) s0
    have l1 : ∀ p' : BW W.heap.size W, p'.v.cell? ⟨w.heap.size, 1, none⟩ = some (.int .i64 p) := fun p' => p'.cell (by show w.heap.size < _; omega) s1
    have l2 : ∀ p' : BW W.heap.size W, p'.v.cell? ⟨w.heap.size, 2, none⟩ = some (.int .i64 q) := fun p' => p'.cell (by show w.heap.size < _; omega) s2
    have l3 : ∀ p' : BW W.heap.size W, p'.v.cell? ⟨w.heap.size + 1, 2, none⟩ = some (.int .i64 kd) := fun p' => p'.cell hlt c2
    clear s0 s1 s2 c0 c1 c2 c3 c4 c5
    go_enter Tryz.func95, Tryz.ntmps95
    go_wp2
    refine wp_region_low (B := W.heap.size) (w := W) (by kernel_rfl) (by kernel_rfl) ?_
    repeat (go_big_quiet_step ((go_at_call 112; exact low_call (HK.out _) (Nat.le_refl _))))
    refine wpQuiet_nil ?_
    intro _ hw'
    obtain ⟨⟨w2, hb2⟩, rfl⟩ := hw'
    have HB2 := Lib.hid (HB0.out.next hb2)
    obtain ⟨s0, s1, s2, c0, c1, c2, c3, c4, c5, hbel, hlt2⟩ := HB2.out
    go_wp2_with (go_at_call 113; refine (HS.out _).mono ?_; intro e w3 h3; obtain ⟨fid, ex, rfl, hk3, hb3⟩ := (OpP.lift h3 HB2.out.bel))
    go_ret
    exact ⟨fid, ex, rfl, hk3, hb3⟩
end
section
open Go.ChangeShapes Go.WideShapes Go.ChangeAt Go.RowKit
set_option linter.unusedVariables false
set_option linter.unusedSimpArgs false
set_option maxRecDepth 100000

theorem two_boxesU (w : World) (v1 v2 : Value) (t1 t2 : TypeId) : ((w.alloc (.cells #[v1] t1)).alloc (.cells #[v2] t2)).cell? ⟨w.heap.size, 0, none⟩ = some v1 ∧ ((w.alloc (.cells #[v1] t1)).alloc (.cells #[v2] t2)).cell? ⟨w.heap.size + 1, 0, none⟩ = some v2 := by
  have e : (w.alloc (.cells #[v1] t1)).heap.size = w.heap.size + 1 := World.size_alloc _ _
  refine ⟨?_, cell_new0 _ _ _ e.symm⟩
  exact (((Below.refl (w.alloc (.cells #[v1] t1)).heap.size _).alloc (Nat.le_refl _) _).cell (by rw [e]; exact Nat.lt_succ_self _)).trans (cell_new0 _ _ _ rfl)
def mdShow (m : List Nat) (at1 : Nat) : MdR := ⟨m, 0, m.getD at1 0, []⟩
def mdAdd (m : List Nat) (at1 d : Nat) : MdR := ⟨m.set at1 ((m.getD at1 0 + d) % 18446744073709551616), 0, m.getD at1 0, []⟩
def mdList (m : List Nat) (n : Nat) : MdR := ⟨m, 0, 0, m.take n⟩
def mdUpd (m : List Nat) (values most thread at1 v : Nat) : MdR :=
  if most ≤ m.getD (values + thread) 0 then ⟨m, 6, 0, []⟩ else ⟨(m.set (values + thread) (m.getD (values + thread) 0 + 1)).set at1 v, 0, 0, []⟩
theorem getD_of {m : List Nat} {i x : Nat} (h : m[i]? = some x) : m.getD i 0 = x := by rw [List.getD_eq_getElem?_getD, h]; rfl

theorem put3R {w : World} {B b : Nat} {v : Value} {l : List Nat} (h : ArgB w B v l ∧ Room v) (hb : b < B) (x y z : Value) : ArgB (((w.setCell ⟨b, 0, none⟩ x).setCell ⟨b, 1, none⟩ y).setCell ⟨b, 2, none⟩ z) B v l ∧ Room v := ⟨h.1.put3 hb x y z, h.2⟩
set_option maxHeartbeats 4000000 in
theorem show1_any (g at1 : Nat) (m : List Nat) (v : Value) (B : Nat) (w : World) (h : OwnW w B v m) (hB : B ≤ w.heap.size) (hg : w.cell? ⟨g, 0, none⟩ = some (.int .u64 (at1 : Int))) (hat : at1 < m.length) :
    Calls Tryz.prog 173 #[v, .pointer (some ⟨g, 0, none⟩)] w (ChP B w (mdShow m at1)) := by
  obtain ⟨g1, cap, rfl, hg1, hlt1, hc, hf⟩ := h.opened (by omega)
  obtain ⟨x, hx⟩ : ∃ x, m[at1]? = some x := ⟨m[at1], List.getElem?_eq_getElem hat⟩
  have d1 := hc at1 x hx
  have HX : Hid (m.getD at1 0 = x) := Lib.hid (getD_of hx)
  have HO := Lib.hid h
  have hlt := World.block_lt_of_cell? w _ hg
  simp only at hlt
  unfold mdShow
  rw [HX.out]
  clear h hc hf hx
  go_enter Tryz.func173, Tryz.ntmps173
  go_wp2_with fail
  go_region
  go_wp2
  refine bodyPost_ret (v := .tuple #[.slice (some ⟨g1, 0, none⟩) m.length cap, .agg #[.int .i64 0, .int .u64 (x : Int), .slice none 0 0]]) (by simp [results, Tryz.results173, go_sem]) rfl ⟨_, _, rfl, ⟨(HO.out.alloc _).argB, HO.out.room⟩, ⟨ArgB.nil _ _, room_nil⟩, ((Below.refl B w).alloc hB _).drew⟩

theorem show_any (at1 : Nat) (w : World) (m : List Nat) (hat : at1 < m.length) : Calls Tryz.prog 147 #[.int .u64 (at1 : Int)] w (OpP m (mdShow m at1) w) := by
  have hmf : ∀ (fn : Fn) (first cap : Array Value) (w : World), (Instr.makeFunc fn first cap).run Tryz.prog w = .ok (.func fn first cap) w := fun _ _ _ _ => rfl
  go_enter Tryz.func147, Tryz.ntmps147
  go_wp2_with fail
  go_ret
  refine ⟨_, [.pointer (some ⟨w.heap.size, 0, none⟩)], rfl, ⟨fun args w => by kernel_rfl, fun W B v hb hB ho hg => ?_⟩, (Below.refl _ _).alloc (Nat.le_refl _) _⟩
  exact show1_any _ at1 m v B W ho hB ((hb.cell (p := ⟨w.heap.size, 0, none⟩) (by simp)).trans (cell_new0 _ _ _ rfl)) hat

set_option maxHeartbeats 4000000 in
theorem add1_any (g g2 at1 d : Nat) (m : List Nat) (v : Value) (B : Nat) (w : World) (h : OwnW w B v m) (hB : B ≤ w.heap.size) (hg : w.cell? ⟨g, 0, none⟩ = some (.int .u64 (at1 : Int))) (hg2 : w.cell? ⟨g2, 0, none⟩ = some (.int .u64 (d : Int))) (hne : v.ownBlock ≠ some g) (hne2 : v.ownBlock ≠ some g2) (hat : at1 < m.length) (hx64 : ∀ x ∈ m, x < 18446744073709551616) (hd : d < 18446744073709551616) :
    Calls Tryz.prog 174 #[v, .pointer (some ⟨g, 0, none⟩), .pointer (some ⟨g2, 0, none⟩)] w (ChP B w (mdAdd m at1 d)) := by
  obtain ⟨g1, cap, rfl, hg1, hlt1, hc, hf⟩ := h.opened (by omega)
  obtain ⟨x, hx⟩ : ∃ x, m[at1]? = some x := ⟨m[at1], List.getElem?_eq_getElem hat⟩
  have d1 := hc at1 x hx
  have f1 := hf at1
  have hxb := hx64 x (List.mem_of_getElem? hx)
  obtain ⟨z, hz⟩ : ∃ z : Nat, (x + d) % 18446744073709551616 = z := ⟨_, rfl⟩
  have hwz : IntKind.u64.wrap ((x : Int) + (d : Int)) = (z : Int) := by
    rw [← hz]
    simp [IntKind.wrap, IntKind.signed, IntKind.bits]
  have HX : Hid (mdAdd m at1 d = ⟨m.set at1 z, 0, x, []⟩) := Lib.hid (by unfold mdAdd; rw [getD_of hx, hz])
  rw [HX.out]
  have HO := Lib.hid (h.stored at1 z)
  have HRM := Lib.hid h.room
  have HB2 := Lib.hid ((Below.refl B w).setCell (p := ⟨g1, at1, none⟩) hg1 (.int .u64 (z : Int)))
  have hlt := World.block_lt_of_cell? w _ hg
  have hlt2 := World.block_lt_of_cell? w _ hg2
  simp only at hlt hlt2
  have hn1 : g1 ≠ g := fun e => hne (by rw [e]; rfl)
  have hn2 : g1 ≠ g2 := fun e => hne2 (by rw [e]; rfl)
  have hn3 : g1 ≠ w.heap.size := by omega
  clear h hc hf hx hne hne2 hz hx64
  go_enter Tryz.func174, Tryz.ntmps174
  go_wp2_with fail
  go_region
  go_wp2
  refine bodyPost_ret (v := .tuple #[.slice (some ⟨g1, 0, none⟩) m.length cap, .agg #[.int .i64 0, .int .u64 (x : Int), .slice none 0 0]]) (by simp [results, Tryz.results174, go_sem]) rfl ⟨_, _, rfl, ⟨(HO.out.alloc _).argB, HRM.out⟩, ⟨ArgB.nil _ _, room_nil⟩, (HB2.out.alloc (by simp; omega) _).drew⟩

theorem add_any (at1 d : Nat) (w : World) (m : List Nat) (hat : at1 < m.length) (hx64 : ∀ x ∈ m, x < 18446744073709551616) (hd : d < 18446744073709551616) : Calls Tryz.prog 150 #[.int .u64 (at1 : Int), .int .u64 (d : Int)] w (OpP m (mdAdd m at1 d) w) := by
  have hmf : ∀ (fn : Fn) (first cap : Array Value) (w : World), (Instr.makeFunc fn first cap).run Tryz.prog w = .ok (.func fn first cap) w := fun _ _ _ _ => rfl
  obtain ⟨c1, c2⟩ := two_boxesU w (.int .u64 (at1 : Int)) (.int .u64 (d : Int)) 55 55
  have hsz : ((w.alloc (.cells #[.int .u64 (at1 : Int)] 55)).alloc (.cells #[.int .u64 (d : Int)] 55)).heap.size = w.heap.size + 1 + 1 := by rw [World.size_alloc, World.size_alloc]
  have HC1 := Lib.hid c1
  have HC2 := Lib.hid c2
  have HSZ := Lib.hid hsz
  clear c1 c2 hsz
  go_enter Tryz.func150, Tryz.ntmps150
  go_wp2_with fail
  go_ret
  refine ⟨_, [.pointer (some ⟨w.heap.size, 0, none⟩), .pointer (some ⟨w.heap.size + 1, 0, none⟩)], rfl, ⟨fun args w => by kernel_rfl, fun W B v hb hB ho hg => ?_⟩, ((Below.refl _ _).alloc (Nat.le_refl _) _).alloc (by simp) _⟩
  exact add1_any _ _ at1 d m v B W ho hB ((hb.cell (p := ⟨w.heap.size, 0, none⟩) (by show w.heap.size < _; rw [HSZ.out]; omega)).trans HC1.out) ((hb.cell (p := ⟨w.heap.size + 1, 0, none⟩) (by show w.heap.size + 1 < _; rw [HSZ.out]; omega)).trans HC2.out) (fun e => by have := hg _ e; omega) (fun e => by have := hg _ e; omega) hat hx64 hd

theorem argW_take {w : World} {b o cap n : Nat} {m : List Nat} (hc : ∀ (i y : Nat), m[i]? = some y → w.cell? ⟨b, o + i, none⟩ = some (wU y)) (hn : n ≤ m.length) : ArgW w (.slice (some ⟨b, o, none⟩) n cap) (m.take n) := by
  have e : (m.take n).length = n := by rw [List.length_take]; omega
  refine ⟨_, b, o, cap, by rw [e], fun _ => rfl, (fun h => by cases h), fun i y hy => ?_⟩
  rw [List.getElem?_take] at hy
  split at hy
  · exact hc i y hy
  · cases hy
set_option maxHeartbeats 4000000 in
theorem list1_any (g n : Nat) (m : List Nat) (v : Value) (B : Nat) (w : World) (h : OwnW w B v m) (hB : B ≤ w.heap.size) (hg : w.cell? ⟨g, 0, none⟩ = some (.int .i64 (n : Int))) (hn1 : 1 ≤ n) (hn : n ≤ m.length) (hl : m.length ≤ 4294967296) :
    Calls Tryz.prog 175 #[v, .pointer (some ⟨g, 0, none⟩)] w (ChP B w (mdList m n)) := by
  have hcap := h.room
  obtain ⟨g1, cap, rfl, hg1, hlt1, hc, hf⟩ := h.opened (by omega)
  have hcap1 := hcap _ _ _ rfl
  have hla : (m.take n).length ≤ 4294967296 := by rw [List.length_take]; omega
  have HLN : Hid ((m.take n).length = n) := Lib.hid (by rw [List.length_take]; omega)
  have HCL : Hid (∀ W : World, ArgW W (.slice (some ⟨g1, 0, none⟩) n cap) (m.take n) → Calls Tryz.prog 92 #[.slice (some ⟨g1, 0, none⟩) n cap] W (GivesW (m.take n) W)) := Lib.hid (fun W h => clone_own _ _ W h hla)
  have HAT : Hid (ArgW (w.alloc ansO) (.slice (some ⟨g1, 0, none⟩) n cap) (m.take n)) := Lib.hid ((argW_take (o := 0) (fun i y hy => by rw [Nat.zero_add]; exact hc i y hy) hn).alloc _)
  have HO := Lib.hid (h.alloc ansO)
  have HBK : Hid ((w.alloc ansO).heap[w.heap.size]? = some ansO) := Lib.hid (heap_alloc_new _ _)
  have HBB : Hid (Below B w (w.alloc ansO)) := Lib.hid ((Below.refl B w).alloc hB _)
  have hlt := World.block_lt_of_cell? w _ hg
  simp only at hlt
  unfold mdList
  unfold ansO at *
  clear h hc hf hcap
  go_enter Tryz.func175, Tryz.ntmps175
  go_wp2_with (go_at_call 92; refine (HCL.out _ HAT.out).mono ?_; rintro e w1 ⟨v1, rfl, ho1, hb1⟩; (have HB1 := Lib.hid (HBB.out.trans (hb1.mono (by simp; omega)))); (have hbk := (hb1.block _ (blk_lt HBK.out)).trans HBK.out); (have k0 := Tb.cell_of_blkT (k := 0) hbk rfl); (have k1 := Tb.cell_of_blkT (k := 1) hbk rfl); (have k2 := Tb.cell_of_blkT (k := 2) hbk rfl); (have z0 := Tb.free_of_blkT (k := 0) hbk); (have z1 := Tb.free_of_blkT (k := 1) hbk); (have z2 := Tb.free_of_blkT (k := 2) hbk); (have HA1 : Hid (ArgB w1 (w.heap.size + 1) v1 (m.take n) ∧ Room v1) := Lib.hid ⟨ho1.argB.mono (by simp), ho1.room⟩); (have HO1 := Lib.hid (HO.out.below hb1)); (have hlt1 := blk_lt hbk); (obtain ⟨ao1, cap1, e1⟩ := ho1.arg.isSlice); (rw [HLN.out] at e1); (subst e1); clear ho1 hb1 hbk)
  refine bodyPost_ret (v := .tuple #[.slice (some ⟨g1, 0, none⟩) m.length cap, .agg #[.int .i64 0, .int .u64 0, .slice ao1 n cap1]]) (by simp [results, Tryz.results175, go_sem, k0, k1, k2]) rfl ⟨_, _, rfl, ⟨(HO1.out.put3 (fun e => by simp [Value.ownBlock] at e; omega) _ _ _).argB, HO1.out.room⟩, ?_, put3_below HB1.out hB _ _ _⟩
  have := put3R HA1.out (b := w.heap.size) (by omega) (.int .i64 0) (.int .u64 0) (.slice ao1 n cap1)
  exact ⟨this.1.mono (by omega), this.2⟩

theorem list_any (n : Nat) (w : World) (m : List Nat) (hn1 : 1 ≤ n) (hn : n ≤ m.length) (hl : m.length ≤ 4294967296) : Calls Tryz.prog 154 #[.int .i64 (n : Int)] w (OpP m (mdList m n) w) := by
  have hmf : ∀ (fn : Fn) (first cap : Array Value) (w : World), (Instr.makeFunc fn first cap).run Tryz.prog w = .ok (.func fn first cap) w := fun _ _ _ _ => rfl
  go_enter Tryz.func154, Tryz.ntmps154
  go_wp2_with fail
  go_ret
  refine ⟨_, [.pointer (some ⟨w.heap.size, 0, none⟩)], rfl, ⟨fun args w => by kernel_rfl, fun W B v hb hB ho hg => ?_⟩, (Below.refl _ _).alloc (Nat.le_refl _) _⟩
  exact list1_any _ n m v B W ho hB ((hb.cell (p := ⟨w.heap.size, 0, none⟩) (by simp)).trans (cell_new0 _ _ _ rfl)) hn1 hn hl

set_option maxHeartbeats 4000000 in
theorem upd1_any (gA gT gM gV gI values thread most at1 x' s : Nat) (m : List Nat) (v : Value) (B : Nat) (w : World) (h : OwnW w B v m) (hB : B ≤ w.heap.size)
    (hgA : w.cell? ⟨gA, 0, none⟩ = some (.int .i64 (values : Int))) (hgT : w.cell? ⟨gT, 0, none⟩ = some (.int .i64 (thread : Int))) (hgM : w.cell? ⟨gM, 0, none⟩ = some (.int .i64 (most : Int))) (hgV : w.cell? ⟨gV, 0, none⟩ = some (.int .u64 (x' : Int))) (hgI : w.cell? ⟨gI, 0, none⟩ = some (.int .i64 (at1 : Int)))
    (hne : ∀ g, g = gA ∨ g = gT ∨ g = gM ∨ g = gV ∨ g = gI → v.ownBlock ≠ some g) (hs : values + thread = s) (hsl : s < m.length) (hav : at1 < values) (hm : most ≤ 1000000) (hl : m.length ≤ 4294967296) (hx64 : ∀ x ∈ m, x < 18446744073709551616) :
    Calls Tryz.prog 176 #[v, .pointer (some ⟨gA, 0, none⟩), .pointer (some ⟨gT, 0, none⟩), .pointer (some ⟨gM, 0, none⟩), .pointer (some ⟨gV, 0, none⟩), .pointer (some ⟨gI, 0, none⟩)] w (ChP B w (mdUpd m values most thread at1 x')) := by
  obtain ⟨g1, cap, rfl, hg1, hlt1, hc, hf⟩ := h.opened (by omega)
  obtain ⟨x, hx⟩ : ∃ x, m[s]? = some x := ⟨m[s], List.getElem?_eq_getElem hsl⟩
  have d1 := hc s x hx
  have f1 := hf s
  have f2 := hf at1
  have hat : at1 < m.length := by omega
  obtain ⟨y, hy⟩ : ∃ y, m[at1]? = some y := ⟨m[at1], List.getElem?_eq_getElem hat⟩
  have d2 := hc at1 y hy
  have has1 : at1 ≠ s := by omega
  have has2 : s ≠ at1 := by omega
  clear hy
  have hxb := hx64 x (List.mem_of_getElem? hx)
  have hadd : (values : Int) + (thread : Int) = (s : Int) := by omega
  have HO := Lib.hid h
  have HR := Lib.hid h.room
  have lA := World.block_lt_of_cell? w _ hgA
  have lT := World.block_lt_of_cell? w _ hgT
  have lM := World.block_lt_of_cell? w _ hgM
  have lV := World.block_lt_of_cell? w _ hgV
  have lI := World.block_lt_of_cell? w _ hgI
  simp only at lA lT lM lV lI
  have nA : g1 ≠ gA := fun e => hne gA (by simp) (by rw [← e]; rfl)
  have nT : g1 ≠ gT := fun e => hne gT (by simp) (by rw [← e]; rfl)
  have nM : g1 ≠ gM := fun e => hne gM (by simp) (by rw [← e]; rfl)
  have nV : g1 ≠ gV := fun e => hne gV (by simp) (by rw [← e]; rfl)
  have nI : g1 ≠ gI := fun e => hne gI (by simp) (by rw [← e]; rfl)
  have nW : g1 ≠ w.heap.size := by omega
  have nW2 : w.heap.size ≠ g1 := by omega
  by_cases hful : most ≤ x
  · have hq : mdUpd m values most thread at1 x' = ⟨m, 6, 0, []⟩ := by unfold mdUpd; rw [hs, getD_of hx, if_pos hful]
    rw [hq]
    have dd : decide ((most : Int) ≤ (x : Int)) = true := decide_eq_true (by omega)
    have dd2 : decide ((x : Int) < (most : Int)) = false := decide_eq_false (by omega)
    have dd3 : (most : Int) ≤ (x : Int) := by omega
    have dd4 : most ≤ x := hful
    clear h hc hf hx hne hs hx64 hq
    go_enter Tryz.func176, Tryz.ntmps176
    go_wp2_with fail
    go_region
    go_wp2
    refine bodyPost_ret (v := .tuple #[.slice (some ⟨g1, 0, none⟩) m.length cap, .agg #[.int .i64 6, .int .u64 0, .slice none 0 0]]) (by simp [results, Tryz.results176, go_sem]) rfl ⟨_, _, rfl, ⟨(HO.out.alloc _).argB, HR.out⟩, ⟨ArgB.nil _ _, room_nil⟩, ?_⟩
    exact ((Below.refl B w).alloc hB _).drew
  · have hq : mdUpd m values most thread at1 x' = ⟨(m.set s (x + 1)).set at1 x', 0, 0, []⟩ := by unfold mdUpd; rw [hs, getD_of hx, if_neg hful]
    rw [hq]
    have dd : decide ((most : Int) ≤ (x : Int)) = false := decide_eq_false (by omega)
    have dd2 : decide ((x : Int) < (most : Int)) = true := decide_eq_true (by omega)
    have dd3 : ¬ (most : Int) ≤ (x : Int) := by omega
    have dd4 : ¬ most ≤ x := hful
    have HO2 := Lib.hid ((h.stored s (x + 1)).stored at1 x')
    clear h hc hf hx hne hs hx64 hq
    go_enter Tryz.func176, Tryz.ntmps176
    go_wp2_with fail
    go_region
    go_wp2
    refine bodyPost_ret (v := .tuple #[.slice (some ⟨g1, 0, none⟩) m.length cap, .agg #[.int .i64 0, .int .u64 0, .slice none 0 0]]) (by simp [results, Tryz.results176, go_sem]) rfl ⟨_, _, rfl, ⟨(HO2.out.alloc _).argB, HR.out⟩, ⟨ArgB.nil _ _, room_nil⟩, ?_⟩
    exact ((((Below.refl B w).setCell (p := ⟨g1, s, none⟩) hg1 _).setCell (p := ⟨g1, at1, none⟩) hg1 _).alloc (by simp; omega) _).drew
end
section
open Go.ChangeShapes Go.WideShapes Go.ChangeAt Go.RowKit
set_option linter.unusedVariables false
set_option linter.unusedSimpArgs false
set_option maxRecDepth 100000

/-- the boxes of Apply's parameters, and the answer's -/
structure ApBox (w W : World) (k p q t ob kd a b c : Int) (oA : Obj) : Prop where
  s0 : W.cell? ⟨w.heap.size, 0, none⟩ = some (.int .i64 k)
  s1 : W.cell? ⟨w.heap.size, 1, none⟩ = some (.int .i64 p)
  s2 : W.cell? ⟨w.heap.size, 2, none⟩ = some (.int .i64 q)
  c0 : W.cell? ⟨w.heap.size + 1, 0, none⟩ = some (.int .i64 t)
  c1 : W.cell? ⟨w.heap.size + 1, 1, none⟩ = some (.int .i64 ob)
  c2 : W.cell? ⟨w.heap.size + 1, 2, none⟩ = some (.int .i64 kd)
  c3 : W.cell? ⟨w.heap.size + 1, 3, none⟩ = some (.int .u64 a)
  c4 : W.cell? ⟨w.heap.size + 1, 4, none⟩ = some (.int .u64 b)
  c5 : W.cell? ⟨w.heap.size + 1, 5, none⟩ = some (.int .u64 c)
  ans : W.heap[w.heap.size + 1 + 1]? = some oA
  bel : Below w.heap.size w W
theorem ApBox.lt {w W : World} {k p q t ob kd a b c : Int} {oA : Obj} (h : ApBox w W k p q t ob kd a b c oA) : w.heap.size + 1 + 1 < W.heap.size := blk_lt h.ans
abbrev apW (w : World) (k p q t ob kd a b c : Int) (oA : Obj) : World := ((w.alloc (Tb.specO k p q)).alloc (callO t ob kd a b c)).alloc oA
theorem apBox (w : World) (k p q t ob kd a b c : Int) (oA : Obj) : ApBox w (apW w k p q t ob kd a b c oA) k p q t ob kd a b c oA := by
  have h := opBox w k p q t ob kd a b c
  have hs : (opW w k p q t ob kd a b c).heap.size = w.heap.size + 1 + 1 := by rw [World.size_alloc, World.size_alloc]
  have hb : Below (opW w k p q t ob kd a b c).heap.size (opW w k p q t ob kd a b c) (apW w k p q t ob kd a b c oA) := (Below.refl _ _).alloc (Nat.le_refl _) _
  have h2 := h.next hb
  have ha := heap_alloc_new (opW w k p q t ob kd a b c) oA
  rw [hs] at ha
  exact ⟨h2.s0, h2.s1, h2.s2, h2.c0, h2.c1, h2.c2, h2.c3, h2.c4, h2.c5, ha, h2.bel⟩
theorem ApBox.next {w W W' : World} {k p q t ob kd a b c : Int} {oA : Obj} (h : ApBox w W k p q t ob kd a b c oA) (hb : Below W.heap.size W W') : ApBox w W' k p q t ob kd a b c oA := by
  have hlt := h.lt
  have e : ∀ (j : Nat) (v : Value), W.cell? ⟨w.heap.size, j, none⟩ = some v → W'.cell? ⟨w.heap.size, j, none⟩ = some v := fun j v hv => (hb.cell (p := ⟨w.heap.size, j, none⟩) (by show w.heap.size < _; omega)).trans hv
  have e1 : ∀ (j : Nat) (v : Value), W.cell? ⟨w.heap.size + 1, j, none⟩ = some v → W'.cell? ⟨w.heap.size + 1, j, none⟩ = some v := fun j v hv => (hb.cell (p := ⟨w.heap.size + 1, j, none⟩) (by show w.heap.size + 1 < _; omega)).trans hv
  exact ⟨e _ _ h.s0, e _ _ h.s1, e _ _ h.s2, e1 _ _ h.c0, e1 _ _ h.c1, e1 _ _ h.c2, e1 _ _ h.c3, e1 _ _ h.c4, e1 _ _ h.c5, (hb.block _ hlt).trans h.ans, h.bel.trans (hb.mono (by omega))⟩


set_option maxHeartbeats 2000000 in
theorem apply_ok (n k p q t ob kd a b c : Int) (m : List Nat) (r : MdR) (v : Value) (w : World) (hA : ArgW w v m) (hR : Room v) (hl : m.length ≤ 4294967296) (hr : mdRight n k p q m = true) (ht : 0 ≤ t ∧ t < n)
    (hS : ∀ W, Calls Tryz.prog 95 #[.int .i64 n, Tb.specV k p q, callV t ob kd a b c] W (OpP m r W)) :
    Calls Tryz.prog 56 #[.int .i64 n, Tb.specV k p q, v, callV t ob kd a b c] w (ChP w.heap.size w r) := by
  have HB0 := Lib.hid (apBox w k p q t ob kd a b c (ansC 0 0 (.slice none 0 0)))
  have HA0 : Hid (ArgW (apW w k p q t ob kd a b c (ansC 0 0 (.slice none 0 0))) v m) := Lib.hid (((hA.alloc _).alloc _).alloc _)
  unfold apW at HB0 HA0
  have HCL : Hid (∀ W, ArgW W v m → Calls Tryz.prog 92 #[v] W (GivesW m W)) := Lib.hid (fun W h => clone_own v m W h hl)
  have HRT : Hid (∀ W, ArgW W v m → Calls Tryz.prog 94 #[.int .i64 n, Tb.specV k p q, v] W fun e w' => e = .returned (.bool true) ∧ Below W.heap.size W w') := Lib.hid (fun W h => by have := mright_any n k p q v m W h hR (by omega); rw [hr] at this; exact this)
  have HS := Lib.hid hS
  obtain ⟨ao, cap, rfl⟩ := hA.isSlice
  have d1 : decide (t < 0) = false := decide_eq_false (by omega)
  have d2 : decide (n ≤ t) = false := decide_eq_false (by omega)
  clear hS hA hR hr ht
  generalize hW : (((w.alloc (Tb.specO k p q)).alloc (callO t ob kd a b c)).alloc (ansC 0 0 (.slice none 0 0))) = W at *
  unfold Tb.specV Tb.specO at *
  go_enter Tryz.func56, Tryz.ntmps56
  go_wp2_with (first
    | (go_at_call 92; refine (HCL.out _ HA0.out).mono ?_; rintro e w1 ⟨v1, rfl, ho1, hb1⟩; (have HO1 := Lib.hid ho1); (have HB1 := Lib.hid (HB0.out.next hb1)); (have HA1 := Lib.hid (HA0.out.below hb1)); (have HLT := Lib.hid HB0.out.lt); (have HZ1 := Lib.hid hb1.size); (have HC1 := Lib.hid hb1); (obtain ⟨s0, s1, s2, c0, c1, c2, c3, c4, c5, _, _⟩ := HB1.out); clear ho1 hb1)
    | (go_at_call 94; refine (HRT.out _ HA1.out).mono ?_; rintro e w2 ⟨rfl, hb2⟩; (have HO2 := Lib.hid (HO1.out.below hb2)); (have HB2 := Lib.hid (HB1.out.next hb2)); (have HZ2 := Lib.hid (Nat.le_trans HZ1.out hb2.size)); clear s0 s1 s2 c0 c1 c2 c3 c4 c5; (obtain ⟨s0, s1, s2, c0, c1, c2, c3, c4, c5, _, _⟩ := HB2.out); clear hb2)
    | (go_at_call 95; refine (HS.out _).mono ?_; rintro e w3 ⟨fid, ex, rfl, hk3, hb3⟩; (have HB3 := Lib.hid (HB2.out.next hb3)); (have hen := hk3.1); (have HK3 : Hid (Calls Tryz.prog fid (v1 :: ex).toArray w3 (ChP W.heap.size w3 r)) := Lib.hid (hk3.2 w3 W.heap.size v1 (Below.refl _ _) (Nat.le_trans HZ2.out hb3.size) (HO2.out.below hb3) (fun g hg => (World.ownsRow.lt HO2.out g hg).2))); clear hk3 hb3)
    | (refine HK3.out.mono ?_; rintro e w4 ⟨v4, lv, rfl, ha4, hl4, hb4⟩; (have hbk : w4.heap[w.heap.size + 1 + 1]? = some (.cells #[.int .i64 0, .int .u64 0, .slice none 0 0] 57) := (hb4.block _ HLT.out).trans HB3.out.ans); (have k0 := Tb.cell_of_blkT (k := 0) hbk rfl); (have k1 := Tb.cell_of_blkT (k := 1) hbk rfl); (have k2 := Tb.cell_of_blkT (k := 2) hbk rfl); (have z0 := Tb.free_of_blkT (k := 0) hbk); (have z1 := Tb.free_of_blkT (k := 1) hbk); (have z2 := Tb.free_of_blkT (k := 2) hbk); (have HA4 := Lib.hid ha4); (have HL4 := Lib.hid hl4); (obtain ⟨aol, capl, rfl⟩ := hl4.1.arg.isSlice); (have HB4 : Hid (Below w.heap.size w w4) := Lib.hid (HB3.out.bel.trans (hb4.mono (by have := HLT.out; omega)))); clear ha4 hl4 hb4 hbk))
  refine bodyPost_ret (v := .tuple #[v4, .agg #[.int .i64 (r.err : Int), .int .u64 (r.val : Int), .slice aol r.ls.length capl]]) (by simp [results, Tryz.results56, go_sem, k0, k1, k2]) rfl ⟨_, _, rfl, ?_, ?_, put3_below HB4.out (by omega) _ _ _⟩
  · have := put3R HA4.out HLT.out (.int .i64 (r.err : Int)) (.int .u64 (r.val : Int)) (.slice aol r.ls.length capl)
    exact ⟨this.1.mono (by have := HLT.out; omega), this.2⟩
  · have := put3R HL4.out HLT.out (.int .i64 (r.err : Int)) (.int .u64 (r.val : Int)) (.slice aol r.ls.length capl)
    exact ⟨this.1.mono (by have := HLT.out; omega), this.2⟩

/-- what Legal gives -/
def LgP (W : World) (st : List Nat) (ok : Bool) (e : Ending) (w' : World) : Prop :=
  ∃ v', e = .returned (.tuple #[v', .bool ok]) ∧ (ArgB w' W.heap.size v' st ∧ Room v') ∧ Below W.heap.size W w'
/-- is the answer legal though it is not the one that is to be -/
def lgFull (ea : Int) (va : Nat) (la : List Nat) (r : MdR) (lk : Bool) : Bool := ansEq ea va la 6 0 [] && (decide (r.err = 0) && lk)
set_option maxHeartbeats 2000000 in
theorem legal_yes (n k p q t ob kd a b c : Int) (m : List Nat) (r : MdR) (v : Value) (ea : Int) (va : Nat) (lv : Value) (la : List Nat) (w : World) (hA : ArgW w v m) (hL : ArgW w lv la) (hl : m.length ≤ 4294967296) (hla : la.length ≤ 4611686018427387904) (hrl : r.ls.length ≤ 4611686018427387904)
    (hS : ∀ W, ArgW W v m → Calls Tryz.prog 56 #[.int .i64 n, Tb.specV k p q, v, callV t ob kd a b c] W (ChP W.heap.size W r)) (hq1 : ansEq ea va la (r.err : Int) r.val r.ls = true) :
    Calls Tryz.prog 55 #[.int .i64 n, Tb.specV k p q, v, callV t ob kd a b c, ansV ea va lv] w (LgP w r.st true) := by
  obtain ⟨aol, capl, rfl⟩ := hL.isSlice
  have HB0 := Lib.hid (apBox w k p q t ob kd a b c (ansC ea va (.slice aol la.length capl)))
  have HA0 : Hid (ArgW (apW w k p q t ob kd a b c (ansC ea va (.slice aol la.length capl))) v m) := Lib.hid (((hA.alloc _).alloc _).alloc _)
  have HL0 : Hid (ArgW (apW w k p q t ob kd a b c (ansC ea va (.slice aol la.length capl))) (.slice aol la.length capl) la) := Lib.hid (((hL.alloc _).alloc _).alloc _)
  unfold apW at HB0 HA0 HL0
  have HCL : Hid (∀ W, ArgW W v m → Calls Tryz.prog 92 #[v] W (GivesW m W)) := Lib.hid (fun W h => clone_own v m W h hl)
  have HS := Lib.hid hS
  have HI : Hid (∀ (W : World) (v2 : Value), ArgW W (.slice aol la.length capl) la → ArgW W v2 r.ls → Calls Tryz.prog 91 #[ansV ea va (.slice aol la.length capl), ansV (r.err : Int) (r.val : Int) v2] W fun e w' => e = .returned (.bool true) ∧ Below W.heap.size W w') := Lib.hid (fun W v2 h1 h2 => by
    have := isSame_any ea (r.err : Int) va r.val _ v2 la r.ls W hla hrl h1 h2
    rw [hq1] at this; exact this)
  obtain ⟨ao, cap, rfl⟩ := hA.isSlice
  clear hS hA hL hq1
  generalize hW : (((w.alloc (Tb.specO k p q)).alloc (callO t ob kd a b c)).alloc (ansC ea va (.slice aol la.length capl))) = W at *
  unfold Tb.specV Tb.specO at *
  obtain ⟨s0, s1, s2, c0, c1, c2, c3, c4, c5, hba, _⟩ := HB0.out
  have g0 := Tb.cell_of_blkT (k := 0) hba rfl
  have g1 := Tb.cell_of_blkT (k := 1) hba rfl
  have g2 := Tb.cell_of_blkT (k := 2) hba rfl
  clear hba
  go_enter Tryz.func55, Tryz.ntmps55
  go_wp2_with (first
    | (go_at_call 56; refine (HS.out _ HA0.out).mono ?_; rintro e w1 ⟨v1, lv1, rfl, ha1, hl1, hb1⟩; (obtain ⟨aor, capr, rfl⟩ := hl1.1.arg.isSlice); (have HA1 := Lib.hid ha1); (have HLT := Lib.hid HB0.out.lt); (have hb1' : Below W.heap.size W (w1.alloc (ansC (r.err : Int) (r.val : Int) (.slice aor r.ls.length capr))) := hb1.alloc hb1.size _); (have HB1 := Lib.hid (HB0.out.next hb1')); (have hbs : (w1.alloc (ansC (r.err : Int) (r.val : Int) (.slice aor r.ls.length capr))).heap[w1.heap.size]? = some (ansC (r.err : Int) (r.val : Int) (.slice aor r.ls.length capr)) := heap_alloc_new _ _); (have HBS := Lib.hid hbs); (have HL1 : Hid (ArgW (w1.alloc (ansC (r.err : Int) (r.val : Int) (.slice aor r.ls.length capr))) (.slice aor r.ls.length capr) r.ls) := Lib.hid (hl1.1.arg.alloc _)); (have HLA1 := Lib.hid (HL0.out.below hb1')); (have HAA1 := Lib.hid (HA0.out.below hb1')); (have HST : Hid (ArgB (w1.alloc (ansC (r.err : Int) (r.val : Int) (.slice aor r.ls.length capr))) W.heap.size v1 r.st ∧ Room v1) := Lib.hid ⟨ha1.1.below ((Below.refl _ _).alloc (Nat.le_refl _) _), ha1.2⟩); (have HW1 := Lib.hid hb1'); clear s0 s1 s2 c0 c1 c2 c3 c4 c5 g0 g1 g2; (obtain ⟨s0, s1, s2, c0, c1, c2, c3, c4, c5, hba, _⟩ := HB1.out); (have g0 := Tb.cell_of_blkT (k := 0) hba rfl); (have g1 := Tb.cell_of_blkT (k := 1) hba rfl); (have g2 := Tb.cell_of_blkT (k := 2) hba rfl); clear ha1 hl1 hb1 hb1' hbs hba)
    | (go_at_call 91; (with_reducible refine (HI.out _ _ HLA1.out HL1.out).mono ?_); rintro e w2 ⟨rfl, hb2⟩; (have HB2 := Lib.hid (HB1.out.next hb2)); (have HW2 := Lib.hid (HW1.out.trans (hb2.mono HW1.out.size))); (have HAA2 := Lib.hid (HAA1.out.below hb2)); (have HLA2 := Lib.hid (HLA1.out.below hb2)); (have HST2 : Hid (ArgB w2 W.heap.size v1 r.st ∧ Room v1) := Lib.hid ⟨HST.out.1.below hb2, HST.out.2⟩); (have HBS2 := Lib.hid ((hb2.block _ (blk_lt HBS.out)).trans HBS.out)); clear s0 s1 s2 c0 c1 c2 c3 c4 c5 g0 g1 g2; (obtain ⟨s0, s1, s2, c0, c1, c2, c3, c4, c5, hba, _⟩ := HB2.out); (have g0 := Tb.cell_of_blkT (k := 0) hba rfl); (have g1 := Tb.cell_of_blkT (k := 1) hba rfl); (have g2 := Tb.cell_of_blkT (k := 2) hba rfl); clear hb2 hba)
    | fail)
  go_ret2
  exact ⟨_, rfl, ⟨HST2.out.1.mono HB0.out.bel.size, HST2.out.2⟩, HB0.out.bel.trans (HW2.out.mono HB0.out.bel.size)⟩

set_option maxHeartbeats 2000000 in
theorem legal_no (n k p q t ob kd a b c : Int) (m : List Nat) (r : MdR) (v : Value) (ea : Int) (va : Nat) (lv : Value) (la : List Nat) (w : World) (hA : ArgW w v m) (hL : ArgW w lv la) (hl : m.length ≤ 4294967296) (hla : la.length ≤ 4611686018427387904) (hrl : r.ls.length ≤ 4611686018427387904)
    (hS : ∀ W, ArgW W v m → Calls Tryz.prog 56 #[.int .i64 n, Tb.specV k p q, v, callV t ob kd a b c] W (ChP W.heap.size W r)) (lk : Bool) (hK : ∀ W, ArgW W v m → Calls Tryz.prog 93 #[.int .i64 n, Tb.specV k p q, v, callV t ob kd a b c] W fun e w' => e = .returned (.bool lk) ∧ Below W.heap.size W w') (hq1 : ansEq ea va la (r.err : Int) r.val r.ls = false) :
    Calls Tryz.prog 55 #[.int .i64 n, Tb.specV k p q, v, callV t ob kd a b c, ansV ea va lv] w (LgP w m (lgFull ea va la r lk)) := by
  obtain ⟨aol, capl, rfl⟩ := hL.isSlice
  have HB0 := Lib.hid (apBox w k p q t ob kd a b c (ansC ea va (.slice aol la.length capl)))
  have HA0 : Hid (ArgW (apW w k p q t ob kd a b c (ansC ea va (.slice aol la.length capl))) v m) := Lib.hid (((hA.alloc _).alloc _).alloc _)
  have HL0 : Hid (ArgW (apW w k p q t ob kd a b c (ansC ea va (.slice aol la.length capl))) (.slice aol la.length capl) la) := Lib.hid (((hL.alloc _).alloc _).alloc _)
  unfold apW at HB0 HA0 HL0
  have HCL : Hid (∀ W, ArgW W v m → Calls Tryz.prog 92 #[v] W (GivesW m W)) := Lib.hid (fun W h => clone_own v m W h hl)
  have HS := Lib.hid hS
  have HI : Hid (∀ (W : World) (v2 : Value), ArgW W (.slice aol la.length capl) la → ArgW W v2 r.ls → Calls Tryz.prog 91 #[ansV ea va (.slice aol la.length capl), ansV (r.err : Int) (r.val : Int) v2] W fun e w' => e = .returned (.bool false) ∧ Below W.heap.size W w') := Lib.hid (fun W v2 h1 h2 => by
    have := isSame_any ea (r.err : Int) va r.val _ v2 la r.ls W hla hrl h1 h2
    rw [hq1] at this; exact this)
  have HI2 : Hid (∀ (W : World), ArgW W (.slice aol la.length capl) la → Calls Tryz.prog 91 #[ansV ea va (.slice aol la.length capl), ansV 6 0 (.slice none 0 0)] W fun e w' => e = .returned (.bool (ansEq ea va la 6 0 [])) ∧ Below W.heap.size W w') := Lib.hid (fun W h1 => isSame_any ea 6 va 0 _ _ la [] W hla (by simp) h1 (ArgW.nil W))
  have HLK := Lib.hid hK
  unfold lgFull
  clear hK
  obtain ⟨ao, cap, rfl⟩ := hA.isSlice
  clear hS hA hL hq1
  generalize hW : (((w.alloc (Tb.specO k p q)).alloc (callO t ob kd a b c)).alloc (ansC ea va (.slice aol la.length capl))) = W at *
  unfold Tb.specV Tb.specO at *
  obtain ⟨s0, s1, s2, c0, c1, c2, c3, c4, c5, hba, _⟩ := HB0.out
  have g0 := Tb.cell_of_blkT (k := 0) hba rfl
  have g1 := Tb.cell_of_blkT (k := 1) hba rfl
  have g2 := Tb.cell_of_blkT (k := 2) hba rfl
  clear hba
  generalize ansEq ea va la 6 0 [] = d6 at *
  cases d6 with
  | false =>
    go_enter Tryz.func55, Tryz.ntmps55
    go_wp2_with (first
      | (go_at_call 56; refine (HS.out _ HA0.out).mono ?_; rintro e w1 ⟨v1, lv1, rfl, ha1, hl1, hb1⟩; (obtain ⟨aor, capr, rfl⟩ := hl1.1.arg.isSlice); (have HA1 := Lib.hid ha1); (have HLT := Lib.hid HB0.out.lt); (have hb1' : Below W.heap.size W (w1.alloc (ansC (r.err : Int) (r.val : Int) (.slice aor r.ls.length capr))) := hb1.alloc hb1.size _); (have HB1 := Lib.hid (HB0.out.next hb1')); (have hbs : (w1.alloc (ansC (r.err : Int) (r.val : Int) (.slice aor r.ls.length capr))).heap[w1.heap.size]? = some (ansC (r.err : Int) (r.val : Int) (.slice aor r.ls.length capr)) := heap_alloc_new _ _); (have HBS := Lib.hid hbs); (have HL1 : Hid (ArgW (w1.alloc (ansC (r.err : Int) (r.val : Int) (.slice aor r.ls.length capr))) (.slice aor r.ls.length capr) r.ls) := Lib.hid (hl1.1.arg.alloc _)); (have HLA1 := Lib.hid (HL0.out.below hb1')); (have HAA1 := Lib.hid (HA0.out.below hb1')); (have HST : Hid (ArgB (w1.alloc (ansC (r.err : Int) (r.val : Int) (.slice aor r.ls.length capr))) W.heap.size v1 r.st ∧ Room v1) := Lib.hid ⟨ha1.1.below ((Below.refl _ _).alloc (Nat.le_refl _) _), ha1.2⟩); (have HW1 := Lib.hid hb1'); clear s0 s1 s2 c0 c1 c2 c3 c4 c5 g0 g1 g2; (obtain ⟨s0, s1, s2, c0, c1, c2, c3, c4, c5, hba, _⟩ := HB1.out); (have g0 := Tb.cell_of_blkT (k := 0) hba rfl); (have g1 := Tb.cell_of_blkT (k := 1) hba rfl); (have g2 := Tb.cell_of_blkT (k := 2) hba rfl); clear ha1 hl1 hb1 hb1' hbs hba)
      | (go_at_call 91; (with_reducible refine (HI.out _ _ HLA1.out HL1.out).mono ?_); rintro e w2 ⟨rfl, hb2⟩; (have HB2 := Lib.hid (HB1.out.next hb2)); (have HW2 := Lib.hid (HW1.out.trans (hb2.mono HW1.out.size))); (have HAA2 := Lib.hid (HAA1.out.below hb2)); (have HLA2 := Lib.hid (HLA1.out.below hb2)); (have HST2 : Hid (ArgB w2 W.heap.size v1 r.st ∧ Room v1) := Lib.hid ⟨HST.out.1.below hb2, HST.out.2⟩); (have HBS2 := Lib.hid ((hb2.block _ (blk_lt HBS.out)).trans HBS.out)); clear s0 s1 s2 c0 c1 c2 c3 c4 c5 g0 g1 g2; (obtain ⟨s0, s1, s2, c0, c1, c2, c3, c4, c5, hba, _⟩ := HB2.out); (have g0 := Tb.cell_of_blkT (k := 0) hba rfl); (have g1 := Tb.cell_of_blkT (k := 1) hba rfl); (have g2 := Tb.cell_of_blkT (k := 2) hba rfl); clear hb2 hba)
      | (go_at_call 91; (with_reducible refine (HI2.out _ HLA2.out).mono ?_); rintro e w3 ⟨rfl, hb3⟩; (have HB3 := Lib.hid (HB2.out.next hb3)); (have HW3 := Lib.hid (HW2.out.trans (hb3.mono HW2.out.size))); (have HAA3 := Lib.hid (HAA2.out.below hb3)); (have HBS3 := Lib.hid ((hb3.block _ (blk_lt HBS2.out)).trans HBS2.out)); clear s0 s1 s2 c0 c1 c2 c3 c4 c5 g0 g1 g2; (obtain ⟨s0, s1, s2, c0, c1, c2, c3, c4, c5, hba, _⟩ := HB3.out); (have f0 := Tb.cell_of_blkT (k := 0) HBS3.out rfl); clear hb3 hba)
      | (go_at_call 92; refine (HCL.out _ HAA3.out).mono ?_; rintro e w4 ⟨v4, rfl, ho4, hb4⟩; (have HB4 := Lib.hid (HB3.out.next hb4)); (have HO4 : Hid (ArgB w4 w.heap.size v4 m ∧ Room v4) := Lib.hid ⟨ho4.argB.mono (Nat.le_trans HB0.out.bel.size HW3.out.size), ho4.room⟩); (have HW4 := Lib.hid (HW3.out.trans (hb4.mono HW3.out.size))); (have HAA4 := Lib.hid (HAA3.out.below hb4)); (have f1 := Tb.cell_of_blkT (k := 0) ((hb4.block _ (blk_lt HBS3.out)).trans HBS3.out) rfl); clear f0 s0 s1 s2 c0 c1 c2 c3 c4 c5; (obtain ⟨s0, s1, s2, c0, c1, c2, c3, c4, c5, hba, _⟩ := HB4.out); clear hb4 ho4 hba)
      | (go_at_call 93; refine (HLK.out _ HAA4.out).mono ?_; rintro e w5 ⟨rfl, hb5⟩; (have HO5 : Hid (ArgB w5 w.heap.size v4 m ∧ Room v4) := Lib.hid ⟨HO4.out.1.below hb5, HO4.out.2⟩); (have HW5 := Lib.hid (HW4.out.trans (hb5.mono HW4.out.size))); clear hb5))
    go_ret2
    exact ⟨_, rfl, HO4.out, HB0.out.bel.trans (HW4.out.mono HB0.out.bel.size)⟩
  | true =>
    by_cases he : r.err = 0
    · rw [decide_eq_true he]
      have hi0 : ((r.err : Int) == 0) = true := by rw [he]; rfl
      have hi1 : decide ((r.err : Int) = 0) = true := decide_eq_true (by omega)
      clear he
      go_enter Tryz.func55, Tryz.ntmps55
      go_wp2_with (first
        | (go_at_call 56; refine (HS.out _ HA0.out).mono ?_; rintro e w1 ⟨v1, lv1, rfl, ha1, hl1, hb1⟩; (obtain ⟨aor, capr, rfl⟩ := hl1.1.arg.isSlice); (have HA1 := Lib.hid ha1); (have HLT := Lib.hid HB0.out.lt); (have hb1' : Below W.heap.size W (w1.alloc (ansC (r.err : Int) (r.val : Int) (.slice aor r.ls.length capr))) := hb1.alloc hb1.size _); (have HB1 := Lib.hid (HB0.out.next hb1')); (have hbs : (w1.alloc (ansC (r.err : Int) (r.val : Int) (.slice aor r.ls.length capr))).heap[w1.heap.size]? = some (ansC (r.err : Int) (r.val : Int) (.slice aor r.ls.length capr)) := heap_alloc_new _ _); (have HBS := Lib.hid hbs); (have HL1 : Hid (ArgW (w1.alloc (ansC (r.err : Int) (r.val : Int) (.slice aor r.ls.length capr))) (.slice aor r.ls.length capr) r.ls) := Lib.hid (hl1.1.arg.alloc _)); (have HLA1 := Lib.hid (HL0.out.below hb1')); (have HAA1 := Lib.hid (HA0.out.below hb1')); (have HST : Hid (ArgB (w1.alloc (ansC (r.err : Int) (r.val : Int) (.slice aor r.ls.length capr))) W.heap.size v1 r.st ∧ Room v1) := Lib.hid ⟨ha1.1.below ((Below.refl _ _).alloc (Nat.le_refl _) _), ha1.2⟩); (have HW1 := Lib.hid hb1'); clear s0 s1 s2 c0 c1 c2 c3 c4 c5 g0 g1 g2; (obtain ⟨s0, s1, s2, c0, c1, c2, c3, c4, c5, hba, _⟩ := HB1.out); (have g0 := Tb.cell_of_blkT (k := 0) hba rfl); (have g1 := Tb.cell_of_blkT (k := 1) hba rfl); (have g2 := Tb.cell_of_blkT (k := 2) hba rfl); clear ha1 hl1 hb1 hb1' hbs hba)
        | (go_at_call 91; (with_reducible refine (HI.out _ _ HLA1.out HL1.out).mono ?_); rintro e w2 ⟨rfl, hb2⟩; (have HB2 := Lib.hid (HB1.out.next hb2)); (have HW2 := Lib.hid (HW1.out.trans (hb2.mono HW1.out.size))); (have HAA2 := Lib.hid (HAA1.out.below hb2)); (have HLA2 := Lib.hid (HLA1.out.below hb2)); (have HST2 : Hid (ArgB w2 W.heap.size v1 r.st ∧ Room v1) := Lib.hid ⟨HST.out.1.below hb2, HST.out.2⟩); (have HBS2 := Lib.hid ((hb2.block _ (blk_lt HBS.out)).trans HBS.out)); clear s0 s1 s2 c0 c1 c2 c3 c4 c5 g0 g1 g2; (obtain ⟨s0, s1, s2, c0, c1, c2, c3, c4, c5, hba, _⟩ := HB2.out); (have g0 := Tb.cell_of_blkT (k := 0) hba rfl); (have g1 := Tb.cell_of_blkT (k := 1) hba rfl); (have g2 := Tb.cell_of_blkT (k := 2) hba rfl); clear hb2 hba)
        | (go_at_call 91; (with_reducible refine (HI2.out _ HLA2.out).mono ?_); rintro e w3 ⟨rfl, hb3⟩; (have HB3 := Lib.hid (HB2.out.next hb3)); (have HW3 := Lib.hid (HW2.out.trans (hb3.mono HW2.out.size))); (have HAA3 := Lib.hid (HAA2.out.below hb3)); (have HBS3 := Lib.hid ((hb3.block _ (blk_lt HBS2.out)).trans HBS2.out)); clear s0 s1 s2 c0 c1 c2 c3 c4 c5 g0 g1 g2; (obtain ⟨s0, s1, s2, c0, c1, c2, c3, c4, c5, hba, _⟩ := HB3.out); (have f0 := Tb.cell_of_blkT (k := 0) HBS3.out rfl); clear hb3 hba)
        | (go_at_call 92; refine (HCL.out _ HAA3.out).mono ?_; rintro e w4 ⟨v4, rfl, ho4, hb4⟩; (have HB4 := Lib.hid (HB3.out.next hb4)); (have HO4 : Hid (ArgB w4 w.heap.size v4 m ∧ Room v4) := Lib.hid ⟨ho4.argB.mono (Nat.le_trans HB0.out.bel.size HW3.out.size), ho4.room⟩); (have HW4 := Lib.hid (HW3.out.trans (hb4.mono HW3.out.size))); (have HAA4 := Lib.hid (HAA3.out.below hb4)); (have f1 := Tb.cell_of_blkT (k := 0) ((hb4.block _ (blk_lt HBS3.out)).trans HBS3.out) rfl); clear f0 s0 s1 s2 c0 c1 c2 c3 c4 c5; (obtain ⟨s0, s1, s2, c0, c1, c2, c3, c4, c5, hba, _⟩ := HB4.out); clear hb4 ho4 hba)
        | (go_at_call 93; refine (HLK.out _ HAA4.out).mono ?_; rintro e w5 ⟨rfl, hb5⟩; (have HO5 : Hid (ArgB w5 w.heap.size v4 m ∧ Room v4) := Lib.hid ⟨HO4.out.1.below hb5, HO4.out.2⟩); (have HW5 := Lib.hid (HW4.out.trans (hb5.mono HW4.out.size))); clear hb5))
      go_ret2
      exact ⟨_, by simp, HO5.out, HB0.out.bel.trans (HW5.out.mono HB0.out.bel.size)⟩
    · rw [decide_eq_false he]
      have hi0 : ((r.err : Int) == 0) = false := by rw [beq_eq_false_iff_ne]; omega
      have hi1 : decide ((r.err : Int) = 0) = false := decide_eq_false (by omega)
      clear he
      go_enter Tryz.func55, Tryz.ntmps55
      go_wp2_with (first
        | (go_at_call 56; refine (HS.out _ HA0.out).mono ?_; rintro e w1 ⟨v1, lv1, rfl, ha1, hl1, hb1⟩; (obtain ⟨aor, capr, rfl⟩ := hl1.1.arg.isSlice); (have HA1 := Lib.hid ha1); (have HLT := Lib.hid HB0.out.lt); (have hb1' : Below W.heap.size W (w1.alloc (ansC (r.err : Int) (r.val : Int) (.slice aor r.ls.length capr))) := hb1.alloc hb1.size _); (have HB1 := Lib.hid (HB0.out.next hb1')); (have hbs : (w1.alloc (ansC (r.err : Int) (r.val : Int) (.slice aor r.ls.length capr))).heap[w1.heap.size]? = some (ansC (r.err : Int) (r.val : Int) (.slice aor r.ls.length capr)) := heap_alloc_new _ _); (have HBS := Lib.hid hbs); (have HL1 : Hid (ArgW (w1.alloc (ansC (r.err : Int) (r.val : Int) (.slice aor r.ls.length capr))) (.slice aor r.ls.length capr) r.ls) := Lib.hid (hl1.1.arg.alloc _)); (have HLA1 := Lib.hid (HL0.out.below hb1')); (have HAA1 := Lib.hid (HA0.out.below hb1')); (have HST : Hid (ArgB (w1.alloc (ansC (r.err : Int) (r.val : Int) (.slice aor r.ls.length capr))) W.heap.size v1 r.st ∧ Room v1) := Lib.hid ⟨ha1.1.below ((Below.refl _ _).alloc (Nat.le_refl _) _), ha1.2⟩); (have HW1 := Lib.hid hb1'); clear s0 s1 s2 c0 c1 c2 c3 c4 c5 g0 g1 g2; (obtain ⟨s0, s1, s2, c0, c1, c2, c3, c4, c5, hba, _⟩ := HB1.out); (have g0 := Tb.cell_of_blkT (k := 0) hba rfl); (have g1 := Tb.cell_of_blkT (k := 1) hba rfl); (have g2 := Tb.cell_of_blkT (k := 2) hba rfl); clear ha1 hl1 hb1 hb1' hbs hba)
        | (go_at_call 91; (with_reducible refine (HI.out _ _ HLA1.out HL1.out).mono ?_); rintro e w2 ⟨rfl, hb2⟩; (have HB2 := Lib.hid (HB1.out.next hb2)); (have HW2 := Lib.hid (HW1.out.trans (hb2.mono HW1.out.size))); (have HAA2 := Lib.hid (HAA1.out.below hb2)); (have HLA2 := Lib.hid (HLA1.out.below hb2)); (have HST2 : Hid (ArgB w2 W.heap.size v1 r.st ∧ Room v1) := Lib.hid ⟨HST.out.1.below hb2, HST.out.2⟩); (have HBS2 := Lib.hid ((hb2.block _ (blk_lt HBS.out)).trans HBS.out)); clear s0 s1 s2 c0 c1 c2 c3 c4 c5 g0 g1 g2; (obtain ⟨s0, s1, s2, c0, c1, c2, c3, c4, c5, hba, _⟩ := HB2.out); (have g0 := Tb.cell_of_blkT (k := 0) hba rfl); (have g1 := Tb.cell_of_blkT (k := 1) hba rfl); (have g2 := Tb.cell_of_blkT (k := 2) hba rfl); clear hb2 hba)
        | (go_at_call 91; (with_reducible refine (HI2.out _ HLA2.out).mono ?_); rintro e w3 ⟨rfl, hb3⟩; (have HB3 := Lib.hid (HB2.out.next hb3)); (have HW3 := Lib.hid (HW2.out.trans (hb3.mono HW2.out.size))); (have HAA3 := Lib.hid (HAA2.out.below hb3)); (have HBS3 := Lib.hid ((hb3.block _ (blk_lt HBS2.out)).trans HBS2.out)); clear s0 s1 s2 c0 c1 c2 c3 c4 c5 g0 g1 g2; (obtain ⟨s0, s1, s2, c0, c1, c2, c3, c4, c5, hba, _⟩ := HB3.out); (have f0 := Tb.cell_of_blkT (k := 0) HBS3.out rfl); clear hb3 hba)
        | (go_at_call 92; refine (HCL.out _ HAA3.out).mono ?_; rintro e w4 ⟨v4, rfl, ho4, hb4⟩; (have HB4 := Lib.hid (HB3.out.next hb4)); (have HO4 : Hid (ArgB w4 w.heap.size v4 m ∧ Room v4) := Lib.hid ⟨ho4.argB.mono (Nat.le_trans HB0.out.bel.size HW3.out.size), ho4.room⟩); (have HW4 := Lib.hid (HW3.out.trans (hb4.mono HW3.out.size))); (have HAA4 := Lib.hid (HAA3.out.below hb4)); (have f1 := Tb.cell_of_blkT (k := 0) ((hb4.block _ (blk_lt HBS3.out)).trans HBS3.out) rfl); clear f0 s0 s1 s2 c0 c1 c2 c3 c4 c5; (obtain ⟨s0, s1, s2, c0, c1, c2, c3, c4, c5, hba, _⟩ := HB4.out); clear hb4 ho4 hba)
        | (go_at_call 93; refine (HLK.out _ HAA4.out).mono ?_; rintro e w5 ⟨rfl, hb5⟩; (have HO5 : Hid (ArgB w5 w.heap.size v4 m ∧ Room v4) := Lib.hid ⟨HO4.out.1.below hb5, HO4.out.2⟩); (have HW5 := Lib.hid (HW4.out.trans (hb5.mono HW4.out.size))); clear hb5))
      go_ret2
      exact ⟨_, rfl, HO4.out, HB0.out.bel.trans (HW4.out.mono HB0.out.bel.size)⟩
end
section
open Go.ChangeShapes Go.WideShapes Go.ChangeAt Go.RowKit
set_option linter.unusedVariables false
set_option linter.unusedSimpArgs false
set_option maxRecDepth 100000

theorem upd_any (values most thread at1 x' : Nat) (w : World) (m : List Nat) (hsl : values + thread < m.length) (hav : at1 < values) (hm : most ≤ 1000000) (hl : m.length ≤ 4294967296) (hx64 : ∀ x ∈ m, x < 18446744073709551616) :
    Calls Tryz.prog 155 #[.int .i64 (values : Int), .int .i64 (most : Int), .int .i64 (thread : Int), .int .i64 (at1 : Int), .int .u64 (x' : Int)] w (OpP m (mdUpd m values most thread at1 x') w) := by
  have hmf : ∀ (fn : Fn) (first cap : Array Value) (w : World), (Instr.makeFunc fn first cap).run Tryz.prog w = .ok (.func fn first cap) w := fun _ _ _ _ => rfl
  obtain ⟨w1, hw1⟩ : ∃ w1, w1 = w.alloc (.cells #[.int .i64 (values : Int)] 3) := ⟨_, rfl⟩
  obtain ⟨w2, hw2⟩ : ∃ w2, w2 = w1.alloc (.cells #[.int .i64 (most : Int)] 3) := ⟨_, rfl⟩
  obtain ⟨w3, hw3⟩ : ∃ w3, w3 = w2.alloc (.cells #[.int .i64 (thread : Int)] 3) := ⟨_, rfl⟩
  obtain ⟨w4, hw4⟩ : ∃ w4, w4 = w3.alloc (.cells #[.int .i64 (at1 : Int)] 3) := ⟨_, rfl⟩
  obtain ⟨w5, hw5⟩ : ∃ w5, w5 = w4.alloc (.cells #[.int .u64 (x' : Int)] 55) := ⟨_, rfl⟩
  have s1 : w1.heap.size = w.heap.size + 1 := by rw [hw1, World.size_alloc]
  have s2 : w2.heap.size = w.heap.size + 1 + 1 := by rw [hw2, World.size_alloc, s1]
  have s3 : w3.heap.size = w.heap.size + 1 + 1 + 1 := by rw [hw3, World.size_alloc, s2]
  have s4 : w4.heap.size = w.heap.size + 1 + 1 + 1 + 1 := by rw [hw4, World.size_alloc, s3]
  have s5 : w5.heap.size = w.heap.size + 1 + 1 + 1 + 1 + 1 := by rw [hw5, World.size_alloc, s4]
  have b1 : Below w.heap.size w w1 := by rw [hw1]; exact (Below.refl _ _).alloc (Nat.le_refl _) _
  have b2 : Below w1.heap.size w1 w2 := by rw [hw2]; exact (Below.refl _ _).alloc (Nat.le_refl _) _
  have b3 : Below w2.heap.size w2 w3 := by rw [hw3]; exact (Below.refl _ _).alloc (Nat.le_refl _) _
  have b4 : Below w3.heap.size w3 w4 := by rw [hw4]; exact (Below.refl _ _).alloc (Nat.le_refl _) _
  have b5 : Below w4.heap.size w4 w5 := by rw [hw5]; exact (Below.refl _ _).alloc (Nat.le_refl _) _
  have c1 : w1.cell? ⟨w.heap.size, 0, none⟩ = some (.int .i64 (values : Int)) := by rw [hw1]; exact cell_new0 _ _ _ rfl
  have c2 : w2.cell? ⟨w.heap.size + 1, 0, none⟩ = some (.int .i64 (most : Int)) := by rw [hw2]; exact cell_new0 _ _ _ s1.symm
  have c3 : w3.cell? ⟨w.heap.size + 1 + 1, 0, none⟩ = some (.int .i64 (thread : Int)) := by rw [hw3]; exact cell_new0 _ _ _ s2.symm
  have c4 : w4.cell? ⟨w.heap.size + 1 + 1 + 1, 0, none⟩ = some (.int .i64 (at1 : Int)) := by rw [hw4]; exact cell_new0 _ _ _ s3.symm
  have c5 : w5.cell? ⟨w.heap.size + 1 + 1 + 1 + 1, 0, none⟩ = some (.int .u64 (x' : Int)) := by rw [hw5]; exact cell_new0 _ _ _ s4.symm
  have b45 : Below w3.heap.size w3 w5 := b4.trans (b5.mono (by omega))
  have b35 : Below w2.heap.size w2 w5 := b3.trans (b45.mono (by omega))
  have b25 : Below w1.heap.size w1 w5 := b2.trans (b35.mono (by omega))
  have b05 : Below w.heap.size w w5 := b1.trans (b25.mono (by omega))
  have HX : Hid (OpP m (mdUpd m values most thread at1 x') w (.returned (.func (.func 176) #[] #[.pointer (some ⟨w.heap.size, 0, none⟩), .pointer (some ⟨w.heap.size + 1 + 1, 0, none⟩), .pointer (some ⟨w.heap.size + 1, 0, none⟩), .pointer (some ⟨w.heap.size + 1 + 1 + 1 + 1, 0, none⟩), .pointer (some ⟨w.heap.size + 1 + 1 + 1, 0, none⟩)])) w5) := by
    refine Lib.hid ⟨_, [.pointer (some ⟨w.heap.size, 0, none⟩), .pointer (some ⟨w.heap.size + 1 + 1, 0, none⟩), .pointer (some ⟨w.heap.size + 1, 0, none⟩), .pointer (some ⟨w.heap.size + 1 + 1 + 1 + 1, 0, none⟩), .pointer (some ⟨w.heap.size + 1 + 1 + 1, 0, none⟩)], rfl, ⟨fun args w => by kernel_rfl, fun W B v hb hB ho hg => ?_⟩, b05⟩
    have e : ∀ (g : Nat) (u : Value), g < w5.heap.size → w5.cell? ⟨g, 0, none⟩ = some u → W.cell? ⟨g, 0, none⟩ = some u := fun g u h h2 => (hb.cell (p := ⟨g, 0, none⟩) h).trans h2
    exact upd1_any _ _ _ _ _ values thread most at1 x' (values + thread) m v B W ho hB
      (e _ _ (by omega) ((b25.cell (p := ⟨_, 0, none⟩) (by dsimp only; omega)).trans c1)) (e _ _ (by omega) ((b45.cell (p := ⟨_, 0, none⟩) (by dsimp only; omega)).trans c3)) (e _ _ (by omega) ((b35.cell (p := ⟨_, 0, none⟩) (by dsimp only; omega)).trans c2)) (e _ _ (by omega) c5) (e _ _ (by omega) ((b5.cell (p := ⟨_, 0, none⟩) (by dsimp only; omega)).trans c4))
      (fun g hgs he => by have := hg g he; omega) rfl hsl hav hm hl hx64
  rw [hw5, hw4, hw3, hw2, hw1] at HX
  clear hw1 hw2 hw3 hw4 hw5 s1 s2 s3 s4 s5 b1 b2 b3 b4 b5 c1 c2 c3 c4 c5 b45 b35 b25 b05
  go_enter Tryz.func155, Tryz.ntmps155
  go_wp2_with fail
  go_ret
  exact HX.out

/-- a tally -/
def mdTally (m : List Nat) (kd : Int) : MdR := if kd = 0 then ⟨[(m.getD 0 0 + 1) % 18446744073709551616], 0, 0, []⟩ else ⟨m, 0, m.getD 0 0, []⟩
set_option maxHeartbeats 4000000 in
theorem count1_any (x : Nat) (v : Value) (B : Nat) (w : World) (h : OwnW w B v [x]) (hB : B ≤ w.heap.size) (hx : x < 18446744073709551616) :
    Calls Tryz.prog 152 #[v] w (ChP B w ⟨[(x + 1) % 18446744073709551616], 0, 0, []⟩) := by
  obtain ⟨g1, cap, rfl, hg1, hlt1, hc, hf⟩ := h.opened (by simp)
  have d1 := hc 0 x rfl
  have f1 := hf 0
  obtain ⟨z, hz⟩ : ∃ z : Nat, (x + 1) % 18446744073709551616 = z := ⟨_, rfl⟩
  have hwz : IntKind.u64.wrap ((x : Int) + 1) = (z : Int) := by
    rw [← hz]
    simp [IntKind.wrap, IntKind.signed, IntKind.bits]
  rw [hz]
  have HO := Lib.hid (h.stored 0 z)
  have HRM := Lib.hid h.room
  have HB2 := Lib.hid ((Below.refl B w).setCell (p := ⟨g1, 0, none⟩) hg1 (.int .u64 (z : Int)))
  have hn3 : g1 ≠ w.heap.size := by omega
  have hn4 : w.heap.size ≠ g1 := by omega
  simp only [List.length_singleton, List.set_cons_zero] at *
  clear h hc hf hz
  go_enter Tryz.func152, Tryz.ntmps152
  go_wp2_with fail
  refine bodyPost_ret (v := .tuple #[.slice (some ⟨g1, 0, none⟩) 1 cap, .agg #[.int .i64 0, .int .u64 0, .slice none 0 0]]) (by simp [results, Tryz.results152, go_sem]) rfl ⟨_, _, rfl, ⟨(HO.out.alloc _).argB, HRM.out⟩, ⟨ArgB.nil _ _, room_nil⟩, HB2.out.alloc (by simp; omega) _⟩
theorem one_len {m : List Nat} (h : m.length = 1) : ∃ x, m = [x] := by
  match m, h with
  | [x], _ => exact ⟨x, rfl⟩
set_option maxHeartbeats 1000000 in
theorem count_any (m : List Nat) (t ob kd a b c : Int) (hk : kd = 0 ∨ kd = 1) (h1 : m.length = 1) (hx64 : ∀ x ∈ m, x < 18446744073709551616) (w : World) :
    Calls Tryz.prog 116 #[callV t ob kd a b c] w (OpP m (mdTally m kd) w) := by
  obtain ⟨x, rfl⟩ := one_len h1
  have hx := hx64 x (by simp)
  rcases hk with rfl | rfl
  · have hm : mdTally [x] 0 = ⟨[(x + 1) % 18446744073709551616], 0, 0, []⟩ := rfl
    rw [hm]
    go_enter Tryz.func116, Tryz.ntmps116
    go_wp2_with fail
    go_ret
    exact ⟨_, [], rfl, ⟨fun args w => by kernel_rfl, fun W B v hb hB ho hg => count1_any x v B W ho hB hx⟩, (Below.refl _ _).alloc (Nat.le_refl _) _⟩
  · have HS : Hid (∀ W, Calls Tryz.prog 147 #[.int .u64 0] W (OpP [x] (mdTally [x] 1) W)) := Lib.hid (fun W => show_any 0 W [x] (by simp))
    generalize mdTally [x] 1 = r at *
    go_enter Tryz.func116, Tryz.ntmps116
    go_wp2_with (go_at_call 147; refine (HS.out _).mono ?_; intro e w3 h3; obtain ⟨fid, ex, rfl, hk3, hb3⟩ := (OpP.lift h3 ((Below.refl _ _).alloc (Nat.le_refl _) _)))
    go_ret
    exact ⟨fid, ex, rfl, hk3, hb3⟩

/-- an adder -/
def mdAdder (m : List Nat) (kd : Int) (a : Nat) : MdR := if kd = 0 then mdAdd m 0 a else if kd = 1 then mdShow m 0 else mdAdd m 0 1
set_option maxHeartbeats 1000000 in
theorem sum_any (m : List Nat) (t ob kd b c : Int) (a : Nat) (hk : kd = 0 ∨ kd = 1 ∨ kd = 2) (h1 : m.length = 1) (hx64 : ∀ x ∈ m, x < 18446744073709551616) (ha : a < 18446744073709551616) (w : World) :
    Calls Tryz.prog 117 #[callV t ob kd (a : Int) b c] w (OpP m (mdAdder m kd a) w) := by
  rcases hk with rfl | rfl | rfl
  · have HS : Hid (∀ W, Calls Tryz.prog 150 #[.int .u64 0, .int .u64 (a : Int)] W (OpP m (mdAdder m 0 a) W)) := Lib.hid (fun W => add_any 0 a W m (by omega) hx64 ha)
    generalize mdAdder m 0 a = r at *
    go_enter Tryz.func117, Tryz.ntmps117
    go_wp2_with (go_at_call 150; refine (HS.out _).mono ?_; intro e w3 h3; obtain ⟨fid, ex, rfl, hk3, hb3⟩ := (OpP.lift h3 ((Below.refl _ _).alloc (Nat.le_refl _) _)))
    go_ret
    exact ⟨fid, ex, rfl, hk3, hb3⟩
  · have HS : Hid (∀ W, Calls Tryz.prog 147 #[.int .u64 0] W (OpP m (mdAdder m 1 a) W)) := Lib.hid (fun W => show_any 0 W m (by omega))
    generalize mdAdder m 1 a = r at *
    go_enter Tryz.func117, Tryz.ntmps117
    go_wp2_with (go_at_call 147; refine (HS.out _).mono ?_; intro e w3 h3; obtain ⟨fid, ex, rfl, hk3, hb3⟩ := (OpP.lift h3 ((Below.refl _ _).alloc (Nat.le_refl _) _)))
    go_ret
    exact ⟨fid, ex, rfl, hk3, hb3⟩
  · have HS : Hid (∀ W, Calls Tryz.prog 150 #[.int .u64 0, .int .u64 1] W (OpP m (mdAdder m 2 a) W)) := Lib.hid (fun W => add_any 0 1 W m (by omega) hx64 (by omega))
    generalize mdAdder m 2 a = r at *
    go_enter Tryz.func117, Tryz.ntmps117
    go_wp2_with (go_at_call 150; refine (HS.out _).mono ?_; intro e w3 h3; obtain ⟨fid, ex, rfl, hk3, hb3⟩ := (OpP.lift h3 ((Below.refl _ _).alloc (Nat.le_refl _) _)))
    go_ret
    exact ⟨fid, ex, rfl, hk3, hb3⟩
end
section
open Go.ChangeShapes Go.WideShapes Go.ChangeAt Go.RowKit
set_option linter.unusedVariables false
set_option linter.unusedSimpArgs false
set_option maxRecDepth 100000

/-- a function of a call that gives a closure over its box -/
theorem OpP_box {w : World} {m : List Nat} {r : MdR} {fid : FuncId} {t ob kd a b c : Int} (hen : ∀ (args : Array Value) (w : World), (callFunc fid args).run Tryz.prog w = .ok (.enter fid args) w)
    (h : ∀ (W : World) (B : Nat) (v : Value), OwnW W B v m → B ≤ W.heap.size → W.heap[w.heap.size]? = some (callO t ob kd a b c) → v.ownBlock ≠ some w.heap.size → Calls Tryz.prog fid #[v, .pointer (some ⟨w.heap.size, 0, none⟩)] W (ChP B W r)) :
    OpP m r w (.returned (.func (.func fid) #[] #[.pointer (some ⟨w.heap.size, 0, none⟩)])) (w.alloc (callO t ob kd a b c)) := by
  refine ⟨_, [.pointer (some ⟨w.heap.size, 0, none⟩)], rfl, ⟨hen, fun W B v hb hB ho hg => ?_⟩, (Below.refl _ _).alloc (Nat.le_refl _) _⟩
  exact h W B v ho hB ((hb.block w.heap.size (by simp)).trans (heap_alloc_new _ _)) (fun e => by have := hg _ e; omega)

def mdCons (m : List Nat) (kd : Int) (a : Nat) : MdR :=
  if kd = 0 ∧ 4294967296 ≤ a then ⟨m, 10, 0, []⟩ else if m.getD 0 0 = 0 then (if kd = 1 then ⟨m, 7, 0, []⟩ else ⟨[a + 1], 0, a, []⟩) else ⟨m, 0, m.getD 0 0 - 1, []⟩

set_option maxHeartbeats 4000000 in
theorem agree1_has (g x : Nat) (t ob kd a b c : Int) (v : Value) (B : Nat) (w : World) (h : OwnW w B v [x]) (hB : B ≤ w.heap.size) (hg : w.heap[g]? = some (callO t ob kd a b c)) (hne : v.ownBlock ≠ some g) (hx : x < 18446744073709551616) (hx0 : x ≠ 0) :
    Calls Tryz.prog 151 #[v, .pointer (some ⟨g, 0, none⟩)] w (ChP B w ⟨[x], 0, x - 1, []⟩) := by
  obtain ⟨g1, cap, rfl, hg1, hlt1, hc, hf⟩ := h.opened (by simp)
  have d1 := hc 0 x rfl
  have hsub : ((x - 1 : Nat) : Int) = (x : Int) - 1 := by omega
  have HO := Lib.hid h
  have hlt := blk_lt hg
  have c2 : w.cell? ⟨g, 2, none⟩ = some (.int .i64 kd) := Tb.cell_of_blkT hg rfl
  have i0 : ((x : Int) == 0) = false := by rw [beq_eq_false_iff_ne]; omega
  have i1 : ¬ (x : Int) = 0 := by omega
  have i2 : decide ((x : Int) = 0) = false := decide_eq_false i1
  simp only [List.length_singleton] at *
  clear h hg hc hf
  go_enter Tryz.func151, Tryz.ntmps151
  go_wp2_with fail
  go_region
  go_wp2
  refine bodyPost_ret (v := .tuple #[.slice (some ⟨g1, 0, none⟩) 1 cap, .agg #[.int .i64 0, .int .u64 ((x : Int) - 1), .slice none 0 0]]) (by simp [results, Tryz.results151, go_sem]) rfl ⟨_, .slice none 0 0, by show _ = Ending.returned (.tuple #[_, .agg #[.int .i64 0, .int .u64 ((x - 1 : Nat) : Int), .slice none 0 0]]); rw [hsub], ⟨(HO.out.alloc _).argB, HO.out.room⟩, ⟨ArgB.nil _ _, room_nil⟩, ((Below.refl B w).alloc hB _).drew⟩

set_option maxHeartbeats 4000000 in
theorem agree1_none (g : Nat) (t ob a b c : Int) (v : Value) (B : Nat) (w : World) (h : OwnW w B v [0]) (hB : B ≤ w.heap.size) (hg : w.heap[g]? = some (callO t ob 1 a b c)) :
    Calls Tryz.prog 151 #[v, .pointer (some ⟨g, 0, none⟩)] w (ChP B w ⟨[0], 7, 0, []⟩) := by
  obtain ⟨g1, cap, rfl, hg1, hlt1, hc, hf⟩ := h.opened (by simp)
  have d1 : w.cell? ⟨g1, 0, none⟩ = some (.int .u64 0) := hc 0 0 rfl
  have HO := Lib.hid h
  have hlt := blk_lt hg
  have c2 : w.cell? ⟨g, 2, none⟩ = some (.int .i64 1) := Tb.cell_of_blkT hg rfl
  simp only [List.length_singleton] at *
  clear h hg hc hf
  go_enter Tryz.func151, Tryz.ntmps151
  go_wp2_with fail
  refine bodyPost_ret (v := .tuple #[.slice (some ⟨g1, 0, none⟩) 1 cap, .agg #[.int .i64 7, .int .u64 0, .slice none 0 0]]) (by simp [results, Tryz.results151, go_sem]) rfl ⟨_, _, rfl, ⟨(HO.out.alloc _).argB, HO.out.room⟩, ⟨ArgB.nil _ _, room_nil⟩, ((Below.refl B w).alloc hB _)⟩

set_option maxHeartbeats 4000000 in
theorem agree1_new (g a : Nat) (t ob b c : Int) (v : Value) (B : Nat) (w : World) (h : OwnW w B v [0]) (hB : B ≤ w.heap.size) (hg : w.heap[g]? = some (callO t ob 0 (a : Int) b c)) (hne : v.ownBlock ≠ some g) (ha : a < 4294967296) :
    Calls Tryz.prog 151 #[v, .pointer (some ⟨g, 0, none⟩)] w (ChP B w ⟨[a + 1], 0, a, []⟩) := by
  obtain ⟨g1, cap, rfl, hg1, hlt1, hc, hf⟩ := h.opened (by simp)
  have d1 : w.cell? ⟨g1, 0, none⟩ = some (.int .u64 0) := hc 0 0 rfl
  have f1 := hf 0
  have HO := Lib.hid (h.stored 0 (a + 1))
  have HR := Lib.hid h.room
  have HB2 : Hid (∀ u, Below B w (w.setCell ⟨g1, 0, none⟩ u)) := Lib.hid (fun u => (Below.refl B w).setCell (p := ⟨g1, 0, none⟩) hg1 u)
  have hlt := blk_lt hg
  have c2 : w.cell? ⟨g, 2, none⟩ = some (.int .i64 0) := Tb.cell_of_blkT hg rfl
  have c3 : w.cell? ⟨g, 3, none⟩ = some (.int .u64 (a : Int)) := Tb.cell_of_blkT hg rfl
  have hn1 : g1 ≠ g := fun e => hne (by rw [← e]; rfl)
  have hn3 : g1 ≠ w.heap.size := by omega
  have hn4 : w.heap.size ≠ g1 := by omega
  simp only [List.length_singleton, List.set_cons_zero] at *
  clear h hg hc hf hne
  go_enter Tryz.func151, Tryz.ntmps151
  go_wp2_with fail
  go_region
  go_wp2
  refine bodyPost_ret (v := .tuple #[.slice (some ⟨g1, 0, none⟩) 1 cap, .agg #[.int .i64 0, .int .u64 (a : Int), .slice none 0 0]]) (by simp [results, Tryz.results151, go_sem]) rfl ⟨_, _, rfl, ⟨(HO.out.alloc _).argB, HR.out⟩, ⟨ArgB.nil _ _, room_nil⟩, ((HB2.out _).alloc (by simp; omega) _).drew⟩

set_option maxHeartbeats 1000000 in
theorem agree_any (m : List Nat) (t ob kd b c : Int) (a : Nat) (hk : kd = 0 ∨ kd = 1) (h1 : m.length = 1) (hx64 : ∀ x ∈ m, x < 18446744073709551616) (w : World) :
    Calls Tryz.prog 115 #[callV t ob kd (a : Int) b c] w (OpP m (mdCons m kd a) w) := by
  have hmf : ∀ (fn : Fn) (first cap : Array Value) (w : World), (Instr.makeFunc fn first cap).run Tryz.prog w = .ok (.func fn first cap) w := fun _ _ _ _ => rfl
  obtain ⟨x, rfl⟩ := one_len h1
  have hx := hx64 x (by simp)
  by_cases hbig : kd = 0 ∧ 4294967296 ≤ a
  · obtain ⟨rfl, ha⟩ := hbig
    have hm : mdCons [x] 0 a = ⟨[x], 10, 0, []⟩ := by unfold mdCons; rw [if_pos ⟨rfl, ha⟩]
    rw [hm]
    have HF : Hid (∀ w, Calls Tryz.prog 113 #[.int .i64 10] w (OpP [x] ⟨[x], 10, 0, []⟩ w)) := Lib.hid (fun w => fail_any 10 w [x])
    have hd : decide ((4294967296 : Int) ≤ (a : Int)) = true := decide_eq_true (by omega)
    clear hm
    go_enter Tryz.func115, Tryz.ntmps115
    go_wp2_with (go_at_call 113; refine (HF.out _).mono ?_; intro e w3 h3; obtain ⟨fid, ex, rfl, hk3, hb3⟩ := (OpP.lift h3 ((Below.refl _ _).alloc (Nat.le_refl _) _)))
    go_ret
    exact ⟨fid, ex, rfl, hk3, hb3⟩
  · have HX : Hid (OpP [x] (mdCons [x] kd a) w (.returned (.func (.func 151) #[] #[.pointer (some ⟨w.heap.size, 0, none⟩)])) (w.alloc (callO t ob kd (a : Int) b c))) := Lib.hid (OpP_box (fun args w => by kernel_rfl) (fun W B v ho hB hg hne => by
      unfold mdCons
      rw [if_neg hbig]
      have e : [x].getD 0 0 = x := rfl
      rw [e]
      by_cases hx0 : x = 0
      · subst hx0
        rw [if_pos rfl]
        rcases hk with rfl | rfl
        · rw [if_neg (by decide)]
          exact agree1_new _ a t ob b c v B W ho hB hg hne (by omega)
        · rw [if_pos rfl]
          exact agree1_none _ _ _ _ _ _ v B W ho hB hg
      · rw [if_neg hx0]
        exact agree1_has _ x _ _ _ _ _ _ v B W ho hB hg hne hx hx0))
    rcases hk with rfl | rfl
    · have hd : decide ((4294967296 : Int) ≤ (a : Int)) = false := decide_eq_false (by omega)
      go_enter Tryz.func115, Tryz.ntmps115
      go_wp2_with fail
      go_ret
      exact HX.out
    · go_enter Tryz.func115, Tryz.ntmps115
      go_wp2_with fail
      go_ret
      exact HX.out

/-- cells -/
def mdCell (p : Int) (m : List Nat) (kd : Int) (a b c : Nat) : MdR :=
  if p ≤ (a : Int) then ⟨m, 10, 0, []⟩ else if kd = 0 then mdShow m a else if kd = 1 then ⟨m.set a b, 0, 0, []⟩ else if kd = 2 then (if m.getD a 0 ≠ b then ⟨m, 0, 0, []⟩ else ⟨m.set a c, 0, 1, []⟩) else mdAdd m a b
set_option maxHeartbeats 4000000 in
theorem access1_any (g a b : Nat) (t ob kd c : Int) (m : List Nat) (v : Value) (B : Nat) (w : World) (h : OwnW w B v m) (hB : B ≤ w.heap.size) (hg : w.heap[g]? = some (callO t ob kd (a : Int) (b : Int) c)) (hne : v.ownBlock ≠ some g) (hat : a < m.length) :
    Calls Tryz.prog 148 #[v, .pointer (some ⟨g, 0, none⟩)] w (ChP B w ⟨m.set a b, 0, 0, []⟩) := by
  obtain ⟨g1, cap, rfl, hg1, hlt1, hc, hf⟩ := h.opened (by omega)
  obtain ⟨x, hx⟩ : ∃ x, m[a]? = some x := ⟨m[a], List.getElem?_eq_getElem hat⟩
  have d1 := hc a x hx
  have f1 := hf a
  have HO := Lib.hid (h.stored a b)
  have HR := Lib.hid h.room
  have HB2 : Hid (∀ u, Below B w (w.setCell ⟨g1, a, none⟩ u)) := Lib.hid (fun u => (Below.refl B w).setCell (p := ⟨g1, a, none⟩) hg1 u)
  have hlt := blk_lt hg
  have c3 : w.cell? ⟨g, 3, none⟩ = some (.int .u64 (a : Int)) := Tb.cell_of_blkT hg rfl
  have c4 : w.cell? ⟨g, 4, none⟩ = some (.int .u64 (b : Int)) := Tb.cell_of_blkT hg rfl
  have hn1 : g1 ≠ g := fun e => hne (by rw [← e]; rfl)
  have hn3 : g1 ≠ w.heap.size := by omega
  have hn4 : w.heap.size ≠ g1 := by omega
  clear h hg hc hf hne hx
  go_enter Tryz.func148, Tryz.ntmps148
  go_wp2_with fail
  refine bodyPost_ret (v := .tuple #[.slice (some ⟨g1, 0, none⟩) m.length cap, .agg #[.int .i64 0, .int .u64 0, .slice none 0 0]]) (by simp [results, Tryz.results148, go_sem]) rfl ⟨_, _, rfl, ⟨(HO.out.alloc _).argB, HR.out⟩, ⟨ArgB.nil _ _, room_nil⟩, ((HB2.out _).alloc (by simp; omega) _)⟩
set_option maxHeartbeats 4000000 in
theorem access2_any (g a b c : Nat) (t ob kd : Int) (m : List Nat) (v : Value) (B : Nat) (w : World) (h : OwnW w B v m) (hB : B ≤ w.heap.size) (hg : w.heap[g]? = some (callO t ob kd (a : Int) (b : Int) (c : Int))) (hne : v.ownBlock ≠ some g) (hat : a < m.length) :
    Calls Tryz.prog 149 #[v, .pointer (some ⟨g, 0, none⟩)] w (ChP B w (if m.getD a 0 ≠ b then ⟨m, 0, 0, []⟩ else ⟨m.set a c, 0, 1, []⟩)) := by
  obtain ⟨g1, cap, rfl, hg1, hlt1, hc, hf⟩ := h.opened (by omega)
  obtain ⟨x, hx⟩ : ∃ x, m[a]? = some x := ⟨m[a], List.getElem?_eq_getElem hat⟩
  have d1 := hc a x hx
  have f1 := hf a
  rw [getD_of hx]
  have HO0 := Lib.hid h
  have HO := Lib.hid (h.stored a c)
  have HR := Lib.hid h.room
  have HB2 : Hid (∀ u, Below B w (w.setCell ⟨g1, a, none⟩ u)) := Lib.hid (fun u => (Below.refl B w).setCell (p := ⟨g1, a, none⟩) hg1 u)
  have hlt := blk_lt hg
  have c3 : w.cell? ⟨g, 3, none⟩ = some (.int .u64 (a : Int)) := Tb.cell_of_blkT hg rfl
  have c4 : w.cell? ⟨g, 4, none⟩ = some (.int .u64 (b : Int)) := Tb.cell_of_blkT hg rfl
  have c5 : w.cell? ⟨g, 5, none⟩ = some (.int .u64 (c : Int)) := Tb.cell_of_blkT hg rfl
  have hn1 : g1 ≠ g := fun e => hne (by rw [← e]; rfl)
  have hn3 : g1 ≠ w.heap.size := by omega
  have hn4 : w.heap.size ≠ g1 := by omega
  clear h hg hc hf hne hx
  by_cases hxb : x = b
  · subst hxb
    rw [if_neg (by simp)]
    go_enter Tryz.func149, Tryz.ntmps149
    go_wp2_with fail
    go_region
    go_wp2
    refine bodyPost_ret (v := .tuple #[.slice (some ⟨g1, 0, none⟩) m.length cap, .agg #[.int .i64 0, .int .u64 1, .slice none 0 0]]) (by simp [results, Tryz.results149, go_sem]) rfl ⟨_, _, rfl, ⟨(HO.out.alloc _).argB, HR.out⟩, ⟨ArgB.nil _ _, room_nil⟩, ((HB2.out _).alloc (by simp; omega) _).drew⟩
  · rw [if_pos hxb]
    have i0 : ((x : Int) == (b : Int)) = false := by rw [beq_eq_false_iff_ne]; omega
    have i1 : ¬ (x : Int) = (b : Int) := by omega
    have i2 : decide ((x : Int) = (b : Int)) = false := decide_eq_false i1
    go_enter Tryz.func149, Tryz.ntmps149
    go_wp2_with fail
    go_region
    go_wp2
    refine bodyPost_ret (v := .tuple #[.slice (some ⟨g1, 0, none⟩) m.length cap, .agg #[.int .i64 0, .int .u64 0, .slice none 0 0]]) (by simp [results, Tryz.results149, go_sem]) rfl ⟨_, _, rfl, ⟨(HO0.out.alloc _).argB, HR.out⟩, ⟨ArgB.nil _ _, room_nil⟩, ((Below.refl B w).alloc hB _).drew⟩

set_option maxHeartbeats 2000000 in
theorem access_any (p : Int) (m : List Nat) (t ob kd : Int) (a b c : Nat) (hp : 1 ≤ p ∧ p ≤ 64) (hk : 0 ≤ kd ∧ kd < 4) (h1 : (m.length : Int) = p) (hx64 : ∀ x ∈ m, x < 18446744073709551616) (ha : a < 18446744073709551616) (hb : b < 18446744073709551616) (w : World) :
    Calls Tryz.prog 114 #[.int .i64 p, callV t ob kd (a : Int) (b : Int) (c : Int)] w (OpP m (mdCell p m kd a b c) w) := by
  have hmf : ∀ (fn : Fn) (first cap : Array Value) (w : World), (Instr.makeFunc fn first cap).run Tryz.prog w = .ok (.func fn first cap) w := fun _ _ _ _ => rfl
  have hp1 := hp.1
  have hp2 := hp.2
  by_cases hbig : p ≤ (a : Int)
  · have hm : mdCell p m kd a b c = ⟨m, 10, 0, []⟩ := by unfold mdCell; rw [if_pos hbig]
    rw [hm]
    have HF : Hid (∀ w, Calls Tryz.prog 113 #[.int .i64 10] w (OpP m ⟨m, 10, 0, []⟩ w)) := Lib.hid (fun w => fail_any 10 w m)
    have hd : decide (p ≤ (a : Int)) = true := decide_eq_true hbig
    clear hm
    go_enter Tryz.func114, Tryz.ntmps114
    go_wp2_with (go_at_call 113; refine (HF.out _).mono ?_; intro e w3 h3; obtain ⟨fid, ex, rfl, hk3, hb3⟩ := (OpP.lift h3 ((Below.refl _ _).alloc (Nat.le_refl _) _)))
    go_ret
    exact ⟨fid, ex, rfl, hk3, hb3⟩
  · have hal : a < m.length := by omega
    have hd : decide (p ≤ (a : Int)) = false := decide_eq_false hbig
    have h4 : kd = 0 ∨ kd = 1 ∨ kd = 2 ∨ kd = 3 := by omega
    rcases h4 with rfl | rfl | rfl | rfl
    · have hm : mdCell p m 0 a b c = mdShow m a := by unfold mdCell; rw [if_neg hbig, if_pos rfl]
      rw [hm]
      have HS : Hid (∀ W, Calls Tryz.prog 147 #[.int .u64 (a : Int)] W (OpP m (mdShow m a) W)) := Lib.hid (fun W => show_any a W m hal)
      generalize mdShow m a = r at *
      clear hm
      go_enter Tryz.func114, Tryz.ntmps114
      go_wp2_with (go_at_call 147; refine (HS.out _).mono ?_; intro e w3 h3; obtain ⟨fid, ex, rfl, hk3, hb3⟩ := (OpP.lift h3 ((Below.refl _ _).alloc (Nat.le_refl _) _)))
      go_ret
      exact ⟨fid, ex, rfl, hk3, hb3⟩
    · have hm : mdCell p m 1 a b c = ⟨m.set a b, 0, 0, []⟩ := by unfold mdCell; rw [if_neg hbig, if_neg (by decide), if_pos rfl]
      rw [hm]
      have HX : Hid (OpP m ⟨m.set a b, 0, 0, []⟩ w (.returned (.func (.func 148) #[] #[.pointer (some ⟨w.heap.size, 0, none⟩)])) (w.alloc (callO t ob 1 (a : Int) (b : Int) (c : Int)))) := Lib.hid (OpP_box (fun args w => by kernel_rfl) (fun W B v ho hB hg hne => access1_any _ a b _ _ _ _ m v B W ho hB hg hne hal))
      clear hm
      go_enter Tryz.func114, Tryz.ntmps114
      go_wp2_with fail
      go_ret
      exact HX.out
    · have hm : mdCell p m 2 a b c = (if m.getD a 0 ≠ b then ⟨m, 0, 0, []⟩ else ⟨m.set a c, 0, 1, []⟩) := by unfold mdCell; rw [if_neg hbig, if_neg (by decide), if_neg (by decide), if_pos rfl]
      rw [hm]
      have HX : Hid (OpP m (if m.getD a 0 ≠ b then ⟨m, 0, 0, []⟩ else ⟨m.set a c, 0, 1, []⟩) w (.returned (.func (.func 149) #[] #[.pointer (some ⟨w.heap.size, 0, none⟩)])) (w.alloc (callO t ob 2 (a : Int) (b : Int) (c : Int)))) := Lib.hid (OpP_box (fun args w => by kernel_rfl) (fun W B v ho hB hg hne => access2_any _ a b c _ _ _ m v B W ho hB hg hne hal))
      generalize (if m.getD a 0 ≠ b then (⟨m, 0, 0, []⟩ : MdR) else ⟨m.set a c, 0, 1, []⟩) = r at *
      clear hm
      go_enter Tryz.func114, Tryz.ntmps114
      go_wp2_with fail
      go_ret
      exact HX.out
    · have hm : mdCell p m 3 a b c = mdAdd m a b := by unfold mdCell; rw [if_neg hbig, if_neg (by decide), if_neg (by decide), if_neg (by decide)]
      rw [hm]
      have HS : Hid (∀ W, Calls Tryz.prog 150 #[.int .u64 (a : Int), .int .u64 (b : Int)] W (OpP m (mdAdd m a b) W)) := Lib.hid (fun W => add_any a b W m hal hx64 hb)
      generalize mdAdd m a b = r at *
      clear hm
      go_enter Tryz.func114, Tryz.ntmps114
      go_wp2_with (go_at_call 150; refine (HS.out _).mono ?_; intro e w3 h3; obtain ⟨fid, ex, rfl, hk3, hb3⟩ := (OpP.lift h3 ((Below.refl _ _).alloc (Nat.le_refl _) _)))
      go_ret
      exact ⟨fid, ex, rfl, hk3, hb3⟩
end
end Go.Proofs.YtjjleghalajidaaGreat
