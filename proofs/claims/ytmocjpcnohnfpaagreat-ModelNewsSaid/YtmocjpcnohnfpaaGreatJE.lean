/- operation: kind by kind, over its function's contract. -/
import Derived.Test.YtmocjpcnohnfpaaGreatJD
namespace Go.Proofs.YtmocjpcnohnfpaaGreat
open Go.ChangeShapes Go.WideShapes Go.ChangeAt Go.RowKit
set_option linter.unusedVariables false
set_option linter.unusedSimpArgs false
set_option maxRecDepth 100000

theorem ChgK.lift {B0 B1 : Nat} {w : World} {m : List Nat} {r : MdR} {fid : FuncId} {ex : List Value} (h : ChgK B1 w m r fid ex) (hb : B0 ≤ B1) : ChgK B0 w m r fid ex :=
  ⟨h.1, fun W B v h1 h2 h3 h4 => h.2 W B v h1 h2 h3 (fun g hg => by have := h4 g hg; omega)⟩
theorem OpP.lift {m : List Nat} {r : MdR} {W W1 w' : World} {e : Ending} (h : OpP m r W1 e w') (hb : Below W.heap.size W W1) : OpP m r W e w' := by
  obtain ⟨fid, ex, rfl, hk, hb1⟩ := h
  exact ⟨fid, ex, rfl, hk.lift hb.size, hb.trans (hb1.mono hb.size)⟩
/-- the two boxes of operation's parameters -/
abbrev opW (w : World) (k p q t ob kd a b c : Int) : World := (w.alloc (Tb.specO k p q)).alloc (callO t ob kd a b c)
structure OpBox (w W : World) (k p q t ob kd a b c : Int) : Prop where
  s0 : W.cell? ⟨w.heap.size, 0, none⟩ = some (.int .i64 k)
  s1 : W.cell? ⟨w.heap.size, 1, none⟩ = some (.int .i64 p)
  s2 : W.cell? ⟨w.heap.size, 2, none⟩ = some (.int .i64 q)
  c0 : W.cell? ⟨w.heap.size + 1, 0, none⟩ = some (.int .i64 t)
  c1 : W.cell? ⟨w.heap.size + 1, 1, none⟩ = some (.int .i64 ob)
  c2 : W.cell? ⟨w.heap.size + 1, 2, none⟩ = some (.int .i64 kd)
  c3 : W.cell? ⟨w.heap.size + 1, 3, none⟩ = some (.int .u64 a)
  c4 : W.cell? ⟨w.heap.size + 1, 4, none⟩ = some (.int .u64 b)
  c5 : W.cell? ⟨w.heap.size + 1, 5, none⟩ = some (.int .u64 c)
  bel : Below w.heap.size w W
  lt : w.heap.size + 1 < W.heap.size
theorem opBox (w : World) (k p q t ob kd a b c : Int) : OpBox w (opW w k p q t ob kd a b c) k p q t ob kd a b c := by
  have hcb : (opW w k p q t ob kd a b c).heap[w.heap.size + 1]? = some (callO t ob kd a b c) := by
    have := heap_alloc_new (w.alloc (Tb.specO k p q)) (callO t ob kd a b c)
    rw [World.size_alloc] at this; exact this
  have hsb : (opW w k p q t ob kd a b c).heap[w.heap.size]? = some (Tb.specO k p q) := (Below.heap_alloc _ _ _ (by simp)).trans (heap_alloc_new _ _)
  exact ⟨Tb.cell_of_blkT hsb rfl, Tb.cell_of_blkT hsb rfl, Tb.cell_of_blkT hsb rfl, Tb.cell_of_blkT hcb rfl, Tb.cell_of_blkT hcb rfl, Tb.cell_of_blkT hcb rfl, Tb.cell_of_blkT hcb rfl, Tb.cell_of_blkT hcb rfl, Tb.cell_of_blkT hcb rfl,
    ((Below.refl _ _).alloc (Nat.le_refl _) _).alloc (by simp) _, blk_lt hcb⟩
theorem OpBox.next {w W W' : World} {k p q t ob kd a b c : Int} (h : OpBox w W k p q t ob kd a b c) (hb : Below W.heap.size W W') : OpBox w W' k p q t ob kd a b c := by
  have hlt := h.lt
  have e : ∀ (j : Nat) (v : Value), W.cell? ⟨w.heap.size, j, none⟩ = some v → W'.cell? ⟨w.heap.size, j, none⟩ = some v := fun j v hv => (hb.cell (p := ⟨w.heap.size, j, none⟩) (by show w.heap.size < _; omega)).trans hv
  have e1 : ∀ (j : Nat) (v : Value), W.cell? ⟨w.heap.size + 1, j, none⟩ = some v → W'.cell? ⟨w.heap.size + 1, j, none⟩ = some v := fun j v hv => (hb.cell (p := ⟨w.heap.size + 1, j, none⟩) (by show w.heap.size + 1 < _; omega)).trans hv
  exact ⟨e _ _ h.s0, e _ _ h.s1, e _ _ h.s2, e1 _ _ h.c0, e1 _ _ h.c1, e1 _ _ h.c2, e1 _ _ h.c3, e1 _ _ h.c4, e1 _ _ h.c5, h.bel.trans (hb.mono (by omega)), by have := hb.size; omega⟩

set_option maxHeartbeats 2000000 in
theorem op_0 (n p q t ob kd a b c : Int) (m : List Nat) (r : MdR) (hk : 0 ≤ kd ∧ kd < Tb.tbKn 0 p) (hS : ∀ W, Calls Tryz.prog 106 #[.int .i64 p, callV t ob kd a b c] W (OpP m r W)) (w : World) :
    Calls Tryz.prog 58 #[.int .i64 n, Tb.specV 0 p q, callV t ob kd a b c] w (OpP m r w) := by
  have d1 : decide (kd < 0) = false := decide_eq_false (by omega)
  have d2 : decide (Tb.tbKn 0 p ≤ kd) = false := decide_eq_false (by omega)
  clear hk
  have HS := Lib.hid hS
  have HB0 := Lib.hid (opBox w 0 p q t ob kd a b c)
  unfold opW at HB0
  have hKn := Tb.kinds_any 0 p q
  have HK := Lib.hid hKn
  clear hS hKn
  obtain ⟨s0, s1, s2, c0, c1, c2, c3, c4, c5, _, hlt⟩ := HB0.out
  generalize hW : ((w.alloc (Tb.specO 0 p q)).alloc (callO t ob kd a b c)) = W at *
  unfold Tb.specV Tb.specO at *
  have l0 : ∀ p' : BW W.heap.size W, p'.v.cell? ⟨w.heap.size, 0, none⟩ = some (.int .i64 0) := fun p' => p'.cell (by show w.heap.size < _; omega) s0
  have l1 : ∀ p' : BW W.heap.size W, p'.v.cell? ⟨w.heap.size, 1, none⟩ = some (.int .i64 p) := fun p' => p'.cell (by show w.heap.size < _; omega) s1
  have l2 : ∀ p' : BW W.heap.size W, p'.v.cell? ⟨w.heap.size, 2, none⟩ = some (.int .i64 q) := fun p' => p'.cell (by show w.heap.size < _; omega) s2
  have l3 : ∀ p' : BW W.heap.size W, p'.v.cell? ⟨w.heap.size + 1, 2, none⟩ = some (.int .i64 kd) := fun p' => p'.cell hlt c2
  clear s0 s1 s2 c0 c1 c2 c3 c4 c5
  go_enter Tryz.func58, Tryz.ntmps58
  go_wp2
  refine wp_region_low (B := W.heap.size) (w := W) (by kernel_rfl) (by kernel_rfl) ?_
  repeat (go_big_quiet_step ((go_at_call 104; exact low_call (HK.out _) (Nat.le_refl _))))
  refine wpQuiet_nil ?_
  intro _ hw'
  obtain ⟨⟨w2, hb2⟩, rfl⟩ := hw'
  have HB2 := Lib.hid (HB0.out.next hb2)
  obtain ⟨s0, s1, s2, c0, c1, c2, c3, c4, c5, hbel, hlt2⟩ := HB2.out
  go_wp2_with (go_at_call 106; refine (HS.out _).mono ?_; intro e w3 h3; obtain ⟨fid, ex, rfl, hk3, hb3⟩ := (OpP.lift h3 HB2.out.bel))
  go_ret
  exact ⟨fid, ex, rfl, hk3, hb3⟩

set_option maxHeartbeats 2000000 in
theorem op_1 (n p q t ob kd a b c : Int) (m : List Nat) (r : MdR) (hk : 0 ≤ kd ∧ kd < Tb.tbKn 1 p) (hS : ∀ W, Calls Tryz.prog 107 #[callV t ob kd a b c] W (OpP m r W)) (w : World) :
    Calls Tryz.prog 58 #[.int .i64 n, Tb.specV 1 p q, callV t ob kd a b c] w (OpP m r w) := by
  have d1 : decide (kd < 0) = false := decide_eq_false (by omega)
  have d2 : decide (Tb.tbKn 1 p ≤ kd) = false := decide_eq_false (by omega)
  clear hk
  have HS := Lib.hid hS
  have HB0 := Lib.hid (opBox w 1 p q t ob kd a b c)
  unfold opW at HB0
  have hKn := Tb.kinds_any 1 p q
  have HK := Lib.hid hKn
  clear hS hKn
  obtain ⟨s0, s1, s2, c0, c1, c2, c3, c4, c5, _, hlt⟩ := HB0.out
  generalize hW : ((w.alloc (Tb.specO 1 p q)).alloc (callO t ob kd a b c)) = W at *
  unfold Tb.specV Tb.specO at *
  have l0 : ∀ p' : BW W.heap.size W, p'.v.cell? ⟨w.heap.size, 0, none⟩ = some (.int .i64 1) := fun p' => p'.cell (by show w.heap.size < _; omega) s0
  have l1 : ∀ p' : BW W.heap.size W, p'.v.cell? ⟨w.heap.size, 1, none⟩ = some (.int .i64 p) := fun p' => p'.cell (by show w.heap.size < _; omega) s1
  have l2 : ∀ p' : BW W.heap.size W, p'.v.cell? ⟨w.heap.size, 2, none⟩ = some (.int .i64 q) := fun p' => p'.cell (by show w.heap.size < _; omega) s2
  have l3 : ∀ p' : BW W.heap.size W, p'.v.cell? ⟨w.heap.size + 1, 2, none⟩ = some (.int .i64 kd) := fun p' => p'.cell hlt c2
  clear s0 s1 s2 c0 c1 c2 c3 c4 c5
  go_enter Tryz.func58, Tryz.ntmps58
  go_wp2
  refine wp_region_low (B := W.heap.size) (w := W) (by kernel_rfl) (by kernel_rfl) ?_
  repeat (go_big_quiet_step ((go_at_call 104; exact low_call (HK.out _) (Nat.le_refl _))))
  refine wpQuiet_nil ?_
  intro _ hw'
  obtain ⟨⟨w2, hb2⟩, rfl⟩ := hw'
  have HB2 := Lib.hid (HB0.out.next hb2)
  obtain ⟨s0, s1, s2, c0, c1, c2, c3, c4, c5, hbel, hlt2⟩ := HB2.out
  go_wp2_with (go_at_call 107; refine (HS.out _).mono ?_; intro e w3 h3; obtain ⟨fid, ex, rfl, hk3, hb3⟩ := (OpP.lift h3 HB2.out.bel))
  go_ret
  exact ⟨fid, ex, rfl, hk3, hb3⟩

set_option maxHeartbeats 2000000 in
theorem op_2 (n p q t ob kd a b c : Int) (m : List Nat) (r : MdR) (hk : 0 ≤ kd ∧ kd < Tb.tbKn 2 p) (hS : ∀ W, Calls Tryz.prog 108 #[callV t ob kd a b c] W (OpP m r W)) (w : World) :
    Calls Tryz.prog 58 #[.int .i64 n, Tb.specV 2 p q, callV t ob kd a b c] w (OpP m r w) := by
  have d1 : decide (kd < 0) = false := decide_eq_false (by omega)
  have d2 : decide (Tb.tbKn 2 p ≤ kd) = false := decide_eq_false (by omega)
  clear hk
  have HS := Lib.hid hS
  have HB0 := Lib.hid (opBox w 2 p q t ob kd a b c)
  unfold opW at HB0
  have hKn := Tb.kinds_any 2 p q
  have HK := Lib.hid hKn
  clear hS hKn
  obtain ⟨s0, s1, s2, c0, c1, c2, c3, c4, c5, _, hlt⟩ := HB0.out
  generalize hW : ((w.alloc (Tb.specO 2 p q)).alloc (callO t ob kd a b c)) = W at *
  unfold Tb.specV Tb.specO at *
  have l0 : ∀ p' : BW W.heap.size W, p'.v.cell? ⟨w.heap.size, 0, none⟩ = some (.int .i64 2) := fun p' => p'.cell (by show w.heap.size < _; omega) s0
  have l1 : ∀ p' : BW W.heap.size W, p'.v.cell? ⟨w.heap.size, 1, none⟩ = some (.int .i64 p) := fun p' => p'.cell (by show w.heap.size < _; omega) s1
  have l2 : ∀ p' : BW W.heap.size W, p'.v.cell? ⟨w.heap.size, 2, none⟩ = some (.int .i64 q) := fun p' => p'.cell (by show w.heap.size < _; omega) s2
  have l3 : ∀ p' : BW W.heap.size W, p'.v.cell? ⟨w.heap.size + 1, 2, none⟩ = some (.int .i64 kd) := fun p' => p'.cell hlt c2
  clear s0 s1 s2 c0 c1 c2 c3 c4 c5
  go_enter Tryz.func58, Tryz.ntmps58
  go_wp2
  refine wp_region_low (B := W.heap.size) (w := W) (by kernel_rfl) (by kernel_rfl) ?_
  repeat (go_big_quiet_step ((go_at_call 104; exact low_call (HK.out _) (Nat.le_refl _))))
  refine wpQuiet_nil ?_
  intro _ hw'
  obtain ⟨⟨w2, hb2⟩, rfl⟩ := hw'
  have HB2 := Lib.hid (HB0.out.next hb2)
  obtain ⟨s0, s1, s2, c0, c1, c2, c3, c4, c5, hbel, hlt2⟩ := HB2.out
  go_wp2_with (go_at_call 108; refine (HS.out _).mono ?_; intro e w3 h3; obtain ⟨fid, ex, rfl, hk3, hb3⟩ := (OpP.lift h3 HB2.out.bel))
  go_ret
  exact ⟨fid, ex, rfl, hk3, hb3⟩

set_option maxHeartbeats 2000000 in
theorem op_3 (n p q t ob kd a b c : Int) (m : List Nat) (r : MdR) (hk : 0 ≤ kd ∧ kd < Tb.tbKn 3 p) (hS : ∀ W, Calls Tryz.prog 109 #[callV t ob kd a b c] W (OpP m r W)) (w : World) :
    Calls Tryz.prog 58 #[.int .i64 n, Tb.specV 3 p q, callV t ob kd a b c] w (OpP m r w) := by
  have d1 : decide (kd < 0) = false := decide_eq_false (by omega)
  have d2 : decide (Tb.tbKn 3 p ≤ kd) = false := decide_eq_false (by omega)
  clear hk
  have HS := Lib.hid hS
  have HB0 := Lib.hid (opBox w 3 p q t ob kd a b c)
  unfold opW at HB0
  have hKn := Tb.kinds_any 3 p q
  have HK := Lib.hid hKn
  clear hS hKn
  obtain ⟨s0, s1, s2, c0, c1, c2, c3, c4, c5, _, hlt⟩ := HB0.out
  generalize hW : ((w.alloc (Tb.specO 3 p q)).alloc (callO t ob kd a b c)) = W at *
  unfold Tb.specV Tb.specO at *
  have l0 : ∀ p' : BW W.heap.size W, p'.v.cell? ⟨w.heap.size, 0, none⟩ = some (.int .i64 3) := fun p' => p'.cell (by show w.heap.size < _; omega) s0
  have l1 : ∀ p' : BW W.heap.size W, p'.v.cell? ⟨w.heap.size, 1, none⟩ = some (.int .i64 p) := fun p' => p'.cell (by show w.heap.size < _; omega) s1
  have l2 : ∀ p' : BW W.heap.size W, p'.v.cell? ⟨w.heap.size, 2, none⟩ = some (.int .i64 q) := fun p' => p'.cell (by show w.heap.size < _; omega) s2
  have l3 : ∀ p' : BW W.heap.size W, p'.v.cell? ⟨w.heap.size + 1, 2, none⟩ = some (.int .i64 kd) := fun p' => p'.cell hlt c2
  clear s0 s1 s2 c0 c1 c2 c3 c4 c5
  go_enter Tryz.func58, Tryz.ntmps58
  go_wp2
  refine wp_region_low (B := W.heap.size) (w := W) (by kernel_rfl) (by kernel_rfl) ?_
  repeat (go_big_quiet_step ((go_at_call 104; exact low_call (HK.out _) (Nat.le_refl _))))
  refine wpQuiet_nil ?_
  intro _ hw'
  obtain ⟨⟨w2, hb2⟩, rfl⟩ := hw'
  have HB2 := Lib.hid (HB0.out.next hb2)
  obtain ⟨s0, s1, s2, c0, c1, c2, c3, c4, c5, hbel, hlt2⟩ := HB2.out
  go_wp2_with (go_at_call 109; refine (HS.out _).mono ?_; intro e w3 h3; obtain ⟨fid, ex, rfl, hk3, hb3⟩ := (OpP.lift h3 HB2.out.bel))
  go_ret
  exact ⟨fid, ex, rfl, hk3, hb3⟩

set_option maxHeartbeats 2000000 in
theorem op_4 (n p q t ob kd a b c : Int) (m : List Nat) (r : MdR) (hk : 0 ≤ kd ∧ kd < Tb.tbKn 4 p) (hS : ∀ W, Calls Tryz.prog 110 #[.int .i64 p, callV t ob kd a b c] W (OpP m r W)) (w : World) :
    Calls Tryz.prog 58 #[.int .i64 n, Tb.specV 4 p q, callV t ob kd a b c] w (OpP m r w) := by
  have d1 : decide (kd < 0) = false := decide_eq_false (by omega)
  have d2 : decide (Tb.tbKn 4 p ≤ kd) = false := decide_eq_false (by omega)
  clear hk
  have HS := Lib.hid hS
  have HB0 := Lib.hid (opBox w 4 p q t ob kd a b c)
  unfold opW at HB0
  have hKn := Tb.kinds_any 4 p q
  have HK := Lib.hid hKn
  clear hS hKn
  obtain ⟨s0, s1, s2, c0, c1, c2, c3, c4, c5, _, hlt⟩ := HB0.out
  generalize hW : ((w.alloc (Tb.specO 4 p q)).alloc (callO t ob kd a b c)) = W at *
  unfold Tb.specV Tb.specO at *
  have l0 : ∀ p' : BW W.heap.size W, p'.v.cell? ⟨w.heap.size, 0, none⟩ = some (.int .i64 4) := fun p' => p'.cell (by show w.heap.size < _; omega) s0
  have l1 : ∀ p' : BW W.heap.size W, p'.v.cell? ⟨w.heap.size, 1, none⟩ = some (.int .i64 p) := fun p' => p'.cell (by show w.heap.size < _; omega) s1
  have l2 : ∀ p' : BW W.heap.size W, p'.v.cell? ⟨w.heap.size, 2, none⟩ = some (.int .i64 q) := fun p' => p'.cell (by show w.heap.size < _; omega) s2
  have l3 : ∀ p' : BW W.heap.size W, p'.v.cell? ⟨w.heap.size + 1, 2, none⟩ = some (.int .i64 kd) := fun p' => p'.cell hlt c2
  clear s0 s1 s2 c0 c1 c2 c3 c4 c5
  go_enter Tryz.func58, Tryz.ntmps58
  go_wp2
  refine wp_region_low (B := W.heap.size) (w := W) (by kernel_rfl) (by kernel_rfl) ?_
  repeat (go_big_quiet_step ((go_at_call 104; exact low_call (HK.out _) (Nat.le_refl _))))
  refine wpQuiet_nil ?_
  intro _ hw'
  obtain ⟨⟨w2, hb2⟩, rfl⟩ := hw'
  have HB2 := Lib.hid (HB0.out.next hb2)
  obtain ⟨s0, s1, s2, c0, c1, c2, c3, c4, c5, hbel, hlt2⟩ := HB2.out
  go_wp2_with (go_at_call 110; refine (HS.out _).mono ?_; intro e w3 h3; obtain ⟨fid, ex, rfl, hk3, hb3⟩ := (OpP.lift h3 HB2.out.bel))
  go_ret
  exact ⟨fid, ex, rfl, hk3, hb3⟩

set_option maxHeartbeats 2000000 in
theorem op_5 (n p q t ob kd a b c : Int) (m : List Nat) (r : MdR) (hk : 0 ≤ kd ∧ kd < Tb.tbKn 5 p) (hS : ∀ W, Calls Tryz.prog 111 #[.int .i64 n, .int .i64 p, callV t ob kd a b c] W (OpP m r W)) (w : World) :
    Calls Tryz.prog 58 #[.int .i64 n, Tb.specV 5 p q, callV t ob kd a b c] w (OpP m r w) := by
  have d1 : decide (kd < 0) = false := decide_eq_false (by omega)
  have d2 : decide (Tb.tbKn 5 p ≤ kd) = false := decide_eq_false (by omega)
  clear hk
  have HS := Lib.hid hS
  have HB0 := Lib.hid (opBox w 5 p q t ob kd a b c)
  unfold opW at HB0
  have hKn := Tb.kinds_any 5 p q
  have HK := Lib.hid hKn
  clear hS hKn
  obtain ⟨s0, s1, s2, c0, c1, c2, c3, c4, c5, _, hlt⟩ := HB0.out
  generalize hW : ((w.alloc (Tb.specO 5 p q)).alloc (callO t ob kd a b c)) = W at *
  unfold Tb.specV Tb.specO at *
  have l0 : ∀ p' : BW W.heap.size W, p'.v.cell? ⟨w.heap.size, 0, none⟩ = some (.int .i64 5) := fun p' => p'.cell (by show w.heap.size < _; omega) s0
  have l1 : ∀ p' : BW W.heap.size W, p'.v.cell? ⟨w.heap.size, 1, none⟩ = some (.int .i64 p) := fun p' => p'.cell (by show w.heap.size < _; omega) s1
  have l2 : ∀ p' : BW W.heap.size W, p'.v.cell? ⟨w.heap.size, 2, none⟩ = some (.int .i64 q) := fun p' => p'.cell (by show w.heap.size < _; omega) s2
  have l3 : ∀ p' : BW W.heap.size W, p'.v.cell? ⟨w.heap.size + 1, 2, none⟩ = some (.int .i64 kd) := fun p' => p'.cell hlt c2
  clear s0 s1 s2 c0 c1 c2 c3 c4 c5
  go_enter Tryz.func58, Tryz.ntmps58
  go_wp2
  refine wp_region_low (B := W.heap.size) (w := W) (by kernel_rfl) (by kernel_rfl) ?_
  repeat (go_big_quiet_step ((go_at_call 104; exact low_call (HK.out _) (Nat.le_refl _))))
  refine wpQuiet_nil ?_
  intro _ hw'
  obtain ⟨⟨w2, hb2⟩, rfl⟩ := hw'
  have HB2 := Lib.hid (HB0.out.next hb2)
  obtain ⟨s0, s1, s2, c0, c1, c2, c3, c4, c5, hbel, hlt2⟩ := HB2.out
  go_wp2_with (go_at_call 111; refine (HS.out _).mono ?_; intro e w3 h3; obtain ⟨fid, ex, rfl, hk3, hb3⟩ := (OpP.lift h3 HB2.out.bel))
  go_ret
  exact ⟨fid, ex, rfl, hk3, hb3⟩

set_option maxHeartbeats 2000000 in
theorem op_6 (n p q t ob kd a b c : Int) (m : List Nat) (r : MdR) (hk : 0 ≤ kd ∧ kd < Tb.tbKn 6 p) (hS : ∀ W, Calls Tryz.prog 112 #[.int .i64 p, .int .i64 q, callV t ob kd a b c] W (OpP m r W)) (w : World) :
    Calls Tryz.prog 58 #[.int .i64 n, Tb.specV 6 p q, callV t ob kd a b c] w (OpP m r w) := by
  have d1 : decide (kd < 0) = false := decide_eq_false (by omega)
  have d2 : decide (Tb.tbKn 6 p ≤ kd) = false := decide_eq_false (by omega)
  clear hk
  have HS := Lib.hid hS
  have HB0 := Lib.hid (opBox w 6 p q t ob kd a b c)
  unfold opW at HB0
  have hKn := Tb.kinds_any 6 p q
  have HK := Lib.hid hKn
  clear hS hKn
  obtain ⟨s0, s1, s2, c0, c1, c2, c3, c4, c5, _, hlt⟩ := HB0.out
  generalize hW : ((w.alloc (Tb.specO 6 p q)).alloc (callO t ob kd a b c)) = W at *
  unfold Tb.specV Tb.specO at *
  have l0 : ∀ p' : BW W.heap.size W, p'.v.cell? ⟨w.heap.size, 0, none⟩ = some (.int .i64 6) := fun p' => p'.cell (by show w.heap.size < _; omega) s0
  have l1 : ∀ p' : BW W.heap.size W, p'.v.cell? ⟨w.heap.size, 1, none⟩ = some (.int .i64 p) := fun p' => p'.cell (by show w.heap.size < _; omega) s1
  have l2 : ∀ p' : BW W.heap.size W, p'.v.cell? ⟨w.heap.size, 2, none⟩ = some (.int .i64 q) := fun p' => p'.cell (by show w.heap.size < _; omega) s2
  have l3 : ∀ p' : BW W.heap.size W, p'.v.cell? ⟨w.heap.size + 1, 2, none⟩ = some (.int .i64 kd) := fun p' => p'.cell hlt c2
  clear s0 s1 s2 c0 c1 c2 c3 c4 c5
  go_enter Tryz.func58, Tryz.ntmps58
  go_wp2
  refine wp_region_low (B := W.heap.size) (w := W) (by kernel_rfl) (by kernel_rfl) ?_
  repeat (go_big_quiet_step ((go_at_call 104; exact low_call (HK.out _) (Nat.le_refl _))))
  refine wpQuiet_nil ?_
  intro _ hw'
  obtain ⟨⟨w2, hb2⟩, rfl⟩ := hw'
  have HB2 := Lib.hid (HB0.out.next hb2)
  obtain ⟨s0, s1, s2, c0, c1, c2, c3, c4, c5, hbel, hlt2⟩ := HB2.out
  go_wp2_with (go_at_call 112; refine (HS.out _).mono ?_; intro e w3 h3; obtain ⟨fid, ex, rfl, hk3, hb3⟩ := (OpP.lift h3 HB2.out.bel))
  go_ret
  exact ⟨fid, ex, rfl, hk3, hb3⟩

set_option maxHeartbeats 2000000 in
theorem op_7 (n p q t ob kd a b c : Int) (m : List Nat) (r : MdR) (hk : 0 ≤ kd ∧ kd < Tb.tbKn 7 p) (hS : ∀ W, Calls Tryz.prog 113 #[.int .i64 p, .int .i64 q, callV t ob kd a b c] W (OpP m r W)) (w : World) :
    Calls Tryz.prog 58 #[.int .i64 n, Tb.specV 7 p q, callV t ob kd a b c] w (OpP m r w) := by
  have d1 : decide (kd < 0) = false := decide_eq_false (by omega)
  have d2 : decide (Tb.tbKn 7 p ≤ kd) = false := decide_eq_false (by omega)
  clear hk
  have HS := Lib.hid hS
  have HB0 := Lib.hid (opBox w 7 p q t ob kd a b c)
  unfold opW at HB0
  have hKn := Tb.kinds_any 7 p q
  have HK := Lib.hid hKn
  clear hS hKn
  obtain ⟨s0, s1, s2, c0, c1, c2, c3, c4, c5, _, hlt⟩ := HB0.out
  generalize hW : ((w.alloc (Tb.specO 7 p q)).alloc (callO t ob kd a b c)) = W at *
  unfold Tb.specV Tb.specO at *
  have l0 : ∀ p' : BW W.heap.size W, p'.v.cell? ⟨w.heap.size, 0, none⟩ = some (.int .i64 7) := fun p' => p'.cell (by show w.heap.size < _; omega) s0
  have l1 : ∀ p' : BW W.heap.size W, p'.v.cell? ⟨w.heap.size, 1, none⟩ = some (.int .i64 p) := fun p' => p'.cell (by show w.heap.size < _; omega) s1
  have l2 : ∀ p' : BW W.heap.size W, p'.v.cell? ⟨w.heap.size, 2, none⟩ = some (.int .i64 q) := fun p' => p'.cell (by show w.heap.size < _; omega) s2
  have l3 : ∀ p' : BW W.heap.size W, p'.v.cell? ⟨w.heap.size + 1, 2, none⟩ = some (.int .i64 kd) := fun p' => p'.cell hlt c2
  clear s0 s1 s2 c0 c1 c2 c3 c4 c5
  go_enter Tryz.func58, Tryz.ntmps58
  go_wp2
  refine wp_region_low (B := W.heap.size) (w := W) (by kernel_rfl) (by kernel_rfl) ?_
  repeat (go_big_quiet_step ((go_at_call 104; exact low_call (HK.out _) (Nat.le_refl _))))
  refine wpQuiet_nil ?_
  intro _ hw'
  obtain ⟨⟨w2, hb2⟩, rfl⟩ := hw'
  have HB2 := Lib.hid (HB0.out.next hb2)
  obtain ⟨s0, s1, s2, c0, c1, c2, c3, c4, c5, hbel, hlt2⟩ := HB2.out
  go_wp2_with (go_at_call 113; refine (HS.out _).mono ?_; intro e w3 h3; obtain ⟨fid, ex, rfl, hk3, hb3⟩ := (OpP.lift h3 HB2.out.bel))
  go_ret
  exact ⟨fid, ex, rfl, hk3, hb3⟩

set_option maxHeartbeats 2000000 in
theorem op_8 (n p q t ob kd a b c : Int) (m : List Nat) (r : MdR) (hk : 0 ≤ kd ∧ kd < Tb.tbKn 8 p) (hS : ∀ W, Calls Tryz.prog 114 #[callV t ob kd a b c] W (OpP m r W)) (w : World) :
    Calls Tryz.prog 58 #[.int .i64 n, Tb.specV 8 p q, callV t ob kd a b c] w (OpP m r w) := by
  have d1 : decide (kd < 0) = false := decide_eq_false (by omega)
  have d2 : decide (Tb.tbKn 8 p ≤ kd) = false := decide_eq_false (by omega)
  clear hk
  have HS := Lib.hid hS
  have HB0 := Lib.hid (opBox w 8 p q t ob kd a b c)
  unfold opW at HB0
  have hKn := Tb.kinds_any 8 p q
  have HK := Lib.hid hKn
  clear hS hKn
  obtain ⟨s0, s1, s2, c0, c1, c2, c3, c4, c5, _, hlt⟩ := HB0.out
  generalize hW : ((w.alloc (Tb.specO 8 p q)).alloc (callO t ob kd a b c)) = W at *
  unfold Tb.specV Tb.specO at *
  have l0 : ∀ p' : BW W.heap.size W, p'.v.cell? ⟨w.heap.size, 0, none⟩ = some (.int .i64 8) := fun p' => p'.cell (by show w.heap.size < _; omega) s0
  have l1 : ∀ p' : BW W.heap.size W, p'.v.cell? ⟨w.heap.size, 1, none⟩ = some (.int .i64 p) := fun p' => p'.cell (by show w.heap.size < _; omega) s1
  have l2 : ∀ p' : BW W.heap.size W, p'.v.cell? ⟨w.heap.size, 2, none⟩ = some (.int .i64 q) := fun p' => p'.cell (by show w.heap.size < _; omega) s2
  have l3 : ∀ p' : BW W.heap.size W, p'.v.cell? ⟨w.heap.size + 1, 2, none⟩ = some (.int .i64 kd) := fun p' => p'.cell hlt c2
  clear s0 s1 s2 c0 c1 c2 c3 c4 c5
  go_enter Tryz.func58, Tryz.ntmps58
  go_wp2
  refine wp_region_low (B := W.heap.size) (w := W) (by kernel_rfl) (by kernel_rfl) ?_
  repeat (go_big_quiet_step ((go_at_call 104; exact low_call (HK.out _) (Nat.le_refl _))))
  refine wpQuiet_nil ?_
  intro _ hw'
  obtain ⟨⟨w2, hb2⟩, rfl⟩ := hw'
  have HB2 := Lib.hid (HB0.out.next hb2)
  obtain ⟨s0, s1, s2, c0, c1, c2, c3, c4, c5, hbel, hlt2⟩ := HB2.out
  go_wp2_with (go_at_call 114; refine (HS.out _).mono ?_; intro e w3 h3; obtain ⟨fid, ex, rfl, hk3, hb3⟩ := (OpP.lift h3 HB2.out.bel))
  go_ret
  exact ⟨fid, ex, rfl, hk3, hb3⟩

set_option maxHeartbeats 2000000 in
theorem op_9 (n p q t ob kd a b c : Int) (m : List Nat) (r : MdR) (hk : 0 ≤ kd ∧ kd < Tb.tbKn 9 p) (hS : ∀ W, Calls Tryz.prog 115 #[.int .i64 p, callV t ob kd a b c] W (OpP m r W)) (w : World) :
    Calls Tryz.prog 58 #[.int .i64 n, Tb.specV 9 p q, callV t ob kd a b c] w (OpP m r w) := by
  have d1 : decide (kd < 0) = false := decide_eq_false (by omega)
  have d2 : decide (Tb.tbKn 9 p ≤ kd) = false := decide_eq_false (by omega)
  clear hk
  have HS := Lib.hid hS
  have HB0 := Lib.hid (opBox w 9 p q t ob kd a b c)
  unfold opW at HB0
  have hKn := Tb.kinds_any 9 p q
  have HK := Lib.hid hKn
  clear hS hKn
  obtain ⟨s0, s1, s2, c0, c1, c2, c3, c4, c5, _, hlt⟩ := HB0.out
  generalize hW : ((w.alloc (Tb.specO 9 p q)).alloc (callO t ob kd a b c)) = W at *
  unfold Tb.specV Tb.specO at *
  have l0 : ∀ p' : BW W.heap.size W, p'.v.cell? ⟨w.heap.size, 0, none⟩ = some (.int .i64 9) := fun p' => p'.cell (by show w.heap.size < _; omega) s0
  have l1 : ∀ p' : BW W.heap.size W, p'.v.cell? ⟨w.heap.size, 1, none⟩ = some (.int .i64 p) := fun p' => p'.cell (by show w.heap.size < _; omega) s1
  have l2 : ∀ p' : BW W.heap.size W, p'.v.cell? ⟨w.heap.size, 2, none⟩ = some (.int .i64 q) := fun p' => p'.cell (by show w.heap.size < _; omega) s2
  have l3 : ∀ p' : BW W.heap.size W, p'.v.cell? ⟨w.heap.size + 1, 2, none⟩ = some (.int .i64 kd) := fun p' => p'.cell hlt c2
  clear s0 s1 s2 c0 c1 c2 c3 c4 c5
  go_enter Tryz.func58, Tryz.ntmps58
  go_wp2
  refine wp_region_low (B := W.heap.size) (w := W) (by kernel_rfl) (by kernel_rfl) ?_
  repeat (go_big_quiet_step ((go_at_call 104; exact low_call (HK.out _) (Nat.le_refl _))))
  refine wpQuiet_nil ?_
  intro _ hw'
  obtain ⟨⟨w2, hb2⟩, rfl⟩ := hw'
  have HB2 := Lib.hid (HB0.out.next hb2)
  obtain ⟨s0, s1, s2, c0, c1, c2, c3, c4, c5, hbel, hlt2⟩ := HB2.out
  go_wp2_with (go_at_call 115; refine (HS.out _).mono ?_; intro e w3 h3; obtain ⟨fid, ex, rfl, hk3, hb3⟩ := (OpP.lift h3 HB2.out.bel))
  go_ret
  exact ⟨fid, ex, rfl, hk3, hb3⟩

set_option maxHeartbeats 2000000 in
theorem op_kind (n p q t ob kd a b c : Int) (k : Int) (m : List Nat) (hk : ¬ (0 ≤ kd ∧ kd < Tb.tbKn k p)) (w : World) :
    Calls Tryz.prog 58 #[.int .i64 n, Tb.specV k p q, callV t ob kd a b c] w (OpP m ⟨m, 9, 0, []⟩ w) := by
  have hS : ∀ W, Calls Tryz.prog 105 #[.int .i64 9] W (OpP m ⟨m, 9, 0, []⟩ W) := fun W => fail_any 9 W m
  by_cases h0 : kd < 0
  · have d1 : decide (kd < 0) = true := decide_eq_true h0
    clear hk
    have HS := Lib.hid hS
    have HB0 := Lib.hid (opBox w k p q t ob kd a b c)
    unfold opW at HB0
    have hKn := Tb.kinds_any k p q
    have HK := Lib.hid hKn
    clear hS hKn
    obtain ⟨s0, s1, s2, c0, c1, c2, c3, c4, c5, _, hlt⟩ := HB0.out
    generalize hW : ((w.alloc (Tb.specO k p q)).alloc (callO t ob kd a b c)) = W at *
    unfold Tb.specV Tb.specO at *
    have l0 : ∀ p' : BW W.heap.size W, p'.v.cell? ⟨w.heap.size, 0, none⟩ = some (.int .i64 k) := fun p' => p'.cell (by show w.heap.size < _; omega) s0
    have l1 : ∀ p' : BW W.heap.size W, p'.v.cell? ⟨w.heap.size, 1, none⟩ = some (.int .i64 p) := fun p' => p'.cell (by show w.heap.size < _; omega) s1
    have l2 : ∀ p' : BW W.heap.size W, p'.v.cell? ⟨w.heap.size, 2, none⟩ = some (.int .i64 q) := fun p' => p'.cell (by show w.heap.size < _; omega) s2
    have l3 : ∀ p' : BW W.heap.size W, p'.v.cell? ⟨w.heap.size + 1, 2, none⟩ = some (.int .i64 kd) := fun p' => p'.cell hlt c2
    clear s0 s1 s2 c0 c1 c2 c3 c4 c5
    go_enter Tryz.func58, Tryz.ntmps58
    go_wp2
    refine wp_region_low (B := W.heap.size) (w := W) (by kernel_rfl) (by kernel_rfl) ?_
    repeat (go_big_quiet_step ((go_at_call 104; exact low_call (HK.out _) (Nat.le_refl _))))
    refine wpQuiet_nil ?_
    intro _ hw'
    obtain ⟨⟨w2, hb2⟩, rfl⟩ := hw'
    have HB2 := Lib.hid (HB0.out.next hb2)
    obtain ⟨s0, s1, s2, c0, c1, c2, c3, c4, c5, hbel, hlt2⟩ := HB2.out
    go_wp2_with (go_at_call 105; refine (HS.out _).mono ?_; intro e w3 h3; obtain ⟨fid, ex, rfl, hk3, hb3⟩ := (OpP.lift h3 HB2.out.bel))
    go_ret
    exact ⟨fid, ex, rfl, hk3, hb3⟩
  · have d1 : decide (kd < 0) = false := decide_eq_false h0
    have d2 : decide (Tb.tbKn k p ≤ kd) = true := decide_eq_true (by omega)
    clear hk
    have HS := Lib.hid hS
    have HB0 := Lib.hid (opBox w k p q t ob kd a b c)
    unfold opW at HB0
    have hKn := Tb.kinds_any k p q
    have HK := Lib.hid hKn
    clear hS hKn
    obtain ⟨s0, s1, s2, c0, c1, c2, c3, c4, c5, _, hlt⟩ := HB0.out
    generalize hW : ((w.alloc (Tb.specO k p q)).alloc (callO t ob kd a b c)) = W at *
    unfold Tb.specV Tb.specO at *
    have l0 : ∀ p' : BW W.heap.size W, p'.v.cell? ⟨w.heap.size, 0, none⟩ = some (.int .i64 k) := fun p' => p'.cell (by show w.heap.size < _; omega) s0
    have l1 : ∀ p' : BW W.heap.size W, p'.v.cell? ⟨w.heap.size, 1, none⟩ = some (.int .i64 p) := fun p' => p'.cell (by show w.heap.size < _; omega) s1
    have l2 : ∀ p' : BW W.heap.size W, p'.v.cell? ⟨w.heap.size, 2, none⟩ = some (.int .i64 q) := fun p' => p'.cell (by show w.heap.size < _; omega) s2
    have l3 : ∀ p' : BW W.heap.size W, p'.v.cell? ⟨w.heap.size + 1, 2, none⟩ = some (.int .i64 kd) := fun p' => p'.cell hlt c2
    clear s0 s1 s2 c0 c1 c2 c3 c4 c5
    go_enter Tryz.func58, Tryz.ntmps58
    go_wp2
    refine wp_region_low (B := W.heap.size) (w := W) (by kernel_rfl) (by kernel_rfl) ?_
    repeat (go_big_quiet_step ((go_at_call 104; exact low_call (HK.out _) (Nat.le_refl _))))
    refine wpQuiet_nil ?_
    intro _ hw'
    obtain ⟨⟨w2, hb2⟩, rfl⟩ := hw'
    have HB2 := Lib.hid (HB0.out.next hb2)
    obtain ⟨s0, s1, s2, c0, c1, c2, c3, c4, c5, hbel, hlt2⟩ := HB2.out
    go_wp2_with (go_at_call 105; refine (HS.out _).mono ?_; intro e w3 h3; obtain ⟨fid, ex, rfl, hk3, hb3⟩ := (OpP.lift h3 HB2.out.bel))
    go_ret
    exact ⟨fid, ex, rfl, hk3, hb3⟩
end Go.Proofs.YtmocjpcnohnfpaaGreat
