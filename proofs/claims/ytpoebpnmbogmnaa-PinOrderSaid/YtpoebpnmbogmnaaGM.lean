/- Models of one word: walks of Size, New, Apply, Legal. | Models of one word: what all of them share. -/
import Derived.Test.YtpoebpnmbogmnaaGQ2
import Derived.Test.YtpoebpnmbogmnaaGN
import Derived.Test.YtpoebpnmbogmnaaGK
import Derived.Test.YtpoebpnmbogmnaaUO
namespace Go.Proofs.Ytpoebpnmbogmnaa
section
open Go.ChangeShapes Go.WideShapes Go.ChangeAt Go.RowKit
set_option linter.unusedVariables false
set_option linter.unusedSimpArgs false

/-- a slice of one word at the head of a block of its own -/
def Own1 (w : World) (g y : Nat) : Prop := ∃ cur, w.heap[g]? = some (.cells cur 37 (0, 0)) ∧ cur[0]? = some (mkU y)
section
variable {w w' : World} {g y : Nat}
theorem Own1.cell (h : Own1 w g y) : w.cell? ⟨g, 0, none⟩ = some (.int .u64 (y : Int)) := by obtain ⟨cur, h1, h2⟩ := h; exact cell_of_heap h1 h2
theorem Own1.free (h : Own1 w g y) : w.frozen? ⟨g, 0, none⟩ = false := by obtain ⟨cur, h1, _⟩ := h; exact free_of_heap h1
theorem Own1.lt (h : Own1 w g y) : g < w.heap.size := by obtain ⟨cur, h1, _⟩ := h; exact lt_of_heap h1
theorem Own1.same (h : Own1 w g y) (e : w'.heap[g]? = w.heap[g]?) : Own1 w' g y := by obtain ⟨cur, h1, h2⟩ := h; exact ⟨cur, e.trans h1, h2⟩
theorem Own1.alloc (h : Own1 w g y) (o : Obj) : Own1 (w.alloc o) g y := h.same (Below.heap_alloc _ _ _ h.lt)
theorem Own1.drewN (h : Own1 w g y) (n : Nat) : Own1 (w.drewN n) g y := h
theorem Own1.other (h : Own1 w g y) {a : Addr} (ha : g ≠ a.block) (v : Value) : Own1 (w.setCell a v) g y := h.same (Below.heap_setCell _ _ _ _ ha)
theorem Own1.put (h : Own1 w g y) (z : Nat) : Own1 (w.setCell ⟨g, 0, none⟩ (.int .u64 (z : Int))) g z := by
  obtain ⟨cur, h1, h2⟩ := h
  have hl : 0 < cur.size := by
    cases hc : cur.size with
    | zero => rw [Array.getElem?_eq_none (by omega)] at h2; cases h2
    | succ n => omega
  refine ⟨cur.setIfInBounds 0 (.int .u64 (z : Int)), ?_, ?_⟩
  · simp [World.setCell, Array.getElem?_modify, h1]
  · rw [Array.getElem?_setIfInBounds]; simp [hl, mkU]
theorem Own1.list (h : Own1 w g y) (cap : Nat) (p : Nat → Prop) (hp : p g) : ListAt w 37 mkU p (.slice (some ⟨g, 0, none⟩) 1 cap) [y] := by
  refine ⟨some ⟨g, 0, none⟩, g, 0, cap, rfl, fun _ => ⟨rfl, hp, ?_⟩, fun e => (by cases e), by simp, fun i x hx => ?_⟩
  · obtain ⟨cur, h1, _⟩ := h; exact ⟨cur, h1⟩
  · match i, hx with
    | 0, hx => cases hx; exact h.cell
    | i + 1, hx => simp at hx
end
/-- what an operation of a model of one word gives -/
def OneOut (r : List Nat × Ans) (g cap : Nat) (W : World) (e : Ending) (w' : World) : Prop :=
  e = .returned (.tuple #[.slice (some ⟨g, 0, none⟩) 1 cap, .agg #[.int .i64 (r.2.err : Int), .int .u64 (r.2.val : Int), .slice none 0 0]]) ∧ Own1 w' g (r.1.getD 0 0) ∧ ButS (fun b => b = g) W w'

def specAgg (k p q : Int) : Value := .agg #[.int .i64 k, .int .i64 p, .int .i64 q]
structure ModelC (D : Mod) (Inv : List Nat → Prop) (n k p q : Int) : Prop where
  size : ∀ W, Calls Try.prog 41 #[.int .i64 n, specAgg k p q] W fun e w' => ∃ s : Int, e = .returned (.int .i64 s) ∧ 0 ≤ s ∧ Below W.heap.size W w'
  new : ∀ W, Calls Try.prog 42 #[.int .i64 n, specAgg k p q] W fun e w' => ∃ v, e = .returned v ∧ ListAt w' 37 mkU (fun b => W.heap.size ≤ b) v D.st0 ∧ Below W.heap.size W w'
  apply : ∀ (W : World) (v : Value) (st : List Nat) (x : CallV) (pr : Nat → Prop), Inv st → x.a < 18446744073709551616 → ListAt W 37 mkU pr v st → Calls Try.prog 45 #[.int .i64 n, specAgg k p q, v, callAgg x] W fun e w' =>
    ∃ v' lv, e = .returned (.tuple #[v', .agg #[.int .i64 ((D.ap st x).2.err : Int), .int .u64 ((D.ap st x).2.val : Int), lv]]) ∧ ListAt w' 37 mkU (fun b => W.heap.size ≤ b) v' (D.ap st x).1 ∧ ListAt w' 37 mkU (fun b => W.heap.size ≤ b) lv (D.ap st x).2.list ∧ Below W.heap.size W w'
  legal : ∀ (W : World) (v lv : Value) (st : List Nat) (x : CallV) (pr qr : Nat → Prop), Inv st → x.a < 18446744073709551616 → ListAt W 37 mkU pr v st → ListAt W 37 mkU qr lv (D.ap st x).2.list →
    Calls Try.prog 46 #[.int .i64 n, specAgg k p q, v, callAgg x, .agg #[.int .i64 ((D.ap st x).2.err : Int), .int .u64 ((D.ap st x).2.val : Int), lv]] W fun e w' =>
      ∃ v', e = .returned (.tuple #[v', .bool true]) ∧ ListAt w' 37 mkU (fun b => W.heap.size ≤ b) v' (D.ap st x).1 ∧ Below W.heap.size W w'
  inv0 : Inv D.st0
  invS : ∀ st x, Inv st → x.a < 18446744073709551616 → Inv (D.ap st x).1

set_option maxRecDepth 20000 in
set_option maxHeartbeats 2000000 in
theorem legal_any {D : Mod} {Inv : List Nat → Prop} {n k p q : Int} (hk : ¬ k = 8)
    (hap : ∀ (W : World) (v : Value) (st : List Nat) (x : CallV) (pr : Nat → Prop), Inv st → x.a < 18446744073709551616 → ListAt W 37 mkU pr v st → Calls Try.prog 45 #[.int .i64 n, specAgg k p q, v, callAgg x] W fun e w' =>
      ∃ v' lv, e = .returned (.tuple #[v', .agg #[.int .i64 ((D.ap st x).2.err : Int), .int .u64 ((D.ap st x).2.val : Int), lv]]) ∧ ListAt w' 37 mkU (fun b => W.heap.size ≤ b) v' (D.ap st x).1 ∧ ListAt w' 37 mkU (fun b => W.heap.size ≤ b) lv (D.ap st x).2.list ∧ Below W.heap.size W w')
    (W : World) (v lv : Value) (st : List Nat) (x : CallV) (pr qr : Nat → Prop) (hI : Inv st) (hx : x.a < 18446744073709551616) (hv : ListAt W 37 mkU pr v st) (hl : ListAt W 37 mkU qr lv (D.ap st x).2.list) :
    Calls Try.prog 46 #[.int .i64 n, specAgg k p q, v, callAgg x, .agg #[.int .i64 ((D.ap st x).2.err : Int), .int .u64 ((D.ap st x).2.val : Int), lv]] W fun e w' =>
      ∃ v', e = .returned (.tuple #[v', .bool true]) ∧ ListAt w' 37 mkU (fun b => W.heap.size ≤ b) v' (D.ap st x).1 ∧ Below W.heap.size W w' := by
  generalize hr : D.ap st x = r at *
  obtain ⟨st', er, vl, ls⟩ := r
  obtain ⟨lao, lcap, rfl⟩ := hl.isSlice
  have HAP : Hid (∀ W', Below W.heap.size W W' → Calls Try.prog 45 #[.int .i64 n, specAgg k p q, v, callAgg x] W' fun e w' =>
      ∃ v' lv, e = .returned (.tuple #[v', .agg #[.int .i64 (er : Int), .int .u64 (vl : Int), lv]]) ∧ ListAt w' 37 mkU (fun b => W'.heap.size ≤ b) v' st' ∧ ListAt w' 37 mkU (fun b => W'.heap.size ≤ b) lv ls ∧ Below W'.heap.size W' w') := Lib.hid (fun W' hW' => by
    have h := hap W' v st x (fun b => b < W.heap.size) hI hx (hv.keep (fun b hb _ => ⟨hW'.block b hb.lt, hb.lt⟩))
    rw [hr] at h; exact h)
  have HL : Hid (∀ W', Below W.heap.size W W' → ListAt W' 37 mkU (fun b => b < W.heap.size) (.slice lao ls.length lcap) ls) := Lib.hid (fun W' hW' => hl.keep (fun b hb _ => ⟨hW'.block b hb.lt, hb.lt⟩))
  obtain ⟨sao, scap, rfl⟩ := hv.isSlice
  clear hap hr hv hl hI hx
  unfold specAgg callAgg at *
  go_enter Try.func46, Try.ntmps46
  go_wp2_with fail
  generalize hw2 : ((W.alloc (.cells #[.int .i64 k, .int .i64 p, .int .i64 q] 48)).alloc (.cells #[.int .i64 x.t, .int .i64 x.o, .int .i64 x.k, .int .u64 (x.a : Int), .int .u64 (x.b : Int), .int .u64 (x.c : Int)] 43)).alloc (.cells #[.int .i64 (er : Int), .int .u64 (vl : Int), .slice lao ls.length lcap] 39) = W2
  have HB2 : Hid (Below W.heap.size W W2) := Lib.hid (by rw [← hw2]; exact (((Below.refl _ _).alloc (Nat.le_refl _) _).alloc (by simp) _).alloc (by simp; omega) _)
  have hs2 : W2.heap.size = W.heap.size + 1 + 1 + 1 := by rw [← hw2]; simp
  have HS2 : Hid (RowBlk 48 W2 W.heap.size [.int .i64 k, .int .i64 p, .int .i64 q]) := Lib.hid (by rw [← hw2]; exact ((RowBlk.new W [.int .i64 k, .int .i64 p, .int .i64 q] 48).alloc _).alloc _)
  have HA2 : Hid (RowBlk 39 W2 (W.heap.size + 1 + 1) [.int .i64 (er : Int), .int .u64 (vl : Int), .slice lao ls.length lcap]) := Lib.hid (by
    rw [← hw2]
    have := RowBlk.new ((W.alloc (.cells #[.int .i64 k, .int .i64 p, .int .i64 q] 48)).alloc (.cells #[.int .i64 x.t, .int .i64 x.o, .int .i64 x.k, .int .u64 (x.a : Int), .int .u64 (x.b : Int), .int .u64 (x.c : Int)] 43)) [.int .i64 (er : Int), .int .u64 (vl : Int), .slice lao ls.length lcap] 39
    simpa using this)
  clear hw2
  refine (HAP.out W2 HB2.out).mono ?_
  rintro e w3 ⟨v', lv', rfl, hv', hl', hb3⟩
  obtain ⟨ao', cap', rfl⟩ := hv'.isSlice
  obtain ⟨lao', lcap', rfl⟩ := hl'.isSlice
  have HV := Lib.hid hv'
  have HL' := Lib.hid hl'
  have HB3 : Hid (Below W.heap.size W w3) := Lib.hid (HB2.out.trans (hb3.mono HB2.out.size))
  have hs3 := HS2.out.same (hb3.block _ (by omega))
  have ha3 := HA2.out.same (hb3.block _ (by omega))
  have s0 : w3.cell? ⟨W.heap.size, 0, none⟩ = some (.int .i64 k) := hs3.cell rfl
  have a0 : w3.cell? ⟨W.heap.size + 1 + 1, 0, none⟩ = some (.int .i64 (er : Int)) := ha3.cell rfl
  have a1 : w3.cell? ⟨W.heap.size + 1 + 1, 1, none⟩ = some (.int .u64 (vl : Int)) := ha3.cell rfl
  have a2 : w3.cell? ⟨W.heap.size + 1 + 1, 2, none⟩ = some (.slice lao ls.length lcap) := ha3.cell rfl
  have zz : W.heap.size + 1 + 1 < w3.heap.size := ha3.lt
  have zl : W.heap.size < w3.heap.size := hs3.lt
  have z3 := HB3.out.size
  have hz3 : W2.heap.size ≤ w3.heap.size := hb3.size
  have n8 : decide (k = 8) = false := decide_eq_false hk
  clear hv' hl' hb3 hs3 ha3
  go_wp2_with fail
  obtain ⟨_, gb, go, gc, he1, h1, _, _, h4⟩ := HL.out _ (HB3.out.alloc z3 (.cells #[.int .i64 (er : Int), .int .u64 (vl : Int), .slice lao' ls.length lcap'] 39))
  cases he1
  obtain ⟨_, gb', go', gc', he2, h1', _, hll, h4'⟩ := HL'.out
  cases he2
  refine (same_yes lao lao' gb go lcap gb' go' lcap' ls _ (by omega) (fun h => (h1 h).1) (fun h => (h1' h).1) (fun i x hx => h4 i x hx) (fun i x hx => ?_)).mono ?_
  · have hlt := World.block_lt_of_cell? w3 ⟨gb', go' + i, none⟩ (h4' i x hx)
    exact (World.cell?_alloc_past _ _ _ hlt).trans (h4' i x hx)
  rintro e w4 ⟨rfl, m, rfl⟩
  go_wp2_with fail
  go_ret2
  refine ⟨_, rfl, HV.out.keep (fun b hb hB => ⟨?_, by omega⟩), below_drewN (HB3.out.alloc z3 _) m⟩
  exact Below.heap_alloc _ _ _ hb.lt


theorem wrap_add (a b : Nat) : IntKind.u64.wrap ((a : Int) + (b : Int)) = (((a + b) % 18446744073709551616 : Nat) : Int) := by unfold IntKind.wrap; simp [IntKind.bits, IntKind.signed]
theorem wrap_one (a : Nat) : IntKind.u64.wrap ((a : Int) + 1) = (((a + 1) % 18446744073709551616 : Nat) : Int) := by unfold IntKind.wrap; simp [IntKind.bits, IntKind.signed]
/-- a model's answer in its place, and its word -/
theorem one_end {W W1 : World} {g y' cap er vl : Nat} (h : Own1 W1 g y') (hb : ButS (fun b => b = g) W W1) (o : Obj) : Own1 ((W1.alloc o).alloc (.cells #[.int .i64 (er : Int), .int .u64 (vl : Int), .slice none 0 0] 39)) g y' ∧ ButS (fun b => b = g) W ((W1.alloc o).alloc (.cells #[.int .i64 (er : Int), .int .u64 (vl : Int), .slice none 0 0] 39)) ∧
    RowBlk 39 ((W1.alloc o).alloc (.cells #[.int .i64 (er : Int), .int .u64 (vl : Int), .slice none 0 0] 39)) (W1.heap.size + 1) [.int .i64 (er : Int), .int .u64 (vl : Int), .slice none 0 0] := by
  refine ⟨(h.alloc _).alloc _, (hb.alloc _).alloc _, ?_⟩
  have h1 := RowBlk.new (W1.alloc o) [.int .i64 (er : Int), .int .u64 (vl : Int), .slice none 0 0] 39
  have e : (W1.alloc o).heap.size = W1.heap.size + 1 := by simp
  rw [e] at h1; exact h1
set_option maxRecDepth 20000 in
theorem m_add0 (x : CallV) (g cap y : Nat) (W : World) (h : Own1 W g y) (hx : x.k = 0) : Calls Try.prog 68 #[.slice (some ⟨g, 0, none⟩) 1 cap, callAgg x] W (OneOut ([(y + x.a) % 18446744073709551616], ⟨0, y, []⟩) g cap W) := by
  have H := Lib.hid h
  have c0 := h.cell
  have f0 := h.free
  have hg := h.lt
  clear h
  unfold callAgg
  rw [hx]
  go_enter Try.func68, Try.ntmps68
  go_wp2_with fail
  rw [wrap_add]
  have HX := Lib.hid (one_end (W := W) (W1 := W.setCell ⟨g, 0, none⟩ (.int .u64 (((y + x.a) % 18446744073709551616 : Nat) : Int))) (y' := (y + x.a) % 18446744073709551616) (cap := cap) (er := 0) (vl := y) (H.out.put _) ((ButS.refl (fun b => b = g) W).setCell (.inl (show g = g from rfl)) _) (.cells #[.int .i64 x.t, .int .i64 x.o, .int .i64 0, .int .u64 (x.a : Int), .int .u64 (x.b : Int), .int .u64 (x.c : Int)] 43))
  have hs : (W.setCell ⟨g, 0, none⟩ (.int .u64 (((y + x.a) % 18446744073709551616 : Nat) : Int))).heap.size = W.heap.size := by simp [World.setCell]
  rw [hs] at HX
  generalize ((W.setCell ⟨g, 0, none⟩ (.int .u64 (((y + x.a) % 18446744073709551616 : Nat) : Int))).alloc (.cells #[.int .i64 x.t, .int .i64 x.o, .int .i64 0, .int .u64 (x.a : Int), .int .u64 (x.b : Int), .int .u64 (x.c : Int)] 43)).alloc (.cells #[.int .i64 ((0 : Nat) : Int), .int .u64 ((y : Nat) : Int), .slice none 0 0] 39) = W5 at HX ⊢
  have q0 := HX.out.2.2.cell (i := 0) rfl
  have q1 := HX.out.2.2.cell (i := 1) rfl
  have q2 := HX.out.2.2.cell (i := 2) rfl
  exact bodyPost_ret (v := .tuple #[.slice (some ⟨g, 0, none⟩) 1 cap, .agg #[.int .i64 ((0 : Nat) : Int), .int .u64 ((y : Nat) : Int), .slice none 0 0]]) (by simp [results, Try.results68, go_sem, q0, q1, q2]) rfl ⟨rfl, HX.out.1, HX.out.2.1⟩
set_option maxRecDepth 20000 in
theorem m_add1 (x : CallV) (g cap y : Nat) (W : World) (h : Own1 W g y) (hx : x.k = 1) : Calls Try.prog 68 #[.slice (some ⟨g, 0, none⟩) 1 cap, callAgg x] W (OneOut ([y], ⟨0, y, []⟩) g cap W) := by
  have H := Lib.hid h
  have c0 := h.cell
  have f0 := h.free
  have hg := h.lt
  clear h
  unfold callAgg
  rw [hx]
  go_enter Try.func68, Try.ntmps68
  go_wp2_with fail
  have HX := Lib.hid (one_end (W := W) (W1 := W) (y' := y) (cap := cap) (er := 0) (vl := y) H.out (ButS.refl _ W) (.cells #[.int .i64 x.t, .int .i64 x.o, .int .i64 1, .int .u64 (x.a : Int), .int .u64 (x.b : Int), .int .u64 (x.c : Int)] 43))
  generalize ((W).alloc (.cells #[.int .i64 x.t, .int .i64 x.o, .int .i64 1, .int .u64 (x.a : Int), .int .u64 (x.b : Int), .int .u64 (x.c : Int)] 43)).alloc (.cells #[.int .i64 ((0 : Nat) : Int), .int .u64 ((y : Nat) : Int), .slice none 0 0] 39) = W5 at HX ⊢
  have q0 := HX.out.2.2.cell (i := 0) rfl
  have q1 := HX.out.2.2.cell (i := 1) rfl
  have q2 := HX.out.2.2.cell (i := 2) rfl
  exact bodyPost_ret (v := .tuple #[.slice (some ⟨g, 0, none⟩) 1 cap, .agg #[.int .i64 ((0 : Nat) : Int), .int .u64 ((y : Nat) : Int), .slice none 0 0]]) (by simp [results, Try.results68, go_sem, q0, q1, q2]) rfl ⟨rfl, HX.out.1, HX.out.2.1⟩
set_option maxRecDepth 20000 in
theorem m_add2 (x : CallV) (g cap y : Nat) (W : World) (h : Own1 W g y) (hx : x.k = 2) : Calls Try.prog 68 #[.slice (some ⟨g, 0, none⟩) 1 cap, callAgg x] W (OneOut ([(y + 1) % 18446744073709551616], ⟨0, y, []⟩) g cap W) := by
  have H := Lib.hid h
  have c0 := h.cell
  have f0 := h.free
  have hg := h.lt
  clear h
  unfold callAgg
  rw [hx]
  go_enter Try.func68, Try.ntmps68
  go_wp2_with fail
  rw [wrap_one]
  have HX := Lib.hid (one_end (W := W) (W1 := W.setCell ⟨g, 0, none⟩ (.int .u64 (((y + 1) % 18446744073709551616 : Nat) : Int))) (y' := (y + 1) % 18446744073709551616) (cap := cap) (er := 0) (vl := y) (H.out.put _) ((ButS.refl (fun b => b = g) W).setCell (.inl (show g = g from rfl)) _) (.cells #[.int .i64 x.t, .int .i64 x.o, .int .i64 2, .int .u64 (x.a : Int), .int .u64 (x.b : Int), .int .u64 (x.c : Int)] 43))
  have hs : (W.setCell ⟨g, 0, none⟩ (.int .u64 (((y + 1) % 18446744073709551616 : Nat) : Int))).heap.size = W.heap.size := by simp [World.setCell]
  rw [hs] at HX
  generalize ((W.setCell ⟨g, 0, none⟩ (.int .u64 (((y + 1) % 18446744073709551616 : Nat) : Int))).alloc (.cells #[.int .i64 x.t, .int .i64 x.o, .int .i64 2, .int .u64 (x.a : Int), .int .u64 (x.b : Int), .int .u64 (x.c : Int)] 43)).alloc (.cells #[.int .i64 ((0 : Nat) : Int), .int .u64 ((y : Nat) : Int), .slice none 0 0] 39) = W5 at HX ⊢
  have q0 := HX.out.2.2.cell (i := 0) rfl
  have q1 := HX.out.2.2.cell (i := 1) rfl
  have q2 := HX.out.2.2.cell (i := 2) rfl
  exact bodyPost_ret (v := .tuple #[.slice (some ⟨g, 0, none⟩) 1 cap, .agg #[.int .i64 ((0 : Nat) : Int), .int .u64 ((y : Nat) : Int), .slice none 0 0]]) (by simp [results, Try.results68, go_sem, q0, q1, q2]) rfl ⟨rfl, HX.out.1, HX.out.2.1⟩
set_option maxRecDepth 20000 in
theorem m_add9 (x : CallV) (g cap y : Nat) (W : World) (h : Own1 W g y) (h0 : ¬ x.k = 0) (h1 : ¬ x.k = 1) (h2 : ¬ x.k = 2) : Calls Try.prog 68 #[.slice (some ⟨g, 0, none⟩) 1 cap, callAgg x] W (OneOut ([y], ⟨9, 0, []⟩) g cap W) := by
  have H := Lib.hid h
  have c0 := h.cell
  have f0 := h.free
  have hg := h.lt
  clear h
  unfold callAgg
  go_enter Try.func68, Try.ntmps68
  go_wp2_with fail
  have HX := Lib.hid (one_end (W := W) (W1 := W) (y' := y) (cap := cap) (er := 9) (vl := 0) H.out (ButS.refl _ W) (.cells #[.int .i64 x.t, .int .i64 x.o, .int .i64 x.k, .int .u64 (x.a : Int), .int .u64 (x.b : Int), .int .u64 (x.c : Int)] 43))
  generalize ((W).alloc (.cells #[.int .i64 x.t, .int .i64 x.o, .int .i64 x.k, .int .u64 (x.a : Int), .int .u64 (x.b : Int), .int .u64 (x.c : Int)] 43)).alloc (.cells #[.int .i64 ((9 : Nat) : Int), .int .u64 ((0 : Nat) : Int), .slice none 0 0] 39) = W5 at HX ⊢
  have q0 := HX.out.2.2.cell (i := 0) rfl
  have q1 := HX.out.2.2.cell (i := 1) rfl
  have q2 := HX.out.2.2.cell (i := 2) rfl
  exact bodyPost_ret (v := .tuple #[.slice (some ⟨g, 0, none⟩) 1 cap, .agg #[.int .i64 ((9 : Nat) : Int), .int .u64 ((0 : Nat) : Int), .slice none 0 0]]) (by simp [results, Try.results68, go_sem, q0, q1, q2]) rfl ⟨rfl, HX.out.1, HX.out.2.1⟩
set_option maxRecDepth 20000 in
theorem m_con9 (x : CallV) (g cap y : Nat) (W : World) (h : Own1 W g y) (h0 : ¬ x.k = 0) (h1 : ¬ x.k = 1) : Calls Try.prog 67 #[.slice (some ⟨g, 0, none⟩) 1 cap, callAgg x] W (OneOut ([y], ⟨9, 0, []⟩) g cap W) := by
  have H := Lib.hid h
  have c0 := h.cell
  have f0 := h.free
  have hg := h.lt
  clear h
  unfold callAgg
  have n0 : (x.k != 0) = true := by rw [bne_iff_ne]; exact h0
  have n1 : (x.k != 1) = true := by rw [bne_iff_ne]; exact h1
  go_enter Try.func67, Try.ntmps67
  go_wp2_with fail
  have HX := Lib.hid (one_end (W := W) (W1 := W) (y' := y) (cap := cap) (er := 9) (vl := 0) H.out (ButS.refl _ W) (.cells #[.int .i64 x.t, .int .i64 x.o, .int .i64 x.k, .int .u64 (x.a : Int), .int .u64 (x.b : Int), .int .u64 (x.c : Int)] 43))
  generalize ((W).alloc (.cells #[.int .i64 x.t, .int .i64 x.o, .int .i64 x.k, .int .u64 (x.a : Int), .int .u64 (x.b : Int), .int .u64 (x.c : Int)] 43)).alloc (.cells #[.int .i64 ((9 : Nat) : Int), .int .u64 ((0 : Nat) : Int), .slice none 0 0] 39) = W5 at HX ⊢
  have q0 := HX.out.2.2.cell (i := 0) rfl
  have q1 := HX.out.2.2.cell (i := 1) rfl
  have q2 := HX.out.2.2.cell (i := 2) rfl
  exact bodyPost_ret (v := .tuple #[.slice (some ⟨g, 0, none⟩) 1 cap, .agg #[.int .i64 ((9 : Nat) : Int), .int .u64 ((0 : Nat) : Int), .slice none 0 0]]) (by simp [results, Try.results67, go_sem, q0, q1, q2]) rfl ⟨rfl, HX.out.1, HX.out.2.1⟩
set_option maxRecDepth 20000 in
theorem m_con10 (x : CallV) (g cap y : Nat) (W : World) (h : Own1 W g y) (hx : x.k = 0) (ha : 4294967296 ≤ x.a) : Calls Try.prog 67 #[.slice (some ⟨g, 0, none⟩) 1 cap, callAgg x] W (OneOut ([y], ⟨10, 0, []⟩) g cap W) := by
  have H := Lib.hid h
  have c0 := h.cell
  have f0 := h.free
  have hg := h.lt
  clear h
  unfold callAgg
  rw [hx]
  have h2 : (4294967296 : Int) ≤ (x.a : Int) := by omega
  go_enter Try.func67, Try.ntmps67
  go_wp2_with fail
  have HX := Lib.hid (one_end (W := W) (W1 := W) (y' := y) (cap := cap) (er := 10) (vl := 0) H.out (ButS.refl _ W) (.cells #[.int .i64 x.t, .int .i64 x.o, .int .i64 0, .int .u64 (x.a : Int), .int .u64 (x.b : Int), .int .u64 (x.c : Int)] 43))
  generalize ((W).alloc (.cells #[.int .i64 x.t, .int .i64 x.o, .int .i64 0, .int .u64 (x.a : Int), .int .u64 (x.b : Int), .int .u64 (x.c : Int)] 43)).alloc (.cells #[.int .i64 ((10 : Nat) : Int), .int .u64 ((0 : Nat) : Int), .slice none 0 0] 39) = W5 at HX ⊢
  have q0 := HX.out.2.2.cell (i := 0) rfl
  have q1 := HX.out.2.2.cell (i := 1) rfl
  have q2 := HX.out.2.2.cell (i := 2) rfl
  exact bodyPost_ret (v := .tuple #[.slice (some ⟨g, 0, none⟩) 1 cap, .agg #[.int .i64 ((10 : Nat) : Int), .int .u64 ((0 : Nat) : Int), .slice none 0 0]]) (by simp [results, Try.results67, go_sem, q0, q1, q2]) rfl ⟨rfl, HX.out.1, HX.out.2.1⟩
set_option maxRecDepth 20000 in
theorem m_con0z (x : CallV) (g cap y : Nat) (W : World) (h : Own1 W g y) (hx : x.k = 0) (ha : x.a < 4294967296) (hy : y = 0) : Calls Try.prog 67 #[.slice (some ⟨g, 0, none⟩) 1 cap, callAgg x] W (OneOut ([x.a + 1], ⟨0, x.a, []⟩) g cap W) := by
  have H := Lib.hid h
  have c0 := h.cell
  have f0 := h.free
  have hg := h.lt
  clear h
  unfold callAgg
  rw [hx]
  subst hy
  have h2 : ¬ (4294967296 : Int) ≤ (x.a : Int) := by omega
  have h3 : (x.a : Int) + 1 ≤ 18446744073709551615 := by omega
  have h4 : (x.a : Int) + 1 - 1 = (x.a : Int) := by omega
  go_enter Try.func67, Try.ntmps67
  go_wp2_with fail
  generalize hW2 : ((W.setCell ⟨g, 0, none⟩ (.int .u64 ((x.a : Int) + 1))).alloc (.cells #[.int .i64 x.t, .int .i64 x.o, .int .i64 0, .int .u64 (x.a : Int), .int .u64 (x.b : Int), .int .u64 (x.c : Int)] 43)).alloc (.cells #[.int .i64 0, .int .u64 0, .slice none 0 0] 39) = W2
  have hs1 : (W.setCell ⟨g, 0, none⟩ (.int .u64 ((x.a : Int) + 1))).heap.size = W.heap.size := by simp [World.setCell]
  have HO : Hid (Own1 W2 g (x.a + 1)) := Lib.hid (by rw [← hW2]; exact ((H.out.put (x.a + 1)).alloc _).alloc _)
  have HA : Hid (RowBlk 39 W2 (W.heap.size + 1) [.int .i64 0, .int .u64 0, .slice none 0 0]) := Lib.hid (by
    rw [← hW2]
    have h1 := RowBlk.new ((W.setCell ⟨g, 0, none⟩ (.int .u64 ((x.a : Int) + 1))).alloc (.cells #[.int .i64 x.t, .int .i64 x.o, .int .i64 0, .int .u64 (x.a : Int), .int .u64 (x.b : Int), .int .u64 (x.c : Int)] 43)) [.int .i64 0, .int .u64 0, .slice none 0 0] 39
    have e : ((W.setCell ⟨g, 0, none⟩ (.int .u64 ((x.a : Int) + 1))).alloc (.cells #[.int .i64 x.t, .int .i64 x.o, .int .i64 0, .int .u64 (x.a : Int), .int .u64 (x.b : Int), .int .u64 (x.c : Int)] 43)).heap.size = W.heap.size + 1 := by simp [World.setCell]
    rw [e] at h1; exact h1)
  have HB : Hid (ButS (fun b => b = g) W W2) := Lib.hid (by rw [← hW2]; exact (((ButS.refl (fun b => b = g) W).setCell (.inl (show g = g from rfl)) _).alloc _).alloc _)
  clear hW2 c0 f0 hs1
  have c0 : W2.cell? ⟨g, 0, none⟩ = some (.int .u64 ((x.a + 1 : Nat) : Int)) := HO.out.cell
  have a0 := HA.out.cell (i := 0) rfl
  have a1 := HA.out.cell (i := 1) rfl
  have a2 := HA.out.cell (i := 2) rfl
  have z0 : W2.frozen? ⟨W.heap.size + 1, 0, none⟩ = false := HA.out.free
  have z1 : W2.frozen? ⟨W.heap.size + 1, 1, none⟩ = false := HA.out.free
  have z2 : W2.frozen? ⟨W.heap.size + 1, 2, none⟩ = false := HA.out.free
  have n1 : g ≠ W.heap.size + 1 := by omega
  have n2 : W.heap.size + 1 ≠ g := by omega
  have yy : (((x.a + 1 : Nat) : Int)) - 1 = ((x.a : Nat) : Int) := by omega
  have hgl := HA.out.lt
  have wv : IntKind.u64.wrap ((x.a : Nat) : Int) = ((x.a : Nat) : Int) := by unfold IntKind.wrap; simp [IntKind.bits, IntKind.signed]; omega
  have HX : Hid (RowBlk 39 (((W2.setCell ⟨W.heap.size + 1, 0, none⟩ (.int .i64 0)).setCell ⟨W.heap.size + 1, 1, none⟩ (.int .u64 ((x.a : Nat) : Int))).setCell ⟨W.heap.size + 1, 2, none⟩ (.slice none 0 0)).drew (W.heap.size + 1) [.int .i64 ((0 : Nat) : Int), .int .u64 ((x.a : Nat) : Int), .slice none 0 0] ∧ Own1 (((W2.setCell ⟨W.heap.size + 1, 0, none⟩ (.int .i64 0)).setCell ⟨W.heap.size + 1, 1, none⟩ (.int .u64 ((x.a : Nat) : Int))).setCell ⟨W.heap.size + 1, 2, none⟩ (.slice none 0 0)).drew g (x.a + 1) ∧ ButS (fun b => b = g) W (((W2.setCell ⟨W.heap.size + 1, 0, none⟩ (.int .i64 0)).setCell ⟨W.heap.size + 1, 1, none⟩ (.int .u64 ((x.a : Nat) : Int))).setCell ⟨W.heap.size + 1, 2, none⟩ (.slice none 0 0)).drew) := Lib.hid
    ⟨(((HA.out.put 0 _).put 1 _).put 2 _).drew, ((HO.out.other (a := ⟨W.heap.size + 1, 0, none⟩) n1 _).other (a := ⟨W.heap.size + 1, 1, none⟩) n1 _).other (a := ⟨W.heap.size + 1, 2, none⟩) n1 _, (((HB.out.setCell (.inr (show W.heap.size ≤ W.heap.size + 1 by omega)) _).setCell (.inr (show W.heap.size ≤ W.heap.size + 1 by omega)) _).setCell (.inr (show W.heap.size ≤ W.heap.size + 1 by omega)) _).drew⟩
  go_region_held3 (fun w' => w'.cell? ⟨g, 0, none⟩ = some (.int .u64 ((x.a + 1 : Nat) : Int))) (first | with_reducible exact c0 | (simp only [cell_far n1]; with_reducible exact c0) | go_keep) (first | fail)
  go_wp2_with fail

  generalize (((W2.setCell ⟨W.heap.size + 1, 0, none⟩ (.int .i64 0)).setCell ⟨W.heap.size + 1, 1, none⟩ (.int .u64 ((x.a : Nat) : Int))).setCell ⟨W.heap.size + 1, 2, none⟩ (.slice none 0 0)).drew = W5 at HX ⊢
  have q0 := HX.out.1.cell (i := 0) rfl
  have q1 := HX.out.1.cell (i := 1) rfl
  have q2 := HX.out.1.cell (i := 2) rfl
  exact bodyPost_ret (v := .tuple #[.slice (some ⟨g, 0, none⟩) 1 cap, .agg #[.int .i64 ((0 : Nat) : Int), .int .u64 ((x.a : Nat) : Int), .slice none 0 0]]) (by simp [results, Try.results67, go_sem, q0, q1, q2]) rfl ⟨rfl, HX.out.2.1, HX.out.2.2⟩
set_option maxRecDepth 20000 in
theorem m_con0n (x : CallV) (g cap y : Nat) (W : World) (h : Own1 W g y) (hx : x.k = 0) (ha : x.a < 4294967296) (hy : ¬ y = 0) (hyl : y < 18446744073709551616) : Calls Try.prog 67 #[.slice (some ⟨g, 0, none⟩) 1 cap, callAgg x] W (OneOut ([y], ⟨0, y - 1, []⟩) g cap W) := by
  have H := Lib.hid h
  have c0 := h.cell
  have f0 := h.free
  have hg := h.lt
  clear h
  unfold callAgg
  rw [hx]
  have h2 : ¬ (4294967296 : Int) ≤ (x.a : Int) := by omega
  have h3 : ¬ (y : Int) = 0 := by omega
  go_enter Try.func67, Try.ntmps67
  go_wp2_with fail
  generalize hW2 : (W.alloc (.cells #[.int .i64 x.t, .int .i64 x.o, .int .i64 0, .int .u64 (x.a : Int), .int .u64 (x.b : Int), .int .u64 (x.c : Int)] 43)).alloc (.cells #[.int .i64 0, .int .u64 0, .slice none 0 0] 39) = W2
  have hs1 : W.heap.size = W.heap.size := by simp [World.setCell]
  have HO : Hid (Own1 W2 g (y)) := Lib.hid (by rw [← hW2]; exact (H.out.alloc _).alloc _)
  have HA : Hid (RowBlk 39 W2 (W.heap.size + 1) [.int .i64 0, .int .u64 0, .slice none 0 0]) := Lib.hid (by
    rw [← hW2]
    have h1 := RowBlk.new (W.alloc (.cells #[.int .i64 x.t, .int .i64 x.o, .int .i64 0, .int .u64 (x.a : Int), .int .u64 (x.b : Int), .int .u64 (x.c : Int)] 43)) [.int .i64 0, .int .u64 0, .slice none 0 0] 39
    have e : (W.alloc (.cells #[.int .i64 x.t, .int .i64 x.o, .int .i64 0, .int .u64 (x.a : Int), .int .u64 (x.b : Int), .int .u64 (x.c : Int)] 43)).heap.size = W.heap.size + 1 := by simp [World.setCell]
    rw [e] at h1; exact h1)
  have HB : Hid (ButS (fun b => b = g) W W2) := Lib.hid (by rw [← hW2]; exact (((ButS.refl (fun b => b = g) W)).alloc _).alloc _)
  clear hW2 c0 f0 hs1
  have c0 : W2.cell? ⟨g, 0, none⟩ = some (.int .u64 ((y : Nat) : Int)) := HO.out.cell
  have a0 := HA.out.cell (i := 0) rfl
  have a1 := HA.out.cell (i := 1) rfl
  have a2 := HA.out.cell (i := 2) rfl
  have z0 : W2.frozen? ⟨W.heap.size + 1, 0, none⟩ = false := HA.out.free
  have z1 : W2.frozen? ⟨W.heap.size + 1, 1, none⟩ = false := HA.out.free
  have z2 : W2.frozen? ⟨W.heap.size + 1, 2, none⟩ = false := HA.out.free
  have n1 : g ≠ W.heap.size + 1 := by omega
  have n2 : W.heap.size + 1 ≠ g := by omega
  have yy : (((y : Nat) : Int)) - 1 = ((y - 1 : Nat) : Int) := by omega
  have hgl := HA.out.lt
  have wv : IntKind.u64.wrap ((y - 1 : Nat) : Int) = ((y - 1 : Nat) : Int) := by unfold IntKind.wrap; simp [IntKind.bits, IntKind.signed]; omega
  have HX : Hid (RowBlk 39 (((W2.setCell ⟨W.heap.size + 1, 0, none⟩ (.int .i64 0)).setCell ⟨W.heap.size + 1, 1, none⟩ (.int .u64 ((y - 1 : Nat) : Int))).setCell ⟨W.heap.size + 1, 2, none⟩ (.slice none 0 0)).drew (W.heap.size + 1) [.int .i64 ((0 : Nat) : Int), .int .u64 ((y - 1 : Nat) : Int), .slice none 0 0] ∧ Own1 (((W2.setCell ⟨W.heap.size + 1, 0, none⟩ (.int .i64 0)).setCell ⟨W.heap.size + 1, 1, none⟩ (.int .u64 ((y - 1 : Nat) : Int))).setCell ⟨W.heap.size + 1, 2, none⟩ (.slice none 0 0)).drew g (y) ∧ ButS (fun b => b = g) W (((W2.setCell ⟨W.heap.size + 1, 0, none⟩ (.int .i64 0)).setCell ⟨W.heap.size + 1, 1, none⟩ (.int .u64 ((y - 1 : Nat) : Int))).setCell ⟨W.heap.size + 1, 2, none⟩ (.slice none 0 0)).drew) := Lib.hid
    ⟨(((HA.out.put 0 _).put 1 _).put 2 _).drew, ((HO.out.other (a := ⟨W.heap.size + 1, 0, none⟩) n1 _).other (a := ⟨W.heap.size + 1, 1, none⟩) n1 _).other (a := ⟨W.heap.size + 1, 2, none⟩) n1 _, (((HB.out.setCell (.inr (show W.heap.size ≤ W.heap.size + 1 by omega)) _).setCell (.inr (show W.heap.size ≤ W.heap.size + 1 by omega)) _).setCell (.inr (show W.heap.size ≤ W.heap.size + 1 by omega)) _).drew⟩
  go_region_held3 (fun w' => w'.cell? ⟨g, 0, none⟩ = some (.int .u64 ((y : Nat) : Int))) (first | with_reducible exact c0 | (simp only [cell_far n1]; with_reducible exact c0) | go_keep) (first | fail)
  go_wp2_with fail

  generalize (((W2.setCell ⟨W.heap.size + 1, 0, none⟩ (.int .i64 0)).setCell ⟨W.heap.size + 1, 1, none⟩ (.int .u64 ((y - 1 : Nat) : Int))).setCell ⟨W.heap.size + 1, 2, none⟩ (.slice none 0 0)).drew = W5 at HX ⊢
  have q0 := HX.out.1.cell (i := 0) rfl
  have q1 := HX.out.1.cell (i := 1) rfl
  have q2 := HX.out.1.cell (i := 2) rfl
  exact bodyPost_ret (v := .tuple #[.slice (some ⟨g, 0, none⟩) 1 cap, .agg #[.int .i64 ((0 : Nat) : Int), .int .u64 ((y - 1 : Nat) : Int), .slice none 0 0]]) (by simp [results, Try.results67, go_sem, q0, q1, q2]) rfl ⟨rfl, HX.out.2.1, HX.out.2.2⟩
set_option maxRecDepth 20000 in
theorem m_con1z (x : CallV) (g cap y : Nat) (W : World) (h : Own1 W g y) (hx : x.k = 1) (hy : y = 0) : Calls Try.prog 67 #[.slice (some ⟨g, 0, none⟩) 1 cap, callAgg x] W (OneOut ([0], ⟨7, 0, []⟩) g cap W) := by
  have H := Lib.hid h
  have c0 := h.cell
  have f0 := h.free
  have hg := h.lt
  clear h
  unfold callAgg
  rw [hx]
  subst hy
  go_enter Try.func67, Try.ntmps67
  go_wp2_with fail
  have HX := Lib.hid (one_end (W := W) (W1 := W) (y' := 0) (cap := cap) (er := 7) (vl := 0) H.out (ButS.refl _ W) (.cells #[.int .i64 x.t, .int .i64 x.o, .int .i64 1, .int .u64 (x.a : Int), .int .u64 (x.b : Int), .int .u64 (x.c : Int)] 43))
  generalize ((W).alloc (.cells #[.int .i64 x.t, .int .i64 x.o, .int .i64 1, .int .u64 (x.a : Int), .int .u64 (x.b : Int), .int .u64 (x.c : Int)] 43)).alloc (.cells #[.int .i64 ((7 : Nat) : Int), .int .u64 ((0 : Nat) : Int), .slice none 0 0] 39) = W5 at HX ⊢
  have q0 := HX.out.2.2.cell (i := 0) rfl
  have q1 := HX.out.2.2.cell (i := 1) rfl
  have q2 := HX.out.2.2.cell (i := 2) rfl
  exact bodyPost_ret (v := .tuple #[.slice (some ⟨g, 0, none⟩) 1 cap, .agg #[.int .i64 ((7 : Nat) : Int), .int .u64 ((0 : Nat) : Int), .slice none 0 0]]) (by simp [results, Try.results67, go_sem, q0, q1, q2]) rfl ⟨rfl, HX.out.1, HX.out.2.1⟩
set_option maxRecDepth 20000 in
theorem m_con1n (x : CallV) (g cap y : Nat) (W : World) (h : Own1 W g y) (hx : x.k = 1) (hy : ¬ y = 0) (hyl : y < 18446744073709551616) : Calls Try.prog 67 #[.slice (some ⟨g, 0, none⟩) 1 cap, callAgg x] W (OneOut ([y], ⟨0, y - 1, []⟩) g cap W) := by
  have H := Lib.hid h
  have c0 := h.cell
  have f0 := h.free
  have hg := h.lt
  clear h
  unfold callAgg
  rw [hx]
  have h3 : ¬ (y : Int) = 0 := by omega
  go_enter Try.func67, Try.ntmps67
  go_wp2_with fail
  generalize hW2 : (W.alloc (.cells #[.int .i64 x.t, .int .i64 x.o, .int .i64 1, .int .u64 (x.a : Int), .int .u64 (x.b : Int), .int .u64 (x.c : Int)] 43)).alloc (.cells #[.int .i64 0, .int .u64 0, .slice none 0 0] 39) = W2
  have hs1 : W.heap.size = W.heap.size := by simp [World.setCell]
  have HO : Hid (Own1 W2 g (y)) := Lib.hid (by rw [← hW2]; exact (H.out.alloc _).alloc _)
  have HA : Hid (RowBlk 39 W2 (W.heap.size + 1) [.int .i64 0, .int .u64 0, .slice none 0 0]) := Lib.hid (by
    rw [← hW2]
    have h1 := RowBlk.new (W.alloc (.cells #[.int .i64 x.t, .int .i64 x.o, .int .i64 1, .int .u64 (x.a : Int), .int .u64 (x.b : Int), .int .u64 (x.c : Int)] 43)) [.int .i64 0, .int .u64 0, .slice none 0 0] 39
    have e : (W.alloc (.cells #[.int .i64 x.t, .int .i64 x.o, .int .i64 1, .int .u64 (x.a : Int), .int .u64 (x.b : Int), .int .u64 (x.c : Int)] 43)).heap.size = W.heap.size + 1 := by simp [World.setCell]
    rw [e] at h1; exact h1)
  have HB : Hid (ButS (fun b => b = g) W W2) := Lib.hid (by rw [← hW2]; exact (((ButS.refl (fun b => b = g) W)).alloc _).alloc _)
  clear hW2 c0 f0 hs1
  have c0 : W2.cell? ⟨g, 0, none⟩ = some (.int .u64 ((y : Nat) : Int)) := HO.out.cell
  have a0 := HA.out.cell (i := 0) rfl
  have a1 := HA.out.cell (i := 1) rfl
  have a2 := HA.out.cell (i := 2) rfl
  have z0 : W2.frozen? ⟨W.heap.size + 1, 0, none⟩ = false := HA.out.free
  have z1 : W2.frozen? ⟨W.heap.size + 1, 1, none⟩ = false := HA.out.free
  have z2 : W2.frozen? ⟨W.heap.size + 1, 2, none⟩ = false := HA.out.free
  have n1 : g ≠ W.heap.size + 1 := by omega
  have n2 : W.heap.size + 1 ≠ g := by omega
  have yy : (((y : Nat) : Int)) - 1 = ((y - 1 : Nat) : Int) := by omega
  have hgl := HA.out.lt
  have wv : IntKind.u64.wrap ((y - 1 : Nat) : Int) = ((y - 1 : Nat) : Int) := by unfold IntKind.wrap; simp [IntKind.bits, IntKind.signed]; omega
  have HX : Hid (RowBlk 39 (((W2.setCell ⟨W.heap.size + 1, 0, none⟩ (.int .i64 0)).setCell ⟨W.heap.size + 1, 1, none⟩ (.int .u64 ((y - 1 : Nat) : Int))).setCell ⟨W.heap.size + 1, 2, none⟩ (.slice none 0 0)).drew (W.heap.size + 1) [.int .i64 ((0 : Nat) : Int), .int .u64 ((y - 1 : Nat) : Int), .slice none 0 0] ∧ Own1 (((W2.setCell ⟨W.heap.size + 1, 0, none⟩ (.int .i64 0)).setCell ⟨W.heap.size + 1, 1, none⟩ (.int .u64 ((y - 1 : Nat) : Int))).setCell ⟨W.heap.size + 1, 2, none⟩ (.slice none 0 0)).drew g (y) ∧ ButS (fun b => b = g) W (((W2.setCell ⟨W.heap.size + 1, 0, none⟩ (.int .i64 0)).setCell ⟨W.heap.size + 1, 1, none⟩ (.int .u64 ((y - 1 : Nat) : Int))).setCell ⟨W.heap.size + 1, 2, none⟩ (.slice none 0 0)).drew) := Lib.hid
    ⟨(((HA.out.put 0 _).put 1 _).put 2 _).drew, ((HO.out.other (a := ⟨W.heap.size + 1, 0, none⟩) n1 _).other (a := ⟨W.heap.size + 1, 1, none⟩) n1 _).other (a := ⟨W.heap.size + 1, 2, none⟩) n1 _, (((HB.out.setCell (.inr (show W.heap.size ≤ W.heap.size + 1 by omega)) _).setCell (.inr (show W.heap.size ≤ W.heap.size + 1 by omega)) _).setCell (.inr (show W.heap.size ≤ W.heap.size + 1 by omega)) _).drew⟩
  go_region_held3 (fun w' => w'.cell? ⟨g, 0, none⟩ = some (.int .u64 ((y : Nat) : Int))) (first | with_reducible exact c0 | (simp only [cell_far n1]; with_reducible exact c0) | go_keep) (first | fail)
  go_wp2_with fail

  generalize (((W2.setCell ⟨W.heap.size + 1, 0, none⟩ (.int .i64 0)).setCell ⟨W.heap.size + 1, 1, none⟩ (.int .u64 ((y - 1 : Nat) : Int))).setCell ⟨W.heap.size + 1, 2, none⟩ (.slice none 0 0)).drew = W5 at HX ⊢
  have q0 := HX.out.1.cell (i := 0) rfl
  have q1 := HX.out.1.cell (i := 1) rfl
  have q2 := HX.out.1.cell (i := 2) rfl
  exact bodyPost_ret (v := .tuple #[.slice (some ⟨g, 0, none⟩) 1 cap, .agg #[.int .i64 ((0 : Nat) : Int), .int .u64 ((y - 1 : Nat) : Int), .slice none 0 0]]) (by simp [results, Try.results67, go_sem, q0, q1, q2]) rfl ⟨rfl, HX.out.2.1, HX.out.2.2⟩

/-- what Apply gives, of a model of one word -/
def ApplyPost (r : List Nat × Ans) (W : World) (e : Ending) (w' : World) : Prop :=
  ∃ g cap, e = .returned (.tuple #[.slice (some ⟨g, 0, none⟩) 1 cap, .agg #[.int .i64 (r.2.err : Int), .int .u64 (r.2.val : Int), .slice none 0 0]]) ∧ Own1 w' g (r.1.getD 0 0) ∧ W.heap.size ≤ g ∧ Below W.heap.size W w'
theorem append1 {P : Program} {w : World} {ops : Array Oper} {rest : List Oper} {o : Oper} {a : Act} {Q : Exit → Act → World → Prop} (hgd : o.guard = none) (s x : Operand) (t : TypeId)
    (ho : o.op = .call { callee := .builtin .append, args := #[s, x], argTypes := #[t, t] })
    (i : TypeInfo) (bytes : Nat) (ht : P.underlying t = some (.slice 37)) (hi : P.info? 37 = some i) (hz : i.zero = some (.int .u64 0))
    (hsize : i.size = 1) (hby : i.bytes = bytes) (hbs : bytes ≤ 4096) (g0 : Nat) (hg0 : g0 = w.heap.size)
    (hs : a.eval s = .slice (some ⟨g0, 0, none⟩) 0 0) (v : Value) (y : Nat) (hx : a.eval x = v) (p : Nat → Prop) (hv : ListAt w 37 mkU p v [y])
    (h : ∀ g cap' w', Own1 w' g y → w.heap.size ≤ g → Below w.heap.size w w' → wpList P ops Q rest (a.put o.dst (.slice (some ⟨g, 0, none⟩) 1 cap')) w') : wpList P ops Q (o :: rest) a (w.alloc (.cells #[] 37)) := by
  obtain ⟨ao, b, of', cap, rfl, h1, h2, _, h4⟩ := hv
  refine append_fresh hgd s x t ho 37 i (.int .u64 0) bytes ht hi hz hsize hby rfl hbs g0 hg0 hs ao b of' cap 1 [mkU y] hx rfl (fun _ => (h1 (by simp)).1) (fun j u hu => ?_) h2 rfl (by decide) (fun g cap' cur w' g1 g2 g3 g4 => h g cap' w' ⟨cur, g1, g2 0 (mkU y) rfl⟩ g3 g4)
  match j, hu with
  | 0, hu => cases hu; exact h4 0 y rfl
  | j + 1, hu => simp at hu

/-- the world behind Apply's first lines -/
def applyW (k p q : Int) (x : CallV) (W : World) : World := ((W.alloc (.cells #[.int .i64 k, .int .i64 p, .int .i64 q] 48)).alloc (.cells #[.int .i64 x.t, .int .i64 x.o, .int .i64 x.k, .int .u64 (x.a : Int), .int .u64 (x.b : Int), .int .u64 (x.c : Int)] 43)).alloc (.cells #[.int .i64 0, .int .u64 0, .slice none 0 0] 39)
theorem applyW_size (k p q : Int) (x : CallV) (W : World) : (applyW k p q x W).heap.size = W.heap.size + 1 + 1 + 1 := by unfold applyW; simp
theorem applyW_below (k p q : Int) (x : CallV) (W : World) : Below W.heap.size W (applyW k p q x W) := (((Below.refl _ _).alloc (Nat.le_refl _) _).alloc (by simp) _).alloc (by simp; omega) _
theorem applyW_spec (k p q : Int) (x : CallV) (W : World) : RowBlk 48 (applyW k p q x W) W.heap.size [.int .i64 k, .int .i64 p, .int .i64 q] := ((RowBlk.new W [.int .i64 k, .int .i64 p, .int .i64 q] 48).alloc _).alloc _
theorem applyW_call (k p q : Int) (x : CallV) (W : World) : RowBlk 43 (applyW k p q x W) (W.heap.size + 1) [.int .i64 x.t, .int .i64 x.o, .int .i64 x.k, .int .u64 (x.a : Int), .int .u64 (x.b : Int), .int .u64 (x.c : Int)] := by
  have h := RowBlk.new (W.alloc (.cells #[.int .i64 k, .int .i64 p, .int .i64 q] 48)) [.int .i64 x.t, .int .i64 x.o, .int .i64 x.k, .int .u64 (x.a : Int), .int .u64 (x.b : Int), .int .u64 (x.c : Int)] 43
  have e : (W.alloc (.cells #[.int .i64 k, .int .i64 p, .int .i64 q] 48)).heap.size = W.heap.size + 1 := by simp
  rw [e] at h; exact h.alloc _
theorem applyW_ans (k p q : Int) (x : CallV) (W : World) : RowBlk 39 (applyW k p q x W) (W.heap.size + 1 + 1) [.int .i64 0, .int .u64 0, .slice none 0 0] := by
  have h := RowBlk.new ((W.alloc (.cells #[.int .i64 k, .int .i64 p, .int .i64 q] 48)).alloc (.cells #[.int .i64 x.t, .int .i64 x.o, .int .i64 x.k, .int .u64 (x.a : Int), .int .u64 (x.b : Int), .int .u64 (x.c : Int)] 43)) [.int .i64 0, .int .u64 0, .slice none 0 0] 39
  have e : ((W.alloc (.cells #[.int .i64 k, .int .i64 p, .int .i64 q] 48)).alloc (.cells #[.int .i64 x.t, .int .i64 x.o, .int .i64 x.k, .int .u64 (x.a : Int), .int .u64 (x.b : Int), .int .u64 (x.c : Int)] 43)).heap.size = W.heap.size + 1 + 1 := by simp
  rw [e] at h; exact h
set_option maxRecDepth 20000 in
set_option maxHeartbeats 2000000 in
theorem apply_cons (r : List Nat × Ans) (n p q : Int) (v : Value) (y : Nat) (x : CallV) (pr : Nat → Prop) (W : World) (hv : ListAt W 37 mkU pr v [y])
    (hf : ∀ (g cap : Nat) (W' : World), Own1 W' g y → Calls Try.prog 67 #[.slice (some ⟨g, 0, none⟩) 1 cap, callAgg x] W' (OneOut r g cap W')) :
    Calls Try.prog 45 #[.int .i64 n, specAgg 1 p q, v, callAgg x] W (ApplyPost r W) := by
  obtain ⟨iU, ua, ub, uc, ud⟩ := info_parts info22
  have hvW : ListAt (applyW 1 p q x W) 37 mkU (fun b => b < W.heap.size) v [y] := hv.keep (fun b hb _ => ⟨(applyW_below 1 p q x W).block b hb.lt, hb.lt⟩)
  obtain ⟨vao, vcap, rfl⟩ := hv.isSlice
  have HF := Lib.hid hf
  obtain ⟨st', er, vl, ls⟩ := r
  have hz := applyW_size 1 p q x W
  have HB1 := Lib.hid (applyW_below 1 p q x W)
  have HS1 := Lib.hid (applyW_spec 1 p q x W)
  have HC1 := Lib.hid (applyW_call 1 p q x W)
  have HA1 := Lib.hid (applyW_ans 1 p q x W)
  unfold applyW at hvW hz HB1 HS1 HC1 HA1
  clear hv hf
  unfold specAgg callAgg at *
  go_enter Try.func45, Try.ntmps45
  go_wp2_with (at_builtin; refine append1 rfl _ _ 28 rfl iU 8 Try.underlying28 ua ub uc ud (by decide) (W.heap.size + 1 + 1 + 1) hz.symm rfl _ y rfl _ hvW ?_)
  intro g cap w1 hO hg hb1
  (try rw [hz] at hg)
  (try rw [hz] at hb1)
  have HB2 : Hid (Below W.heap.size W w1) := Lib.hid (HB1.out.trans (hb1.mono (by omega)))
  have hs2 := HS1.out.same (hb1.block _ (by omega))
  have hc2 := HC1.out.same (hb1.block _ (by omega))
  have ha2 := HA1.out.same (hb1.block _ (by omega))
  have s0 : w1.cell? ⟨W.heap.size, 0, none⟩ = some (.int .i64 1) := hs2.cell rfl
  have d0 := hc2.cell (i := 0) rfl
  have d1 := hc2.cell (i := 1) rfl
  have d2 := hc2.cell (i := 2) rfl
  have d3 := hc2.cell (i := 3) rfl
  have d4 := hc2.cell (i := 4) rfl
  have d5 := hc2.cell (i := 5) rfl
  have HA2 := Lib.hid ha2
  clear hvW hb1 hs2 hc2 ha2 HB1 HS1 HC1 HA1
  go_wp2_with fail
  refine (HF.out g cap w1 hO).mono ?_
  rintro e w2 ⟨rfl, hO2, hB2⟩
  have ha3 := HA2.out.same (hB2.block _ HA2.out.lt (by omega))
  have a0 := ha3.cell (i := 0) rfl
  have a1 := ha3.cell (i := 1) rfl
  have a2 := ha3.cell (i := 2) rfl
  have z0 : w2.frozen? ⟨W.heap.size + 1 + 1, 0, none⟩ = false := ha3.free
  have z1 : w2.frozen? ⟨W.heap.size + 1 + 1, 1, none⟩ = false := ha3.free
  have z2 : w2.frozen? ⟨W.heap.size + 1 + 1, 2, none⟩ = false := ha3.free
  have hne : g ≠ W.heap.size + 1 + 1 := by omega
  have HX : Hid (RowBlk 39 (((w2.setCell ⟨W.heap.size + 1 + 1, 0, none⟩ (.int .i64 (er : Int))).setCell ⟨W.heap.size + 1 + 1, 1, none⟩ (.int .u64 (vl : Int))).setCell ⟨W.heap.size + 1 + 1, 2, none⟩ (.slice none 0 0)) (W.heap.size + 1 + 1) [.int .i64 (er : Int), .int .u64 (vl : Int), .slice none 0 0] ∧ Own1 (((w2.setCell ⟨W.heap.size + 1 + 1, 0, none⟩ (.int .i64 (er : Int))).setCell ⟨W.heap.size + 1 + 1, 1, none⟩ (.int .u64 (vl : Int))).setCell ⟨W.heap.size + 1 + 1, 2, none⟩ (.slice none 0 0)) g (st'.getD 0 0) ∧ Below W.heap.size W (((w2.setCell ⟨W.heap.size + 1 + 1, 0, none⟩ (.int .i64 (er : Int))).setCell ⟨W.heap.size + 1 + 1, 1, none⟩ (.int .u64 (vl : Int))).setCell ⟨W.heap.size + 1 + 1, 2, none⟩ (.slice none 0 0))) := Lib.hid
    ⟨((ha3.put 0 _).put 1 _).put 2 _, ((hO2.other (a := ⟨W.heap.size + 1 + 1, 0, none⟩) hne _).other (a := ⟨W.heap.size + 1 + 1, 1, none⟩) hne _).other (a := ⟨W.heap.size + 1 + 1, 2, none⟩) hne _,
     (((HB2.out.trans (hB2.below (B := W.heap.size) (fun k hk => by have : k = g := hk; omega) HB2.out.size)).setCell (show W.heap.size ≤ W.heap.size + 1 + 1 by omega) _).setCell (show W.heap.size ≤ W.heap.size + 1 + 1 by omega) _).setCell (show W.heap.size ≤ W.heap.size + 1 + 1 by omega) _⟩
  clear hO2 hB2 ha3 s0 d0 d1 d2 d3 d4 d5
  go_wp2_with fail
  generalize ((w2.setCell ⟨W.heap.size + 1 + 1, 0, none⟩ (.int .i64 (er : Int))).setCell ⟨W.heap.size + 1 + 1, 1, none⟩ (.int .u64 (vl : Int))).setCell ⟨W.heap.size + 1 + 1, 2, none⟩ (.slice none 0 0) = W5 at HX ⊢
  have q0 := HX.out.1.cell (i := 0) rfl
  have q1 := HX.out.1.cell (i := 1) rfl
  have q2 := HX.out.1.cell (i := 2) rfl
  exact bodyPost_ret (v := .tuple #[.slice (some ⟨g, 0, none⟩) 1 cap, .agg #[.int .i64 (er : Int), .int .u64 (vl : Int), .slice none 0 0]]) (by simp [results, Try.results45, go_sem, q0, q1, q2]) rfl ⟨g, cap, rfl, HX.out.2.1, by omega, HX.out.2.2⟩
set_option maxRecDepth 20000 in
set_option maxHeartbeats 2000000 in
theorem apply_adder (r : List Nat × Ans) (n p q : Int) (v : Value) (y : Nat) (x : CallV) (pr : Nat → Prop) (W : World) (hv : ListAt W 37 mkU pr v [y])
    (hf : ∀ (g cap : Nat) (W' : World), Own1 W' g y → Calls Try.prog 68 #[.slice (some ⟨g, 0, none⟩) 1 cap, callAgg x] W' (OneOut r g cap W')) :
    Calls Try.prog 45 #[.int .i64 n, specAgg 3 p q, v, callAgg x] W (ApplyPost r W) := by
  obtain ⟨iU, ua, ub, uc, ud⟩ := info_parts info22
  have hvW : ListAt (applyW 3 p q x W) 37 mkU (fun b => b < W.heap.size) v [y] := hv.keep (fun b hb _ => ⟨(applyW_below 3 p q x W).block b hb.lt, hb.lt⟩)
  obtain ⟨vao, vcap, rfl⟩ := hv.isSlice
  have HF := Lib.hid hf
  obtain ⟨st', er, vl, ls⟩ := r
  have hz := applyW_size 3 p q x W
  have HB1 := Lib.hid (applyW_below 3 p q x W)
  have HS1 := Lib.hid (applyW_spec 3 p q x W)
  have HC1 := Lib.hid (applyW_call 3 p q x W)
  have HA1 := Lib.hid (applyW_ans 3 p q x W)
  unfold applyW at hvW hz HB1 HS1 HC1 HA1
  clear hv hf
  unfold specAgg callAgg at *
  go_enter Try.func45, Try.ntmps45
  go_wp2_with (at_builtin; refine append1 rfl _ _ 28 rfl iU 8 Try.underlying28 ua ub uc ud (by decide) (W.heap.size + 1 + 1 + 1) hz.symm rfl _ y rfl _ hvW ?_)
  intro g cap w1 hO hg hb1
  (try rw [hz] at hg)
  (try rw [hz] at hb1)
  have HB2 : Hid (Below W.heap.size W w1) := Lib.hid (HB1.out.trans (hb1.mono (by omega)))
  have hs2 := HS1.out.same (hb1.block _ (by omega))
  have hc2 := HC1.out.same (hb1.block _ (by omega))
  have ha2 := HA1.out.same (hb1.block _ (by omega))
  have s0 : w1.cell? ⟨W.heap.size, 0, none⟩ = some (.int .i64 3) := hs2.cell rfl
  have d0 := hc2.cell (i := 0) rfl
  have d1 := hc2.cell (i := 1) rfl
  have d2 := hc2.cell (i := 2) rfl
  have d3 := hc2.cell (i := 3) rfl
  have d4 := hc2.cell (i := 4) rfl
  have d5 := hc2.cell (i := 5) rfl
  have HA2 := Lib.hid ha2
  clear hvW hb1 hs2 hc2 ha2 HB1 HS1 HC1 HA1
  go_wp2_with fail
  refine (HF.out g cap w1 hO).mono ?_
  rintro e w2 ⟨rfl, hO2, hB2⟩
  have ha3 := HA2.out.same (hB2.block _ HA2.out.lt (by omega))
  have a0 := ha3.cell (i := 0) rfl
  have a1 := ha3.cell (i := 1) rfl
  have a2 := ha3.cell (i := 2) rfl
  have z0 : w2.frozen? ⟨W.heap.size + 1 + 1, 0, none⟩ = false := ha3.free
  have z1 : w2.frozen? ⟨W.heap.size + 1 + 1, 1, none⟩ = false := ha3.free
  have z2 : w2.frozen? ⟨W.heap.size + 1 + 1, 2, none⟩ = false := ha3.free
  have hne : g ≠ W.heap.size + 1 + 1 := by omega
  have HX : Hid (RowBlk 39 (((w2.setCell ⟨W.heap.size + 1 + 1, 0, none⟩ (.int .i64 (er : Int))).setCell ⟨W.heap.size + 1 + 1, 1, none⟩ (.int .u64 (vl : Int))).setCell ⟨W.heap.size + 1 + 1, 2, none⟩ (.slice none 0 0)) (W.heap.size + 1 + 1) [.int .i64 (er : Int), .int .u64 (vl : Int), .slice none 0 0] ∧ Own1 (((w2.setCell ⟨W.heap.size + 1 + 1, 0, none⟩ (.int .i64 (er : Int))).setCell ⟨W.heap.size + 1 + 1, 1, none⟩ (.int .u64 (vl : Int))).setCell ⟨W.heap.size + 1 + 1, 2, none⟩ (.slice none 0 0)) g (st'.getD 0 0) ∧ Below W.heap.size W (((w2.setCell ⟨W.heap.size + 1 + 1, 0, none⟩ (.int .i64 (er : Int))).setCell ⟨W.heap.size + 1 + 1, 1, none⟩ (.int .u64 (vl : Int))).setCell ⟨W.heap.size + 1 + 1, 2, none⟩ (.slice none 0 0))) := Lib.hid
    ⟨((ha3.put 0 _).put 1 _).put 2 _, ((hO2.other (a := ⟨W.heap.size + 1 + 1, 0, none⟩) hne _).other (a := ⟨W.heap.size + 1 + 1, 1, none⟩) hne _).other (a := ⟨W.heap.size + 1 + 1, 2, none⟩) hne _,
     (((HB2.out.trans (hB2.below (B := W.heap.size) (fun k hk => by have : k = g := hk; omega) HB2.out.size)).setCell (show W.heap.size ≤ W.heap.size + 1 + 1 by omega) _).setCell (show W.heap.size ≤ W.heap.size + 1 + 1 by omega) _).setCell (show W.heap.size ≤ W.heap.size + 1 + 1 by omega) _⟩
  clear hO2 hB2 ha3 s0 d0 d1 d2 d3 d4 d5
  go_wp2_with fail
  generalize ((w2.setCell ⟨W.heap.size + 1 + 1, 0, none⟩ (.int .i64 (er : Int))).setCell ⟨W.heap.size + 1 + 1, 1, none⟩ (.int .u64 (vl : Int))).setCell ⟨W.heap.size + 1 + 1, 2, none⟩ (.slice none 0 0) = W5 at HX ⊢
  have q0 := HX.out.1.cell (i := 0) rfl
  have q1 := HX.out.1.cell (i := 1) rfl
  have q2 := HX.out.1.cell (i := 2) rfl
  exact bodyPost_ret (v := .tuple #[.slice (some ⟨g, 0, none⟩) 1 cap, .agg #[.int .i64 (er : Int), .int .u64 (vl : Int), .slice none 0 0]]) (by simp [results, Try.results45, go_sem, q0, q1, q2]) rfl ⟨g, cap, rfl, HX.out.2.1, by omega, HX.out.2.2⟩
end
section
open Go.ChangeShapes Go.WideShapes Go.ChangeAt Go.RowKit
set_option linter.unusedVariables false
theorem new_one (W W1 : World) (hb : Below W.heap.size W W1) : ∃ v : Value, v = .slice (some ⟨W1.heap.size, 0, none⟩) 1 1 ∧ ListAt (W1.alloc (.cells #[.int .u64 0] 37)) 37 mkU (fun b => W.heap.size ≤ b) v [0] ∧ Below W.heap.size W (W1.alloc (.cells #[.int .u64 0] 37)) := by
  have hO : Own1 (W1.alloc (.cells #[.int .u64 0] 37)) W1.heap.size 0 := ⟨#[.int .u64 0], heap_alloc_new W1 _, rfl⟩
  exact ⟨_, rfl, hO.list 1 _ hb.size, hb.alloc hb.size _⟩
def OneInv (st : List Nat) : Prop := ∃ y, st = [y] ∧ y < 18446744073709551616
theorem ApplyPost.gen {D : Mod} {st : List Nat} {x : CallV} {W w' : World} {e : Ending} (h : ApplyPost (D.ap st x) W e w') (h1 : ∃ z, (D.ap st x).1 = [z]) (h2 : (D.ap st x).2.list = []) :
    ∃ v' lv, e = .returned (.tuple #[v', .agg #[.int .i64 ((D.ap st x).2.err : Int), .int .u64 ((D.ap st x).2.val : Int), lv]]) ∧ ListAt w' 37 mkU (fun b => W.heap.size ≤ b) v' (D.ap st x).1 ∧ ListAt w' 37 mkU (fun b => W.heap.size ≤ b) lv (D.ap st x).2.list ∧ Below W.heap.size W w' := by
  obtain ⟨g, cap, he, hO, hg, hb⟩ := h
  obtain ⟨z, hz⟩ := h1
  rw [hz] at hO ⊢
  rw [h2]
  exact ⟨_, _, he, hO.list cap _ hg, ListAt.nil _ _ _ _, hb⟩
end
end Go.Proofs.Ytpoebpnmbogmnaa
