/- Walks of the reference's accesses. -/
import Derived.Test.YtehcfflofacapaaN5
namespace Go.Proofs.Ytehcfflofacapaa
open Go.RowKit

section
variable {W W' : World} {bm bw cap : Nat} {l : List Nat} {c : Cn}
theorem RefIs.lt1 (h : RefIs W bm bw cap l c) : bm < W.heap.size := lt_of_heap h.1
theorem RefIs.lt2 (h : RefIs W bm bw cap l c) : bw < W.heap.size := by obtain ⟨cur, h1, _⟩ := h.2.1; exact lt_of_heap h1
theorem RefIs.c0 (h : RefIs W bm bw cap l c) : W.cell? ⟨bm, 0, none⟩ = some (.slice (some ⟨bw, 0, none⟩) l.length cap) := cell_of_heap h.1 rfl
theorem RefIs.c1 (h : RefIs W bm bw cap l c) : W.cell? ⟨bm, 1, none⟩ = some (.int .i64 c.r) := cell_of_heap h.1 rfl
theorem RefIs.c2 (h : RefIs W bm bw cap l c) : W.cell? ⟨bm, 2, none⟩ = some (.int .i64 c.w) := cell_of_heap h.1 rfl
theorem RefIs.c3 (h : RefIs W bm bw cap l c) : W.cell? ⟨bm, 3, none⟩ = some (.int .i64 c.s) := cell_of_heap h.1 rfl
theorem RefIs.c4 (h : RefIs W bm bw cap l c) : W.cell? ⟨bm, 4, none⟩ = some (.int .i64 c.a) := cell_of_heap h.1 rfl
theorem RefIs.c5 (h : RefIs W bm bw cap l c) : W.cell? ⟨bm, 5, none⟩ = some (.int .i64 c.f) := cell_of_heap h.1 rfl
theorem RefIs.fz (h : RefIs W bm bw cap l c) (k : Nat) : W.frozen? ⟨bm, k, none⟩ = false := free_of_heap h.1
theorem RefIs.word (h : RefIs W bm bw cap l c) {i x : Nat} (hx : l[i]? = some x) : W.cell? ⟨bw, i, none⟩ = some (.int .u64 x) := by
  obtain ⟨cur, h1, h2⟩ := h.2.1
  exact cell_of_heap h1 (h2 i x hx)
theorem RefIs.fzw (h : RefIs W bm bw cap l c) (k : Nat) : W.frozen? ⟨bw, k, none⟩ = false := by
  obtain ⟨cur, h1, _⟩ := h.2.1
  exact free_of_heap h1
theorem RefIs.of_blocks (h : RefIs W bm bw cap l c) (h1 : W'.heap[bm]? = W.heap[bm]?) (h2 : W'.heap[bw]? = W.heap[bw]?) : RefIs W' bm bw cap l c := by
  obtain ⟨cur, h3, h4⟩ := h.2.1
  exact ⟨h1.trans h.1, ⟨cur, h2.trans h3, h4⟩, h.2.2⟩
theorem RefIs.drewN (h : RefIs W bm bw cap l c) (n : Nat) : RefIs (W.drewN n) bm bw cap l c := h
theorem RefIs.alloc (h : RefIs W bm bw cap l c) (o : Obj) : RefIs (W.alloc o) bm bw cap l c := h.of_blocks (Below.heap_alloc _ _ _ h.lt1) (Below.heap_alloc _ _ _ h.lt2)
theorem RefIs.setBm (h : RefIs W bm bw cap l c) {k : Nat} {v : Value} {c' : Cn}
    (hc : (#[Value.slice (some ⟨bw, 0, none⟩) l.length cap, .int .i64 c.r, .int .i64 c.w, .int .i64 c.s, .int .i64 c.a, .int .i64 c.f] : Array Value).setIfInBounds k v = #[.slice (some ⟨bw, 0, none⟩) l.length cap, .int .i64 c'.r, .int .i64 c'.w, .int .i64 c'.s, .int .i64 c'.a, .int .i64 c'.f]) :
    RefIs (W.setCell ⟨bm, k, none⟩ v) bm bw cap l c' := by
  obtain ⟨cur, h3, h4⟩ := h.2.1
  refine ⟨?_, ⟨cur, (Below.heap_setCell _ _ _ _ h.2.2.symm).trans h3, h4⟩, h.2.2⟩
  rw [heap_set_self h.1, hc]
theorem RefIs.incR (h : RefIs W bm bw cap l c) : RefIs (W.setCell ⟨bm, 1, none⟩ (.int .i64 ((c.r : Int) + 1))) bm bw cap l { c with r := c.r + 1 } := h.setBm rfl
theorem RefIs.incW (h : RefIs W bm bw cap l c) : RefIs (W.setCell ⟨bm, 2, none⟩ (.int .i64 ((c.w : Int) + 1))) bm bw cap l { c with w := c.w + 1 } := h.setBm rfl
theorem RefIs.incS (h : RefIs W bm bw cap l c) : RefIs (W.setCell ⟨bm, 3, none⟩ (.int .i64 ((c.s : Int) + 1))) bm bw cap l { c with s := c.s + 1 } := h.setBm rfl
theorem RefIs.incA (h : RefIs W bm bw cap l c) : RefIs (W.setCell ⟨bm, 4, none⟩ (.int .i64 ((c.a : Int) + 1))) bm bw cap l { c with a := c.a + 1 } := h.setBm rfl
theorem RefIs.incF (h : RefIs W bm bw cap l c) : RefIs (W.setCell ⟨bm, 5, none⟩ (.int .i64 ((c.f : Int) + 1))) bm bw cap l { c with f := c.f + 1 } := h.setBm rfl
theorem RefIs.setWord (h : RefIs W bm bw cap l c) (i x : Nat) : RefIs (W.setCell ⟨bw, i, none⟩ (.int .u64 (x : Int))) bm bw cap (l.set i x) c := by
  obtain ⟨cur, h3, h4⟩ := h.2.1
  refine ⟨?_, ⟨_, heap_set_self h3, fun j y hy => ?_⟩, h.2.2⟩
  · rw [List.length_set]
    exact (Below.heap_setCell _ _ _ _ h.2.2).trans h.1
  · rw [List.getElem?_set] at hy
    rw [Array.getElem?_setIfInBounds]
    by_cases hij : i = j
    · subst hij
      rw [if_pos rfl] at hy ⊢
      by_cases hi : i < l.length
      · rw [if_pos hi, Option.some.injEq] at hy
        subst hy
        have := h4 i (l[i]) (List.getElem?_eq_getElem hi)
        have hlt := (Array.getElem?_eq_some_iff.1 this).1
        rw [if_pos hlt]
      · rw [if_neg hi] at hy; cases hy
    · rw [if_neg hij] at hy ⊢
      exact h4 j y hy
end

set_option linter.unusedVariables false
/-- what an access of the reference leaves -/
def LeftR (v : Value) (br g cap : Nat) (l : List Nat) (c : Cn) (w : World) (e : Ending) (w' : World) : Prop := e = .returned v ∧ RefIs w' br g cap l c ∧ But br g w w'

set_option maxHeartbeats 400000 in
theorem racc_read (br g cap i x : Nat) (y z : Nat) (l : List Nat) (c : Cn) (w : World) (hM : RefIs w br g cap l c) (hi : l[i]? = some x) (hn : l.length ≤ 65536) (hc : c.r < 9223372036854775807) :
    Calls Try.prog 24 #[.pointer (some ⟨br, 0, none⟩), .int .i64 0, .int .i64 i, .int .u64 y, .int .u64 z] w (LeftR (.int .u64 x) br g cap l { c with r := c.r + 1 } w) := by
  have hil : i < l.length := (List.getElem?_eq_some_iff.1 hi).1
  have h0 := hM.c0
  have h1 := hM.c1
  have f1 := hM.fz 1
  have hx := hM.word hi
  have fx := hM.fzw i
  have hb := hM.lt1
  have hb2 := hM.lt2
  have hne := hM.2.2
  have HM := Lib.hid hM
  have HI := Lib.hid hi
  clear hM hi
  go_enter Try.func24, Try.ntmps24
  go_wp2
  go_ret
  refine ⟨rfl, ?_, ?_⟩
  · repeat (first | with_reducible exact HM.out.incR | with_reducible apply RefIs.alloc | with_reducible apply RefIs.drewN | with_reducible apply RefIs.setWord)
  · repeat (first | with_reducible exact But.refl _ _ _ | with_reducible apply But.alloc | with_reducible apply But.drewN | with_reducible apply But.drew | with_reducible apply But.setP | with_reducible apply But.setQ)

set_option maxHeartbeats 400000 in
theorem racc_write (br g cap i x : Nat) (y z : Nat) (l : List Nat) (c : Cn) (w : World) (hM : RefIs w br g cap l c) (hi : l[i]? = some x) (hn : l.length ≤ 65536) (hc : c.w < 9223372036854775807) :
    Calls Try.prog 24 #[.pointer (some ⟨br, 0, none⟩), .int .i64 1, .int .i64 i, .int .u64 y, .int .u64 z] w (LeftR (.int .u64 0) br g cap (l.set i y) { c with w := c.w + 1 } w) := by
  have hil : i < l.length := (List.getElem?_eq_some_iff.1 hi).1
  have h0 := hM.c0
  have h1 := hM.c2
  have f1 := hM.fz 2
  have hx := hM.word hi
  have fx := hM.fzw i
  have hb := hM.lt1
  have hb2 := hM.lt2
  have hne := hM.2.2
  have HM := Lib.hid hM
  have HI := Lib.hid hi
  clear hM hi
  go_enter Try.func24, Try.ntmps24
  go_wp2
  go_ret
  refine ⟨rfl, ?_, ?_⟩
  · repeat (first | with_reducible exact HM.out.incW | with_reducible apply RefIs.alloc | with_reducible apply RefIs.drewN | with_reducible apply RefIs.setWord)
  · repeat (first | with_reducible exact But.refl _ _ _ | with_reducible apply But.alloc | with_reducible apply But.drewN | with_reducible apply But.drew | with_reducible apply But.setP | with_reducible apply But.setQ)

set_option maxHeartbeats 400000 in
theorem racc_hit (br g cap i x : Nat) (z : Nat) (l : List Nat) (c : Cn) (w : World) (hM : RefIs w br g cap l c) (hi : l[i]? = some x) (hn : l.length ≤ 65536) (hc : c.s < 9223372036854775807) :
    Calls Try.prog 24 #[.pointer (some ⟨br, 0, none⟩), .int .i64 2, .int .i64 i, .int .u64 x, .int .u64 z] w (LeftR (.int .u64 1) br g cap (l.set i z) { c with s := c.s + 1 } w) := by
  have hil : i < l.length := (List.getElem?_eq_some_iff.1 hi).1
  have h0 := hM.c0
  have h1 := hM.c3
  have f1 := hM.fz 3
  have hx := hM.word hi
  have fx := hM.fzw i
  have hb := hM.lt1
  have hb2 := hM.lt2
  have hne := hM.2.2
  have HM := Lib.hid hM
  have HI := Lib.hid hi
  clear hM hi
  go_enter Try.func24, Try.ntmps24
  go_wp2
  go_ret
  refine ⟨rfl, ?_, ?_⟩
  · repeat (first | with_reducible exact HM.out.incS | with_reducible apply RefIs.alloc | with_reducible apply RefIs.drewN | with_reducible apply RefIs.setWord)
  · repeat (first | with_reducible exact But.refl _ _ _ | with_reducible apply But.alloc | with_reducible apply But.drewN | with_reducible apply But.drew | with_reducible apply But.setP | with_reducible apply But.setQ)

set_option maxHeartbeats 400000 in
theorem racc_miss (br g cap i x : Nat) (y z : Nat) (l : List Nat) (c : Cn) (w : World) (hM : RefIs w br g cap l c) (hi : l[i]? = some x) (hn : l.length ≤ 65536) (hc : c.s < 9223372036854775807) (hxy : x ≠ y) :
    Calls Try.prog 24 #[.pointer (some ⟨br, 0, none⟩), .int .i64 2, .int .i64 i, .int .u64 y, .int .u64 z] w (LeftR (.int .u64 0) br g cap l { c with s := c.s + 1 } w) := by
  have hil : i < l.length := (List.getElem?_eq_some_iff.1 hi).1
  have h0 := hM.c0
  have h1 := hM.c3
  have f1 := hM.fz 3
  have hx := hM.word hi
  have fx := hM.fzw i
  have hb := hM.lt1
  have hb2 := hM.lt2
  have hne := hM.2.2
  have HM := Lib.hid hM
  have HI := Lib.hid hi
  clear hM hi
  have hox : ((x : Int) == (y : Int)) = false := by simp; omega
  have hox2 : ((x : Int) != (y : Int)) = true := by simp; omega
  go_enter Try.func24, Try.ntmps24
  go_wp2
  go_ret
  refine ⟨rfl, ?_, ?_⟩
  · repeat (first | with_reducible exact HM.out.incS | with_reducible apply RefIs.alloc | with_reducible apply RefIs.drewN | with_reducible apply RefIs.setWord)
  · repeat (first | with_reducible exact But.refl _ _ _ | with_reducible apply But.alloc | with_reducible apply But.drewN | with_reducible apply But.drew | with_reducible apply But.setP | with_reducible apply But.setQ)

set_option maxHeartbeats 400000 in
theorem racc_add (br g cap i x : Nat) (y z : Nat) (k : Int) (l : List Nat) (c : Cn) (w : World) (hM : RefIs w br g cap l c) (hi : l[i]? = some x) (hn : l.length ≤ 65536) (hc : c.a < 9223372036854775807) (hk0 : k ≠ 0) (hk1 : k ≠ 1) (hk2 : k ≠ 2) :
    Calls Try.prog 24 #[.pointer (some ⟨br, 0, none⟩), .int .i64 k, .int .i64 i, .int .u64 y, .int .u64 z] w (LeftR (.int .u64 x) br g cap (l.set i ((x + y) % 18446744073709551616)) { c with a := c.a + 1 } w) := by
  have HW : Hid (IntKind.u64.wrap ((x : Int) + (y : Int)) = ((((x + y) % 18446744073709551616 : Nat)) : Int)) := Lib.hid (by rw [IntKind.wrap_u64]; omega)
  have e0 : (k == 0) = false := by simp; omega
  have e1 : (k == 1) = false := by simp; omega
  have e2 : (k == 2) = false := by simp; omega
  have hil : i < l.length := (List.getElem?_eq_some_iff.1 hi).1
  have h0 := hM.c0
  have h1 := hM.c4
  have f1 := hM.fz 4
  have hx := hM.word hi
  have fx := hM.fzw i
  have hb := hM.lt1
  have hb2 := hM.lt2
  have hne := hM.2.2
  have HM := Lib.hid hM
  have HI := Lib.hid hi
  clear hM hi
  go_enter Try.func24, Try.ntmps24
  go_wp2
  go_ret
  rw [HW.out]
  refine ⟨rfl, ?_, ?_⟩
  · repeat (first | with_reducible exact HM.out.incA | with_reducible apply RefIs.alloc | with_reducible apply RefIs.drewN | with_reducible apply RefIs.setWord)
  · repeat (first | with_reducible exact But.refl _ _ _ | with_reducible apply But.alloc | with_reducible apply But.drewN | with_reducible apply But.drew | with_reducible apply But.setP | with_reducible apply But.setQ)

set_option maxHeartbeats 400000 in
theorem racc_fault (br g cap : Nat) (k a : Int) (y z : Nat) (l : List Nat) (c : Cn) (w : World) (hM : RefIs w br g cap l c) (hn : l.length ≤ 65536) (ha : a < 0 ∨ (l.length : Int) ≤ a) (hc : c.f < 9223372036854775807) :
    Calls Try.prog 24 #[.pointer (some ⟨br, 0, none⟩), .int .i64 k, .int .i64 a, .int .u64 y, .int .u64 z] w (LeftR (.int .u64 0) br g cap l { c with f := c.f + 1 } w) := by
  have h0 := hM.c0
  have h1 := hM.c5
  have f1 := hM.fz 5
  have hb := hM.lt1
  have hb2 := hM.lt2
  have hne := hM.2.2
  have HM := Lib.hid hM
  clear hM
  rcases ha with ha | ha
  · go_enter Try.func24, Try.ntmps24
    go_wp2
    go_ret
    refine ⟨rfl, ?_, ?_⟩
    · repeat (first | with_reducible exact HM.out.incF | with_reducible apply RefIs.alloc | with_reducible apply RefIs.drewN | with_reducible apply RefIs.setWord)
    · repeat (first | with_reducible exact But.refl _ _ _ | with_reducible apply But.alloc | with_reducible apply But.drewN | with_reducible apply But.drew | with_reducible apply But.setP | with_reducible apply But.setQ)
  · have ha0 : 0 ≤ a := by omega
    go_enter Try.func24, Try.ntmps24
    go_wp2
    go_ret
    refine ⟨rfl, ?_, ?_⟩
    · repeat (first | with_reducible exact HM.out.incF | with_reducible apply RefIs.alloc | with_reducible apply RefIs.drewN | with_reducible apply RefIs.setWord)
    · repeat (first | with_reducible exact But.refl _ _ _ | with_reducible apply But.alloc | with_reducible apply But.drewN | with_reducible apply But.drew | with_reducible apply But.setP | with_reducible apply But.setQ)
end Go.Proofs.Ytehcfflofacapaa
