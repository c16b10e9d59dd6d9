/- Walks of the reference's accesses, of a memory that begins a struct. -/
import Derived.Test.YtihhjbcphdnkhaaQI
namespace Go.Proofs.Ytihhjbcphdnkhaa
open Go.RowKit

/-- the reference's memory as the first part of a struct: its six cells, and what else the struct has; and the row of its words -/
def RefG (t : TypeId) (R : List Value) (W : World) (br g cap : Nat) (l : List Nat) (c : Cn) : Prop :=
  W.heap[br]? = some (.cells (.slice (some ⟨g, 0, none⟩) l.length cap :: .int .i64 (c.r : Int) :: .int .i64 (c.w : Int) :: .int .i64 (c.s : Int) :: .int .i64 (c.a : Int) :: .int .i64 (c.f : Int) :: R).toArray t (0, 0)) ∧
  (∃ cur : Array Value, W.heap[g]? = some (.cells cur 46 (0, 0)) ∧ ∀ (i x : Nat), l[i]? = some x → cur[i]? = some (Value.int .u64 (x : Int))) ∧ br ≠ g

section
variable {t : TypeId} {R : List Value} {W W' : World} {bm bw cap : Nat} {l : List Nat} {c : Cn}
theorem RefG.lt1 (h : RefG t R W bm bw cap l c) : bm < W.heap.size := lt_of_heap h.1
theorem RefG.lt2 (h : RefG t R W bm bw cap l c) : bw < W.heap.size := by obtain ⟨cur, h1, _⟩ := h.2.1; exact lt_of_heap h1
theorem RefG.c0 (h : RefG t R W bm bw cap l c) : W.cell? ⟨bm, 0, none⟩ = some (.slice (some ⟨bw, 0, none⟩) l.length cap) := cell_of_heap h.1 (by simp)
theorem RefG.c1 (h : RefG t R W bm bw cap l c) : W.cell? ⟨bm, 1, none⟩ = some (.int .i64 c.r) := cell_of_heap h.1 (by simp)
theorem RefG.c2 (h : RefG t R W bm bw cap l c) : W.cell? ⟨bm, 2, none⟩ = some (.int .i64 c.w) := cell_of_heap h.1 (by simp)
theorem RefG.c3 (h : RefG t R W bm bw cap l c) : W.cell? ⟨bm, 3, none⟩ = some (.int .i64 c.s) := cell_of_heap h.1 (by simp)
theorem RefG.c4 (h : RefG t R W bm bw cap l c) : W.cell? ⟨bm, 4, none⟩ = some (.int .i64 c.a) := cell_of_heap h.1 (by simp)
theorem RefG.c5 (h : RefG t R W bm bw cap l c) : W.cell? ⟨bm, 5, none⟩ = some (.int .i64 c.f) := cell_of_heap h.1 (by simp)
theorem RefG.fz (h : RefG t R W bm bw cap l c) (k : Nat) : W.frozen? ⟨bm, k, none⟩ = false := free_of_heap h.1
theorem RefG.word (h : RefG t R W bm bw cap l c) {i x : Nat} (hx : l[i]? = some x) : W.cell? ⟨bw, i, none⟩ = some (.int .u64 x) := by
  obtain ⟨cur, h1, h2⟩ := h.2.1
  exact cell_of_heap h1 (h2 i x hx)
theorem RefG.fzw (h : RefG t R W bm bw cap l c) (k : Nat) : W.frozen? ⟨bw, k, none⟩ = false := by
  obtain ⟨cur, h1, _⟩ := h.2.1
  exact free_of_heap h1
theorem RefG.of_blocks (h : RefG t R W bm bw cap l c) (h1 : W'.heap[bm]? = W.heap[bm]?) (h2 : W'.heap[bw]? = W.heap[bw]?) : RefG t R W' bm bw cap l c := by
  obtain ⟨cur, h3, h4⟩ := h.2.1
  exact ⟨h1.trans h.1, ⟨cur, h2.trans h3, h4⟩, h.2.2⟩
theorem RefG.drewN (h : RefG t R W bm bw cap l c) (n : Nat) : RefG t R (W.drewN n) bm bw cap l c := h
theorem RefG.alloc (h : RefG t R W bm bw cap l c) (o : Obj) : RefG t R (W.alloc o) bm bw cap l c := h.of_blocks (Below.heap_alloc _ _ _ h.lt1) (Below.heap_alloc _ _ _ h.lt2)
theorem RefG.setBm (h : RefG t R W bm bw cap l c) {k : Nat} {v : Value} {c' : Cn}
    (hc : (Value.slice (some ⟨bw, 0, none⟩) l.length cap :: .int .i64 (c.r : Int) :: .int .i64 (c.w : Int) :: .int .i64 (c.s : Int) :: .int .i64 (c.a : Int) :: .int .i64 (c.f : Int) :: R).toArray.setIfInBounds k v = (.slice (some ⟨bw, 0, none⟩) l.length cap :: .int .i64 (c'.r : Int) :: .int .i64 (c'.w : Int) :: .int .i64 (c'.s : Int) :: .int .i64 (c'.a : Int) :: .int .i64 (c'.f : Int) :: R).toArray) :
    RefG t R (W.setCell ⟨bm, k, none⟩ v) bm bw cap l c' := by
  obtain ⟨cur, h3, h4⟩ := h.2.1
  refine ⟨?_, ⟨cur, (Below.heap_setCell _ _ _ _ h.2.2.symm).trans h3, h4⟩, h.2.2⟩
  rw [heap_set_self h.1, hc]
theorem RefG.incR (h : RefG t R W bm bw cap l c) : RefG t R (W.setCell ⟨bm, 1, none⟩ (.int .i64 ((c.r : Int) + 1))) bm bw cap l { c with r := c.r + 1 } := h.setBm (by simp)
theorem RefG.incW (h : RefG t R W bm bw cap l c) : RefG t R (W.setCell ⟨bm, 2, none⟩ (.int .i64 ((c.w : Int) + 1))) bm bw cap l { c with w := c.w + 1 } := h.setBm (by simp)
theorem RefG.incS (h : RefG t R W bm bw cap l c) : RefG t R (W.setCell ⟨bm, 3, none⟩ (.int .i64 ((c.s : Int) + 1))) bm bw cap l { c with s := c.s + 1 } := h.setBm (by simp)
theorem RefG.incA (h : RefG t R W bm bw cap l c) : RefG t R (W.setCell ⟨bm, 4, none⟩ (.int .i64 ((c.a : Int) + 1))) bm bw cap l { c with a := c.a + 1 } := h.setBm (by simp)
theorem RefG.incF (h : RefG t R W bm bw cap l c) : RefG t R (W.setCell ⟨bm, 5, none⟩ (.int .i64 ((c.f : Int) + 1))) bm bw cap l { c with f := c.f + 1 } := h.setBm (by simp)
theorem RefG.setWord (h : RefG t R W bm bw cap l c) (i x : Nat) : RefG t R (W.setCell ⟨bw, i, none⟩ (.int .u64 (x : Int))) bm bw cap (l.set i x) c := by
  obtain ⟨cur, h3, h4⟩ := h.2.1
  refine ⟨?_, ⟨_, heap_set_self h3, fun j y hy => ?_⟩, h.2.2⟩
  · rw [List.length_set]
    exact (Below.heap_setCell _ _ _ _ h.2.2).trans h.1
  · rw [List.getElem?_set] at hy
    rw [Array.getElem?_setIfInBounds]
    by_cases hij : i = j
    · subst hij
      rw [if_pos rfl] at hy ⊢
      by_cases hi : i < l.length
      · rw [if_pos hi, Option.some.injEq] at hy
        subst hy
        have := h4 i (l[i]) (List.getElem?_eq_getElem hi)
        have hlt := (Array.getElem?_eq_some_iff.1 this).1
        rw [if_pos hlt]
      · rw [if_neg hi] at hy; cases hy
    · rw [if_neg hij] at hy ⊢
      exact h4 j y hy
end

set_option linter.unusedVariables false
/-- what an access of the reference leaves -/
def LeftG (t : TypeId) (R : List Value) (v : Value) (br g cap : Nat) (l : List Nat) (c : Cn) (w : World) (e : Ending) (w' : World) : Prop := e = .returned v ∧ RefG t R w' br g cap l c ∧ But br g w w'

set_option maxHeartbeats 400000 in
theorem gacc_read (t : TypeId) (R : List Value) (br g cap i x : Nat) (y z : Nat) (l : List Nat) (c : Cn) (w : World) (hM : RefG t R w br g cap l c) (hi : l[i]? = some x) (hn : l.length ≤ 65536) (hc : c.r < 9223372036854775807) :
    Calls Try.prog 39 #[.pointer (some ⟨br, 0, none⟩), .int .i64 0, .int .i64 i, .int .u64 y, .int .u64 z] w (LeftG t R (.int .u64 x) br g cap l { c with r := c.r + 1 } w) := by
  have hil : i < l.length := (List.getElem?_eq_some_iff.1 hi).1
  have h0 := hM.c0
  have h1 := hM.c1
  have f1 := hM.fz 1
  have hx := hM.word hi
  have fx := hM.fzw i
  have hb := hM.lt1
  have hb2 := hM.lt2
  have hne := hM.2.2
  have HM := Lib.hid hM
  have HI := Lib.hid hi
  clear hM hi
  go_enter Try.func39, Try.ntmps39
  go_wp2
  go_ret
  refine ⟨rfl, ?_, ?_⟩
  · repeat (first | with_reducible exact HM.out.incR | with_reducible apply RefG.alloc | with_reducible apply RefG.drewN | with_reducible apply RefG.setWord)
  · repeat (first | with_reducible exact But.refl _ _ _ | with_reducible apply But.alloc | with_reducible apply But.drewN | with_reducible apply But.drew | with_reducible apply But.setP | with_reducible apply But.setQ)

set_option maxHeartbeats 400000 in
theorem gacc_write (t : TypeId) (R : List Value) (br g cap i x : Nat) (y z : Nat) (l : List Nat) (c : Cn) (w : World) (hM : RefG t R w br g cap l c) (hi : l[i]? = some x) (hn : l.length ≤ 65536) (hc : c.w < 9223372036854775807) :
    Calls Try.prog 39 #[.pointer (some ⟨br, 0, none⟩), .int .i64 1, .int .i64 i, .int .u64 y, .int .u64 z] w (LeftG t R (.int .u64 0) br g cap (l.set i y) { c with w := c.w + 1 } w) := by
  have hil : i < l.length := (List.getElem?_eq_some_iff.1 hi).1
  have h0 := hM.c0
  have h1 := hM.c2
  have f1 := hM.fz 2
  have hx := hM.word hi
  have fx := hM.fzw i
  have hb := hM.lt1
  have hb2 := hM.lt2
  have hne := hM.2.2
  have HM := Lib.hid hM
  have HI := Lib.hid hi
  clear hM hi
  go_enter Try.func39, Try.ntmps39
  go_wp2
  go_ret
  refine ⟨rfl, ?_, ?_⟩
  · repeat (first | with_reducible exact HM.out.incW | with_reducible apply RefG.alloc | with_reducible apply RefG.drewN | with_reducible apply RefG.setWord)
  · repeat (first | with_reducible exact But.refl _ _ _ | with_reducible apply But.alloc | with_reducible apply But.drewN | with_reducible apply But.drew | with_reducible apply But.setP | with_reducible apply But.setQ)

set_option maxHeartbeats 400000 in
theorem gacc_hit (t : TypeId) (R : List Value) (br g cap i x : Nat) (z : Nat) (l : List Nat) (c : Cn) (w : World) (hM : RefG t R w br g cap l c) (hi : l[i]? = some x) (hn : l.length ≤ 65536) (hc : c.s < 9223372036854775807) :
    Calls Try.prog 39 #[.pointer (some ⟨br, 0, none⟩), .int .i64 2, .int .i64 i, .int .u64 x, .int .u64 z] w (LeftG t R (.int .u64 1) br g cap (l.set i z) { c with s := c.s + 1 } w) := by
  have hil : i < l.length := (List.getElem?_eq_some_iff.1 hi).1
  have h0 := hM.c0
  have h1 := hM.c3
  have f1 := hM.fz 3
  have hx := hM.word hi
  have fx := hM.fzw i
  have hb := hM.lt1
  have hb2 := hM.lt2
  have hne := hM.2.2
  have HM := Lib.hid hM
  have HI := Lib.hid hi
  clear hM hi
  go_enter Try.func39, Try.ntmps39
  go_wp2
  go_ret
  refine ⟨rfl, ?_, ?_⟩
  · repeat (first | with_reducible exact HM.out.incS | with_reducible apply RefG.alloc | with_reducible apply RefG.drewN | with_reducible apply RefG.setWord)
  · repeat (first | with_reducible exact But.refl _ _ _ | with_reducible apply But.alloc | with_reducible apply But.drewN | with_reducible apply But.drew | with_reducible apply But.setP | with_reducible apply But.setQ)

set_option maxHeartbeats 400000 in
theorem gacc_miss (t : TypeId) (R : List Value) (br g cap i x : Nat) (y z : Nat) (l : List Nat) (c : Cn) (w : World) (hM : RefG t R w br g cap l c) (hi : l[i]? = some x) (hn : l.length ≤ 65536) (hc : c.s < 9223372036854775807) (hxy : x ≠ y) :
    Calls Try.prog 39 #[.pointer (some ⟨br, 0, none⟩), .int .i64 2, .int .i64 i, .int .u64 y, .int .u64 z] w (LeftG t R (.int .u64 0) br g cap l { c with s := c.s + 1 } w) := by
  have hil : i < l.length := (List.getElem?_eq_some_iff.1 hi).1
  have h0 := hM.c0
  have h1 := hM.c3
  have f1 := hM.fz 3
  have hx := hM.word hi
  have fx := hM.fzw i
  have hb := hM.lt1
  have hb2 := hM.lt2
  have hne := hM.2.2
  have HM := Lib.hid hM
  have HI := Lib.hid hi
  clear hM hi
  have hox : ((x : Int) == (y : Int)) = false := by simp; omega
  have hox2 : ((x : Int) != (y : Int)) = true := by simp; omega
  go_enter Try.func39, Try.ntmps39
  go_wp2
  go_ret
  refine ⟨rfl, ?_, ?_⟩
  · repeat (first | with_reducible exact HM.out.incS | with_reducible apply RefG.alloc | with_reducible apply RefG.drewN | with_reducible apply RefG.setWord)
  · repeat (first | with_reducible exact But.refl _ _ _ | with_reducible apply But.alloc | with_reducible apply But.drewN | with_reducible apply But.drew | with_reducible apply But.setP | with_reducible apply But.setQ)

set_option maxHeartbeats 400000 in
theorem gacc_add (t : TypeId) (R : List Value) (br g cap i x : Nat) (y z : Nat) (k : Int) (l : List Nat) (c : Cn) (w : World) (hM : RefG t R w br g cap l c) (hi : l[i]? = some x) (hn : l.length ≤ 65536) (hc : c.a < 9223372036854775807) (hk0 : k ≠ 0) (hk1 : k ≠ 1) (hk2 : k ≠ 2) :
    Calls Try.prog 39 #[.pointer (some ⟨br, 0, none⟩), .int .i64 k, .int .i64 i, .int .u64 y, .int .u64 z] w (LeftG t R (.int .u64 x) br g cap (l.set i ((x + y) % 18446744073709551616)) { c with a := c.a + 1 } w) := by
  have HW : Hid (IntKind.u64.wrap ((x : Int) + (y : Int)) = ((((x + y) % 18446744073709551616 : Nat)) : Int)) := Lib.hid (by rw [IntKind.wrap_u64]; omega)
  have e0 : (k == 0) = false := by simp; omega
  have e1 : (k == 1) = false := by simp; omega
  have e2 : (k == 2) = false := by simp; omega
  have hil : i < l.length := (List.getElem?_eq_some_iff.1 hi).1
  have h0 := hM.c0
  have h1 := hM.c4
  have f1 := hM.fz 4
  have hx := hM.word hi
  have fx := hM.fzw i
  have hb := hM.lt1
  have hb2 := hM.lt2
  have hne := hM.2.2
  have HM := Lib.hid hM
  have HI := Lib.hid hi
  clear hM hi
  go_enter Try.func39, Try.ntmps39
  go_wp2
  go_ret
  rw [HW.out]
  refine ⟨rfl, ?_, ?_⟩
  · repeat (first | with_reducible exact HM.out.incA | with_reducible apply RefG.alloc | with_reducible apply RefG.drewN | with_reducible apply RefG.setWord)
  · repeat (first | with_reducible exact But.refl _ _ _ | with_reducible apply But.alloc | with_reducible apply But.drewN | with_reducible apply But.drew | with_reducible apply But.setP | with_reducible apply But.setQ)

set_option maxHeartbeats 400000 in
theorem gacc_fault (t : TypeId) (R : List Value) (br g cap : Nat) (k a : Int) (y z : Nat) (l : List Nat) (c : Cn) (w : World) (hM : RefG t R w br g cap l c) (hn : l.length ≤ 65536) (ha : a < 0 ∨ (l.length : Int) ≤ a) (hc : c.f < 9223372036854775807) :
    Calls Try.prog 39 #[.pointer (some ⟨br, 0, none⟩), .int .i64 k, .int .i64 a, .int .u64 y, .int .u64 z] w (LeftG t R (.int .u64 0) br g cap l { c with f := c.f + 1 } w) := by
  have h0 := hM.c0
  have h1 := hM.c5
  have f1 := hM.fz 5
  have hb := hM.lt1
  have hb2 := hM.lt2
  have hne := hM.2.2
  have HM := Lib.hid hM
  clear hM
  rcases ha with ha | ha
  · go_enter Try.func39, Try.ntmps39
    go_wp2
    go_ret
    refine ⟨rfl, ?_, ?_⟩
    · repeat (first | with_reducible exact HM.out.incF | with_reducible apply RefG.alloc | with_reducible apply RefG.drewN | with_reducible apply RefG.setWord)
    · repeat (first | with_reducible exact But.refl _ _ _ | with_reducible apply But.alloc | with_reducible apply But.drewN | with_reducible apply But.drew | with_reducible apply But.setP | with_reducible apply But.setQ)
  · have ha0 : 0 ≤ a := by omega
    go_enter Try.func39, Try.ntmps39
    go_wp2
    go_ret
    refine ⟨rfl, ?_, ?_⟩
    · repeat (first | with_reducible exact HM.out.incF | with_reducible apply RefG.alloc | with_reducible apply RefG.drewN | with_reducible apply RefG.setWord)
    · repeat (first | with_reducible exact But.refl _ _ _ | with_reducible apply But.alloc | with_reducible apply But.drewN | with_reducible apply But.drew | with_reducible apply But.setP | with_reducible apply But.setQ)

/-- an access: the answer, the words, the counts -/
def stepA (k a : Int) (x y : Nat) (l : List Nat) (c : Cn) : Nat × List Nat × Cn :=
  if a < 0 ∨ (l.length : Int) ≤ a then (0, l, { c with f := c.f + 1 })
  else if k = 0 then (l.getD a.toNat 0, l, { c with r := c.r + 1 })
  else if k = 1 then (0, l.set a.toNat x, { c with w := c.w + 1 })
  else if k = 2 then if l.getD a.toNat 0 = x then (1, l.set a.toNat y, { c with s := c.s + 1 }) else (0, l, { c with s := c.s + 1 })
  else (l.getD a.toNat 0, l.set a.toNat ((l.getD a.toNat 0 + x) % 18446744073709551616), { c with a := c.a + 1 })

def Cn.le (c : Cn) (n : Nat) : Prop := c.r ≤ n ∧ c.w ≤ n ∧ c.s ≤ n ∧ c.a ≤ n ∧ c.f ≤ n
theorem stepA_len (k a : Int) (x y : Nat) (l : List Nat) (c : Cn) : (stepA k a x y l c).2.1.length = l.length := by
  unfold stepA
  repeat' split
  all_goals simp
theorem stepA_le (k a : Int) (x y : Nat) (l : List Nat) (c : Cn) (n : Nat) (h : c.le n) : (stepA k a x y l c).2.2.le (n + 1) := by
  obtain ⟨h1, h2, h3, h4, h5⟩ := h
  unfold stepA Cn.le
  split
  · simp only; omega
  · split
    · simp only; omega
    · split
      · simp only; omega
      · split
        · split <;> (simp only; omega)
        · simp only; omega
theorem step_fault {k a : Int} {x y : Nat} {l : List Nat} {c : Cn} (h : a < 0 ∨ (l.length : Int) ≤ a) : stepA k a x y l c = (0, l, { c with f := c.f + 1 }) := by
  unfold stepA; rw [if_pos h]
section
variable {i x y v : Nat} {l : List Nat} {c : Cn}
theorem step_read (h : l[i]? = some v) : stepA 0 i x y l c = (v, l, { c with r := c.r + 1 }) := by
  have hl := (List.getElem?_eq_some_iff.1 h).1
  unfold stepA; rw [if_neg (by omega), if_pos rfl]; simp [List.getD, h]
theorem step_write (h : l[i]? = some v) : stepA 1 i x y l c = (0, l.set i x, { c with w := c.w + 1 }) := by
  have hl := (List.getElem?_eq_some_iff.1 h).1
  unfold stepA; rw [if_neg (by omega), if_neg (by omega), if_pos rfl]; simp
theorem step_hit (h : l[i]? = some x) : stepA 2 i x y l c = (1, l.set i y, { c with s := c.s + 1 }) := by
  have hl := (List.getElem?_eq_some_iff.1 h).1
  unfold stepA; rw [if_neg (by omega), if_neg (by omega), if_neg (by omega), if_pos rfl, if_pos (by simp [List.getD, h])]; simp
theorem step_miss (h : l[i]? = some v) (hv : v ≠ x) : stepA 2 i x y l c = (0, l, { c with s := c.s + 1 }) := by
  have hl := (List.getElem?_eq_some_iff.1 h).1
  unfold stepA; rw [if_neg (by omega), if_neg (by omega), if_neg (by omega), if_pos rfl, if_neg (by simp [List.getD, h]; exact hv)]
theorem step_add {k : Int} (h : l[i]? = some v) (h0 : k ≠ 0) (h1 : k ≠ 1) (h2 : k ≠ 2) : stepA k i x y l c = (v, l.set i ((v + x) % 18446744073709551616), { c with a := c.a + 1 }) := by
  have hl := (List.getElem?_eq_some_iff.1 h).1
  unfold stepA; rw [if_neg (by omega), if_neg h0, if_neg h1, if_neg h2]; simp [List.getD, h]
end

/-- ANY ACCESS OF THE REFERENCE -/
theorem gacc_any (t : TypeId) (R : List Value) (br g cap : Nat) (k a : Int) (x y : Nat) (l : List Nat) (c : Cn) (w : World) (hM : RefG t R w br g cap l c) (hn : l.length ≤ 65536) (n : Nat) (hc : c.le n) (hN : n < 9223372036854775807) :
    Calls Try.prog 39 #[.pointer (some ⟨br, 0, none⟩), .int .i64 k, .int .i64 a, .int .u64 x, .int .u64 y] w (LeftG t R (.int .u64 (stepA k a x y l c).1) br g cap (stepA k a x y l c).2.1 (stepA k a x y l c).2.2 w) := by
  obtain ⟨h1, h2, h3, h4, h5⟩ := hc
  by_cases hf : a < 0 ∨ (l.length : Int) ≤ a
  · rw [step_fault hf]
    exact gacc_fault t R br g cap k a x y l c w hM hn hf (by omega)
  · obtain ⟨i, rfl⟩ : ∃ t : Nat, a = t := ⟨a.toNat, by omega⟩
    have hl : i < l.length := by omega
    have hv := List.getElem?_eq_getElem hl
    by_cases k0 : k = 0
    · subst k0
      rw [step_read hv]
      exact gacc_read t R br g cap i _ x y l c w hM hv hn (by omega)
    · by_cases k1 : k = 1
      · subst k1
        rw [step_write hv]
        exact gacc_write t R br g cap i _ x y l c w hM hv hn (by omega)
      · by_cases k2 : k = 2
        · subst k2
          by_cases hx : l[i] = x
          · subst hx
            rw [step_hit hv]
            exact gacc_hit t R br g cap i _ y l c w hM hv hn (by omega)
          · rw [step_miss hv hx]
            exact gacc_miss t R br g cap i _ x y l c w hM hv hn (by omega) hx
        · rw [step_add hv k0 k1 k2]
          exact gacc_add t R br g cap i _ x y k l c w hM hv hn (by omega) k0 k1 k2
end Go.Proofs.Ytihhjbcphdnkhaa
