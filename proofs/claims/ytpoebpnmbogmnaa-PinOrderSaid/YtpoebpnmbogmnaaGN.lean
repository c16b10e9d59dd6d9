/- The memory in memory: a struct of a slice and five counts, and the block of its words. Over no program. | Walks of the memory's accesses. | The memory: Add. | Walks of duplicate, New, Words, Len. | Walks of New, Words, Len, Counts. | Walks of Words. | Walks of the reference: Same, Of, and its accesses. -/
import Derived.Test.YtpoebpnmbogmnaaGK
import Derived.Deep.QuietTactic
import Derived.BigQuiet
import Derived.RegionTactic
import Derived.Laws.CopyOwn
import Derived.Laws.MakeOwn
import Derived.Laws.IdiomArrays
import Derived.Laws.AppendOwnNone
namespace Go.Proofs.Ytpoebpnmbogmnaa
section
open Go.RowKit

structure Cn where
  r : Nat
  w : Nat
  s : Nat
  a : Nat
  f : Nat

def u64s (l : List Nat) : List Value := l.map fun x : Nat => Value.int .u64 (x : Int)
theorem u64s_length (l : List Nat) : (u64s l).length = l.length := by unfold u64s; simp
theorem u64s_get {l : List Nat} {i x : Nat} (h : l[i]? = some x) : (u64s l)[i]? = some (.int .u64 (x : Int)) := by unfold u64s; rw [List.getElem?_map, h]; rfl
theorem u64s_set (l : List Nat) (i x : Nat) : u64s (l.set i x) = (u64s l).set i (.int .u64 (x : Int)) := by unfold u64s; rw [List.map_set]

/-- 't72', 't22': the numbers of the struct's type, and of a word's -/
def MemIs (t72 : TypeId) (W : World) (bm bw : Nat) (l : List Nat) (c : Cn) : Prop :=
  W.heap[bm]? = some (.cells #[.slice (some ⟨bw, 0, none⟩) l.length l.length, .int .i64 c.r, .int .i64 c.w, .int .i64 c.s, .int .i64 c.a, .int .i64 c.f] t72 (0, 0)) ∧
  W.heap[bw]? = some (.cells (u64s l).toArray 37 (0, 0)) ∧ bm ≠ bw

theorem lt_of_heap {w : World} {b : Nat} {o : Obj} (h : w.heap[b]? = some o) : b < w.heap.size := by
  rcases Nat.lt_or_ge b w.heap.size with h' | h'
  · exact h'
  · simp [Array.getElem?_eq_none h'] at h
theorem heap_set_self {w : World} {b k : Nat} {c : Array Value} {t : TypeId} {fr : Nat × Nat} {v : Value} (h : w.heap[b]? = some (.cells c t fr)) : (w.setCell ⟨b, k, none⟩ v).heap[b]? = some (.cells (c.setIfInBounds k v) t fr) := by
  simp only [World.setCell, Array.getElem?_modify]
  rw [if_pos trivial, h]; rfl
theorem cell_of_heap {w : World} {b k : Nat} {c : Array Value} {t : TypeId} {fr : Nat × Nat} {v : Value} (h : w.heap[b]? = some (.cells c t fr)) (hv : c[k]? = some v) : w.cell? ⟨b, k, none⟩ = some v := by
  simp [World.cell?, h, hv]
theorem free_of_heap {w : World} {b k : Nat} {c : Array Value} {t : TypeId} (h : w.heap[b]? = some (.cells c t (0, 0))) : w.frozen? ⟨b, k, none⟩ = false := by
  simp [World.frozen?, h]

/-- all blocks but p and q, of those that there were, are as they were -/
structure But (p q : Nat) (w w' : World) : Prop where
  os : w'.os = w.os
  tape : w'.tape = w.tape
  output : w'.output = w.output
  size : w.heap.size ≤ w'.heap.size
  block : ∀ k, k < w.heap.size → k ≠ p → k ≠ q → w'.heap[k]? = w.heap[k]?

theorem But.refl (p q : Nat) (w : World) : But p q w w := ⟨rfl, rfl, rfl, Nat.le_refl _, fun _ _ _ _ => rfl⟩
theorem But.trans {p q : Nat} {a b c : World} (h : But p q a b) (k : But p q b c) : But p q a c :=
  ⟨k.os.trans h.os, k.tape.trans h.tape, k.output.trans h.output, Nat.le_trans h.size k.size, fun i hi h1 h2 => (k.block i (Nat.lt_of_lt_of_le hi h.size) h1 h2).trans (h.block i hi h1 h2)⟩
theorem But.alloc {p q : Nat} {a w : World} (h : But p q a w) (o : Obj) : But p q a (w.alloc o) :=
  ⟨h.os, h.tape, h.output, Nat.le_trans h.size (by simp), fun i hi h1 h2 => (Below.heap_alloc w o i (Nat.lt_of_lt_of_le hi h.size)).trans (h.block i hi h1 h2)⟩
theorem But.setCell {p q : Nat} {a w : World} (h : But p q a w) {x : Addr} (hx : x.block = p ∨ x.block = q ∨ a.heap.size ≤ x.block) (v : Value) : But p q a (w.setCell x v) :=
  ⟨h.os, h.tape, h.output, by simpa [World.setCell] using h.size, fun i hi h1 h2 => (Below.heap_setCell w x v i (by rcases hx with hx | hx | hx <;> omega)).trans (h.block i hi h1 h2)⟩
theorem But.drewN {p q : Nat} {a w : World} (h : But p q a w) (n : Nat) : But p q a (w.drewN n) := ⟨h.os, h.tape, h.output, h.size, h.block⟩
theorem But.drew {p q : Nat} {a w : World} (h : But p q a w) : But p q a w.drew := ⟨h.os, h.tape, h.output, h.size, h.block⟩
theorem But.setP {p q : Nat} {a w : World} (h : But p q a w) (k : Nat) (v : Value) : But p q a (w.setCell ⟨p, k, none⟩ v) := h.setCell (.inl rfl) v
theorem But.setQ {p q : Nat} {a w : World} (h : But p q a w) (k : Nat) (v : Value) : But p q a (w.setCell ⟨q, k, none⟩ v) := h.setCell (.inr (.inl rfl)) v
theorem But.setNew {p q : Nat} {a w : World} (h : But p q a w) {b : Nat} (k : Nat) (v : Value) (hb : a.heap.size ≤ b) : But p q a (w.setCell ⟨b, k, none⟩ v) := h.setCell (.inr (.inr hb)) v
theorem But.below {p q B : Nat} {a w : World} (h : But p q a w) (hp : B ≤ p) (hq : B ≤ q) (hB : B ≤ a.heap.size) : Below B a w :=
  ⟨h.os, h.tape, h.output, h.size, fun k hk => h.block k (by omega) (by omega) (by omega)⟩
theorem But.of_below {p q : Nat} {a w : World} (h : Below a.heap.size a w) : But p q a w := ⟨h.os, h.tape, h.output, h.size, fun k hk _ _ => h.block k hk⟩

section
variable {t : TypeId} {W W' : World} {bm bw : Nat} {l : List Nat} {c : Cn}
theorem MemIs.lt1 (h : MemIs t W bm bw l c) : bm < W.heap.size := lt_of_heap h.1
theorem MemIs.lt2 (h : MemIs t W bm bw l c) : bw < W.heap.size := lt_of_heap h.2.1
theorem MemIs.c0 (h : MemIs t W bm bw l c) : W.cell? ⟨bm, 0, none⟩ = some (.slice (some ⟨bw, 0, none⟩) l.length l.length) := cell_of_heap h.1 rfl
theorem MemIs.c1 (h : MemIs t W bm bw l c) : W.cell? ⟨bm, 1, none⟩ = some (.int .i64 c.r) := cell_of_heap h.1 rfl
theorem MemIs.c2 (h : MemIs t W bm bw l c) : W.cell? ⟨bm, 2, none⟩ = some (.int .i64 c.w) := cell_of_heap h.1 rfl
theorem MemIs.c3 (h : MemIs t W bm bw l c) : W.cell? ⟨bm, 3, none⟩ = some (.int .i64 c.s) := cell_of_heap h.1 rfl
theorem MemIs.c4 (h : MemIs t W bm bw l c) : W.cell? ⟨bm, 4, none⟩ = some (.int .i64 c.a) := cell_of_heap h.1 rfl
theorem MemIs.c5 (h : MemIs t W bm bw l c) : W.cell? ⟨bm, 5, none⟩ = some (.int .i64 c.f) := cell_of_heap h.1 rfl
theorem MemIs.fz (h : MemIs t W bm bw l c) (k : Nat) : W.frozen? ⟨bm, k, none⟩ = false := free_of_heap h.1
theorem MemIs.word (h : MemIs t W bm bw l c) {i x : Nat} (hx : l[i]? = some x) : W.cell? ⟨bw, i, none⟩ = some (.int .u64 x) := cell_of_heap h.2.1 (by simpa using u64s_get hx)
theorem MemIs.fzw (h : MemIs t W bm bw l c) (k : Nat) : W.frozen? ⟨bw, k, none⟩ = false := free_of_heap h.2.1
theorem MemIs.of_blocks (h : MemIs t W bm bw l c) (h1 : W'.heap[bm]? = W.heap[bm]?) (h2 : W'.heap[bw]? = W.heap[bw]?) : MemIs t W' bm bw l c := ⟨h1.trans h.1, h2.trans h.2.1, h.2.2⟩
theorem MemIs.alloc (h : MemIs t W bm bw l c) (o : Obj) : MemIs t (W.alloc o) bm bw l c := h.of_blocks (Below.heap_alloc _ _ _ h.lt1) (Below.heap_alloc _ _ _ h.lt2)
theorem MemIs.drewN (h : MemIs t W bm bw l c) (n : Nat) : MemIs t (W.drewN n) bm bw l c := h
theorem MemIs.drew (h : MemIs t W bm bw l c) : MemIs t W.drew bm bw l c := h
theorem MemIs.setOther (h : MemIs t W bm bw l c) {x : Addr} (h1 : x.block ≠ bm) (h2 : x.block ≠ bw) (v : Value) : MemIs t (W.setCell x v) bm bw l c :=
  h.of_blocks (Below.heap_setCell _ _ _ _ h1.symm) (Below.heap_setCell _ _ _ _ h2.symm)
theorem MemIs.setNew (h : MemIs t W bm bw l c) {b : Nat} (k : Nat) (v : Value) (h1 : b ≠ bm) (h2 : b ≠ bw) : MemIs t (W.setCell ⟨b, k, none⟩ v) bm bw l c := h.setOther h1 h2 v
theorem MemIs.setBm (h : MemIs t W bm bw l c) {k : Nat} {v : Value} {c' : Cn}
    (hc : (#[Value.slice (some ⟨bw, 0, none⟩) l.length l.length, .int .i64 c.r, .int .i64 c.w, .int .i64 c.s, .int .i64 c.a, .int .i64 c.f] : Array Value).setIfInBounds k v = #[.slice (some ⟨bw, 0, none⟩) l.length l.length, .int .i64 c'.r, .int .i64 c'.w, .int .i64 c'.s, .int .i64 c'.a, .int .i64 c'.f]) :
    MemIs t (W.setCell ⟨bm, k, none⟩ v) bm bw l c' := by
  refine ⟨?_, (Below.heap_setCell _ _ _ _ h.2.2.symm).trans h.2.1, h.2.2⟩
  rw [heap_set_self h.1, hc]
theorem MemIs.incR (h : MemIs t W bm bw l c) : MemIs t (W.setCell ⟨bm, 1, none⟩ (.int .i64 ((c.r : Int) + 1))) bm bw l { c with r := c.r + 1 } := h.setBm rfl
theorem MemIs.incW (h : MemIs t W bm bw l c) : MemIs t (W.setCell ⟨bm, 2, none⟩ (.int .i64 ((c.w : Int) + 1))) bm bw l { c with w := c.w + 1 } := h.setBm rfl
theorem MemIs.incS (h : MemIs t W bm bw l c) : MemIs t (W.setCell ⟨bm, 3, none⟩ (.int .i64 ((c.s : Int) + 1))) bm bw l { c with s := c.s + 1 } := h.setBm rfl
theorem MemIs.incA (h : MemIs t W bm bw l c) : MemIs t (W.setCell ⟨bm, 4, none⟩ (.int .i64 ((c.a : Int) + 1))) bm bw l { c with a := c.a + 1 } := h.setBm rfl
theorem MemIs.incF (h : MemIs t W bm bw l c) : MemIs t (W.setCell ⟨bm, 5, none⟩ (.int .i64 ((c.f : Int) + 1))) bm bw l { c with f := c.f + 1 } := h.setBm rfl
theorem MemIs.setWord (h : MemIs t W bm bw l c) (i x : Nat) : MemIs t (W.setCell ⟨bw, i, none⟩ (.int .u64 (x : Int))) bm bw (l.set i x) c := by
  refine ⟨?_, ?_, h.2.2⟩
  · rw [List.length_set]
    exact (Below.heap_setCell _ _ _ _ h.2.2).trans h.1
  · rw [heap_set_self h.2.1, u64s_set, List.setIfInBounds_toArray]
end
end
section
open Go.RowKit
set_option linter.unusedVariables false

/-- what an access leaves: the answer, the memory, and all else as it was -/
def Left1 (v : Value) (bm bw : Nat) (l : List Nat) (c : Cn) (w : World) (e : Ending) (w' : World) : Prop := e = .returned v ∧ MemIs 139 w' bm bw l c ∧ But bm bw w w'

set_option maxHeartbeats 400000 in
theorem read_ok (bm bw i x : Nat) (l : List Nat) (c : Cn) (w : World) (hM : MemIs 139 w bm bw l c) (hi : l[i]? = some x) (hn : l.length ≤ 65536) (hc : c.r < 9223372036854775807) :
    Calls Try.prog 196 #[.pointer (some ⟨bm, 0, none⟩), .int .i64 i] w (Left1 (.int .u64 x) bm bw l { c with r := c.r + 1 } w) := by
  have hmf : ∀ (fn : Fn) (first cap : Array Value) (w : World), (Instr.makeFunc fn first cap).run Try.prog w = .ok (.func fn first cap) w := fun _ _ _ _ => rfl
  have hil : i < l.length := (List.getElem?_eq_some_iff.1 hi).1
  have h0 := hM.c0
  have h1 := hM.c1
  have f1 := hM.fz 1
  have hx := hM.word hi
  have fx := hM.fzw i
  have hb := hM.lt1
  have hb2 := hM.lt2
  have hne := hM.2.2
  have q1 : bm < w.heap.size + 1 := by omega
  have q2 : bm < w.heap.size + 1 + 1 := by omega
  have q3 : bm < w.heap.size + 1 + 1 + 1 := by omega
  have r1 : bw < w.heap.size + 1 := by omega
  have r2 : bw < w.heap.size + 1 + 1 := by omega
  have r3 : bw < w.heap.size + 1 + 1 + 1 := by omega
  have HM := Lib.hid hM
  have HI := Lib.hid hi
  clear hM hi
  go_enter Try.func196, Try.ntmps196
  go_wp2_with go_in
  go_end0
  go_wp2_with go_in
  go_end0
  go_wp2_with go_in
  go_ret
  refine ⟨rfl, ?_, ?_⟩
  · repeat (first | with_reducible exact HM.out.incR | with_reducible apply MemIs.alloc | with_reducible apply MemIs.drewN | with_reducible apply MemIs.drew | with_reducible apply MemIs.setWord | (with_reducible refine MemIs.setNew ?_ _ _ (by omega) (by omega)))
  · repeat (first | with_reducible exact But.refl _ _ _ | with_reducible apply But.alloc | with_reducible apply But.drewN | with_reducible apply But.drew | with_reducible apply But.setP | with_reducible apply But.setQ | (with_reducible refine But.setNew ?_ _ _ (by omega)))

set_option maxHeartbeats 400000 in
theorem write_ok (bm bw i x y : Nat) (l : List Nat) (c : Cn) (w : World) (hM : MemIs 139 w bm bw l c) (hi : l[i]? = some x) (hn : l.length ≤ 65536) (hc : c.w < 9223372036854775807) :
    Calls Try.prog 198 #[.pointer (some ⟨bm, 0, none⟩), .int .i64 i, .int .u64 y] w (Left1 (.tuple #[]) bm bw (l.set i y) { c with w := c.w + 1 } w) := by
  have hmf : ∀ (fn : Fn) (first cap : Array Value) (w : World), (Instr.makeFunc fn first cap).run Try.prog w = .ok (.func fn first cap) w := fun _ _ _ _ => rfl
  have hil : i < l.length := (List.getElem?_eq_some_iff.1 hi).1
  have h0 := hM.c0
  have h1 := hM.c2
  have f1 := hM.fz 2
  have hx := hM.word hi
  have fx := hM.fzw i
  have hb := hM.lt1
  have hb2 := hM.lt2
  have hne := hM.2.2
  have q1 : bm < w.heap.size + 1 := by omega
  have q2 : bm < w.heap.size + 1 + 1 := by omega
  have q3 : bm < w.heap.size + 1 + 1 + 1 := by omega
  have r1 : bw < w.heap.size + 1 := by omega
  have r2 : bw < w.heap.size + 1 + 1 := by omega
  have r3 : bw < w.heap.size + 1 + 1 + 1 := by omega
  have HM := Lib.hid hM
  have HI := Lib.hid hi
  clear hM hi
  go_enter Try.func198, Try.ntmps198
  go_wp2_with go_in
  go_end0
  go_wp2_with go_in
  go_end0
  go_wp2_with go_in
  go_end0
  refine ⟨rfl, ?_, ?_⟩
  · repeat (first | with_reducible exact HM.out.incW | with_reducible apply MemIs.alloc | with_reducible apply MemIs.drewN | with_reducible apply MemIs.drew | with_reducible apply MemIs.setWord | (with_reducible refine MemIs.setNew ?_ _ _ (by omega) (by omega)))
  · repeat (first | with_reducible exact But.refl _ _ _ | with_reducible apply But.alloc | with_reducible apply But.drewN | with_reducible apply But.drew | with_reducible apply But.setP | with_reducible apply But.setQ | (with_reducible refine But.setNew ?_ _ _ (by omega)))

set_option maxHeartbeats 400000 in
theorem read_fault (bm bw : Nat) (a : Int) (l : List Nat) (c : Cn) (w : World) (hM : MemIs 139 w bm bw l c) (hn : l.length ≤ 65536) (ha : a < 0 ∨ (l.length : Int) ≤ a) (h1a : -9223372036854775808 ≤ a) (h1b : a ≤ 9223372036854775807) (hc : c.f < 9223372036854775807) :
    Calls Try.prog 196 #[.pointer (some ⟨bm, 0, none⟩), .int .i64 a] w (Left1 (.int .u64 0) bm bw l { c with f := c.f + 1 } w) := by
  have hmf : ∀ (fn : Fn) (first cap : Array Value) (w : World), (Instr.makeFunc fn first cap).run Try.prog w = .ok (.func fn first cap) w := fun _ _ _ _ => rfl
  have h0 := hM.c0
  have h1 := hM.c5
  have f1 := hM.fz 5
  have hb := hM.lt1
  have hb2 := hM.lt2
  have hne := hM.2.2
  have q1 : bm < w.heap.size + 1 := by omega
  have q2 : bm < w.heap.size + 1 + 1 := by omega
  have q3 : bm < w.heap.size + 1 + 1 + 1 := by omega
  have r1 : bw < w.heap.size + 1 := by omega
  have r2 : bw < w.heap.size + 1 + 1 := by omega
  have r3 : bw < w.heap.size + 1 + 1 + 1 := by omega
  have HM := Lib.hid hM
  clear hM
  rcases ha with ha | ha
  · go_enter Try.func196, Try.ntmps196
    go_wp2_with go_in
    refine bodyPost_ret (results_none rfl _ _ _) rfl ?_
    go_wp2_with go_in
    go_ret
    refine ⟨rfl, ?_, ?_⟩
    · repeat (first | with_reducible exact HM.out.incF | with_reducible apply MemIs.alloc | with_reducible apply MemIs.drewN | with_reducible apply MemIs.drew | with_reducible apply MemIs.setWord | (with_reducible refine MemIs.setNew ?_ _ _ (by omega) (by omega)))
    · repeat (first | with_reducible exact But.refl _ _ _ | with_reducible apply But.alloc | with_reducible apply But.drewN | with_reducible apply But.drew | with_reducible apply But.setP | with_reducible apply But.setQ | (with_reducible refine But.setNew ?_ _ _ (by omega)))
  · have ha0 : 0 ≤ a := by omega
    go_enter Try.func196, Try.ntmps196
    go_wp2_with go_in
    refine bodyPost_ret (results_none rfl _ _ _) rfl ?_
    go_wp2_with go_in
    go_ret
    refine ⟨rfl, ?_, ?_⟩
    · repeat (first | with_reducible exact HM.out.incF | with_reducible apply MemIs.alloc | with_reducible apply MemIs.drewN | with_reducible apply MemIs.drew | with_reducible apply MemIs.setWord | (with_reducible refine MemIs.setNew ?_ _ _ (by omega) (by omega)))
    · repeat (first | with_reducible exact But.refl _ _ _ | with_reducible apply But.alloc | with_reducible apply But.drewN | with_reducible apply But.drew | with_reducible apply But.setP | with_reducible apply But.setQ | (with_reducible refine But.setNew ?_ _ _ (by omega)))

set_option maxHeartbeats 400000 in
theorem write_fault (bm bw : Nat) (a : Int) (y : Nat) (l : List Nat) (c : Cn) (w : World) (hM : MemIs 139 w bm bw l c) (hn : l.length ≤ 65536) (ha : a < 0 ∨ (l.length : Int) ≤ a) (h1a : -9223372036854775808 ≤ a) (h1b : a ≤ 9223372036854775807) (hc : c.f < 9223372036854775807) :
    Calls Try.prog 198 #[.pointer (some ⟨bm, 0, none⟩), .int .i64 a, .int .u64 y] w (Left1 (.tuple #[]) bm bw l { c with f := c.f + 1 } w) := by
  have hmf : ∀ (fn : Fn) (first cap : Array Value) (w : World), (Instr.makeFunc fn first cap).run Try.prog w = .ok (.func fn first cap) w := fun _ _ _ _ => rfl
  have h0 := hM.c0
  have h1 := hM.c5
  have f1 := hM.fz 5
  have hb := hM.lt1
  have hb2 := hM.lt2
  have hne := hM.2.2
  have q1 : bm < w.heap.size + 1 := by omega
  have q2 : bm < w.heap.size + 1 + 1 := by omega
  have q3 : bm < w.heap.size + 1 + 1 + 1 := by omega
  have r1 : bw < w.heap.size + 1 := by omega
  have r2 : bw < w.heap.size + 1 + 1 := by omega
  have r3 : bw < w.heap.size + 1 + 1 + 1 := by omega
  have HM := Lib.hid hM
  clear hM
  rcases ha with ha | ha
  · go_enter Try.func198, Try.ntmps198
    go_wp2_with go_in
    refine bodyPost_ret (results_none rfl _ _ _) rfl ?_
    go_wp2_with go_in
    go_end0
    refine ⟨rfl, ?_, ?_⟩
    · repeat (first | with_reducible exact HM.out.incF | with_reducible apply MemIs.alloc | with_reducible apply MemIs.drewN | with_reducible apply MemIs.drew | with_reducible apply MemIs.setWord | (with_reducible refine MemIs.setNew ?_ _ _ (by omega) (by omega)))
    · repeat (first | with_reducible exact But.refl _ _ _ | with_reducible apply But.alloc | with_reducible apply But.drewN | with_reducible apply But.drew | with_reducible apply But.setP | with_reducible apply But.setQ | (with_reducible refine But.setNew ?_ _ _ (by omega)))
  · have ha0 : 0 ≤ a := by omega
    go_enter Try.func198, Try.ntmps198
    go_wp2_with go_in
    refine bodyPost_ret (results_none rfl _ _ _) rfl ?_
    go_wp2_with go_in
    go_end0
    refine ⟨rfl, ?_, ?_⟩
    · repeat (first | with_reducible exact HM.out.incF | with_reducible apply MemIs.alloc | with_reducible apply MemIs.drewN | with_reducible apply MemIs.drew | with_reducible apply MemIs.setWord | (with_reducible refine MemIs.setNew ?_ _ _ (by omega) (by omega)))
    · repeat (first | with_reducible exact But.refl _ _ _ | with_reducible apply But.alloc | with_reducible apply But.drewN | with_reducible apply But.drew | with_reducible apply But.setP | with_reducible apply But.setQ | (with_reducible refine But.setNew ?_ _ _ (by omega)))

set_option maxHeartbeats 400000 in
theorem read_nil (a : Int) (w : World) : Calls Try.prog 196 #[.pointer none, .int .i64 a] w fun e w' => e = .returned (.int .u64 0) ∧ Below w.heap.size w w' := by
  have hmf : ∀ (fn : Fn) (first cap : Array Value) (w : World), (Instr.makeFunc fn first cap).run Try.prog w = .ok (.func fn first cap) w := fun _ _ _ _ => rfl
  go_enter Try.func196, Try.ntmps196
  go_wp2_with go_in
  refine bodyPost_ret (results_none rfl _ _ _) rfl ?_
  go_wp2_with go_in
  go_ret
  refine ⟨rfl, ?_⟩
  repeat (first | exact Below.refl _ _ | (refine Below.alloc ?_ (by simp; try omega) _) | apply Below.drew)

set_option maxHeartbeats 400000 in
theorem write_nil (a : Int) (y : Nat) (w : World) : Calls Try.prog 198 #[.pointer none, .int .i64 a, .int .u64 y] w fun e w' => e = .returned (.tuple #[]) ∧ Below w.heap.size w w' := by
  have hmf : ∀ (fn : Fn) (first cap : Array Value) (w : World), (Instr.makeFunc fn first cap).run Try.prog w = .ok (.func fn first cap) w := fun _ _ _ _ => rfl
  go_enter Try.func198, Try.ntmps198
  go_wp2_with go_in
  refine bodyPost_ret (results_none rfl _ _ _) rfl ?_
  go_wp2_with go_in
  go_end0
  refine ⟨rfl, ?_⟩
  repeat (first | exact Below.refl _ _ | (refine Below.alloc ?_ (by simp; try omega) _) | apply Below.drew)

end
section
open Go.RowKit
set_option linter.unusedVariables false


set_option maxHeartbeats 400000 in
theorem add_ok (bm bw i x d : Nat) (l : List Nat) (c : Cn) (w : World) (hM : MemIs 139 w bm bw l c) (hi : l[i]? = some x) (hn : l.length ≤ 65536) (hc : c.a < 9223372036854775807) :
    Calls Try.prog 195 #[.pointer (some ⟨bm, 0, none⟩), .int .i64 i, .int .u64 d] w (Left1 (.int .u64 x) bm bw (l.set i ((x + d) % 18446744073709551616)) { c with a := c.a + 1 } w) := by
  have hmf : ∀ (fn : Fn) (first cap : Array Value) (w : World), (Instr.makeFunc fn first cap).run Try.prog w = .ok (.func fn first cap) w := fun _ _ _ _ => rfl
  have hil : i < l.length := (List.getElem?_eq_some_iff.1 hi).1
  have h0 := hM.c0
  have h1 := hM.c4
  have f1 := hM.fz 4
  have hx := hM.word hi
  have fx := hM.fzw i
  have hb := hM.lt1
  have hb2 := hM.lt2
  have hne := hM.2.2
  have q1 : bm < w.heap.size + 1 := by omega
  have q2 : bm < w.heap.size + 1 + 1 := by omega
  have q3 : bm < w.heap.size + 1 + 1 + 1 := by omega
  have r1 : bw < w.heap.size + 1 := by omega
  have r2 : bw < w.heap.size + 1 + 1 := by omega
  have r3 : bw < w.heap.size + 1 + 1 + 1 := by omega
  have HM := Lib.hid hM
  have HI := Lib.hid hi
  clear hM hi
  have HW : Hid (IntKind.u64.wrap ((x : Int) + (d : Int)) = ((((x + d) % 18446744073709551616 : Nat)) : Int)) := Lib.hid (by rw [IntKind.wrap_u64]; omega)
  go_enter Try.func195, Try.ntmps195
  go_wp2_with go_in
  go_region
  all_goals
    go_wp2_with go_in
    go_end0
    go_wp2_with go_in
    go_end0
    go_wp2_with go_in
    go_ret
    rw [HW.out]
    refine ⟨rfl, ?_, ?_⟩
    · repeat (first | with_reducible exact HM.out.incA | with_reducible apply MemIs.alloc | with_reducible apply MemIs.drewN | with_reducible apply MemIs.drew | with_reducible apply MemIs.setWord | (with_reducible refine MemIs.setNew ?_ _ _ (by omega) (by omega)))
    · repeat (first | with_reducible exact But.refl _ _ _ | with_reducible apply But.alloc | with_reducible apply But.drewN | with_reducible apply But.drew | with_reducible apply But.setP | with_reducible apply But.setQ | (with_reducible refine But.setNew ?_ _ _ (by omega)))

set_option maxHeartbeats 400000 in
theorem add_fault (bm bw : Nat) (a : Int) (d : Nat) (l : List Nat) (c : Cn) (w : World) (hM : MemIs 139 w bm bw l c) (hn : l.length ≤ 65536) (ha : a < 0 ∨ (l.length : Int) ≤ a) (h1a : -9223372036854775808 ≤ a) (h1b : a ≤ 9223372036854775807) (hc : c.f < 9223372036854775807) :
    Calls Try.prog 195 #[.pointer (some ⟨bm, 0, none⟩), .int .i64 a, .int .u64 d] w (Left1 (.int .u64 0) bm bw l { c with f := c.f + 1 } w) := by
  have hmf : ∀ (fn : Fn) (first cap : Array Value) (w : World), (Instr.makeFunc fn first cap).run Try.prog w = .ok (.func fn first cap) w := fun _ _ _ _ => rfl
  have h0 := hM.c0
  have h1 := hM.c5
  have f1 := hM.fz 5
  have hb := hM.lt1
  have hb2 := hM.lt2
  have hne := hM.2.2
  have q1 : bm < w.heap.size + 1 := by omega
  have q2 : bm < w.heap.size + 1 + 1 := by omega
  have q3 : bm < w.heap.size + 1 + 1 + 1 := by omega
  have r1 : bw < w.heap.size + 1 := by omega
  have r2 : bw < w.heap.size + 1 + 1 := by omega
  have r3 : bw < w.heap.size + 1 + 1 + 1 := by omega
  have HM := Lib.hid hM
  clear hM
  rcases ha with ha | ha
  · go_enter Try.func195, Try.ntmps195
    go_wp2_with go_in
    refine bodyPost_ret (results_none rfl _ _ _) rfl ?_
    go_wp2_with go_in
    go_ret
    refine ⟨rfl, ?_, ?_⟩
    · repeat (first | with_reducible exact HM.out.incF | with_reducible apply MemIs.alloc | with_reducible apply MemIs.drewN | with_reducible apply MemIs.drew | with_reducible apply MemIs.setWord | (with_reducible refine MemIs.setNew ?_ _ _ (by omega) (by omega)))
    · repeat (first | with_reducible exact But.refl _ _ _ | with_reducible apply But.alloc | with_reducible apply But.drewN | with_reducible apply But.drew | with_reducible apply But.setP | with_reducible apply But.setQ | (with_reducible refine But.setNew ?_ _ _ (by omega)))
  · have ha0 : 0 ≤ a := by omega
    go_enter Try.func195, Try.ntmps195
    go_wp2_with go_in
    refine bodyPost_ret (results_none rfl _ _ _) rfl ?_
    go_wp2_with go_in
    go_ret
    refine ⟨rfl, ?_, ?_⟩
    · repeat (first | with_reducible exact HM.out.incF | with_reducible apply MemIs.alloc | with_reducible apply MemIs.drewN | with_reducible apply MemIs.drew | with_reducible apply MemIs.setWord | (with_reducible refine MemIs.setNew ?_ _ _ (by omega) (by omega)))
    · repeat (first | with_reducible exact But.refl _ _ _ | with_reducible apply But.alloc | with_reducible apply But.drewN | with_reducible apply But.drew | with_reducible apply But.setP | with_reducible apply But.setQ | (with_reducible refine But.setNew ?_ _ _ (by omega)))

set_option maxHeartbeats 400000 in
theorem add_nil (a : Int) (d : Nat) (w : World) : Calls Try.prog 195 #[.pointer none, .int .i64 a, .int .u64 d] w fun e w' => e = .returned (.int .u64 0) ∧ Below w.heap.size w w' := by
  have hmf : ∀ (fn : Fn) (first cap : Array Value) (w : World), (Instr.makeFunc fn first cap).run Try.prog w = .ok (.func fn first cap) w := fun _ _ _ _ => rfl
  go_enter Try.func195, Try.ntmps195
  go_wp2_with go_in
  refine bodyPost_ret (results_none rfl _ _ _) rfl ?_
  go_wp2_with go_in
  go_ret
  refine ⟨rfl, ?_⟩
  repeat (first | exact Below.refl _ _ | (refine Below.alloc ?_ (by simp; try omega) _) | apply Below.drew)
end
section
open Go.RowKit

/-- words lie in a row -/
def UCells (w : World) (b o : Nat) (l : List Nat) : Prop := ∀ (i x : Nat), l[i]? = some x → w.cell? ⟨b, o + i, none⟩ = some (.int .u64 (x : Int))

def zeros (n : Nat) : List Value := (madeCells #[.int .u64 0] n).toList
theorem zeros_length (n : Nat) : (zeros n).length = n := by unfold zeros; rw [Array.length_toList]; exact size_madeCells _ _
theorem run_mk (n : Nat) (hn : n ≤ 4294967296) (w : World) : (Instr.makeSlice 28 (.int .i64 (n : Int)) (.int .i64 (n : Int))).run Try.prog w = .ok (.slice (some ⟨w.heap.size, 0, none⟩) n n) (w.alloc (.cells (zeros n).toArray 37)) := by
  obtain ⟨i0, hi, hz0, hz1, hz2⟩ := info_parts info22
  have h := run_make (P := Try.prog) w 28 37 i0 (.int .u64 0) Try.underlying28 hi hz0 .i64 .i64 n n (by omega) (by omega) (by rw [hz2]; omega) (by omega)
  simp only [Int.toNat_natCast] at h
  rw [h, hz1, Nat.mul_one]
  unfold zeros
  rw [Array.toArray_toList]
  rfl
theorem heap_alloc_at (w : World) (o : Obj) : (w.alloc o).heap[w.heap.size]? = some o := heap_alloc_new w o

set_option maxHeartbeats 400000 in
theorem dup_any (ao : Option Addr) (b o cap : Nat) (l : List Nat) (w : World) (hn : l.length ≤ 4294967296) (ha : 0 < l.length → ao = some ⟨b, o, none⟩) (hb : 0 < l.length → b < w.heap.size) (hc : UCells w b o l) :
    Calls Try.prog 76 #[.slice ao l.length cap] w fun e w' => e = .returned (.slice (some ⟨w.heap.size, 0, none⟩) l.length l.length) ∧ w'.heap[w.heap.size]? = some (.cells (u64s l).toArray 37 (0, 0)) ∧ Below w.heap.size w w' := by
  have hmk := run_mk l.length hn
  have hpos : Hid (0 < (u64s l).length → (some ⟨w.heap.size, 0, none⟩ : Option Addr) = some ⟨w.heap.size, 0, none⟩ ∧ ∃ ad, ao = some ad ∧ ∀ (j : Nat) (v : Value), (u64s l)[j]? = some v → (w.alloc (.cells (zeros l.length).toArray 37)).cell? (ad.add j) = some v) := by
    intro h
    rw [u64s_length] at h
    refine ⟨rfl, _, ha h, fun j v hv => ?_⟩
    unfold u64s at hv
    rw [List.getElem?_map] at hv
    cases hx : l[j]? with
    | none => rw [hx] at hv; cases hv
    | some x =>
      rw [hx] at hv
      simp only [Option.map_some, Option.some.injEq] at hv
      subst hv
      rw [addr_add _ j b o rfl, World.cell?_alloc_past _ _ _ (hb h)]
      exact hc j x hx
  have hlen : (u64s l).length = Nat.min l.length l.length := by rw [u64s_length]; simp
  have HL := Lib.hid hlen
  have hfit : 0 + (u64s l).length ≤ (zeros l.length).length := by rw [u64s_length, zeros_length]; omega
  have h1 : Hid (∀ v ∈ u64s l, v.oneCell' = true) := by
    intro v hv
    unfold u64s at hv
    obtain ⟨x, _, rfl⟩ := List.mem_map.1 hv
    rfl
  have hspl : Hid (splice (zeros l.length) 0 (u64s l) = u64s l) := by
    show splice _ _ _ = _
    unfold splice
    rw [List.take_zero, Nat.zero_add, List.drop_of_length_le (by rw [u64s_length, zeros_length]; omega)]
    simp
  clear hc ha hlen
  go_enter Try.func76, Try.ntmps76
  go_wp2_with (refine wpList_copy_splice rfl _ _ 28 28 rfl 37 Try.underlying28 (by kernel_rfl) _ _ _ _ _ _ rfl rfl w.heap.size 0 (zeros l.length) 37 (heap_alloc_at w _) (u64s l) HL.out hpos.out hfit h1.out w.heap.size w ((Below.refl _ _).alloc (Nat.le_refl _) _) (Nat.le_refl _) ?_)
  intro w1 h2 hb1
  rw [hspl.out] at h2
  go_wp2
  go_ret
  exact ⟨rfl, h2.out, hb1⟩
end
section
open Go.RowKit

theorem UCells.stays {w wr : World} {b o B : Nat} {l : List Nat} (h : UCells w b o l) (hb : Below B w wr) (hB : 0 < l.length → b < B) : UCells wr b o l := by
  intro i x hx
  have hl : 0 < l.length := by have := (List.getElem?_eq_some_iff.1 hx).1; omega
  exact (hb.cell (p := ⟨b, _, none⟩) (hB hl)).trans (h i x hx)
theorem ucells_of_block {w : World} {g : Nat} {l : List Nat} (h : w.heap[g]? = some (.cells (u64s l).toArray 37 (0, 0))) : UCells w g 0 l := by
  intro i x hx
  rw [Nat.zero_add]
  exact cell_of_heap h (by simpa using u64s_get hx)

/-- what New leaves: a memory of the words, and what there was as it was -/
def NewPost (l : List Nat) (w : World) (e : Ending) (w' : World) : Prop :=
  ∃ bm bw, e = .returned (.tuple #[.pointer (some ⟨bm, 0, none⟩), .int .i64 0]) ∧ MemIs 139 w' bm bw l ⟨0, 0, 0, 0, 0⟩ ∧ w.heap.size ≤ bm ∧ w.heap.size ≤ bw ∧ Below w.heap.size w w'

set_option maxHeartbeats 400000 in
theorem new_ok (ao : Option Addr) (b o cap : Nat) (l : List Nat) (w : World) (hn : l.length ≤ 65536) (ha : 0 < l.length → ao = some ⟨b, o, none⟩) (hb : 0 < l.length → b < w.heap.size) (hc : UCells w b o l) :
    Calls Try.prog 51 #[.slice ao l.length cap] w (NewPost l w) := by
  have HA := Lib.hid ha
  have HB := Lib.hid hb
  have HC := Lib.hid hc
  clear ha hb hc
  go_enter Try.func51, Try.ntmps51
  go_wp2_with fail
  refine (dup_any ao b o cap l _ (by omega) HA.out HB.out HC.out).mono ?_
  rintro e w1 ⟨rfl, hg, hb1⟩
  have HG := Lib.hid hg
  clear hg
  go_wp2_with fail
  go_ret2
  have hsz := hb1.size
  have hlt := lt_of_heap HG.out
  refine ⟨w1.heap.size, w.heap.size, rfl, ⟨heap_alloc_new _ _, (Below.heap_alloc _ _ _ hlt).trans HG.out, by omega⟩, hsz, Nat.le_refl _, hb1.alloc hsz _⟩

set_option maxHeartbeats 400000 in
theorem new_long (ao : Option Addr) (n cap : Nat) (w : World) (hn : 65536 < n) :
    Calls Try.prog 51 #[.slice ao n cap] w fun e w' => e = .returned (.tuple #[.pointer none, .int .i64 3]) ∧ w = w' := by
  go_enter Try.func51, Try.ntmps51
  go_wp2_with fail
  go_ret2
  exact ⟨rfl, rfl⟩

set_option maxHeartbeats 400000 in
theorem counts_ok (bm bw : Nat) (l : List Nat) (c : Cn) (w : World) (hM : MemIs 139 w bm bw l c) :
    Calls Try.prog 59 #[.pointer (some ⟨bm, 0, none⟩)] w fun e w' => e = .returned (.agg #[.int .i64 c.r, .int .i64 c.w, .int .i64 c.s, .int .i64 c.a, .int .i64 c.f]) ∧ Below w.heap.size w w' := by
  have h1 := hM.c1
  have h2 := hM.c2
  have h3 := hM.c3
  have h4 := hM.c4
  have h5 := hM.c5
  have hb := hM.lt1
  clear hM
  go_enter Try.func59, Try.ntmps59
  go_wp2_with fail
  exact bodyPost_ret (v := .agg #[.int .i64 c.r, .int .i64 c.w, .int .i64 c.s, .int .i64 c.a, .int .i64 c.f]) (by simp [results, Try.results59, go_sem]) rfl ⟨rfl, (Below.refl _ _).alloc (Nat.le_refl _) _⟩

set_option maxHeartbeats 400000 in
theorem counts_nil (w : World) : Calls Try.prog 59 #[.pointer none] w fun e w' => e = .returned (.agg #[.int .i64 0, .int .i64 0, .int .i64 0, .int .i64 0, .int .i64 0]) ∧ Below w.heap.size w w' := by
  go_enter Try.func59, Try.ntmps59
  go_wp2_with fail
  exact bodyPost_ret (v := .agg #[.int .i64 0, .int .i64 0, .int .i64 0, .int .i64 0, .int .i64 0]) (by simp [results, Try.results59, go_sem]) rfl ⟨rfl, (Below.refl _ _).alloc (Nat.le_refl _) _⟩
end
section
open Go.RowKit

set_option maxHeartbeats 400000 in
theorem words_ok (bm bw : Nat) (l : List Nat) (c : Cn) (w : World) (hM : MemIs 139 w bm bw l c) (hn : l.length ≤ 65536) :
    Calls Try.prog 58 #[.pointer (some ⟨bm, 0, none⟩)] w fun e w' => e = .returned (.slice (some ⟨w.heap.size, 0, none⟩) l.length l.length) ∧ w'.heap[w.heap.size]? = some (.cells (u64s l).toArray 37 (0, 0)) ∧ Below w.heap.size w w' := by
  have h0 := hM.c0
  have hb := hM.lt1
  have HC : Hid (UCells w bw 0 l) := ucells_of_block hM.2.1
  have HB : Hid (bw < w.heap.size) := hM.lt2
  clear hM
  go_enter Try.func58, Try.ntmps58
  go_wp2_with fail
  refine (dup_any _ bw 0 _ l _ (by omega) (fun _ => rfl) (fun _ => HB.out) HC.out).mono ?_
  rintro e w1 ⟨rfl, hg, hb1⟩
  have HG := Lib.hid hg
  clear hg
  go_wp2_with fail
  go_ret
  exact ⟨rfl, HG.out, hb1⟩

set_option maxHeartbeats 400000 in
theorem words_nil (w : World) : Calls Try.prog 58 #[.pointer none] w fun e w' => e = .returned (.slice none 0 0) ∧ w = w' := by
  go_enter Try.func58, Try.ntmps58
  go_wp2_with fail
  go_ret
  exact ⟨rfl, rfl⟩
end
section
open Go.RowKit

def eqB (l k : List Nat) : Bool := decide (l = k)

set_option maxHeartbeats 400000 in
theorem same_yes (ao1 ao2 : Option Addr) (b1 o1 c1 b2 o2 c2 : Nat) (l : List Nat) (w : World) (hl : l.length ≤ 9223372036854775807) (ha1 : 0 < l.length → ao1 = some ⟨b1, o1, none⟩) (ha2 : 0 < l.length → ao2 = some ⟨b2, o2, none⟩)
    (hc1 : UCells w b1 o1 l) (hc2 : UCells w b2 o2 l) :
    Calls Try.prog 32 #[.slice ao1 l.length c1, .slice ao2 l.length c2] w fun e w' => e = .returned (.bool true) ∧ ∃ m, w' = w.drewN m := by
  have HA1 := Lib.hid ha1
  have HA2 := Lib.hid ha2
  have HC1 := Lib.hid hc1
  have HC2 := Lib.hid hc2
  clear ha1 ha2 hc1 hc2
  go_enter Try.func32, Try.ntmps32
  go_wp2
  go_loopw [13] (fun k wr => ∃ j m : Nat, j ≤ l.length ∧ k = .int .i64 j ∧ wr = w.drewN m) (fun k _ => l.length - (intOf k).toNat)
  case atStart => exact ⟨0, 0, Nat.zero_le _, rfl, rfl⟩
  case round =>
    obtain ⟨j, m, hj, rfl, rfl⟩ := hrel
    by_cases hlt : j < l.length
    · obtain rfl := HA1.out (by omega)
      obtain rfl := HA2.out (by omega)
      obtain ⟨x, hx⟩ : ∃ x, l[j]? = some x := ⟨l[j], List.getElem?_eq_getElem hlt⟩
      have d1 := HC1.out j x hx
      have d2 := HC2.out j x hx
      clear hx
      go_wp2_with fail
      go_quiet (fail)
      go_wp2
      go_roundw
      case rel => exact ⟨j + 1, _, by omega, by go_num, rfl⟩
      case measure => simp [intOf]; omega
    · go_wp2
      go_ret
      exact ⟨rfl, _, rfl⟩

/-- the reference's memory in memory: a struct, and the row of its words (which may have room to spare) -/
def RefIs (W : World) (br g cap : Nat) (l : List Nat) (c : Cn) : Prop :=
  W.heap[br]? = some (.cells #[.slice (some ⟨g, 0, none⟩) l.length cap, .int .i64 c.r, .int .i64 c.w, .int .i64 c.s, .int .i64 c.a, .int .i64 c.f] 154 (0, 0)) ∧
  (∃ cur : Array Value, W.heap[g]? = some (.cells cur 37 (0, 0)) ∧ ∀ (i x : Nat), l[i]? = some x → cur[i]? = some (Value.int .u64 (x : Int))) ∧ br ≠ g

/-- what Of gives: a struct of a slice that has the words, and of counts that are 0 -/
def OfPost (l : List Nat) (w : World) (e : Ending) (w' : World) : Prop :=
  ∃ g cap, e = .returned (.agg #[.slice (some ⟨g, 0, none⟩) l.length cap, .int .i64 0, .int .i64 0, .int .i64 0, .int .i64 0, .int .i64 0]) ∧ w.heap.size ≤ g ∧ g < w'.heap.size ∧ Below w.heap.size w w' ∧
    ∃ cur : Array Value, w'.heap[g]? = some (.cells cur 37 (0, 0)) ∧ ∀ (i x : Nat), l[i]? = some x → cur[i]? = some (Value.int .u64 (x : Int))

theorem of_post {l : List Nat} {w1 : World} {v : Value} {B : Nat} (h : w1.ownsRow B 37 1 v l.length (u64s l)) (hv : v = .slice none 0 0 → False) :
    ∃ g cap, v = .slice (some ⟨g, 0, none⟩) l.length cap ∧ B ≤ g ∧ g < w1.heap.size ∧
    ∃ cur : Array Value, w1.heap[g]? = some (.cells cur 37 (0, 0)) ∧ ∀ (i x : Nat), l[i]? = some x → cur[i]? = some (Value.int .u64 (x : Int)) := by
  obtain ⟨_, ⟨rfl, _⟩ | ⟨g, cap, cur, rfl, hg, hb, _, _, _, h4⟩⟩ := h
  · exact absurd rfl hv
  · refine ⟨g, cap, rfl, by omega, lt_of_heap hb, cur, hb, fun i x hx => ?_⟩
    have h5 := u64s_get hx
    rw [← h4, List.getElem?_take] at h5
    split at h5
    · simpa using h5
    · cases h5

theorem store6 (w1 : World) (b : Nat) (v0 v1 v2 v3 v4 v5 : Value) :
    (∀ k, k ≠ b → (((((((w1.setCell ⟨b, 0, none⟩ v0).setCell ⟨b, 1, none⟩ v1).setCell ⟨b, 2, none⟩ v2).setCell ⟨b, 3, none⟩ v3).setCell ⟨b, 4, none⟩ v4).setCell ⟨b, 5, none⟩ v5)).heap[k]? = w1.heap[k]?) ∧
    (((((((w1.setCell ⟨b, 0, none⟩ v0).setCell ⟨b, 1, none⟩ v1).setCell ⟨b, 2, none⟩ v2).setCell ⟨b, 3, none⟩ v3).setCell ⟨b, 4, none⟩ v4).setCell ⟨b, 5, none⟩ v5)).heap.size = w1.heap.size := by
  refine ⟨fun k hk => ?_, by simp [World.setCell]⟩
  rw [Below.heap_setCell _ _ _ _ hk, Below.heap_setCell _ _ _ _ hk, Below.heap_setCell _ _ _ _ hk, Below.heap_setCell _ _ _ _ hk, Below.heap_setCell _ _ _ _ hk, Below.heap_setCell _ _ _ _ hk]

set_option maxHeartbeats 400000 in
theorem of_any (ao : Option Addr) (b o cap : Nat) (l : List Nat) (w : World) (hn : l.length ≤ 65536) (ha : 0 < l.length → ao = some ⟨b, o, none⟩) (hb : 0 < l.length → b < w.heap.size) (hc : UCells w b o l) (hcap : ao = none → cap = 0) :
    Calls Try.prog 83 #[.slice ao l.length cap] w (OfPost l w) := by
  obtain ⟨i0, hi, hz0, hz1, hz2⟩ := info_parts info22
  cases ao with
  | some ad =>
    have hnews : Hid (∀ (j : Nat) (u : Value), (u64s l)[j]? = some u → ((w.alloc (.cells #[.slice none 0 0, .int .i64 0, .int .i64 0, .int .i64 0, .int .i64 0, .int .i64 0] 154)).alloc (.cells #[] 37)).cell? (ad.add j) = some u) := by
      intro j v hv
      unfold u64s at hv
      rw [List.getElem?_map] at hv
      cases hx : l[j]? with
      | none => rw [hx] at hv; cases hv
      | some x =>
        rw [hx] at hv
        simp only [Option.map_some, Option.some.injEq] at hv
        subst hv
        have h0 : 0 < l.length := by have := (List.getElem?_eq_some_iff.1 hx).1; omega
        have hb' := hb h0
        obtain rfl := Option.some.inj (ha h0)
        rw [addr_add _ j b o rfl, World.cell?_alloc_past _ _ _ (by simp; omega), World.cell?_alloc_past _ _ _ hb']
        exact hc j x hx
    have h1 : Hid (∀ u ∈ u64s l, u.oneCell' = true) := by
      intro v hv
      unfold u64s at hv
      obtain ⟨x, _, rfl⟩ := List.mem_map.1 hv
      rfl
    have hmade : Hid (((w.alloc (.cells #[.slice none 0 0, .int .i64 0, .int .i64 0, .int .i64 0, .int .i64 0, .int .i64 0] 154)).alloc (.cells #[] 37)).ownsRow (w.heap.size + 1) 37 1 (.slice (some ⟨w.heap.size + 1, 0, none⟩) 0 0) 0 []) := by
      have := World.ownsRow_made (base := w.heap.size + 1) (e := 37) (size := 1) (w.alloc (.cells #[.slice none 0 0, .int .i64 0, .int .i64 0, .int .i64 0, .int .i64 0, .int .i64 0] 154)) #[] 0 (by simp) (by unfold maxLen; omega) rfl
      apply Lib.hid
      simpa using this
    have hul : Hid ((u64s l).length = l.length * 1) := by show _ = _; rw [u64s_length, Nat.mul_one]
    clear hc ha hb hcap
    go_enter Try.func83, Try.ntmps83
    go_wp2_with (at_builtin; refine wpList_append_own _ rfl _ _ 28 rfl (w.heap.size + 1) 37 i0 (.int .u64 0) 1 8 Try.underlying28 hi hz0 hz1 hz2 rfl (by decide) _ 0 [] rfl hmade.out ad l.length cap (u64s l) rfl hul.out hnews.out h1.out ?p3 ?p4 ?p5 ?_)
    case p3 => unfold maxLen; omega
    case p4 => omega
    case p5 => simp
    intro v' w1 hown hg hnn
    have hown' : w1.ownsRow (w.heap.size + 1) 37 1 v' l.length (u64s l) := by simpa using hown
    have hvn : v' = .slice none 0 0 → False := hnn
    have hbk : w1.heap[w.heap.size]? = some (.cells #[.slice none 0 0, .int .i64 0, .int .i64 0, .int .i64 0, .int .i64 0, .int .i64 0] 154 (0, 0)) := by
      rw [hg.block w.heap.size (by simp; omega) (by simp [Value.ownBlock])]
      rw [Below.heap_alloc _ _ _ (by simp)]
      exact heap_alloc_new _ _
    have hbl : Below w.heap.size w w1 := (((Below.refl _ _).alloc (Nat.le_refl _) _).alloc (by simp) _).grown hg (by simp; omega) (fun k hk => by simp [Value.ownBlock] at hk; omega)
    obtain ⟨g, cap', rfl, hg1, hg2, hcur⟩ := of_post hown' hvn
    have k0 := cell_of_heap (k := 0) hbk rfl
    have k1 := cell_of_heap (k := 1) hbk rfl
    have k2 := cell_of_heap (k := 2) hbk rfl
    have k3 := cell_of_heap (k := 3) hbk rfl
    have k4 := cell_of_heap (k := 4) hbk rfl
    have k5 := cell_of_heap (k := 5) hbk rfl
    have z0 := free_of_heap (k := 0) hbk
    have z1 := free_of_heap (k := 1) hbk
    have z2 := free_of_heap (k := 2) hbk
    have z3 := free_of_heap (k := 3) hbk
    have z4 := free_of_heap (k := 4) hbk
    have z5 := free_of_heap (k := 5) hbk
    have HCU := Lib.hid hcur
    have HBK := Lib.hid hbk
    clear hown hown' hg hnn hvn hcur hbk
    go_wp2
    obtain ⟨hs1, hs2⟩ := store6 w1 w.heap.size (.slice (some ⟨g, 0, none⟩) l.length cap') (.int .i64 0) (.int .i64 0) (.int .i64 0) (.int .i64 0) (.int .i64 0)
    refine bodyPost_ret (v := .agg #[.slice (some ⟨g, 0, none⟩) l.length cap', .int .i64 0, .int .i64 0, .int .i64 0, .int .i64 0, .int .i64 0]) (by simp [results, Try.results83, go_sem, k0, k1, k2, k3, k4, k5]) rfl ⟨g, cap', rfl, by omega, ?_, ?_, ?_⟩
    · rw [hs2]; exact hg2
    · exact (((((hbl.setCell (Nat.le_refl _) _).setCell (Nat.le_refl _) _).setCell (Nat.le_refl _) _).setCell (Nat.le_refl _) _).setCell (Nat.le_refl _) _).setCell (Nat.le_refl _) _
    · obtain ⟨cur, h1, h2⟩ := HCU.out
      exact ⟨cur, (hs1 g (by omega)).trans h1, h2⟩
  | none =>
    have hl0 : l.length = 0 := by
      cases hh : l.length with
      | zero => rfl
      | succ n => exact absurd (ha (by omega)) (by simp)
    obtain rfl : l = [] := List.eq_nil_of_length_eq_zero hl0
    obtain rfl : cap = 0 := hcap rfl
    have hmade : Hid (((w.alloc (.cells #[.slice none 0 0, .int .i64 0, .int .i64 0, .int .i64 0, .int .i64 0, .int .i64 0] 154)).alloc (.cells #[] 37)).ownsRow (w.heap.size + 1) 37 1 (.slice (some ⟨w.heap.size + 1, 0, none⟩) 0 0) 0 []) := by
      have := World.ownsRow_made (base := w.heap.size + 1) (e := 37) (size := 1) (w.alloc (.cells #[.slice none 0 0, .int .i64 0, .int .i64 0, .int .i64 0, .int .i64 0, .int .i64 0] 154)) #[] 0 (by simp) (by unfold maxLen; omega) rfl
      apply Lib.hid
      simpa using this
    clear hc ha hb hcap hl0
    go_enter Try.func83, Try.ntmps83
    go_wp2_with (at_builtin; refine wpList_append_own_none rfl _ _ 28 rfl (w.heap.size + 1) 37 i0 1 Try.underlying28 hi _ 0 [] rfl hmade.out rfl ?_)
    go_wp2
    refine bodyPost_ret (v := .agg #[.slice (some ⟨w.heap.size + 1, 0, none⟩) 0 0, .int .i64 0, .int .i64 0, .int .i64 0, .int .i64 0, .int .i64 0]) (by simp [results, Try.results83, go_sem]) rfl ⟨w.heap.size + 1, 0, rfl, by omega, by simp, ?_, ?_⟩
    · exact ((Below.refl _ _).alloc (Nat.le_refl _) _).alloc (by simp) _
    · have h := heap_alloc_new (w.alloc (.cells #[.slice (some ⟨w.heap.size + 1, 0, none⟩) 0 0, .int .i64 0, .int .i64 0, .int .i64 0, .int .i64 0, .int .i64 0] 154)) (.cells #[] 37)
      exact ⟨#[], by simpa using h, fun i x hx => by simp at hx⟩
end
end Go.Proofs.Ytpoebpnmbogmnaa
