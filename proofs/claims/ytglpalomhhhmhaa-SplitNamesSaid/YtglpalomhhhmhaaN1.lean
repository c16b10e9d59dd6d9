/- The memory in memory: a struct of a slice and five counts, and the block of its words. Over no program. -/
import Derived.Test.YtglpalomhhhmhaaT
namespace Go.Proofs.Ytglpalomhhhmhaa
open Go.RowKit

structure Cn where
  r : Nat
  w : Nat
  s : Nat
  a : Nat
  f : Nat

def u64s (l : List Nat) : List Value := l.map fun x : Nat => Value.int .u64 (x : Int)
theorem u64s_length (l : List Nat) : (u64s l).length = l.length := by unfold u64s; simp
theorem u64s_get {l : List Nat} {i x : Nat} (h : l[i]? = some x) : (u64s l)[i]? = some (.int .u64 (x : Int)) := by unfold u64s; rw [List.getElem?_map, h]; rfl
theorem u64s_set (l : List Nat) (i x : Nat) : u64s (l.set i x) = (u64s l).set i (.int .u64 (x : Int)) := by unfold u64s; rw [List.map_set]

/-- 't72', 't22': the numbers of the struct's type, and of a word's -/
def MemIs (t72 : TypeId) (W : World) (bm bw : Nat) (l : List Nat) (c : Cn) : Prop :=
  W.heap[bm]? = some (.cells #[.slice (some ⟨bw, 0, none⟩) l.length l.length, .int .i64 c.r, .int .i64 c.w, .int .i64 c.s, .int .i64 c.a, .int .i64 c.f] t72 (0, 0)) ∧
  W.heap[bw]? = some (.cells (u64s l).toArray 37 (0, 0)) ∧ bm ≠ bw

theorem lt_of_heap {w : World} {b : Nat} {o : Obj} (h : w.heap[b]? = some o) : b < w.heap.size := by
  rcases Nat.lt_or_ge b w.heap.size with h' | h'
  · exact h'
  · simp [Array.getElem?_eq_none h'] at h
theorem heap_set_self {w : World} {b k : Nat} {c : Array Value} {t : TypeId} {fr : Nat × Nat} {v : Value} (h : w.heap[b]? = some (.cells c t fr)) : (w.setCell ⟨b, k, none⟩ v).heap[b]? = some (.cells (c.setIfInBounds k v) t fr) := by
  simp only [World.setCell, Array.getElem?_modify]
  rw [if_pos trivial, h]; rfl
theorem cell_of_heap {w : World} {b k : Nat} {c : Array Value} {t : TypeId} {fr : Nat × Nat} {v : Value} (h : w.heap[b]? = some (.cells c t fr)) (hv : c[k]? = some v) : w.cell? ⟨b, k, none⟩ = some v := by
  simp [World.cell?, h, hv]
theorem free_of_heap {w : World} {b k : Nat} {c : Array Value} {t : TypeId} (h : w.heap[b]? = some (.cells c t (0, 0))) : w.frozen? ⟨b, k, none⟩ = false := by
  simp [World.frozen?, h]

/-- all blocks but p and q, of those that there were, are as they were -/
structure But (p q : Nat) (w w' : World) : Prop where
  os : w'.os = w.os
  tape : w'.tape = w.tape
  output : w'.output = w.output
  size : w.heap.size ≤ w'.heap.size
  block : ∀ k, k < w.heap.size → k ≠ p → k ≠ q → w'.heap[k]? = w.heap[k]?

theorem But.refl (p q : Nat) (w : World) : But p q w w := ⟨rfl, rfl, rfl, Nat.le_refl _, fun _ _ _ _ => rfl⟩
theorem But.trans {p q : Nat} {a b c : World} (h : But p q a b) (k : But p q b c) : But p q a c :=
  ⟨k.os.trans h.os, k.tape.trans h.tape, k.output.trans h.output, Nat.le_trans h.size k.size, fun i hi h1 h2 => (k.block i (Nat.lt_of_lt_of_le hi h.size) h1 h2).trans (h.block i hi h1 h2)⟩
theorem But.alloc {p q : Nat} {a w : World} (h : But p q a w) (o : Obj) : But p q a (w.alloc o) :=
  ⟨h.os, h.tape, h.output, Nat.le_trans h.size (by simp), fun i hi h1 h2 => (Below.heap_alloc w o i (Nat.lt_of_lt_of_le hi h.size)).trans (h.block i hi h1 h2)⟩
theorem But.setCell {p q : Nat} {a w : World} (h : But p q a w) {x : Addr} (hx : x.block = p ∨ x.block = q ∨ a.heap.size ≤ x.block) (v : Value) : But p q a (w.setCell x v) :=
  ⟨h.os, h.tape, h.output, by simpa [World.setCell] using h.size, fun i hi h1 h2 => (Below.heap_setCell w x v i (by rcases hx with hx | hx | hx <;> omega)).trans (h.block i hi h1 h2)⟩
theorem But.drewN {p q : Nat} {a w : World} (h : But p q a w) (n : Nat) : But p q a (w.drewN n) := ⟨h.os, h.tape, h.output, h.size, h.block⟩
theorem But.drew {p q : Nat} {a w : World} (h : But p q a w) : But p q a w.drew := ⟨h.os, h.tape, h.output, h.size, h.block⟩
theorem But.setP {p q : Nat} {a w : World} (h : But p q a w) (k : Nat) (v : Value) : But p q a (w.setCell ⟨p, k, none⟩ v) := h.setCell (.inl rfl) v
theorem But.setQ {p q : Nat} {a w : World} (h : But p q a w) (k : Nat) (v : Value) : But p q a (w.setCell ⟨q, k, none⟩ v) := h.setCell (.inr (.inl rfl)) v
theorem But.setNew {p q : Nat} {a w : World} (h : But p q a w) {b : Nat} (k : Nat) (v : Value) (hb : a.heap.size ≤ b) : But p q a (w.setCell ⟨b, k, none⟩ v) := h.setCell (.inr (.inr hb)) v
theorem But.below {p q B : Nat} {a w : World} (h : But p q a w) (hp : B ≤ p) (hq : B ≤ q) (hB : B ≤ a.heap.size) : Below B a w :=
  ⟨h.os, h.tape, h.output, h.size, fun k hk => h.block k (by omega) (by omega) (by omega)⟩
theorem But.of_below {p q : Nat} {a w : World} (h : Below a.heap.size a w) : But p q a w := ⟨h.os, h.tape, h.output, h.size, fun k hk _ _ => h.block k hk⟩

section
variable {t : TypeId} {W W' : World} {bm bw : Nat} {l : List Nat} {c : Cn}
theorem MemIs.lt1 (h : MemIs t W bm bw l c) : bm < W.heap.size := lt_of_heap h.1
theorem MemIs.lt2 (h : MemIs t W bm bw l c) : bw < W.heap.size := lt_of_heap h.2.1
theorem MemIs.c0 (h : MemIs t W bm bw l c) : W.cell? ⟨bm, 0, none⟩ = some (.slice (some ⟨bw, 0, none⟩) l.length l.length) := cell_of_heap h.1 rfl
theorem MemIs.c1 (h : MemIs t W bm bw l c) : W.cell? ⟨bm, 1, none⟩ = some (.int .i64 c.r) := cell_of_heap h.1 rfl
theorem MemIs.c2 (h : MemIs t W bm bw l c) : W.cell? ⟨bm, 2, none⟩ = some (.int .i64 c.w) := cell_of_heap h.1 rfl
theorem MemIs.c3 (h : MemIs t W bm bw l c) : W.cell? ⟨bm, 3, none⟩ = some (.int .i64 c.s) := cell_of_heap h.1 rfl
theorem MemIs.c4 (h : MemIs t W bm bw l c) : W.cell? ⟨bm, 4, none⟩ = some (.int .i64 c.a) := cell_of_heap h.1 rfl
theorem MemIs.c5 (h : MemIs t W bm bw l c) : W.cell? ⟨bm, 5, none⟩ = some (.int .i64 c.f) := cell_of_heap h.1 rfl
theorem MemIs.fz (h : MemIs t W bm bw l c) (k : Nat) : W.frozen? ⟨bm, k, none⟩ = false := free_of_heap h.1
theorem MemIs.word (h : MemIs t W bm bw l c) {i x : Nat} (hx : l[i]? = some x) : W.cell? ⟨bw, i, none⟩ = some (.int .u64 x) := cell_of_heap h.2.1 (by simpa using u64s_get hx)
theorem MemIs.fzw (h : MemIs t W bm bw l c) (k : Nat) : W.frozen? ⟨bw, k, none⟩ = false := free_of_heap h.2.1
theorem MemIs.of_blocks (h : MemIs t W bm bw l c) (h1 : W'.heap[bm]? = W.heap[bm]?) (h2 : W'.heap[bw]? = W.heap[bw]?) : MemIs t W' bm bw l c := ⟨h1.trans h.1, h2.trans h.2.1, h.2.2⟩
theorem MemIs.alloc (h : MemIs t W bm bw l c) (o : Obj) : MemIs t (W.alloc o) bm bw l c := h.of_blocks (Below.heap_alloc _ _ _ h.lt1) (Below.heap_alloc _ _ _ h.lt2)
theorem MemIs.drewN (h : MemIs t W bm bw l c) (n : Nat) : MemIs t (W.drewN n) bm bw l c := h
theorem MemIs.drew (h : MemIs t W bm bw l c) : MemIs t W.drew bm bw l c := h
theorem MemIs.setOther (h : MemIs t W bm bw l c) {x : Addr} (h1 : x.block ≠ bm) (h2 : x.block ≠ bw) (v : Value) : MemIs t (W.setCell x v) bm bw l c :=
  h.of_blocks (Below.heap_setCell _ _ _ _ h1.symm) (Below.heap_setCell _ _ _ _ h2.symm)
theorem MemIs.setNew (h : MemIs t W bm bw l c) {b : Nat} (k : Nat) (v : Value) (h1 : b ≠ bm) (h2 : b ≠ bw) : MemIs t (W.setCell ⟨b, k, none⟩ v) bm bw l c := h.setOther h1 h2 v
theorem MemIs.setBm (h : MemIs t W bm bw l c) {k : Nat} {v : Value} {c' : Cn}
    (hc : (#[Value.slice (some ⟨bw, 0, none⟩) l.length l.length, .int .i64 c.r, .int .i64 c.w, .int .i64 c.s, .int .i64 c.a, .int .i64 c.f] : Array Value).setIfInBounds k v = #[.slice (some ⟨bw, 0, none⟩) l.length l.length, .int .i64 c'.r, .int .i64 c'.w, .int .i64 c'.s, .int .i64 c'.a, .int .i64 c'.f]) :
    MemIs t (W.setCell ⟨bm, k, none⟩ v) bm bw l c' := by
  refine ⟨?_, (Below.heap_setCell _ _ _ _ h.2.2.symm).trans h.2.1, h.2.2⟩
  rw [heap_set_self h.1, hc]
theorem MemIs.incR (h : MemIs t W bm bw l c) : MemIs t (W.setCell ⟨bm, 1, none⟩ (.int .i64 ((c.r : Int) + 1))) bm bw l { c with r := c.r + 1 } := h.setBm rfl
theorem MemIs.incW (h : MemIs t W bm bw l c) : MemIs t (W.setCell ⟨bm, 2, none⟩ (.int .i64 ((c.w : Int) + 1))) bm bw l { c with w := c.w + 1 } := h.setBm rfl
theorem MemIs.incS (h : MemIs t W bm bw l c) : MemIs t (W.setCell ⟨bm, 3, none⟩ (.int .i64 ((c.s : Int) + 1))) bm bw l { c with s := c.s + 1 } := h.setBm rfl
theorem MemIs.incA (h : MemIs t W bm bw l c) : MemIs t (W.setCell ⟨bm, 4, none⟩ (.int .i64 ((c.a : Int) + 1))) bm bw l { c with a := c.a + 1 } := h.setBm rfl
theorem MemIs.incF (h : MemIs t W bm bw l c) : MemIs t (W.setCell ⟨bm, 5, none⟩ (.int .i64 ((c.f : Int) + 1))) bm bw l { c with f := c.f + 1 } := h.setBm rfl
theorem MemIs.setWord (h : MemIs t W bm bw l c) (i x : Nat) : MemIs t (W.setCell ⟨bw, i, none⟩ (.int .u64 (x : Int))) bm bw (l.set i x) c := by
  refine ⟨?_, ?_, h.2.2⟩
  · rw [List.length_set]
    exact (Below.heap_setCell _ _ _ _ h.2.2).trans h.1
  · rw [heap_set_self h.2.1, u64s_set, List.setIfInBounds_toArray]
end
end Go.Proofs.Ytglpalomhhhmhaa
