/- The memory in memory: a struct of a slice and five counts, and the block of its words. Over no program. | Walks of the memory's accesses. | Walks of duplicate, New, Words, Len. | Walks of New, Words, Len, Counts. | Walks of the reference: Same, Of, and its accesses. | Walks of the reference's accesses. -/
import Derived.Test.YtjjleghalajidaaGreatGK
import Derived.Deep.QuietTactic
import Derived.BigQuiet
import Derived.RegionTactic
import Derived.Laws.CopyOwn
import Derived.Laws.MakeOwn
import Derived.Laws.IdiomArrays
import Derived.Laws.AppendOwnNone
namespace Go.Proofs.YtjjleghalajidaaGreat.Nm
section
set_option maxRecDepth 100000
open Go.RowKit

structure Cn where
  r : Nat
  w : Nat
  s : Nat
  a : Nat
  f : Nat

def u64s (l : List Nat) : List Value := l.map fun x : Nat => Value.int .u64 (x : Int)
theorem u64s_length (l : List Nat) : (u64s l).length = l.length := by unfold u64s; simp
theorem u64s_get {l : List Nat} {i x : Nat} (h : l[i]? = some x) : (u64s l)[i]? = some (.int .u64 (x : Int)) := by unfold u64s; rw [List.getElem?_map, h]; rfl
theorem u64s_set (l : List Nat) (i x : Nat) : u64s (l.set i x) = (u64s l).set i (.int .u64 (x : Int)) := by unfold u64s; rw [List.map_set]

/-- 't72', 't22': the numbers of the struct's type, and of a word's -/
def MemIs (t72 : TypeId) (W : World) (bm bw : Nat) (l : List Nat) (c : Cn) : Prop :=
  W.heap[bm]? = some (.cells #[.slice (some ⟨bw, 0, none⟩) l.length l.length, .int .i64 c.r, .int .i64 c.w, .int .i64 c.s, .int .i64 c.a, .int .i64 c.f] t72 (0, 0)) ∧
  W.heap[bw]? = some (.cells (u64s l).toArray 55 (0, 0)) ∧ bm ≠ bw

theorem lt_of_heap {w : World} {b : Nat} {o : Obj} (h : w.heap[b]? = some o) : b < w.heap.size := by
  rcases Nat.lt_or_ge b w.heap.size with h' | h'
  · exact h'
  · simp [Array.getElem?_eq_none h'] at h
theorem heap_set_self {w : World} {b k : Nat} {c : Array Value} {t : TypeId} {fr : Nat × Nat} {v : Value} (h : w.heap[b]? = some (.cells c t fr)) : (w.setCell ⟨b, k, none⟩ v).heap[b]? = some (.cells (c.setIfInBounds k v) t fr) := by
  simp only [World.setCell, Array.getElem?_modify]
  rw [if_pos trivial, h]; rfl
theorem cell_of_heap {w : World} {b k : Nat} {c : Array Value} {t : TypeId} {fr : Nat × Nat} {v : Value} (h : w.heap[b]? = some (.cells c t fr)) (hv : c[k]? = some v) : w.cell? ⟨b, k, none⟩ = some v := by
  simp [World.cell?, h, hv]
theorem free_of_heap {w : World} {b k : Nat} {c : Array Value} {t : TypeId} (h : w.heap[b]? = some (.cells c t (0, 0))) : w.frozen? ⟨b, k, none⟩ = false := by
  simp [World.frozen?, h]

/-- all blocks but p and q, of those that there were, are as they were -/
structure But (p q : Nat) (w w' : World) : Prop where
  os : w'.os = w.os
  tape : w'.tape = w.tape
  output : w'.output = w.output
  size : w.heap.size ≤ w'.heap.size
  block : ∀ k, k < w.heap.size → k ≠ p → k ≠ q → w'.heap[k]? = w.heap[k]?

theorem But.refl (p q : Nat) (w : World) : But p q w w := ⟨rfl, rfl, rfl, Nat.le_refl _, fun _ _ _ _ => rfl⟩
theorem But.trans {p q : Nat} {a b c : World} (h : But p q a b) (k : But p q b c) : But p q a c :=
  ⟨k.os.trans h.os, k.tape.trans h.tape, k.output.trans h.output, Nat.le_trans h.size k.size, fun i hi h1 h2 => (k.block i (Nat.lt_of_lt_of_le hi h.size) h1 h2).trans (h.block i hi h1 h2)⟩
theorem But.alloc {p q : Nat} {a w : World} (h : But p q a w) (o : Obj) : But p q a (w.alloc o) :=
  ⟨h.os, h.tape, h.output, Nat.le_trans h.size (by simp), fun i hi h1 h2 => (Below.heap_alloc w o i (Nat.lt_of_lt_of_le hi h.size)).trans (h.block i hi h1 h2)⟩
theorem But.setCell {p q : Nat} {a w : World} (h : But p q a w) {x : Addr} (hx : x.block = p ∨ x.block = q ∨ a.heap.size ≤ x.block) (v : Value) : But p q a (w.setCell x v) :=
  ⟨h.os, h.tape, h.output, by simpa [World.setCell] using h.size, fun i hi h1 h2 => (Below.heap_setCell w x v i (by rcases hx with hx | hx | hx <;> omega)).trans (h.block i hi h1 h2)⟩
theorem But.drewN {p q : Nat} {a w : World} (h : But p q a w) (n : Nat) : But p q a (w.drewN n) := ⟨h.os, h.tape, h.output, h.size, h.block⟩
theorem But.drew {p q : Nat} {a w : World} (h : But p q a w) : But p q a w.drew := ⟨h.os, h.tape, h.output, h.size, h.block⟩
theorem But.setP {p q : Nat} {a w : World} (h : But p q a w) (k : Nat) (v : Value) : But p q a (w.setCell ⟨p, k, none⟩ v) := h.setCell (.inl rfl) v
theorem But.setQ {p q : Nat} {a w : World} (h : But p q a w) (k : Nat) (v : Value) : But p q a (w.setCell ⟨q, k, none⟩ v) := h.setCell (.inr (.inl rfl)) v
theorem But.setNew {p q : Nat} {a w : World} (h : But p q a w) {b : Nat} (k : Nat) (v : Value) (hb : a.heap.size ≤ b) : But p q a (w.setCell ⟨b, k, none⟩ v) := h.setCell (.inr (.inr hb)) v
theorem But.below {p q B : Nat} {a w : World} (h : But p q a w) (hp : B ≤ p) (hq : B ≤ q) (hB : B ≤ a.heap.size) : Below B a w :=
  ⟨h.os, h.tape, h.output, h.size, fun k hk => h.block k (by omega) (by omega) (by omega)⟩
theorem But.of_below {p q : Nat} {a w : World} (h : Below a.heap.size a w) : But p q a w := ⟨h.os, h.tape, h.output, h.size, fun k hk _ _ => h.block k hk⟩

section
variable {t : TypeId} {W W' : World} {bm bw : Nat} {l : List Nat} {c : Cn}
theorem MemIs.lt1 (h : MemIs t W bm bw l c) : bm < W.heap.size := lt_of_heap h.1
theorem MemIs.lt2 (h : MemIs t W bm bw l c) : bw < W.heap.size := lt_of_heap h.2.1
theorem MemIs.c0 (h : MemIs t W bm bw l c) : W.cell? ⟨bm, 0, none⟩ = some (.slice (some ⟨bw, 0, none⟩) l.length l.length) := cell_of_heap h.1 rfl
theorem MemIs.c1 (h : MemIs t W bm bw l c) : W.cell? ⟨bm, 1, none⟩ = some (.int .i64 c.r) := cell_of_heap h.1 rfl
theorem MemIs.c2 (h : MemIs t W bm bw l c) : W.cell? ⟨bm, 2, none⟩ = some (.int .i64 c.w) := cell_of_heap h.1 rfl
theorem MemIs.c3 (h : MemIs t W bm bw l c) : W.cell? ⟨bm, 3, none⟩ = some (.int .i64 c.s) := cell_of_heap h.1 rfl
theorem MemIs.c4 (h : MemIs t W bm bw l c) : W.cell? ⟨bm, 4, none⟩ = some (.int .i64 c.a) := cell_of_heap h.1 rfl
theorem MemIs.c5 (h : MemIs t W bm bw l c) : W.cell? ⟨bm, 5, none⟩ = some (.int .i64 c.f) := cell_of_heap h.1 rfl
theorem MemIs.fz (h : MemIs t W bm bw l c) (k : Nat) : W.frozen? ⟨bm, k, none⟩ = false := free_of_heap h.1
theorem MemIs.word (h : MemIs t W bm bw l c) {i x : Nat} (hx : l[i]? = some x) : W.cell? ⟨bw, i, none⟩ = some (.int .u64 x) := cell_of_heap h.2.1 (by simpa using u64s_get hx)
theorem MemIs.fzw (h : MemIs t W bm bw l c) (k : Nat) : W.frozen? ⟨bw, k, none⟩ = false := free_of_heap h.2.1
theorem MemIs.of_blocks (h : MemIs t W bm bw l c) (h1 : W'.heap[bm]? = W.heap[bm]?) (h2 : W'.heap[bw]? = W.heap[bw]?) : MemIs t W' bm bw l c := ⟨h1.trans h.1, h2.trans h.2.1, h.2.2⟩
theorem MemIs.alloc (h : MemIs t W bm bw l c) (o : Obj) : MemIs t (W.alloc o) bm bw l c := h.of_blocks (Below.heap_alloc _ _ _ h.lt1) (Below.heap_alloc _ _ _ h.lt2)
theorem MemIs.drewN (h : MemIs t W bm bw l c) (n : Nat) : MemIs t (W.drewN n) bm bw l c := h
theorem MemIs.drew (h : MemIs t W bm bw l c) : MemIs t W.drew bm bw l c := h
theorem MemIs.setOther (h : MemIs t W bm bw l c) {x : Addr} (h1 : x.block ≠ bm) (h2 : x.block ≠ bw) (v : Value) : MemIs t (W.setCell x v) bm bw l c :=
  h.of_blocks (Below.heap_setCell _ _ _ _ h1.symm) (Below.heap_setCell _ _ _ _ h2.symm)
theorem MemIs.setNew (h : MemIs t W bm bw l c) {b : Nat} (k : Nat) (v : Value) (h1 : b ≠ bm) (h2 : b ≠ bw) : MemIs t (W.setCell ⟨b, k, none⟩ v) bm bw l c := h.setOther h1 h2 v
theorem MemIs.setBm (h : MemIs t W bm bw l c) {k : Nat} {v : Value} {c' : Cn}
    (hc : (#[Value.slice (some ⟨bw, 0, none⟩) l.length l.length, .int .i64 c.r, .int .i64 c.w, .int .i64 c.s, .int .i64 c.a, .int .i64 c.f] : Array Value).setIfInBounds k v = #[.slice (some ⟨bw, 0, none⟩) l.length l.length, .int .i64 c'.r, .int .i64 c'.w, .int .i64 c'.s, .int .i64 c'.a, .int .i64 c'.f]) :
    MemIs t (W.setCell ⟨bm, k, none⟩ v) bm bw l c' := by
  refine ⟨?_, (Below.heap_setCell _ _ _ _ h.2.2.symm).trans h.2.1, h.2.2⟩
  rw [heap_set_self h.1, hc]
theorem MemIs.incR (h : MemIs t W bm bw l c) : MemIs t (W.setCell ⟨bm, 1, none⟩ (.int .i64 ((c.r : Int) + 1))) bm bw l { c with r := c.r + 1 } := h.setBm rfl
theorem MemIs.incW (h : MemIs t W bm bw l c) : MemIs t (W.setCell ⟨bm, 2, none⟩ (.int .i64 ((c.w : Int) + 1))) bm bw l { c with w := c.w + 1 } := h.setBm rfl
theorem MemIs.incS (h : MemIs t W bm bw l c) : MemIs t (W.setCell ⟨bm, 3, none⟩ (.int .i64 ((c.s : Int) + 1))) bm bw l { c with s := c.s + 1 } := h.setBm rfl
theorem MemIs.incA (h : MemIs t W bm bw l c) : MemIs t (W.setCell ⟨bm, 4, none⟩ (.int .i64 ((c.a : Int) + 1))) bm bw l { c with a := c.a + 1 } := h.setBm rfl
theorem MemIs.incF (h : MemIs t W bm bw l c) : MemIs t (W.setCell ⟨bm, 5, none⟩ (.int .i64 ((c.f : Int) + 1))) bm bw l { c with f := c.f + 1 } := h.setBm rfl
theorem MemIs.setWord (h : MemIs t W bm bw l c) (i x : Nat) : MemIs t (W.setCell ⟨bw, i, none⟩ (.int .u64 (x : Int))) bm bw (l.set i x) c := by
  refine ⟨?_, ?_, h.2.2⟩
  · rw [List.length_set]
    exact (Below.heap_setCell _ _ _ _ h.2.2).trans h.1
  · rw [heap_set_self h.2.1, u64s_set, List.setIfInBounds_toArray]
end
end
section
set_option maxRecDepth 100000
open Go.RowKit
set_option linter.unusedVariables false
end
section
set_option maxRecDepth 100000
open Go.RowKit

/-- words lie in a row -/
def UCells (w : World) (b o : Nat) (l : List Nat) : Prop := ∀ (i x : Nat), l[i]? = some x → w.cell? ⟨b, o + i, none⟩ = some (.int .u64 (x : Int))

def zeros (n : Nat) : List Value := (madeCells #[.int .u64 0] n).toList
theorem zeros_length (n : Nat) : (zeros n).length = n := by unfold zeros; rw [Array.length_toList]; exact size_madeCells _ _
theorem run_mk (n : Nat) (hn : n ≤ 4294967296) (w : World) : (Instr.makeSlice 37 (.int .i64 (n : Int)) (.int .i64 (n : Int))).run Tryz.prog w = .ok (.slice (some ⟨w.heap.size, 0, none⟩) n n) (w.alloc (.cells (zeros n).toArray 55)) := by
  obtain ⟨i0, hi, hz0, hz1, hz2⟩ := info_parts info22
  have h := run_make (P := Tryz.prog) w 37 55 i0 (.int .u64 0) Tryz.underlying37 hi hz0 .i64 .i64 n n (by omega) (by omega) (by rw [hz2]; omega) (by omega)
  simp only [Int.toNat_natCast] at h
  rw [h, hz1, Nat.mul_one]
  unfold zeros
  rw [Array.toArray_toList]
  rfl
theorem heap_alloc_at (w : World) (o : Obj) : (w.alloc o).heap[w.heap.size]? = some o := heap_alloc_new w o

end
section
set_option maxRecDepth 100000
open Go.RowKit

theorem UCells.stays {w wr : World} {b o B : Nat} {l : List Nat} (h : UCells w b o l) (hb : Below B w wr) (hB : 0 < l.length → b < B) : UCells wr b o l := by
  intro i x hx
  have hl : 0 < l.length := by have := (List.getElem?_eq_some_iff.1 hx).1; omega
  exact (hb.cell (p := ⟨b, _, none⟩) (hB hl)).trans (h i x hx)
theorem ucells_of_block {w : World} {g : Nat} {l : List Nat} (h : w.heap[g]? = some (.cells (u64s l).toArray 55 (0, 0))) : UCells w g 0 l := by
  intro i x hx
  rw [Nat.zero_add]
  exact cell_of_heap h (by simpa using u64s_get hx)

end
section
set_option maxRecDepth 100000
open Go.RowKit

def eqB (l k : List Nat) : Bool := decide (l = k)

set_option maxHeartbeats 400000 in
theorem same_yes (ao1 ao2 : Option Addr) (b1 o1 c1 b2 o2 c2 : Nat) (l : List Nat) (w : World) (hl : l.length ≤ 9223372036854775807) (ha1 : 0 < l.length → ao1 = some ⟨b1, o1, none⟩) (ha2 : 0 < l.length → ao2 = some ⟨b2, o2, none⟩)
    (hc1 : UCells w b1 o1 l) (hc2 : UCells w b2 o2 l) :
    Calls Tryz.prog 20 #[.slice ao1 l.length c1, .slice ao2 l.length c2] w fun e w' => e = .returned (.bool true) ∧ ∃ m, w' = w.drewN m := by
  have HA1 := Lib.hid ha1
  have HA2 := Lib.hid ha2
  have HC1 := Lib.hid hc1
  have HC2 := Lib.hid hc2
  clear ha1 ha2 hc1 hc2
  go_enter Tryz.func20, Tryz.ntmps20
  go_wp2
  go_loopw [13] (fun k wr => ∃ j m : Nat, j ≤ l.length ∧ k = .int .i64 j ∧ wr = w.drewN m) (fun k _ => l.length - (intOf k).toNat)
  case atStart => exact ⟨0, 0, Nat.zero_le _, rfl, rfl⟩
  case round =>
    obtain ⟨j, m, hj, rfl, rfl⟩ := hrel
    by_cases hlt : j < l.length
    · obtain rfl := HA1.out (by omega)
      obtain rfl := HA2.out (by omega)
      obtain ⟨x, hx⟩ : ∃ x, l[j]? = some x := ⟨l[j], List.getElem?_eq_getElem hlt⟩
      have d1 := HC1.out j x hx
      have d2 := HC2.out j x hx
      clear hx
      go_wp2_with fail
      go_quiet (fail)
      go_wp2
      go_roundw
      case rel => exact ⟨j + 1, _, by omega, by go_num, rfl⟩
      case measure => simp [intOf]; omega
    · go_wp2
      go_ret
      exact ⟨rfl, _, rfl⟩

/-- the reference's memory in memory: a struct, and the row of its words (which may have room to spare) -/
def RefIs (W : World) (br g cap : Nat) (l : List Nat) (c : Cn) : Prop :=
  W.heap[br]? = some (.cells #[.slice (some ⟨g, 0, none⟩) l.length cap, .int .i64 c.r, .int .i64 c.w, .int .i64 c.s, .int .i64 c.a, .int .i64 c.f] 141 (0, 0)) ∧
  (∃ cur : Array Value, W.heap[g]? = some (.cells cur 55 (0, 0)) ∧ ∀ (i x : Nat), l[i]? = some x → cur[i]? = some (Value.int .u64 (x : Int))) ∧ br ≠ g

/-- what Of gives: a struct of a slice that has the words, and of counts that are 0 -/
def OfPost (l : List Nat) (w : World) (e : Ending) (w' : World) : Prop :=
  ∃ g cap, e = .returned (.agg #[.slice (some ⟨g, 0, none⟩) l.length cap, .int .i64 0, .int .i64 0, .int .i64 0, .int .i64 0, .int .i64 0]) ∧ w.heap.size ≤ g ∧ g < w'.heap.size ∧ Below w.heap.size w w' ∧
    ∃ cur : Array Value, w'.heap[g]? = some (.cells cur 55 (0, 0)) ∧ ∀ (i x : Nat), l[i]? = some x → cur[i]? = some (Value.int .u64 (x : Int))

theorem of_post {l : List Nat} {w1 : World} {v : Value} {B : Nat} (h : w1.ownsRow B 55 1 v l.length (u64s l)) (hv : v = .slice none 0 0 → False) :
    ∃ g cap, v = .slice (some ⟨g, 0, none⟩) l.length cap ∧ B ≤ g ∧ g < w1.heap.size ∧
    ∃ cur : Array Value, w1.heap[g]? = some (.cells cur 55 (0, 0)) ∧ ∀ (i x : Nat), l[i]? = some x → cur[i]? = some (Value.int .u64 (x : Int)) := by
  obtain ⟨_, ⟨rfl, _⟩ | ⟨g, cap, cur, rfl, hg, hb, _, _, _, h4⟩⟩ := h
  · exact absurd rfl hv
  · refine ⟨g, cap, rfl, by omega, lt_of_heap hb, cur, hb, fun i x hx => ?_⟩
    have h5 := u64s_get hx
    rw [← h4, List.getElem?_take] at h5
    split at h5
    · simpa using h5
    · cases h5

theorem store6 (w1 : World) (b : Nat) (v0 v1 v2 v3 v4 v5 : Value) :
    (∀ k, k ≠ b → (((((((w1.setCell ⟨b, 0, none⟩ v0).setCell ⟨b, 1, none⟩ v1).setCell ⟨b, 2, none⟩ v2).setCell ⟨b, 3, none⟩ v3).setCell ⟨b, 4, none⟩ v4).setCell ⟨b, 5, none⟩ v5)).heap[k]? = w1.heap[k]?) ∧
    (((((((w1.setCell ⟨b, 0, none⟩ v0).setCell ⟨b, 1, none⟩ v1).setCell ⟨b, 2, none⟩ v2).setCell ⟨b, 3, none⟩ v3).setCell ⟨b, 4, none⟩ v4).setCell ⟨b, 5, none⟩ v5)).heap.size = w1.heap.size := by
  refine ⟨fun k hk => ?_, by simp [World.setCell]⟩
  rw [Below.heap_setCell _ _ _ _ hk, Below.heap_setCell _ _ _ _ hk, Below.heap_setCell _ _ _ _ hk, Below.heap_setCell _ _ _ _ hk, Below.heap_setCell _ _ _ _ hk, Below.heap_setCell _ _ _ _ hk]

set_option maxHeartbeats 400000 in
theorem of_any (ao : Option Addr) (b o cap : Nat) (l : List Nat) (w : World) (hn : l.length ≤ 65536) (ha : 0 < l.length → ao = some ⟨b, o, none⟩) (hb : 0 < l.length → b < w.heap.size) (hc : UCells w b o l) (hcap : ao = none → cap = 0) :
    Calls Tryz.prog 98 #[.slice ao l.length cap] w (OfPost l w) := by
  obtain ⟨i0, hi, hz0, hz1, hz2⟩ := info_parts info22
  cases ao with
  | some ad =>
    have hnews : Hid (∀ (j : Nat) (u : Value), (u64s l)[j]? = some u → ((w.alloc (.cells #[.slice none 0 0, .int .i64 0, .int .i64 0, .int .i64 0, .int .i64 0, .int .i64 0] 141)).alloc (.cells #[] 55)).cell? (ad.add j) = some u) := by
      intro j v hv
      unfold u64s at hv
      rw [List.getElem?_map] at hv
      cases hx : l[j]? with
      | none => rw [hx] at hv; cases hv
      | some x =>
        rw [hx] at hv
        simp only [Option.map_some, Option.some.injEq] at hv
        subst hv
        have h0 : 0 < l.length := by have := (List.getElem?_eq_some_iff.1 hx).1; omega
        have hb' := hb h0
        obtain rfl := Option.some.inj (ha h0)
        rw [addr_add _ j b o rfl, World.cell?_alloc_past _ _ _ (by simp; omega), World.cell?_alloc_past _ _ _ hb']
        exact hc j x hx
    have h1 : Hid (∀ u ∈ u64s l, u.oneCell' = true) := by
      intro v hv
      unfold u64s at hv
      obtain ⟨x, _, rfl⟩ := List.mem_map.1 hv
      rfl
    have hmade : Hid (((w.alloc (.cells #[.slice none 0 0, .int .i64 0, .int .i64 0, .int .i64 0, .int .i64 0, .int .i64 0] 141)).alloc (.cells #[] 55)).ownsRow (w.heap.size + 1) 55 1 (.slice (some ⟨w.heap.size + 1, 0, none⟩) 0 0) 0 []) := by
      have := World.ownsRow_made (base := w.heap.size + 1) (e := 55) (size := 1) (w.alloc (.cells #[.slice none 0 0, .int .i64 0, .int .i64 0, .int .i64 0, .int .i64 0, .int .i64 0] 141)) #[] 0 (by simp) (by unfold maxLen; omega) rfl
      apply Lib.hid
      simpa using this
    have hul : Hid ((u64s l).length = l.length * 1) := by show _ = _; rw [u64s_length, Nat.mul_one]
    clear hc ha hb hcap
    go_enter Tryz.func98, Tryz.ntmps98
    go_wp2_with (at_builtin; refine wpList_append_own _ rfl _ _ 37 rfl (w.heap.size + 1) 55 i0 (.int .u64 0) 1 8 Tryz.underlying37 hi hz0 hz1 hz2 rfl (by decide) _ 0 [] rfl hmade.out ad l.length cap (u64s l) rfl hul.out hnews.out h1.out ?p3 ?p4 ?p5 ?_)
    case p3 => unfold maxLen; omega
    case p4 => omega
    case p5 => simp
    intro v' w1 hown hg hnn
    have hown' : w1.ownsRow (w.heap.size + 1) 55 1 v' l.length (u64s l) := by simpa using hown
    have hvn : v' = .slice none 0 0 → False := hnn
    have hbk : w1.heap[w.heap.size]? = some (.cells #[.slice none 0 0, .int .i64 0, .int .i64 0, .int .i64 0, .int .i64 0, .int .i64 0] 141 (0, 0)) := by
      rw [hg.block w.heap.size (by simp; omega) (by simp [Value.ownBlock])]
      rw [Below.heap_alloc _ _ _ (by simp)]
      exact heap_alloc_new _ _
    have hbl : Below w.heap.size w w1 := (((Below.refl _ _).alloc (Nat.le_refl _) _).alloc (by simp) _).grown hg (by simp; omega) (fun k hk => by simp [Value.ownBlock] at hk; omega)
    obtain ⟨g, cap', rfl, hg1, hg2, hcur⟩ := of_post hown' hvn
    have k0 := cell_of_heap (k := 0) hbk rfl
    have k1 := cell_of_heap (k := 1) hbk rfl
    have k2 := cell_of_heap (k := 2) hbk rfl
    have k3 := cell_of_heap (k := 3) hbk rfl
    have k4 := cell_of_heap (k := 4) hbk rfl
    have k5 := cell_of_heap (k := 5) hbk rfl
    have z0 := free_of_heap (k := 0) hbk
    have z1 := free_of_heap (k := 1) hbk
    have z2 := free_of_heap (k := 2) hbk
    have z3 := free_of_heap (k := 3) hbk
    have z4 := free_of_heap (k := 4) hbk
    have z5 := free_of_heap (k := 5) hbk
    have HCU := Lib.hid hcur
    have HBK := Lib.hid hbk
    clear hown hown' hg hnn hvn hcur hbk
    go_wp2
    obtain ⟨hs1, hs2⟩ := store6 w1 w.heap.size (.slice (some ⟨g, 0, none⟩) l.length cap') (.int .i64 0) (.int .i64 0) (.int .i64 0) (.int .i64 0) (.int .i64 0)
    refine bodyPost_ret (v := .agg #[.slice (some ⟨g, 0, none⟩) l.length cap', .int .i64 0, .int .i64 0, .int .i64 0, .int .i64 0, .int .i64 0]) (by simp [results, Tryz.results98, go_sem, k0, k1, k2, k3, k4, k5]) rfl ⟨g, cap', rfl, by omega, ?_, ?_, ?_⟩
    · rw [hs2]; exact hg2
    · exact (((((hbl.setCell (Nat.le_refl _) _).setCell (Nat.le_refl _) _).setCell (Nat.le_refl _) _).setCell (Nat.le_refl _) _).setCell (Nat.le_refl _) _).setCell (Nat.le_refl _) _
    · obtain ⟨cur, h1, h2⟩ := HCU.out
      exact ⟨cur, (hs1 g (by omega)).trans h1, h2⟩
  | none =>
    have hl0 : l.length = 0 := by
      cases hh : l.length with
      | zero => rfl
      | succ n => exact absurd (ha (by omega)) (by simp)
    obtain rfl : l = [] := List.eq_nil_of_length_eq_zero hl0
    obtain rfl : cap = 0 := hcap rfl
    have hmade : Hid (((w.alloc (.cells #[.slice none 0 0, .int .i64 0, .int .i64 0, .int .i64 0, .int .i64 0, .int .i64 0] 141)).alloc (.cells #[] 55)).ownsRow (w.heap.size + 1) 55 1 (.slice (some ⟨w.heap.size + 1, 0, none⟩) 0 0) 0 []) := by
      have := World.ownsRow_made (base := w.heap.size + 1) (e := 55) (size := 1) (w.alloc (.cells #[.slice none 0 0, .int .i64 0, .int .i64 0, .int .i64 0, .int .i64 0, .int .i64 0] 141)) #[] 0 (by simp) (by unfold maxLen; omega) rfl
      apply Lib.hid
      simpa using this
    clear hc ha hb hcap hl0
    go_enter Tryz.func98, Tryz.ntmps98
    go_wp2_with (at_builtin; refine wpList_append_own_none rfl _ _ 37 rfl (w.heap.size + 1) 55 i0 1 Tryz.underlying37 hi _ 0 [] rfl hmade.out rfl ?_)
    go_wp2
    refine bodyPost_ret (v := .agg #[.slice (some ⟨w.heap.size + 1, 0, none⟩) 0 0, .int .i64 0, .int .i64 0, .int .i64 0, .int .i64 0, .int .i64 0]) (by simp [results, Tryz.results98, go_sem]) rfl ⟨w.heap.size + 1, 0, rfl, by omega, by simp, ?_, ?_⟩
    · exact ((Below.refl _ _).alloc (Nat.le_refl _) _).alloc (by simp) _
    · have h := heap_alloc_new (w.alloc (.cells #[.slice (some ⟨w.heap.size + 1, 0, none⟩) 0 0, .int .i64 0, .int .i64 0, .int .i64 0, .int .i64 0, .int .i64 0] 141)) (.cells #[] 55)
      exact ⟨#[], by simpa using h, fun i x hx => by simp at hx⟩
end
section
set_option maxRecDepth 100000
open Go.RowKit

section
variable {W W' : World} {bm bw cap : Nat} {l : List Nat} {c : Cn}
theorem RefIs.lt1 (h : RefIs W bm bw cap l c) : bm < W.heap.size := lt_of_heap h.1
theorem RefIs.lt2 (h : RefIs W bm bw cap l c) : bw < W.heap.size := by obtain ⟨cur, h1, _⟩ := h.2.1; exact lt_of_heap h1
theorem RefIs.c0 (h : RefIs W bm bw cap l c) : W.cell? ⟨bm, 0, none⟩ = some (.slice (some ⟨bw, 0, none⟩) l.length cap) := cell_of_heap h.1 rfl
theorem RefIs.c1 (h : RefIs W bm bw cap l c) : W.cell? ⟨bm, 1, none⟩ = some (.int .i64 c.r) := cell_of_heap h.1 rfl
theorem RefIs.c2 (h : RefIs W bm bw cap l c) : W.cell? ⟨bm, 2, none⟩ = some (.int .i64 c.w) := cell_of_heap h.1 rfl
theorem RefIs.c3 (h : RefIs W bm bw cap l c) : W.cell? ⟨bm, 3, none⟩ = some (.int .i64 c.s) := cell_of_heap h.1 rfl
theorem RefIs.c4 (h : RefIs W bm bw cap l c) : W.cell? ⟨bm, 4, none⟩ = some (.int .i64 c.a) := cell_of_heap h.1 rfl
theorem RefIs.c5 (h : RefIs W bm bw cap l c) : W.cell? ⟨bm, 5, none⟩ = some (.int .i64 c.f) := cell_of_heap h.1 rfl
theorem RefIs.fz (h : RefIs W bm bw cap l c) (k : Nat) : W.frozen? ⟨bm, k, none⟩ = false := free_of_heap h.1
theorem RefIs.word (h : RefIs W bm bw cap l c) {i x : Nat} (hx : l[i]? = some x) : W.cell? ⟨bw, i, none⟩ = some (.int .u64 x) := by
  obtain ⟨cur, h1, h2⟩ := h.2.1
  exact cell_of_heap h1 (h2 i x hx)
theorem RefIs.fzw (h : RefIs W bm bw cap l c) (k : Nat) : W.frozen? ⟨bw, k, none⟩ = false := by
  obtain ⟨cur, h1, _⟩ := h.2.1
  exact free_of_heap h1
theorem RefIs.of_blocks (h : RefIs W bm bw cap l c) (h1 : W'.heap[bm]? = W.heap[bm]?) (h2 : W'.heap[bw]? = W.heap[bw]?) : RefIs W' bm bw cap l c := by
  obtain ⟨cur, h3, h4⟩ := h.2.1
  exact ⟨h1.trans h.1, ⟨cur, h2.trans h3, h4⟩, h.2.2⟩
theorem RefIs.drewN (h : RefIs W bm bw cap l c) (n : Nat) : RefIs (W.drewN n) bm bw cap l c := h
theorem RefIs.alloc (h : RefIs W bm bw cap l c) (o : Obj) : RefIs (W.alloc o) bm bw cap l c := h.of_blocks (Below.heap_alloc _ _ _ h.lt1) (Below.heap_alloc _ _ _ h.lt2)
theorem RefIs.setBm (h : RefIs W bm bw cap l c) {k : Nat} {v : Value} {c' : Cn}
    (hc : (#[Value.slice (some ⟨bw, 0, none⟩) l.length cap, .int .i64 c.r, .int .i64 c.w, .int .i64 c.s, .int .i64 c.a, .int .i64 c.f] : Array Value).setIfInBounds k v = #[.slice (some ⟨bw, 0, none⟩) l.length cap, .int .i64 c'.r, .int .i64 c'.w, .int .i64 c'.s, .int .i64 c'.a, .int .i64 c'.f]) :
    RefIs (W.setCell ⟨bm, k, none⟩ v) bm bw cap l c' := by
  obtain ⟨cur, h3, h4⟩ := h.2.1
  refine ⟨?_, ⟨cur, (Below.heap_setCell _ _ _ _ h.2.2.symm).trans h3, h4⟩, h.2.2⟩
  rw [heap_set_self h.1, hc]
theorem RefIs.incR (h : RefIs W bm bw cap l c) : RefIs (W.setCell ⟨bm, 1, none⟩ (.int .i64 ((c.r : Int) + 1))) bm bw cap l { c with r := c.r + 1 } := h.setBm rfl
theorem RefIs.incW (h : RefIs W bm bw cap l c) : RefIs (W.setCell ⟨bm, 2, none⟩ (.int .i64 ((c.w : Int) + 1))) bm bw cap l { c with w := c.w + 1 } := h.setBm rfl
theorem RefIs.incS (h : RefIs W bm bw cap l c) : RefIs (W.setCell ⟨bm, 3, none⟩ (.int .i64 ((c.s : Int) + 1))) bm bw cap l { c with s := c.s + 1 } := h.setBm rfl
theorem RefIs.incA (h : RefIs W bm bw cap l c) : RefIs (W.setCell ⟨bm, 4, none⟩ (.int .i64 ((c.a : Int) + 1))) bm bw cap l { c with a := c.a + 1 } := h.setBm rfl
theorem RefIs.incF (h : RefIs W bm bw cap l c) : RefIs (W.setCell ⟨bm, 5, none⟩ (.int .i64 ((c.f : Int) + 1))) bm bw cap l { c with f := c.f + 1 } := h.setBm rfl
theorem RefIs.setWord (h : RefIs W bm bw cap l c) (i x : Nat) : RefIs (W.setCell ⟨bw, i, none⟩ (.int .u64 (x : Int))) bm bw cap (l.set i x) c := by
  obtain ⟨cur, h3, h4⟩ := h.2.1
  refine ⟨?_, ⟨_, heap_set_self h3, fun j y hy => ?_⟩, h.2.2⟩
  · rw [List.length_set]
    exact (Below.heap_setCell _ _ _ _ h.2.2).trans h.1
  · rw [List.getElem?_set] at hy
    rw [Array.getElem?_setIfInBounds]
    by_cases hij : i = j
    · subst hij
      rw [if_pos rfl] at hy ⊢
      by_cases hi : i < l.length
      · rw [if_pos hi, Option.some.injEq] at hy
        subst hy
        have := h4 i (l[i]) (List.getElem?_eq_getElem hi)
        have hlt := (Array.getElem?_eq_some_iff.1 this).1
        rw [if_pos hlt]
      · rw [if_neg hi] at hy; cases hy
    · rw [if_neg hij] at hy ⊢
      exact h4 j y hy
end

set_option linter.unusedVariables false
/-- what an access of the reference leaves -/
def LeftR (v : Value) (br g cap : Nat) (l : List Nat) (c : Cn) (w : World) (e : Ending) (w' : World) : Prop := e = .returned v ∧ RefIs w' br g cap l c ∧ But br g w w'

set_option maxHeartbeats 400000 in
theorem racc_read (br g cap i x : Nat) (y z : Nat) (l : List Nat) (c : Cn) (w : World) (hM : RefIs w br g cap l c) (hi : l[i]? = some x) (hn : l.length ≤ 65536) (hc : c.r < 9223372036854775807) :
    Calls Tryz.prog 99 #[.pointer (some ⟨br, 0, none⟩), .int .i64 0, .int .i64 i, .int .u64 y, .int .u64 z] w (LeftR (.int .u64 x) br g cap l { c with r := c.r + 1 } w) := by
  have hil : i < l.length := (List.getElem?_eq_some_iff.1 hi).1
  have h0 := hM.c0
  have h1 := hM.c1
  have f1 := hM.fz 1
  have hx := hM.word hi
  have fx := hM.fzw i
  have hb := hM.lt1
  have hb2 := hM.lt2
  have hne := hM.2.2
  have HM := Lib.hid hM
  have HI := Lib.hid hi
  clear hM hi
  go_enter Tryz.func99, Tryz.ntmps99
  go_wp2
  go_ret
  refine ⟨rfl, ?_, ?_⟩
  · repeat (first | with_reducible exact HM.out.incR | with_reducible apply RefIs.alloc | with_reducible apply RefIs.drewN | with_reducible apply RefIs.setWord)
  · repeat (first | with_reducible exact But.refl _ _ _ | with_reducible apply But.alloc | with_reducible apply But.drewN | with_reducible apply But.drew | with_reducible apply But.setP | with_reducible apply But.setQ)

set_option maxHeartbeats 400000 in
theorem racc_write (br g cap i x : Nat) (y z : Nat) (l : List Nat) (c : Cn) (w : World) (hM : RefIs w br g cap l c) (hi : l[i]? = some x) (hn : l.length ≤ 65536) (hc : c.w < 9223372036854775807) :
    Calls Tryz.prog 99 #[.pointer (some ⟨br, 0, none⟩), .int .i64 1, .int .i64 i, .int .u64 y, .int .u64 z] w (LeftR (.int .u64 0) br g cap (l.set i y) { c with w := c.w + 1 } w) := by
  have hil : i < l.length := (List.getElem?_eq_some_iff.1 hi).1
  have h0 := hM.c0
  have h1 := hM.c2
  have f1 := hM.fz 2
  have hx := hM.word hi
  have fx := hM.fzw i
  have hb := hM.lt1
  have hb2 := hM.lt2
  have hne := hM.2.2
  have HM := Lib.hid hM
  have HI := Lib.hid hi
  clear hM hi
  go_enter Tryz.func99, Tryz.ntmps99
  go_wp2
  go_ret
  refine ⟨rfl, ?_, ?_⟩
  · repeat (first | with_reducible exact HM.out.incW | with_reducible apply RefIs.alloc | with_reducible apply RefIs.drewN | with_reducible apply RefIs.setWord)
  · repeat (first | with_reducible exact But.refl _ _ _ | with_reducible apply But.alloc | with_reducible apply But.drewN | with_reducible apply But.drew | with_reducible apply But.setP | with_reducible apply But.setQ)

set_option maxHeartbeats 400000 in
theorem racc_hit (br g cap i x : Nat) (z : Nat) (l : List Nat) (c : Cn) (w : World) (hM : RefIs w br g cap l c) (hi : l[i]? = some x) (hn : l.length ≤ 65536) (hc : c.s < 9223372036854775807) :
    Calls Tryz.prog 99 #[.pointer (some ⟨br, 0, none⟩), .int .i64 2, .int .i64 i, .int .u64 x, .int .u64 z] w (LeftR (.int .u64 1) br g cap (l.set i z) { c with s := c.s + 1 } w) := by
  have hil : i < l.length := (List.getElem?_eq_some_iff.1 hi).1
  have h0 := hM.c0
  have h1 := hM.c3
  have f1 := hM.fz 3
  have hx := hM.word hi
  have fx := hM.fzw i
  have hb := hM.lt1
  have hb2 := hM.lt2
  have hne := hM.2.2
  have HM := Lib.hid hM
  have HI := Lib.hid hi
  clear hM hi
  go_enter Tryz.func99, Tryz.ntmps99
  go_wp2
  go_ret
  refine ⟨rfl, ?_, ?_⟩
  · repeat (first | with_reducible exact HM.out.incS | with_reducible apply RefIs.alloc | with_reducible apply RefIs.drewN | with_reducible apply RefIs.setWord)
  · repeat (first | with_reducible exact But.refl _ _ _ | with_reducible apply But.alloc | with_reducible apply But.drewN | with_reducible apply But.drew | with_reducible apply But.setP | with_reducible apply But.setQ)

set_option maxHeartbeats 400000 in
theorem racc_miss (br g cap i x : Nat) (y z : Nat) (l : List Nat) (c : Cn) (w : World) (hM : RefIs w br g cap l c) (hi : l[i]? = some x) (hn : l.length ≤ 65536) (hc : c.s < 9223372036854775807) (hxy : x ≠ y) :
    Calls Tryz.prog 99 #[.pointer (some ⟨br, 0, none⟩), .int .i64 2, .int .i64 i, .int .u64 y, .int .u64 z] w (LeftR (.int .u64 0) br g cap l { c with s := c.s + 1 } w) := by
  have hil : i < l.length := (List.getElem?_eq_some_iff.1 hi).1
  have h0 := hM.c0
  have h1 := hM.c3
  have f1 := hM.fz 3
  have hx := hM.word hi
  have fx := hM.fzw i
  have hb := hM.lt1
  have hb2 := hM.lt2
  have hne := hM.2.2
  have HM := Lib.hid hM
  have HI := Lib.hid hi
  clear hM hi
  have hox : ((x : Int) == (y : Int)) = false := by simp; omega
  have hox2 : ((x : Int) != (y : Int)) = true := by simp; omega
  go_enter Tryz.func99, Tryz.ntmps99
  go_wp2
  go_ret
  refine ⟨rfl, ?_, ?_⟩
  · repeat (first | with_reducible exact HM.out.incS | with_reducible apply RefIs.alloc | with_reducible apply RefIs.drewN | with_reducible apply RefIs.setWord)
  · repeat (first | with_reducible exact But.refl _ _ _ | with_reducible apply But.alloc | with_reducible apply But.drewN | with_reducible apply But.drew | with_reducible apply But.setP | with_reducible apply But.setQ)

set_option maxHeartbeats 400000 in
theorem racc_add (br g cap i x : Nat) (y z : Nat) (k : Int) (l : List Nat) (c : Cn) (w : World) (hM : RefIs w br g cap l c) (hi : l[i]? = some x) (hn : l.length ≤ 65536) (hc : c.a < 9223372036854775807) (hk0 : k ≠ 0) (hk1 : k ≠ 1) (hk2 : k ≠ 2) :
    Calls Tryz.prog 99 #[.pointer (some ⟨br, 0, none⟩), .int .i64 k, .int .i64 i, .int .u64 y, .int .u64 z] w (LeftR (.int .u64 x) br g cap (l.set i ((x + y) % 18446744073709551616)) { c with a := c.a + 1 } w) := by
  have HW : Hid (IntKind.u64.wrap ((x : Int) + (y : Int)) = ((((x + y) % 18446744073709551616 : Nat)) : Int)) := Lib.hid (by rw [IntKind.wrap_u64]; omega)
  have e0 : (k == 0) = false := by simp; omega
  have e1 : (k == 1) = false := by simp; omega
  have e2 : (k == 2) = false := by simp; omega
  have hil : i < l.length := (List.getElem?_eq_some_iff.1 hi).1
  have h0 := hM.c0
  have h1 := hM.c4
  have f1 := hM.fz 4
  have hx := hM.word hi
  have fx := hM.fzw i
  have hb := hM.lt1
  have hb2 := hM.lt2
  have hne := hM.2.2
  have HM := Lib.hid hM
  have HI := Lib.hid hi
  clear hM hi
  go_enter Tryz.func99, Tryz.ntmps99
  go_wp2
  go_ret
  rw [HW.out]
  refine ⟨rfl, ?_, ?_⟩
  · repeat (first | with_reducible exact HM.out.incA | with_reducible apply RefIs.alloc | with_reducible apply RefIs.drewN | with_reducible apply RefIs.setWord)
  · repeat (first | with_reducible exact But.refl _ _ _ | with_reducible apply But.alloc | with_reducible apply But.drewN | with_reducible apply But.drew | with_reducible apply But.setP | with_reducible apply But.setQ)

set_option maxHeartbeats 400000 in
theorem racc_fault (br g cap : Nat) (k a : Int) (y z : Nat) (l : List Nat) (c : Cn) (w : World) (hM : RefIs w br g cap l c) (hn : l.length ≤ 65536) (ha : a < 0 ∨ (l.length : Int) ≤ a) (hc : c.f < 9223372036854775807) :
    Calls Tryz.prog 99 #[.pointer (some ⟨br, 0, none⟩), .int .i64 k, .int .i64 a, .int .u64 y, .int .u64 z] w (LeftR (.int .u64 0) br g cap l { c with f := c.f + 1 } w) := by
  have h0 := hM.c0
  have h1 := hM.c5
  have f1 := hM.fz 5
  have hb := hM.lt1
  have hb2 := hM.lt2
  have hne := hM.2.2
  have HM := Lib.hid hM
  clear hM
  rcases ha with ha | ha
  · go_enter Tryz.func99, Tryz.ntmps99
    go_wp2
    go_ret
    refine ⟨rfl, ?_, ?_⟩
    · repeat (first | with_reducible exact HM.out.incF | with_reducible apply RefIs.alloc | with_reducible apply RefIs.drewN | with_reducible apply RefIs.setWord)
    · repeat (first | with_reducible exact But.refl _ _ _ | with_reducible apply But.alloc | with_reducible apply But.drewN | with_reducible apply But.drew | with_reducible apply But.setP | with_reducible apply But.setQ)
  · have ha0 : 0 ≤ a := by omega
    go_enter Tryz.func99, Tryz.ntmps99
    go_wp2
    go_ret
    refine ⟨rfl, ?_, ?_⟩
    · repeat (first | with_reducible exact HM.out.incF | with_reducible apply RefIs.alloc | with_reducible apply RefIs.drewN | with_reducible apply RefIs.setWord)
    · repeat (first | with_reducible exact But.refl _ _ _ | with_reducible apply But.alloc | with_reducible apply But.drewN | with_reducible apply But.drew | with_reducible apply But.setP | with_reducible apply But.setQ)
end
end Go.Proofs.YtjjleghalajidaaGreat.Nm
