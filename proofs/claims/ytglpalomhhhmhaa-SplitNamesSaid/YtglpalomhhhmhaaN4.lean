/- Walks of New, Words, Len, Counts. -/
import Derived.Test.YtglpalomhhhmhaaN3
namespace Go.Proofs.Ytglpalomhhhmhaa
open Go.RowKit

theorem UCells.stays {w wr : World} {b o B : Nat} {l : List Nat} (h : UCells w b o l) (hb : Below B w wr) (hB : 0 < l.length → b < B) : UCells wr b o l := by
  intro i x hx
  have hl : 0 < l.length := by have := (List.getElem?_eq_some_iff.1 hx).1; omega
  exact (hb.cell (p := ⟨b, _, none⟩) (hB hl)).trans (h i x hx)
theorem ucells_of_block {w : World} {g : Nat} {l : List Nat} (h : w.heap[g]? = some (.cells (u64s l).toArray 37 (0, 0))) : UCells w g 0 l := by
  intro i x hx
  rw [Nat.zero_add]
  exact cell_of_heap h (by simpa using u64s_get hx)

/-- what New leaves: a memory of the words, and what there was as it was -/
def NewPost (l : List Nat) (w : World) (e : Ending) (w' : World) : Prop :=
  ∃ bm bw, e = .returned (.tuple #[.pointer (some ⟨bm, 0, none⟩), .int .i64 0]) ∧ MemIs 108 w' bm bw l ⟨0, 0, 0, 0, 0⟩ ∧ w.heap.size ≤ bm ∧ w.heap.size ≤ bw ∧ Below w.heap.size w w'

set_option maxHeartbeats 400000 in
theorem new_ok (ao : Option Addr) (b o cap : Nat) (l : List Nat) (w : World) (hn : l.length ≤ 65536) (ha : 0 < l.length → ao = some ⟨b, o, none⟩) (hb : 0 < l.length → b < w.heap.size) (hc : UCells w b o l) :
    Calls Try.prog 25 #[.slice ao l.length cap] w (NewPost l w) := by
  have HA := Lib.hid ha
  have HB := Lib.hid hb
  have HC := Lib.hid hc
  clear ha hb hc
  go_enter Try.func25, Try.ntmps25
  go_wp2_with fail
  refine (dup_any ao b o cap l _ (by omega) HA.out HB.out HC.out).mono ?_
  rintro e w1 ⟨rfl, hg, hb1⟩
  have HG := Lib.hid hg
  clear hg
  go_wp2_with fail
  go_ret2
  have hsz := hb1.size
  have hlt := lt_of_heap HG.out
  refine ⟨w1.heap.size, w.heap.size, rfl, ⟨heap_alloc_new _ _, (Below.heap_alloc _ _ _ hlt).trans HG.out, by omega⟩, hsz, Nat.le_refl _, hb1.alloc hsz _⟩

set_option maxHeartbeats 400000 in
theorem new_long (ao : Option Addr) (n cap : Nat) (w : World) (hn : 65536 < n) :
    Calls Try.prog 25 #[.slice ao n cap] w fun e w' => e = .returned (.tuple #[.pointer none, .int .i64 3]) ∧ w = w' := by
  go_enter Try.func25, Try.ntmps25
  go_wp2_with fail
  go_ret2
  exact ⟨rfl, rfl⟩

set_option maxHeartbeats 400000 in
theorem counts_ok (bm bw : Nat) (l : List Nat) (c : Cn) (w : World) (hM : MemIs 108 w bm bw l c) :
    Calls Try.prog 33 #[.pointer (some ⟨bm, 0, none⟩)] w fun e w' => e = .returned (.agg #[.int .i64 c.r, .int .i64 c.w, .int .i64 c.s, .int .i64 c.a, .int .i64 c.f]) ∧ Below w.heap.size w w' := by
  have h1 := hM.c1
  have h2 := hM.c2
  have h3 := hM.c3
  have h4 := hM.c4
  have h5 := hM.c5
  have hb := hM.lt1
  clear hM
  go_enter Try.func33, Try.ntmps33
  go_wp2_with fail
  exact bodyPost_ret (v := .agg #[.int .i64 c.r, .int .i64 c.w, .int .i64 c.s, .int .i64 c.a, .int .i64 c.f]) (by simp [results, Try.results33, go_sem]) rfl ⟨rfl, (Below.refl _ _).alloc (Nat.le_refl _) _⟩

set_option maxHeartbeats 400000 in
theorem counts_nil (w : World) : Calls Try.prog 33 #[.pointer none] w fun e w' => e = .returned (.agg #[.int .i64 0, .int .i64 0, .int .i64 0, .int .i64 0, .int .i64 0]) ∧ Below w.heap.size w w' := by
  go_enter Try.func33, Try.ntmps33
  go_wp2_with fail
  exact bodyPost_ret (v := .agg #[.int .i64 0, .int .i64 0, .int .i64 0, .int .i64 0, .int .i64 0]) (by simp [results, Try.results33, go_sem]) rfl ⟨rfl, (Below.refl _ _).alloc (Nat.le_refl _) _⟩
end Go.Proofs.Ytglpalomhhhmhaa
