/- Walk of the law MemLast. -/
import Derived.Test.YtehcfflofacapabN8
import Derived.Deep.RegionHeld3
namespace Go.Proofs.Ytehcfflofacapab
open Go.RowKit

/-- the two arrays that the law was handed, in their boxes -/
theorem boxes {w wk : World} {i j : Int} {x y : Nat} {t1 t2 : TypeId} (h : Below (w.heap.size + 2) ((w.alloc (.cells #[.int .i64 i, .int .i64 j] t1)).alloc (.cells #[.int .u64 (x : Int), .int .u64 (y : Int)] t2)) wk) :
    wk.cell? ⟨w.heap.size, 0, none⟩ = some (.int .i64 i) ∧ wk.cell? ⟨w.heap.size, 1, none⟩ = some (.int .i64 j) ∧ wk.cell? ⟨w.heap.size + 1, 0, none⟩ = some (.int .u64 (x : Int)) ∧ wk.cell? ⟨w.heap.size + 1, 1, none⟩ = some (.int .u64 (y : Int)) := by
  have b1 : wk.heap[w.heap.size]? = some (.cells #[.int .i64 i, .int .i64 j] t1 (0, 0)) := by
    rw [h.block _ (by omega), Below.heap_alloc _ _ _ (by simp)]; exact heap_alloc_new _ _
  have b2 : wk.heap[w.heap.size + 1]? = some (.cells #[.int .u64 (x : Int), .int .u64 (y : Int)] t2 (0, 0)) := by
    rw [h.block _ (by omega)]
    have := heap_alloc_new (w.alloc (.cells #[.int .i64 i, .int .i64 j] t1)) (.cells #[.int .u64 (x : Int), .int .u64 (y : Int)] t2)
    simpa using this
  exact ⟨cell_of_heap b1 rfl, cell_of_heap b1 rfl, cell_of_heap b2 rfl, cell_of_heap b2 rfl⟩

set_option maxRecDepth 100000 in
set_option maxHeartbeats 400000 in
theorem last_long (ao : Option Addr) (cap n : Nat) (i j : Int) (x y : Nat) (w : World) (hn : 65536 < n) :
    Calls Try.prog 3 #[.slice ao n cap, .agg #[.int .i64 i, .int .i64 j], .agg #[.int .u64 x, .int .u64 y]] w fun e w' => e = .returned (.bool true) ∧ Below w.heap.size w w' := by
  go_enter Try.func3, Try.ntmps3
  go_wp2_with fail
  refine (new_long ao n cap _ hn).mono ?_
  rintro e w1 ⟨rfl, rfl⟩
  go_wp2_with fail
  refine (two_any _).mono ?_
  rintro e w1 ⟨rfl, hb⟩
  go_wp2_with fail
  go_ret
  exact ⟨rfl, (((Below.refl w.heap.size w).alloc (Nat.le_refl _) _).alloc (by simp) _).trans (hb.mono (by simp; omega))⟩

set_option maxRecDepth 100000 in
set_option maxHeartbeats 400000 in
theorem last_out (ao : Option Addr) (b o cap : Nat) (l : List Nat) (i j : Int) (x y : Nat) (w : World) (hn : l.length ≤ 65536) (ha : 0 < l.length → ao = some ⟨b, o, none⟩) (hb : 0 < l.length → b < w.heap.size) (hc : UCells w b o l)
    (h : i < 0 ∨ (l.length : Int) ≤ i ∨ j < 0 ∨ (l.length : Int) ≤ j) :
    Calls Try.prog 3 #[.slice ao l.length cap, .agg #[.int .i64 i, .int .i64 j], .agg #[.int .u64 x, .int .u64 y]] w fun e w' => e = .returned (.bool true) ∧ Below w.heap.size w w' := by
  have HA := Lib.hid ha
  have HC : Hid (UCells ((w.alloc (.cells #[.int .i64 i, .int .i64 j] 23)).alloc (.cells #[.int .u64 (x : Int), .int .u64 (y : Int)] 25)) b o l) :=
    Lib.hid (UCells.stays hc (((Below.refl w.heap.size w).alloc (Nat.le_refl _) _).alloc (by simp) _) hb)
  have HB : Hid (0 < l.length → b < w.heap.size + 1 + 1) := fun h => by have := hb h; omega
  clear ha hb hc
  have key : i < 0 ∨ (0 ≤ i ∧ (l.length : Int) ≤ i) ∨ (0 ≤ i ∧ i < l.length ∧ j < 0) ∨ (0 ≤ i ∧ i < l.length ∧ 0 ≤ j ∧ (l.length : Int) ≤ j) := by omega
  clear h
  rcases key with h1 | ⟨h1, h2⟩ | ⟨h1, h2, h3⟩ | ⟨h1, h2, h3, h4⟩
  all_goals
    go_enter Try.func3, Try.ntmps3
    go_wp2_with fail
    refine (new_ok ao b o cap l _ hn HA.out (fun h => by have := HB.out h; simpa using this) HC.out).mono ?_
    rintro e w1 ⟨bm, bw, rfl, hM, hbm, hbw, hb1⟩
    have hB2 : Below (w.heap.size + 2) _ w1 := hb1.mono (by simp)
    obtain ⟨q0, q1, z0, z1⟩ := boxes hB2
    have HB2 := Lib.hid ((((Below.refl w.heap.size w).alloc (Nat.le_refl _) _).alloc (by simp) _).trans (hB2.mono (by omega)))
    clear hM hb1 hB2
    go_wp2_with fail
    refine (two_any _).mono ?_
    rintro e w2 ⟨rfl, hb⟩
    go_wp2_with fail
    go_ret
    exact ⟨rfl, HB2.out.trans (hb.mono HB2.out.size)⟩
end Go.Proofs.Ytehcfflofacapab
