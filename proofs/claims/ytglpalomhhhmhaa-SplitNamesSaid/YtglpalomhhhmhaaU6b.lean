/- make of a row of bools. -/
import Derived.Test.YtglpalomhhhmhaaU6
namespace Go.Proofs.Ytglpalomhhhmhaa
open Go.RowKit
theorem run_mkB (n : Nat) (hn : n ≤ 4294967296) (w : World) : (Instr.makeSlice 36 (.int .i64 (n : Int)) (.int .i64 (n : Int))).run Try.prog w = .ok (.slice (some ⟨w.heap.size, 0, none⟩) n n) (w.alloc (.cells (boolVs (List.replicate n false)).toArray 4)) := by
  obtain ⟨i0, hi, hz0, hz1, hz2⟩ := info_parts infoBo
  have h := run_make (P := Try.prog) w 36 4 i0 (.bool false) Try.underlying36 hi hz0 .i64 .i64 n n (by omega) (by omega) (by rw [hz2]; omega) (by omega)
  simp only [Int.toNat_natCast] at h
  unfold boolVs
  rw [h, hz1, Nat.mul_one, List.map_replicate, ← toList_madeCells_one, Array.toArray_toList]
  rfl
end Go.Proofs.Ytglpalomhhhmhaa
