/- Walks of duplicate, New, Words, Len. -/
import Derived.Test.YtglpalomhhhmhaaN2
import Derived.Laws.CopyOwn
import Derived.Laws.MakeOwn
import Derived.Test.YtglpalomhhhmhaaK3
namespace Go.Proofs.Ytglpalomhhhmhaa
open Go.RowKit

/-- words lie in a row -/
def UCells (w : World) (b o : Nat) (l : List Nat) : Prop := ∀ (i x : Nat), l[i]? = some x → w.cell? ⟨b, o + i, none⟩ = some (.int .u64 (x : Int))

def zeros (n : Nat) : List Value := (madeCells #[.int .u64 0] n).toList
theorem zeros_length (n : Nat) : (zeros n).length = n := by unfold zeros; rw [Array.length_toList]; exact size_madeCells _ _
theorem run_mk (n : Nat) (hn : n ≤ 4294967296) (w : World) : (Instr.makeSlice 27 (.int .i64 (n : Int)) (.int .i64 (n : Int))).run Try.prog w = .ok (.slice (some ⟨w.heap.size, 0, none⟩) n n) (w.alloc (.cells (zeros n).toArray 37)) := by
  obtain ⟨i0, hi, hz0, hz1, hz2⟩ := info_parts info22
  have h := run_make (P := Try.prog) w 27 37 i0 (.int .u64 0) Try.underlying27 hi hz0 .i64 .i64 n n (by omega) (by omega) (by rw [hz2]; omega) (by omega)
  simp only [Int.toNat_natCast] at h
  rw [h, hz1, Nat.mul_one]
  unfold zeros
  rw [Array.toArray_toList]
  rfl
theorem heap_alloc_at (w : World) (o : Obj) : (w.alloc o).heap[w.heap.size]? = some o := heap_alloc_new w o

set_option maxHeartbeats 400000 in
theorem dup_any (ao : Option Addr) (b o cap : Nat) (l : List Nat) (w : World) (hn : l.length ≤ 4294967296) (ha : 0 < l.length → ao = some ⟨b, o, none⟩) (hb : 0 < l.length → b < w.heap.size) (hc : UCells w b o l) :
    Calls Try.prog 37 #[.slice ao l.length cap] w fun e w' => e = .returned (.slice (some ⟨w.heap.size, 0, none⟩) l.length l.length) ∧ w'.heap[w.heap.size]? = some (.cells (u64s l).toArray 37 (0, 0)) ∧ Below w.heap.size w w' := by
  have hmk := run_mk l.length hn
  have hpos : Hid (0 < (u64s l).length → (some ⟨w.heap.size, 0, none⟩ : Option Addr) = some ⟨w.heap.size, 0, none⟩ ∧ ∃ ad, ao = some ad ∧ ∀ (j : Nat) (v : Value), (u64s l)[j]? = some v → (w.alloc (.cells (zeros l.length).toArray 37)).cell? (ad.add j) = some v) := by
    intro h
    rw [u64s_length] at h
    refine ⟨rfl, _, ha h, fun j v hv => ?_⟩
    unfold u64s at hv
    rw [List.getElem?_map] at hv
    cases hx : l[j]? with
    | none => rw [hx] at hv; cases hv
    | some x =>
      rw [hx] at hv
      simp only [Option.map_some, Option.some.injEq] at hv
      subst hv
      rw [addr_add _ j b o rfl, World.cell?_alloc_past _ _ _ (hb h)]
      exact hc j x hx
  have hlen : (u64s l).length = Nat.min l.length l.length := by rw [u64s_length]; simp
  have HL := Lib.hid hlen
  have hfit : 0 + (u64s l).length ≤ (zeros l.length).length := by rw [u64s_length, zeros_length]; omega
  have h1 : Hid (∀ v ∈ u64s l, v.oneCell' = true) := by
    intro v hv
    unfold u64s at hv
    obtain ⟨x, _, rfl⟩ := List.mem_map.1 hv
    rfl
  have hspl : Hid (splice (zeros l.length) 0 (u64s l) = u64s l) := by
    show splice _ _ _ = _
    unfold splice
    rw [List.take_zero, Nat.zero_add, List.drop_of_length_le (by rw [u64s_length, zeros_length]; omega)]
    simp
  clear hc ha hlen
  go_enter Try.func37, Try.ntmps37
  go_wp2_with (refine wpList_copy_splice rfl _ _ 27 27 rfl 37 Try.underlying27 (by kernel_rfl) _ _ _ _ _ _ rfl rfl w.heap.size 0 (zeros l.length) 37 (heap_alloc_at w _) (u64s l) HL.out hpos.out hfit h1.out w.heap.size w ((Below.refl _ _).alloc (Nat.le_refl _) _) (Nat.le_refl _) ?_)
  intro w1 h2 hb1
  rw [hspl.out] at h2
  go_wp2
  go_ret
  exact ⟨rfl, h2.out, hb1⟩
end Go.Proofs.Ytglpalomhhhmhaa
