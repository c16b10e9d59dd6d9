/- slices.Reverse over bytes: of a row of the call's own, from a place on. -/
import Derived.Test.YthacohejdpjjeaaMD
import Derived.Lib.SlicesMore
import Derived.Lib.OwnBridge
import Derived.Sort.WalkB12
import Derived.Deep.LoopGhost
import Derived.Lib.Walk
import Derived.Shelf.SlicesE.Kit
namespace Go.Proofs.Ythacohejdpjjeaa
open Go.RowKit Go.Lib Go.Sort

theorem bV_one : OneCell bV := fun _ => rfl
set_option maxHeartbeats 1600000 in
set_option maxRecDepth 1000000 in
theorem rev_arr (blk off cap : Nat) (d : Array Nat) (w : World) (hH : Holds bV w blk off d) (hsz : d.size ≤ 9223372036854775807) :
    Calls Try.prog 58 #[.slice (some ⟨blk, off, none⟩) d.size cap] w fun e w' => e = .returned (.tuple #[]) ∧ ∃ n, w' = putRow bV (Sort.ahead w n) blk off d.reverse := by
  have hcl := bV_one.cells
  simp only [Value.cells] at hcl
  have hst := bV_one.store Try.prog
  go_enter Try.func58, Try.ntmps58
  go_wp2
  go_loopg [2, 3] d.size (fun k s2 s3 wr => ∃ (i jn : Nat) (jz : Int) (dk : Array Nat) (n : Nat), s2 = .int .i64 i ∧ s3 = .int .i64 jz ∧ ((i : Int) < jz → jz = jn ∧ jn < d.size) ∧ (¬ (i : Int) < jz → ¬ i < jn) ∧ jn - i ≤ k ∧
    dk.size = d.size ∧ wr = putRow bV (Sort.ahead w n) blk off dk ∧ reverseLoop i jn dk = reverseLoop 0 (d.size - 1) d)
  case atStart => exact ⟨0, d.size - 1, (d.size : Int) - 1, d, 0, rfl, rfl, fun h => ⟨by omega, by omega⟩, fun h => by omega, by omega, rfl, (putRow_self bV w blk off d hH).symm, rfl⟩
  case round =>
    obtain ⟨i, jn, jz, dk, n, rfl, rfl, h1, h2, hk, hds, hwr, heq⟩ := hrel
    by_cases hlt : (i : Int) < jz
    · obtain ⟨rfl, hjn⟩ := h1 hlt
      have hij : i < jn := by omega
      have hHk : Holds bV wr blk off dk := by rw [hwr]; exact holds_putRow bV _ blk off d dk (holds_ahead bV w n blk off d hH) hds
      obtain ⟨ci, fi⟩ := hHk i (by omega)
      obtain ⟨cj, fj⟩ := hHk jn (by omega)
      have A : Aside (wr = putRow bV (Sort.ahead w n) blk off dk) := hwr
      clear hwr hHk hH h1 h2
      go_wp2_with fail
      go_region
      go_wp2
      go_roundg (jn - 1 - (i + 1))
      case measure => omega
      case rel =>
        rw [reverseLoop, if_pos hij] at heq
        exact ⟨i + 1, jn - 1, (jn : Int) - 1, swp dk i jn, n + 1, by simp, rfl, fun h => ⟨by omega, by omega⟩, fun h => by omega, Nat.le_refl _, by rw [size_swp]; exact hds,
          swap_world bV (by omega) (by omega) A.out (by first | rfl | simp [getElem!_pos, show jn < dk.size by omega]) (by first | rfl | simp [getElem!_pos, show i < dk.size by omega]), heq⟩
    · have hnot := h2 hlt
      go_wp2
      go_end0
      refine ⟨rfl, n, ?_⟩
      rw [reverseLoop, if_neg hnot] at heq
      rw [← Lib.reverseLoop_reverse, ← heq]

theorem rev_list (blk off cap : Nat) (zs : List Nat) (w : World) (hH : Holds bV w blk off zs.toArray) (hsz : zs.length ≤ 9223372036854775807) :
    Calls Try.prog 58 #[.slice (some ⟨blk, off, none⟩) zs.length cap] w fun e w' => e = .returned (.tuple #[]) ∧ ∃ n, w' = putRow bV (Sort.ahead w n) blk off zs.reverse.toArray := by
  have h := rev_arr blk off cap zs.toArray w hH (by simpa using hsz)
  simpa using h

/-- a row of the call's own, reversed from a place on -/
theorem own_reverse {w : World} {B g c : Nat} {l m : List Nat} (h : BOwn w B (.slice (some ⟨g, 0, none⟩) (l ++ m).length c) (l ++ m)) :
    Holds bV w g l.length m.toArray ∧ ∀ n, BOwn (putRow bV (Sort.ahead w n) g l.length m.reverse.toArray) B (.slice (some ⟨g, 0, none⟩) (l ++ m.reverse).length c) (l ++ m.reverse) ∧ B ≤ g ∧ g < w.heap.size := by
  obtain ⟨hl, ⟨e0, _⟩ | ⟨g', cap', cur, e0, hb, hg, hn, hm, hs, ht⟩⟩ := h
  · cases e0
  injection e0 with e1 _ e3
  injection e1 with e1
  injection e1 with e1
  subst e1; subst e3
  have hlt : g < w.heap.size := lt_of_heap hg
  have hcur : ∀ j, j < m.length → cur[l.length + j]? = some (bV m[j]!) := fun j hj => by
    have e1 : (cur.toList.take ((l ++ m).length * 1))[l.length + j]? = ((l ++ m).map bV)[l.length + j]? := by rw [ht]
    rw [List.getElem?_take, if_pos (by simp; omega), Array.getElem?_toList, List.getElem?_map, List.getElem?_append_right (by omega), Nat.add_sub_cancel_left, List.getElem?_eq_getElem hj] at e1
    rw [e1, getElem!_pos m j hj]
    rfl
  refine ⟨fun j hj => ?_, fun n => ⟨⟨by simp, .inr ⟨g, c, putCells bV l.length m.reverse.toArray cur, rfl, hb, ?_, by simpa using hn, hm, by simpa [putCells] using hs, ?_⟩⟩, hb, hlt⟩⟩
  · have hj' : j < m.length := by simpa using hj
    refine ⟨?_, by simp [World.frozen?, hg]⟩
    simp only [World.cell?, hg, Option.isSome_none, Bool.false_eq_true, if_false]
    rw [hcur j hj']
    simp
  · simp [putRow, mapBlock, Sort.ahead, Array.getElem?_modify, hg, onCells]
  · apply List.ext_getElem?
    intro j
    have hcs : (l ++ m).length ≤ cur.size := by
      have := congrArg List.length ht
      simp at this ⊢
      omega
    rw [List.getElem?_take, List.getElem?_map, Array.getElem?_toList]
    by_cases hj : j < (l ++ m.reverse).length
    · have hjc : j < cur.size := by simp at hj hcs; omega
      simp only [Nat.mul_one, if_pos hj, putCells, Array.getElem?_mapIdx, Array.getElem?_eq_getElem hjc, Option.map_some]
      by_cases h2 : j < l.length
      · rw [if_neg (by omega), List.getElem?_append_left h2]
        have e1 : (cur.toList.take ((l ++ m).length * 1))[j]? = ((l ++ m).map bV)[j]? := by rw [ht]
        rw [List.getElem?_take, if_pos (by simp; omega), Array.getElem?_toList, List.getElem?_map, List.getElem?_append_left h2, Array.getElem?_eq_getElem hjc] at e1
        exact e1
      · rw [if_pos (by simp at hj ⊢; omega), List.getElem?_append_right (by omega)]
        have h3 : j - l.length < m.reverse.length := by simp at hj ⊢; omega
        rw [List.getElem?_eq_getElem h3, getElem!_pos m.reverse.toArray (j - l.length) (by simpa using h3)]
        simp
    · rw [List.getElem?_eq_none (by omega)]
      simp [Nat.mul_one] at hj ⊢
      omega

theorem below_rev {B : Nat} {w0 w : World} {g o n : Nat} {d : Array Nat} (h : Below B w0 w) (hg : B ≤ g) : Below B w0 (putRow bV (Sort.ahead w n) g o d) :=
  ⟨h.os, h.tape, h.output, by simpa [putRow, mapBlock, Sort.ahead] using h.size, fun k hk => by
    rw [← h.block k hk]
    simp [putRow, mapBlock, Sort.ahead, Array.getElem?_modify, show g ≠ k by omega]⟩
theorem keeps_rev {w : World} {g o n : Nat} {d : Array Nat} {cur : Array Value} (hg : w.heap[g]? = some (.cells cur 5 (0, 0))) : Keeps 5 w (putRow bV (Sort.ahead w n) g o d) := by
  intro B e2 s k v xs he ho
  obtain ⟨hl, ⟨rfl, e0⟩ | ⟨g', cap', cur', rfl, hb, hg', hn, hm, hs, ht⟩⟩ := ho
  · exact ⟨hl, .inl ⟨rfl, e0⟩⟩
  · refine ⟨hl, .inr ⟨g', cap', cur', rfl, hb, ?_, hn, hm, hs, ht⟩⟩
    have : g ≠ g' := fun e => by
      subst e
      rw [hg] at hg'
      simp at hg'
      exact he hg'.2.symm
    simp [putRow, mapBlock, Sort.ahead, Array.getElem?_modify, this, hg']
end Go.Proofs.Ythacohejdpjjeaa
