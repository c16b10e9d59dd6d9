/- Walks of Words. -/
import Derived.Test.YtglpalomhhhmhaaN4
namespace Go.Proofs.Ytglpalomhhhmhaa
open Go.RowKit

set_option maxHeartbeats 400000 in
theorem words_ok (bm bw : Nat) (l : List Nat) (c : Cn) (w : World) (hM : MemIs 108 w bm bw l c) (hn : l.length ≤ 65536) :
    Calls Try.prog 32 #[.pointer (some ⟨bm, 0, none⟩)] w fun e w' => e = .returned (.slice (some ⟨w.heap.size, 0, none⟩) l.length l.length) ∧ w'.heap[w.heap.size]? = some (.cells (u64s l).toArray 37 (0, 0)) ∧ Below w.heap.size w w' := by
  have h0 := hM.c0
  have hb := hM.lt1
  have HC : Hid (UCells w bw 0 l) := ucells_of_block hM.2.1
  have HB : Hid (bw < w.heap.size) := hM.lt2
  clear hM
  go_enter Try.func32, Try.ntmps32
  go_wp2_with fail
  refine (dup_any _ bw 0 _ l _ (by omega) (fun _ => rfl) (fun _ => HB.out) HC.out).mono ?_
  rintro e w1 ⟨rfl, hg, hb1⟩
  have HG := Lib.hid hg
  clear hg
  go_wp2_with fail
  go_ret
  exact ⟨rfl, HG.out, hb1⟩

set_option maxHeartbeats 400000 in
theorem words_nil (w : World) : Calls Try.prog 32 #[.pointer none] w fun e w' => e = .returned (.slice none 0 0) ∧ w = w' := by
  go_enter Try.func32, Try.ntmps32
  go_wp2_with fail
  go_ret
  exact ⟨rfl, rfl⟩
end Go.Proofs.Ytglpalomhhhmhaa
