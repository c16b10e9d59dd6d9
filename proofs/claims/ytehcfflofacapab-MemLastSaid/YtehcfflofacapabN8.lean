/- Walk of the law's known memory. -/
import Derived.Test.YtehcfflofacapabN4
import Derived.Laws.StructEq
namespace Go.Proofs.Ytehcfflofacapab
open Go.RowKit

set_option maxHeartbeats 800000 in
theorem two_any (w : World) : Calls Try.prog 5 #[] w fun e w' => e = .returned (.bool true) ∧ Below w.heap.size w w' := by
  go_enter Try.func5, Try.ntmps5
  go_wp2_with fail
  refine (new_ok (some ⟨w.heap.size, 0, none⟩) w.heap.size 0 2 [5, 7] _ (by simp) (fun _ => rfl) (fun _ => by simp) ?_).mono ?_
  · intro i x hx
    match i, hx with
    | 0, hx => simp at hx; subst hx; rw [World.cell?_alloc_at _ _ _ _ rfl]; rfl
    | 1, hx => simp at hx; subst hx; rw [World.cell?_alloc_at _ _ _ _ rfl]; rfl
  rintro e w1 ⟨bm, bw, rfl, hM, hb1, hb2, hbl⟩
  have hbm : w.heap.size ≤ bm := by simp at hb1; omega
  have hbw : w.heap.size ≤ bw := by simp at hb2; omega
  have hB1 : Below w.heap.size w w1 := ((Below.refl _ _).alloc (Nat.le_refl _) _).trans (hbl.mono (by simp))
  clear hb1 hb2 hbl
  have HM := Lib.hid hM
  clear hM
  go_wp2_with fail
  refine (swap_hit bm bw 1 7 9 [5, 7] _ _ HM.out rfl (by simp) (by simp)).mono ?_
  rintro e w2 ⟨rfl, hM2, hB2⟩
  have HM2 := Lib.hid hM2
  have hB12 := hB1.trans (hB2.below hbm hbw hB1.size)
  clear hM2 hB1 hB2
  go_wp2_with fail
  refine (add_ok bm bw 0 5 3 [5, 9] _ _ HM2.out rfl (by simp) (by simp)).mono ?_
  rintro e w3 ⟨rfl, hM3, hB3⟩
  have HM3 := Lib.hid hM3
  have hB13 := hB12.trans (hB3.below hbm hbw hB12.size)
  clear hM3 hB12 hB3
  go_wp2_with fail
  refine (read_ok bm bw 0 8 [8, 9] _ _ HM3.out rfl (by simp) (by simp)).mono ?_
  rintro e w4 ⟨rfl, hM4, hB4⟩
  have HM4 := Lib.hid hM4
  have hB14 := hB13.trans (hB4.below hbm hbw hB13.size)
  clear hM4 hB13 hB4
  go_wp2_with fail
  refine (read_ok bm bw 1 9 [8, 9] _ _ HM4.out rfl (by simp) (by simp)).mono ?_
  rintro e w5 ⟨rfl, hM5, hB5⟩
  have HM5 := Lib.hid hM5
  have hB15 := hB14.trans (hB5.below hbm hbw hB14.size)
  clear hM5 hB14 hB5
  go_wp2_with fail
  refine (len_ok bm bw [8, 9] _ _ HM5.out).mono ?_
  rintro e w6 ⟨rfl, rfl⟩
  go_wp2_with fail
  refine (counts_ok bm bw [8, 9] _ _ HM5.out).mono ?_
  rintro e w6 ⟨rfl, hB6⟩
  go_wp2_with fail
  go_ret
  exact ⟨rfl, hB15.trans (hB6.mono hB15.size)⟩
end Go.Proofs.Ytehcfflofacapab
