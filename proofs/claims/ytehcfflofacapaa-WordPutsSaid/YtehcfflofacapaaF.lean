/- Walk of the law's known fields. -/
import Derived.Test.YtehcfflofacapaaE
namespace Go.Proofs.Ytehcfflofacapaa
open Go.RowKit

set_option maxHeartbeats 400000 in
theorem packed_any (w : World) :
    Calls Try.prog 11 #[] w fun e w' => e = .returned (.bool true) ∧ Below w.heap.size w w' := by
  have hpg : Hid (packGo [(4, 5), (8, 1)] 0 0 = (0, 21)) := Lib.hid (by decide +kernel)
  have hfs : Hid (fields 21 [4, 8] 0 = [5, 1]) := Lib.hid (by decide +kernel)
  have hsz : Hid (sizesGo [4, 8] 0 = true) := Lib.hid (by decide +kernel)
  go_enter Try.func11, Try.ntmps11
  go_wp2_with fail
  refine (pack_any (some ⟨w.heap.size, 0, none⟩) w.heap.size 0 2 [(4, 5), (8, 1)] _ (by simp) (fun _ => by simp) (fun _ => rfl) ?_).mono ?_
  · intro i x hx
    match i, hx with
    | 0, hx =>
      simp at hx; subst hx
      refine ⟨?_, ?_, by omega, by omega⟩
      · rw [World.cell?_alloc_at _ _ _ _ rfl]; rfl
      · rw [World.cell?_alloc_at _ _ _ _ rfl]; rfl
    | 1, hx =>
      simp at hx; subst hx
      refine ⟨?_, ?_, by omega, by omega⟩
      · rw [World.cell?_alloc_at _ _ _ _ rfl]; rfl
      · rw [World.cell?_alloc_at _ _ _ _ rfl]; rfl
  rw [hpg.out]
  rintro e w1 ⟨rfl, hb1⟩
  have hb1' : Below w.heap.size w w1 := ((Below.refl _ _).alloc (Nat.le_refl _) _).trans (hb1.mono (by simp))
  clear hb1
  go_wp2_with fail
  refine (unpack_any 21 (some ⟨w1.heap.size, 0, none⟩) w1.heap.size 0 2 [4, 8] _ (by omega) (by simp) (fun _ => by simp) (fun _ => rfl) ?_).mono ?_
  · intro i x hx
    match i, hx with
    | 0, hx =>
      simp at hx; subst hx
      refine ⟨?_, by omega⟩
      rw [World.cell?_alloc_at _ _ _ _ rfl]; rfl
    | 1, hx =>
      simp at hx; subst hx
      refine ⟨?_, by omega⟩
      rw [World.cell?_alloc_at _ _ _ _ rfl]; rfl
  rintro e w2 ⟨v, hy, _, hb2⟩
  obtain ⟨rfl, hown⟩ := hy hsz.out
  rw [hfs.out] at hown
  have hb2' : Below w.heap.size w w2 := (hb1'.alloc hb1'.size _).trans (hb2.mono (by have := hb1'.size; simp; omega))
  clear hb1' hb2 hy
  obtain ⟨ao, g, cap, rfl, ha, _, hg, hcl⟩ := owns_open hown
  obtain rfl := ha (by decide)
  have k0 := hcl 0 (.int .u64 5) rfl
  have k1 := hcl 1 (.int .u64 1) rfl
  clear hcl hown ha hg
  go_wp2_with fail
  refine (wput_no 0 60 5 1 _ (by omega) (by omega) (by omega)).mono ?_
  rintro e w3 ⟨rfl, rfl⟩
  go_wp2_with fail
  go_ret
  exact ⟨rfl, hb2'⟩
end Go.Proofs.Ytehcfflofacapaa
