/- Walks of the laws RegionLays and RegionFinds. -/
import Derived.Test.YtlagfdbemmhahaaR3
namespace Go.Proofs.Ytlagfdbemmhahaa
open Go.RowKit

theorem icells3 (w : World) (B : Nat) (hB : B = w.heap.size) : ICells (w.alloc (.cells #[.int .i64 2, .int .i64 0, .int .i64 3] 3)) B 0 [2, 0, 3] := by
  subst hB
  intro i x hx
  match i, hx with
  | 0, hx => simp at hx; subst hx; refine ⟨?_, by omega⟩; rw [World.cell?_alloc_at _ _ _ _ rfl]; rfl
  | 1, hx => simp at hx; subst hx; refine ⟨?_, by omega⟩; rw [World.cell?_alloc_at _ _ _ _ rfl]; rfl
  | 2, hx => simp at hx; subst hx; refine ⟨?_, by omega⟩; rw [World.cell?_alloc_at _ _ _ _ rfl]; rfl

set_option maxHeartbeats 400000 in
theorem three_any (w : World) : Calls Try.prog 8 #[] w fun e w' => e = .returned (.bool true) ∧ Below w.heap.size w w' := by
  have hg : Hid (wrongGo [2, 0, 3] 0 = 0) := Lib.hid (by decide +kernel)
  have he : Hid (beg [2, 0, 3] 3 = 5) := Lib.hid (by decide +kernel)
  have h1 : Hid (beg [2, 0, 3] 1 = 2) := Lib.hid (by decide +kernel)
  have h2 : Hid (beg [2, 0, 3] 2 = 2) := Lib.hid (by decide +kernel)
  go_enter Try.func8, Try.ntmps8
  go_wp2_with fail
  refine (lay_any (some ⟨w.heap.size, 0, none⟩) w.heap.size 0 3 [2, 0, 3] _ (by simp) (fun _ => rfl) (fun _ => by simp) (icells3 _ _ rfl)).mono ?_
  rintro e w1 ⟨v, hy, _, hb1⟩
  obtain ⟨rfl, hown⟩ := hy hg.out
  have hb1' : Below w.heap.size w w1 := ((Below.refl _ _).alloc (Nat.le_refl _) _).trans (hb1.mono (by simp))
  obtain ⟨ao, g, cap, rfl, hA, hG, hC⟩ := bgs_cells hown
  obtain rfl := hA (by simp)
  have c1 := hC 1 (by simp)
  have c2 := hC 2 (by simp)
  rw [h1.out] at c1
  rw [h2.out] at c2
  have hgl := hG (by simp)
  have hle : Hid (beg [2, 0, 3] ([2, 0, 3] : List Int).length = 5) := he
  rw [hle.out]
  clear hy hb1 hown hC hA hG
  go_wp2_with fail
  refine (find_some 4 (some ⟨w1.heap.size, 0, none⟩) w1.heap.size 0 3 [2, 0, 3] 2 3 _ (by omega) (by simp) (fun _ => rfl) (fun _ => by simp) (icells3 _ _ rfl) hg.out rfl (by rw [h2.out]; omega) (by rw [h2.out]; omega)).mono ?_
  rw [h2.out]
  rintro e w2 ⟨rfl, hb2⟩
  have d1 : w2.cell? ⟨g, 1, none⟩ = some (.int .i64 2) := by
    rw [hb2.cell (p := ⟨g, 1, none⟩) (by simp; omega), World.cell?_alloc_past _ _ _ hgl]; exact c1
  have d2 : w2.cell? ⟨g, 2, none⟩ = some (.int .i64 2) := by
    rw [hb2.cell (p := ⟨g, 2, none⟩) (by simp; omega), World.cell?_alloc_past _ _ _ hgl]; exact c2
  have hb2' : Below w.heap.size w w2 := (hb1'.alloc hb1'.size _).trans (hb2.mono (by have := hb1'.size; simp; omega))
  clear hb2 c1 c2
  go_wp2_with fail
  go_ret
  exact ⟨rfl, hb2'⟩

set_option maxHeartbeats 400000 in
theorem lays_walk (ao : Option Addr) (b o c : Nat) (l : List Int) (w : World) (hl : l.length ≤ 9223372036854775807) (hb : 0 < l.length → b < w.heap.size) (ha : 0 < l.length → ao = some ⟨b, o, none⟩) (hc : ICells w b o l) :
    Calls Try.prog 3 #[.slice ao l.length c] w fun e w' => e = .returned (.bool true) ∧ Below w.heap.size w w' := by
  have HC := Lib.hid hc
  have HA := Lib.hid ha
  have HB := Lib.hid hb
  clear hc ha hb
  by_cases hlong : 1000 < l.length
  · go_enter Try.func3, Try.ntmps3
    go_wp2_with fail
    refine (three_any _).mono ?_
    rintro e w' ⟨rfl, hb⟩
    go_wp2_with fail
    go_ret
    exact ⟨rfl, hb⟩
  · have HL := Lib.hid (lay_any ao b o c l w (by omega) HA.out HB.out HC.out)
    by_cases hg : wrongGo l 0 = 0
    · have HG := Lib.hid hg
      clear hg
      go_enter Try.func3, Try.ntmps3
      go_wp2_with fail
      refine HL.out.mono ?_
      rintro e w1 ⟨v, hy, _, hb1⟩
      obtain ⟨rfl, hown⟩ := hy HG.out
      obtain ⟨ao1, g, cap, rfl, hA1, hG1, hC1⟩ := bgs_cells hown
      have HA1 := Lib.hid hA1
      have HC1 := Lib.hid hC1
      have HC2 := Lib.hid (HC.out.stays hb1 HB.out)
      clear hy hown hA1 hG1 hC1
      have HW := Lib.hid (wrong_any ao b o c l w1 hl HA.out HC2.out)
      rw [HG.out] at HW
      go_wp2_with fail
      refine HW.out.mono ?_
      rintro e w2 ⟨rfl, rfl⟩
      go_wp2_with fail
      refine (begin_any ao b o c l l.length _ (Nat.le_refl _) hl HA.out HC2.out HG.out).mono ?_
      rintro e w2 ⟨rfl, rfl⟩
      go_wp2_with fail
      go_loopw [56] (fun k wr => ∃ j m : Nat, j ≤ l.length ∧ k = .int .i64 j ∧ wr = w1.drewN m) (fun k _ => l.length - (intOf k).toNat)
      case atStart => exact ⟨0, 0, Nat.zero_le _, rfl, rfl⟩
      case round =>
        obtain ⟨j, m, hj, rfl, rfl⟩ := hrel
        by_cases hlt : j < l.length
        · obtain rfl := HA1.out (by omega)
          have c1 := HC1.out j hlt
          go_wp2_with fail
          go_quiet ((go_at_call 11; exact call_keeps ⟨_, rfl⟩ (begin_any _ b o c l j _ (by omega) hl HA.out HC2.out HG.out)))
          go_wp2
          go_roundw
          case rel => exact ⟨j + 1, _, by omega, by go_num, rfl⟩
          case measure => simp [intOf]; omega
        · go_wp2_with fail
          refine (three_any _).mono ?_
          rintro e w' ⟨rfl, hb⟩
          go_wp2_with fail
          go_ret
          exact ⟨rfl, hb1.trans (((below_drewN (Below.refl _ _) m).trans hb).mono hb1.size)⟩
    · obtain ⟨r, hr⟩ : ∃ r, r = wrongGo l 0 := ⟨_, rfl⟩
      have HR := Lib.hid hr
      have hz : ¬ (r : Int) = 0 := by omega
      have HW := Lib.hid (fun W h => wrong_any ao b o c l W hl HA.out h)
      rw [← hr] at HW
      have HG := Lib.hid hg
      clear hr hg
      go_enter Try.func3, Try.ntmps3
      go_wp2_with fail
      refine HL.out.mono ?_
      rintro e w1 ⟨v, _, hy, hb1⟩
      rw [← HR.out] at hy
      obtain rfl := hy (by omega)
      clear hy
      go_wp2_with fail
      refine (HW.out _ (HC.out.stays hb1 HB.out)).mono ?_
      rintro e w2 ⟨rfl, rfl⟩
      go_wp2_with fail
      refine (three_any _).mono ?_
      rintro e w' ⟨rfl, hb⟩
      go_wp2_with fail
      go_ret
      exact ⟨rfl, hb1.trans (hb.mono hb1.size)⟩
end Go.Proofs.Ytlagfdbemmhahaa
