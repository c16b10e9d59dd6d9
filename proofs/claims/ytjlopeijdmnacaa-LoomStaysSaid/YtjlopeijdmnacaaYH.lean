/- Walk of the law LoomStays: where it is not played. -/
import Derived.Test.YtjlopeijdmnacaaYG
namespace Go.Proofs.Ytjlopeijdmnacaa
open Go.RowKit

def AnyRep (E : Nat) (W : World) (e : Ending) (w' : World) : Prop :=
  ∃ a1 n1 c1 a2 n2 c2, ∃ i0 i1 i2 i3 i4 i5 i6 : Int, e = .returned (.tuple #[.agg #[.slice a1 n1 c1, .slice a2 n2 c2, .int .i64 i0, .int .i64 i1, .int .i64 i2, .int .i64 i3, .int .i64 i4, .int .i64 i5, .int .i64 i6], .int .i64 (E : Nat)]) ∧ Below W.heap.size W w'

set_option maxRecDepth 100000 in
set_option maxHeartbeats 4000000 in
theorem stays_bad (q0 q1 : Int) (k : Nat) (ao : Option Addr) (b o cap : Nat) (cs : List CallV) (b3 o3 cap3 : Nat) (s3 : Option Nat) (ps : List Int) (w : World) (hl : ¬ longB cs.length ps.length) (hk : k ≤ ps.length) (hpm : ps.length ≤ 9223372036854775807)
    (ha : 0 < cs.length → ao = some ⟨b, o, none⟩) (hb : 0 < cs.length → b < w.heap.size) (hc : CallsAt w b o cs) (hcap : ao = none → cap = 0)
    (ha3 : 0 < ps.length → s3 = none) (hb3 : 0 < ps.length → b3 < w.heap.size) (hc3 : ICells w b3 o3 ps) (hcap3 : ps.length ≤ cap3) (hf0 : cellsErr q0 q1 cs ps.length ≠ 0) :
    Calls Try.prog 7 #[.agg #[.int .i64 q0, .int .i64 q1, .int .i64 (k : Int)], .slice ao cs.length cap, .slice (some ⟨b3, o3, s3⟩) ps.length cap3] w fun e w' => e = .returned (.bool true) ∧ Below w.heap.size w w' := by
  have HA := Lib.hid ha
  have HB := Lib.hid hb
  have HC := Lib.hid hc
  have HB3 := Lib.hid hb3
  have HA3 := Lib.hid ha3
  have HC3 := Lib.hid hc3
  have HCP := Lib.hid hcap
  have HL := Lib.hid hl
  have HF0 := Lib.hid hf0
  clear ha hb hc ha3 hb3 hc3 hcap hl hf0
  go_enter Try.func7, Try.ntmps7
  go_wp2_with fail
  refine (many_no _ _ _ _ _ _ _ (by omega) HL.out).mono ?_
  rintro e w1 ⟨rfl, rfl⟩
  generalize hw1 : w.alloc (.cells #[.int .i64 q0, .int .i64 q1, .int .i64 (k : Int)] 59) = w1
  have HB1 : Hid (Below w.heap.size w w1) := Lib.hid (by rw [← hw1]; exact (Below.refl _ _).alloc (Nat.le_refl _) _)
  have z1 : w1.heap.size = w.heap.size + 1 := by rw [← hw1]; simp
  have k0 : w1.cell? ⟨w.heap.size, 0, none⟩ = some (.int .i64 q0) := by rw [← hw1, World.cell?_alloc_at _ _ _ _ rfl]; rfl
  have k1 : w1.cell? ⟨w.heap.size, 1, none⟩ = some (.int .i64 q1) := by rw [← hw1, World.cell?_alloc_at _ _ _ _ rfl]; rfl
  have k2 : w1.cell? ⟨w.heap.size, 2, none⟩ = some (.int .i64 (k : Int)) := by rw [← hw1, World.cell?_alloc_at _ _ _ _ rfl]; rfl
  have zw1 : w.heap.size < w1.heap.size := by omega
  have n1 : w1.heap.size ≠ w.heap.size := by omega
  have n2 : w.heap.size ≠ w1.heap.size := by omega
  clear hw1 z1
  have hlt : (ps.take k).length = k := by rw [List.length_take]; omega
  have HT : Hid (ICells w b3 o3 (ps.take k)) := Lib.hid (fun i x hx => HC3.out i x (by rw [List.getElem?_take] at hx; split at hx <;> simp_all))
  have HCG : Hid (∀ W, Below w1.heap.size w1 W → Calls Try.prog 20 #[.int .i64 q0, .int .i64 q1, .slice ao cs.length cap, .slice (some ⟨b3, o3, s3⟩) k cap3] W (AnyRep (cellsErr q0 q1 cs k) W)) := Lib.hid (fun W hW => by
    have hBW : Below w.heap.size w W := HB1.out.trans (hW.mono (by omega))
    have hWs := hW.size
    have := cells_any q0 q1 ao b o cap cs (some ⟨b3, o3, s3⟩) b3 o3 cap3 (ps.take k) W HA.out (fun h => by have := HB.out h; omega) (HC.out.stays hBW HB.out) HCP.out (fun h => by rw [HA3.out (by first | exact h | (rw [hlt] at h; omega))]) (fun h => by have := HB3.out (by omega); omega) (HT.out.stays hBW (fun h => HB3.out (by omega))) (by omega)
    rw [hlt] at this
    refine this.mono ?_
    rintro e w' ⟨a1, n1, c1, a2, n2, c2, i0, i1, i2, i3, i4, i5, i6, v, rfl, rfl, _, _, hb'⟩
    rw [hlt]
    exact ⟨a1, n1, c1, a2, n2, c2, i0, i1, i2, i3, i4, i5, i6, rfl, hb'⟩)
  have HCF : Hid (∀ W, Below w1.heap.size w1 W → Calls Try.prog 20 #[.int .i64 q0, .int .i64 q1, .slice ao cs.length cap, .slice (some ⟨b3, o3, s3⟩) ps.length cap3] W fun e w' => e = .returned (.tuple #[zeroRep, .int .i64 (cellsErr q0 q1 cs ps.length : Nat)]) ∧ Below W.heap.size W w') := Lib.hid (fun W hW => by
    have hBW : Below w.heap.size w W := HB1.out.trans (hW.mono (by omega))
    have hWs := hW.size
    exact cells_bad q0 q1 ao b o cap cs (some ⟨b3, o3, s3⟩) b3 o3 cap3 ps W HA.out (fun h => by have := HB.out h; omega) (HC.out.stays hBW HB.out) HCP.out (fun h => by rw [HA3.out (by first | exact h | (rw [hlt] at h; omega))]) (fun h => by have := HB3.out h; omega) (HC3.out.stays hBW HB3.out) hpm HF0.out)
  have i0 : (0 : Int) ≤ (k : Int) := Int.natCast_nonneg _
  have i1 : (k : Int) ≤ (cap3 : Int) := by omega
  have i2 : k ≤ cap3 := by omega
  have KA : Hid (∀ ob : Obj, (w1.alloc ob).drew.cell? ⟨w.heap.size, 0, none⟩ = some (.int .i64 q0) ∧ (w1.alloc ob).drew.cell? ⟨w.heap.size, 1, none⟩ = some (.int .i64 q1) ∧ (w1.alloc ob).drew.cell? ⟨w.heap.size, 2, none⟩ = some (.int .i64 (k : Int))) := Lib.hid (fun ob =>
    ⟨(World.cell?_alloc_past _ _ _ zw1).trans k0, (World.cell?_alloc_past _ _ _ zw1).trans k1, (World.cell?_alloc_past _ _ _ zw1).trans k2⟩)
  generalize hE : cellsErr q0 q1 cs k = E at HCG
  clear hE HT
  go_upto_region 3 with fail
  go_cut [7, 8] from 12 to 40 (fun v7 v8 wx => ∃ rb : Nat, v7 = .pointer (some ⟨rb, 0, none⟩) ∧ v8 = .int .i64 (E : Nat) ∧ Hid (Below w1.heap.size w1 wx))
  case first =>
    go_region_held3 (fun w' => w'.cell? ⟨w.heap.size, 0, none⟩ = some (.int .i64 q0) ∧ w'.cell? ⟨w.heap.size, 1, none⟩ = some (.int .i64 q1) ∧ w'.cell? ⟨w.heap.size, 2, none⟩ = some (.int .i64 (k : Int)))
      (first | (simp only [cell_far n2]; with_reducible exact ⟨s0, s1, s2⟩) | with_reducible exact ⟨s0, s1, s2⟩ | with_reducible exact ⟨k0, k1, k2⟩ | with_reducible exact KA.out _ | with_reducible exact ⟨(World.cell?_alloc_past _ _ _ zw).trans s0, (World.cell?_alloc_past _ _ _ zw).trans s1, (World.cell?_alloc_past _ _ _ zw).trans s2⟩ | with_reducible exact ⟨(World.cell?_alloc_past _ _ _ zw1).trans k0, (World.cell?_alloc_past _ _ _ zw1).trans k1, (World.cell?_alloc_past _ _ _ zw1).trans k2⟩ | exact ⟨k0, k1, k2⟩)
      (first
        | (go_at_call 20
           refine (HCG.out _ (by first | exact below_drew (Below.refl _ _) | exact below_drew ((Below.refl _ _).alloc (Nat.le_refl _) _))).mono ?_
           rintro e w3 ⟨a1, n1, c1, a2, n2', c2, j0, j1, j2, j3, j4, j5, j6, rfl, hb3⟩
           have HBW : Hid (Below w1.heap.size w1 w3) := Lib.hid (by first | exact (below_drew (Below.refl _ _)).trans hb3 | exact (below_drew ((Below.refl _ _).alloc (Nat.le_refl _) _)).trans (hb3.mono (by simp)))
           have s0 := (HBW.out.cell (p := ⟨w.heap.size, 0, none⟩) (by show w.heap.size < _; omega)).trans k0
           have s1 := (HBW.out.cell (p := ⟨w.heap.size, 1, none⟩) (by show w.heap.size < _; omega)).trans k1
           have s2 := (HBW.out.cell (p := ⟨w.heap.size, 2, none⟩) (by show w.heap.size < _; omega)).trans k2
           have zw : w.heap.size < w3.heap.size := by have := HBW.out.size; omega
           have zw13 := HBW.out.size
           first
             | (have hz : RowBlk 53 w3 w1.heap.size zeroVs := ((RowBlk.new w1 zeroVs 53).drew).same (hb3.block _ (by show w1.heap.size < (w1.alloc _).heap.size; simp))
                have r0 := hz.cell (i := 0) rfl
                have r1 := hz.cell (i := 1) rfl
                have r2 := hz.cell (i := 2) rfl
                have r3 := hz.cell (i := 3) rfl
                have r4 := hz.cell (i := 4) rfl
                have r5 := hz.cell (i := 5) rfl
                have r6 := hz.cell (i := 6) rfl
                have r7 := hz.cell (i := 7) rfl
                have r8 := hz.cell (i := 8) rfl
                have fr : ∀ k, w3.frozen? ⟨w1.heap.size, k, none⟩ = false := fun k => hz.free
                have zw3 := hz.lt
                have HZ := Lib.hid hz
                clear hz)
             | (have HN := zw13)
           clear hb3))
    all_goals (go_wp2_with fail; go_meet)
    all_goals first
      | (have hz' := HZ.out
         exact ⟨w1.heap.size, rfl, rfl, Lib.hid (((((((((HBW.out.setCell (Nat.le_refl _) _).setCell (Nat.le_refl _) _).setCell (Nat.le_refl _) _).setCell (Nat.le_refl _) _).setCell (Nat.le_refl _) _).setCell (Nat.le_refl _) _).setCell (Nat.le_refl _) _).setCell (Nat.le_refl _) _).setCell (Nat.le_refl _) _)⟩)
      | exact ⟨w3.heap.size, rfl, rfl, Lib.hid (HBW.out.alloc zw13 _)⟩
  case rest =>
    obtain ⟨rb, rfl, rfl, HBc⟩ := hcut
    have kc0 := (HBc.out.cell (p := ⟨w.heap.size, 0, none⟩) zw1).trans k0
    have kc1 := (HBc.out.cell (p := ⟨w.heap.size, 1, none⟩) zw1).trans k1
    have hGn : ((cellsErr q0 q1 cs ps.length : Nat) : Int) ≠ 0 := by have := HF0.out; omega
    clear k0 k1 k2 KA HCG
    go_wp2_with fail
    refine (HCF.out wc HBc.out).mono ?_
    rintro e w4 ⟨rfl, hb4⟩
    have HB4 : Hid (Below w1.heap.size w1 w4) := Lib.hid (HBc.out.trans (hb4.mono HBc.out.size))
    have z14 := HB4.out.size
    have HNZ : Hid (∀ W, Calls Try.prog 21 #[zeroRep] W fun e w' => e = .returned (.bool true) ∧ Below W.heap.size W w') := Lib.hid none_zero
    unfold zeroRep zeroVs at *
    clear hb4 HCF
    generalize cellsErr q0 q1 cs ps.length = G at hGn ⊢
    by_cases hE0 : E = 0
    · subst hE0
      go_wp2_with fail
      refine (HNZ.out _).mono ?_
      rintro e w5 ⟨rfl, hb5⟩
      go_wp2_with fail
      refine (adds_any _).mono ?_
      rintro e w6 ⟨rfl, hb6⟩
      go_wp2_with fail
      go_ret
      exact ⟨rfl, HB1.out.trans ((HB4.out.trans (((Below.refl _ _).alloc (Nat.le_refl _) _).mono z14)).trans ((hb5.mono (by simp; omega)).trans (hb6.mono (by have := hb5.size; simp at this; omega))) |>.mono (by omega))⟩
    · have hE1 : (E : Int) ≠ 0 := by omega
      go_wp2_with fail
      refine (HNZ.out _).mono ?_
      rintro e w5 ⟨rfl, hb5⟩
      go_wp2_with fail
      refine (adds_any _).mono ?_
      rintro e w6 ⟨rfl, hb6⟩
      go_wp2_with fail
      go_ret
      exact ⟨rfl, HB1.out.trans ((HB4.out.trans (((Below.refl _ _).alloc (Nat.le_refl _) _).mono z14)).trans ((hb5.mono (by simp; omega)).trans (hb6.mono (by have := hb5.size; simp at this; omega))) |>.mono (by omega))⟩
end Go.Proofs.Ytjlopeijdmnacaa
