/- Walk of the law LoomStays. -/
import Derived.Test.YtjlopeijdmnacaaYF
import Derived.Deep.RegionHeld3
import Derived.Deep.CutRange
namespace Go.Proofs.Ytjlopeijdmnacaa
open Go.RowKit

theorem put9 {t : TypeId} {w : World} {b : Nat} (h : RowBlk t w b zeroVs) (a0 a1 a2 a3 a4 a5 a6 a7 a8 : Value) :
    RowBlk t (((((((((w.setCell ⟨b, 0, none⟩ a0).setCell ⟨b, 1, none⟩ a1).setCell ⟨b, 2, none⟩ a2).setCell ⟨b, 3, none⟩ a3).setCell ⟨b, 4, none⟩ a4).setCell ⟨b, 5, none⟩ a5).setCell ⟨b, 6, none⟩ a6).setCell ⟨b, 7, none⟩ a7).setCell ⟨b, 8, none⟩ a8) b [a0, a1, a2, a3, a4, a5, a6, a7, a8] :=
  (((((((((h.put 0 _).put 1 _).put 2 _).put 3 _).put 4 _).put 5 _).put 6 _).put 7 _).put 8 _)
def longB (cl pl : Nat) : Prop := (60 < cl ∧ cl ≤ 1000) ∨ (600 < pl ∧ pl ≤ 65536) ∨ 1100 < cl

set_option maxRecDepth 100000 in
theorem stays_long (q0 q1 q2 : Int) (a1 a2 : Option Addr) (l1 c1 l2 c2 : Nat) (w : World) (hp : l2 ≤ 9223372036854775807) (h : longB l1 l2) :
    Calls Try.prog 7 #[.agg #[.int .i64 q0, .int .i64 q1, .int .i64 q2], .slice a1 l1 c1, .slice a2 l2 c2] w fun e w' => e = .returned (.bool true) ∧ Below w.heap.size w w' := by
  go_enter Try.func7, Try.ntmps7
  go_wp2_with fail
  refine (many_yes _ _ _ _ _ _ _ hp h).mono ?_
  rintro e w1 ⟨rfl, rfl⟩
  go_wp2_with fail
  refine (adds_any _).mono ?_
  rintro e w1 ⟨rfl, hb⟩
  go_wp2_with fail
  go_ret
  exact ⟨rfl, ((Below.refl _ _).alloc (Nat.le_refl _) _).trans (hb.mono (by simp))⟩

set_option maxRecDepth 100000 in
theorem stays_off (q0 q1 q2 : Int) (a1 a2 : Option Addr) (l1 c1 l2 c2 : Nat) (w : World) (hp : l2 ≤ 9223372036854775807) (h : ¬ longB l1 l2) (hq : q2 < 0 ∨ (l2 : Int) < q2) :
    Calls Try.prog 7 #[.agg #[.int .i64 q0, .int .i64 q1, .int .i64 q2], .slice a1 l1 c1, .slice a2 l2 c2] w fun e w' => e = .returned (.bool true) ∧ Below w.heap.size w w' := by
  go_enter Try.func7, Try.ntmps7
  go_wp2_with fail
  refine (many_no _ _ _ _ _ _ _ hp h).mono ?_
  rintro e w1 ⟨rfl, rfl⟩
  by_cases h1 : q2 < 0
  · go_wp2_with fail
    refine (adds_any _).mono ?_
    rintro e w1 ⟨rfl, hb⟩
    go_wp2_with fail
    go_ret
    exact ⟨rfl, ((Below.refl _ _).alloc (Nat.le_refl _) _).trans (hb.mono (by simp))⟩
  · have h2 : (l2 : Int) < q2 := by omega
    go_wp2_with fail
    refine (adds_any _).mono ?_
    rintro e w1 ⟨rfl, hb⟩
    go_wp2_with fail
    go_ret
    exact ⟨rfl, ((Below.refl _ _).alloc (Nat.le_refl _) _).trans (hb.mono (by simp))⟩

set_option maxRecDepth 100000 in
set_option maxHeartbeats 4000000 in
theorem stays_good (q0 q1 : Int) (k : Nat) (ao : Option Addr) (b o cap : Nat) (cs : List CallV) (b3 o3 cap3 : Nat) (s3 : Option Nat) (ps : List Int) (w : World) (hl : ¬ longB cs.length ps.length) (hk : k ≤ ps.length) (hpm : ps.length ≤ 9223372036854775807)
    (ha : 0 < cs.length → ao = some ⟨b, o, none⟩) (hb : 0 < cs.length → b < w.heap.size) (hc : CallsAt w b o cs) (hcap : ao = none → cap = 0)
    (ha3 : 0 < ps.length → s3 = none) (hb3 : 0 < ps.length → b3 < w.heap.size) (hc3 : ICells w b3 o3 ps) (hcap3 : ps.length ≤ cap3) (hf0 : cellsErr q0 q1 cs ps.length = 0) :
    Calls Try.prog 7 #[.agg #[.int .i64 q0, .int .i64 q1, .int .i64 (k : Int)], .slice ao cs.length cap, .slice (some ⟨b3, o3, s3⟩) ps.length cap3] w fun e w' => e = .returned (.bool true) ∧ Below w.heap.size w w' := by
  have HA := Lib.hid ha
  have HB := Lib.hid hb
  have HC := Lib.hid hc
  have HB3 := Lib.hid hb3
  have HA3 := Lib.hid ha3
  have HC3 := Lib.hid hc3
  have HCP := Lib.hid hcap
  have HL := Lib.hid hl
  have HF0 := Lib.hid hf0
  clear ha hb hc ha3 hb3 hc3 hcap hl hf0
  go_enter Try.func7, Try.ntmps7
  go_wp2_with fail
  refine (many_no _ _ _ _ _ _ _ (by omega) HL.out).mono ?_
  rintro e w1 ⟨rfl, rfl⟩
  generalize hw1 : w.alloc (.cells #[.int .i64 q0, .int .i64 q1, .int .i64 (k : Int)] 59) = w1
  have HB1 : Hid (Below w.heap.size w w1) := Lib.hid (by rw [← hw1]; exact (Below.refl _ _).alloc (Nat.le_refl _) _)
  have z1 : w1.heap.size = w.heap.size + 1 := by rw [← hw1]; simp
  have k0 : w1.cell? ⟨w.heap.size, 0, none⟩ = some (.int .i64 q0) := by rw [← hw1, World.cell?_alloc_at _ _ _ _ rfl]; rfl
  have k1 : w1.cell? ⟨w.heap.size, 1, none⟩ = some (.int .i64 q1) := by rw [← hw1, World.cell?_alloc_at _ _ _ _ rfl]; rfl
  have k2 : w1.cell? ⟨w.heap.size, 2, none⟩ = some (.int .i64 (k : Int)) := by rw [← hw1, World.cell?_alloc_at _ _ _ _ rfl]; rfl
  have zw1 : w.heap.size < w1.heap.size := by omega
  have n1 : w1.heap.size ≠ w.heap.size := by omega
  have n2 : w.heap.size ≠ w1.heap.size := by omega
  clear hw1 z1
  by_cases hf : cellsErr q0 q1 cs ps.length = 0
  · have HF := Lib.hid hf
    have HE := Lib.hid (err_take q0 q1 cs hk hf)
    clear hf
    have hlt : (ps.take k).length = k := by rw [List.length_take]; omega
    have HT : Hid (ICells w b3 o3 (ps.take k)) := Lib.hid (fun i x hx => HC3.out i x (by rw [List.getElem?_take] at hx; split at hx <;> simp_all))
    have HCG : Hid (∀ W, Below w1.heap.size w1 W → Calls Try.prog 20 #[.int .i64 q0, .int .i64 q1, .slice ao cs.length cap, .slice (some ⟨b3, o3, s3⟩) k cap3] W (GoodPost cs q1.toNat (ps.take k) W)) := Lib.hid (fun W hW => by
      have hBW : Below w.heap.size w W := HB1.out.trans (hW.mono (by omega))
      have hWs := hW.size
      have := cells_good q0 q1 ao b o cap cs (some ⟨b3, o3, s3⟩) b3 o3 cap3 (ps.take k) W HA.out (fun h => by have := HB.out h; omega) (HC.out.stays hBW HB.out) HCP.out (fun h => by rw [HA3.out (by first | exact h | (rw [hlt] at h; omega))]) (fun h => by have := HB3.out (by omega); omega) (HT.out.stays hBW (fun h => HB3.out (by omega))) (by omega) (by rw [hlt]; exact HE.out)
      rw [hlt] at this
      exact this)
    have HCF : Hid (∀ W, Below w1.heap.size w1 W → Calls Try.prog 20 #[.int .i64 q0, .int .i64 q1, .slice ao cs.length cap, .slice (some ⟨b3, o3, s3⟩) ps.length cap3] W (GoodPost cs q1.toNat ps W)) := Lib.hid (fun W hW => by
      have hBW : Below w.heap.size w W := HB1.out.trans (hW.mono (by omega))
      have hWs := hW.size
      exact cells_good q0 q1 ao b o cap cs (some ⟨b3, o3, s3⟩) b3 o3 cap3 ps W HA.out (fun h => by have := HB.out h; omega) (HC.out.stays hBW HB.out) HCP.out (fun h => by rw [HA3.out (by first | exact h | (rw [hlt] at h; omega))]) (fun h => by have := HB3.out h; omega) (HC3.out.stays hBW HB3.out) hpm HF.out)
    have i0 : (0 : Int) ≤ (k : Int) := Int.natCast_nonneg _
    have i1 : (k : Int) ≤ (cap3 : Int) := by omega
    have i2 : k ≤ cap3 := by omega
    have KA : Hid (∀ ob : Obj, (w1.alloc ob).drew.cell? ⟨w.heap.size, 0, none⟩ = some (.int .i64 q0) ∧ (w1.alloc ob).drew.cell? ⟨w.heap.size, 1, none⟩ = some (.int .i64 q1) ∧ (w1.alloc ob).drew.cell? ⟨w.heap.size, 2, none⟩ = some (.int .i64 (k : Int))) := Lib.hid (fun ob =>
      ⟨(World.cell?_alloc_past _ _ _ zw1).trans k0, (World.cell?_alloc_past _ _ _ zw1).trans k1, (World.cell?_alloc_past _ _ _ zw1).trans k2⟩)
    go_upto_region 3 with fail
    go_cut [7, 8] from 12 to 40 (fun v7 v8 wx => ∃ rb aoE gE capE gw, v7 = .pointer (some ⟨rb, 0, none⟩) ∧ v8 = .int .i64 0 ∧ Hid (RowBlk 53 wx rb (repVs (.slice aoE (stEnd cs q1.toNat (ps.take k)).evs.length capE) gw (stEnd cs q1.toNat (ps.take k)))) ∧ Hid (0 < (stEnd cs q1.toNat (ps.take k)).evs.length → aoE = some ⟨gE, 0, none⟩) ∧
      Hid (EvAll w1.heap.size wx gE (stEnd cs q1.toNat (ps.take k)).evs) ∧ Hid (Below w1.heap.size w1 wx))
    case first =>
      go_region_held3 (fun w' => w'.cell? ⟨w.heap.size, 0, none⟩ = some (.int .i64 q0) ∧ w'.cell? ⟨w.heap.size, 1, none⟩ = some (.int .i64 q1) ∧ w'.cell? ⟨w.heap.size, 2, none⟩ = some (.int .i64 (k : Int)))
        (first | (simp only [cell_far n2]; with_reducible exact ⟨s0, s1, s2⟩) | with_reducible exact ⟨s0, s1, s2⟩ | with_reducible exact ⟨k0, k1, k2⟩ | with_reducible exact KA.out _ | with_reducible exact ⟨(World.cell?_alloc_past _ _ _ zw).trans s0, (World.cell?_alloc_past _ _ _ zw).trans s1, (World.cell?_alloc_past _ _ _ zw).trans s2⟩ | with_reducible exact ⟨(World.cell?_alloc_past _ _ _ zw1).trans k0, (World.cell?_alloc_past _ _ _ zw1).trans k1, (World.cell?_alloc_past _ _ _ zw1).trans k2⟩ | exact ⟨k0, k1, k2⟩)
        (first
          | (go_at_call 20
             refine (HCG.out _ (by first | exact below_drew (Below.refl _ _) | exact below_drew ((Below.refl _ _).alloc (Nat.le_refl _) _))).mono ?_
             rintro e w3 ⟨aoE, gE, capE, gw, rfl, hao, hev, hrw, hgw, hb3⟩
             have HBW : Hid (Below w1.heap.size w1 w3) := Lib.hid (by first | exact (below_drew (Below.refl _ _)).trans hb3 | exact (below_drew ((Below.refl _ _).alloc (Nat.le_refl _) _)).trans (hb3.mono (by simp)))
             have s0 := (HBW.out.cell (p := ⟨w.heap.size, 0, none⟩) (by show w.heap.size < _; omega)).trans k0
             have s1 := (HBW.out.cell (p := ⟨w.heap.size, 1, none⟩) (by show w.heap.size < _; omega)).trans k1
             have s2 := (HBW.out.cell (p := ⟨w.heap.size, 2, none⟩) (by show w.heap.size < _; omega)).trans k2
             have HAO := Lib.hid hao
             have zw : w.heap.size < w3.heap.size := by have := HBW.out.size; omega
             have zw13 := HBW.out.size
             unfold repVs
             first
               | (have hz : RowBlk 53 w3 w1.heap.size zeroVs := ((RowBlk.new w1 zeroVs 53).drew).same (hb3.block _ (by show w1.heap.size < (w1.alloc _).heap.size; simp))
                  have hev1 : EvAll (w1.heap.size + 1) w3 gE (stEnd cs q1.toNat (ps.take k)).evs := hev.mono (by show w1.heap.size + 1 ≤ (w1.alloc _).heap.size; simp)
                  have r0 := hz.cell (i := 0) rfl
                  have r1 := hz.cell (i := 1) rfl
                  have r2 := hz.cell (i := 2) rfl
                  have r3 := hz.cell (i := 3) rfl
                  have r4 := hz.cell (i := 4) rfl
                  have r5 := hz.cell (i := 5) rfl
                  have r6 := hz.cell (i := 6) rfl
                  have r7 := hz.cell (i := 7) rfl
                  have r8 := hz.cell (i := 8) rfl
                  have fr : ∀ k, w3.frozen? ⟨w1.heap.size, k, none⟩ = false := fun k => hz.free
                  have zw3 := hz.lt
                  have HZ := Lib.hid hz
                  have HEV := Lib.hid hev1
                  clear hz hev1)
               | (have HEV : Hid (EvAll w1.heap.size w3 gE (stEnd cs q1.toNat (ps.take k)).evs) := Lib.hid hev)
             clear hao hev hrw hgw hb3))
      all_goals (go_wp2_with fail; go_meet)
      all_goals first
        | (have hz' := HZ.out
           have hev' := HEV.out
           exact ⟨w1.heap.size, aoE, gE, capE, gw, rfl, rfl, Lib.hid (put9 hz' _ _ _ _ _ _ _ _ _), HAO,
            Lib.hid ((((((((((hev'.setCell (Nat.lt_succ_self _) _).setCell (Nat.lt_succ_self _) _).setCell (Nat.lt_succ_self _) _).setCell (Nat.lt_succ_self _) _).setCell (Nat.lt_succ_self _) _).setCell (Nat.lt_succ_self _) _).setCell (Nat.lt_succ_self _) _).setCell (Nat.lt_succ_self _) _).setCell (Nat.lt_succ_self _) _).mono (Nat.le_succ _)),
            Lib.hid (((((((((HBW.out.setCell (Nat.le_refl _) _).setCell (Nat.le_refl _) _).setCell (Nat.le_refl _) _).setCell (Nat.le_refl _) _).setCell (Nat.le_refl _) _).setCell (Nat.le_refl _) _).setCell (Nat.le_refl _) _).setCell (Nat.le_refl _) _).setCell (Nat.le_refl _) _)⟩)
        | exact ⟨w3.heap.size, aoE, gE, capE, gw, rfl, rfl, Lib.hid (RowBlk.new _ _ _), HAO, Lib.hid (HEV.out.below ((Below.refl _ _).alloc (Nat.le_refl _) _) (Nat.le_refl _)), Lib.hid (HBW.out.alloc zw13 _)⟩
    case rest =>
      obtain ⟨rb, aoE, gE, capE, gw, rfl, rfl, HR1, HA1, HE1, HBc⟩ := hcut
      have kc0 := (HBc.out.cell (p := ⟨w.heap.size, 0, none⟩) zw1).trans k0
      have kc1 := (HBc.out.cell (p := ⟨w.heap.size, 1, none⟩) zw1).trans k1
      clear k0 k1 k2 KA HCG
      go_wp2_with fail
      refine (HCF.out wc HBc.out).mono ?_
      rintro e w4 ⟨aoF, gF, capF, gv, rfl, hao2, hev2, hrw2, hgw2, hb4⟩
      have hgrow := stEnd_take cs q1.toNat ps k
      have hAl := stEnd_len cs q1.toNat (ps.take k)
      rw [hlt] at hAl
      have hpos := stEnd_pos (cs := cs) (size := q1.toNat) (picks := ps.take k)
      have HR4 := Lib.hid (HR1.out.same (hb4.block _ HR1.out.lt))
      have HE4 := Lib.hid (HE1.out.below hb4 (Nat.le_refl _))
      have HB4 : Hid (Below w1.heap.size w1 w4) := Lib.hid (HBc.out.trans (hb4.mono HBc.out.size))
      have HE2 := Lib.hid (hev2.mono HBc.out.size)
      clear hev2 hb4 hrw2 hgw2 HR1 HE1 HBc kc0 kc1 HCF HT
      generalize stEnd cs q1.toNat (ps.take k) = A at *
      generalize stEnd cs q1.toNat ps = F at *
      obtain ⟨⟨r, hr⟩, hti, hid⟩ := hgrow
      have hle : A.evs.length ≤ F.evs.length := by rw [hr, List.length_append]; omega
      have HAF : Hid (∀ (j : Nat) (x : EvG), A.evs[j]? = some x → F.evs[j]? = some x) := Lib.hid (fun j x hx => by rw [hr, List.getElem?_append_left (List.getElem?_eq_some_iff.1 hx).1]; exact hx)
      have HAO2 := Lib.hid hao2
      have HPOS := Lib.hid hpos
      have d1 : decide (F.evs.length < A.evs.length) = false := decide_eq_false (by omega)
      have d2 : decide (F.ticks < A.ticks) = false := decide_eq_false (by omega)
      have d3 : decide (F.idle < A.idle) = false := decide_eq_false (by omega)
      have g1 : ¬ F.evs.length < A.evs.length := by omega
      have g2 : ¬ F.ticks < A.ticks := by omega
      have g3 : ¬ F.idle < A.idle := by omega
      have b0 := HR4.out.cell (i := 0) rfl
      have b7 := HR4.out.cell (i := 7) rfl
      have b8 := HR4.out.cell (i := 8) rfl
      have lrb := HR4.out.lt
      clear hr hao2 hpos hti hid
      unfold repVs
      go_wp2_with fail
      generalize hw5 : w4.alloc (.cells #[.slice aoF F.evs.length capF, .slice (some ⟨gv, 0, none⟩) F.ws.length F.ws.length, .int .i64 (F.cn.r : Int), .int .i64 (F.cn.w : Int), .int .i64 (F.cn.s : Int), .int .i64 (F.cn.a : Int), .int .i64 (F.cn.f : Int), .int .i64 (F.ticks : Int), .int .i64 (F.idle : Int)] 53) = w5
      have HB5 : Hid (Below w1.heap.size w1 w5) := Lib.hid (by rw [← hw5]; exact HB4.out.alloc HB4.out.size _)
      have HR5 : Hid (RowBlk 53 w5 rb (repVs (.slice aoE A.evs.length capE) gw A)) := Lib.hid (by rw [← hw5]; exact HR4.out.alloc _)
      have HF5 : Hid (RowBlk 53 w5 w4.heap.size (repVs (.slice aoF F.evs.length capF) gv F)) := Lib.hid (by rw [← hw5]; exact RowBlk.new _ _ _)
      have HE5 : Hid (EvAll w1.heap.size w5 gE A.evs) := Lib.hid (by rw [← hw5]; exact HE4.out.below ((Below.refl _ _).alloc (Nat.le_refl _) _) (Nat.le_refl _))
      have HG5 : Hid (EvAll w1.heap.size w5 gF F.evs) := Lib.hid (by rw [← hw5]; exact HE2.out.below ((Below.refl _ _).alloc (Nat.le_refl _) _) (Nat.le_refl _))
      clear hw5 HR4 HE4 HE2 HB4 b0 b7 b8
      generalize w4.heap.size = rf at *
      go_loopw [86] (fun v wr => ∃ j : Nat, j ≤ A.evs.length ∧ v = .int .i64 j ∧ Hid (Below w5.heap.size w5 wr)) (fun v _ => A.evs.length - (intOf v).toNat)
      case atStart => exact ⟨0, Nat.zero_le _, rfl, Lib.hid (Below.refl _ _)⟩
      case round =>
        obtain ⟨j, hj, rfl, hBj⟩ := hrel
        by_cases hlt2 : j < A.evs.length
        · obtain rfl := HA1.out (by omega)
          obtain rfl := HAO2.out (by omega)
          obtain ⟨x, hx⟩ : ∃ x, A.evs[j]? = some x := ⟨A.evs[j], List.getElem?_eq_getElem (by omega)⟩
          have hxt := HPOS.out x (List.mem_of_getElem? hx)
          obtain ⟨_, kbE, ckE, _, vE⟩ := (HE5.out.below hBj.out (Nat.le_refl _)) j x hx
          obtain ⟨_, kbF, ckF, _, vF⟩ := (HG5.out.below hBj.out (Nat.le_refl _)) j x (HAF.out j x hx)
          have HVE := Lib.hid vE
          have HVF := Lib.hid vF
          have HRj := Lib.hid (HR5.out.same (hBj.out.block _ HR5.out.lt))
          have HFj := Lib.hid (HF5.out.same (hBj.out.block _ HF5.out.lt))
          have hi0 : (0 : Int) ≤ (j : Int) := Int.natCast_nonneg _
          have hi1 : (j : Int) < (A.evs.length : Int) := by omega
          have hi2 : (j : Int) < (F.evs.length : Int) := by omega
          have hi3 : j < F.evs.length := by omega
          have ht0 : ¬ x.t = 0 := by omega
          have ht2 : ¬ (x.t : Int) = 0 := by omega
          have ht3 : decide ((x.t : Int) = 0) = false := decide_eq_false ht2
          have ht4 : decide ((x.t : Int) ≠ 0) = true := decide_eq_true ht2
          have ht5 : decide (¬ (x.t : Int) = 0) = true := decide_eq_true ht2
          have ht6 : ((x.t : Int) == 0) = false := beq_false_of_ne ht2
          have ht7 : ((x.t : Int) != 0) = true := bne_iff_ne.2 ht2
          have HCE : Hid (Calls Try.prog 23 #[.agg #[.int .i64 (x.i : Int), .int .i64 (x.t : Int), .int .i64 (x.t : Int), .int .i64 1, .int .i64 (x.e : Int), .int .u64 (x.v : Int), .slice none 0 0, .slice (some ⟨kbE, 0, none⟩) 1 ckE], .agg #[.int .i64 (x.i : Int), .int .i64 (x.t : Int), .int .i64 (x.t : Int), .int .i64 1, .int .i64 (x.e : Int), .int .u64 (x.v : Int), .slice none 0 0, .slice (some ⟨kbF, 0, none⟩) 1 ckF]] wr.drew fun e w' => e = .returned (.bool true) ∧ Below wr.drew.heap.size wr.drew w') := Lib.hid (event_same x kbE ckE kbF ckF wr.drew vE.key vF.key)
          clear hx vE vF
          have sp := HRj.out.cell (i := 0) rfl
          have sq := HFj.out.cell (i := 0) rfl
          have se0 := HVE.out.c0
          have se1 := HVE.out.c1
          have se2 := HVE.out.c2
          have se3 := HVE.out.c3
          have se4 := HVE.out.c4
          have se5 := HVE.out.c5
          have se6 := HVE.out.c6
          have se7 := HVE.out.c7
          have sf0 := HVF.out.c0
          have sf1 := HVF.out.c1
          have sf2 := HVF.out.c2
          have sf3 := HVF.out.c3
          have sf4 := HVF.out.c4
          have sf5 := HVF.out.c5
          have sf6 := HVF.out.c6
          have sf7 := HVF.out.c7
          go_wp2_with fail
          go_region_held3 (fun w' => w'.cell? ⟨rb, 0, none⟩ = some (.slice (some ⟨gE, 0, none⟩) A.evs.length capE) ∧ w'.cell? ⟨rf, 0, none⟩ = some (.slice (some ⟨gF, 0, none⟩) F.evs.length capF) ∧ w'.cell? ⟨gE, j * 8, none⟩ = some (.int .i64 (x.i : Int)) ∧ w'.cell? ⟨gE, j * 8 + 1, none⟩ = some (.int .i64 (x.t : Int)) ∧ w'.cell? ⟨gE, j * 8 + 2, none⟩ = some (.int .i64 (x.t : Int)) ∧ w'.cell? ⟨gE, j * 8 + 3, none⟩ = some (.int .i64 1) ∧ w'.cell? ⟨gE, j * 8 + 4, none⟩ = some (.int .i64 (x.e : Int)) ∧ w'.cell? ⟨gE, j * 8 + 5, none⟩ = some (.int .u64 (x.v : Int)) ∧ w'.cell? ⟨gE, j * 8 + 6, none⟩ = some (.slice none 0 0) ∧ w'.cell? ⟨gE, j * 8 + 7, none⟩ = some (.slice (some ⟨kbE, 0, none⟩) 1 ckE) ∧ w'.cell? ⟨gF, j * 8, none⟩ = some (.int .i64 (x.i : Int)) ∧ w'.cell? ⟨gF, j * 8 + 1, none⟩ = some (.int .i64 (x.t : Int)) ∧ w'.cell? ⟨gF, j * 8 + 2, none⟩ = some (.int .i64 (x.t : Int)) ∧ w'.cell? ⟨gF, j * 8 + 3, none⟩ = some (.int .i64 1) ∧ w'.cell? ⟨gF, j * 8 + 4, none⟩ = some (.int .i64 (x.e : Int)) ∧ w'.cell? ⟨gF, j * 8 + 5, none⟩ = some (.int .u64 (x.v : Int)) ∧ w'.cell? ⟨gF, j * 8 + 6, none⟩ = some (.slice none 0 0) ∧ w'.cell? ⟨gF, j * 8 + 7, none⟩ = some (.slice (some ⟨kbF, 0, none⟩) 1 ckF))
            (first | with_reducible exact ⟨tp, tq, te0, te1, te2, te3, te4, te5, te6, te7, tf0, tf1, tf2, tf3, tf4, tf5, tf6, tf7⟩ | with_reducible exact ⟨sp, sq, se0, se1, se2, se3, se4, se5, se6, se7, sf0, sf1, sf2, sf3, sf4, sf5, sf6, sf7⟩ | exact ⟨sp, sq, se0, se1, se2, se3, se4, se5, se6, se7, sf0, sf1, sf2, sf3, sf4, sf5, sf6, sf7⟩)
            (first
              | (go_at_call 23
                 refine HCE.out.mono ?_
                 rintro e w6 ⟨rfl, hb60⟩
                 have hb6 : Below wr.heap.size wr w6 := (below_drew (Below.refl wr.heap.size wr)).trans hb60
                 have HB6 : Hid (Below w5.heap.size w5 w6) := Lib.hid (hBj.out.trans (hb6.mono hBj.out.size))
                 have HVE6 := Lib.hid (HVE.out.below hb6 (Nat.le_refl _))
                 have HVF6 := Lib.hid (HVF.out.below hb6 (Nat.le_refl _))
                 have HR6 := Lib.hid (HRj.out.same (hb6.block _ HRj.out.lt))
                 have HF6 := Lib.hid (HFj.out.same (hb6.block _ HFj.out.lt))
                 have tp := HR6.out.cell (i := 0) rfl
                 have tq := HF6.out.cell (i := 0) rfl
                 have te0 := HVE6.out.c0
                 have te1 := HVE6.out.c1
                 have te2 := HVE6.out.c2
                 have te3 := HVE6.out.c3
                 have te4 := HVE6.out.c4
                 have te5 := HVE6.out.c5
                 have te6 := HVE6.out.c6
                 have te7 := HVE6.out.c7
                 have tf0 := HVF6.out.c0
                 have tf1 := HVF6.out.c1
                 have tf2 := HVF6.out.c2
                 have tf3 := HVF6.out.c3
                 have tf4 := HVF6.out.c4
                 have tf5 := HVF6.out.c5
                 have tf6 := HVF6.out.c6
                 have tf7 := HVF6.out.c7
                 clear hb6 hb60))
          go_wp2_with fail
          go_roundw
          case rel => exact ⟨j + 1, by omega, by go_num, HB6⟩
          case measure => simp [intOf]; omega
        · go_wp2_with fail
          refine (adds_any _).mono ?_
          rintro e w7 ⟨rfl, hb7⟩
          go_wp2_with fail
          go_ret
          exact ⟨rfl, HB1.out.trans ((HB5.out.trans ((hBj.out.mono HB5.out.size).trans (hb7.mono (by have := HB5.out.size; have := hBj.out.size; omega)))).mono (by omega))⟩
  · exact absurd HF0.out hf
end Go.Proofs.Ytjlopeijdmnacaa
