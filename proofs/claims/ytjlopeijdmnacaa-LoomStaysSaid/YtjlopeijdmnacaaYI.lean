/- Walk of the law LoomStays: where there are no picks at all. -/
import Derived.Test.YtjlopeijdmnacaaYH
namespace Go.Proofs.Ytjlopeijdmnacaa
open Go.RowKit

set_option maxRecDepth 100000 in
set_option maxHeartbeats 4000000 in
theorem stays_good_nil (q0 q1 : Int) (ao : Option Addr) (b o cap : Nat) (cs : List CallV) (w : World) (hl : ¬ longB cs.length 0)
    (ha : 0 < cs.length → ao = some ⟨b, o, none⟩) (hb : 0 < cs.length → b < w.heap.size) (hc : CallsAt w b o cs) (hcap : ao = none → cap = 0)
    (hf0 : cellsErr q0 q1 cs 0 = 0) :
    Calls Try.prog 7 #[.agg #[.int .i64 q0, .int .i64 q1, .int .i64 (0 : Int)], .slice ao cs.length cap, .slice none 0 0] w fun e w' => e = .returned (.bool true) ∧ Below w.heap.size w w' := by
  have HA := Lib.hid ha
  have HB := Lib.hid hb
  have HC := Lib.hid hc
  have HCP := Lib.hid hcap
  have HL := Lib.hid hl
  have HF0 := Lib.hid hf0
  clear ha hb hc hcap hl hf0
  go_enter Try.func7, Try.ntmps7
  go_wp2_with fail
  refine (many_no _ _ _ _ _ _ _ (by omega) HL.out).mono ?_
  rintro e w1 ⟨rfl, rfl⟩
  generalize hw1 : w.alloc (.cells #[.int .i64 q0, .int .i64 q1, .int .i64 (0 : Int)] 59) = w1
  have HB1 : Hid (Below w.heap.size w w1) := Lib.hid (by rw [← hw1]; exact (Below.refl _ _).alloc (Nat.le_refl _) _)
  have z1 : w1.heap.size = w.heap.size + 1 := by rw [← hw1]; simp
  have k0 : w1.cell? ⟨w.heap.size, 0, none⟩ = some (.int .i64 q0) := by rw [← hw1, World.cell?_alloc_at _ _ _ _ rfl]; rfl
  have k1 : w1.cell? ⟨w.heap.size, 1, none⟩ = some (.int .i64 q1) := by rw [← hw1, World.cell?_alloc_at _ _ _ _ rfl]; rfl
  have k2 : w1.cell? ⟨w.heap.size, 2, none⟩ = some (.int .i64 (0 : Int)) := by rw [← hw1, World.cell?_alloc_at _ _ _ _ rfl]; rfl
  have zw1 : w.heap.size < w1.heap.size := by omega
  have n1 : w1.heap.size ≠ w.heap.size := by omega
  have n2 : w.heap.size ≠ w1.heap.size := by omega
  clear hw1 z1
  by_cases hf : cellsErr q0 q1 cs 0 = 0
  · have HF := Lib.hid hf
    have HE := Lib.hid (err_take q0 q1 cs (Nat.le_refl 0) hf)
    clear hf
    have HCG : Hid (∀ W, Below w1.heap.size w1 W → Calls Try.prog 20 #[.int .i64 q0, .int .i64 q1, .slice ao cs.length cap, .slice none 0 0] W (GoodPost cs q1.toNat (([] : List Int)) W)) := Lib.hid (fun W hW => by
      have hBW : Below w.heap.size w W := HB1.out.trans (hW.mono (by omega))
      have hWs := hW.size
      have := cells_good q0 q1 ao b o cap cs none 0 0 0 (([] : List Int)) W HA.out (fun h => by have := HB.out h; omega) (HC.out.stays hBW HB.out) HCP.out (fun h => absurd h (by simp)) (fun h => absurd h (by simp)) (fun i x h => by simp at h) (by simp) HE.out
      exact this)
    have HCF : Hid (∀ W, Below w1.heap.size w1 W → Calls Try.prog 20 #[.int .i64 q0, .int .i64 q1, .slice ao cs.length cap, .slice none 0 0] W (GoodPost cs q1.toNat ([] : List Int) W)) := Lib.hid (fun W hW => by
      have hBW : Below w.heap.size w W := HB1.out.trans (hW.mono (by omega))
      have hWs := hW.size
      exact cells_good q0 q1 ao b o cap cs none 0 0 0 ([] : List Int) W HA.out (fun h => by have := HB.out h; omega) (HC.out.stays hBW HB.out) HCP.out (fun h => absurd h (by simp)) (fun h => absurd h (by simp)) (fun i x h => by simp at h) (by simp) HF.out)
    have KA : Hid (∀ ob : Obj, (w1.alloc ob).drew.cell? ⟨w.heap.size, 0, none⟩ = some (.int .i64 q0) ∧ (w1.alloc ob).drew.cell? ⟨w.heap.size, 1, none⟩ = some (.int .i64 q1) ∧ (w1.alloc ob).drew.cell? ⟨w.heap.size, 2, none⟩ = some (.int .i64 (0 : Int))) := Lib.hid (fun ob =>
      ⟨(World.cell?_alloc_past _ _ _ zw1).trans k0, (World.cell?_alloc_past _ _ _ zw1).trans k1, (World.cell?_alloc_past _ _ _ zw1).trans k2⟩)
    go_upto_region 3 with fail
    go_cut [7, 8] from 12 to 40 (fun v7 v8 wx => ∃ rb aoE gE capE gw, v7 = .pointer (some ⟨rb, 0, none⟩) ∧ v8 = .int .i64 0 ∧ Hid (RowBlk 53 wx rb (repVs (.slice aoE (stEnd cs q1.toNat (([] : List Int))).evs.length capE) gw (stEnd cs q1.toNat (([] : List Int))))) ∧ Hid (0 < (stEnd cs q1.toNat (([] : List Int))).evs.length → aoE = some ⟨gE, 0, none⟩) ∧
      Hid (EvAll w1.heap.size wx gE (stEnd cs q1.toNat (([] : List Int))).evs) ∧ Hid (Below w1.heap.size w1 wx))
    case first =>
      go_region_held3 (fun w' => w'.cell? ⟨w.heap.size, 0, none⟩ = some (.int .i64 q0) ∧ w'.cell? ⟨w.heap.size, 1, none⟩ = some (.int .i64 q1) ∧ w'.cell? ⟨w.heap.size, 2, none⟩ = some (.int .i64 (0 : Int)))
        (first | (simp only [cell_far n2]; with_reducible exact ⟨s0, s1, s2⟩) | with_reducible exact ⟨s0, s1, s2⟩ | with_reducible exact ⟨k0, k1, k2⟩ | with_reducible exact KA.out _ | with_reducible exact ⟨(World.cell?_alloc_past _ _ _ zw).trans s0, (World.cell?_alloc_past _ _ _ zw).trans s1, (World.cell?_alloc_past _ _ _ zw).trans s2⟩ | with_reducible exact ⟨(World.cell?_alloc_past _ _ _ zw1).trans k0, (World.cell?_alloc_past _ _ _ zw1).trans k1, (World.cell?_alloc_past _ _ _ zw1).trans k2⟩ | exact ⟨k0, k1, k2⟩)
        (first
          | (go_at_call 20
             refine (HCG.out _ (by first | exact below_drew (Below.refl _ _) | exact below_drew ((Below.refl _ _).alloc (Nat.le_refl _) _))).mono ?_
             rintro e w3 ⟨aoE, gE, capE, gw, rfl, hao, hev, hrw, hgw, hb3⟩
             have HBW : Hid (Below w1.heap.size w1 w3) := Lib.hid (by first | exact (below_drew (Below.refl _ _)).trans hb3 | exact (below_drew ((Below.refl _ _).alloc (Nat.le_refl _) _)).trans (hb3.mono (by simp)))
             have s0 := (HBW.out.cell (p := ⟨w.heap.size, 0, none⟩) (by show w.heap.size < _; omega)).trans k0
             have s1 := (HBW.out.cell (p := ⟨w.heap.size, 1, none⟩) (by show w.heap.size < _; omega)).trans k1
             have s2 := (HBW.out.cell (p := ⟨w.heap.size, 2, none⟩) (by show w.heap.size < _; omega)).trans k2
             have HAO := Lib.hid hao
             have zw : w.heap.size < w3.heap.size := by have := HBW.out.size; omega
             have zw13 := HBW.out.size
             unfold repVs
             first
               | (have hz : RowBlk 53 w3 w1.heap.size zeroVs := ((RowBlk.new w1 zeroVs 53).drew).same (hb3.block _ (by show w1.heap.size < (w1.alloc _).heap.size; simp))
                  have hev1 : EvAll (w1.heap.size + 1) w3 gE (stEnd cs q1.toNat (([] : List Int))).evs := hev.mono (by show w1.heap.size + 1 ≤ (w1.alloc _).heap.size; simp)
                  have r0 := hz.cell (i := 0) rfl
                  have r1 := hz.cell (i := 1) rfl
                  have r2 := hz.cell (i := 2) rfl
                  have r3 := hz.cell (i := 3) rfl
                  have r4 := hz.cell (i := 4) rfl
                  have r5 := hz.cell (i := 5) rfl
                  have r6 := hz.cell (i := 6) rfl
                  have r7 := hz.cell (i := 7) rfl
                  have r8 := hz.cell (i := 8) rfl
                  have fr : ∀ k, w3.frozen? ⟨w1.heap.size, k, none⟩ = false := fun k => hz.free
                  have zw3 := hz.lt
                  have HZ := Lib.hid hz
                  have HEV := Lib.hid hev1
                  clear hz hev1)
               | (have HEV : Hid (EvAll w1.heap.size w3 gE (stEnd cs q1.toNat (([] : List Int))).evs) := Lib.hid hev)
             clear hao hev hrw hgw hb3))
      all_goals (go_wp2_with fail; go_meet)
      all_goals first
        | (have hz' := HZ.out
           have hev' := HEV.out
           exact ⟨w1.heap.size, aoE, gE, capE, gw, rfl, rfl, Lib.hid (put9 hz' _ _ _ _ _ _ _ _ _), HAO,
            Lib.hid ((((((((((hev'.setCell (Nat.lt_succ_self _) _).setCell (Nat.lt_succ_self _) _).setCell (Nat.lt_succ_self _) _).setCell (Nat.lt_succ_self _) _).setCell (Nat.lt_succ_self _) _).setCell (Nat.lt_succ_self _) _).setCell (Nat.lt_succ_self _) _).setCell (Nat.lt_succ_self _) _).setCell (Nat.lt_succ_self _) _).mono (Nat.le_succ _)),
            Lib.hid (((((((((HBW.out.setCell (Nat.le_refl _) _).setCell (Nat.le_refl _) _).setCell (Nat.le_refl _) _).setCell (Nat.le_refl _) _).setCell (Nat.le_refl _) _).setCell (Nat.le_refl _) _).setCell (Nat.le_refl _) _).setCell (Nat.le_refl _) _).setCell (Nat.le_refl _) _)⟩)
        | exact ⟨w3.heap.size, aoE, gE, capE, gw, rfl, rfl, Lib.hid (RowBlk.new _ _ _), HAO, Lib.hid (HEV.out.below ((Below.refl _ _).alloc (Nat.le_refl _) _) (Nat.le_refl _)), Lib.hid (HBW.out.alloc zw13 _)⟩
    case rest =>
      obtain ⟨rb, aoE, gE, capE, gw, rfl, rfl, HR1, HA1, HE1, HBc⟩ := hcut
      have kc0 := (HBc.out.cell (p := ⟨w.heap.size, 0, none⟩) zw1).trans k0
      have kc1 := (HBc.out.cell (p := ⟨w.heap.size, 1, none⟩) zw1).trans k1
      clear k0 k1 k2 KA HCG
      go_wp2_with fail
      refine (HCF.out wc HBc.out).mono ?_
      rintro e w4 ⟨aoF, gF, capF, gv, rfl, hao2, hev2, hrw2, hgw2, hb4⟩
      have hAl := stEnd_len cs q1.toNat (([] : List Int))
      simp only [List.length_nil] at hAl
      have hpos := stEnd_pos (cs := cs) (size := q1.toNat) (picks := ([] : List Int))
      have HR4 := Lib.hid (HR1.out.same (hb4.block _ HR1.out.lt))
      have HE4 := Lib.hid (HE1.out.below hb4 (Nat.le_refl _))
      have HB4 : Hid (Below w1.heap.size w1 w4) := Lib.hid (HBc.out.trans (hb4.mono HBc.out.size))
      have HE2 := Lib.hid (hev2.mono HBc.out.size)
      clear hev2 hb4 hrw2 hgw2 HR1 HE1 HBc kc0 kc1 HCF
      generalize stEnd cs q1.toNat (([] : List Int)) = A at *
      have hti : A.ticks ≤ A.ticks := Nat.le_refl _
      have hid : A.idle ≤ A.idle := Nat.le_refl _
      have hle : A.evs.length ≤ A.evs.length := Nat.le_refl _
      have HAF : Hid (∀ (j : Nat) (x : EvG), A.evs[j]? = some x → A.evs[j]? = some x) := Lib.hid (fun j x hx => hx)
      have HAO2 := Lib.hid hao2
      have HPOS := Lib.hid hpos
      have d1 : decide (A.evs.length < A.evs.length) = false := decide_eq_false (by omega)
      have d2 : decide (A.ticks < A.ticks) = false := decide_eq_false (by omega)
      have d3 : decide (A.idle < A.idle) = false := decide_eq_false (by omega)
      have g1 : ¬ A.evs.length < A.evs.length := by omega
      have g2 : ¬ A.ticks < A.ticks := by omega
      have g3 : ¬ A.idle < A.idle := by omega
      have b0 := HR4.out.cell (i := 0) rfl
      have b7 := HR4.out.cell (i := 7) rfl
      have b8 := HR4.out.cell (i := 8) rfl
      have lrb := HR4.out.lt
      clear hao2 hpos hti hid
      unfold repVs
      go_wp2_with fail
      generalize hw5 : w4.alloc (.cells #[.slice aoF A.evs.length capF, .slice (some ⟨gv, 0, none⟩) A.ws.length A.ws.length, .int .i64 (A.cn.r : Int), .int .i64 (A.cn.w : Int), .int .i64 (A.cn.s : Int), .int .i64 (A.cn.a : Int), .int .i64 (A.cn.f : Int), .int .i64 (A.ticks : Int), .int .i64 (A.idle : Int)] 53) = w5
      have HB5 : Hid (Below w1.heap.size w1 w5) := Lib.hid (by rw [← hw5]; exact HB4.out.alloc HB4.out.size _)
      have HR5 : Hid (RowBlk 53 w5 rb (repVs (.slice aoE A.evs.length capE) gw A)) := Lib.hid (by rw [← hw5]; exact HR4.out.alloc _)
      have HF5 : Hid (RowBlk 53 w5 w4.heap.size (repVs (.slice aoF A.evs.length capF) gv A)) := Lib.hid (by rw [← hw5]; exact RowBlk.new _ _ _)
      have HE5 : Hid (EvAll w1.heap.size w5 gE A.evs) := Lib.hid (by rw [← hw5]; exact HE4.out.below ((Below.refl _ _).alloc (Nat.le_refl _) _) (Nat.le_refl _))
      have HG5 : Hid (EvAll w1.heap.size w5 gF A.evs) := Lib.hid (by rw [← hw5]; exact HE2.out.below ((Below.refl _ _).alloc (Nat.le_refl _) _) (Nat.le_refl _))
      clear hw5 HR4 HE4 HE2 HB4 b0 b7 b8
      generalize w4.heap.size = rf at *
      go_loopw [86] (fun v wr => ∃ j : Nat, j ≤ A.evs.length ∧ v = .int .i64 j ∧ Hid (Below w5.heap.size w5 wr)) (fun v _ => A.evs.length - (intOf v).toNat)
      case atStart => exact ⟨0, Nat.zero_le _, rfl, Lib.hid (Below.refl _ _)⟩
      case round =>
        obtain ⟨j, hj, rfl, hBj⟩ := hrel
        by_cases hlt2 : j < A.evs.length
        · obtain rfl := HA1.out (by omega)
          obtain rfl := HAO2.out (by omega)
          obtain ⟨x, hx⟩ : ∃ x, A.evs[j]? = some x := ⟨A.evs[j], List.getElem?_eq_getElem (by omega)⟩
          have hxt := HPOS.out x (List.mem_of_getElem? hx)
          obtain ⟨_, kbE, ckE, _, vE⟩ := (HE5.out.below hBj.out (Nat.le_refl _)) j x hx
          obtain ⟨_, kbF, ckF, _, vF⟩ := (HG5.out.below hBj.out (Nat.le_refl _)) j x (HAF.out j x hx)
          have HVE := Lib.hid vE
          have HVF := Lib.hid vF
          have HRj := Lib.hid (HR5.out.same (hBj.out.block _ HR5.out.lt))
          have HFj := Lib.hid (HF5.out.same (hBj.out.block _ HF5.out.lt))
          have hi0 : (0 : Int) ≤ (j : Int) := Int.natCast_nonneg _
          have hi1 : (j : Int) < (A.evs.length : Int) := by omega
          have hi2 : (j : Int) < (A.evs.length : Int) := by omega
          have hi3 : j < A.evs.length := by omega
          have ht0 : ¬ x.t = 0 := by omega
          have ht2 : ¬ (x.t : Int) = 0 := by omega
          have ht3 : decide ((x.t : Int) = 0) = false := decide_eq_false ht2
          have ht4 : decide ((x.t : Int) ≠ 0) = true := decide_eq_true ht2
          have ht5 : decide (¬ (x.t : Int) = 0) = true := decide_eq_true ht2
          have ht6 : ((x.t : Int) == 0) = false := beq_false_of_ne ht2
          have ht7 : ((x.t : Int) != 0) = true := bne_iff_ne.2 ht2
          have HCE : Hid (Calls Try.prog 23 #[.agg #[.int .i64 (x.i : Int), .int .i64 (x.t : Int), .int .i64 (x.t : Int), .int .i64 1, .int .i64 (x.e : Int), .int .u64 (x.v : Int), .slice none 0 0, .slice (some ⟨kbE, 0, none⟩) 1 ckE], .agg #[.int .i64 (x.i : Int), .int .i64 (x.t : Int), .int .i64 (x.t : Int), .int .i64 1, .int .i64 (x.e : Int), .int .u64 (x.v : Int), .slice none 0 0, .slice (some ⟨kbF, 0, none⟩) 1 ckF]] wr.drew fun e w' => e = .returned (.bool true) ∧ Below wr.drew.heap.size wr.drew w') := Lib.hid (event_same x kbE ckE kbF ckF wr.drew vE.key vF.key)
          clear hx vE vF
          have sp := HRj.out.cell (i := 0) rfl
          have sq := HFj.out.cell (i := 0) rfl
          have se0 := HVE.out.c0
          have se1 := HVE.out.c1
          have se2 := HVE.out.c2
          have se3 := HVE.out.c3
          have se4 := HVE.out.c4
          have se5 := HVE.out.c5
          have se6 := HVE.out.c6
          have se7 := HVE.out.c7
          have sf0 := HVF.out.c0
          have sf1 := HVF.out.c1
          have sf2 := HVF.out.c2
          have sf3 := HVF.out.c3
          have sf4 := HVF.out.c4
          have sf5 := HVF.out.c5
          have sf6 := HVF.out.c6
          have sf7 := HVF.out.c7
          go_wp2_with fail
          go_region_held3 (fun w' => w'.cell? ⟨rb, 0, none⟩ = some (.slice (some ⟨gE, 0, none⟩) A.evs.length capE) ∧ w'.cell? ⟨rf, 0, none⟩ = some (.slice (some ⟨gF, 0, none⟩) A.evs.length capF) ∧ w'.cell? ⟨gE, j * 8, none⟩ = some (.int .i64 (x.i : Int)) ∧ w'.cell? ⟨gE, j * 8 + 1, none⟩ = some (.int .i64 (x.t : Int)) ∧ w'.cell? ⟨gE, j * 8 + 2, none⟩ = some (.int .i64 (x.t : Int)) ∧ w'.cell? ⟨gE, j * 8 + 3, none⟩ = some (.int .i64 1) ∧ w'.cell? ⟨gE, j * 8 + 4, none⟩ = some (.int .i64 (x.e : Int)) ∧ w'.cell? ⟨gE, j * 8 + 5, none⟩ = some (.int .u64 (x.v : Int)) ∧ w'.cell? ⟨gE, j * 8 + 6, none⟩ = some (.slice none 0 0) ∧ w'.cell? ⟨gE, j * 8 + 7, none⟩ = some (.slice (some ⟨kbE, 0, none⟩) 1 ckE) ∧ w'.cell? ⟨gF, j * 8, none⟩ = some (.int .i64 (x.i : Int)) ∧ w'.cell? ⟨gF, j * 8 + 1, none⟩ = some (.int .i64 (x.t : Int)) ∧ w'.cell? ⟨gF, j * 8 + 2, none⟩ = some (.int .i64 (x.t : Int)) ∧ w'.cell? ⟨gF, j * 8 + 3, none⟩ = some (.int .i64 1) ∧ w'.cell? ⟨gF, j * 8 + 4, none⟩ = some (.int .i64 (x.e : Int)) ∧ w'.cell? ⟨gF, j * 8 + 5, none⟩ = some (.int .u64 (x.v : Int)) ∧ w'.cell? ⟨gF, j * 8 + 6, none⟩ = some (.slice none 0 0) ∧ w'.cell? ⟨gF, j * 8 + 7, none⟩ = some (.slice (some ⟨kbF, 0, none⟩) 1 ckF))
            (first | with_reducible exact ⟨tp, tq, te0, te1, te2, te3, te4, te5, te6, te7, tf0, tf1, tf2, tf3, tf4, tf5, tf6, tf7⟩ | with_reducible exact ⟨sp, sq, se0, se1, se2, se3, se4, se5, se6, se7, sf0, sf1, sf2, sf3, sf4, sf5, sf6, sf7⟩ | exact ⟨sp, sq, se0, se1, se2, se3, se4, se5, se6, se7, sf0, sf1, sf2, sf3, sf4, sf5, sf6, sf7⟩)
            (first
              | (go_at_call 23
                 refine HCE.out.mono ?_
                 rintro e w6 ⟨rfl, hb60⟩
                 have hb6 : Below wr.heap.size wr w6 := (below_drew (Below.refl wr.heap.size wr)).trans hb60
                 have HB6 : Hid (Below w5.heap.size w5 w6) := Lib.hid (hBj.out.trans (hb6.mono hBj.out.size))
                 have HVE6 := Lib.hid (HVE.out.below hb6 (Nat.le_refl _))
                 have HVF6 := Lib.hid (HVF.out.below hb6 (Nat.le_refl _))
                 have HR6 := Lib.hid (HRj.out.same (hb6.block _ HRj.out.lt))
                 have HF6 := Lib.hid (HFj.out.same (hb6.block _ HFj.out.lt))
                 have tp := HR6.out.cell (i := 0) rfl
                 have tq := HF6.out.cell (i := 0) rfl
                 have te0 := HVE6.out.c0
                 have te1 := HVE6.out.c1
                 have te2 := HVE6.out.c2
                 have te3 := HVE6.out.c3
                 have te4 := HVE6.out.c4
                 have te5 := HVE6.out.c5
                 have te6 := HVE6.out.c6
                 have te7 := HVE6.out.c7
                 have tf0 := HVF6.out.c0
                 have tf1 := HVF6.out.c1
                 have tf2 := HVF6.out.c2
                 have tf3 := HVF6.out.c3
                 have tf4 := HVF6.out.c4
                 have tf5 := HVF6.out.c5
                 have tf6 := HVF6.out.c6
                 have tf7 := HVF6.out.c7
                 clear hb6 hb60))
          go_wp2_with fail
          go_roundw
          case rel => exact ⟨j + 1, by omega, by go_num, HB6⟩
          case measure => simp [intOf]; omega
        · go_wp2_with fail
          refine (adds_any _).mono ?_
          rintro e w7 ⟨rfl, hb7⟩
          go_wp2_with fail
          go_ret
          exact ⟨rfl, HB1.out.trans ((HB5.out.trans ((hBj.out.mono HB5.out.size).trans (hb7.mono (by have := HB5.out.size; have := hBj.out.size; omega)))).mono (by omega))⟩
  · exact absurd HF0.out hf

set_option maxRecDepth 100000 in
set_option maxHeartbeats 4000000 in
theorem stays_bad_nil (q0 q1 : Int) (ao : Option Addr) (b o cap : Nat) (cs : List CallV) (w : World) (hl : ¬ longB cs.length 0)
    (ha : 0 < cs.length → ao = some ⟨b, o, none⟩) (hb : 0 < cs.length → b < w.heap.size) (hc : CallsAt w b o cs) (hcap : ao = none → cap = 0)
    (hf0 : cellsErr q0 q1 cs 0 ≠ 0) :
    Calls Try.prog 7 #[.agg #[.int .i64 q0, .int .i64 q1, .int .i64 (0 : Int)], .slice ao cs.length cap, .slice none 0 0] w fun e w' => e = .returned (.bool true) ∧ Below w.heap.size w w' := by
  have HA := Lib.hid ha
  have HB := Lib.hid hb
  have HC := Lib.hid hc
  have HCP := Lib.hid hcap
  have HL := Lib.hid hl
  have HF0 := Lib.hid hf0
  clear ha hb hc hcap hl hf0
  go_enter Try.func7, Try.ntmps7
  go_wp2_with fail
  refine (many_no _ _ _ _ _ _ _ (by omega) HL.out).mono ?_
  rintro e w1 ⟨rfl, rfl⟩
  generalize hw1 : w.alloc (.cells #[.int .i64 q0, .int .i64 q1, .int .i64 (0 : Int)] 59) = w1
  have HB1 : Hid (Below w.heap.size w w1) := Lib.hid (by rw [← hw1]; exact (Below.refl _ _).alloc (Nat.le_refl _) _)
  have z1 : w1.heap.size = w.heap.size + 1 := by rw [← hw1]; simp
  have k0 : w1.cell? ⟨w.heap.size, 0, none⟩ = some (.int .i64 q0) := by rw [← hw1, World.cell?_alloc_at _ _ _ _ rfl]; rfl
  have k1 : w1.cell? ⟨w.heap.size, 1, none⟩ = some (.int .i64 q1) := by rw [← hw1, World.cell?_alloc_at _ _ _ _ rfl]; rfl
  have k2 : w1.cell? ⟨w.heap.size, 2, none⟩ = some (.int .i64 (0 : Int)) := by rw [← hw1, World.cell?_alloc_at _ _ _ _ rfl]; rfl
  have zw1 : w.heap.size < w1.heap.size := by omega
  have n1 : w1.heap.size ≠ w.heap.size := by omega
  have n2 : w.heap.size ≠ w1.heap.size := by omega
  clear hw1 z1
  have HCG : Hid (∀ W, Below w1.heap.size w1 W → Calls Try.prog 20 #[.int .i64 q0, .int .i64 q1, .slice ao cs.length cap, .slice none 0 0] W (AnyRep (cellsErr q0 q1 cs 0) W)) := Lib.hid (fun W hW => by
    have hBW : Below w.heap.size w W := HB1.out.trans (hW.mono (by omega))
    have hWs := hW.size
    have := cells_any q0 q1 ao b o cap cs none 0 0 0 (([] : List Int)) W HA.out (fun h => by have := HB.out h; omega) (HC.out.stays hBW HB.out) HCP.out (fun h => absurd h (by simp)) (fun h => absurd h (by simp)) (fun i x h => by simp at h) (by simp)
    refine this.mono ?_
    rintro e w' ⟨a1, n1, c1, a2, n2, c2, i0, i1, i2, i3, i4, i5, i6, v, rfl, rfl, _, _, hb'⟩
    exact ⟨a1, n1, c1, a2, n2, c2, i0, i1, i2, i3, i4, i5, i6, rfl, hb'⟩)
  have HCF : Hid (∀ W, Below w1.heap.size w1 W → Calls Try.prog 20 #[.int .i64 q0, .int .i64 q1, .slice ao cs.length cap, .slice none 0 0] W fun e w' => e = .returned (.tuple #[zeroRep, .int .i64 (cellsErr q0 q1 cs 0 : Nat)]) ∧ Below W.heap.size W w') := Lib.hid (fun W hW => by
    have hBW : Below w.heap.size w W := HB1.out.trans (hW.mono (by omega))
    have hWs := hW.size
    exact cells_bad q0 q1 ao b o cap cs none 0 0 0 ([] : List Int) W HA.out (fun h => by have := HB.out h; omega) (HC.out.stays hBW HB.out) HCP.out (fun h => absurd h (by simp)) (fun h => absurd h (by simp)) (fun i x h => by simp at h) (by simp) HF0.out)
  have KA : Hid (∀ ob : Obj, (w1.alloc ob).drew.cell? ⟨w.heap.size, 0, none⟩ = some (.int .i64 q0) ∧ (w1.alloc ob).drew.cell? ⟨w.heap.size, 1, none⟩ = some (.int .i64 q1) ∧ (w1.alloc ob).drew.cell? ⟨w.heap.size, 2, none⟩ = some (.int .i64 (0 : Int))) := Lib.hid (fun ob =>
    ⟨(World.cell?_alloc_past _ _ _ zw1).trans k0, (World.cell?_alloc_past _ _ _ zw1).trans k1, (World.cell?_alloc_past _ _ _ zw1).trans k2⟩)
  generalize hE : cellsErr q0 q1 cs 0 = E at HCG
  clear hE
  go_upto_region 3 with fail
  go_cut [7, 8] from 12 to 40 (fun v7 v8 wx => ∃ rb : Nat, v7 = .pointer (some ⟨rb, 0, none⟩) ∧ v8 = .int .i64 (E : Nat) ∧ Hid (Below w1.heap.size w1 wx))
  case first =>
    go_region_held3 (fun w' => w'.cell? ⟨w.heap.size, 0, none⟩ = some (.int .i64 q0) ∧ w'.cell? ⟨w.heap.size, 1, none⟩ = some (.int .i64 q1) ∧ w'.cell? ⟨w.heap.size, 2, none⟩ = some (.int .i64 (0 : Int)))
      (first | (simp only [cell_far n2]; with_reducible exact ⟨s0, s1, s2⟩) | with_reducible exact ⟨s0, s1, s2⟩ | with_reducible exact ⟨k0, k1, k2⟩ | with_reducible exact KA.out _ | with_reducible exact ⟨(World.cell?_alloc_past _ _ _ zw).trans s0, (World.cell?_alloc_past _ _ _ zw).trans s1, (World.cell?_alloc_past _ _ _ zw).trans s2⟩ | with_reducible exact ⟨(World.cell?_alloc_past _ _ _ zw1).trans k0, (World.cell?_alloc_past _ _ _ zw1).trans k1, (World.cell?_alloc_past _ _ _ zw1).trans k2⟩ | exact ⟨k0, k1, k2⟩)
      (first
        | (go_at_call 20
           refine (HCG.out _ (by first | exact below_drew (Below.refl _ _) | exact below_drew ((Below.refl _ _).alloc (Nat.le_refl _) _))).mono ?_
           rintro e w3 ⟨a1, n1, c1, a2, n2', c2, j0, j1, j2, j3, j4, j5, j6, rfl, hb3⟩
           have HBW : Hid (Below w1.heap.size w1 w3) := Lib.hid (by first | exact (below_drew (Below.refl _ _)).trans hb3 | exact (below_drew ((Below.refl _ _).alloc (Nat.le_refl _) _)).trans (hb3.mono (by simp)))
           have s0 := (HBW.out.cell (p := ⟨w.heap.size, 0, none⟩) (by show w.heap.size < _; omega)).trans k0
           have s1 := (HBW.out.cell (p := ⟨w.heap.size, 1, none⟩) (by show w.heap.size < _; omega)).trans k1
           have s2 := (HBW.out.cell (p := ⟨w.heap.size, 2, none⟩) (by show w.heap.size < _; omega)).trans k2
           have zw : w.heap.size < w3.heap.size := by have := HBW.out.size; omega
           have zw13 := HBW.out.size
           first
             | (have hz : RowBlk 53 w3 w1.heap.size zeroVs := ((RowBlk.new w1 zeroVs 53).drew).same (hb3.block _ (by show w1.heap.size < (w1.alloc _).heap.size; simp))
                have r0 := hz.cell (i := 0) rfl
                have r1 := hz.cell (i := 1) rfl
                have r2 := hz.cell (i := 2) rfl
                have r3 := hz.cell (i := 3) rfl
                have r4 := hz.cell (i := 4) rfl
                have r5 := hz.cell (i := 5) rfl
                have r6 := hz.cell (i := 6) rfl
                have r7 := hz.cell (i := 7) rfl
                have r8 := hz.cell (i := 8) rfl
                have fr : ∀ k, w3.frozen? ⟨w1.heap.size, k, none⟩ = false := fun k => hz.free
                have zw3 := hz.lt
                have HZ := Lib.hid hz
                clear hz)
             | (have HN := zw13)
           clear hb3))
    all_goals (go_wp2_with fail; go_meet)
    all_goals first
      | (have hz' := HZ.out
         exact ⟨w1.heap.size, rfl, rfl, Lib.hid (((((((((HBW.out.setCell (Nat.le_refl _) _).setCell (Nat.le_refl _) _).setCell (Nat.le_refl _) _).setCell (Nat.le_refl _) _).setCell (Nat.le_refl _) _).setCell (Nat.le_refl _) _).setCell (Nat.le_refl _) _).setCell (Nat.le_refl _) _).setCell (Nat.le_refl _) _)⟩)
      | exact ⟨w3.heap.size, rfl, rfl, Lib.hid (HBW.out.alloc zw13 _)⟩
  case rest =>
    obtain ⟨rb, rfl, rfl, HBc⟩ := hcut
    have kc0 := (HBc.out.cell (p := ⟨w.heap.size, 0, none⟩) zw1).trans k0
    have kc1 := (HBc.out.cell (p := ⟨w.heap.size, 1, none⟩) zw1).trans k1
    have hGn : ((cellsErr q0 q1 cs 0 : Nat) : Int) ≠ 0 := by have := HF0.out; omega
    clear k0 k1 k2 KA HCG
    go_wp2_with fail
    refine (HCF.out wc HBc.out).mono ?_
    rintro e w4 ⟨rfl, hb4⟩
    have HB4 : Hid (Below w1.heap.size w1 w4) := Lib.hid (HBc.out.trans (hb4.mono HBc.out.size))
    have z14 := HB4.out.size
    have HNZ : Hid (∀ W, Calls Try.prog 21 #[zeroRep] W fun e w' => e = .returned (.bool true) ∧ Below W.heap.size W w') := Lib.hid none_zero
    unfold zeroRep zeroVs at *
    clear hb4 HCF
    generalize cellsErr q0 q1 cs 0 = G at hGn ⊢
    by_cases hE0 : E = 0
    · subst hE0
      go_wp2_with fail
      refine (HNZ.out _).mono ?_
      rintro e w5 ⟨rfl, hb5⟩
      go_wp2_with fail
      refine (adds_any _).mono ?_
      rintro e w6 ⟨rfl, hb6⟩
      go_wp2_with fail
      go_ret
      exact ⟨rfl, HB1.out.trans ((HB4.out.trans (((Below.refl _ _).alloc (Nat.le_refl _) _).mono z14)).trans ((hb5.mono (by simp; omega)).trans (hb6.mono (by have := hb5.size; simp at this; omega))) |>.mono (by omega))⟩
    · have hE1 : (E : Int) ≠ 0 := by omega
      go_wp2_with fail
      refine (HNZ.out _).mono ?_
      rintro e w5 ⟨rfl, hb5⟩
      go_wp2_with fail
      refine (adds_any _).mono ?_
      rintro e w6 ⟨rfl, hb6⟩
      go_wp2_with fail
      go_ret
      exact ⟨rfl, HB1.out.trans ((HB4.out.trans (((Below.refl _ _).alloc (Nat.le_refl _) _).mono z14)).trans ((hb5.mono (by simp; omega)).trans (hb6.mono (by have := hb5.size; simp at this; omega))) |>.mono (by omega))⟩
end Go.Proofs.Ytjlopeijdmnacaa
