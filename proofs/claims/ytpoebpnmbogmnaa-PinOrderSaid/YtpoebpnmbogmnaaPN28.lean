/- Walk of the law PinOrder. -/
import Derived.Test.YtpoebpnmbogmnaaWY
import Derived.Test.YtpoebpnmbogmnaaGPj
import Derived.Test.YtpoebpnmbogmnaaGPh
namespace Go.Proofs.Ytpoebpnmbogmnaa
open Go.RowKit
set_option linter.unusedVariables false
set_option linter.unusedSimpArgs false
set_option maxRecDepth 100000 in
set_option maxHeartbeats 2000000 in
theorem porder_good (n k : Nat) (ao : Option Addr) (b o cap : Nat) (cs : List CallV) (ao3 : Option Addr) (b3 o3 cap3 : Nat) (picks : List Int) (w : World) (hl : ¬ longB cs.length picks.length) (ha : 0 < cs.length → ao = some ⟨b, o, none⟩) (hb : 0 < cs.length → b < w.heap.size) (hc : CallsAt w b o cs) (hcap : ao = none → cap = 0)
    (ha3 : 0 < picks.length → ao3 = some ⟨b3, o3, none⟩) (hb3 : 0 < picks.length → b3 < w.heap.size) (hc3 : ICells w b3 o3 picks) (hnp : picks.length ≤ 9223372036854775807) (he : playErr (n : Int) cs picks.length (pinErr (k : Int)) = 0) (hn : 1 ≤ n ∧ n ≤ 16) (hk : 1 ≤ k ∧ k ≤ 8)
    (R : RepR) (hR : repOf (endM (M := (pinM (n : Int).toNat (k : Int).toNat)) cs (List.replicate (pinSz (n : Int) (k : Int)) 0) (⟨List.replicate ((n : Int).toNat + 1) 0, 0, 0⟩ : PinS) picks) = R) (hrows : RowsOk cs n R) (hwr : WrongOk (pinD k) cs R.evs) (hall : ∀ (kk j : Nat) (x : EvR), (ordP R.evs R.evs.length)[kk]? = some j → R.evs[j]? = some x → ¬ x.resp = 0) (hel : R.evs.length ≤ 70000) (hcl : cs.length ≤ 9223372036854775807) :
    Calls Try.prog 7 #[.agg #[.int .i64 (n : Int), .int .i64 (k : Int)], .slice ao cs.length cap, .slice ao3 picks.length cap3] w fun e w' => e = .returned (.bool true) ∧ Below w.heap.size w w' := by
  have hw1 : Below w.heap.size w (w.alloc (.cells #[.int .i64 (n : Int), .int .i64 (k : Int)] 22)) := (Below.refl _ _).alloc (Nat.le_refl _) _
  have HP := Lib.hid (pin_play (n : Int) (k : Int) ao b o cap cs ao3 b3 o3 cap3 picks (w.alloc (.cells #[.int .i64 (n : Int), .int .i64 (k : Int)] 22)) ha (fun h => by have := hb h; simp; omega) (hc.stays hw1 hb) hcap ha3 (fun h => by have := hb3 h; simp; omega) (hc3.stays hw1 hb3) hnp)
  have HQ0 : Hid (RowBlk 22 (w.alloc (.cells #[.int .i64 (n : Int), .int .i64 (k : Int)] 22)) w.heap.size [.int .i64 (n : Int), .int .i64 (k : Int)]) := Lib.hid (RowBlk.new _ _ _)
  have HE := Lib.hid he
  have HL := Lib.hid hl
  have HA := Lib.hid ha
  have HB := Lib.hid hb
  have HC := Lib.hid hc
  have HRO := Lib.hid hrows
  have HWR := Lib.hid hwr
  have HAL := Lib.hid hall
  have HEL := Lib.hid hel
  have HRR := Lib.hid hR
  have HW1 := Lib.hid hw1
  have HMD := Lib.hid (model_pin n k hn.2 hk 0)
  clear ha hb hc hcap ha3 hb3 hc3 he hl hR hrows hwr hall hel hw1
  go_enter Try.func7, Try.ntmps7
  go_wp2_with fail
  refine (many_no _ _ _ _ _ _ _ hnp HL.out).mono ?_
  rintro e w1 ⟨rfl, rfl⟩
  go_wp2_with fail
  refine HP.out.mono ?_
  rintro e w2 hP
  have hG := hP.good HE.out
  rw [HRR.out] at hG
  obtain ⟨aoE, gE, capE, gw, rfl, hao, hev, hrw, hgw, hb2⟩ := hG
  have z1 : (w.alloc (.cells #[.int .i64 (n : Int), .int .i64 (k : Int)] 22)).heap.size = w.heap.size + 1 := by simp
  have HB2 : Hid (Below w.heap.size w w2) := Lib.hid (HW1.out.trans (hb2.mono (by omega)))
  have HAO := Lib.hid hao
  have HEV : Hid (EvAllG (w.heap.size + 1) w2 gE R.evs) := Lib.hid (by rw [← z1]; exact hev)
  have z2 := HB2.out.size
  have HQB : Hid (RowBlk 22 (w2.alloc (.cells (repVs (.slice aoE R.evs.length capE) gw R).toArray 32)) w.heap.size [.int .i64 (n : Int), .int .i64 (k : Int)]) := Lib.hid ((HQ0.out.same (hb2.block _ HQ0.out.lt)).alloc _)
  have q0k : (w2.alloc (.cells (repVs (.slice aoE R.evs.length capE) gw R).toArray 32)).cell? ⟨w.heap.size, 0, none⟩ = some (.int .i64 (n : Int)) := HQB.out.cell rfl
  have q1k : (w2.alloc (.cells (repVs (.slice aoE R.evs.length capE) gw R).toArray 32)).cell? ⟨w.heap.size, 1, none⟩ = some (.int .i64 (k : Int)) := HQB.out.cell rfl
  clear hP hb2 hev hrw hao HP
  unfold repVs at *
  go_wp2_with fail
  have hbx : Below w2.heap.size w2 ((w2.alloc (.cells (repVs (.slice aoE R.evs.length capE) gw R).toArray 32)).alloc (.cells #[.int .i64 9, .int .i64 (k : Int), .int .i64 0] 48)) := ((Below.refl _ _).alloc (Nat.le_refl _) _).alloc (by simp) _
  have hsp : RowBlk 48 ((w2.alloc (.cells (repVs (.slice aoE R.evs.length capE) gw R).toArray 32)).alloc (.cells #[.int .i64 9, .int .i64 (k : Int), .int .i64 0] 48)) (w2.heap.size + 1) [.int .i64 9, .int .i64 (k : Int), .int .i64 0] := by
    have h1 := RowBlk.new (w2.alloc (.cells (repVs (.slice aoE R.evs.length capE) gw R).toArray 32)) [.int .i64 9, .int .i64 (k : Int), .int .i64 0] 48
    have e : (w2.alloc (.cells (repVs (.slice aoE R.evs.length capE) gw R).toArray 32)).heap.size = w2.heap.size + 1 := by simp
    rw [e] at h1; exact h1
  have hRW := whole_yesY HMD.out (w2.heap.size + 1) 1 cs R aoE gE capE gw ao b o cap (w.heap.size + 1) _ (hsp.cell (i := 0) rfl) (hsp.cell (i := 1) rfl) (hsp.cell (i := 2) rfl) HRO.out HAO.out (HEV.out.below hbx (Nat.le_refl _)) (HC.out.stays (HB2.out.trans (hbx.mono z2)) HB.out) HA.out hcl HEL.out HAL.out HWR.out
  refine hRW.mono ?_
  rintro e w3 ⟨rfl, hb3⟩
  have HB3 : Hid (Below w.heap.size w w3) := Lib.hid ((HB2.out.trans (hbx.mono z2)).trans (hb3.mono (by have := hbx.size; omega)))
  clear hb3 hRW hbx hsp q0k q1k
  go_wp2_with fail
  refine (slow_any _).mono ?_
  rintro e w4 ⟨rfl, hb4⟩
  have HB4 : Hid (Below w.heap.size w w4) := Lib.hid (HB3.out.trans (hb4.mono HB3.out.size))
  clear hb4
  go_wp2_with fail
  go_ret
  exact ⟨rfl, HB4.out⟩
theorem porder_all (q0 q1 : Int) (ao : Option Addr) (b o cap : Nat) (cs : List CallV) (ao3 : Option Addr) (b3 o3 cap3 : Nat) (picks : List Int) (w : World) (ha : 0 < cs.length → ao = some ⟨b, o, none⟩) (hb : 0 < cs.length → b < w.heap.size) (hc : CallsAt w b o cs) (hcap : ao = none → cap = 0)
    (ha3 : 0 < picks.length → ao3 = some ⟨b3, o3, none⟩) (hb3 : 0 < picks.length → b3 < w.heap.size) (hc3 : ICells w b3 o3 picks) (hnp : picks.length ≤ 9223372036854775807) (hcl : cs.length ≤ 9223372036854775807) :
    Calls Try.prog 7 #[.agg #[.int .i64 q0, .int .i64 q1], .slice ao cs.length cap, .slice ao3 picks.length cap3] w fun e w' => e = .returned (.bool true) ∧ Below w.heap.size w w' := by
  by_cases hl : longB cs.length picks.length
  · exact porder_long q0 q1 ao ao3 cs.length cap picks.length cap3 w hnp hl
  · by_cases he : playErr q0 cs picks.length (pinErr q1) = 0
    · obtain ⟨n, rfl, hn1, hth, hpl, _, her⟩ := play_threads he
      obtain ⟨k, rfl, hk, hsz⟩ := pin_made (n := n) her
      have hF := pin_end hn1 hk.1 hth hpl
      have hH := pinH_end hn1 hk.1 hth picks hpl
      have hevs := endM_evs (M := pinM n k) cs (List.replicate (1 + (n + 1) * (1 + k)) 0) ⟨List.replicate (n + 1) 0, 0, 0⟩ picks
      have hR := rowI_end (M := pinM n k) cs (List.replicate (1 + (n + 1) * (1 + k)) 0) ⟨List.replicate (n + 1) 0, 0, 0⟩ picks
      have hU := respI_end (M := pinM n k) cs (List.replicate (1 + (n + 1) * (1 + k)) 0) ⟨List.replicate (n + 1) 0, 0, 0⟩ picks
      have hRO := rows_ok hR hth hn1 (pin_in hF hH.v hR) (endM_cn (M := pinM n k) cs (List.replicate (1 + (n + 1) * (1 + k)) 0) ⟨List.replicate (n + 1) 0, 0, 0⟩ picks) (by omega)
      have hW := pin_wrong hF hH.v hR hU
      have hel : (repOf (endM (M := pinM n k) cs (List.replicate (1 + (n + 1) * (1 + k)) 0) ⟨List.replicate (n + 1) 0, 0, 0⟩ picks)).evs.length ≤ 70000 := by
        show ((endM (M := pinM n k) cs (List.replicate (1 + (n + 1) * (1 + k)) 0) ⟨List.replicate (n + 1) 0, 0, 0⟩ picks).evs.map _).length ≤ _
        rw [List.length_map]; omega
      refine porder_good n k ao b o cap cs ao3 b3 o3 cap3 picks w hl ha hb hc hcap ha3 hb3 hc3 hnp he hn1 hk (repOf (endM (M := pinM n k) cs (List.replicate (1 + (n + 1) * (1 + k)) 0) ⟨List.replicate (n + 1) 0, 0, 0⟩ picks)) (by rw [hsz]; rfl) hRO hW (fun kk j x hj hx hr => ?_) hel hcl
      have hx' : ((endM (M := pinM n k) cs (List.replicate (1 + (n + 1) * (1 + k)) 0) ⟨List.replicate (n + 1) 0, 0, 0⟩ picks).evs.map (evR _))[j]? = some x := hx
      rw [List.getElem?_map] at hx'
      obtain ⟨v, hv, rfl⟩ := Option.map_eq_some_iff.1 hx'
      have hm := (ordP_mem.1 (List.mem_of_getElem? hj)).2
      rw [keyAt_some hx] at hm
      have hr' : v.resp = 0 := hr
      have hk0 : (evR (endM (M := pinM n k) cs (List.replicate (1 + (n + 1) * (1 + k)) 0) ⟨List.replicate (n + 1) 0, 0, 0⟩ picks).s v).key = [] := by
        show (if v.resp = 0 then keyQ _ v.q else v.key) = []
        rw [if_pos hr']; exact pin_pendK hF hv hr'
      have hm' : 0 < (evR (endM (M := pinM n k) cs (List.replicate (1 + (n + 1) * (1 + k)) 0) ⟨List.replicate (n + 1) 0, 0, 0⟩ picks).s v).key.length := hm
      rw [hk0] at hm'
      simp at hm'
    · exact porder_bad q0 q1 ao b o cap cs ao3 b3 o3 cap3 picks w hl ha hb hc hcap ha3 hb3 hc3 hnp he
end Go.Proofs.Ytpoebpnmbogmnaa
