/- Walk of the law PinSteps. -/
import Derived.Test.YtpoebpnmbogmnaaGPh
namespace Go.Proofs.Ytpoebpnmbogmnaa
open Go.RowKit
set_option linter.unusedVariables false
set_option linter.unusedSimpArgs false
set_option maxRecDepth 100000 in
set_option maxHeartbeats 16000000 in
theorem psteps_good (n k : Nat) (ao : Option Addr) (b o cap : Nat) (cs : List CallV) (ao3 : Option Addr) (b3 o3 cap3 : Nat) (picks : List Int) (w : World) (hl : ¬ longB cs.length picks.length) (ha : 0 < cs.length → ao = some ⟨b, o, none⟩) (hb : 0 < cs.length → b < w.heap.size) (hc : CallsAt w b o cs) (hcap : ao = none → cap = 0)
    (ha3 : 0 < picks.length → ao3 = some ⟨b3, o3, none⟩) (hb3 : 0 < picks.length → b3 < w.heap.size) (hc3 : ICells w b3 o3 picks) (hnp : picks.length ≤ 9223372036854775807) (hcl : cs.length ≤ 9223372036854775807) (he : playErr (n : Int) cs picks.length (pinErr (k : Int)) = 0) (hn : 1 ≤ n ∧ n ≤ 16) (hk : 1 ≤ k ∧ k ≤ 8)
    (R : RepR) (hR : repOf (endM (M := (pinM (n : Int).toNat (k : Int).toNat)) cs (List.replicate (pinSz (n : Int) (k : Int)) 0) (⟨List.replicate ((n : Int).toNat + 1) 0, 0, 0⟩ : PinS) picks) = R) (hA : PinOk n k cs R.evs) (hel : R.evs.length ≤ 70000) :
    Calls Try.prog 6 #[.agg #[.int .i64 (n : Int), .int .i64 (k : Int)], .slice ao cs.length cap, .slice ao3 picks.length cap3] w fun e w' => e = .returned (.bool true) ∧ Below w.heap.size w w' := by
  have hw1 : Below w.heap.size w (w.alloc (.cells #[.int .i64 (n : Int), .int .i64 (k : Int)] 22)) := (Below.refl _ _).alloc (Nat.le_refl _) _
  have HP := Lib.hid (pin_play (n : Int) (k : Int) ao b o cap cs ao3 b3 o3 cap3 picks (w.alloc (.cells #[.int .i64 (n : Int), .int .i64 (k : Int)] 22)) ha (fun h => by have := hb h; simp; omega) (hc.stays hw1 hb) hcap ha3 (fun h => by have := hb3 h; simp; omega) (hc3.stays hw1 hb3) hnp)
  have HQ0 : Hid (RowBlk 22 (w.alloc (.cells #[.int .i64 (n : Int), .int .i64 (k : Int)] 22)) w.heap.size [.int .i64 (n : Int), .int .i64 (k : Int)]) := Lib.hid (RowBlk.new _ _ _)
  have HE := Lib.hid he
  have HL := Lib.hid hl
  have HA := Lib.hid ha
  have HB := Lib.hid hb
  have HC := Lib.hid hc
  have HAG := Lib.hid hA
  have HRR := Lib.hid hR
  have HW1 := Lib.hid hw1
  have k1 : ¬ (k : Int) < 1 := by omega
  have k2 : ¬ 8 < (k : Int) := by omega
  have hk1 := hk.1
  have hk2 := hk.2
  have hn16 := hn.2
  have hwk1 : IntKind.i64.wrap ((n : Int) + (k : Int)) = (n : Int) + (k : Int) := by unfold IntKind.wrap; simp [IntKind.bits, IntKind.signed]; omega
  have hwk2 : IntKind.i64.wrap ((n : Int) + (k : Int) + 1) = (n : Int) + (k : Int) + 1 := by unfold IntKind.wrap; simp [IntKind.bits, IntKind.signed]; omega
  have hwk3 : IntKind.i64.wrap ((k : Int) + 2) = (k : Int) + 2 := by unfold IntKind.wrap; simp [IntKind.bits, IntKind.signed]; omega
  clear hk hn ha hb hc hcap ha3 hb3 hc3 he hl hA hR hw1
  go_enter Try.func6, Try.ntmps6
  go_wp2_with fail
  refine (many_no _ _ _ _ _ _ _ hnp HL.out).mono ?_
  rintro e w1 ⟨rfl, rfl⟩
  go_wp2_with fail
  refine HP.out.mono ?_
  rintro e w2 hP
  have hG := hP.good HE.out
  rw [HRR.out] at hG
  obtain ⟨aoE, gE, capE, gw, rfl, hao, hev, hrw, hgw, hb2⟩ := hG
  have HAO := Lib.hid hao
  have z2 := hb2.size
  have z1 : (w.alloc (.cells #[.int .i64 (n : Int), .int .i64 (k : Int)] 22)).heap.size = w.heap.size + 1 := by simp
  have HEV : Hid (EvAllG (w.heap.size + 1) (w2.alloc (.cells (repVs (.slice aoE R.evs.length capE) gw R).toArray 32)) gE R.evs) := Lib.hid (by rw [← z1]; exact hev.below ((Below.refl _ _).alloc (Nat.le_refl _) _) (Nat.le_refl _))
  have HRE : Hid (RowBlk 32 (w2.alloc (.cells (repVs (.slice aoE R.evs.length capE) gw R).toArray 32)) w2.heap.size (repVs (.slice aoE R.evs.length capE) gw R)) := Lib.hid (RowBlk.new _ _ _)
  have HQB : Hid (RowBlk 22 (w2.alloc (.cells (repVs (.slice aoE R.evs.length capE) gw R).toArray 32)) w.heap.size [.int .i64 (n : Int), .int .i64 (k : Int)]) := Lib.hid ((HQ0.out.same (hb2.block _ HQ0.out.lt)).alloc _)
  have HB3 : Hid (Below w.heap.size w (w2.alloc (.cells (repVs (.slice aoE R.evs.length capE) gw R).toArray 32))) := Lib.hid ((HW1.out.trans (hb2.mono (by omega))).alloc (by omega) _)
  clear hP hb2 hev hrw hao HP
  unfold repVs
  rw [show (repVs (.slice aoE R.evs.length capE) gw R).toArray = #[.slice aoE R.evs.length capE, .slice (some ⟨gw, 0, none⟩) R.ws.length R.ws.length, .int .i64 (R.cn.r : Int), .int .i64 (R.cn.w : Int), .int .i64 (R.cn.s : Int), .int .i64 (R.cn.a : Int), .int .i64 (R.cn.f : Int), .int .i64 (R.ticks : Int), .int .i64 (R.idle : Int)] from rfl] at HEV HRE HB3 HQB
  obtain ⟨w0, hw0⟩ : ∃ w0, w2.alloc (.cells #[.slice aoE R.evs.length capE, .slice (some ⟨gw, 0, none⟩) R.ws.length R.ws.length, .int .i64 (R.cn.r : Int), .int .i64 (R.cn.w : Int), .int .i64 (R.cn.s : Int), .int .i64 (R.cn.a : Int), .int .i64 (R.cn.f : Int), .int .i64 (R.ticks : Int), .int .i64 (R.idle : Int)] 32) = w0 := ⟨_, rfl⟩
  rw [hw0] at HEV HRE HB3 HQB
  have q0k : (w2.alloc (.cells #[.slice aoE R.evs.length capE, .slice (some ⟨gw, 0, none⟩) R.ws.length R.ws.length, .int .i64 (R.cn.r : Int), .int .i64 (R.cn.w : Int), .int .i64 (R.cn.s : Int), .int .i64 (R.cn.a : Int), .int .i64 (R.cn.f : Int), .int .i64 (R.ticks : Int), .int .i64 (R.idle : Int)] 32)).cell? ⟨w.heap.size, 0, none⟩ = some (.int .i64 (n : Int)) := by rw [hw0]; exact HQB.out.cell rfl
  have q1k : (w2.alloc (.cells #[.slice aoE R.evs.length capE, .slice (some ⟨gw, 0, none⟩) R.ws.length R.ws.length, .int .i64 (R.cn.r : Int), .int .i64 (R.cn.w : Int), .int .i64 (R.cn.s : Int), .int .i64 (R.cn.a : Int), .int .i64 (R.cn.f : Int), .int .i64 (R.ticks : Int), .int .i64 (R.idle : Int)] 32)).cell? ⟨w.heap.size, 1, none⟩ = some (.int .i64 (k : Int)) := by rw [hw0]; exact HQB.out.cell rfl
  have HW0 := Lib.hid hw0
  clear hw0
  go_wp2_with fail
  rw [HW0.out] at q0k q1k ⊢
  generalize Value.tuple #[.agg #[.slice aoE R.evs.length capE, .slice (some ⟨gw, 0, none⟩) R.ws.length R.ws.length, .int .i64 (R.cn.r : Int), .int .i64 (R.cn.w : Int), .int .i64 (R.cn.s : Int), .int .i64 (R.cn.a : Int), .int .i64 (R.cn.f : Int), .int .i64 (R.ticks : Int), .int .i64 (R.idle : Int)], .int .i64 0] = V1
  generalize (.agg #[.slice aoE R.evs.length capE, .slice (some ⟨gw, 0, none⟩) R.ws.length R.ws.length, .int .i64 (R.cn.r : Int), .int .i64 (R.cn.w : Int), .int .i64 (R.cn.s : Int), .int .i64 (R.cn.a : Int), .int .i64 (R.cn.f : Int), .int .i64 (R.ticks : Int), .int .i64 (R.idle : Int)] : Value) = V2
  have HCALL : Hid (∀ W, Below w0.heap.size w0 W → CallsAt W b o cs) := Lib.hid (fun W hW => HC.out.stays (HB3.out.trans (hW.mono HB3.out.size)) HB.out)
  have hqlt := HQB.out.lt
  clear q0k q1k
  go_loopw [35] (fun kv wr => ∃ (j : Nat), j ≤ R.evs.length ∧ kv = .int .i64 j ∧ Hid (Below w0.heap.size w0 wr)) (fun kv _ => R.evs.length - (intOf kv).toNat)
  case atStart => exact ⟨0, Nat.zero_le _, rfl, Lib.hid (Below.refl _ _)⟩
  case round =>
    obtain ⟨j, hj, rfl, hBr⟩ := hrel
    have z0 := hBr.out.size
    by_cases hlt : j < R.evs.length
    · obtain rfl := HAO.out (by omega)
      obtain ⟨x, hx⟩ : ∃ x, R.evs[j]? = some x := ⟨R.evs[j], List.getElem?_eq_getElem (by omega)⟩
      have hxm := List.mem_of_getElem? hx
      obtain ⟨hb1, hb2⟩ := HAG.out.call x hxm
      obtain ⟨y, hy⟩ : ∃ y, cs[x.i]? = some y := ⟨cs[x.i], List.getElem?_eq_getElem hb1⟩
      have HRD := Lib.hid (HAG.out.rd x hxm y hy)
      obtain ⟨hgB, la, ka, lc, kc, hv⟩ := (HEV.out.below hBr.out (Nat.le_refl _)) j x hx
      have v0 := hv.c0
      have v3 := hv.c3
      have v1 := hv.c1
      have v2 := hv.c2
      have v4 := hv.c4
      have v5 := hv.c5
      have v6 := hv.c6
      have v7 := hv.c7
      have hgl := World.block_lt_of_cell? wr ⟨gE, j * 8, none⟩ v0
      have qn : wr.cell? ⟨w.heap.size, 0, none⟩ = some (.int .i64 (n : Int)) := (HQB.out.same (hBr.out.block _ HQB.out.lt)).cell rfl
      have qk : wr.cell? ⟨w.heap.size, 1, none⟩ = some (.int .i64 (k : Int)) := (HQB.out.same (hBr.out.block _ HQB.out.lt)).cell rfl
      have re0 : wr.cell? ⟨w2.heap.size, 0, none⟩ = some (.slice (some ⟨gE, 0, none⟩) R.evs.length capE) := (HRE.out.same (hBr.out.block _ HRE.out.lt)).cell rfl
      obtain rfl := HA.out (by omega)
      obtain ⟨c0, c1, c2, c3, c4, c5, _⟩ := HCALL.out wr hBr.out x.i y hy
      have hi0 : (0 : Int) ≤ (j : Int) := Int.natCast_nonneg _
      have hi1 : (j : Int) < (R.evs.length : Int) := by omega
      have hk0 : (0 : Int) ≤ (x.i : Int) := Int.natCast_nonneg _
      have hkk1 : (x.i : Int) < (cs.length : Int) := by omega
      have b1 : ¬ (x.i : Int) < 0 := by omega
      have b2 : ¬ (cs.length : Int) ≤ (x.i : Int) := by omega
      have b3 : ¬ (n : Int) + (k : Int) + 1 < (x.steps : Int) := by omega
      have hbl : b < wr.heap.size := World.block_lt_of_cell? wr ⟨b, o + x.i * 6, none⟩ c0
      have hql : w.heap.size < wr.heap.size := by omega
      have HB5 : Hid (∀ v : Obj, Below w0.heap.size w0 (wr.alloc v)) := Lib.hid (fun v => hBr.out.alloc z0 v)
      by_cases e1 : y.k = 1
      · have b4 : ¬ (k : Int) + 2 < (x.steps : Int) := by have := HRD.out e1; omega
        rw [e1] at c2
        clear hv hx hy hxm e1
        go_wp2_with fail
        go_roundw
        case rel => exact ⟨j + 1, by omega, by go_num, Lib.hid (HB5.out _)⟩
        case measure => simp [intOf]; omega
      · have e1b : (y.k == 1) = false := by rw [beq_eq_false_iff_ne]; exact e1
        clear hv hx hy hxm
        go_wp2_with fail
        go_roundw
        case rel => exact ⟨j + 1, by omega, by go_num, Lib.hid (HB5.out _)⟩
        case measure => simp [intOf]; omega
    · have hjn : ¬ (j : Int) < (R.evs.length : Int) := by omega
      have HB4 : Hid (Below w.heap.size w wr) := Lib.hid (HB3.out.trans (hBr.out.mono HB3.out.size))
      go_wp2_with fail
      refine (slow_any _).mono ?_
      rintro e w4 ⟨rfl, hb4⟩
      have HB5 : Hid (Below w.heap.size w w4) := Lib.hid (HB4.out.trans (hb4.mono HB4.out.size))
      clear hb4
      go_wp2_with fail
      go_ret
      exact ⟨rfl, HB5.out⟩
theorem psteps_all (q0 q1 : Int) (ao : Option Addr) (b o cap : Nat) (cs : List CallV) (ao3 : Option Addr) (b3 o3 cap3 : Nat) (picks : List Int) (w : World) (ha : 0 < cs.length → ao = some ⟨b, o, none⟩) (hb : 0 < cs.length → b < w.heap.size) (hc : CallsAt w b o cs) (hcap : ao = none → cap = 0)
    (ha3 : 0 < picks.length → ao3 = some ⟨b3, o3, none⟩) (hb3 : 0 < picks.length → b3 < w.heap.size) (hc3 : ICells w b3 o3 picks) (hnp : picks.length ≤ 9223372036854775807) (hcl : cs.length ≤ 9223372036854775807) :
    Calls Try.prog 6 #[.agg #[.int .i64 q0, .int .i64 q1], .slice ao cs.length cap, .slice ao3 picks.length cap3] w fun e w' => e = .returned (.bool true) ∧ Below w.heap.size w w' := by
  by_cases hl : longB cs.length picks.length
  · exact psteps_long q0 q1 ao ao3 cs.length cap picks.length cap3 w hnp hl
  · by_cases he : playErr q0 cs picks.length (pinErr q1) = 0
    · obtain ⟨n, rfl, hn1, hth, hpl, _, her⟩ := play_threads he
      obtain ⟨k, rfl, hk, hsz⟩ := pin_made (n := n) her
      have hF := pin_end hn1 hk.1 hth hpl
      have hevs := endM_evs (M := pinM n k) cs (List.replicate (1 + (n + 1) * (1 + k)) 0) ⟨List.replicate (n + 1) 0, 0, 0⟩ picks
      have hR := rowI_end (M := pinM n k) cs (List.replicate (1 + (n + 1) * (1 + k)) 0) ⟨List.replicate (n + 1) 0, 0, 0⟩ picks
      refine psteps_good n k ao b o cap cs ao3 b3 o3 cap3 picks w hl ha hb hc hcap ha3 hb3 hc3 hnp hcl he hn1 hk (repOf (endM (M := pinM n k) cs (List.replicate (1 + (n + 1) * (1 + k)) 0) ⟨List.replicate (n + 1) 0, 0, 0⟩ picks)) (by rw [hsz]; rfl) (pinOk_of hn1.1 hR hF) ?_
      show ((endM (M := pinM n k) cs (List.replicate (1 + (n + 1) * (1 + k)) 0) ⟨List.replicate (n + 1) 0, 0, 0⟩ picks).evs.map _).length ≤ _
      rw [List.length_map]; omega
    · exact psteps_bad q0 q1 ao b o cap cs ao3 b3 o3 cap3 picks w hl ha hb hc hcap ha3 hb3 hc3 hnp he
end Go.Proofs.Ytpoebpnmbogmnaa
