/- Walk of the law LlscSince. -/
import Derived.Test.YtjbbcflifoakhaaYLD
import Derived.Deep.Cut
namespace Go.Proofs.Ytjbbcflifoakhaa
open Go.RowKit
set_option linter.unusedVariables false
set_option linter.unusedSimpArgs false
set_option maxRecDepth 100000 in
set_option maxHeartbeats 4000000 in
theorem written_any (r : Bool) (b o cap : Nat) (cs : List CallV) (B gE capE f j : Nat) (evs : List EvR) (x : EvR) (y : CallV) (w : World) (hC : CallsAt w b o cs) (hEV : EvAllG B w gE evs) (hx : evs[j]? = some x) (hy : cs[x.i]? = some y) (hcall : ∀ v ∈ evs, v.i < cs.length) (hel : evs.length ≤ 70000) (hcl : cs.length ≤ 9223372036854775807) (hf : f < j)
    (hr : r = true ↔ ∃ g u, f < g ∧ g < j ∧ (evs.map pairE)[g]? = some u ∧ isWr cs y.a u = true) :
    Calls Try.prog 9 #[.slice (some ⟨b, o, none⟩) cs.length cap, .slice (some ⟨gE, 0, none⟩) evs.length capE, .int .i64 (f : Int), .int .i64 (j : Int)] w fun e w' => e = .returned (.bool r) ∧ Below w.heap.size w w' := by
  have hjl := (List.getElem?_eq_some_iff.1 hx).1
  have hil := (List.getElem?_eq_some_iff.1 hy).1
  obtain ⟨y0, _⟩ := hC x.i y hy
  have HC := Lib.hid hC
  have HEV := Lib.hid hEV
  have HCALL := Lib.hid hcall
  have hbl := World.block_lt_of_cell? w ⟨b, o + x.i * 6, none⟩ y0
  have hbl' : b < w.heap.size := hbl
  have hj0 : (0 : Int) ≤ (j : Int) := Int.natCast_nonneg _
  have hj1 : (j : Int) < (evs.length : Int) := by omega
  have hi0 : (0 : Int) ≤ (x.i : Int) := Int.natCast_nonneg _
  have hi1 : (x.i : Int) < (cs.length : Int) := by omega
  have HX := Lib.hid hx
  have HY := Lib.hid hy
  have HRR := Lib.hid hr
  clear hC hEV hcall hx hy hbl y0 hr
  go_enter Try.func9, Try.ntmps9
  go_wp2_with fail
  go_loopw [9] (fun kv wr => ∃ (k : Nat), f < k ∧ k ≤ j ∧ kv = .int .i64 k ∧ Hid (∀ g u, f < g → g < k → (evs.map pairE)[g]? = some u → isWr cs y.a u = false) ∧ Hid (Below w.heap.size w wr)) (fun kv _ => j - (intOf kv).toNat)
  case atStart => exact ⟨f + 1, by omega, by omega, by go_num, Lib.hid (fun g u h1 h2 => absurd h1 (by omega)), Lib.hid (Below.refl _ _)⟩
  case round =>
    obtain ⟨k, hfk, hk, rfl, hNo, hBr⟩ := hrel
    have hrw := hBr.out.size
    by_cases hlt : k < j
    · have hc1 : (k : Int) < (j : Int) := by omega
      obtain ⟨u, hu⟩ : ∃ u, evs[k]? = some u := ⟨evs[k], List.getElem?_eq_getElem (by omega)⟩
      have hui := HCALL.out u (List.mem_of_getElem? hu)
      obtain ⟨z, hz⟩ : ∃ z, cs[u.i]? = some z := ⟨cs[u.i], List.getElem?_eq_getElem hui⟩
      obtain ⟨_, la2, ka2, lc2, kc2, hv2⟩ := (HEV.out.below hBr.out (Nat.le_refl _)) k u hu
      obtain ⟨_, la, ka, lc, kc, hv⟩ := (HEV.out.below hBr.out (Nat.le_refl _)) j x HX.out
      obtain ⟨z0, z1, z2, z3, z4, z5, _⟩ := (HC.out.stays hBr.out (fun _ => hbl')) u.i z hz
      obtain ⟨y0, y1, y2, y3, y4, y5, _⟩ := (HC.out.stays hBr.out (fun _ => hbl')) x.i y HY.out
      have u0 := hv2.c0
      have u5 := hv2.c5
      have v0 := hv.c0
      have hk0 : (0 : Int) ≤ (k : Int) := Int.natCast_nonneg _
      have hk1 : (k : Int) < (evs.length : Int) := by omega
      have hn0 : (0 : Int) ≤ (u.i : Int) := Int.natCast_nonneg _
      have hn1 : (u.i : Int) < (cs.length : Int) := by omega
      have hgl := World.block_lt_of_cell? wr ⟨gE, k * 8, none⟩ u0
      have hgl' : gE < wr.heap.size := hgl
      have hzl := World.block_lt_of_cell? wr ⟨b, o + u.i * 6, none⟩ z0
      have HP := Lib.hid (pair_get hu)
      have HWR : Hid (isWr cs y.a (pairE u) = decide (z.o = 0 ∧ z.k = 1 ∧ z.a = y.a ∧ u.ans.val = 1)) := Lib.hid (isWr_some hz)
      have hnw : f < k + 1 := by omega
      clear hv2 hu hz hv
      go_upto_region 5 with fail
      have hbA : RowBlk 43 (wr.alloc (.cells #[.int .i64 z.t, .int .i64 z.o, .int .i64 z.k, .int .u64 (z.a : Int), .int .u64 (z.b : Int), .int .u64 (z.c : Int)] 43)) wr.heap.size [.int .i64 z.t, .int .i64 z.o, .int .i64 z.k, .int .u64 (z.a : Int), .int .u64 (z.b : Int), .int .u64 (z.c : Int)] := RowBlk.new _ _ _
      have HB5 : Hid (Below w.heap.size w (wr.alloc (.cells #[.int .i64 z.t, .int .i64 z.o, .int .i64 z.k, .int .u64 (z.a : Int), .int .u64 (z.b : Int), .int .u64 (z.c : Int)] 43))) := Lib.hid (hBr.out.alloc hrw _)
      have hstay : ∀ (g k : Nat), g < wr.heap.size → (wr.alloc (.cells #[.int .i64 z.t, .int .i64 z.o, .int .i64 z.k, .int .u64 (z.a : Int), .int .u64 (z.b : Int), .int .u64 (z.c : Int)] 43)).cell? ⟨g, k, none⟩ = wr.cell? ⟨g, k, none⟩ := fun g k hg => World.cell?_alloc_past _ _ _ hg
      have e5 := (hstay gE (k * 8 + 5) hgl').trans u5
      have e0 := (hstay gE (j * 8) hgl').trans v0
      have ey := (hstay b (o + x.i * 6 + 3) hzl).trans y3
      generalize wr.alloc (.cells #[.int .i64 z.t, .int .i64 z.o, .int .i64 z.k, .int .u64 (z.a : Int), .int .u64 (z.b : Int), .int .u64 (z.c : Int)] 43) = W at hbA HB5 hstay e5 e0 ey ⊢
      have d1 := hbA.cell (i := 1) rfl
      have d2 := hbA.cell (i := 2) rfl
      have d3 := hbA.cell (i := 3) rfl
      clear hbA hstay u0 u5 v0 z0 z1 z2 z3 z4 z5 y0 y1 y2 y3 y4 y5
      by_cases h0 : z.o = 0
      · have hb0 : (z.o == 0) = true := by rw [beq_iff_eq]; omega
        have hd0 : decide (z.o = 0) = true := decide_eq_true (by omega)
        by_cases h1 : z.k = 1
        · have hb1 : (z.k == 1) = true := by rw [beq_iff_eq]; omega
          have hd1 : decide (z.k = 1) = true := decide_eq_true (by omega)
          by_cases h2 : z.a = y.a
          · have hb2 : (((z.a : Nat) : Int) == ((y.a : Nat) : Int)) = true := by rw [beq_iff_eq]; omega
            have hd2 : decide (((z.a : Nat) : Int) = ((y.a : Nat) : Int)) = true := decide_eq_true (by omega)
            by_cases h3 : u.ans.val = 1
            · have hb3 : (((u.ans.val : Nat) : Int) == 1) = true := by rw [beq_iff_eq]; omega
              have hd3 : decide (((u.ans.val : Nat) : Int) = 1) = true := decide_eq_true (by omega)
              obtain rfl : r = true := HRR.out.2 ⟨k, _, hfk, hlt, HP.out, HWR.out.trans (decide_eq_true ⟨h0, h1, h2, h3⟩)⟩
              clear h0 h1 h2 h3
              go_quiet (fail)
              go_wp2_with fail
              go_ret
              exact ⟨rfl, below_drewN HB5.out _⟩
            · have hb3 : (((u.ans.val : Nat) : Int) == 1) = false := by rw [beq_eq_false_iff_ne]; omega
              have hd3 : decide (((u.ans.val : Nat) : Int) = 1) = false := decide_eq_false (by omega)
              have HN : Hid (∀ g u, f < g → g < k + 1 → (evs.map pairE)[g]? = some u → isWr cs y.a u = false) := Lib.hid (fun g u' a1 a2 a3 => by
                by_cases hgk : g = k
                · subst hgk
                  rw [HP.out] at a3; cases a3
                  exact HWR.out.trans (decide_eq_false (fun h => by omega))
                · exact hNo.out g u' a1 (by omega) a3)
              clear h0 h1 h2 h3
              go_quiet (fail)
              go_wp2_with fail
              go_roundw
              case rel => exact ⟨k + 1, by omega, by omega, by go_num, HN, Lib.hid (below_drewN HB5.out _)⟩
              case measure => simp [RowKit.intOf]; omega
          · have hb2 : (((z.a : Nat) : Int) == ((y.a : Nat) : Int)) = false := by rw [beq_eq_false_iff_ne]; omega
            have hd2 : decide (((z.a : Nat) : Int) = ((y.a : Nat) : Int)) = false := decide_eq_false (by omega)
            have HN : Hid (∀ g u, f < g → g < k + 1 → (evs.map pairE)[g]? = some u → isWr cs y.a u = false) := Lib.hid (fun g u' a1 a2 a3 => by
              by_cases hgk : g = k
              · subst hgk
                rw [HP.out] at a3; cases a3
                exact HWR.out.trans (decide_eq_false (fun h => by omega))
              · exact hNo.out g u' a1 (by omega) a3)
            clear h0 h1 h2
            go_quiet (fail)
            go_wp2_with fail
            go_roundw
            case rel => exact ⟨k + 1, by omega, by omega, by go_num, HN, Lib.hid (below_drewN HB5.out _)⟩
            case measure => simp [RowKit.intOf]; omega
        · have hb1 : (z.k == 1) = false := by rw [beq_eq_false_iff_ne]; omega
          have hd1 : decide (z.k = 1) = false := decide_eq_false (by omega)
          have HN : Hid (∀ g u, f < g → g < k + 1 → (evs.map pairE)[g]? = some u → isWr cs y.a u = false) := Lib.hid (fun g u' a1 a2 a3 => by
            by_cases hgk : g = k
            · subst hgk
              rw [HP.out] at a3; cases a3
              exact HWR.out.trans (decide_eq_false (fun h => by omega))
            · exact hNo.out g u' a1 (by omega) a3)
          clear h0 h1
          go_quiet (fail)
          go_wp2_with fail
          go_roundw
          case rel => exact ⟨k + 1, by omega, by omega, by go_num, HN, Lib.hid (below_drewN HB5.out _)⟩
          case measure => simp [RowKit.intOf]; omega
      · have hb0 : (z.o == 0) = false := by rw [beq_eq_false_iff_ne]; omega
        have hd0 : decide (z.o = 0) = false := decide_eq_false (by omega)
        have HN : Hid (∀ g u, f < g → g < k + 1 → (evs.map pairE)[g]? = some u → isWr cs y.a u = false) := Lib.hid (fun g u' a1 a2 a3 => by
          by_cases hgk : g = k
          · subst hgk
            rw [HP.out] at a3; cases a3
            exact HWR.out.trans (decide_eq_false (fun h => by omega))
          · exact hNo.out g u' a1 (by omega) a3)
        clear h0
        go_quiet (fail)
        go_wp2_with fail
        go_roundw
        case rel => exact ⟨k + 1, by omega, by omega, by go_num, HN, Lib.hid (below_drewN HB5.out _)⟩
        case measure => simp [RowKit.intOf]; omega
    · obtain rfl : k = j := by omega
      have hc1 : ¬ (k : Int) < (k : Int) := by omega
      obtain rfl : r = false := by
        cases hrr : r with
        | false => rfl
        | true =>
          obtain ⟨g, u, h1, h2, h3, h4⟩ := HRR.out.1 hrr
          rw [hNo.out g u h1 h2 h3] at h4; cases h4
      go_wp2_with fail
      go_ret
      exact ⟨rfl, hBr.out⟩
structure SinceAll (cs : List CallV) (evs : List EvR) : Prop where
  call : ∀ x ∈ evs, x.i < cs.length
  ev : ∀ (i : Nat) (x : EvR) (y : CallV), evs[i]? = some x → cs[x.i]? = some y → y.o = 0 → y.k = 1 ∨ y.k = 2 → x.ans.err = 0 → SinceOk cs (evs.map pairE) i y.t y.a x.ans
set_option maxRecDepth 100000 in
set_option maxHeartbeats 16000000 in
theorem lsince_good (n k : Nat) (ao : Option Addr) (b o cap : Nat) (cs : List CallV) (ao3 : Option Addr) (b3 o3 cap3 : Nat) (picks : List Int) (w : World) (hl : ¬ longB cs.length picks.length) (ha : 0 < cs.length → ao = some ⟨b, o, none⟩) (hb : 0 < cs.length → b < w.heap.size) (hc : CallsAt w b o cs) (hcap : ao = none → cap = 0)
    (ha3 : 0 < picks.length → ao3 = some ⟨b3, o3, none⟩) (hb3 : 0 < picks.length → b3 < w.heap.size) (hc3 : ICells w b3 o3 picks) (hnp : picks.length ≤ 9223372036854775807) (hcl : cs.length ≤ 9223372036854775807) (he : playErr (n : Int) cs picks.length (llErr (k : Int)) = 0) 
    (R : RepR) (hR : repOf (endM (M := (llM (k : Int).toNat)) cs (List.replicate (llSz (k : Int)) 0) ll0 picks) = R) (hA : SinceAll cs R.evs) (hel : R.evs.length ≤ 70000) :
    Calls Try.prog 3 #[.agg #[.int .i64 (n : Int), .int .i64 (k : Int)], .slice ao cs.length cap, .slice ao3 picks.length cap3] w fun e w' => e = .returned (.bool true) ∧ Below w.heap.size w w' := by
  have hw1 : Below w.heap.size w (w.alloc (.cells #[.int .i64 (n : Int), .int .i64 (k : Int)] 22)) := (Below.refl _ _).alloc (Nat.le_refl _) _
  have HP := Lib.hid (ll_play (n : Int) (k : Int) ao b o cap cs ao3 b3 o3 cap3 picks (w.alloc (.cells #[.int .i64 (n : Int), .int .i64 (k : Int)] 22)) ha (fun h => by have := hb h; simp; omega) (hc.stays hw1 hb) hcap ha3 (fun h => by have := hb3 h; simp; omega) (hc3.stays hw1 hb3) hnp)
  have HQ0 : Hid (RowBlk 22 (w.alloc (.cells #[.int .i64 (n : Int), .int .i64 (k : Int)] 22)) w.heap.size [.int .i64 (n : Int), .int .i64 (k : Int)]) := Lib.hid (RowBlk.new _ _ _)
  have HE := Lib.hid he
  have HL := Lib.hid hl
  have HA := Lib.hid ha
  have HB := Lib.hid hb
  have HC := Lib.hid hc
  have HAG := Lib.hid hA
  have HRR := Lib.hid hR
  have HW1 := Lib.hid hw1
  clear ha hb hc hcap ha3 hb3 hc3 he hl hA hR hw1
  go_enter Try.func3, Try.ntmps3
  go_wp2_with fail
  refine (many_no _ _ _ _ _ _ _ hnp HL.out).mono ?_
  rintro e w1 ⟨rfl, rfl⟩
  go_wp2_with fail
  refine HP.out.mono ?_
  rintro e w2 hP
  have hG := hP.good HE.out
  rw [HRR.out] at hG
  obtain ⟨aoE, gE, capE, gw, rfl, hao, hev, hrw, hgw, hb2⟩ := hG
  have HAO := Lib.hid hao
  have z2 := hb2.size
  have z1 : (w.alloc (.cells #[.int .i64 (n : Int), .int .i64 (k : Int)] 22)).heap.size = w.heap.size + 1 := by simp
  have HEV : Hid (EvAllG (w.heap.size + 1) (w2.alloc (.cells (repVs (.slice aoE R.evs.length capE) gw R).toArray 32)) gE R.evs) := Lib.hid (by rw [← z1]; exact hev.below ((Below.refl _ _).alloc (Nat.le_refl _) _) (Nat.le_refl _))
  have HRE : Hid (RowBlk 32 (w2.alloc (.cells (repVs (.slice aoE R.evs.length capE) gw R).toArray 32)) w2.heap.size (repVs (.slice aoE R.evs.length capE) gw R)) := Lib.hid (RowBlk.new _ _ _)
  have HQB : Hid (RowBlk 22 (w2.alloc (.cells (repVs (.slice aoE R.evs.length capE) gw R).toArray 32)) w.heap.size [.int .i64 (n : Int), .int .i64 (k : Int)]) := Lib.hid ((HQ0.out.same (hb2.block _ HQ0.out.lt)).alloc _)
  have HB3 : Hid (Below w.heap.size w (w2.alloc (.cells (repVs (.slice aoE R.evs.length capE) gw R).toArray 32))) := Lib.hid ((HW1.out.trans (hb2.mono (by omega))).alloc (by omega) _)
  clear hP hb2 hev hrw hao HP
  unfold repVs
  rw [show (repVs (.slice aoE R.evs.length capE) gw R).toArray = #[.slice aoE R.evs.length capE, .slice (some ⟨gw, 0, none⟩) R.ws.length R.ws.length, .int .i64 (R.cn.r : Int), .int .i64 (R.cn.w : Int), .int .i64 (R.cn.s : Int), .int .i64 (R.cn.a : Int), .int .i64 (R.cn.f : Int), .int .i64 (R.ticks : Int), .int .i64 (R.idle : Int)] from rfl] at HEV HRE HB3 HQB
  obtain ⟨w0, hw0⟩ : ∃ w0, w2.alloc (.cells #[.slice aoE R.evs.length capE, .slice (some ⟨gw, 0, none⟩) R.ws.length R.ws.length, .int .i64 (R.cn.r : Int), .int .i64 (R.cn.w : Int), .int .i64 (R.cn.s : Int), .int .i64 (R.cn.a : Int), .int .i64 (R.cn.f : Int), .int .i64 (R.ticks : Int), .int .i64 (R.idle : Int)] 32) = w0 := ⟨_, rfl⟩
  rw [hw0] at HEV HRE HB3 HQB
  have q0k : (w2.alloc (.cells #[.slice aoE R.evs.length capE, .slice (some ⟨gw, 0, none⟩) R.ws.length R.ws.length, .int .i64 (R.cn.r : Int), .int .i64 (R.cn.w : Int), .int .i64 (R.cn.s : Int), .int .i64 (R.cn.a : Int), .int .i64 (R.cn.f : Int), .int .i64 (R.ticks : Int), .int .i64 (R.idle : Int)] 32)).cell? ⟨w.heap.size, 0, none⟩ = some (.int .i64 (n : Int)) := by rw [hw0]; exact HQB.out.cell rfl
  have q1k : (w2.alloc (.cells #[.slice aoE R.evs.length capE, .slice (some ⟨gw, 0, none⟩) R.ws.length R.ws.length, .int .i64 (R.cn.r : Int), .int .i64 (R.cn.w : Int), .int .i64 (R.cn.s : Int), .int .i64 (R.cn.a : Int), .int .i64 (R.cn.f : Int), .int .i64 (R.ticks : Int), .int .i64 (R.idle : Int)] 32)).cell? ⟨w.heap.size, 1, none⟩ = some (.int .i64 (k : Int)) := by rw [hw0]; exact HQB.out.cell rfl
  have HW0 := Lib.hid hw0
  clear hw0
  go_wp2_with fail
  rw [HW0.out] at q0k q1k ⊢
  generalize Value.tuple #[.agg #[.slice aoE R.evs.length capE, .slice (some ⟨gw, 0, none⟩) R.ws.length R.ws.length, .int .i64 (R.cn.r : Int), .int .i64 (R.cn.w : Int), .int .i64 (R.cn.s : Int), .int .i64 (R.cn.a : Int), .int .i64 (R.cn.f : Int), .int .i64 (R.ticks : Int), .int .i64 (R.idle : Int)], .int .i64 0] = V1
  generalize (.agg #[.slice aoE R.evs.length capE, .slice (some ⟨gw, 0, none⟩) R.ws.length R.ws.length, .int .i64 (R.cn.r : Int), .int .i64 (R.cn.w : Int), .int .i64 (R.cn.s : Int), .int .i64 (R.cn.a : Int), .int .i64 (R.cn.f : Int), .int .i64 (R.ticks : Int), .int .i64 (R.idle : Int)] : Value) = V2
  have HCALL : Hid (∀ W, Below w0.heap.size w0 W → CallsAt W b o cs) := Lib.hid (fun W hW => HC.out.stays (HB3.out.trans (hW.mono HB3.out.size)) HB.out)
  have hqlt := HQB.out.lt
  clear q0k q1k
  go_loopw [38] (fun kv wr => ∃ (j : Nat), j ≤ R.evs.length ∧ kv = .int .i64 j ∧ Hid (Below w0.heap.size w0 wr)) (fun kv _ => R.evs.length - (intOf kv).toNat)
  case atStart => exact ⟨0, Nat.zero_le _, rfl, Lib.hid (Below.refl _ _)⟩
  case round =>
    obtain ⟨j, hj, rfl, hBr⟩ := hrel
    have z0 := hBr.out.size
    have re0 : wr.cell? ⟨w2.heap.size, 0, none⟩ = some (.slice aoE R.evs.length capE) := (HRE.out.same (hBr.out.block _ HRE.out.lt)).cell rfl
    by_cases hlt : j < R.evs.length
    · obtain rfl := HAO.out (by omega)
      obtain ⟨x, hx⟩ : ∃ x, R.evs[j]? = some x := ⟨R.evs[j], List.getElem?_eq_getElem (by omega)⟩
      have hb1 := HAG.out.call x (List.mem_of_getElem? hx)
      obtain ⟨hgB, la, ka, lc, kc, hv⟩ := (HEV.out.below hBr.out (Nat.le_refl _)) j x hx
      have v0 := hv.c0
      have hgl := World.block_lt_of_cell? wr ⟨gE, j * 8, none⟩ v0
      have hi0 : (0 : Int) ≤ (j : Int) := Int.natCast_nonneg _
      have hi1 : (j : Int) < (R.evs.length : Int) := by omega
      have b1 : ¬ (x.i : Int) < 0 := by omega
      have b2 : ¬ (cs.length : Int) ≤ (x.i : Int) := by omega
      clear hv hx
      go_wp2_with fail
      go_roundw
      case rel => exact ⟨j + 1, by omega, by go_num, hBr⟩
      case measure => simp [intOf]; omega
    · have hjn : ¬ (j : Int) < (R.evs.length : Int) := by omega
      have HBs := hBr
      go_wp2_with fail
      obtain ⟨wq, hwq⟩ : ∃ wq, wr = wq := ⟨_, rfl⟩
      go_loopw [63] (fun kv wr => ∃ (j : Nat), j ≤ R.evs.length ∧ kv = .int .i64 j ∧ Hid (Below w0.heap.size w0 wr)) (fun kv _ => R.evs.length - (intOf kv).toNat)
      case atStart => exact ⟨0, Nat.zero_le _, rfl, HBs⟩
      case round =>
        obtain ⟨j, hj, rfl, hBr⟩ := hrel
        have z0 := hBr.out.size
        have re0 : wr.cell? ⟨w2.heap.size, 0, none⟩ = some (.slice aoE R.evs.length capE) := (HRE.out.same (hBr.out.block _ HRE.out.lt)).cell rfl
        by_cases hlt : j < R.evs.length
        · obtain rfl := HAO.out (by omega)
          obtain ⟨x, hx⟩ : ∃ x, R.evs[j]? = some x := ⟨R.evs[j], List.getElem?_eq_getElem (by omega)⟩
          have hb1 := HAG.out.call x (List.mem_of_getElem? hx)
          obtain ⟨y, hy⟩ : ∃ y, cs[x.i]? = some y := ⟨cs[x.i], List.getElem?_eq_getElem hb1⟩
          obtain ⟨hgB, la, ka, lc, kc, hv⟩ := (HEV.out.below hBr.out (Nat.le_refl _)) j x hx
          have v0 := hv.c0
          have v1 := hv.c1
          have v2 := hv.c2
          have v3 := hv.c3
          have v4 := hv.c4
          have v5 := hv.c5
          have v6 := hv.c6
          have v7 := hv.c7
          have hgl := World.block_lt_of_cell? wr ⟨gE, j * 8, none⟩ v0
          obtain rfl := HA.out (by omega)
          obtain ⟨c0, c1, c2, c3, c4, c5, _⟩ := HCALL.out wr hBr.out x.i y hy
          have hbl := World.block_lt_of_cell? wr ⟨b, o + x.i * 6, none⟩ c0
          have hi0 : (0 : Int) ≤ (j : Int) := Int.natCast_nonneg _
          have hi1 : (j : Int) < (R.evs.length : Int) := by omega
          have hk0 : (0 : Int) ≤ (x.i : Int) := Int.natCast_nonneg _
          have hk1 : (x.i : Int) < (cs.length : Int) := by omega
          have HS := Lib.hid (HAG.out.ev j x y hx hy)
          have HX := Lib.hid hx
          have HY := Lib.hid hy
          have hrl : w2.heap.size < wr.heap.size := Nat.lt_of_lt_of_le HRE.out.lt z0
          clear hv hx hy
          go_upto_region 17 with fail
          have hbE : RowBlk 41 ((wr.alloc (.cells #[.int .i64 (x.i : Int), .int .i64 (x.inv : Int), .int .i64 (x.resp : Int), .int .i64 (x.steps : Int), .int .i64 (x.ans.err : Int), .int .u64 (x.ans.val : Int), .slice la x.ans.list.length lc, .slice ka x.key.length kc] 41)).alloc (.cells #[.int .i64 y.t, .int .i64 y.o, .int .i64 y.k, .int .u64 (y.a : Int), .int .u64 (y.b : Int), .int .u64 (y.c : Int)] 43)) wr.heap.size [.int .i64 (x.i : Int), .int .i64 (x.inv : Int), .int .i64 (x.resp : Int), .int .i64 (x.steps : Int), .int .i64 (x.ans.err : Int), .int .u64 (x.ans.val : Int), .slice la x.ans.list.length lc, .slice ka x.key.length kc] := (RowBlk.new _ _ _).alloc _
          have hbC : RowBlk 43 ((wr.alloc (.cells #[.int .i64 (x.i : Int), .int .i64 (x.inv : Int), .int .i64 (x.resp : Int), .int .i64 (x.steps : Int), .int .i64 (x.ans.err : Int), .int .u64 (x.ans.val : Int), .slice la x.ans.list.length lc, .slice ka x.key.length kc] 41)).alloc (.cells #[.int .i64 y.t, .int .i64 y.o, .int .i64 y.k, .int .u64 (y.a : Int), .int .u64 (y.b : Int), .int .u64 (y.c : Int)] 43)) (wr.heap.size + 1) [.int .i64 y.t, .int .i64 y.o, .int .i64 y.k, .int .u64 (y.a : Int), .int .u64 (y.b : Int), .int .u64 (y.c : Int)] := by
            have h := RowBlk.new (wr.alloc (.cells #[.int .i64 (x.i : Int), .int .i64 (x.inv : Int), .int .i64 (x.resp : Int), .int .i64 (x.steps : Int), .int .i64 (x.ans.err : Int), .int .u64 (x.ans.val : Int), .slice la x.ans.list.length lc, .slice ka x.key.length kc] 41)) [.int .i64 y.t, .int .i64 y.o, .int .i64 y.k, .int .u64 (y.a : Int), .int .u64 (y.b : Int), .int .u64 (y.c : Int)] 43
            have e : (wr.alloc (.cells #[.int .i64 (x.i : Int), .int .i64 (x.inv : Int), .int .i64 (x.resp : Int), .int .i64 (x.steps : Int), .int .i64 (x.ans.err : Int), .int .u64 (x.ans.val : Int), .slice la x.ans.list.length lc, .slice ka x.key.length kc] 41)).heap.size = wr.heap.size + 1 := by simp
            rw [e] at h; exact h
          have HB5 : Hid (Below w0.heap.size w0 ((wr.alloc (.cells #[.int .i64 (x.i : Int), .int .i64 (x.inv : Int), .int .i64 (x.resp : Int), .int .i64 (x.steps : Int), .int .i64 (x.ans.err : Int), .int .u64 (x.ans.val : Int), .slice la x.ans.list.length lc, .slice ka x.key.length kc] 41)).alloc (.cells #[.int .i64 y.t, .int .i64 y.o, .int .i64 y.k, .int .u64 (y.a : Int), .int .u64 (y.b : Int), .int .u64 (y.c : Int)] 43))) := Lib.hid ((hBr.out.alloc z0 _).alloc (by simp; omega) _)
          have re5 : ((wr.alloc (.cells #[.int .i64 (x.i : Int), .int .i64 (x.inv : Int), .int .i64 (x.resp : Int), .int .i64 (x.steps : Int), .int .i64 (x.ans.err : Int), .int .u64 (x.ans.val : Int), .slice la x.ans.list.length lc, .slice ka x.key.length kc] 41)).alloc (.cells #[.int .i64 y.t, .int .i64 y.o, .int .i64 y.k, .int .u64 (y.a : Int), .int .u64 (y.b : Int), .int .u64 (y.c : Int)] 43)).cell? ⟨w2.heap.size, 0, none⟩ = some (.slice (some ⟨gE, 0, none⟩) R.evs.length capE) := (HRE.out.same (HB5.out.block _ HRE.out.lt)).cell rfl
          have hWs : ((wr.alloc (.cells #[.int .i64 (x.i : Int), .int .i64 (x.inv : Int), .int .i64 (x.resp : Int), .int .i64 (x.steps : Int), .int .i64 (x.ans.err : Int), .int .u64 (x.ans.val : Int), .slice la x.ans.list.length lc, .slice ka x.key.length kc] 41)).alloc (.cells #[.int .i64 y.t, .int .i64 y.o, .int .i64 y.k, .int .u64 (y.a : Int), .int .u64 (y.b : Int), .int .u64 (y.c : Int)] 43)).heap.size = wr.heap.size + 2 := by simp
          generalize ((wr.alloc (.cells #[.int .i64 (x.i : Int), .int .i64 (x.inv : Int), .int .i64 (x.resp : Int), .int .i64 (x.steps : Int), .int .i64 (x.ans.err : Int), .int .u64 (x.ans.val : Int), .slice la x.ans.list.length lc, .slice ka x.key.length kc] 41)).alloc (.cells #[.int .i64 y.t, .int .i64 y.o, .int .i64 y.k, .int .u64 (y.a : Int), .int .u64 (y.b : Int), .int .u64 (y.c : Int)] 43)) = W at hbE hbC HB5 re5 hWs ⊢
          have x4 := hbE.cell (i := 4) rfl
          have x5 := hbE.cell (i := 5) rfl
          have d1 := hbC.cell (i := 1) rfl
          have d2 := hbC.cell (i := 2) rfl
          have HXE := Lib.hid hbE
          clear hbE hbC v0 v1 v2 v3 v4 v5 v6 v7 c0 c1 c2 c3 c4 c5 re0
          by_cases ho : y.o = 0
          · have ob : (y.o == 0) = true := by rw [beq_iff_eq]; omega
            have od : decide (y.o = 0) = true := decide_eq_true (by omega)
            have on : (y.o != 0) = false := by rw [bne_eq_false_iff_eq]; omega
            by_cases he : x.ans.err = 0
            · have eb : (((x.ans.err : Nat) : Int) == 0) = true := by rw [beq_iff_eq]; omega
              have ed : decide (((x.ans.err : Nat) : Int) = 0) = true := decide_eq_true (by omega)
              have en : (((x.ans.err : Nat) : Int) != 0) = false := by rw [bne_eq_false_iff_eq]; omega
              by_cases hk1 : y.k = 1
              · have kb : (y.k == 1) = true := by rw [beq_iff_eq]; omega
                have kd : decide (y.k = 1) = true := decide_eq_true (by omega)
                have kn : (y.k != 1) = false := by rw [bne_eq_false_iff_eq]; omega
                obtain ⟨hv1, f, hfj, ⟨uf, hf1, hf2⟩, hf3, hf4⟩ := HS.out ho (.inl hk1) he
                have hev := HEV.out.below HB5.out (Nat.le_refl _)
                have hcw := HCALL.out W HB5.out
                have hll : (R.evs.map pairE).length = R.evs.length := List.length_map _
                have HLK := linked_any b o cap cs (w.heap.size + 1) gE capE j R.evs x y W hcw hev HX.out HY.out HAG.out.call hel hcl
                rw [lastN_of hf1 hf2 j hfj (by omega) hf3] at HLK
                have HLK := Lib.hid HLK
                clear hf1 hf2 hf3 hev hcw
                have HF4 := Lib.hid hf4
                have hf0 : ¬ (f : Int) < 0 := by omega
                have hf0d : decide ((f : Int) < 0) = false := decide_eq_false hf0
                have hv1' : ¬ (1 : Int) < (x.ans.val : Int) := by omega
                have hv1d : decide ((1 : Int) < (x.ans.val : Int)) = false := decide_eq_false hv1'
                have HV1 := Lib.hid hv1
                clear hf4
                go_upto_region 19 with fail
                refine HLK.out.mono ?_
                rintro e w5 ⟨rfl, hb5⟩
                have hE5 := HXE.out.same (hb5.block _ HXE.out.lt)
                have HB6 : Hid (Below w0.heap.size w0 w5) := Lib.hid (HB5.out.trans (hb5.mono (by omega)))
                have x5 : w5.cell? ⟨wr.heap.size, 5, none⟩ = some (.int .u64 (x.ans.val : Int)) := hE5.cell rfl
                have re5 : w5.cell? ⟨w2.heap.size, 0, none⟩ = some (.slice (some ⟨gE, 0, none⟩) R.evs.length capE) := (HRE.out.same (HB6.out.block _ HRE.out.lt)).cell rfl
                have hw5 : W.heap.size ≤ w5.heap.size := hb5.size
                have HWT : Hid (∀ (r : Bool), (r = true ↔ ∃ g u, f < g ∧ g < j ∧ (R.evs.map pairE)[g]? = some u ∧ isWr cs y.a u = true) → Calls Try.prog 9 #[.slice (some ⟨b, o, none⟩) cs.length cap, .slice (some ⟨gE, 0, none⟩) R.evs.length capE, .int .i64 (f : Int), .int .i64 (j : Int)] w5.drew fun e w' => e = .returned (.bool r) ∧ Below w5.heap.size w5.drew w') := Lib.hid (fun r hr => by
                  have hb6 : Below w0.heap.size w0 w5.drew := ⟨HB6.out.os, HB6.out.tape, HB6.out.output, HB6.out.size, HB6.out.block⟩
                  exact written_any r b o cap cs (w.heap.size + 1) gE capE f j R.evs x y w5.drew (HCALL.out _ hb6) (HEV.out.below hb6 (Nat.le_refl _)) HX.out HY.out HAG.out.call hel hcl hfj hr)
                clear hb5 hE5 x4 d1 d2
                by_cases hval : x.ans.val = 1
                · have vvb : (((x.ans.val : Nat) : Int) == 1) = true := by rw [beq_iff_eq]; omega
                  have vvd : decide (((x.ans.val : Nat) : Int) = 1) = true := decide_eq_true (by omega)
                  have vvn : (((x.ans.val : Nat) : Int) != 1) = false := by rw [bne_eq_false_iff_eq]; omega
                  have HWC := Lib.hid (HWT.out false ⟨fun h => (by cases h), fun ⟨g, u, a1, a2, a3, a4⟩ => (by have := (HF4.out.1 hval) g u a1 a2 a3; rw [a4] at this; cases this)⟩)
                  clear hval hv1 ho he hk1
                  go_wp2_with fail
                  go_region_held3 (fun w' => w'.cell? ⟨wr.heap.size, 5, none⟩ = some (.int .u64 (x.ans.val : Int)) ∧ w'.cell? ⟨w2.heap.size, 0, none⟩ = some (.slice (some ⟨gE, 0, none⟩) R.evs.length capE))
                    (first | with_reducible exact ⟨x5, re5⟩ | go_keep)
                    (first
                      | (go_at_call 9
                         refine HWC.out.mono ?_
                         rintro e w6 ⟨rfl, hb6⟩
                         have x5 : w6.cell? ⟨wr.heap.size, 5, none⟩ = some (.int .u64 (x.ans.val : Int)) := (hb6.cell (p := ⟨wr.heap.size, 5, none⟩) (World.block_lt_of_cell? w5 ⟨wr.heap.size, 5, none⟩ x5)).trans x5
                         have re5 : w6.cell? ⟨w2.heap.size, 0, none⟩ = some (.slice (some ⟨gE, 0, none⟩) R.evs.length capE) := (hb6.cell (p := ⟨w2.heap.size, 0, none⟩) (World.block_lt_of_cell? w5 ⟨w2.heap.size, 0, none⟩ re5)).trans re5
                         have HB7 : Hid (Below w0.heap.size w0 w6) := Lib.hid ((show Below w0.heap.size w0 w5.drew from ⟨HB6.out.os, HB6.out.tape, HB6.out.output, HB6.out.size, HB6.out.block⟩).trans (hb6.mono HB6.out.size))
                         clear hb6))
                  go_wp2_with fail
                  go_roundw
                  case rel => exact ⟨j + 1, by omega, by go_num, Lib.hid HB7.out⟩
                  case measure => simp [intOf]; omega
                · have vvb : (((x.ans.val : Nat) : Int) == 1) = false := by rw [beq_eq_false_iff_ne]; omega
                  have vvd : decide (((x.ans.val : Nat) : Int) = 1) = false := decide_eq_false (by omega)
                  have vvn : (((x.ans.val : Nat) : Int) != 1) = true := by rw [bne_iff_ne]; omega
                  have HWC := Lib.hid (HWT.out true ⟨fun _ => by
                    refine Classical.byContradiction fun hno => hval (HF4.out.2 fun g u a1 a2 a3 => ?_)
                    cases hb : isWr cs y.a u with
                    | false => rfl
                    | true => exact absurd ⟨g, u, a1, a2, a3, hb⟩ hno, fun _ => rfl⟩)
                  clear hval hv1 ho he hk1
                  go_wp2_with fail
                  go_region_held3 (fun w' => w'.cell? ⟨wr.heap.size, 5, none⟩ = some (.int .u64 (x.ans.val : Int)) ∧ w'.cell? ⟨w2.heap.size, 0, none⟩ = some (.slice (some ⟨gE, 0, none⟩) R.evs.length capE))
                    (first | with_reducible exact ⟨x5, re5⟩ | go_keep)
                    (first
                      | (go_at_call 9
                         refine HWC.out.mono ?_
                         rintro e w6 ⟨rfl, hb6⟩
                         have x5 : w6.cell? ⟨wr.heap.size, 5, none⟩ = some (.int .u64 (x.ans.val : Int)) := (hb6.cell (p := ⟨wr.heap.size, 5, none⟩) (World.block_lt_of_cell? w5 ⟨wr.heap.size, 5, none⟩ x5)).trans x5
                         have re5 : w6.cell? ⟨w2.heap.size, 0, none⟩ = some (.slice (some ⟨gE, 0, none⟩) R.evs.length capE) := (hb6.cell (p := ⟨w2.heap.size, 0, none⟩) (World.block_lt_of_cell? w5 ⟨w2.heap.size, 0, none⟩ re5)).trans re5
                         have HB7 : Hid (Below w0.heap.size w0 w6) := Lib.hid ((show Below w0.heap.size w0 w5.drew from ⟨HB6.out.os, HB6.out.tape, HB6.out.output, HB6.out.size, HB6.out.block⟩).trans (hb6.mono HB6.out.size))
                         clear hb6))
                  go_wp2_with fail
                  go_roundw
                  case rel => exact ⟨j + 1, by omega, by go_num, Lib.hid HB7.out⟩
                  case measure => simp [intOf]; omega
              · have kb : (y.k == 1) = false := by rw [beq_eq_false_iff_ne]; omega
                have kd : decide (y.k = 1) = false := decide_eq_false (by omega)
                have kn : (y.k != 1) = true := by rw [bne_iff_ne]; omega
                by_cases hk2 : y.k = 2
                · have lb : (y.k == 2) = true := by rw [beq_iff_eq]; omega
                  have ld : decide (y.k = 2) = true := decide_eq_true (by omega)
                  have ln : (y.k != 2) = false := by rw [bne_eq_false_iff_eq]; omega
                  obtain ⟨hv1, f, hfj, ⟨uf, hf1, hf2⟩, hf3, hf4⟩ := HS.out ho (.inr hk2) he
                  have hev := HEV.out.below HB5.out (Nat.le_refl _)
                  have hcw := HCALL.out W HB5.out
                  have hll : (R.evs.map pairE).length = R.evs.length := List.length_map _
                  have HLK := linked_any b o cap cs (w.heap.size + 1) gE capE j R.evs x y W hcw hev HX.out HY.out HAG.out.call hel hcl
                  rw [lastN_of hf1 hf2 j hfj (by omega) hf3] at HLK
                  have HLK := Lib.hid HLK
                  clear hf1 hf2 hf3 hev hcw
                  have HF4 := Lib.hid hf4
                  have hf0 : ¬ (f : Int) < 0 := by omega
                  have hf0d : decide ((f : Int) < 0) = false := decide_eq_false hf0
                  have hv1' : ¬ (1 : Int) < (x.ans.val : Int) := by omega
                  have hv1d : decide ((1 : Int) < (x.ans.val : Int)) = false := decide_eq_false hv1'
                  have HV1 := Lib.hid hv1
                  clear hf4
                  go_upto_region 19 with fail
                  refine HLK.out.mono ?_
                  rintro e w5 ⟨rfl, hb5⟩
                  have hE5 := HXE.out.same (hb5.block _ HXE.out.lt)
                  have HB6 : Hid (Below w0.heap.size w0 w5) := Lib.hid (HB5.out.trans (hb5.mono (by omega)))
                  have x5 : w5.cell? ⟨wr.heap.size, 5, none⟩ = some (.int .u64 (x.ans.val : Int)) := hE5.cell rfl
                  have re5 : w5.cell? ⟨w2.heap.size, 0, none⟩ = some (.slice (some ⟨gE, 0, none⟩) R.evs.length capE) := (HRE.out.same (HB6.out.block _ HRE.out.lt)).cell rfl
                  have hw5 : W.heap.size ≤ w5.heap.size := hb5.size
                  have HWT : Hid (∀ (r : Bool), (r = true ↔ ∃ g u, f < g ∧ g < j ∧ (R.evs.map pairE)[g]? = some u ∧ isWr cs y.a u = true) → Calls Try.prog 9 #[.slice (some ⟨b, o, none⟩) cs.length cap, .slice (some ⟨gE, 0, none⟩) R.evs.length capE, .int .i64 (f : Int), .int .i64 (j : Int)] w5.drew fun e w' => e = .returned (.bool r) ∧ Below w5.heap.size w5.drew w') := Lib.hid (fun r hr => by
                    have hb6 : Below w0.heap.size w0 w5.drew := ⟨HB6.out.os, HB6.out.tape, HB6.out.output, HB6.out.size, HB6.out.block⟩
                    exact written_any r b o cap cs (w.heap.size + 1) gE capE f j R.evs x y w5.drew (HCALL.out _ hb6) (HEV.out.below hb6 (Nat.le_refl _)) HX.out HY.out HAG.out.call hel hcl hfj hr)
                  clear hb5 hE5 x4 d1 d2
                  by_cases hval : x.ans.val = 1
                  · have vvb : (((x.ans.val : Nat) : Int) == 1) = true := by rw [beq_iff_eq]; omega
                    have vvd : decide (((x.ans.val : Nat) : Int) = 1) = true := decide_eq_true (by omega)
                    have vvn : (((x.ans.val : Nat) : Int) != 1) = false := by rw [bne_eq_false_iff_eq]; omega
                    have HWC := Lib.hid (HWT.out false ⟨fun h => (by cases h), fun ⟨g, u, a1, a2, a3, a4⟩ => (by have := (HF4.out.1 hval) g u a1 a2 a3; rw [a4] at this; cases this)⟩)
                    clear hval hv1 ho he hk1 hk2
                    go_wp2_with fail
                    go_region_held3 (fun w' => w'.cell? ⟨wr.heap.size, 5, none⟩ = some (.int .u64 (x.ans.val : Int)) ∧ w'.cell? ⟨w2.heap.size, 0, none⟩ = some (.slice (some ⟨gE, 0, none⟩) R.evs.length capE))
                      (first | with_reducible exact ⟨x5, re5⟩ | go_keep)
                      (first
                        | (go_at_call 9
                           refine HWC.out.mono ?_
                           rintro e w6 ⟨rfl, hb6⟩
                           have x5 : w6.cell? ⟨wr.heap.size, 5, none⟩ = some (.int .u64 (x.ans.val : Int)) := (hb6.cell (p := ⟨wr.heap.size, 5, none⟩) (World.block_lt_of_cell? w5 ⟨wr.heap.size, 5, none⟩ x5)).trans x5
                           have re5 : w6.cell? ⟨w2.heap.size, 0, none⟩ = some (.slice (some ⟨gE, 0, none⟩) R.evs.length capE) := (hb6.cell (p := ⟨w2.heap.size, 0, none⟩) (World.block_lt_of_cell? w5 ⟨w2.heap.size, 0, none⟩ re5)).trans re5
                           have HB7 : Hid (Below w0.heap.size w0 w6) := Lib.hid ((show Below w0.heap.size w0 w5.drew from ⟨HB6.out.os, HB6.out.tape, HB6.out.output, HB6.out.size, HB6.out.block⟩).trans (hb6.mono HB6.out.size))
                           clear hb6))
                    go_wp2_with fail
                    go_roundw
                    case rel => exact ⟨j + 1, by omega, by go_num, Lib.hid HB7.out⟩
                    case measure => simp [intOf]; omega
                  · have vvb : (((x.ans.val : Nat) : Int) == 1) = false := by rw [beq_eq_false_iff_ne]; omega
                    have vvd : decide (((x.ans.val : Nat) : Int) = 1) = false := decide_eq_false (by omega)
                    have vvn : (((x.ans.val : Nat) : Int) != 1) = true := by rw [bne_iff_ne]; omega
                    have HWC := Lib.hid (HWT.out true ⟨fun _ => by
                      refine Classical.byContradiction fun hno => hval (HF4.out.2 fun g u a1 a2 a3 => ?_)
                      cases hb : isWr cs y.a u with
                      | false => rfl
                      | true => exact absurd ⟨g, u, a1, a2, a3, hb⟩ hno, fun _ => rfl⟩)
                    clear hval hv1 ho he hk1 hk2
                    go_wp2_with fail
                    go_region_held3 (fun w' => w'.cell? ⟨wr.heap.size, 5, none⟩ = some (.int .u64 (x.ans.val : Int)) ∧ w'.cell? ⟨w2.heap.size, 0, none⟩ = some (.slice (some ⟨gE, 0, none⟩) R.evs.length capE))
                      (first | with_reducible exact ⟨x5, re5⟩ | go_keep)
                      (first
                        | (go_at_call 9
                           refine HWC.out.mono ?_
                           rintro e w6 ⟨rfl, hb6⟩
                           have x5 : w6.cell? ⟨wr.heap.size, 5, none⟩ = some (.int .u64 (x.ans.val : Int)) := (hb6.cell (p := ⟨wr.heap.size, 5, none⟩) (World.block_lt_of_cell? w5 ⟨wr.heap.size, 5, none⟩ x5)).trans x5
                           have re5 : w6.cell? ⟨w2.heap.size, 0, none⟩ = some (.slice (some ⟨gE, 0, none⟩) R.evs.length capE) := (hb6.cell (p := ⟨w2.heap.size, 0, none⟩) (World.block_lt_of_cell? w5 ⟨w2.heap.size, 0, none⟩ re5)).trans re5
                           have HB7 : Hid (Below w0.heap.size w0 w6) := Lib.hid ((show Below w0.heap.size w0 w5.drew from ⟨HB6.out.os, HB6.out.tape, HB6.out.output, HB6.out.size, HB6.out.block⟩).trans (hb6.mono HB6.out.size))
                           clear hb6))
                    go_wp2_with fail
                    go_roundw
                    case rel => exact ⟨j + 1, by omega, by go_num, Lib.hid HB7.out⟩
                    case measure => simp [intOf]; omega
                · have lb : (y.k == 2) = false := by rw [beq_eq_false_iff_ne]; omega
                  have ld : decide (y.k = 2) = false := decide_eq_false (by omega)
                  have ln : (y.k != 2) = true := by rw [bne_iff_ne]; omega
                  clear ho he hk1 hk2
                  go_wp2_with fail
                  go_roundw
                  case rel => exact ⟨j + 1, by omega, by go_num, Lib.hid HB5.out⟩
                  case measure => simp [intOf]; omega
            · have eb : (((x.ans.err : Nat) : Int) == 0) = false := by rw [beq_eq_false_iff_ne]; omega
              have ed : decide (((x.ans.err : Nat) : Int) = 0) = false := decide_eq_false (by omega)
              have en : (((x.ans.err : Nat) : Int) != 0) = true := by rw [bne_iff_ne]; omega
              by_cases hk1 : y.k = 1
              · have kb : (y.k == 1) = true := by rw [beq_iff_eq]; omega
                have kd : decide (y.k = 1) = true := decide_eq_true (by omega)
                have kn : (y.k != 1) = false := by rw [bne_eq_false_iff_eq]; omega
                clear ho he hk1
                go_wp2_with fail
                go_roundw
                case rel => exact ⟨j + 1, by omega, by go_num, Lib.hid HB5.out⟩
                case measure => simp [intOf]; omega
              · have kb : (y.k == 1) = false := by rw [beq_eq_false_iff_ne]; omega
                have kd : decide (y.k = 1) = false := decide_eq_false (by omega)
                have kn : (y.k != 1) = true := by rw [bne_iff_ne]; omega
                by_cases hk2 : y.k = 2
                · have lb : (y.k == 2) = true := by rw [beq_iff_eq]; omega
                  have ld : decide (y.k = 2) = true := decide_eq_true (by omega)
                  have ln : (y.k != 2) = false := by rw [bne_eq_false_iff_eq]; omega
                  clear ho he hk1 hk2
                  go_wp2_with fail
                  go_roundw
                  case rel => exact ⟨j + 1, by omega, by go_num, Lib.hid HB5.out⟩
                  case measure => simp [intOf]; omega
                · have lb : (y.k == 2) = false := by rw [beq_eq_false_iff_ne]; omega
                  have ld : decide (y.k = 2) = false := decide_eq_false (by omega)
                  have ln : (y.k != 2) = true := by rw [bne_iff_ne]; omega
                  clear ho he hk1 hk2
                  go_wp2_with fail
                  go_roundw
                  case rel => exact ⟨j + 1, by omega, by go_num, Lib.hid HB5.out⟩
                  case measure => simp [intOf]; omega
          · have ob : (y.o == 0) = false := by rw [beq_eq_false_iff_ne]; omega
            have od : decide (y.o = 0) = false := decide_eq_false (by omega)
            have on : (y.o != 0) = true := by rw [bne_iff_ne]; omega
            clear ho
            go_wp2_with fail
            go_roundw
            case rel => exact ⟨j + 1, by omega, by go_num, Lib.hid HB5.out⟩
            case measure => simp [intOf]; omega
        · have hjn2 : ¬ (j : Int) < (R.evs.length : Int) := by omega
          have HB4 : Hid (Below w.heap.size w wr) := Lib.hid (HB3.out.trans (hBr.out.mono HB3.out.size))
          go_wp2_with fail
          refine (again_any _).mono ?_
          rintro e w4 ⟨rfl, hb4⟩
          have HB5 : Hid (Below w.heap.size w w4) := Lib.hid (HB4.out.trans (hb4.mono HB4.out.size))
          clear hb4
          go_wp2_with fail
          go_ret
          exact ⟨rfl, HB5.out⟩
theorem ll_made {q1 : Int} (h : llErr q1 = 0) : ∃ k : Nat, q1 = (k : Int) ∧ (1 ≤ k ∧ k ≤ 64) ∧ llSz (k : Int) = k := by
  have hk : 1 ≤ q1 ∧ q1 ≤ 64 := by
    unfold llErr at h
    split at h
    · next h2 => exact h2
    · cases h
  refine ⟨q1.toNat, by omega, by omega, ?_⟩
  unfold llSz
  rw [if_pos (by omega)]
  rfl
theorem lsince_all (q0 q1 : Int) (ao : Option Addr) (b o cap : Nat) (cs : List CallV) (ao3 : Option Addr) (b3 o3 cap3 : Nat) (picks : List Int) (w : World) (ha : 0 < cs.length → ao = some ⟨b, o, none⟩) (hb : 0 < cs.length → b < w.heap.size) (hc : CallsAt w b o cs) (hcap : ao = none → cap = 0)
    (ha3 : 0 < picks.length → ao3 = some ⟨b3, o3, none⟩) (hb3 : 0 < picks.length → b3 < w.heap.size) (hc3 : ICells w b3 o3 picks) (hnp : picks.length ≤ 9223372036854775807) (hcl : cs.length ≤ 9223372036854775807) :
    Calls Try.prog 3 #[.agg #[.int .i64 q0, .int .i64 q1], .slice ao cs.length cap, .slice ao3 picks.length cap3] w fun e w' => e = .returned (.bool true) ∧ Below w.heap.size w w' := by
  by_cases hl : longB cs.length picks.length
  · exact lsince_long q0 q1 ao ao3 cs.length cap picks.length cap3 w hnp hl
  · by_cases he : playErr q0 cs picks.length (llErr q1) = 0
    · obtain ⟨n, rfl, hn1, hth, hpl, _, her⟩ := play_threads he
      obtain ⟨k, rfl, hk, hsz⟩ := ll_made her
      have hH := ll_hist n k cs hth picks hpl
      have hevs := endM_evs (M := llM k) cs (List.replicate k 0) ll0 picks
      have hR := rowI_end (M := llM k) cs (List.replicate k 0) ll0 picks
      have hmap : (repOf (endM (M := llM k) cs (List.replicate k 0) ll0 picks)).evs.map pairE = evL (endM (M := llM k) cs (List.replicate k 0) ll0 picks) := by
        show ((endM (M := llM k) cs (List.replicate k 0) ll0 picks).evs.map _).map pairE = _
        rw [List.map_map]; rfl
      refine lsince_good n k ao b o cap cs ao3 b3 o3 cap3 picks w hl ha hb hc hcap ha3 hb3 hc3 hnp hcl he (repOf (endM (M := llM k) cs (List.replicate k 0) ll0 picks)) (by rw [hsz]) ⟨fun x hx => ?_, fun i x y hx hy ho hk2 he2 => ?_⟩ ?_
      · obtain ⟨v, hv, rfl⟩ := List.mem_map.1 hx
        exact (hR.call v hv).1
      · rw [hmap]
        refine hH.ev i (pairE x) y ?_ hy ho hk2 he2
        rw [← hmap]
        exact pair_get hx
      · show ((endM (M := llM k) cs (List.replicate k 0) ll0 picks).evs.map _).length ≤ _
        rw [List.length_map]; omega
    · exact lsince_bad q0 q1 ao b o cap cs ao3 b3 o3 cap3 picks w hl ha hb hc hcap ha3 hb3 hc3 hnp he
end Go.Proofs.Ytjbbcflifoakhaa
