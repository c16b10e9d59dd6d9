/- Walk of the law AdoptHolds. -/
import Derived.Test.YtglpalomhhhmhaaAD9
import Derived.Test.YtglpalomhhhmhaaZE
import Derived.Deep.Cut
namespace Go.Proofs.Ytglpalomhhhmhaa
open Go.RowKit
set_option linter.unusedVariables false
set_option linter.unusedSimpArgs false
theorem any_snoc {α : Type} (f : α → Bool) {l : List α} {j : Nat} {y : α} (h : l[j]? = some y) : (l.take (j + 1)).any f = ((l.take j).any f || f y) := by
  rw [take_snoc h, List.any_append, List.any_cons, List.any_nil, Bool.or_false]
set_option maxRecDepth 100000 in
set_option maxHeartbeats 16000000 in
theorem holds_good (k : Nat) (ao : Option Addr) (b o cap : Nat) (cs : List CallV) (ao3 : Option Addr) (b3 o3 cap3 : Nat) (picks : List Int) (w : World) (hl : ¬ longB cs.length picks.length) (ha : 0 < cs.length → ao = some ⟨b, o, none⟩) (hb : 0 < cs.length → b < w.heap.size) (hc : CallsAt w b o cs) (hcap : ao = none → cap = 0)
    (ha3 : 0 < picks.length → ao3 = some ⟨b3, o3, none⟩) (hb3 : 0 < picks.length → b3 < w.heap.size) (hc3 : ICells w b3 o3 picks) (hnp : picks.length ≤ 9223372036854775807) (hcl : cs.length ≤ 9223372036854775807) (he : playErr (k : Int) cs picks.length 0 = 0) (hk : 1 ≤ k ∧ k ≤ 16)
    (R : RepR) (hR : repOf (endM (M := adM (k : Int).toNat) cs (List.replicate (2 * (k : Int).toNat) 0) ad0 picks) = R) (hA : HoldsOk cs R.evs) (hel : R.evs.length ≤ 70000) :
    Calls Try.prog 4 #[.int .i64 (k : Int), .slice ao cs.length cap, .slice ao3 picks.length cap3] w fun e w' => e = .returned (.bool true) ∧ Below w.heap.size w w' := by
  have HP := Lib.hid (ad_play (k : Int) ao b o cap cs ao3 b3 o3 cap3 picks w ha hb hc hcap ha3 hb3 hc3 hnp)
  have HE := Lib.hid he
  have HL := Lib.hid hl
  have HA := Lib.hid ha
  have HB := Lib.hid hb
  have HC := Lib.hid hc
  have HAG := Lib.hid hA
  have HRR := Lib.hid hR
  clear ha hb hc hcap ha3 hb3 hc3 he hl hA hR
  go_enter Try.func4, Try.ntmps4
  go_wp2_with fail
  refine (many_no _ _ _ _ _ _ _ hnp HL.out).mono ?_
  rintro e w1 ⟨rfl, rfl⟩
  go_wp2_with fail
  refine HP.out.mono ?_
  rintro e w2 hP
  have hG := hP.good HE.out
  rw [HRR.out] at hG
  obtain ⟨aoE, gE, capE, gw, rfl, hao, hev, hrw, hgw, hb2⟩ := hG
  have HAO := Lib.hid hao
  have z2 := hb2.size
  have HEV : Hid (EvAllG w.heap.size (w2.alloc (.cells (repVs (.slice aoE R.evs.length capE) gw R).toArray 31)) gE R.evs) := Lib.hid (hev.below ((Below.refl _ _).alloc (Nat.le_refl _) _) (Nat.le_refl _))
  have HRE : Hid (RowBlk 31 (w2.alloc (.cells (repVs (.slice aoE R.evs.length capE) gw R).toArray 31)) w2.heap.size (repVs (.slice aoE R.evs.length capE) gw R)) := Lib.hid (RowBlk.new _ _ _)
  have HB3 : Hid (Below w.heap.size w (w2.alloc (.cells (repVs (.slice aoE R.evs.length capE) gw R).toArray 31))) := Lib.hid (hb2.alloc z2 _)
  clear hP hb2 hev hrw hao HP
  unfold repVs
  rw [show (repVs (.slice aoE R.evs.length capE) gw R).toArray = #[.slice aoE R.evs.length capE, .slice (some ⟨gw, 0, none⟩) R.ws.length R.ws.length, .int .i64 (R.cn.r : Int), .int .i64 (R.cn.w : Int), .int .i64 (R.cn.s : Int), .int .i64 (R.cn.a : Int), .int .i64 (R.cn.f : Int), .int .i64 (R.ticks : Int), .int .i64 (R.idle : Int)] from rfl] at HEV HRE HB3
  go_wp2_with fail
  generalize w2.alloc (.cells #[.slice aoE R.evs.length capE, .slice (some ⟨gw, 0, none⟩) R.ws.length R.ws.length, .int .i64 (R.cn.r : Int), .int .i64 (R.cn.w : Int), .int .i64 (R.cn.s : Int), .int .i64 (R.cn.a : Int), .int .i64 (R.cn.f : Int), .int .i64 (R.ticks : Int), .int .i64 (R.idle : Int)] 31) = w0 at HEV HRE HB3 ⊢
  generalize Value.tuple #[.agg #[.slice aoE R.evs.length capE, .slice (some ⟨gw, 0, none⟩) R.ws.length R.ws.length, .int .i64 (R.cn.r : Int), .int .i64 (R.cn.w : Int), .int .i64 (R.cn.s : Int), .int .i64 (R.cn.a : Int), .int .i64 (R.cn.f : Int), .int .i64 (R.ticks : Int), .int .i64 (R.idle : Int)], .int .i64 0] = V1
  generalize (.agg #[.slice aoE R.evs.length capE, .slice (some ⟨gw, 0, none⟩) R.ws.length R.ws.length, .int .i64 (R.cn.r : Int), .int .i64 (R.cn.w : Int), .int .i64 (R.cn.s : Int), .int .i64 (R.cn.a : Int), .int .i64 (R.cn.f : Int), .int .i64 (R.ticks : Int), .int .i64 (R.idle : Int)] : Value) = V2
  have HCALL : Hid (∀ W, Below w0.heap.size w0 W → CallsAt W b o cs) := Lib.hid (fun W hW => HC.out.stays (HB3.out.trans (hW.mono HB3.out.size)) HB.out)
  go_loopw [37] (fun kv wr => ∃ (j : Nat), j ≤ R.evs.length ∧ kv = .int .i64 j ∧ Hid (Below w0.heap.size w0 wr)) (fun kv _ => R.evs.length - (intOf kv).toNat)
  case atStart => exact ⟨0, Nat.zero_le _, rfl, Lib.hid (Below.refl _ _)⟩
  case round =>
    obtain ⟨j, hj, rfl, hBr⟩ := hrel
    have z0 := hBr.out.size
    by_cases hlt : j < R.evs.length
    · obtain rfl := HAO.out (by omega)
      obtain ⟨x, hx⟩ : ∃ x, R.evs[j]? = some x := ⟨R.evs[j], List.getElem?_eq_getElem (by omega)⟩
      have hb1 := HAG.out.call x (List.mem_of_getElem? hx)
      obtain ⟨hgB, la, ka, lc, kc, hv⟩ := (HEV.out.below hBr.out (Nat.le_refl _)) j x hx
      have v0 := hv.c0
      have r0 : wr.cell? ⟨w2.heap.size, 0, none⟩ = some (.slice (some ⟨gE, 0, none⟩) R.evs.length capE) := (HRE.out.same (hBr.out.block _ HRE.out.lt)).cell rfl
      have hi0 : (0 : Int) ≤ (j : Int) := Int.natCast_nonneg _
      have hi1 : (j : Int) < (R.evs.length : Int) := by omega
      have b1 : ¬ (x.i : Int) < 0 := by omega
      have b2 : ¬ (cs.length : Int) ≤ (x.i : Int) := by omega
      have b3 : (x.i : Int) < (cs.length : Int) := by omega
      clear hv hx hb1
      go_wp2_with fail
      go_roundw
      case rel => exact ⟨j + 1, by omega, by go_num, hBr⟩
      case measure => simp [intOf]; omega
    · have hjn : ¬ (j : Int) < (R.evs.length : Int) := by omega
      have HB0 : Hid (Below w0.heap.size w0 wr) := hBr
      have r0 : wr.cell? ⟨w2.heap.size, 0, none⟩ = some (.slice aoE R.evs.length capE) := (HRE.out.same (hBr.out.block _ HRE.out.lt)).cell rfl
      clear hlt
      go_wp2_with fail
      clear r0
      generalize wr = wl at HB0 ⊢
      clear hBr z0
      go_loopw [62] (fun kv wr => ∃ (j : Nat), j ≤ R.evs.length ∧ kv = .int .i64 j ∧ Hid (Below w0.heap.size w0 wr)) (fun kv _ => R.evs.length - (intOf kv).toNat)
      case atStart => exact ⟨0, Nat.zero_le _, rfl, HB0⟩
      case round =>
        obtain ⟨j, hj, rfl, hBr⟩ := hrel
        have z0 := hBr.out.size
        by_cases hlt : j < R.evs.length
        · obtain rfl := HAO.out (by omega)
          obtain ⟨x, hx⟩ : ∃ x, R.evs[j]? = some x := ⟨R.evs[j], List.getElem?_eq_getElem (by omega)⟩
          have hxm := List.mem_of_getElem? hx
          have hb1 := HAG.out.call x hxm
          obtain ⟨y, hy⟩ : ∃ y, cs[x.i]? = some y := ⟨cs[x.i], List.getElem?_eq_getElem hb1⟩
          obtain rfl := HA.out (by omega)
          have HXM := Lib.hid hxm
          obtain ⟨hgB, la, ka, lc, kc, hv⟩ := (HEV.out.below hBr.out (Nat.le_refl _)) j x hx
          have v0 := hv.c0
          have v1 := hv.c1
          have v2 := hv.c2
          have v3 := hv.c3
          have v4 := hv.c4
          have v5 := hv.c5
          have v6 := hv.c6
          have v7 := hv.c7
          have r0 : wr.cell? ⟨w2.heap.size, 0, none⟩ = some (.slice (some ⟨gE, 0, none⟩) R.evs.length capE) := (HRE.out.same (hBr.out.block _ HRE.out.lt)).cell rfl
          have hi0 : (0 : Int) ≤ (j : Int) := Int.natCast_nonneg _
          have hi1 : (j : Int) < (R.evs.length : Int) := by omega
          have HXR : Hid (RowBlk 41 (wr.alloc (.cells #[.int .i64 (x.i : Int), .int .i64 (x.inv : Int), .int .i64 (x.resp : Int), .int .i64 (x.steps : Int), .int .i64 (x.ans.err : Int), .int .u64 (x.ans.val : Int), .slice la x.ans.list.length lc, .slice ka x.key.length kc] 41)) wr.heap.size [.int .i64 (x.i : Int), .int .i64 (x.inv : Int), .int .i64 (x.resp : Int), .int .i64 (x.steps : Int), .int .i64 (x.ans.err : Int), .int .u64 (x.ans.val : Int), .slice la x.ans.list.length lc, .slice ka x.key.length kc]) := Lib.hid (RowBlk.new _ _ _)
          have HBx : Hid (Below w0.heap.size w0 (wr.alloc (.cells #[.int .i64 (x.i : Int), .int .i64 (x.inv : Int), .int .i64 (x.resp : Int), .int .i64 (x.steps : Int), .int .i64 (x.ans.err : Int), .int .u64 (x.ans.val : Int), .slice la x.ans.list.length lc, .slice ka x.key.length kc] 41))) := Lib.hid (hBr.out.alloc z0 _)
          have HSX : Hid ((wr.alloc (.cells #[.int .i64 (x.i : Int), .int .i64 (x.inv : Int), .int .i64 (x.resp : Int), .int .i64 (x.steps : Int), .int .i64 (x.ans.err : Int), .int .u64 (x.ans.val : Int), .slice la x.ans.list.length lc, .slice ka x.key.length kc] 41)).heap.size = wr.heap.size + 1) := Lib.hid (by simp)
          have HDX0 : Hid (∀ W, Below w0.heap.size w0 W → Calls Try.prog 12 #[.slice (some ⟨b, o, none⟩) cs.length cap, .agg #[.int .i64 (x.i : Int), .int .i64 (x.inv : Int), .int .i64 (x.resp : Int), .int .i64 (x.steps : Int), .int .i64 (x.ans.err : Int), .int .u64 (x.ans.val : Int), .slice la x.ans.list.length lc, .slice ka x.key.length kc]] W fun e w' => e = .returned (.bool (adDone cs x)) ∧ Below W.heap.size W w') := Lib.hid (fun W hW => ad_done x la ka lc kc b o cap cs y W hy (HCALL.out W hW) hcl)
          obtain ⟨N0, hN0⟩ : ∃ N0, wr.heap.size = N0 := ⟨_, rfl⟩
          obtain ⟨h, hh⟩ : ∃ h, x.ans.val / 2 = h := ⟨_, rfl⟩
          have HH : Hid (x.ans.val / 2 = h) := Lib.hid hh
          have hq0 : (x.ans.val : Int) / 2 = (h : Int) := by omega
          have hq1 : ((x.ans.val : Int).tdiv 2) = (h : Int) := by rw [Int.tdiv_eq_ediv_of_nonneg (by omega)]; exact hq0
          clear hv hx hy hxm hb1 hh
          go_upto_region 16 with fail
          rw [hN0] at HXR HSX
          have HN0 := Lib.hid hN0
          generalize wr.alloc (.cells #[.int .i64 (x.i : Int), .int .i64 (x.inv : Int), .int .i64 (x.resp : Int), .int .i64 (x.steps : Int), .int .i64 (x.ans.err : Int), .int .u64 (x.ans.val : Int), .slice la x.ans.list.length lc, .slice ka x.key.length kc] 41) = wx at HXR HBx HSX ⊢
          clear hN0 v0 v1 v2 v3 v4 v5 v6 v7 r0
          try rw [HN0.out]
          have x0 := HXR.out.cell (i := 0) rfl
          have x1 := HXR.out.cell (i := 1) rfl
          have x2 := HXR.out.cell (i := 2) rfl
          have x3 := HXR.out.cell (i := 3) rfl
          have x4 := HXR.out.cell (i := 4) rfl
          have x5 := HXR.out.cell (i := 5) rfl
          have x6 := HXR.out.cell (i := 6) rfl
          have x7 := HXR.out.cell (i := 7) rfl
          go_wp2_with fail
          refine (HDX0.out _ HBx.out).mono ?_
          rintro e w4 ⟨rfl, hb4⟩
          have HX4 := Lib.hid (HXR.out.same (hb4.block _ HXR.out.lt))
          have HB4 : Hid (Below w0.heap.size w0 w4) := Lib.hid (HBx.out.trans (hb4.mono HBx.out.size))
          clear hb4 x0 x1 x2 x3 x4 x5 x6 x7
          obtain ⟨d, hd⟩ : ∃ d, adDone cs x = d := ⟨_, rfl⟩
          rw [hd]
          cases d with
          | false =>
            clear hd
            go_wp2_with fail
            go_roundw
            case rel => exact ⟨j + 1, by omega, by go_num, HB4⟩
            case measure => simp [intOf]; omega
          | true =>
            have HDX : Hid (adDone cs x = true) := Lib.hid hd
            have hqw : IntKind.u64.wrap (h : Int) = (h : Int) := by
              have hb := HAG.out.bnd x HXM.out hd
              have := HH.out
              unfold IntKind.wrap; simp [IntKind.bits, IntKind.signed]; omega
            have r0 : w4.cell? ⟨w2.heap.size, 0, none⟩ = some (.slice (some ⟨gE, 0, none⟩) R.evs.length capE) := (HRE.out.same (HB4.out.block _ HRE.out.lt)).cell rfl
            clear hd
            go_wp2_with fail
            clear r0
            go_loopw [12, 77] (fun pv kv wq => ∃ (j2 : Nat), j2 ≤ R.evs.length ∧ kv = .int .i64 j2 ∧ pv = .bool ((R.evs.take j2).any (adProp cs x)) ∧ Hid (Below w4.heap.size w4 wq)) (fun _ kv _ => R.evs.length - (intOf kv).toNat)
            case atStart => exact ⟨0, Nat.zero_le _, rfl, rfl, Lib.hid (Below.refl _ _)⟩
            case round =>
              obtain ⟨j2, hj2, rfl, rfl, hBq⟩ := hrel
              have zq := hBq.out.size
              have HBQ : Hid (Below w0.heap.size w0 wr) := Lib.hid (HB4.out.trans (hBq.out.mono HB4.out.size))
              by_cases hlt2 : j2 < R.evs.length
              · obtain ⟨u, hu⟩ : ∃ u, R.evs[j2]? = some u := ⟨R.evs[j2], List.getElem?_eq_getElem (by omega)⟩
                have hum := List.mem_of_getElem? hu
                have hub := HAG.out.call u hum
                obtain ⟨z, hz⟩ : ∃ z, cs[u.i]? = some z := ⟨cs[u.i], List.getElem?_eq_getElem hub⟩
                have HUM := Lib.hid hum
                have HU := Lib.hid hu
                have HZ := Lib.hid hz
                obtain ⟨_, la2, ka2, lc2, kc2, hv⟩ := (HEV.out.below HBQ.out (Nat.le_refl _)) j2 u hu
                have u0 := hv.c0
                have u1 := hv.c1
                have u2 := hv.c2
                have u3 := hv.c3
                have u4 := hv.c4
                have u5 := hv.c5
                have u6 := hv.c6
                have u7 := hv.c7
                have r0 : wr.cell? ⟨w2.heap.size, 0, none⟩ = some (.slice (some ⟨gE, 0, none⟩) R.evs.length capE) := (HRE.out.same (HBQ.out.block _ HRE.out.lt)).cell rfl
                obtain ⟨c0, c1, c2, c3, c4, c5, _⟩ := HCALL.out wr HBQ.out u.i z hz
                have ki0 : (0 : Int) ≤ (j2 : Int) := Int.natCast_nonneg _
                have ki1 : (j2 : Int) < (R.evs.length : Int) := by omega
                have kk0 : (0 : Int) ≤ (u.i : Int) := Int.natCast_nonneg _
                have kk1 : (u.i : Int) < (cs.length : Int) := by omega
                have m1 : gE < wr.heap.size := World.block_lt_of_cell? wr ⟨gE, j2 * 8, none⟩ u0
                have m2 : b < wr.heap.size := World.block_lt_of_cell? wr ⟨b, o + u.i * 6, none⟩ c0
                have HYR : Hid (RowBlk 41 ((wr.alloc (.cells #[.int .i64 (u.i : Int), .int .i64 (u.inv : Int), .int .i64 (u.resp : Int), .int .i64 (u.steps : Int), .int .i64 (u.ans.err : Int), .int .u64 (u.ans.val : Int), .slice la2 u.ans.list.length lc2, .slice ka2 u.key.length kc2] 41)).alloc (.cells #[.int .i64 (z.t : Int), .int .i64 z.o, .int .i64 z.k, .int .u64 (z.a : Int), .int .u64 (z.b : Int), .int .u64 (z.c : Int)] 43)) wr.heap.size [.int .i64 (u.i : Int), .int .i64 (u.inv : Int), .int .i64 (u.resp : Int), .int .i64 (u.steps : Int), .int .i64 (u.ans.err : Int), .int .u64 (u.ans.val : Int), .slice la2 u.ans.list.length lc2, .slice ka2 u.key.length kc2]) := Lib.hid ((RowBlk.new _ _ _).alloc _)
                have HCR : Hid (RowBlk 43 ((wr.alloc (.cells #[.int .i64 (u.i : Int), .int .i64 (u.inv : Int), .int .i64 (u.resp : Int), .int .i64 (u.steps : Int), .int .i64 (u.ans.err : Int), .int .u64 (u.ans.val : Int), .slice la2 u.ans.list.length lc2, .slice ka2 u.key.length kc2] 41)).alloc (.cells #[.int .i64 (z.t : Int), .int .i64 z.o, .int .i64 z.k, .int .u64 (z.a : Int), .int .u64 (z.b : Int), .int .u64 (z.c : Int)] 43)) (wr.heap.size + 1) [.int .i64 (z.t : Int), .int .i64 z.o, .int .i64 z.k, .int .u64 (z.a : Int), .int .u64 (z.b : Int), .int .u64 (z.c : Int)]) := Lib.hid (by
                  have h := RowBlk.new (wr.alloc (.cells #[.int .i64 (u.i : Int), .int .i64 (u.inv : Int), .int .i64 (u.resp : Int), .int .i64 (u.steps : Int), .int .i64 (u.ans.err : Int), .int .u64 (u.ans.val : Int), .slice la2 u.ans.list.length lc2, .slice ka2 u.key.length kc2] 41)) [.int .i64 (z.t : Int), .int .i64 z.o, .int .i64 z.k, .int .u64 (z.a : Int), .int .u64 (z.b : Int), .int .u64 (z.c : Int)] 43
                  have e : (wr.alloc (.cells #[.int .i64 (u.i : Int), .int .i64 (u.inv : Int), .int .i64 (u.resp : Int), .int .i64 (u.steps : Int), .int .i64 (u.ans.err : Int), .int .u64 (u.ans.val : Int), .slice la2 u.ans.list.length lc2, .slice ka2 u.key.length kc2] 41)).heap.size = wr.heap.size + 1 := by simp
                  rw [e] at h; exact h)
                have HXZ : Hid (RowBlk 41 ((wr.alloc (.cells #[.int .i64 (u.i : Int), .int .i64 (u.inv : Int), .int .i64 (u.resp : Int), .int .i64 (u.steps : Int), .int .i64 (u.ans.err : Int), .int .u64 (u.ans.val : Int), .slice la2 u.ans.list.length lc2, .slice ka2 u.key.length kc2] 41)).alloc (.cells #[.int .i64 (z.t : Int), .int .i64 z.o, .int .i64 z.k, .int .u64 (z.a : Int), .int .u64 (z.b : Int), .int .u64 (z.c : Int)] 43)) N0 [.int .i64 (x.i : Int), .int .i64 (x.inv : Int), .int .i64 (x.resp : Int), .int .i64 (x.steps : Int), .int .i64 (x.ans.err : Int), .int .u64 (x.ans.val : Int), .slice la x.ans.list.length lc, .slice ka x.key.length kc]) := Lib.hid (((HX4.out.same (hBq.out.block _ HX4.out.lt)).alloc _).alloc _)
                have HBZ : Hid (Below w4.heap.size w4 ((wr.alloc (.cells #[.int .i64 (u.i : Int), .int .i64 (u.inv : Int), .int .i64 (u.resp : Int), .int .i64 (u.steps : Int), .int .i64 (u.ans.err : Int), .int .u64 (u.ans.val : Int), .slice la2 u.ans.list.length lc2, .slice ka2 u.key.length kc2] 41)).alloc (.cells #[.int .i64 (z.t : Int), .int .i64 z.o, .int .i64 z.k, .int .u64 (z.a : Int), .int .u64 (z.b : Int), .int .u64 (z.c : Int)] 43))) := Lib.hid ((hBq.out.alloc zq _).alloc (by simp; omega) _)
                have HDN : Hid (∀ W, Below ((wr.alloc (.cells #[.int .i64 (u.i : Int), .int .i64 (u.inv : Int), .int .i64 (u.resp : Int), .int .i64 (u.steps : Int), .int .i64 (u.ans.err : Int), .int .u64 (u.ans.val : Int), .slice la2 u.ans.list.length lc2, .slice ka2 u.key.length kc2] 41)).alloc (.cells #[.int .i64 (z.t : Int), .int .i64 z.o, .int .i64 z.k, .int .u64 (z.a : Int), .int .u64 (z.b : Int), .int .u64 (z.c : Int)] 43)).heap.size ((wr.alloc (.cells #[.int .i64 (u.i : Int), .int .i64 (u.inv : Int), .int .i64 (u.resp : Int), .int .i64 (u.steps : Int), .int .i64 (u.ans.err : Int), .int .u64 (u.ans.val : Int), .slice la2 u.ans.list.length lc2, .slice ka2 u.key.length kc2] 41)).alloc (.cells #[.int .i64 (z.t : Int), .int .i64 z.o, .int .i64 z.k, .int .u64 (z.a : Int), .int .u64 (z.b : Int), .int .u64 (z.c : Int)] 43)) W → Calls Try.prog 12 #[.slice (some ⟨b, o, none⟩) cs.length cap, .agg #[.int .i64 (u.i : Int), .int .i64 (u.inv : Int), .int .i64 (u.resp : Int), .int .i64 (u.steps : Int), .int .i64 (u.ans.err : Int), .int .u64 (u.ans.val : Int), .slice la2 u.ans.list.length lc2, .slice ka2 u.key.length kc2]] W fun e w' => e = .returned (.bool (adDone cs u)) ∧ Below W.heap.size W w') := Lib.hid (fun W hW => ad_done u la2 ka2 lc2 kc2 b o cap cs z W hz (HCALL.out W (HB4.out.trans ((HBZ.out.trans (hW.mono HBZ.out.size)).mono HB4.out.size))) hcl)
                have nb : b ≠ wr.heap.size := by omega
                clear hv hu hz hum hub
                go_upto_region 23 with fail
                obtain ⟨N1, hN1⟩ : ∃ N1, wr.heap.size = N1 := ⟨_, rfl⟩
                clear nb
                rw [hN1] at HYR HCR
                have HN1 := Lib.hid hN1
                generalize (wr.alloc (.cells #[.int .i64 (u.i : Int), .int .i64 (u.inv : Int), .int .i64 (u.resp : Int), .int .i64 (u.steps : Int), .int .i64 (u.ans.err : Int), .int .u64 (u.ans.val : Int), .slice la2 u.ans.list.length lc2, .slice ka2 u.key.length kc2] 41)).alloc (.cells #[.int .i64 (z.t : Int), .int .i64 z.o, .int .i64 z.k, .int .u64 (z.a : Int), .int .u64 (z.b : Int), .int .u64 (z.c : Int)] 43) = wz at HYR HCR HXZ HBZ HDN ⊢
                clear hN1 m1 m2 u0 u1 u2 u3 u4 u5 u6 u7 r0 c0 c1 c2 c3 c4 c5
                try rw [HN1.out]
                have y0 := HYR.out.cell (i := 0) rfl
                have y1 := HYR.out.cell (i := 1) rfl
                have y2 := HYR.out.cell (i := 2) rfl
                have y3 := HYR.out.cell (i := 3) rfl
                have y4 := HYR.out.cell (i := 4) rfl
                have y5 := HYR.out.cell (i := 5) rfl
                have y6 := HYR.out.cell (i := 6) rfl
                have y7 := HYR.out.cell (i := 7) rfl
                have d1 := HCR.out.cell (i := 1) rfl
                have d2 := HCR.out.cell (i := 2) rfl
                have d3 := HCR.out.cell (i := 3) rfl
                have x2 := HXZ.out.cell (i := 2) rfl
                have x5 := HXZ.out.cell (i := 5) rfl
                have hap := any_snoc (adProp cs x) HU.out
                have hpr : adProp cs x u = decide (z.o = 0 ∧ z.k = 0 ∧ z.a = x.ans.val / 2 ∧ u.inv < x.resp) := adProp_some HZ.out
                rw [HH.out] at hpr
                obtain ⟨pb, hpb⟩ : ∃ pb, (R.evs.take j2).any (adProp cs x) = pb := ⟨_, rfl⟩
                rw [hpb] at hap ⊢
                clear hpb
                cases pb with
                | true =>
                  have HAP : Hid ((R.evs.take (j2 + 1)).any (adProp cs x) = true) := Lib.hid (by rw [hap]; rfl)
                  clear hap hpr
                  by_cases od : x.ans.val % 2 = 1
                  · have od1 : ((x.ans.val : Int) % 2) = 1 := by omega
                    have od2 : ((x.ans.val : Int).tmod 2) = 1 := by rw [Int.tmod_eq_emod_of_nonneg (by omega)]; omega
                    obtain ⟨dd, hdd⟩ : ∃ dd, adDone cs u = dd := ⟨_, rfl⟩
                    rw [hdd] at HDN
                    cases dd with
                    | false =>
                      clear od hdd
                      go_wp2_with fail
                      refine (HDN.out _ (Below.refl _ _)).mono ?_
                      rintro e w9 ⟨rfl, hb9⟩
                      have HZ9 : Hid (Below wz.heap.size wz w9) := Lib.hid hb9
                      clear hb9
                      go_wp2_with fail
                      go_roundw
                      case rel => exact ⟨j2 + 1, by omega, by go_num, by rw [HAP.out], (Lib.hid (HBZ.out.trans (HZ9.out.mono HBZ.out.size)))⟩
                      case measure => simp [intOf]; omega
                    | true =>
                      have hsame := HAG.out.same x HXM.out u HUM.out HDX.out hdd od
                      have hq2 : (u.ans.val : Int) / 2 = (h : Int) := by have := HH.out; omega
                      have hq3 : ((u.ans.val : Int).tdiv 2) = (h : Int) := by rw [Int.tdiv_eq_ediv_of_nonneg (by omega)]; exact hq2
                      clear od hdd hsame
                      go_wp2_with fail
                      refine (HDN.out _ (Below.refl _ _)).mono ?_
                      rintro e w9 ⟨rfl, hb9⟩
                      have HZ9 : Hid (Below wz.heap.size wz w9) := Lib.hid hb9
                      clear hb9
                      have y5 : w9.cell? ⟨N1, 5, none⟩ = some (.int .u64 (u.ans.val : Int)) := (HYR.out.same (HZ9.out.block _ HYR.out.lt)).cell rfl
                      have x5 : w9.cell? ⟨N0, 5, none⟩ = some (.int .u64 (x.ans.val : Int)) := (HXZ.out.same (HZ9.out.block _ HXZ.out.lt)).cell rfl
                      go_wp2_with fail
                      go_roundw
                      case rel => exact ⟨j2 + 1, by omega, by go_num, by rw [HAP.out], (Lib.hid (HBZ.out.trans (HZ9.out.mono HBZ.out.size)))⟩
                      case measure => simp [intOf]; omega
                  · have od1 : ¬ ((x.ans.val : Int) % 2) = 1 := by omega
                    have od2 : ¬ ((x.ans.val : Int).tmod 2) = 1 := by rw [Int.tmod_eq_emod_of_nonneg (by omega)]; omega
                    have od3 : (((x.ans.val : Int).tmod 2) == 1) = false := by rw [beq_eq_false_iff_ne]; exact od2
                    have od4 : decide (((x.ans.val : Int).tmod 2) = 1) = false := decide_eq_false od2
                    clear od
                    go_wp2_with fail
                    go_roundw
                    case rel => exact ⟨j2 + 1, by omega, by go_num, by rw [HAP.out], HBZ⟩
                    case measure => simp [intOf]; omega
                | false =>
                  by_cases p1 : z.o = 0
                  · by_cases p2 : z.k = 0
                    · by_cases p3 : z.a = h
                      · by_cases p4 : u.inv < x.resp
                        · rw [decide_eq_true ⟨p1, p2, p3, p4⟩] at hpr
                          have p4a : (u.inv : Int) < (x.resp : Int) := by omega
                          have p4c : decide (u.inv < x.resp) = true := decide_eq_true p4
                          rw [p1] at d1
                          rw [p2] at d2
                          rw [p3] at d3
                          clear p1 p2 p3
                          have HAP : Hid ((R.evs.take (j2 + 1)).any (adProp cs x) = true) := Lib.hid (by rw [hap, hpr]; rfl)
                          clear hap hpr
                          by_cases od : x.ans.val % 2 = 1
                          · have od1 : ((x.ans.val : Int) % 2) = 1 := by omega
                            have od2 : ((x.ans.val : Int).tmod 2) = 1 := by rw [Int.tmod_eq_emod_of_nonneg (by omega)]; omega
                            obtain ⟨dd, hdd⟩ : ∃ dd, adDone cs u = dd := ⟨_, rfl⟩
                            rw [hdd] at HDN
                            cases dd with
                            | false =>
                              clear od hdd
                              go_wp2_with fail
                              refine (HDN.out _ (Below.refl _ _)).mono ?_
                              rintro e w9 ⟨rfl, hb9⟩
                              have HZ9 : Hid (Below wz.heap.size wz w9) := Lib.hid hb9
                              clear hb9
                              go_wp2_with fail
                              go_roundw
                              case rel => exact ⟨j2 + 1, by omega, by go_num, by rw [HAP.out], (Lib.hid (HBZ.out.trans (HZ9.out.mono HBZ.out.size)))⟩
                              case measure => simp [intOf]; omega
                            | true =>
                              have hsame := HAG.out.same x HXM.out u HUM.out HDX.out hdd od
                              have hq2 : (u.ans.val : Int) / 2 = (h : Int) := by have := HH.out; omega
                              have hq3 : ((u.ans.val : Int).tdiv 2) = (h : Int) := by rw [Int.tdiv_eq_ediv_of_nonneg (by omega)]; exact hq2
                              clear od hdd hsame
                              go_wp2_with fail
                              refine (HDN.out _ (Below.refl _ _)).mono ?_
                              rintro e w9 ⟨rfl, hb9⟩
                              have HZ9 : Hid (Below wz.heap.size wz w9) := Lib.hid hb9
                              clear hb9
                              have y5 : w9.cell? ⟨N1, 5, none⟩ = some (.int .u64 (u.ans.val : Int)) := (HYR.out.same (HZ9.out.block _ HYR.out.lt)).cell rfl
                              have x5 : w9.cell? ⟨N0, 5, none⟩ = some (.int .u64 (x.ans.val : Int)) := (HXZ.out.same (HZ9.out.block _ HXZ.out.lt)).cell rfl
                              go_wp2_with fail
                              go_roundw
                              case rel => exact ⟨j2 + 1, by omega, by go_num, by rw [HAP.out], (Lib.hid (HBZ.out.trans (HZ9.out.mono HBZ.out.size)))⟩
                              case measure => simp [intOf]; omega
                          · have od1 : ¬ ((x.ans.val : Int) % 2) = 1 := by omega
                            have od2 : ¬ ((x.ans.val : Int).tmod 2) = 1 := by rw [Int.tmod_eq_emod_of_nonneg (by omega)]; omega
                            have od3 : (((x.ans.val : Int).tmod 2) == 1) = false := by rw [beq_eq_false_iff_ne]; exact od2
                            have od4 : decide (((x.ans.val : Int).tmod 2) = 1) = false := decide_eq_false od2
                            clear od
                            go_wp2_with fail
                            go_roundw
                            case rel => exact ⟨j2 + 1, by omega, by go_num, by rw [HAP.out], HBZ⟩
                            case measure => simp [intOf]; omega
                        · rw [decide_eq_false (fun h => p4 h.2.2.2)] at hpr
                          have p4a : ¬ (u.inv : Int) < (x.resp : Int) := by omega
                          have p4b : decide ((u.inv : Int) < (x.resp : Int)) = false := decide_eq_false p4a
                          have p4c : decide (u.inv < x.resp) = false := decide_eq_false p4
                          rw [p1] at d1
                          rw [p2] at d2
                          rw [p3] at d3
                          clear p1 p2 p3
                          have HAP : Hid ((R.evs.take (j2 + 1)).any (adProp cs x) = false) := Lib.hid (by rw [hap, hpr]; rfl)
                          clear hap hpr
                          by_cases od : x.ans.val % 2 = 1
                          · have od1 : ((x.ans.val : Int) % 2) = 1 := by omega
                            have od2 : ((x.ans.val : Int).tmod 2) = 1 := by rw [Int.tmod_eq_emod_of_nonneg (by omega)]; omega
                            obtain ⟨dd, hdd⟩ : ∃ dd, adDone cs u = dd := ⟨_, rfl⟩
                            rw [hdd] at HDN
                            cases dd with
                            | false =>
                              clear od hdd
                              go_wp2_with fail
                              refine (HDN.out _ (Below.refl _ _)).mono ?_
                              rintro e w9 ⟨rfl, hb9⟩
                              have HZ9 : Hid (Below wz.heap.size wz w9) := Lib.hid hb9
                              clear hb9
                              go_wp2_with fail
                              go_roundw
                              case rel => exact ⟨j2 + 1, by omega, by go_num, by rw [HAP.out], (Lib.hid (HBZ.out.trans (HZ9.out.mono HBZ.out.size)))⟩
                              case measure => simp [intOf]; omega
                            | true =>
                              have hsame := HAG.out.same x HXM.out u HUM.out HDX.out hdd od
                              have hq2 : (u.ans.val : Int) / 2 = (h : Int) := by have := HH.out; omega
                              have hq3 : ((u.ans.val : Int).tdiv 2) = (h : Int) := by rw [Int.tdiv_eq_ediv_of_nonneg (by omega)]; exact hq2
                              clear od hdd hsame
                              go_wp2_with fail
                              refine (HDN.out _ (Below.refl _ _)).mono ?_
                              rintro e w9 ⟨rfl, hb9⟩
                              have HZ9 : Hid (Below wz.heap.size wz w9) := Lib.hid hb9
                              clear hb9
                              have y5 : w9.cell? ⟨N1, 5, none⟩ = some (.int .u64 (u.ans.val : Int)) := (HYR.out.same (HZ9.out.block _ HYR.out.lt)).cell rfl
                              have x5 : w9.cell? ⟨N0, 5, none⟩ = some (.int .u64 (x.ans.val : Int)) := (HXZ.out.same (HZ9.out.block _ HXZ.out.lt)).cell rfl
                              go_wp2_with fail
                              go_roundw
                              case rel => exact ⟨j2 + 1, by omega, by go_num, by rw [HAP.out], (Lib.hid (HBZ.out.trans (HZ9.out.mono HBZ.out.size)))⟩
                              case measure => simp [intOf]; omega
                          · have od1 : ¬ ((x.ans.val : Int) % 2) = 1 := by omega
                            have od2 : ¬ ((x.ans.val : Int).tmod 2) = 1 := by rw [Int.tmod_eq_emod_of_nonneg (by omega)]; omega
                            have od3 : (((x.ans.val : Int).tmod 2) == 1) = false := by rw [beq_eq_false_iff_ne]; exact od2
                            have od4 : decide (((x.ans.val : Int).tmod 2) = 1) = false := decide_eq_false od2
                            clear od
                            go_wp2_with fail
                            go_roundw
                            case rel => exact ⟨j2 + 1, by omega, by go_num, by rw [HAP.out], HBZ⟩
                            case measure => simp [intOf]; omega
                      · rw [decide_eq_false (fun h => p3 h.2.2.1)] at hpr
                        have p3a : ¬ (z.a : Int) = (h : Int) := by omega
                        have p3b : ((z.a : Int) == (h : Int)) = false := by rw [beq_eq_false_iff_ne]; exact p3a
                        have p3c : decide ((z.a : Int) = (h : Int)) = false := decide_eq_false p3a
                        rw [p1] at d1
                        rw [p2] at d2
                        clear p1 p2 p3
                        have HAP : Hid ((R.evs.take (j2 + 1)).any (adProp cs x) = false) := Lib.hid (by rw [hap, hpr]; rfl)
                        clear hap hpr
                        by_cases od : x.ans.val % 2 = 1
                        · have od1 : ((x.ans.val : Int) % 2) = 1 := by omega
                          have od2 : ((x.ans.val : Int).tmod 2) = 1 := by rw [Int.tmod_eq_emod_of_nonneg (by omega)]; omega
                          obtain ⟨dd, hdd⟩ : ∃ dd, adDone cs u = dd := ⟨_, rfl⟩
                          rw [hdd] at HDN
                          cases dd with
                          | false =>
                            clear od hdd
                            go_wp2_with fail
                            refine (HDN.out _ (Below.refl _ _)).mono ?_
                            rintro e w9 ⟨rfl, hb9⟩
                            have HZ9 : Hid (Below wz.heap.size wz w9) := Lib.hid hb9
                            clear hb9
                            go_wp2_with fail
                            go_roundw
                            case rel => exact ⟨j2 + 1, by omega, by go_num, by rw [HAP.out], (Lib.hid (HBZ.out.trans (HZ9.out.mono HBZ.out.size)))⟩
                            case measure => simp [intOf]; omega
                          | true =>
                            have hsame := HAG.out.same x HXM.out u HUM.out HDX.out hdd od
                            have hq2 : (u.ans.val : Int) / 2 = (h : Int) := by have := HH.out; omega
                            have hq3 : ((u.ans.val : Int).tdiv 2) = (h : Int) := by rw [Int.tdiv_eq_ediv_of_nonneg (by omega)]; exact hq2
                            clear od hdd hsame
                            go_wp2_with fail
                            refine (HDN.out _ (Below.refl _ _)).mono ?_
                            rintro e w9 ⟨rfl, hb9⟩
                            have HZ9 : Hid (Below wz.heap.size wz w9) := Lib.hid hb9
                            clear hb9
                            have y5 : w9.cell? ⟨N1, 5, none⟩ = some (.int .u64 (u.ans.val : Int)) := (HYR.out.same (HZ9.out.block _ HYR.out.lt)).cell rfl
                            have x5 : w9.cell? ⟨N0, 5, none⟩ = some (.int .u64 (x.ans.val : Int)) := (HXZ.out.same (HZ9.out.block _ HXZ.out.lt)).cell rfl
                            go_wp2_with fail
                            go_roundw
                            case rel => exact ⟨j2 + 1, by omega, by go_num, by rw [HAP.out], (Lib.hid (HBZ.out.trans (HZ9.out.mono HBZ.out.size)))⟩
                            case measure => simp [intOf]; omega
                        · have od1 : ¬ ((x.ans.val : Int) % 2) = 1 := by omega
                          have od2 : ¬ ((x.ans.val : Int).tmod 2) = 1 := by rw [Int.tmod_eq_emod_of_nonneg (by omega)]; omega
                          have od3 : (((x.ans.val : Int).tmod 2) == 1) = false := by rw [beq_eq_false_iff_ne]; exact od2
                          have od4 : decide (((x.ans.val : Int).tmod 2) = 1) = false := decide_eq_false od2
                          clear od
                          go_wp2_with fail
                          go_roundw
                          case rel => exact ⟨j2 + 1, by omega, by go_num, by rw [HAP.out], HBZ⟩
                          case measure => simp [intOf]; omega
                    · rw [decide_eq_false (fun h => p2 h.2.1)] at hpr
                      have p2b : (z.k == 0) = false := by rw [beq_eq_false_iff_ne]; exact p2
                      have p2c : decide (z.k = 0) = false := decide_eq_false p2
                      rw [p1] at d1
                      clear p1
                      have HAP : Hid ((R.evs.take (j2 + 1)).any (adProp cs x) = false) := Lib.hid (by rw [hap, hpr]; rfl)
                      clear hap hpr
                      by_cases od : x.ans.val % 2 = 1
                      · have od1 : ((x.ans.val : Int) % 2) = 1 := by omega
                        have od2 : ((x.ans.val : Int).tmod 2) = 1 := by rw [Int.tmod_eq_emod_of_nonneg (by omega)]; omega
                        obtain ⟨dd, hdd⟩ : ∃ dd, adDone cs u = dd := ⟨_, rfl⟩
                        rw [hdd] at HDN
                        cases dd with
                        | false =>
                          clear od hdd
                          go_wp2_with fail
                          refine (HDN.out _ (Below.refl _ _)).mono ?_
                          rintro e w9 ⟨rfl, hb9⟩
                          have HZ9 : Hid (Below wz.heap.size wz w9) := Lib.hid hb9
                          clear hb9
                          go_wp2_with fail
                          go_roundw
                          case rel => exact ⟨j2 + 1, by omega, by go_num, by rw [HAP.out], (Lib.hid (HBZ.out.trans (HZ9.out.mono HBZ.out.size)))⟩
                          case measure => simp [intOf]; omega
                        | true =>
                          have hsame := HAG.out.same x HXM.out u HUM.out HDX.out hdd od
                          have hq2 : (u.ans.val : Int) / 2 = (h : Int) := by have := HH.out; omega
                          have hq3 : ((u.ans.val : Int).tdiv 2) = (h : Int) := by rw [Int.tdiv_eq_ediv_of_nonneg (by omega)]; exact hq2
                          clear od hdd hsame
                          go_wp2_with fail
                          refine (HDN.out _ (Below.refl _ _)).mono ?_
                          rintro e w9 ⟨rfl, hb9⟩
                          have HZ9 : Hid (Below wz.heap.size wz w9) := Lib.hid hb9
                          clear hb9
                          have y5 : w9.cell? ⟨N1, 5, none⟩ = some (.int .u64 (u.ans.val : Int)) := (HYR.out.same (HZ9.out.block _ HYR.out.lt)).cell rfl
                          have x5 : w9.cell? ⟨N0, 5, none⟩ = some (.int .u64 (x.ans.val : Int)) := (HXZ.out.same (HZ9.out.block _ HXZ.out.lt)).cell rfl
                          go_wp2_with fail
                          go_roundw
                          case rel => exact ⟨j2 + 1, by omega, by go_num, by rw [HAP.out], (Lib.hid (HBZ.out.trans (HZ9.out.mono HBZ.out.size)))⟩
                          case measure => simp [intOf]; omega
                      · have od1 : ¬ ((x.ans.val : Int) % 2) = 1 := by omega
                        have od2 : ¬ ((x.ans.val : Int).tmod 2) = 1 := by rw [Int.tmod_eq_emod_of_nonneg (by omega)]; omega
                        have od3 : (((x.ans.val : Int).tmod 2) == 1) = false := by rw [beq_eq_false_iff_ne]; exact od2
                        have od4 : decide (((x.ans.val : Int).tmod 2) = 1) = false := decide_eq_false od2
                        clear od
                        go_wp2_with fail
                        go_roundw
                        case rel => exact ⟨j2 + 1, by omega, by go_num, by rw [HAP.out], HBZ⟩
                        case measure => simp [intOf]; omega
                  · rw [decide_eq_false (fun h => p1 h.1)] at hpr
                    have p1b : (z.o == 0) = false := by rw [beq_eq_false_iff_ne]; exact p1
                    have p1c : decide (z.o = 0) = false := decide_eq_false p1
                    have HAP : Hid ((R.evs.take (j2 + 1)).any (adProp cs x) = false) := Lib.hid (by rw [hap, hpr]; rfl)
                    clear hap hpr
                    by_cases od : x.ans.val % 2 = 1
                    · have od1 : ((x.ans.val : Int) % 2) = 1 := by omega
                      have od2 : ((x.ans.val : Int).tmod 2) = 1 := by rw [Int.tmod_eq_emod_of_nonneg (by omega)]; omega
                      obtain ⟨dd, hdd⟩ : ∃ dd, adDone cs u = dd := ⟨_, rfl⟩
                      rw [hdd] at HDN
                      cases dd with
                      | false =>
                        clear od hdd
                        go_wp2_with fail
                        refine (HDN.out _ (Below.refl _ _)).mono ?_
                        rintro e w9 ⟨rfl, hb9⟩
                        have HZ9 : Hid (Below wz.heap.size wz w9) := Lib.hid hb9
                        clear hb9
                        go_wp2_with fail
                        go_roundw
                        case rel => exact ⟨j2 + 1, by omega, by go_num, by rw [HAP.out], (Lib.hid (HBZ.out.trans (HZ9.out.mono HBZ.out.size)))⟩
                        case measure => simp [intOf]; omega
                      | true =>
                        have hsame := HAG.out.same x HXM.out u HUM.out HDX.out hdd od
                        have hq2 : (u.ans.val : Int) / 2 = (h : Int) := by have := HH.out; omega
                        have hq3 : ((u.ans.val : Int).tdiv 2) = (h : Int) := by rw [Int.tdiv_eq_ediv_of_nonneg (by omega)]; exact hq2
                        clear od hdd hsame
                        go_wp2_with fail
                        refine (HDN.out _ (Below.refl _ _)).mono ?_
                        rintro e w9 ⟨rfl, hb9⟩
                        have HZ9 : Hid (Below wz.heap.size wz w9) := Lib.hid hb9
                        clear hb9
                        have y5 : w9.cell? ⟨N1, 5, none⟩ = some (.int .u64 (u.ans.val : Int)) := (HYR.out.same (HZ9.out.block _ HYR.out.lt)).cell rfl
                        have x5 : w9.cell? ⟨N0, 5, none⟩ = some (.int .u64 (x.ans.val : Int)) := (HXZ.out.same (HZ9.out.block _ HXZ.out.lt)).cell rfl
                        go_wp2_with fail
                        go_roundw
                        case rel => exact ⟨j2 + 1, by omega, by go_num, by rw [HAP.out], (Lib.hid (HBZ.out.trans (HZ9.out.mono HBZ.out.size)))⟩
                        case measure => simp [intOf]; omega
                    · have od1 : ¬ ((x.ans.val : Int) % 2) = 1 := by omega
                      have od2 : ¬ ((x.ans.val : Int).tmod 2) = 1 := by rw [Int.tmod_eq_emod_of_nonneg (by omega)]; omega
                      have od3 : (((x.ans.val : Int).tmod 2) == 1) = false := by rw [beq_eq_false_iff_ne]; exact od2
                      have od4 : decide (((x.ans.val : Int).tmod 2) = 1) = false := decide_eq_false od2
                      clear od
                      go_wp2_with fail
                      go_roundw
                      case rel => exact ⟨j2 + 1, by omega, by go_num, by rw [HAP.out], HBZ⟩
                      case measure => simp [intOf]; omega
              · have hjn2 : ¬ (j2 : Int) < (R.evs.length : Int) := by omega
                have hall : (R.evs.take j2).any (adProp cs x) = true := by rw [List.take_of_length_le (by omega)]; exact HAG.out.prop x HXM.out HDX.out
                rw [hall]
                clear hall
                go_wp2_with fail
                go_roundw
                case rel => exact ⟨j + 1, by omega, by go_num, HBQ⟩
                case measure => simp [intOf]; omega
        · have HB4 : Hid (Below w.heap.size w wr) := Lib.hid (HB3.out.trans (hBr.out.mono HB3.out.size))
          have hjn2 : ¬ (j : Int) < (R.evs.length : Int) := by omega
          go_wp2_with fail
          refine (late_any _).mono ?_
          rintro e w4 ⟨rfl, hb4⟩
          have HB5 : Hid (Below w.heap.size w w4) := Lib.hid (HB4.out.trans (hb4.mono HB4.out.size))
          clear hb4
          go_wp2_with fail
          go_ret
          exact ⟨rfl, HB5.out⟩
theorem holds_all (q0 : Int) (ao : Option Addr) (b o cap : Nat) (cs : List CallV) (ao3 : Option Addr) (b3 o3 cap3 : Nat) (picks : List Int) (w : World) (ha : 0 < cs.length → ao = some ⟨b, o, none⟩) (hb : 0 < cs.length → b < w.heap.size) (hc : CallsAt w b o cs) (hcap : ao = none → cap = 0)
    (ha3 : 0 < picks.length → ao3 = some ⟨b3, o3, none⟩) (hb3 : 0 < picks.length → b3 < w.heap.size) (hc3 : ICells w b3 o3 picks) (hnp : picks.length ≤ 9223372036854775807) (hcl : cs.length ≤ 9223372036854775807) :
    Calls Try.prog 4 #[.int .i64 q0, .slice ao cs.length cap, .slice ao3 picks.length cap3] w fun e w' => e = .returned (.bool true) ∧ Below w.heap.size w w' := by
  by_cases hl : longB cs.length picks.length
  · exact holds_long q0 ao ao3 cs.length cap picks.length cap3 w hnp hl
  · by_cases he : playErr q0 cs picks.length 0 = 0
    · obtain ⟨k, rfl, hk1, hth, hpl, _, _⟩ := play_threads he
      have hevs := endM_evs (M := adM k) cs (List.replicate (2 * k) 0) ad0 picks
      obtain ⟨hF, hT⟩ := adT_end hk1.1 hth picks
      have hR := rowI_end (M := adM k) cs (List.replicate (2 * k) 0) ad0 picks
      refine holds_good k ao b o cap cs ao3 b3 o3 cap3 picks w hl ha hb hc hcap ha3 hb3 hc3 hnp hcl he hk1 _ rfl (ad_holds hk1.1 hF hT hR) ?_
      show ((endM (M := adM k) cs (List.replicate (2 * k) 0) ad0 picks).evs.map _).length ≤ _
      rw [List.length_map]; omega
    · exact holds_bad q0 ao b o cap cs ao3 b3 o3 cap3 picks w hl ha hb hc hcap ha3 hb3 hc3 hnp he
end Go.Proofs.Ytglpalomhhhmhaa
