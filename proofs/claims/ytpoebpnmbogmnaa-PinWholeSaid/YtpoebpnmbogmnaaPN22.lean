/- Walk of the law PinWhole. -/
import Derived.Test.YtpoebpnmbogmnaaGPh
namespace Go.Proofs.Ytpoebpnmbogmnaa
open Go.RowKit
set_option linter.unusedVariables false
set_option linter.unusedSimpArgs false
def nouB (l : List Nat) (m : Nat) : Bool := (l.take m).all (fun u => decide (u = 0))
def risB (l : List Nat) (l0 m : Nat) : Bool := (List.range m).all (fun c => decide (l.getD c 0 = (l0 + c) % 18446744073709551616))
theorem nouB_snoc {l : List Nat} {m u : Nat} (h : l[m]? = some u) : nouB l (m + 1) = (nouB l m && decide (u = 0)) := by unfold nouB; rw [take_snoc h, List.all_append]; simp
theorem risB_snoc {l : List Nat} {l0 m u : Nat} (h : l[m]? = some u) : risB l l0 (m + 1) = (risB l l0 m && decide (u = (l0 + m) % 18446744073709551616)) := by
  unfold risB
  have e : l.getD m 0 = u := by rw [List.getD_eq_getElem?_getD, h]; rfl
  rw [List.range_succ, List.all_append, List.all_cons, List.all_nil, Bool.and_true, e]
def matC (l0 : Nat) (y : CallV) : Bool := decide (y.t = 0 ∧ y.o = 0 ∧ y.k = 0 ∧ y.a = l0)
def wrB (cs : List CallV) (N R : Bool) (l0 m : Nat) : Bool := N || (R && (cs.take m).any (matC l0))
theorem wrB_snoc {cs : List CallV} {N R : Bool} {l0 m : Nat} {y : CallV} (h : cs[m]? = some y) : wrB cs N R l0 (m + 1) = (wrB cs N R l0 m || (R && matC l0 y)) := by
  unfold wrB
  rw [take_snoc h, List.any_append, List.any_cons, List.any_nil, Bool.or_false]
  cases N <;> cases R <;> rfl
theorem wr_true {cs : List CallV} {k l0 : Nat} {l : List Nat} (hk : 1 ≤ k) (hca : ∀ x ∈ cs, x.a < 18446744073709551616) (h0 : l[0]? = some l0) (h : GoodL cs k l) : wrB cs (nouB l l.length) (risB l l0 l.length) l0 cs.length = true := by
  obtain ⟨h1, h2⟩ := goodL_told hk hca h
  unfold wrB
  rcases h2 with h2 | ⟨i, x, hx, t, o, k0, ha, h2⟩
  · have : nouB l l.length = true := by
      unfold nouB
      rw [List.take_length, List.all_eq_true]
      intro u hu
      obtain ⟨c, hc⟩ := List.mem_iff_getElem?.1 hu
      have hcl := (List.getElem?_eq_some_iff.1 hc).1
      have := h2 c (by omega)
      rw [hc] at this
      exact decide_eq_true (Option.some.inj this)
    rw [this]; rfl
  · rw [h0] at ha
    have hl0 : l0 = x.a := Option.some.inj ha
    have h3 : risB l l0 l.length = true := by
      unfold risB
      rw [List.all_eq_true]
      intro c hc
      have hc' := List.mem_range.1 hc
      rw [List.getD_eq_getElem?_getD, h2 c (by omega), hl0]
      exact decide_eq_true rfl
    have h4 : (cs.take cs.length).any (matC l0) = true := by
      rw [List.take_length, List.any_eq_true]
      exact ⟨x, List.mem_of_getElem? hx, decide_eq_true ⟨t, o, k0, hl0.symm⟩⟩
    rw [h3, h4]
    cases nouB l l.length <;> rfl
set_option maxRecDepth 100000 in
set_option maxHeartbeats 16000000 in
theorem pwhole_good (n k : Nat) (ao : Option Addr) (b o cap : Nat) (cs : List CallV) (ao3 : Option Addr) (b3 o3 cap3 : Nat) (picks : List Int) (w : World) (hl : ¬ longB cs.length picks.length) (ha : 0 < cs.length → ao = some ⟨b, o, none⟩) (hb : 0 < cs.length → b < w.heap.size) (hc : CallsAt w b o cs) (hcap : ao = none → cap = 0)
    (ha3 : 0 < picks.length → ao3 = some ⟨b3, o3, none⟩) (hb3 : 0 < picks.length → b3 < w.heap.size) (hc3 : ICells w b3 o3 picks) (hnp : picks.length ≤ 9223372036854775807) (hcl : cs.length ≤ 9223372036854775807) (he : playErr (n : Int) cs picks.length (pinErr (k : Int)) = 0) (hn : 1 ≤ n ∧ n ≤ 16) (hk : 1 ≤ k ∧ k ≤ 8) (hca : ∀ x ∈ cs, x.a ≤ 18446744073709551615)
    (R : RepR) (hR : repOf (endM (M := (pinM (n : Int).toNat (k : Int).toNat)) cs (List.replicate (pinSz (n : Int) (k : Int)) 0) (⟨List.replicate ((n : Int).toNat + 1) 0, 0, 0⟩ : PinS) picks) = R) (hA : PinOk n k cs R.evs) (hel : R.evs.length ≤ 70000) :
    Calls Try.prog 5 #[.agg #[.int .i64 (n : Int), .int .i64 (k : Int)], .slice ao cs.length cap, .slice ao3 picks.length cap3] w fun e w' => e = .returned (.bool true) ∧ Below w.heap.size w w' := by
  have hw1 : Below w.heap.size w (w.alloc (.cells #[.int .i64 (n : Int), .int .i64 (k : Int)] 22)) := (Below.refl _ _).alloc (Nat.le_refl _) _
  have HP := Lib.hid (pin_play (n : Int) (k : Int) ao b o cap cs ao3 b3 o3 cap3 picks (w.alloc (.cells #[.int .i64 (n : Int), .int .i64 (k : Int)] 22)) ha (fun h => by have := hb h; simp; omega) (hc.stays hw1 hb) hcap ha3 (fun h => by have := hb3 h; simp; omega) (hc3.stays hw1 hb3) hnp)
  have HQ0 : Hid (RowBlk 22 (w.alloc (.cells #[.int .i64 (n : Int), .int .i64 (k : Int)] 22)) w.heap.size [.int .i64 (n : Int), .int .i64 (k : Int)]) := Lib.hid (RowBlk.new _ _ _)
  have HE := Lib.hid he
  have HL := Lib.hid hl
  have HA := Lib.hid ha
  have HB := Lib.hid hb
  have HC := Lib.hid hc
  have HAG := Lib.hid hA
  have HRR := Lib.hid hR
  have HW1 := Lib.hid hw1
  have k1 : ¬ (k : Int) < 1 := by omega
  have k2 : ¬ 8 < (k : Int) := by omega
  have hk1 := hk.1
  have hk2 := hk.2
  have HCA := Lib.hid hca
  clear hk hn hca ha hb hc hcap ha3 hb3 hc3 he hl hA hR hw1
  go_enter Try.func5, Try.ntmps5
  go_wp2_with fail
  refine (many_no _ _ _ _ _ _ _ hnp HL.out).mono ?_
  rintro e w1 ⟨rfl, rfl⟩
  go_wp2_with fail
  refine HP.out.mono ?_
  rintro e w2 hP
  have hG := hP.good HE.out
  rw [HRR.out] at hG
  obtain ⟨aoE, gE, capE, gw, rfl, hao, hev, hrw, hgw, hb2⟩ := hG
  have HAO := Lib.hid hao
  have z2 := hb2.size
  have z1 : (w.alloc (.cells #[.int .i64 (n : Int), .int .i64 (k : Int)] 22)).heap.size = w.heap.size + 1 := by simp
  have HEV : Hid (EvAllG (w.heap.size + 1) (w2.alloc (.cells (repVs (.slice aoE R.evs.length capE) gw R).toArray 32)) gE R.evs) := Lib.hid (by rw [← z1]; exact hev.below ((Below.refl _ _).alloc (Nat.le_refl _) _) (Nat.le_refl _))
  have HRE : Hid (RowBlk 32 (w2.alloc (.cells (repVs (.slice aoE R.evs.length capE) gw R).toArray 32)) w2.heap.size (repVs (.slice aoE R.evs.length capE) gw R)) := Lib.hid (RowBlk.new _ _ _)
  have HQB : Hid (RowBlk 22 (w2.alloc (.cells (repVs (.slice aoE R.evs.length capE) gw R).toArray 32)) w.heap.size [.int .i64 (n : Int), .int .i64 (k : Int)]) := Lib.hid ((HQ0.out.same (hb2.block _ HQ0.out.lt)).alloc _)
  have HB3 : Hid (Below w.heap.size w (w2.alloc (.cells (repVs (.slice aoE R.evs.length capE) gw R).toArray 32))) := Lib.hid ((HW1.out.trans (hb2.mono (by omega))).alloc (by omega) _)
  clear hP hb2 hev hrw hao HP
  unfold repVs
  rw [show (repVs (.slice aoE R.evs.length capE) gw R).toArray = #[.slice aoE R.evs.length capE, .slice (some ⟨gw, 0, none⟩) R.ws.length R.ws.length, .int .i64 (R.cn.r : Int), .int .i64 (R.cn.w : Int), .int .i64 (R.cn.s : Int), .int .i64 (R.cn.a : Int), .int .i64 (R.cn.f : Int), .int .i64 (R.ticks : Int), .int .i64 (R.idle : Int)] from rfl] at HEV HRE HB3 HQB
  obtain ⟨w0, hw0⟩ : ∃ w0, w2.alloc (.cells #[.slice aoE R.evs.length capE, .slice (some ⟨gw, 0, none⟩) R.ws.length R.ws.length, .int .i64 (R.cn.r : Int), .int .i64 (R.cn.w : Int), .int .i64 (R.cn.s : Int), .int .i64 (R.cn.a : Int), .int .i64 (R.cn.f : Int), .int .i64 (R.ticks : Int), .int .i64 (R.idle : Int)] 32) = w0 := ⟨_, rfl⟩
  rw [hw0] at HEV HRE HB3 HQB
  have q0k : (w2.alloc (.cells #[.slice aoE R.evs.length capE, .slice (some ⟨gw, 0, none⟩) R.ws.length R.ws.length, .int .i64 (R.cn.r : Int), .int .i64 (R.cn.w : Int), .int .i64 (R.cn.s : Int), .int .i64 (R.cn.a : Int), .int .i64 (R.cn.f : Int), .int .i64 (R.ticks : Int), .int .i64 (R.idle : Int)] 32)).cell? ⟨w.heap.size, 0, none⟩ = some (.int .i64 (n : Int)) := by rw [hw0]; exact HQB.out.cell rfl
  have q1k : (w2.alloc (.cells #[.slice aoE R.evs.length capE, .slice (some ⟨gw, 0, none⟩) R.ws.length R.ws.length, .int .i64 (R.cn.r : Int), .int .i64 (R.cn.w : Int), .int .i64 (R.cn.s : Int), .int .i64 (R.cn.a : Int), .int .i64 (R.cn.f : Int), .int .i64 (R.ticks : Int), .int .i64 (R.idle : Int)] 32)).cell? ⟨w.heap.size, 1, none⟩ = some (.int .i64 (k : Int)) := by rw [hw0]; exact HQB.out.cell rfl
  have HW0 := Lib.hid hw0
  clear hw0
  go_wp2_with fail
  rw [HW0.out] at q0k q1k ⊢
  generalize Value.tuple #[.agg #[.slice aoE R.evs.length capE, .slice (some ⟨gw, 0, none⟩) R.ws.length R.ws.length, .int .i64 (R.cn.r : Int), .int .i64 (R.cn.w : Int), .int .i64 (R.cn.s : Int), .int .i64 (R.cn.a : Int), .int .i64 (R.cn.f : Int), .int .i64 (R.ticks : Int), .int .i64 (R.idle : Int)], .int .i64 0] = V1
  generalize (.agg #[.slice aoE R.evs.length capE, .slice (some ⟨gw, 0, none⟩) R.ws.length R.ws.length, .int .i64 (R.cn.r : Int), .int .i64 (R.cn.w : Int), .int .i64 (R.cn.s : Int), .int .i64 (R.cn.a : Int), .int .i64 (R.cn.f : Int), .int .i64 (R.ticks : Int), .int .i64 (R.idle : Int)] : Value) = V2
  have HCALL : Hid (∀ W, Below w0.heap.size w0 W → CallsAt W b o cs) := Lib.hid (fun W hW => HC.out.stays (HB3.out.trans (hW.mono HB3.out.size)) HB.out)
  have hqlt := HQB.out.lt
  clear q0k q1k
  go_loopw [41] (fun kv wr => ∃ (j : Nat), j ≤ R.evs.length ∧ kv = .int .i64 j ∧ Hid (Below w0.heap.size w0 wr)) (fun kv _ => R.evs.length - (intOf kv).toNat)
  case atStart => exact ⟨0, Nat.zero_le _, rfl, Lib.hid (Below.refl _ _)⟩
  case round =>
    obtain ⟨j, hj, rfl, hBr⟩ := hrel
    have z0 := hBr.out.size
    by_cases hlt : j < R.evs.length
    · obtain rfl := HAO.out (by omega)
      obtain ⟨x, hx⟩ : ∃ x, R.evs[j]? = some x := ⟨R.evs[j], List.getElem?_eq_getElem (by omega)⟩
      have hxm := List.mem_of_getElem? hx
      obtain ⟨hb1, hb2⟩ := HAG.out.call x hxm
      obtain ⟨y, hy⟩ : ∃ y, cs[x.i]? = some y := ⟨cs[x.i], List.getElem?_eq_getElem hb1⟩
      have HGD := Lib.hid (HAG.out.good x hxm y hy)
      obtain ⟨hgB, la, ka, lc, kc, hv⟩ := (HEV.out.below hBr.out (Nat.le_refl _)) j x hx
      have v0 := hv.c0
      have v3 := hv.c3
      have v1 := hv.c1
      have v2 := hv.c2
      have v4 := hv.c4
      have v5 := hv.c5
      have v6 := hv.c6
      have v7 := hv.c7
      have HLS := Lib.hid hv.lst
      have hgl := World.block_lt_of_cell? wr ⟨gE, j * 8, none⟩ v0
      have qk : wr.cell? ⟨w.heap.size, 1, none⟩ = some (.int .i64 (k : Int)) := (HQB.out.same (hBr.out.block _ HQB.out.lt)).cell rfl
      have re0 : wr.cell? ⟨w2.heap.size, 0, none⟩ = some (.slice (some ⟨gE, 0, none⟩) R.evs.length capE) := (HRE.out.same (hBr.out.block _ HRE.out.lt)).cell rfl
      obtain rfl := HA.out (by omega)
      obtain ⟨c0, c1, c2, c3, c4, c5, _⟩ := HCALL.out wr hBr.out x.i y hy
      have hi0 : (0 : Int) ≤ (j : Int) := Int.natCast_nonneg _
      have hi1 : (j : Int) < (R.evs.length : Int) := by omega
      have hk0 : (0 : Int) ≤ (x.i : Int) := Int.natCast_nonneg _
      have hkk1 : (x.i : Int) < (cs.length : Int) := by omega
      have b1 : ¬ (x.i : Int) < 0 := by omega
      have b2 : ¬ (cs.length : Int) ≤ (x.i : Int) := by omega
      have hbl : b < wr.heap.size := World.block_lt_of_cell? wr ⟨b, o + x.i * 6, none⟩ c0
      have hql : w.heap.size < wr.heap.size := by omega
      have HB5 : Hid (∀ v : Obj, Below w0.heap.size w0 (wr.alloc v)) := Lib.hid (fun v => hBr.out.alloc z0 v)
      clear hv hx hy hxm
      by_cases eo : y.o = 0
      · by_cases ek : y.k = 1
        · by_cases er : x.resp = 0
          · rw [eo] at c1
            rw [ek] at c2
            rw [er] at v2
            clear eo ek er
            go_wp2_with fail
            go_roundw
            case rel => exact ⟨j + 1, by omega, by go_num, Lib.hid (HB5.out _)⟩
            case measure => simp [intOf]; omega
          · have er1 : ¬ (x.resp : Int) = 0 := by omega
            have er2 : ((x.resp : Int) == 0) = false := by rw [beq_eq_false_iff_ne]; exact er1
            have hg := HGD.out eo ek er
            have HG := Lib.hid hg
            have hll : x.ans.list.length = k := hg.1
            rw [eo] at c1
            rw [ek] at c2
            clear eo ek er hg
            obtain ⟨l, hl⟩ : ∃ l, x.ans.list = l := ⟨_, rfl⟩
            rw [hl] at hll v6
            have HL1 := Lib.hid hl
            have HLN := Lib.hid hll
            rw [hll] at v6
            clear hl hll
            have hl0x : ∃ l0, l[0]? = some l0 := ⟨l[0]'(by have := HLN.out; omega), List.getElem?_eq_getElem _⟩
            obtain ⟨l0, hl0⟩ := hl0x
            have HL0 := Lib.hid hl0
            have HWR : Hid (wrB cs (nouB l l.length) (risB l l0 l.length) l0 cs.length = true) := Lib.hid (wr_true hk1 (fun z hz => by have := HCA.out z hz; omega) hl0 (by rw [← HL1.out]; exact HG.out))
            have HL2 : Hid (∃ bl ol, la = some ⟨bl, ol, none⟩ ∧ bl < wr.heap.size ∧ ∀ (i u : Nat), l[i]? = some u → wr.cell? ⟨bl, ol + i, none⟩ = some (.int .u64 (u : Int))) := Lib.hid (by
              obtain ⟨ao1, bl, ol, cl, he1, hb1', _, _, hx1⟩ := HLS.out
              cases he1
              rw [HL1.out] at hb1' hx1
              obtain ⟨rfl, _, ht1⟩ := hb1' (by have := HLN.out; omega)
              exact ⟨bl, ol, rfl, ht1.lt, hx1⟩)
            obtain ⟨bl, ol, rfl, hbl2, hcl2⟩ := HL2.out
            have HCL2 := Lib.hid hcl2
            clear hl0 hcl2
            go_wp2_with fail
            obtain ⟨wx, hwx⟩ : ∃ wx, (wr.alloc (.cells #[.int .i64 (x.i : Int), .int .i64 (x.inv : Int), .int .i64 (x.resp : Int), .int .i64 (x.steps : Int), .int .i64 (x.ans.err : Int), .int .u64 (x.ans.val : Int), .slice (some ⟨bl, ol, none⟩) k lc, .slice ka x.key.length kc] 41)) = wx := ⟨_, rfl⟩
            have HWX : Hid (Below w0.heap.size w0 wx) := Lib.hid (by rw [← hwx]; exact HB5.out _)
            have hxw : Below wr.heap.size wr wx := by rw [← hwx]; exact (Below.refl _ _).alloc (Nat.le_refl _) _
            have HCLX : Hid (∀ (i u : Nat), l[i]? = some u → wx.cell? ⟨bl, ol + i, none⟩ = some (.int .u64 (u : Int))) := Lib.hid (fun i u hu => (hxw.cell (p := ⟨bl, ol + i, none⟩) hbl2).trans (HCL2.out i u hu))
            have hblx : bl < wx.heap.size := Nat.lt_of_lt_of_le hbl2 hxw.size
            have HWR2 : Hid (Below wx.heap.size wx wx) := Lib.hid (Below.refl _ _)
            rw [hwx]
            clear hxw hwx v0 v1 v2 v3 v4 v5 v6 v7 c0 c1 c2 c3 c4 c5 qk re0
            have hkp : (0 : Int) < (k : Int) := by omega
            go_loopw [12, 13, 90] (fun nv rv kv wq => ∃ (m : Nat), m ≤ k ∧ kv = .int .i64 m ∧ nv = .bool (nouB l m) ∧ rv = .bool (risB l l0 m) ∧ Hid (Below w0.heap.size w0 wq) ∧ Hid (Below wx.heap.size wx wq)) (fun _ _ kv _ => k - (intOf kv).toNat)
            case atStart => exact ⟨0, Nat.zero_le _, rfl, rfl, rfl, HWX, HWR2⟩
            case round =>
              obtain ⟨m, hm, rfl, rfl, rfl, hBq, hBq2⟩ := hrel
              have zq := hBq.out.size
              by_cases hlt2 : m < k
              · obtain ⟨u, hu⟩ : ∃ u, l[m]? = some u := ⟨l[m]'(by have := HLN.out; omega), List.getElem?_eq_getElem _⟩
                have HU := Lib.hid hu
                have lu : wr.cell? ⟨bl, ol + m, none⟩ = some (.int .u64 (u : Int)) := (hBq2.out.cell (p := ⟨bl, ol + m, none⟩) hblx).trans (HCLX.out m u hu)
                have l0c : wr.cell? ⟨bl, ol, none⟩ = some (.int .u64 (l0 : Int)) := (hBq2.out.cell (p := ⟨bl, ol, none⟩) hblx).trans (HCLX.out 0 l0 HL0.out)
                clear hu
                have hm0 : (0 : Int) ≤ (m : Int) := Int.natCast_nonneg _
                have hm1 : (m : Int) < (k : Int) := by omega
                have hblq : bl < wr.heap.size := Nat.lt_of_lt_of_le hblx hBq2.out.size
                obtain ⟨z, hz⟩ : ∃ z, (l0 + m) % 18446744073709551616 = z := ⟨_, rfl⟩
                have hzi : ((l0 : Int) + (m : Int)) % 18446744073709551616 = (z : Int) := by omega
                have hzw : IntKind.u64.wrap ((l0 : Int) + (m : Int)) = (z : Int) := by rw [IntKind.wrap_u64]; exact hzi
                have hmw : IntKind.u64.wrap (m : Int) = (m : Int) := by rw [IntKind.wrap_u64]; omega
                have HZ := Lib.hid hz
                clear hz
                obtain ⟨N, hN⟩ : ∃ N, nouB l m = N := ⟨_, rfl⟩
                obtain ⟨B, hB⟩ : ∃ B, risB l l0 m = B := ⟨_, rfl⟩
                rw [hN, hB]
                have HN := Lib.hid hN
                have HBB := Lib.hid hB
                clear hN hB
                cases N with
                | false =>
                  have HN1 : Hid (nouB l (m + 1) = false) := Lib.hid (by rw [nouB_snoc HU.out, HN.out]; rfl)
                  go_wp2_with fail
                  cases B with
                  | false =>
                    have HR1 : Hid (risB l l0 (m + 1) = false) := Lib.hid (by rw [risB_snoc HU.out, HBB.out]; rfl)
                    go_quiet (fail)
                    go_wp2_with fail
                    go_roundw
                    case rel => exact ⟨m + 1, by omega, by go_num, by rw [HN1.out], by rw [HR1.out], Lib.hid (below_drewN hBq.out _), Lib.hid (below_drewN hBq2.out _)⟩
                    case measure => simp [intOf]; omega
                  | true =>
                    by_cases e2 : u = z
                    · have HR1 : Hid (risB l l0 (m + 1) = true) := Lib.hid (by rw [risB_snoc HU.out, HBB.out, HZ.out, e2]; simp)
                      have e2i : (u : Int) = (z : Int) := by omega
                      clear e2
                      go_quiet (fail)
                      go_wp2_with fail
                      go_roundw
                      case rel => exact ⟨m + 1, by omega, by go_num, by rw [HN1.out], by rw [HR1.out], Lib.hid (below_drewN hBq.out _), Lib.hid (below_drewN hBq2.out _)⟩
                      case measure => simp [intOf]; omega
                    · have HR1 : Hid (risB l l0 (m + 1) = false) := Lib.hid (by rw [risB_snoc HU.out, HBB.out, HZ.out, decide_eq_false e2]; rfl)
                      have e2i : ¬ (u : Int) = (z : Int) := by omega
                      have e2b : ((u : Int) == (z : Int)) = false := by rw [beq_eq_false_iff_ne]; exact e2i
                      clear e2
                      go_quiet (fail)
                      go_wp2_with fail
                      go_roundw
                      case rel => exact ⟨m + 1, by omega, by go_num, by rw [HN1.out], by rw [HR1.out], Lib.hid (below_drewN hBq.out _), Lib.hid (below_drewN hBq2.out _)⟩
                      case measure => simp [intOf]; omega
                | true =>
                  by_cases e1 : u = 0
                  · have HN1 : Hid (nouB l (m + 1) = true) := Lib.hid (by rw [nouB_snoc HU.out, HN.out, e1]; rfl)
                    have e1i : (u : Int) = 0 := by omega
                    clear e1
                    go_wp2_with fail
                    clear e1i
                    cases B with
                    | false =>
                      have HR1 : Hid (risB l l0 (m + 1) = false) := Lib.hid (by rw [risB_snoc HU.out, HBB.out]; rfl)
                      go_quiet (fail)
                      go_wp2_with fail
                      go_roundw
                      case rel => exact ⟨m + 1, by omega, by go_num, by rw [HN1.out], by rw [HR1.out], Lib.hid (below_drewN hBq.out _), Lib.hid (below_drewN hBq2.out _)⟩
                      case measure => simp [intOf]; omega
                    | true =>
                      by_cases e2 : u = z
                      · have HR1 : Hid (risB l l0 (m + 1) = true) := Lib.hid (by rw [risB_snoc HU.out, HBB.out, HZ.out, e2]; simp)
                        have e2i : (u : Int) = (z : Int) := by omega
                        clear e2
                        go_quiet (fail)
                        go_wp2_with fail
                        go_roundw
                        case rel => exact ⟨m + 1, by omega, by go_num, by rw [HN1.out], by rw [HR1.out], Lib.hid (below_drewN hBq.out _), Lib.hid (below_drewN hBq2.out _)⟩
                        case measure => simp [intOf]; omega
                      · have HR1 : Hid (risB l l0 (m + 1) = false) := Lib.hid (by rw [risB_snoc HU.out, HBB.out, HZ.out, decide_eq_false e2]; rfl)
                        have e2i : ¬ (u : Int) = (z : Int) := by omega
                        have e2b : ((u : Int) == (z : Int)) = false := by rw [beq_eq_false_iff_ne]; exact e2i
                        clear e2
                        go_quiet (fail)
                        go_wp2_with fail
                        go_roundw
                        case rel => exact ⟨m + 1, by omega, by go_num, by rw [HN1.out], by rw [HR1.out], Lib.hid (below_drewN hBq.out _), Lib.hid (below_drewN hBq2.out _)⟩
                        case measure => simp [intOf]; omega
                  · have HN1 : Hid (nouB l (m + 1) = false) := Lib.hid (by rw [nouB_snoc HU.out, HN.out, decide_eq_false e1]; rfl)
                    have e1i : ¬ (u : Int) = 0 := by omega
                    have e1b : ((u : Int) == 0) = false := by rw [beq_eq_false_iff_ne]; exact e1i
                    clear e1
                    go_wp2_with fail
                    clear e1i e1b
                    cases B with
                    | false =>
                      have HR1 : Hid (risB l l0 (m + 1) = false) := Lib.hid (by rw [risB_snoc HU.out, HBB.out]; rfl)
                      go_quiet (fail)
                      go_wp2_with fail
                      go_roundw
                      case rel => exact ⟨m + 1, by omega, by go_num, by rw [HN1.out], by rw [HR1.out], Lib.hid (below_drewN hBq.out _), Lib.hid (below_drewN hBq2.out _)⟩
                      case measure => simp [intOf]; omega
                    | true =>
                      by_cases e2 : u = z
                      · have HR1 : Hid (risB l l0 (m + 1) = true) := Lib.hid (by rw [risB_snoc HU.out, HBB.out, HZ.out, e2]; simp)
                        have e2i : (u : Int) = (z : Int) := by omega
                        clear e2
                        go_quiet (fail)
                        go_wp2_with fail
                        go_roundw
                        case rel => exact ⟨m + 1, by omega, by go_num, by rw [HN1.out], by rw [HR1.out], Lib.hid (below_drewN hBq.out _), Lib.hid (below_drewN hBq2.out _)⟩
                        case measure => simp [intOf]; omega
                      · have HR1 : Hid (risB l l0 (m + 1) = false) := Lib.hid (by rw [risB_snoc HU.out, HBB.out, HZ.out, decide_eq_false e2]; rfl)
                        have e2i : ¬ (u : Int) = (z : Int) := by omega
                        have e2b : ((u : Int) == (z : Int)) = false := by rw [beq_eq_false_iff_ne]; exact e2i
                        clear e2
                        go_quiet (fail)
                        go_wp2_with fail
                        go_roundw
                        case rel => exact ⟨m + 1, by omega, by go_num, by rw [HN1.out], by rw [HR1.out], Lib.hid (below_drewN hBq.out _), Lib.hid (below_drewN hBq2.out _)⟩
                        case measure => simp [intOf]; omega
              · have hmn : ¬ (m : Int) < (k : Int) := by omega
                obtain rfl : m = k := by omega
                go_wp2_with fail
                have HN0 : Hid (nouB l l.length = nouB l m) := Lib.hid (by rw [HLN.out])
                have HR0 : Hid (risB l l0 l.length = risB l l0 m) := Lib.hid (by rw [HLN.out])
                obtain ⟨N, hN⟩ : ∃ N, nouB l m = N := ⟨_, rfl⟩
                obtain ⟨B, hB⟩ : ∃ B, risB l l0 m = B := ⟨_, rfl⟩
                rw [hN, hB]
                have HWW : Hid (wrB cs N B l0 cs.length = true) := Lib.hid (by rw [← hN, ← hB, ← HN0.out, ← HR0.out]; exact HWR.out)
                have HW00 : Hid (wrB cs N B l0 0 = N) := Lib.hid (by unfold wrB; cases N <;> cases B <;> rfl)
                clear hN hB
                go_loopw [15, 119] (fun bv kv wp => ∃ (i : Nat), i ≤ cs.length ∧ kv = .int .i64 i ∧ bv = .bool (wrB cs N B l0 i) ∧ Hid (Below w0.heap.size w0 wp) ∧ Hid (Below wx.heap.size wx wp)) (fun _ kv _ => cs.length - (intOf kv).toNat)
                case atStart => exact ⟨0, Nat.zero_le _, rfl, by rw [HW00.out], hBq, hBq2⟩
                case round =>
                  obtain ⟨i, hi, rfl, rfl, hBp, hBp2⟩ := hrel
                  by_cases hlt3 : i < cs.length
                  · obtain ⟨y2, hy2⟩ : ∃ y2, cs[i]? = some y2 := ⟨cs[i], List.getElem?_eq_getElem hlt3⟩
                    have HY2 := Lib.hid hy2
                    obtain ⟨d0, d1, d2, d3, _, _, _⟩ := HCALL.out wr hBp.out i y2 hy2
                    have l0c : wr.cell? ⟨bl, ol, none⟩ = some (.int .u64 (l0 : Int)) := (hBp2.out.cell (p := ⟨bl, ol, none⟩) hblx).trans (HCLX.out 0 l0 HL0.out)
                    clear hy2
                    have hj0 : (0 : Int) ≤ (i : Int) := Int.natCast_nonneg _
                    have hj1 : (i : Int) < (cs.length : Int) := by omega
                    have hbp : b < wr.heap.size := World.block_lt_of_cell? wr ⟨b, o + i * 6, none⟩ d0
                    have hblp : bl < wr.heap.size := Nat.lt_of_lt_of_le hblx hBp2.out.size
                    obtain ⟨W, hW⟩ : ∃ W, wrB cs N B l0 i = W := ⟨_, rfl⟩
                    rw [hW]
                    have HW := Lib.hid hW
                    clear hW
                    cases W with
                    | true =>
                      have HW1 : Hid (wrB cs N B l0 (i + 1) = true) := Lib.hid (by rw [wrB_snoc HY2.out, HW.out]; rfl)
                      go_wp2_with fail
                      go_quiet (fail)
                      go_wp2_with fail
                      go_roundw
                      case rel => exact ⟨i + 1, by omega, by go_num, by rw [HW1.out], Lib.hid (below_drewN hBp.out _), Lib.hid (below_drewN hBp2.out _)⟩
                      case measure => simp [intOf]; omega
                    | false =>
                      cases B with
                      | false =>
                        have HW1 : Hid (wrB cs N false l0 (i + 1) = false) := Lib.hid (by rw [wrB_snoc HY2.out, HW.out]; rfl)
                        go_wp2_with fail
                        go_quiet (fail)
                        go_wp2_with fail
                        go_roundw
                        case rel => exact ⟨i + 1, by omega, by go_num, by rw [HW1.out], Lib.hid (below_drewN hBp.out _), Lib.hid (below_drewN hBp2.out _)⟩
                        case measure => simp [intOf]; omega
                      | true =>
                        by_cases et : y2.t = 0
                        · by_cases eo2 : y2.o = 0
                          · by_cases ek2 : y2.k = 0
                            · by_cases ea : y2.a = l0
                              · have HW1 : Hid (wrB cs N true l0 (i + 1) = true) := Lib.hid (by rw [wrB_snoc HY2.out, HW.out]; unfold matC; rw [decide_eq_true ⟨et, eo2, ek2, ea⟩]; rfl)
                                have f1 : (y2.a : Int) = (l0 : Int) := by omega
                                rw [et] at d0
                                rw [eo2] at d1
                                rw [ek2] at d2
                                clear ea et eo2 ek2
                                go_wp2_with fail
                                go_quiet (fail)
                                go_wp2_with fail
                                go_roundw
                                case rel => exact ⟨i + 1, by omega, by go_num, by rw [HW1.out], Lib.hid (below_drewN hBp.out _), Lib.hid (below_drewN hBp2.out _)⟩
                                case measure => simp [intOf]; omega
                              · have HW1 : Hid (wrB cs N true l0 (i + 1) = false) := Lib.hid (by rw [wrB_snoc HY2.out, HW.out]; unfold matC; rw [decide_eq_false (fun h => ea h.2.2.2)]; rfl)
                                have f1 : ¬ (y2.a : Int) = (l0 : Int) := by omega
                                have f2 : ((y2.a : Int) == (l0 : Int)) = false := by rw [beq_eq_false_iff_ne]; exact f1
                                rw [et] at d0
                                rw [eo2] at d1
                                rw [ek2] at d2
                                clear ea et eo2 ek2
                                go_wp2_with fail
                                go_quiet (fail)
                                go_wp2_with fail
                                go_roundw
                                case rel => exact ⟨i + 1, by omega, by go_num, by rw [HW1.out], Lib.hid (below_drewN hBp.out _), Lib.hid (below_drewN hBp2.out _)⟩
                                case measure => simp [intOf]; omega
                            · have HW1 : Hid (wrB cs N true l0 (i + 1) = false) := Lib.hid (by rw [wrB_snoc HY2.out, HW.out]; unfold matC; rw [decide_eq_false (fun h => ek2 h.2.2.1)]; rfl)
                              have f1 : ¬ y2.k = 0 := ek2
                              have f2 : (y2.k == 0) = false := by rw [beq_eq_false_iff_ne]; exact f1
                              rw [et] at d0
                              rw [eo2] at d1
                              clear et eo2 ek2
                              go_wp2_with fail
                              go_quiet (fail)
                              go_wp2_with fail
                              go_roundw
                              case rel => exact ⟨i + 1, by omega, by go_num, by rw [HW1.out], Lib.hid (below_drewN hBp.out _), Lib.hid (below_drewN hBp2.out _)⟩
                              case measure => simp [intOf]; omega
                          · have HW1 : Hid (wrB cs N true l0 (i + 1) = false) := Lib.hid (by rw [wrB_snoc HY2.out, HW.out]; unfold matC; rw [decide_eq_false (fun h => eo2 h.2.1)]; rfl)
                            have f1 : ¬ y2.o = 0 := eo2
                            have f2 : (y2.o == 0) = false := by rw [beq_eq_false_iff_ne]; exact f1
                            rw [et] at d0
                            clear et eo2
                            go_wp2_with fail
                            go_quiet (fail)
                            go_wp2_with fail
                            go_roundw
                            case rel => exact ⟨i + 1, by omega, by go_num, by rw [HW1.out], Lib.hid (below_drewN hBp.out _), Lib.hid (below_drewN hBp2.out _)⟩
                            case measure => simp [intOf]; omega
                        · have HW1 : Hid (wrB cs N true l0 (i + 1) = false) := Lib.hid (by rw [wrB_snoc HY2.out, HW.out]; unfold matC; rw [decide_eq_false (fun h => et h.1)]; rfl)
                          have f1 : ¬ y2.t = 0 := et
                          have f2 : (y2.t == 0) = false := by rw [beq_eq_false_iff_ne]; exact f1
                          clear et
                          go_wp2_with fail
                          go_quiet (fail)
                          go_wp2_with fail
                          go_roundw
                          case rel => exact ⟨i + 1, by omega, by go_num, by rw [HW1.out], Lib.hid (below_drewN hBp.out _), Lib.hid (below_drewN hBp2.out _)⟩
                          case measure => simp [intOf]; omega
                  · have hin : ¬ (i : Int) < (cs.length : Int) := by omega
                    obtain rfl : i = cs.length := by omega
                    rw [HWW.out]
                    go_wp2_with fail
                    go_roundw
                    case rel => exact ⟨j + 1, by omega, by go_num, hBp⟩
                    case measure => simp [intOf]; omega
        · have ek1 : ¬ y.k = 1 := ek
          have ek2 : (y.k == 1) = false := by rw [beq_eq_false_iff_ne]; exact ek1
          have ek3 : (y.k != 1) = true := by rw [bne_iff_ne]; exact ek1
          rw [eo] at c1
          clear eo
          go_wp2_with fail
          go_roundw
          case rel => exact ⟨j + 1, by omega, by go_num, Lib.hid (HB5.out _)⟩
          case measure => simp [intOf]; omega
      · have eo2 : (y.o == 0) = false := by rw [beq_eq_false_iff_ne]; exact eo
        have eo3 : (y.o != 0) = true := by rw [bne_iff_ne]; exact eo
        go_wp2_with fail
        go_roundw
        case rel => exact ⟨j + 1, by omega, by go_num, Lib.hid (HB5.out _)⟩
        case measure => simp [intOf]; omega
    · have hjn : ¬ (j : Int) < (R.evs.length : Int) := by omega
      have HB4 : Hid (Below w.heap.size w wr) := Lib.hid (HB3.out.trans (hBr.out.mono HB3.out.size))
      go_wp2_with fail
      refine (slow_any _).mono ?_
      rintro e w4 ⟨rfl, hb4⟩
      have HB5 : Hid (Below w.heap.size w w4) := Lib.hid (HB4.out.trans (hb4.mono HB4.out.size))
      clear hb4
      go_wp2_with fail
      go_ret
      exact ⟨rfl, HB5.out⟩
theorem pwhole_all (q0 q1 : Int) (ao : Option Addr) (b o cap : Nat) (cs : List CallV) (ao3 : Option Addr) (b3 o3 cap3 : Nat) (picks : List Int) (w : World) (ha : 0 < cs.length → ao = some ⟨b, o, none⟩) (hb : 0 < cs.length → b < w.heap.size) (hc : CallsAt w b o cs) (hcap : ao = none → cap = 0)
    (ha3 : 0 < picks.length → ao3 = some ⟨b3, o3, none⟩) (hb3 : 0 < picks.length → b3 < w.heap.size) (hc3 : ICells w b3 o3 picks) (hnp : picks.length ≤ 9223372036854775807) (hcl : cs.length ≤ 9223372036854775807) :
    Calls Try.prog 5 #[.agg #[.int .i64 q0, .int .i64 q1], .slice ao cs.length cap, .slice ao3 picks.length cap3] w fun e w' => e = .returned (.bool true) ∧ Below w.heap.size w w' := by
  by_cases hl : longB cs.length picks.length
  · exact pwhole_long q0 q1 ao ao3 cs.length cap picks.length cap3 w hnp hl
  · by_cases he : playErr q0 cs picks.length (pinErr q1) = 0
    · obtain ⟨n, rfl, hn1, hth, hpl, _, her⟩ := play_threads he
      obtain ⟨k, rfl, hk, hsz⟩ := pin_made (n := n) her
      have hF := pin_end hn1 hk.1 hth hpl
      have hevs := endM_evs (M := pinM n k) cs (List.replicate (1 + (n + 1) * (1 + k)) 0) ⟨List.replicate (n + 1) 0, 0, 0⟩ picks
      have hR := rowI_end (M := pinM n k) cs (List.replicate (1 + (n + 1) * (1 + k)) 0) ⟨List.replicate (n + 1) 0, 0, 0⟩ picks
      refine pwhole_good n k ao b o cap cs ao3 b3 o3 cap3 picks w hl ha hb hc hcap ha3 hb3 hc3 hnp hcl he hn1 hk (calls_aP hc) (repOf (endM (M := pinM n k) cs (List.replicate (1 + (n + 1) * (1 + k)) 0) ⟨List.replicate (n + 1) 0, 0, 0⟩ picks)) (by rw [hsz]; rfl) (pinOk_of hn1.1 hR hF) ?_
      show ((endM (M := pinM n k) cs (List.replicate (1 + (n + 1) * (1 + k)) 0) ⟨List.replicate (n + 1) 0, 0, 0⟩ picks).evs.map _).length ≤ _
      rw [List.length_map]; omega
    · exact pwhole_bad q0 q1 ao b o cap cs ao3 b3 o3 cap3 picks w hl ha hb hc hcap ha3 hb3 hc3 hnp he
end Go.Proofs.Ytpoebpnmbogmnaa
