/- Walk of the law PoolFull. -/
import Derived.Test.YtebfkkgemccbfaaPO8
namespace Go.Proofs.Ytebfkkgemccbfaa
open Go.RowKit
set_option linter.unusedVariables false
set_option linter.unusedSimpArgs false
set_option maxRecDepth 100000 in
set_option maxHeartbeats 16000000 in
theorem pfull_good (n k : Nat) (ao : Option Addr) (b o cap : Nat) (cs : List CallV) (ao3 : Option Addr) (b3 o3 cap3 : Nat) (picks : List Int) (w : World) (hl : ¬ longB cs.length picks.length) (ha : 0 < cs.length → ao = some ⟨b, o, none⟩) (hb : 0 < cs.length → b < w.heap.size) (hc : CallsAt w b o cs) (hcap : ao = none → cap = 0)
    (ha3 : 0 < picks.length → ao3 = some ⟨b3, o3, none⟩) (hb3 : 0 < picks.length → b3 < w.heap.size) (hc3 : ICells w b3 o3 picks) (hnp : picks.length ≤ 9223372036854775807) (hcl : cs.length ≤ 9223372036854775807) (he : playErr (n : Int) cs picks.length (poolErr (k : Int)) = 0) (hk : 1 ≤ k ∧ k ≤ 32)
    (R : RepR) (hR : repOf (endM (M := poolM (n : Int).toNat (k : Int).toNat) cs (List.replicate (poolSz (n : Int) (k : Int)) 0) () picks) = R) (hA : FullOk cs k R.evs) (hel : R.evs.length ≤ 70000) :
    Calls Try.prog 6 #[.agg #[.int .i64 (n : Int), .int .i64 (k : Int)], .slice ao cs.length cap, .slice ao3 picks.length cap3] w fun e w' => e = .returned (.bool true) ∧ Below w.heap.size w w' := by
  have hw1 : Below w.heap.size w (w.alloc (.cells #[.int .i64 (n : Int), .int .i64 (k : Int)] 22)) := (Below.refl _ _).alloc (Nat.le_refl _) _
  have HP := Lib.hid (pool_play (n : Int) (k : Int) ao b o cap cs ao3 b3 o3 cap3 picks (w.alloc (.cells #[.int .i64 (n : Int), .int .i64 (k : Int)] 22)) ha (fun h => by have := hb h; simp; omega) (hc.stays hw1 hb) hcap ha3 (fun h => by have := hb3 h; simp; omega) (hc3.stays hw1 hb3) hnp)
  have HQ0 : Hid (RowBlk 22 (w.alloc (.cells #[.int .i64 (n : Int), .int .i64 (k : Int)] 22)) w.heap.size [.int .i64 (n : Int), .int .i64 (k : Int)]) := Lib.hid (RowBlk.new _ _ _)
  have HE := Lib.hid he
  have HL := Lib.hid hl
  have HA := Lib.hid ha
  have HB := Lib.hid hb
  have HC := Lib.hid hc
  have HAG := Lib.hid hA
  have HRR := Lib.hid hR
  have HW1 := Lib.hid hw1
  have k1 : ¬ (k : Int) < 1 := by omega
  have k2 : ¬ 32 < (k : Int) := by omega
  have hk1 := hk.1
  have hk2 := hk.2
  have hwk : IntKind.i64.wrap ((k : Int) + 1) = (k : Int) + 1 := by unfold IntKind.wrap; simp [IntKind.bits, IntKind.signed]; omega
  clear ha hb hc hcap ha3 hb3 hc3 he hl hA hR hw1 hk
  go_enter Try.func6, Try.ntmps6
  go_wp2_with fail
  refine (many_no _ _ _ _ _ _ _ hnp HL.out).mono ?_
  rintro e w1 ⟨rfl, rfl⟩
  go_wp2_with fail
  refine HP.out.mono ?_
  rintro e w2 hP
  have hG := hP.good HE.out
  rw [HRR.out] at hG
  obtain ⟨aoE, gE, capE, gw, rfl, hao, hev, hrw, hgw, hb2⟩ := hG
  have HAO := Lib.hid hao
  have z2 := hb2.size
  have z1 : (w.alloc (.cells #[.int .i64 (n : Int), .int .i64 (k : Int)] 22)).heap.size = w.heap.size + 1 := by simp
  have HEV : Hid (EvAllG (w.heap.size + 1) (w2.alloc (.cells (repVs (.slice aoE R.evs.length capE) gw R).toArray 32)) gE R.evs) := Lib.hid (by rw [← z1]; exact hev.below ((Below.refl _ _).alloc (Nat.le_refl _) _) (Nat.le_refl _))
  have HRE : Hid (RowBlk 32 (w2.alloc (.cells (repVs (.slice aoE R.evs.length capE) gw R).toArray 32)) w2.heap.size (repVs (.slice aoE R.evs.length capE) gw R)) := Lib.hid (RowBlk.new _ _ _)
  have HQB : Hid (RowBlk 22 (w2.alloc (.cells (repVs (.slice aoE R.evs.length capE) gw R).toArray 32)) w.heap.size [.int .i64 (n : Int), .int .i64 (k : Int)]) := Lib.hid ((HQ0.out.same (hb2.block _ HQ0.out.lt)).alloc _)
  have HB3 : Hid (Below w.heap.size w (w2.alloc (.cells (repVs (.slice aoE R.evs.length capE) gw R).toArray 32))) := Lib.hid ((HW1.out.trans (hb2.mono (by omega))).alloc (by omega) _)
  clear hP hb2 hev hrw hao HP
  unfold repVs
  rw [show (repVs (.slice aoE R.evs.length capE) gw R).toArray = #[.slice aoE R.evs.length capE, .slice (some ⟨gw, 0, none⟩) R.ws.length R.ws.length, .int .i64 (R.cn.r : Int), .int .i64 (R.cn.w : Int), .int .i64 (R.cn.s : Int), .int .i64 (R.cn.a : Int), .int .i64 (R.cn.f : Int), .int .i64 (R.ticks : Int), .int .i64 (R.idle : Int)] from rfl] at HEV HRE HB3 HQB
  obtain ⟨w0, hw0⟩ : ∃ w0, w2.alloc (.cells #[.slice aoE R.evs.length capE, .slice (some ⟨gw, 0, none⟩) R.ws.length R.ws.length, .int .i64 (R.cn.r : Int), .int .i64 (R.cn.w : Int), .int .i64 (R.cn.s : Int), .int .i64 (R.cn.a : Int), .int .i64 (R.cn.f : Int), .int .i64 (R.ticks : Int), .int .i64 (R.idle : Int)] 32) = w0 := ⟨_, rfl⟩
  rw [hw0] at HEV HRE HB3 HQB
  have q0k : (w2.alloc (.cells #[.slice aoE R.evs.length capE, .slice (some ⟨gw, 0, none⟩) R.ws.length R.ws.length, .int .i64 (R.cn.r : Int), .int .i64 (R.cn.w : Int), .int .i64 (R.cn.s : Int), .int .i64 (R.cn.a : Int), .int .i64 (R.cn.f : Int), .int .i64 (R.ticks : Int), .int .i64 (R.idle : Int)] 32)).cell? ⟨w.heap.size, 1, none⟩ = some (.int .i64 (k : Int)) := by rw [hw0]; exact HQB.out.cell rfl
  have HW0 := Lib.hid hw0
  clear hw0
  go_wp2_with fail
  rw [HW0.out] at q0k ⊢
  generalize Value.tuple #[.agg #[.slice aoE R.evs.length capE, .slice (some ⟨gw, 0, none⟩) R.ws.length R.ws.length, .int .i64 (R.cn.r : Int), .int .i64 (R.cn.w : Int), .int .i64 (R.cn.s : Int), .int .i64 (R.cn.a : Int), .int .i64 (R.cn.f : Int), .int .i64 (R.ticks : Int), .int .i64 (R.idle : Int)], .int .i64 0] = V1
  generalize (.agg #[.slice aoE R.evs.length capE, .slice (some ⟨gw, 0, none⟩) R.ws.length R.ws.length, .int .i64 (R.cn.r : Int), .int .i64 (R.cn.w : Int), .int .i64 (R.cn.s : Int), .int .i64 (R.cn.a : Int), .int .i64 (R.cn.f : Int), .int .i64 (R.ticks : Int), .int .i64 (R.idle : Int)] : Value) = V2
  have HCALL : Hid (∀ W, Below w0.heap.size w0 W → CallsAt W b o cs) := Lib.hid (fun W hW => HC.out.stays (HB3.out.trans (hW.mono HB3.out.size)) HB.out)
  have hqlt := HQB.out.lt
  clear q0k
  go_loopw [47] (fun kv wr => ∃ (j : Nat), j ≤ R.evs.length ∧ kv = .int .i64 j ∧ Hid (Below w0.heap.size w0 wr)) (fun kv _ => R.evs.length - (intOf kv).toNat)
  case atStart => exact ⟨0, Nat.zero_le _, rfl, Lib.hid (Below.refl _ _)⟩
  case round =>
    obtain ⟨j, hj, rfl, hBr⟩ := hrel
    have z0 := hBr.out.size
    by_cases hlt : j < R.evs.length
    · obtain rfl := HAO.out (by omega)
      obtain ⟨x, hx⟩ : ∃ x, R.evs[j]? = some x := ⟨R.evs[j], List.getElem?_eq_getElem (by omega)⟩
      have hxm := List.mem_of_getElem? hx
      obtain ⟨hb1, hb2⟩ := HAG.out.call x hxm
      obtain ⟨y, hy⟩ : ∃ y, cs[x.i]? = some y := ⟨cs[x.i], List.getElem?_eq_getElem hb1⟩
      have HXM := Lib.hid hxm
      have HY := Lib.hid hy
      have HX := Lib.hid hx
      obtain ⟨hgB, la, ka, lc, kc, hv⟩ := (HEV.out.below hBr.out (Nat.le_refl _)) j x hx
      have v0 := hv.c0
      have v3 := hv.c3
      have v4 := hv.c4
      have hgl := World.block_lt_of_cell? wr ⟨gE, j * 8, none⟩ v0
      have qk : wr.cell? ⟨w.heap.size, 1, none⟩ = some (.int .i64 (k : Int)) := (HQB.out.same (hBr.out.block _ HQB.out.lt)).cell rfl
      obtain rfl := HA.out (by omega)
      obtain ⟨c0, c1, c2, c3, c4, c5, _⟩ := HCALL.out wr hBr.out x.i y hy
      have hi0 : (0 : Int) ≤ (j : Int) := Int.natCast_nonneg _
      have hi1 : (j : Int) < (R.evs.length : Int) := by omega
      have hk0 : (0 : Int) ≤ (x.i : Int) := Int.natCast_nonneg _
      have hkk1 : (x.i : Int) < (cs.length : Int) := by omega
      have b1 : ¬ (x.i : Int) < 0 := by omega
      have b2 : ¬ (cs.length : Int) ≤ (x.i : Int) := by omega
      have b3 : ¬ (k : Int) + 1 < (x.steps : Int) := by omega
      have hbl : b < wr.heap.size := World.block_lt_of_cell? wr ⟨b, o + x.i * 6, none⟩ c0
      clear hv hx hy hxm
      go_wp2_with fail
      go_quiet (fail)
      by_cases e6 : x.ans.err = 6
      · have HE6 := Lib.hid e6
        rw [e6] at v4
        go_wp2_with fail
        have HWX : Hid (Below w0.heap.size w0 (wr.drewN nq)) := Lib.hid (below_drewN hBr.out _)
        generalize wr.drewN nq = wx at HWX ⊢
        clear v0 v3 v4 c0 c1 c2 c3 c4 c5 qk hBr e6
        generalize decide (cs.length ≤ x.i) = D1
        generalize decide ((x.i : Int) < 0) = D0
        generalize decide ((k : Int) + 1 < (x.steps : Int)) = D2
        go_loopw [12, 95] (fun cv kv wq => ∃ (j2 : Nat) (T : Int), j2 ≤ R.evs.length ∧ kv = .int .i64 j2 ∧ cv = .int .i64 T ∧ Hid (T = (((R.evs.take j2).countP (tkA cs y.t x.inv) : Nat) : Int) - ((R.evs.take j2).countP (tkR cs k y.t x.inv) : Nat)) ∧ Hid (Below w0.heap.size w0 wq)) (fun _ kv _ => R.evs.length - (intOf kv).toNat)
        case atStart => exact ⟨0, 0, Nat.zero_le _, rfl, rfl, Lib.hid (by simp), HWX⟩
        case round =>
          obtain ⟨j2, T, hj2, rfl, rfl, hT, hBq⟩ := hrel
          have zq := hBq.out.size
          have hT70 : -70000 ≤ T ∧ T ≤ 70000 := by
            have h1 := hT.out
            have h2 : (R.evs.take j2).countP (tkA cs y.t x.inv) ≤ R.evs.length := Nat.le_trans List.countP_le_length (by rw [List.length_take]; exact Nat.min_le_right _ _)
            have h3 : (R.evs.take j2).countP (tkR cs k y.t x.inv) ≤ R.evs.length := Nat.le_trans List.countP_le_length (by rw [List.length_take]; exact Nat.min_le_right _ _)
            omega
          obtain ⟨hT1, hT2⟩ := hT70
          by_cases hlt2 : j2 < R.evs.length
          · obtain ⟨u, hu⟩ : ∃ u, R.evs[j2]? = some u := ⟨R.evs[j2], List.getElem?_eq_getElem (by omega)⟩
            have hum := List.mem_of_getElem? hu
            have hub := (HAG.out.call u hum).1
            obtain ⟨z, hz⟩ : ∃ z, cs[u.i]? = some z := ⟨cs[u.i], List.getElem?_eq_getElem hub⟩
            have HU := Lib.hid hu
            have HUM := Lib.hid hum
            have HZ := Lib.hid hz
            obtain ⟨_, la2, ka2, lc2, kc2, _⟩ := HEV.out j2 u hu
            obtain ⟨_, la2, ka2, lc2, kc2, hv2⟩ := HEV.out j2 u hu
            obtain ⟨_, la1, ka1, lc1, kc1, hv1⟩ := HEV.out j x HX.out
            have HF : Hid (∀ W : World, Below w0.heap.size w0 W → W.cell? ⟨gE, j2 * 8, none⟩ = some (.int .i64 (u.i : Int)) ∧ W.cell? ⟨gE, j2 * 8 + 1, none⟩ = some (.int .i64 (u.inv : Int)) ∧ W.cell? ⟨gE, j2 * 8 + 2, none⟩ = some (.int .i64 (u.resp : Int)) ∧ W.cell? ⟨gE, j2 * 8 + 3, none⟩ = some (.int .i64 (u.steps : Int)) ∧ W.cell? ⟨gE, j2 * 8 + 4, none⟩ = some (.int .i64 (u.ans.err : Int)) ∧ W.cell? ⟨gE, j2 * 8 + 5, none⟩ = some (.int .u64 (u.ans.val : Int)) ∧ W.cell? ⟨gE, j2 * 8 + 6, none⟩ = some (.slice la2 u.ans.list.length lc2) ∧ W.cell? ⟨gE, j2 * 8 + 7, none⟩ = some (.slice ka2 u.key.length kc2) ∧ W.cell? ⟨b, o + u.i * 6, none⟩ = some (.int .i64 z.t) ∧ W.cell? ⟨b, o + u.i * 6 + 3, none⟩ = some (.int .u64 (z.a : Int)) ∧ W.cell? ⟨gE, j * 8 + 1, none⟩ = some (.int .i64 (x.inv : Int)) ∧ W.cell? ⟨w.heap.size, 1, none⟩ = some (.int .i64 (k : Int))) := Lib.hid (fun W hW => by
              have h2 := hv2.below hW
              have h1 := hv1.below hW
              obtain ⟨c0, c1, c2, c3, _⟩ := HCALL.out W hW u.i z hz
              exact ⟨h2.c0, h2.c1, h2.c2, h2.c3, h2.c4, h2.c5, h2.c6, h2.c7, c0, c3, h1.c1, (HQB.out.same (hW.block _ HQB.out.lt)).cell rfl⟩)
            obtain ⟨a0, ha0⟩ : ∃ a0, isB cs 0 u = a0 := ⟨_, rfl⟩
            obtain ⟨a1, ha1⟩ : ∃ a1, isB cs 1 u = a1 := ⟨_, rfl⟩
            have HIS0 : Hid (∀ W : World, Below w0.heap.size w0 W → Calls Try.prog 17 #[.slice (some ⟨b, o, none⟩) cs.length cap, .agg #[.int .i64 (u.i : Int), .int .i64 (u.inv : Int), .int .i64 (u.resp : Int), .int .i64 (u.steps : Int), .int .i64 (u.ans.err : Int), .int .u64 (u.ans.val : Int), .slice la2 u.ans.list.length lc2, .slice ka2 u.key.length kc2], .int .i64 0] W fun e w' => e = .returned (.bool a0) ∧ Below W.heap.size W w') := Lib.hid (fun W hW => by rw [← ha0]; exact is_any 0 u z la2 ka2 u.ans.list.length lc2 u.key.length kc2 b o cap cs W (HCALL.out W hW) hz hcl)
            have HIS1 : Hid (∀ W : World, Below w0.heap.size w0 W → Calls Try.prog 17 #[.slice (some ⟨b, o, none⟩) cs.length cap, .agg #[.int .i64 (u.i : Int), .int .i64 (u.inv : Int), .int .i64 (u.resp : Int), .int .i64 (u.steps : Int), .int .i64 (u.ans.err : Int), .int .u64 (u.ans.val : Int), .slice la2 u.ans.list.length lc2, .slice ka2 u.key.length kc2], .int .i64 1] W fun e w' => e = .returned (.bool a1) ∧ Below W.heap.size W w') := Lib.hid (fun W hW => by rw [← ha1]; exact is_any 1 u z la2 ka2 u.ans.list.length lc2 u.key.length kc2 b o cap cs W (HCALL.out W hW) hz hcl)
            have HA0 := Lib.hid ha0
            have HA1 := Lib.hid ha1
            have ki0 : (0 : Int) ≤ (j2 : Int) := Int.natCast_nonneg _
            have ki1 : (j2 : Int) < (R.evs.length : Int) := by omega
            have kk0 : (0 : Int) ≤ (u.i : Int) := Int.natCast_nonneg _
            have kk1 : (u.i : Int) < (cs.length : Int) := by omega
            clear hv2 hv1 hu hz hum ha0 ha1
            obtain ⟨u0, u1, u2, u3, u4, u5, u6, u7, zt, za, x1, qk⟩ := HF.out wr hBq.out
            by_cases g1 : u.resp < x.inv
            · have g1a : ¬ (x.inv : Int) ≤ (u.resp : Int) := by omega
              have HG1 := Lib.hid g1
              go_wp2_with fail
              go_quiet (fail)
              have HB5 : Hid (Below w0.heap.size w0 (wr.drewN nq)) := Lib.hid (below_drewN hBq.out _)
              clear u0 u1 u2 u3 u4 u5 u6 u7 zt za x1 qk
              generalize wr.drewN nq = w5 at HB5 ⊢
              obtain ⟨u0, u1, u2, u3, u4, u5, u6, u7, zt, za, x1, qk⟩ := HF.out w5 HB5.out
              go_wp2_with fail
              refine (HIS0.out w5 HB5.out).mono ?_
              rintro e w6 ⟨rfl, hb6⟩
              have HB6 : Hid (Below w0.heap.size w0 w6) := Lib.hid (HB5.out.trans (hb6.mono HB5.out.size))
              clear hb6
              clear u0 u1 u2 u3 u4 u5 u6 u7 zt za x1 qk
              obtain ⟨u0, u1, u2, u3, u4, u5, u6, u7, zt, za, x1, qk⟩ := HF.out w6 HB6.out
              cases a0 with
              | true =>
                have ha1 : a1 = false := by rw [← HA1.out]; exact isB_excl HA0.out
                subst ha1
                by_cases t1 : z.t = y.t
                · have HKA : Hid (tkA cs y.t x.inv u = true) := Lib.hid (by unfold tkA; rw [HA0.out, thI_some HZ.out, decide_eq_true t1, decide_eq_true HG1.out]; rfl)
                  have HKR : Hid (tkR cs k y.t x.inv u = false) := Lib.hid (by unfold tkR; rw [HA1.out, Bool.false_and, Bool.and_false])
                  go_wp2_with fail
                  refine wp_region_held_drew (S := (fun w' => w'.cell? ⟨gE, j2 * 8, none⟩ = some (.int .i64 (u.i : Int)) ∧ w'.cell? ⟨gE, j2 * 8 + 1, none⟩ = some (.int .i64 (u.inv : Int)) ∧ w'.cell? ⟨gE, j2 * 8 + 2, none⟩ = some (.int .i64 (u.resp : Int)) ∧ w'.cell? ⟨gE, j2 * 8 + 3, none⟩ = some (.int .i64 (u.steps : Int)) ∧ w'.cell? ⟨gE, j2 * 8 + 4, none⟩ = some (.int .i64 (u.ans.err : Int)) ∧ w'.cell? ⟨gE, j2 * 8 + 5, none⟩ = some (.int .u64 (u.ans.val : Int)) ∧ w'.cell? ⟨gE, j2 * 8 + 6, none⟩ = some (.slice la2 u.ans.list.length lc2) ∧ w'.cell? ⟨gE, j2 * 8 + 7, none⟩ = some (.slice ka2 u.key.length kc2) ∧ w'.cell? ⟨b, o + u.i * 6, none⟩ = some (.int .i64 z.t) ∧ w'.cell? ⟨b, o + u.i * 6 + 3, none⟩ = some (.int .u64 (z.a : Int)) ∧ w'.cell? ⟨gE, j * 8 + 1, none⟩ = some (.int .i64 (x.inv : Int)) ∧ w'.cell? ⟨w.heap.size, 1, none⟩ = some (.int .i64 (k : Int)))) (by kernel_rfl) ?_ (fun hHeld => ?_)
                  · first | with_reducible exact ⟨u0, u1, u2, u3, u4, u5, u6, u7, zt, za, x1, qk⟩ | go_keep
                  refine wpAnyH_take (i := 0) (oi := _) (v := ?v1) rfl (by kernel_rfl) (by kernel_rfl) (by kernel_rfl) (fun _ _ _ h => h) (Or.inl ⟨by kernel_rfl, ?hy1⟩) (by assumption) ?rest1
                  case hy1 => (intro w hSw; (try dsimp only at hSw); go_simp <;> with_reducible rfl)
                  try simp only [Act.put, List.getElem_toArray, List.getElem_cons_zero, List.getElem_cons_succ, List.setIfInBounds_toArray, List.set_cons_zero, List.set_cons_succ]
                  refine wpAnyH_take (i := 1) (oi := _) (v := ?v2) rfl (by kernel_rfl) (by kernel_rfl) (by kernel_rfl) (fun _ _ _ h => h) (Or.inl ⟨by kernel_rfl, ?hy2⟩) (by assumption) ?rest2
                  case hy2 => (intro w hSw; (try dsimp only at hSw); go_simp <;> with_reducible rfl)
                  try simp only [Act.put, List.getElem_toArray, List.getElem_cons_zero, List.getElem_cons_succ, List.setIfInBounds_toArray, List.set_cons_zero, List.set_cons_succ]
                  refine wpAnyH_take (i := 2) (oi := _) (v := ?v3) rfl (by kernel_rfl) (by kernel_rfl) (by kernel_rfl) (fun _ _ _ h => h) (Or.inl ⟨by kernel_rfl, ?hy3⟩) (by assumption) ?rest3
                  case hy3 => (intro w hSw; (try dsimp only at hSw); go_simp <;> with_reducible rfl)
                  try simp only [Act.put, List.getElem_toArray, List.getElem_cons_zero, List.getElem_cons_succ, List.setIfInBounds_toArray, List.set_cons_zero, List.set_cons_succ]
                  refine wpAnyH_take (i := 3) (oi := _) (v := ?v4) rfl (by kernel_rfl) (by kernel_rfl) (by kernel_rfl) (fun _ _ _ h => h) (Or.inl ⟨by kernel_rfl, ?hy4⟩) (by assumption) ?rest4
                  case hy4 => (intro w hSw; (try dsimp only at hSw); go_simp <;> with_reducible rfl)
                  try simp only [Act.put, List.getElem_toArray, List.getElem_cons_zero, List.getElem_cons_succ, List.setIfInBounds_toArray, List.set_cons_zero, List.set_cons_succ]
                  refine wpAnyH_take (i := 4) (oi := _) (v := ?v5) rfl (by kernel_rfl) (by kernel_rfl) (by kernel_rfl) (fun _ _ _ h => h) (Or.inl ⟨by kernel_rfl, ?hy5⟩) (by assumption) ?rest5
                  case hy5 => (intro w hSw; (try dsimp only at hSw); go_simp <;> with_reducible rfl)
                  try simp only [Act.put, List.getElem_toArray, List.getElem_cons_zero, List.getElem_cons_succ, List.setIfInBounds_toArray, List.set_cons_zero, List.set_cons_succ]
                  refine wpAnyH_ready (rs := [5]) (by kernel_rfl) (by simp) ?_
                  refine AllReadyH.cons (o := _) rfl (fun K hK => ?_) AllReadyH.nil
                  go_simp
                  go_at_call 17
                  refine (HIS1.out _ (below_drew HB6.out)).mono ?_
                  rintro e w7 ⟨rfl, hb7⟩
                  have HB7 : Hid (Below w0.heap.size w0 w7) := Lib.hid ((below_drew HB6.out).trans (hb7.mono (by have := HB6.out.size; exact this)))
                  clear hb7
                  obtain ⟨u0', u1', u2', u3', u4', u5', u6', u7', zt', za', x1', qk'⟩ := HF.out w7 HB7.out
                  go_simp
                  refine hK.out _ _ ?_ (fun hHeld => ?_)
                  · with_reducible exact ⟨u0', u1', u2', u3', u4', u5', u6', u7', zt', za', x1', qk'⟩
                  clear hK K
                  try simp only [Act.put, List.getElem_toArray, List.getElem_cons_zero, List.getElem_cons_succ, List.setIfInBounds_toArray, List.set_cons_zero, List.set_cons_succ]
                  refine wpAnyH_take (i := 6) (oi := _) (v := ?v6) rfl (by kernel_rfl) (by kernel_rfl) (by kernel_rfl) (fun _ _ _ h => h) (Or.inl ⟨by kernel_rfl, ?hy6⟩) (by assumption) ?rest6
                  case hy6 => (intro w hSw; (try dsimp only at hSw); go_simp <;> with_reducible rfl)
                  try simp only [Act.put, List.getElem_toArray, List.getElem_cons_zero, List.getElem_cons_succ, List.setIfInBounds_toArray, List.set_cons_zero, List.set_cons_succ]
                  refine wpAnyH_take (i := 7) (oi := _) (v := undef) rfl (by kernel_rfl) (by kernel_rfl) (by kernel_rfl) (fun _ _ _ h => h) (Or.inr ⟨by kernel_rfl, rfl⟩) (by assumption) ?rest7
                  try simp only [Act.put, List.getElem_toArray, List.getElem_cons_zero, List.getElem_cons_succ, List.setIfInBounds_toArray, List.set_cons_zero, List.set_cons_succ]
                  refine wpAnyH_take (i := 8) (oi := _) (v := undef) rfl (by kernel_rfl) (by kernel_rfl) (by kernel_rfl) (fun _ _ _ h => h) (Or.inr ⟨by kernel_rfl, rfl⟩) (by assumption) ?rest8
                  try simp only [Act.put, List.getElem_toArray, List.getElem_cons_zero, List.getElem_cons_succ, List.setIfInBounds_toArray, List.set_cons_zero, List.set_cons_succ]
                  refine wpAnyH_take (i := 9) (oi := _) (v := undef) rfl (by kernel_rfl) (by kernel_rfl) (by kernel_rfl) (fun _ _ _ h => h) (Or.inr ⟨by kernel_rfl, rfl⟩) (by assumption) ?rest9
                  try simp only [Act.put, List.getElem_toArray, List.getElem_cons_zero, List.getElem_cons_succ, List.setIfInBounds_toArray, List.set_cons_zero, List.set_cons_succ]
                  refine wpAnyH_take (i := 10) (oi := _) (v := undef) rfl (by kernel_rfl) (by kernel_rfl) (by kernel_rfl) (fun _ _ _ h => h) (Or.inr ⟨by kernel_rfl, rfl⟩) (by assumption) ?rest10
                  try simp only [Act.put, List.getElem_toArray, List.getElem_cons_zero, List.getElem_cons_succ, List.setIfInBounds_toArray, List.set_cons_zero, List.set_cons_succ]
                  refine wpAnyH_take (i := 11) (oi := _) (v := undef) rfl (by kernel_rfl) (by kernel_rfl) (by kernel_rfl) (fun _ _ _ h => h) (Or.inr ⟨by kernel_rfl, rfl⟩) (by assumption) ?rest11
                  try simp only [Act.put, List.getElem_toArray, List.getElem_cons_zero, List.getElem_cons_succ, List.setIfInBounds_toArray, List.set_cons_zero, List.set_cons_succ]
                  refine wpAnyH_take (i := 12) (oi := _) (v := undef) rfl (by kernel_rfl) (by kernel_rfl) (by kernel_rfl) (fun _ _ _ h => h) (Or.inr ⟨by kernel_rfl, rfl⟩) (by assumption) ?rest12
                  try simp only [Act.put, List.getElem_toArray, List.getElem_cons_zero, List.getElem_cons_succ, List.setIfInBounds_toArray, List.set_cons_zero, List.set_cons_succ]
                  refine wpAnyH_take (i := 13) (oi := _) (v := undef) rfl (by kernel_rfl) (by kernel_rfl) (by kernel_rfl) (fun _ _ _ h => h) (Or.inr ⟨by kernel_rfl, rfl⟩) (by assumption) ?rest13
                  try simp only [Act.put, List.getElem_toArray, List.getElem_cons_zero, List.getElem_cons_succ, List.setIfInBounds_toArray, List.set_cons_zero, List.set_cons_succ]
                  refine wpAnyH_take (i := 14) (oi := _) (v := undef) rfl (by kernel_rfl) (by kernel_rfl) (by kernel_rfl) (fun _ _ _ h => h) (Or.inr ⟨by kernel_rfl, rfl⟩) (by assumption) ?rest14
                  try simp only [Act.put, List.getElem_toArray, List.getElem_cons_zero, List.getElem_cons_succ, List.setIfInBounds_toArray, List.set_cons_zero, List.set_cons_succ]
                  refine wpAnyH_take (i := 15) (oi := _) (v := undef) rfl (by kernel_rfl) (by kernel_rfl) (by kernel_rfl) (fun _ _ _ h => h) (Or.inr ⟨by kernel_rfl, rfl⟩) (by assumption) ?rest15
                  try simp only [Act.put, List.getElem_toArray, List.getElem_cons_zero, List.getElem_cons_succ, List.setIfInBounds_toArray, List.set_cons_zero, List.set_cons_succ]
                  refine wpAnyH_take (i := 16) (oi := _) (v := undef) rfl (by kernel_rfl) (by kernel_rfl) (by kernel_rfl) (fun _ _ _ h => h) (Or.inr ⟨by kernel_rfl, rfl⟩) (by assumption) ?rest16
                  try simp only [Act.put, List.getElem_toArray, List.getElem_cons_zero, List.getElem_cons_succ, List.setIfInBounds_toArray, List.set_cons_zero, List.set_cons_succ]
                  refine wpAnyH_take (i := 17) (oi := _) (v := undef) rfl (by kernel_rfl) (by kernel_rfl) (by kernel_rfl) (fun _ _ _ h => h) (Or.inr ⟨by kernel_rfl, rfl⟩) (by assumption) ?rest17
                  try simp only [Act.put, List.getElem_toArray, List.getElem_cons_zero, List.getElem_cons_succ, List.setIfInBounds_toArray, List.set_cons_zero, List.set_cons_succ]
                  refine wpAnyH_take (i := 18) (oi := _) (v := undef) rfl (by kernel_rfl) (by kernel_rfl) (by kernel_rfl) (fun _ _ _ h => h) (Or.inr ⟨by kernel_rfl, rfl⟩) (by assumption) ?rest18
                  try simp only [Act.put, List.getElem_toArray, List.getElem_cons_zero, List.getElem_cons_succ, List.setIfInBounds_toArray, List.set_cons_zero, List.set_cons_succ]
                  refine wpAnyH_take (i := 19) (oi := _) (v := undef) rfl (by kernel_rfl) (by kernel_rfl) (by kernel_rfl) (fun _ _ _ h => h) (Or.inr ⟨by kernel_rfl, rfl⟩) (by assumption) ?rest19
                  try simp only [Act.put, List.getElem_toArray, List.getElem_cons_zero, List.getElem_cons_succ, List.setIfInBounds_toArray, List.set_cons_zero, List.set_cons_succ]
                  refine wpAnyH_take (i := 20) (oi := _) (v := undef) rfl (by kernel_rfl) (by kernel_rfl) (by kernel_rfl) (fun _ _ _ h => h) (Or.inr ⟨by kernel_rfl, rfl⟩) (by assumption) ?rest20
                  try simp only [Act.put, List.getElem_toArray, List.getElem_cons_zero, List.getElem_cons_succ, List.setIfInBounds_toArray, List.set_cons_zero, List.set_cons_succ]
                  refine wpAnyH_take (i := 21) (oi := _) (v := undef) rfl (by kernel_rfl) (by kernel_rfl) (by kernel_rfl) (fun _ _ _ h => h) (Or.inr ⟨by kernel_rfl, rfl⟩) (by assumption) ?rest21
                  try simp only [Act.put, List.getElem_toArray, List.getElem_cons_zero, List.getElem_cons_succ, List.setIfInBounds_toArray, List.set_cons_zero, List.set_cons_succ]
                  refine wpAnyH_take (i := 22) (oi := _) (v := undef) rfl (by kernel_rfl) (by kernel_rfl) (by kernel_rfl) (fun _ _ _ h => h) (Or.inr ⟨by kernel_rfl, rfl⟩) (by assumption) ?rest22
                  try simp only [Act.put, List.getElem_toArray, List.getElem_cons_zero, List.getElem_cons_succ, List.setIfInBounds_toArray, List.set_cons_zero, List.set_cons_succ]
                  refine wpAnyH_take (i := 23) (oi := _) (v := undef) rfl (by kernel_rfl) (by kernel_rfl) (by kernel_rfl) (fun _ _ _ h => h) (Or.inr ⟨by kernel_rfl, rfl⟩) (by assumption) ?rest23
                  try simp only [Act.put, List.getElem_toArray, List.getElem_cons_zero, List.getElem_cons_succ, List.setIfInBounds_toArray, List.set_cons_zero, List.set_cons_succ]
                  refine wpAnyH_take (i := 24) (oi := _) (v := ?v24) rfl (by kernel_rfl) (by kernel_rfl) (by kernel_rfl) (fun _ _ _ h => h) (Or.inl ⟨by kernel_rfl, ?hy24⟩) (by assumption) ?rest24
                  case hy24 => (intro w hSw; (try dsimp only at hSw); go_simp <;> with_reducible rfl)
                  try simp only [Act.put, List.getElem_toArray, List.getElem_cons_zero, List.getElem_cons_succ, List.setIfInBounds_toArray, List.set_cons_zero, List.set_cons_succ]
                  refine wpAnyH_done (by kernel_rfl) ?_ _
                  clear u0 u1 u2 u3 u4 u5 u6 u7 zt za x1 qk u0' u1' u2' u3' u4' u5' u6' u7' zt' za' x1' qk'
                  go_wp2_with fail
                  go_roundw
                  case rel => first | exact ⟨j2 + 1, T + 1, by omega, by go_num, by go_num, Lib.hid (by rw [tk_snoc HU.out, HKA.out, HKR.out, ← hT.out]; simp), HB7⟩ | ((repeat apply Exists.intro); exact ⟨⟨j2 + 1, T + 1, by omega, by go_num, by go_num, Lib.hid (by rw [tk_snoc HU.out, HKA.out, HKR.out, ← hT.out]; simp), HB7⟩, rfl⟩)
                  case measure => simp [intOf]; omega
                · have HKA : Hid (tkA cs y.t x.inv u = false) := Lib.hid (by unfold tkA; rw [HA0.out, thI_some HZ.out, decide_eq_false t1]; simp)
                  have t1b : (z.t == y.t) = false := by rw [beq_eq_false_iff_ne]; exact t1
                  have HKR : Hid (tkR cs k y.t x.inv u = false) := Lib.hid (by unfold tkR; rw [HA1.out, Bool.false_and, Bool.and_false])
                  go_wp2_with fail
                  refine wp_region_held_drew (S := (fun w' => w'.cell? ⟨gE, j2 * 8, none⟩ = some (.int .i64 (u.i : Int)) ∧ w'.cell? ⟨gE, j2 * 8 + 1, none⟩ = some (.int .i64 (u.inv : Int)) ∧ w'.cell? ⟨gE, j2 * 8 + 2, none⟩ = some (.int .i64 (u.resp : Int)) ∧ w'.cell? ⟨gE, j2 * 8 + 3, none⟩ = some (.int .i64 (u.steps : Int)) ∧ w'.cell? ⟨gE, j2 * 8 + 4, none⟩ = some (.int .i64 (u.ans.err : Int)) ∧ w'.cell? ⟨gE, j2 * 8 + 5, none⟩ = some (.int .u64 (u.ans.val : Int)) ∧ w'.cell? ⟨gE, j2 * 8 + 6, none⟩ = some (.slice la2 u.ans.list.length lc2) ∧ w'.cell? ⟨gE, j2 * 8 + 7, none⟩ = some (.slice ka2 u.key.length kc2) ∧ w'.cell? ⟨b, o + u.i * 6, none⟩ = some (.int .i64 z.t) ∧ w'.cell? ⟨b, o + u.i * 6 + 3, none⟩ = some (.int .u64 (z.a : Int)) ∧ w'.cell? ⟨gE, j * 8 + 1, none⟩ = some (.int .i64 (x.inv : Int)) ∧ w'.cell? ⟨w.heap.size, 1, none⟩ = some (.int .i64 (k : Int)))) (by kernel_rfl) ?_ (fun hHeld => ?_)
                  · first | with_reducible exact ⟨u0, u1, u2, u3, u4, u5, u6, u7, zt, za, x1, qk⟩ | go_keep
                  refine wpAnyH_take (i := 0) (oi := _) (v := ?v25) rfl (by kernel_rfl) (by kernel_rfl) (by kernel_rfl) (fun _ _ _ h => h) (Or.inl ⟨by kernel_rfl, ?hy25⟩) (by assumption) ?rest25
                  case hy25 => (intro w hSw; (try dsimp only at hSw); go_simp <;> with_reducible rfl)
                  try simp only [Act.put, List.getElem_toArray, List.getElem_cons_zero, List.getElem_cons_succ, List.setIfInBounds_toArray, List.set_cons_zero, List.set_cons_succ]
                  refine wpAnyH_take (i := 1) (oi := _) (v := ?v26) rfl (by kernel_rfl) (by kernel_rfl) (by kernel_rfl) (fun _ _ _ h => h) (Or.inl ⟨by kernel_rfl, ?hy26⟩) (by assumption) ?rest26
                  case hy26 => (intro w hSw; (try dsimp only at hSw); go_simp <;> with_reducible rfl)
                  try simp only [Act.put, List.getElem_toArray, List.getElem_cons_zero, List.getElem_cons_succ, List.setIfInBounds_toArray, List.set_cons_zero, List.set_cons_succ]
                  refine wpAnyH_take (i := 2) (oi := _) (v := ?v27) rfl (by kernel_rfl) (by kernel_rfl) (by kernel_rfl) (fun _ _ _ h => h) (Or.inl ⟨by kernel_rfl, ?hy27⟩) (by assumption) ?rest27
                  case hy27 => (intro w hSw; (try dsimp only at hSw); go_simp <;> with_reducible rfl)
                  try simp only [Act.put, List.getElem_toArray, List.getElem_cons_zero, List.getElem_cons_succ, List.setIfInBounds_toArray, List.set_cons_zero, List.set_cons_succ]
                  refine wpAnyH_take (i := 3) (oi := _) (v := ?v28) rfl (by kernel_rfl) (by kernel_rfl) (by kernel_rfl) (fun _ _ _ h => h) (Or.inl ⟨by kernel_rfl, ?hy28⟩) (by assumption) ?rest28
                  case hy28 => (intro w hSw; (try dsimp only at hSw); go_simp <;> with_reducible rfl)
                  try simp only [Act.put, List.getElem_toArray, List.getElem_cons_zero, List.getElem_cons_succ, List.setIfInBounds_toArray, List.set_cons_zero, List.set_cons_succ]
                  refine wpAnyH_take (i := 4) (oi := _) (v := ?v29) rfl (by kernel_rfl) (by kernel_rfl) (by kernel_rfl) (fun _ _ _ h => h) (Or.inl ⟨by kernel_rfl, ?hy29⟩) (by assumption) ?rest29
                  case hy29 => (intro w hSw; (try dsimp only at hSw); go_simp <;> with_reducible rfl)
                  try simp only [Act.put, List.getElem_toArray, List.getElem_cons_zero, List.getElem_cons_succ, List.setIfInBounds_toArray, List.set_cons_zero, List.set_cons_succ]
                  refine wpAnyH_ready (rs := [5]) (by kernel_rfl) (by simp) ?_
                  refine AllReadyH.cons (o := _) rfl (fun K hK => ?_) AllReadyH.nil
                  go_simp
                  go_at_call 17
                  refine (HIS1.out _ (below_drew HB6.out)).mono ?_
                  rintro e w7 ⟨rfl, hb7⟩
                  have HB7 : Hid (Below w0.heap.size w0 w7) := Lib.hid ((below_drew HB6.out).trans (hb7.mono (by have := HB6.out.size; exact this)))
                  clear hb7
                  obtain ⟨u0', u1', u2', u3', u4', u5', u6', u7', zt', za', x1', qk'⟩ := HF.out w7 HB7.out
                  go_simp
                  refine hK.out _ _ ?_ (fun hHeld => ?_)
                  · with_reducible exact ⟨u0', u1', u2', u3', u4', u5', u6', u7', zt', za', x1', qk'⟩
                  clear hK K
                  try simp only [Act.put, List.getElem_toArray, List.getElem_cons_zero, List.getElem_cons_succ, List.setIfInBounds_toArray, List.set_cons_zero, List.set_cons_succ]
                  refine wpAnyH_take (i := 6) (oi := _) (v := ?v30) rfl (by kernel_rfl) (by kernel_rfl) (by kernel_rfl) (fun _ _ _ h => h) (Or.inl ⟨by kernel_rfl, ?hy30⟩) (by assumption) ?rest30
                  case hy30 => (intro w hSw; (try dsimp only at hSw); go_simp <;> with_reducible rfl)
                  try simp only [Act.put, List.getElem_toArray, List.getElem_cons_zero, List.getElem_cons_succ, List.setIfInBounds_toArray, List.set_cons_zero, List.set_cons_succ]
                  refine wpAnyH_take (i := 7) (oi := _) (v := undef) rfl (by kernel_rfl) (by kernel_rfl) (by kernel_rfl) (fun _ _ _ h => h) (Or.inr ⟨by kernel_rfl, rfl⟩) (by assumption) ?rest31
                  try simp only [Act.put, List.getElem_toArray, List.getElem_cons_zero, List.getElem_cons_succ, List.setIfInBounds_toArray, List.set_cons_zero, List.set_cons_succ]
                  refine wpAnyH_take (i := 8) (oi := _) (v := undef) rfl (by kernel_rfl) (by kernel_rfl) (by kernel_rfl) (fun _ _ _ h => h) (Or.inr ⟨by kernel_rfl, rfl⟩) (by assumption) ?rest32
                  try simp only [Act.put, List.getElem_toArray, List.getElem_cons_zero, List.getElem_cons_succ, List.setIfInBounds_toArray, List.set_cons_zero, List.set_cons_succ]
                  refine wpAnyH_take (i := 9) (oi := _) (v := undef) rfl (by kernel_rfl) (by kernel_rfl) (by kernel_rfl) (fun _ _ _ h => h) (Or.inr ⟨by kernel_rfl, rfl⟩) (by assumption) ?rest33
                  try simp only [Act.put, List.getElem_toArray, List.getElem_cons_zero, List.getElem_cons_succ, List.setIfInBounds_toArray, List.set_cons_zero, List.set_cons_succ]
                  refine wpAnyH_take (i := 10) (oi := _) (v := undef) rfl (by kernel_rfl) (by kernel_rfl) (by kernel_rfl) (fun _ _ _ h => h) (Or.inr ⟨by kernel_rfl, rfl⟩) (by assumption) ?rest34
                  try simp only [Act.put, List.getElem_toArray, List.getElem_cons_zero, List.getElem_cons_succ, List.setIfInBounds_toArray, List.set_cons_zero, List.set_cons_succ]
                  refine wpAnyH_take (i := 11) (oi := _) (v := undef) rfl (by kernel_rfl) (by kernel_rfl) (by kernel_rfl) (fun _ _ _ h => h) (Or.inr ⟨by kernel_rfl, rfl⟩) (by assumption) ?rest35
                  try simp only [Act.put, List.getElem_toArray, List.getElem_cons_zero, List.getElem_cons_succ, List.setIfInBounds_toArray, List.set_cons_zero, List.set_cons_succ]
                  refine wpAnyH_take (i := 12) (oi := _) (v := undef) rfl (by kernel_rfl) (by kernel_rfl) (by kernel_rfl) (fun _ _ _ h => h) (Or.inr ⟨by kernel_rfl, rfl⟩) (by assumption) ?rest36
                  try simp only [Act.put, List.getElem_toArray, List.getElem_cons_zero, List.getElem_cons_succ, List.setIfInBounds_toArray, List.set_cons_zero, List.set_cons_succ]
                  refine wpAnyH_take (i := 13) (oi := _) (v := undef) rfl (by kernel_rfl) (by kernel_rfl) (by kernel_rfl) (fun _ _ _ h => h) (Or.inr ⟨by kernel_rfl, rfl⟩) (by assumption) ?rest37
                  try simp only [Act.put, List.getElem_toArray, List.getElem_cons_zero, List.getElem_cons_succ, List.setIfInBounds_toArray, List.set_cons_zero, List.set_cons_succ]
                  refine wpAnyH_take (i := 14) (oi := _) (v := undef) rfl (by kernel_rfl) (by kernel_rfl) (by kernel_rfl) (fun _ _ _ h => h) (Or.inr ⟨by kernel_rfl, rfl⟩) (by assumption) ?rest38
                  try simp only [Act.put, List.getElem_toArray, List.getElem_cons_zero, List.getElem_cons_succ, List.setIfInBounds_toArray, List.set_cons_zero, List.set_cons_succ]
                  refine wpAnyH_take (i := 15) (oi := _) (v := undef) rfl (by kernel_rfl) (by kernel_rfl) (by kernel_rfl) (fun _ _ _ h => h) (Or.inr ⟨by kernel_rfl, rfl⟩) (by assumption) ?rest39
                  try simp only [Act.put, List.getElem_toArray, List.getElem_cons_zero, List.getElem_cons_succ, List.setIfInBounds_toArray, List.set_cons_zero, List.set_cons_succ]
                  refine wpAnyH_take (i := 16) (oi := _) (v := undef) rfl (by kernel_rfl) (by kernel_rfl) (by kernel_rfl) (fun _ _ _ h => h) (Or.inr ⟨by kernel_rfl, rfl⟩) (by assumption) ?rest40
                  try simp only [Act.put, List.getElem_toArray, List.getElem_cons_zero, List.getElem_cons_succ, List.setIfInBounds_toArray, List.set_cons_zero, List.set_cons_succ]
                  refine wpAnyH_take (i := 17) (oi := _) (v := undef) rfl (by kernel_rfl) (by kernel_rfl) (by kernel_rfl) (fun _ _ _ h => h) (Or.inr ⟨by kernel_rfl, rfl⟩) (by assumption) ?rest41
                  try simp only [Act.put, List.getElem_toArray, List.getElem_cons_zero, List.getElem_cons_succ, List.setIfInBounds_toArray, List.set_cons_zero, List.set_cons_succ]
                  refine wpAnyH_take (i := 18) (oi := _) (v := undef) rfl (by kernel_rfl) (by kernel_rfl) (by kernel_rfl) (fun _ _ _ h => h) (Or.inr ⟨by kernel_rfl, rfl⟩) (by assumption) ?rest42
                  try simp only [Act.put, List.getElem_toArray, List.getElem_cons_zero, List.getElem_cons_succ, List.setIfInBounds_toArray, List.set_cons_zero, List.set_cons_succ]
                  refine wpAnyH_take (i := 19) (oi := _) (v := undef) rfl (by kernel_rfl) (by kernel_rfl) (by kernel_rfl) (fun _ _ _ h => h) (Or.inr ⟨by kernel_rfl, rfl⟩) (by assumption) ?rest43
                  try simp only [Act.put, List.getElem_toArray, List.getElem_cons_zero, List.getElem_cons_succ, List.setIfInBounds_toArray, List.set_cons_zero, List.set_cons_succ]
                  refine wpAnyH_take (i := 20) (oi := _) (v := undef) rfl (by kernel_rfl) (by kernel_rfl) (by kernel_rfl) (fun _ _ _ h => h) (Or.inr ⟨by kernel_rfl, rfl⟩) (by assumption) ?rest44
                  try simp only [Act.put, List.getElem_toArray, List.getElem_cons_zero, List.getElem_cons_succ, List.setIfInBounds_toArray, List.set_cons_zero, List.set_cons_succ]
                  refine wpAnyH_take (i := 21) (oi := _) (v := undef) rfl (by kernel_rfl) (by kernel_rfl) (by kernel_rfl) (fun _ _ _ h => h) (Or.inr ⟨by kernel_rfl, rfl⟩) (by assumption) ?rest45
                  try simp only [Act.put, List.getElem_toArray, List.getElem_cons_zero, List.getElem_cons_succ, List.setIfInBounds_toArray, List.set_cons_zero, List.set_cons_succ]
                  refine wpAnyH_take (i := 22) (oi := _) (v := undef) rfl (by kernel_rfl) (by kernel_rfl) (by kernel_rfl) (fun _ _ _ h => h) (Or.inr ⟨by kernel_rfl, rfl⟩) (by assumption) ?rest46
                  try simp only [Act.put, List.getElem_toArray, List.getElem_cons_zero, List.getElem_cons_succ, List.setIfInBounds_toArray, List.set_cons_zero, List.set_cons_succ]
                  refine wpAnyH_take (i := 23) (oi := _) (v := undef) rfl (by kernel_rfl) (by kernel_rfl) (by kernel_rfl) (fun _ _ _ h => h) (Or.inr ⟨by kernel_rfl, rfl⟩) (by assumption) ?rest47
                  try simp only [Act.put, List.getElem_toArray, List.getElem_cons_zero, List.getElem_cons_succ, List.setIfInBounds_toArray, List.set_cons_zero, List.set_cons_succ]
                  refine wpAnyH_take (i := 24) (oi := _) (v := ?v48) rfl (by kernel_rfl) (by kernel_rfl) (by kernel_rfl) (fun _ _ _ h => h) (Or.inl ⟨by kernel_rfl, ?hy48⟩) (by assumption) ?rest48
                  case hy48 => (intro w hSw; (try dsimp only at hSw); go_simp <;> with_reducible rfl)
                  try simp only [Act.put, List.getElem_toArray, List.getElem_cons_zero, List.getElem_cons_succ, List.setIfInBounds_toArray, List.set_cons_zero, List.set_cons_succ]
                  refine wpAnyH_done (by kernel_rfl) ?_ _
                  clear u0 u1 u2 u3 u4 u5 u6 u7 zt za x1 qk u0' u1' u2' u3' u4' u5' u6' u7' zt' za' x1' qk'
                  go_wp2_with fail
                  go_roundw
                  case rel => first | exact ⟨j2 + 1, T, by omega, by go_num, by go_num, Lib.hid (by rw [tk_snoc HU.out, HKA.out, HKR.out, ← hT.out]; simp), HB7⟩ | ((repeat apply Exists.intro); exact ⟨⟨j2 + 1, T, by omega, by go_num, by go_num, Lib.hid (by rw [tk_snoc HU.out, HKA.out, HKR.out, ← hT.out]; simp), HB7⟩, rfl⟩)
                  case measure => simp [intOf]; omega
              | false =>
                have HKA : Hid (tkA cs y.t x.inv u = false) := Lib.hid (by unfold tkA; rw [HA0.out, Bool.false_and, Bool.and_false])
                cases a1 with
                | false =>
                  have HKR : Hid (tkR cs k y.t x.inv u = false) := Lib.hid (by unfold tkR; rw [HA1.out, Bool.false_and, Bool.and_false])
                  go_wp2_with fail
                  refine wp_region_held_drew (S := (fun w' => w'.cell? ⟨gE, j2 * 8, none⟩ = some (.int .i64 (u.i : Int)) ∧ w'.cell? ⟨gE, j2 * 8 + 1, none⟩ = some (.int .i64 (u.inv : Int)) ∧ w'.cell? ⟨gE, j2 * 8 + 2, none⟩ = some (.int .i64 (u.resp : Int)) ∧ w'.cell? ⟨gE, j2 * 8 + 3, none⟩ = some (.int .i64 (u.steps : Int)) ∧ w'.cell? ⟨gE, j2 * 8 + 4, none⟩ = some (.int .i64 (u.ans.err : Int)) ∧ w'.cell? ⟨gE, j2 * 8 + 5, none⟩ = some (.int .u64 (u.ans.val : Int)) ∧ w'.cell? ⟨gE, j2 * 8 + 6, none⟩ = some (.slice la2 u.ans.list.length lc2) ∧ w'.cell? ⟨gE, j2 * 8 + 7, none⟩ = some (.slice ka2 u.key.length kc2) ∧ w'.cell? ⟨b, o + u.i * 6, none⟩ = some (.int .i64 z.t) ∧ w'.cell? ⟨b, o + u.i * 6 + 3, none⟩ = some (.int .u64 (z.a : Int)) ∧ w'.cell? ⟨gE, j * 8 + 1, none⟩ = some (.int .i64 (x.inv : Int)) ∧ w'.cell? ⟨w.heap.size, 1, none⟩ = some (.int .i64 (k : Int)))) (by kernel_rfl) ?_ (fun hHeld => ?_)
                  · first | with_reducible exact ⟨u0, u1, u2, u3, u4, u5, u6, u7, zt, za, x1, qk⟩ | go_keep
                  refine wpAnyH_take (i := 0) (oi := _) (v := ?v49) rfl (by kernel_rfl) (by kernel_rfl) (by kernel_rfl) (fun _ _ _ h => h) (Or.inl ⟨by kernel_rfl, ?hy49⟩) (by assumption) ?rest49
                  case hy49 => (intro w hSw; (try dsimp only at hSw); go_simp <;> with_reducible rfl)
                  try simp only [Act.put, List.getElem_toArray, List.getElem_cons_zero, List.getElem_cons_succ, List.setIfInBounds_toArray, List.set_cons_zero, List.set_cons_succ]
                  refine wpAnyH_take (i := 1) (oi := _) (v := ?v50) rfl (by kernel_rfl) (by kernel_rfl) (by kernel_rfl) (fun _ _ _ h => h) (Or.inl ⟨by kernel_rfl, ?hy50⟩) (by assumption) ?rest50
                  case hy50 => (intro w hSw; (try dsimp only at hSw); go_simp <;> with_reducible rfl)
                  try simp only [Act.put, List.getElem_toArray, List.getElem_cons_zero, List.getElem_cons_succ, List.setIfInBounds_toArray, List.set_cons_zero, List.set_cons_succ]
                  refine wpAnyH_take (i := 2) (oi := _) (v := ?v51) rfl (by kernel_rfl) (by kernel_rfl) (by kernel_rfl) (fun _ _ _ h => h) (Or.inl ⟨by kernel_rfl, ?hy51⟩) (by assumption) ?rest51
                  case hy51 => (intro w hSw; (try dsimp only at hSw); go_simp <;> with_reducible rfl)
                  try simp only [Act.put, List.getElem_toArray, List.getElem_cons_zero, List.getElem_cons_succ, List.setIfInBounds_toArray, List.set_cons_zero, List.set_cons_succ]
                  refine wpAnyH_take (i := 3) (oi := _) (v := ?v52) rfl (by kernel_rfl) (by kernel_rfl) (by kernel_rfl) (fun _ _ _ h => h) (Or.inl ⟨by kernel_rfl, ?hy52⟩) (by assumption) ?rest52
                  case hy52 => (intro w hSw; (try dsimp only at hSw); go_simp <;> with_reducible rfl)
                  try simp only [Act.put, List.getElem_toArray, List.getElem_cons_zero, List.getElem_cons_succ, List.setIfInBounds_toArray, List.set_cons_zero, List.set_cons_succ]
                  refine wpAnyH_take (i := 4) (oi := _) (v := ?v53) rfl (by kernel_rfl) (by kernel_rfl) (by kernel_rfl) (fun _ _ _ h => h) (Or.inl ⟨by kernel_rfl, ?hy53⟩) (by assumption) ?rest53
                  case hy53 => (intro w hSw; (try dsimp only at hSw); go_simp <;> with_reducible rfl)
                  try simp only [Act.put, List.getElem_toArray, List.getElem_cons_zero, List.getElem_cons_succ, List.setIfInBounds_toArray, List.set_cons_zero, List.set_cons_succ]
                  refine wpAnyH_ready (rs := [5]) (by kernel_rfl) (by simp) ?_
                  refine AllReadyH.cons (o := _) rfl (fun K hK => ?_) AllReadyH.nil
                  go_simp
                  go_at_call 17
                  refine (HIS1.out _ (below_drew HB6.out)).mono ?_
                  rintro e w7 ⟨rfl, hb7⟩
                  have HB7 : Hid (Below w0.heap.size w0 w7) := Lib.hid ((below_drew HB6.out).trans (hb7.mono (by have := HB6.out.size; exact this)))
                  clear hb7
                  obtain ⟨u0', u1', u2', u3', u4', u5', u6', u7', zt', za', x1', qk'⟩ := HF.out w7 HB7.out
                  go_simp
                  refine hK.out _ _ ?_ (fun hHeld => ?_)
                  · with_reducible exact ⟨u0', u1', u2', u3', u4', u5', u6', u7', zt', za', x1', qk'⟩
                  clear hK K
                  try simp only [Act.put, List.getElem_toArray, List.getElem_cons_zero, List.getElem_cons_succ, List.setIfInBounds_toArray, List.set_cons_zero, List.set_cons_succ]
                  refine wpAnyH_take (i := 6) (oi := _) (v := ?v54) rfl (by kernel_rfl) (by kernel_rfl) (by kernel_rfl) (fun _ _ _ h => h) (Or.inl ⟨by kernel_rfl, ?hy54⟩) (by assumption) ?rest54
                  case hy54 => (intro w hSw; (try dsimp only at hSw); go_simp <;> with_reducible rfl)
                  try simp only [Act.put, List.getElem_toArray, List.getElem_cons_zero, List.getElem_cons_succ, List.setIfInBounds_toArray, List.set_cons_zero, List.set_cons_succ]
                  refine wpAnyH_take (i := 7) (oi := _) (v := undef) rfl (by kernel_rfl) (by kernel_rfl) (by kernel_rfl) (fun _ _ _ h => h) (Or.inr ⟨by kernel_rfl, rfl⟩) (by assumption) ?rest55
                  try simp only [Act.put, List.getElem_toArray, List.getElem_cons_zero, List.getElem_cons_succ, List.setIfInBounds_toArray, List.set_cons_zero, List.set_cons_succ]
                  refine wpAnyH_take (i := 8) (oi := _) (v := undef) rfl (by kernel_rfl) (by kernel_rfl) (by kernel_rfl) (fun _ _ _ h => h) (Or.inr ⟨by kernel_rfl, rfl⟩) (by assumption) ?rest56
                  try simp only [Act.put, List.getElem_toArray, List.getElem_cons_zero, List.getElem_cons_succ, List.setIfInBounds_toArray, List.set_cons_zero, List.set_cons_succ]
                  refine wpAnyH_take (i := 9) (oi := _) (v := undef) rfl (by kernel_rfl) (by kernel_rfl) (by kernel_rfl) (fun _ _ _ h => h) (Or.inr ⟨by kernel_rfl, rfl⟩) (by assumption) ?rest57
                  try simp only [Act.put, List.getElem_toArray, List.getElem_cons_zero, List.getElem_cons_succ, List.setIfInBounds_toArray, List.set_cons_zero, List.set_cons_succ]
                  refine wpAnyH_take (i := 10) (oi := _) (v := undef) rfl (by kernel_rfl) (by kernel_rfl) (by kernel_rfl) (fun _ _ _ h => h) (Or.inr ⟨by kernel_rfl, rfl⟩) (by assumption) ?rest58
                  try simp only [Act.put, List.getElem_toArray, List.getElem_cons_zero, List.getElem_cons_succ, List.setIfInBounds_toArray, List.set_cons_zero, List.set_cons_succ]
                  refine wpAnyH_take (i := 11) (oi := _) (v := undef) rfl (by kernel_rfl) (by kernel_rfl) (by kernel_rfl) (fun _ _ _ h => h) (Or.inr ⟨by kernel_rfl, rfl⟩) (by assumption) ?rest59
                  try simp only [Act.put, List.getElem_toArray, List.getElem_cons_zero, List.getElem_cons_succ, List.setIfInBounds_toArray, List.set_cons_zero, List.set_cons_succ]
                  refine wpAnyH_take (i := 12) (oi := _) (v := undef) rfl (by kernel_rfl) (by kernel_rfl) (by kernel_rfl) (fun _ _ _ h => h) (Or.inr ⟨by kernel_rfl, rfl⟩) (by assumption) ?rest60
                  try simp only [Act.put, List.getElem_toArray, List.getElem_cons_zero, List.getElem_cons_succ, List.setIfInBounds_toArray, List.set_cons_zero, List.set_cons_succ]
                  refine wpAnyH_take (i := 13) (oi := _) (v := undef) rfl (by kernel_rfl) (by kernel_rfl) (by kernel_rfl) (fun _ _ _ h => h) (Or.inr ⟨by kernel_rfl, rfl⟩) (by assumption) ?rest61
                  try simp only [Act.put, List.getElem_toArray, List.getElem_cons_zero, List.getElem_cons_succ, List.setIfInBounds_toArray, List.set_cons_zero, List.set_cons_succ]
                  refine wpAnyH_take (i := 14) (oi := _) (v := undef) rfl (by kernel_rfl) (by kernel_rfl) (by kernel_rfl) (fun _ _ _ h => h) (Or.inr ⟨by kernel_rfl, rfl⟩) (by assumption) ?rest62
                  try simp only [Act.put, List.getElem_toArray, List.getElem_cons_zero, List.getElem_cons_succ, List.setIfInBounds_toArray, List.set_cons_zero, List.set_cons_succ]
                  refine wpAnyH_take (i := 15) (oi := _) (v := undef) rfl (by kernel_rfl) (by kernel_rfl) (by kernel_rfl) (fun _ _ _ h => h) (Or.inr ⟨by kernel_rfl, rfl⟩) (by assumption) ?rest63
                  try simp only [Act.put, List.getElem_toArray, List.getElem_cons_zero, List.getElem_cons_succ, List.setIfInBounds_toArray, List.set_cons_zero, List.set_cons_succ]
                  refine wpAnyH_take (i := 16) (oi := _) (v := undef) rfl (by kernel_rfl) (by kernel_rfl) (by kernel_rfl) (fun _ _ _ h => h) (Or.inr ⟨by kernel_rfl, rfl⟩) (by assumption) ?rest64
                  try simp only [Act.put, List.getElem_toArray, List.getElem_cons_zero, List.getElem_cons_succ, List.setIfInBounds_toArray, List.set_cons_zero, List.set_cons_succ]
                  refine wpAnyH_take (i := 17) (oi := _) (v := undef) rfl (by kernel_rfl) (by kernel_rfl) (by kernel_rfl) (fun _ _ _ h => h) (Or.inr ⟨by kernel_rfl, rfl⟩) (by assumption) ?rest65
                  try simp only [Act.put, List.getElem_toArray, List.getElem_cons_zero, List.getElem_cons_succ, List.setIfInBounds_toArray, List.set_cons_zero, List.set_cons_succ]
                  refine wpAnyH_take (i := 18) (oi := _) (v := undef) rfl (by kernel_rfl) (by kernel_rfl) (by kernel_rfl) (fun _ _ _ h => h) (Or.inr ⟨by kernel_rfl, rfl⟩) (by assumption) ?rest66
                  try simp only [Act.put, List.getElem_toArray, List.getElem_cons_zero, List.getElem_cons_succ, List.setIfInBounds_toArray, List.set_cons_zero, List.set_cons_succ]
                  refine wpAnyH_take (i := 19) (oi := _) (v := undef) rfl (by kernel_rfl) (by kernel_rfl) (by kernel_rfl) (fun _ _ _ h => h) (Or.inr ⟨by kernel_rfl, rfl⟩) (by assumption) ?rest67
                  try simp only [Act.put, List.getElem_toArray, List.getElem_cons_zero, List.getElem_cons_succ, List.setIfInBounds_toArray, List.set_cons_zero, List.set_cons_succ]
                  refine wpAnyH_take (i := 20) (oi := _) (v := undef) rfl (by kernel_rfl) (by kernel_rfl) (by kernel_rfl) (fun _ _ _ h => h) (Or.inr ⟨by kernel_rfl, rfl⟩) (by assumption) ?rest68
                  try simp only [Act.put, List.getElem_toArray, List.getElem_cons_zero, List.getElem_cons_succ, List.setIfInBounds_toArray, List.set_cons_zero, List.set_cons_succ]
                  refine wpAnyH_take (i := 21) (oi := _) (v := undef) rfl (by kernel_rfl) (by kernel_rfl) (by kernel_rfl) (fun _ _ _ h => h) (Or.inr ⟨by kernel_rfl, rfl⟩) (by assumption) ?rest69
                  try simp only [Act.put, List.getElem_toArray, List.getElem_cons_zero, List.getElem_cons_succ, List.setIfInBounds_toArray, List.set_cons_zero, List.set_cons_succ]
                  refine wpAnyH_take (i := 22) (oi := _) (v := undef) rfl (by kernel_rfl) (by kernel_rfl) (by kernel_rfl) (fun _ _ _ h => h) (Or.inr ⟨by kernel_rfl, rfl⟩) (by assumption) ?rest70
                  try simp only [Act.put, List.getElem_toArray, List.getElem_cons_zero, List.getElem_cons_succ, List.setIfInBounds_toArray, List.set_cons_zero, List.set_cons_succ]
                  refine wpAnyH_take (i := 23) (oi := _) (v := undef) rfl (by kernel_rfl) (by kernel_rfl) (by kernel_rfl) (fun _ _ _ h => h) (Or.inr ⟨by kernel_rfl, rfl⟩) (by assumption) ?rest71
                  try simp only [Act.put, List.getElem_toArray, List.getElem_cons_zero, List.getElem_cons_succ, List.setIfInBounds_toArray, List.set_cons_zero, List.set_cons_succ]
                  refine wpAnyH_take (i := 24) (oi := _) (v := ?v72) rfl (by kernel_rfl) (by kernel_rfl) (by kernel_rfl) (fun _ _ _ h => h) (Or.inl ⟨by kernel_rfl, ?hy72⟩) (by assumption) ?rest72
                  case hy72 => (intro w hSw; (try dsimp only at hSw); go_simp <;> with_reducible rfl)
                  try simp only [Act.put, List.getElem_toArray, List.getElem_cons_zero, List.getElem_cons_succ, List.setIfInBounds_toArray, List.set_cons_zero, List.set_cons_succ]
                  refine wpAnyH_done (by kernel_rfl) ?_ _
                  clear u0 u1 u2 u3 u4 u5 u6 u7 zt za x1 qk u0' u1' u2' u3' u4' u5' u6' u7' zt' za' x1' qk'
                  go_wp2_with fail
                  go_roundw
                  case rel => first | exact ⟨j2 + 1, T, by omega, by go_num, by go_num, Lib.hid (by rw [tk_snoc HU.out, HKA.out, HKR.out, ← hT.out]; simp), HB7⟩ | ((repeat apply Exists.intro); exact ⟨⟨j2 + 1, T, by omega, by go_num, by go_num, Lib.hid (by rw [tk_snoc HU.out, HKA.out, HKR.out, ← hT.out]; simp), HB7⟩, rfl⟩)
                  case measure => simp [intOf]; omega
                | true =>
                  have h2 := HAG.out.two u HUM.out HA1.out
                  rw [caC_some HZ.out] at h2
                  obtain ⟨p, hp⟩ : ∃ p, z.a % 1024 = p := ⟨_, rfl⟩
                  have hp1 : (z.a : Int) % 1024 = (p : Int) := by omega
                  have hp2 : p < 1024 := by omega
                  rw [hp] at h2
                  obtain ⟨r, hr⟩ : ∃ r, p - 2 = r := ⟨_, rfl⟩
                  have hr1 : (p : Int) - 2 = (r : Int) := by omega
                  obtain ⟨s, hs⟩ : ∃ s, r / k = s := ⟨_, rfl⟩
                  have hs1 : (r : Int) / (k : Int) = (s : Int) := by rw [← hs]; simp
                  have hs2 : (r : Int).tdiv (k : Int) = (s : Int) := by rw [Int.tdiv_eq_ediv_of_nonneg (by omega)]; exact hs1
                  have hs3 : s ≤ 1024 := by have := Nat.div_le_self r k; omega
                  have hk3 : ¬ (k : Int) = 0 := by omega
                  have hk4 : ¬ k = 0 := by omega
                  have HS : Hid ((caC cs u.i % 1024 - 2) / k = s) := Lib.hid (by rw [caC_some HZ.out, hp, hr, hs])
                  have hEQ : IntKind.i64.wrap ((IntKind.i64.wrap (IntKind.i64.wrap ((z.a : Int).tmod 1024) - 2)).tdiv (k : Int)) = (s : Int) := by
                    rw [Int.tmod_eq_emod_of_nonneg (by omega), hp1, wrap_small (x := (p : Int)) (by omega) (by omega), hr1, wrap_small (x := (r : Int)) (by omega) (by omega), hs2, wrap_small (x := (s : Int)) (by omega) (by omega)]
                  clear hp hr hs hp1 hr1 hs1 hs2
                  by_cases t1 : (s : Int) = y.t
                  · have HKR : Hid (tkR cs k y.t x.inv u = true) := Lib.hid (by unfold tkR; rw [HA1.out, HS.out, decide_eq_true t1, decide_eq_true HG1.out]; rfl)
                    go_wp2_with fail
                    refine wp_region_held_drew (S := (fun w' => w'.cell? ⟨gE, j2 * 8, none⟩ = some (.int .i64 (u.i : Int)) ∧ w'.cell? ⟨gE, j2 * 8 + 1, none⟩ = some (.int .i64 (u.inv : Int)) ∧ w'.cell? ⟨gE, j2 * 8 + 2, none⟩ = some (.int .i64 (u.resp : Int)) ∧ w'.cell? ⟨gE, j2 * 8 + 3, none⟩ = some (.int .i64 (u.steps : Int)) ∧ w'.cell? ⟨gE, j2 * 8 + 4, none⟩ = some (.int .i64 (u.ans.err : Int)) ∧ w'.cell? ⟨gE, j2 * 8 + 5, none⟩ = some (.int .u64 (u.ans.val : Int)) ∧ w'.cell? ⟨gE, j2 * 8 + 6, none⟩ = some (.slice la2 u.ans.list.length lc2) ∧ w'.cell? ⟨gE, j2 * 8 + 7, none⟩ = some (.slice ka2 u.key.length kc2) ∧ w'.cell? ⟨b, o + u.i * 6, none⟩ = some (.int .i64 z.t) ∧ w'.cell? ⟨b, o + u.i * 6 + 3, none⟩ = some (.int .u64 (z.a : Int)) ∧ w'.cell? ⟨gE, j * 8 + 1, none⟩ = some (.int .i64 (x.inv : Int)) ∧ w'.cell? ⟨w.heap.size, 1, none⟩ = some (.int .i64 (k : Int)))) (by kernel_rfl) ?_ (fun hHeld => ?_)
                    · first | with_reducible exact ⟨u0, u1, u2, u3, u4, u5, u6, u7, zt, za, x1, qk⟩ | go_keep
                    refine wpAnyH_take (i := 0) (oi := _) (v := ?v73) rfl (by kernel_rfl) (by kernel_rfl) (by kernel_rfl) (fun _ _ _ h => h) (Or.inl ⟨by kernel_rfl, ?hy73⟩) (by assumption) ?rest73
                    case hy73 => (intro w hSw; (try dsimp only at hSw); go_simp <;> with_reducible rfl)
                    try simp only [Act.put, List.getElem_toArray, List.getElem_cons_zero, List.getElem_cons_succ, List.setIfInBounds_toArray, List.set_cons_zero, List.set_cons_succ]
                    refine wpAnyH_take (i := 1) (oi := _) (v := ?v74) rfl (by kernel_rfl) (by kernel_rfl) (by kernel_rfl) (fun _ _ _ h => h) (Or.inl ⟨by kernel_rfl, ?hy74⟩) (by assumption) ?rest74
                    case hy74 => (intro w hSw; (try dsimp only at hSw); go_simp <;> with_reducible rfl)
                    try simp only [Act.put, List.getElem_toArray, List.getElem_cons_zero, List.getElem_cons_succ, List.setIfInBounds_toArray, List.set_cons_zero, List.set_cons_succ]
                    refine wpAnyH_take (i := 2) (oi := _) (v := ?v75) rfl (by kernel_rfl) (by kernel_rfl) (by kernel_rfl) (fun _ _ _ h => h) (Or.inl ⟨by kernel_rfl, ?hy75⟩) (by assumption) ?rest75
                    case hy75 => (intro w hSw; (try dsimp only at hSw); go_simp <;> with_reducible rfl)
                    try simp only [Act.put, List.getElem_toArray, List.getElem_cons_zero, List.getElem_cons_succ, List.setIfInBounds_toArray, List.set_cons_zero, List.set_cons_succ]
                    refine wpAnyH_take (i := 3) (oi := _) (v := ?v76) rfl (by kernel_rfl) (by kernel_rfl) (by kernel_rfl) (fun _ _ _ h => h) (Or.inl ⟨by kernel_rfl, ?hy76⟩) (by assumption) ?rest76
                    case hy76 => (intro w hSw; (try dsimp only at hSw); go_simp <;> with_reducible rfl)
                    try simp only [Act.put, List.getElem_toArray, List.getElem_cons_zero, List.getElem_cons_succ, List.setIfInBounds_toArray, List.set_cons_zero, List.set_cons_succ]
                    refine wpAnyH_take (i := 4) (oi := _) (v := ?v77) rfl (by kernel_rfl) (by kernel_rfl) (by kernel_rfl) (fun _ _ _ h => h) (Or.inl ⟨by kernel_rfl, ?hy77⟩) (by assumption) ?rest77
                    case hy77 => (intro w hSw; (try dsimp only at hSw); go_simp <;> with_reducible rfl)
                    try simp only [Act.put, List.getElem_toArray, List.getElem_cons_zero, List.getElem_cons_succ, List.setIfInBounds_toArray, List.set_cons_zero, List.set_cons_succ]
                    refine wpAnyH_ready (rs := [5]) (by kernel_rfl) (by simp) ?_
                    refine AllReadyH.cons (o := _) rfl (fun K hK => ?_) AllReadyH.nil
                    go_simp
                    go_at_call 17
                    refine (HIS1.out _ (below_drew HB6.out)).mono ?_
                    rintro e w7 ⟨rfl, hb7⟩
                    have HB7 : Hid (Below w0.heap.size w0 w7) := Lib.hid ((below_drew HB6.out).trans (hb7.mono (by have := HB6.out.size; exact this)))
                    clear hb7
                    obtain ⟨u0', u1', u2', u3', u4', u5', u6', u7', zt', za', x1', qk'⟩ := HF.out w7 HB7.out
                    go_simp
                    refine hK.out _ _ ?_ (fun hHeld => ?_)
                    · with_reducible exact ⟨u0', u1', u2', u3', u4', u5', u6', u7', zt', za', x1', qk'⟩
                    clear hK K
                    try simp only [Act.put, List.getElem_toArray, List.getElem_cons_zero, List.getElem_cons_succ, List.setIfInBounds_toArray, List.set_cons_zero, List.set_cons_succ]
                    refine wpAnyH_take (i := 6) (oi := _) (v := ?v78) rfl (by kernel_rfl) (by kernel_rfl) (by kernel_rfl) (fun _ _ _ h => h) (Or.inl ⟨by kernel_rfl, ?hy78⟩) (by assumption) ?rest78
                    case hy78 => (intro w hSw; (try dsimp only at hSw); go_simp <;> with_reducible rfl)
                    try simp only [Act.put, List.getElem_toArray, List.getElem_cons_zero, List.getElem_cons_succ, List.setIfInBounds_toArray, List.set_cons_zero, List.set_cons_succ]
                    refine wpAnyH_take (i := 7) (oi := _) (v := ?v79) rfl (by kernel_rfl) (by kernel_rfl) (by kernel_rfl) (fun _ _ _ h => h) (Or.inl ⟨by kernel_rfl, ?hy79⟩) (by assumption) ?rest79
                    case hy79 => (intro w hSw; (try dsimp only at hSw); go_simp <;> with_reducible rfl)
                    try simp only [Act.put, List.getElem_toArray, List.getElem_cons_zero, List.getElem_cons_succ, List.setIfInBounds_toArray, List.set_cons_zero, List.set_cons_succ]
                    refine wpAnyH_take (i := 8) (oi := _) (v := ?v80) rfl (by kernel_rfl) (by kernel_rfl) (by kernel_rfl) (fun _ _ _ h => h) (Or.inl ⟨by kernel_rfl, ?hy80⟩) (by assumption) ?rest80
                    case hy80 => (intro w hSw; (try dsimp only at hSw); go_simp <;> with_reducible rfl)
                    try simp only [Act.put, List.getElem_toArray, List.getElem_cons_zero, List.getElem_cons_succ, List.setIfInBounds_toArray, List.set_cons_zero, List.set_cons_succ]
                    refine wpAnyH_take (i := 9) (oi := _) (v := ?v81) rfl (by kernel_rfl) (by kernel_rfl) (by kernel_rfl) (fun _ _ _ h => h) (Or.inl ⟨by kernel_rfl, ?hy81⟩) (by assumption) ?rest81
                    case hy81 => (intro w hSw; (try dsimp only at hSw); go_simp <;> with_reducible rfl)
                    try simp only [Act.put, List.getElem_toArray, List.getElem_cons_zero, List.getElem_cons_succ, List.setIfInBounds_toArray, List.set_cons_zero, List.set_cons_succ]
                    refine wpAnyH_take (i := 10) (oi := _) (v := ?v82) rfl (by kernel_rfl) (by kernel_rfl) (by kernel_rfl) (fun _ _ _ h => h) (Or.inl ⟨by kernel_rfl, ?hy82⟩) (by assumption) ?rest82
                    case hy82 => (intro w hSw; (try dsimp only at hSw); go_simp <;> with_reducible rfl)
                    try simp only [Act.put, List.getElem_toArray, List.getElem_cons_zero, List.getElem_cons_succ, List.setIfInBounds_toArray, List.set_cons_zero, List.set_cons_succ]
                    refine wpAnyH_take (i := 11) (oi := _) (v := ?v83) rfl (by kernel_rfl) (by kernel_rfl) (by kernel_rfl) (fun _ _ _ h => h) (Or.inl ⟨by kernel_rfl, ?hy83⟩) (by assumption) ?rest83
                    case hy83 => (intro w hSw; (try dsimp only at hSw); go_simp <;> with_reducible rfl)
                    try simp only [Act.put, List.getElem_toArray, List.getElem_cons_zero, List.getElem_cons_succ, List.setIfInBounds_toArray, List.set_cons_zero, List.set_cons_succ]
                    refine wpAnyH_take (i := 12) (oi := _) (v := ?v84) rfl (by kernel_rfl) (by kernel_rfl) (by kernel_rfl) (fun _ _ _ h => h) (Or.inl ⟨by kernel_rfl, ?hy84⟩) (by assumption) ?rest84
                    case hy84 => (intro w hSw; (try dsimp only at hSw); go_simp <;> with_reducible rfl)
                    try simp only [Act.put, List.getElem_toArray, List.getElem_cons_zero, List.getElem_cons_succ, List.setIfInBounds_toArray, List.set_cons_zero, List.set_cons_succ]
                    refine wpAnyH_take (i := 13) (oi := _) (v := ?v85) rfl (by kernel_rfl) (by kernel_rfl) (by kernel_rfl) (fun _ _ _ h => h) (Or.inl ⟨by kernel_rfl, ?hy85⟩) (by assumption) ?rest85
                    case hy85 => (intro w hSw; (try dsimp only at hSw); go_simp <;> with_reducible rfl)
                    try simp only [Act.put, List.getElem_toArray, List.getElem_cons_zero, List.getElem_cons_succ, List.setIfInBounds_toArray, List.set_cons_zero, List.set_cons_succ]
                    refine wpAnyH_take (i := 14) (oi := _) (v := ?v86) rfl (by kernel_rfl) (by kernel_rfl) (by kernel_rfl) (fun _ _ _ h => h) (Or.inl ⟨by kernel_rfl, ?hy86⟩) (by assumption) ?rest86
                    case hy86 => (intro w hSw; (try dsimp only at hSw); go_simp <;> with_reducible rfl)
                    try simp only [Act.put, List.getElem_toArray, List.getElem_cons_zero, List.getElem_cons_succ, List.setIfInBounds_toArray, List.set_cons_zero, List.set_cons_succ]
                    refine wpAnyH_take (i := 15) (oi := _) (v := ?v87) rfl (by kernel_rfl) (by kernel_rfl) (by kernel_rfl) (fun _ _ _ h => h) (Or.inl ⟨by kernel_rfl, ?hy87⟩) (by assumption) ?rest87
                    case hy87 => (intro w hSw; (try dsimp only at hSw); go_simp <;> with_reducible rfl)
                    try simp only [Act.put, List.getElem_toArray, List.getElem_cons_zero, List.getElem_cons_succ, List.setIfInBounds_toArray, List.set_cons_zero, List.set_cons_succ]
                    refine wpAnyH_take (i := 16) (oi := _) (v := ?v88) rfl (by kernel_rfl) (by kernel_rfl) (by kernel_rfl) (fun _ _ _ h => h) (Or.inl ⟨by kernel_rfl, ?hy88⟩) (by assumption) ?rest88
                    case hy88 => (intro w hSw; (try dsimp only at hSw); go_simp <;> with_reducible rfl)
                    try simp only [Act.put, List.getElem_toArray, List.getElem_cons_zero, List.getElem_cons_succ, List.setIfInBounds_toArray, List.set_cons_zero, List.set_cons_succ]
                    refine wpAnyH_take (i := 17) (oi := _) (v := ?v89) rfl (by kernel_rfl) (by kernel_rfl) (by kernel_rfl) (fun _ _ _ h => h) (Or.inl ⟨by kernel_rfl, ?hy89⟩) (by assumption) ?rest89
                    case hy89 => (intro w hSw; (try dsimp only at hSw); go_simp <;> with_reducible rfl)
                    try simp only [Act.put, List.getElem_toArray, List.getElem_cons_zero, List.getElem_cons_succ, List.setIfInBounds_toArray, List.set_cons_zero, List.set_cons_succ]
                    refine wpAnyH_take (i := 18) (oi := _) (v := ?v90) rfl (by kernel_rfl) (by kernel_rfl) (by kernel_rfl) (fun _ _ _ h => h) (Or.inl ⟨by kernel_rfl, ?hy90⟩) (by assumption) ?rest90
                    case hy90 => (intro w hSw; (try dsimp only at hSw); go_simp <;> with_reducible rfl)
                    try simp only [Act.put, List.getElem_toArray, List.getElem_cons_zero, List.getElem_cons_succ, List.setIfInBounds_toArray, List.set_cons_zero, List.set_cons_succ]
                    refine wpAnyH_take (i := 19) (oi := _) (v := ?v91) rfl (by kernel_rfl) (by kernel_rfl) (by kernel_rfl) (fun _ _ _ h => h) (Or.inl ⟨by kernel_rfl, ?hy91⟩) (by assumption) ?rest91
                    case hy91 => (intro w hSw; (try dsimp only at hSw); go_simp <;> with_reducible rfl)
                    try simp only [Act.put, List.getElem_toArray, List.getElem_cons_zero, List.getElem_cons_succ, List.setIfInBounds_toArray, List.set_cons_zero, List.set_cons_succ]
                    refine wpAnyH_take (i := 20) (oi := _) (v := ?v92) rfl (by kernel_rfl) (by kernel_rfl) (by kernel_rfl) (fun _ _ _ h => h) (Or.inl ⟨by kernel_rfl, ?hy92⟩) (by assumption) ?rest92
                    case hy92 => (intro w hSw; (try dsimp only at hSw); go_simp <;> with_reducible rfl)
                    try simp only [Act.put, List.getElem_toArray, List.getElem_cons_zero, List.getElem_cons_succ, List.setIfInBounds_toArray, List.set_cons_zero, List.set_cons_succ]
                    refine wpAnyH_take (i := 21) (oi := _) (v := ?v93) rfl (by kernel_rfl) (by kernel_rfl) (by kernel_rfl) (fun _ _ _ h => h) (Or.inl ⟨by kernel_rfl, ?hy93⟩) (by assumption) ?rest93
                    case hy93 => (intro w hSw; (try dsimp only at hSw); go_simp <;> with_reducible rfl)
                    try simp only [Act.put, List.getElem_toArray, List.getElem_cons_zero, List.getElem_cons_succ, List.setIfInBounds_toArray, List.set_cons_zero, List.set_cons_succ]
                    refine wpAnyH_take (i := 22) (oi := _) (v := ?v94) rfl (by kernel_rfl) (by kernel_rfl) (by kernel_rfl) (fun _ _ _ h => h) (Or.inl ⟨by kernel_rfl, ?hy94⟩) (by assumption) ?rest94
                    case hy94 => (intro w hSw; (try dsimp only at hSw); go_simp <;> with_reducible rfl)
                    try simp only [Act.put, List.getElem_toArray, List.getElem_cons_zero, List.getElem_cons_succ, List.setIfInBounds_toArray, List.set_cons_zero, List.set_cons_succ]
                    refine wpAnyH_take (i := 23) (oi := _) (v := ?v95) rfl (by kernel_rfl) (by kernel_rfl) (by kernel_rfl) (fun _ _ _ h => h) (Or.inl ⟨by kernel_rfl, ?hy95⟩) (by assumption) ?rest95
                    case hy95 => (intro w hSw; (try dsimp only at hSw); go_simp <;> with_reducible rfl)
                    try simp only [Act.put, List.getElem_toArray, List.getElem_cons_zero, List.getElem_cons_succ, List.setIfInBounds_toArray, List.set_cons_zero, List.set_cons_succ]
                    refine wpAnyH_take (i := 24) (oi := _) (v := ?v96) rfl (by kernel_rfl) (by kernel_rfl) (by kernel_rfl) (fun _ _ _ h => h) (Or.inl ⟨by kernel_rfl, ?hy96⟩) (by assumption) ?rest96
                    case hy96 => (intro w hSw; (try dsimp only at hSw); go_simp <;> with_reducible rfl)
                    try simp only [Act.put, List.getElem_toArray, List.getElem_cons_zero, List.getElem_cons_succ, List.setIfInBounds_toArray, List.set_cons_zero, List.set_cons_succ]
                    refine wpAnyH_done (by kernel_rfl) ?_ _
                    clear u0 u1 u2 u3 u4 u5 u6 u7 zt za x1 qk u0' u1' u2' u3' u4' u5' u6' u7' zt' za' x1' qk'
                    go_wp2_with fail
                    go_roundw
                    case rel => first | exact ⟨j2 + 1, T - 1, by omega, by go_num, by go_num, Lib.hid (by rw [tk_snoc HU.out, HKA.out, HKR.out, ← hT.out]; simp), HB7⟩ | ((repeat apply Exists.intro); exact ⟨⟨j2 + 1, T - 1, by omega, by go_num, by go_num, Lib.hid (by rw [tk_snoc HU.out, HKA.out, HKR.out, ← hT.out]; simp), HB7⟩, rfl⟩)
                    case measure => simp [intOf]; omega
                  · have HKR : Hid (tkR cs k y.t x.inv u = false) := Lib.hid (by unfold tkR; rw [HA1.out, HS.out, decide_eq_false t1]; simp)
                    have t1b : ((s : Int) == y.t) = false := by rw [beq_eq_false_iff_ne]; exact t1
                    go_wp2_with fail
                    refine wp_region_held_drew (S := (fun w' => w'.cell? ⟨gE, j2 * 8, none⟩ = some (.int .i64 (u.i : Int)) ∧ w'.cell? ⟨gE, j2 * 8 + 1, none⟩ = some (.int .i64 (u.inv : Int)) ∧ w'.cell? ⟨gE, j2 * 8 + 2, none⟩ = some (.int .i64 (u.resp : Int)) ∧ w'.cell? ⟨gE, j2 * 8 + 3, none⟩ = some (.int .i64 (u.steps : Int)) ∧ w'.cell? ⟨gE, j2 * 8 + 4, none⟩ = some (.int .i64 (u.ans.err : Int)) ∧ w'.cell? ⟨gE, j2 * 8 + 5, none⟩ = some (.int .u64 (u.ans.val : Int)) ∧ w'.cell? ⟨gE, j2 * 8 + 6, none⟩ = some (.slice la2 u.ans.list.length lc2) ∧ w'.cell? ⟨gE, j2 * 8 + 7, none⟩ = some (.slice ka2 u.key.length kc2) ∧ w'.cell? ⟨b, o + u.i * 6, none⟩ = some (.int .i64 z.t) ∧ w'.cell? ⟨b, o + u.i * 6 + 3, none⟩ = some (.int .u64 (z.a : Int)) ∧ w'.cell? ⟨gE, j * 8 + 1, none⟩ = some (.int .i64 (x.inv : Int)) ∧ w'.cell? ⟨w.heap.size, 1, none⟩ = some (.int .i64 (k : Int)))) (by kernel_rfl) ?_ (fun hHeld => ?_)
                    · first | with_reducible exact ⟨u0, u1, u2, u3, u4, u5, u6, u7, zt, za, x1, qk⟩ | go_keep
                    refine wpAnyH_take (i := 0) (oi := _) (v := ?v97) rfl (by kernel_rfl) (by kernel_rfl) (by kernel_rfl) (fun _ _ _ h => h) (Or.inl ⟨by kernel_rfl, ?hy97⟩) (by assumption) ?rest97
                    case hy97 => (intro w hSw; (try dsimp only at hSw); go_simp <;> with_reducible rfl)
                    try simp only [Act.put, List.getElem_toArray, List.getElem_cons_zero, List.getElem_cons_succ, List.setIfInBounds_toArray, List.set_cons_zero, List.set_cons_succ]
                    refine wpAnyH_take (i := 1) (oi := _) (v := ?v98) rfl (by kernel_rfl) (by kernel_rfl) (by kernel_rfl) (fun _ _ _ h => h) (Or.inl ⟨by kernel_rfl, ?hy98⟩) (by assumption) ?rest98
                    case hy98 => (intro w hSw; (try dsimp only at hSw); go_simp <;> with_reducible rfl)
                    try simp only [Act.put, List.getElem_toArray, List.getElem_cons_zero, List.getElem_cons_succ, List.setIfInBounds_toArray, List.set_cons_zero, List.set_cons_succ]
                    refine wpAnyH_take (i := 2) (oi := _) (v := ?v99) rfl (by kernel_rfl) (by kernel_rfl) (by kernel_rfl) (fun _ _ _ h => h) (Or.inl ⟨by kernel_rfl, ?hy99⟩) (by assumption) ?rest99
                    case hy99 => (intro w hSw; (try dsimp only at hSw); go_simp <;> with_reducible rfl)
                    try simp only [Act.put, List.getElem_toArray, List.getElem_cons_zero, List.getElem_cons_succ, List.setIfInBounds_toArray, List.set_cons_zero, List.set_cons_succ]
                    refine wpAnyH_take (i := 3) (oi := _) (v := ?v100) rfl (by kernel_rfl) (by kernel_rfl) (by kernel_rfl) (fun _ _ _ h => h) (Or.inl ⟨by kernel_rfl, ?hy100⟩) (by assumption) ?rest100
                    case hy100 => (intro w hSw; (try dsimp only at hSw); go_simp <;> with_reducible rfl)
                    try simp only [Act.put, List.getElem_toArray, List.getElem_cons_zero, List.getElem_cons_succ, List.setIfInBounds_toArray, List.set_cons_zero, List.set_cons_succ]
                    refine wpAnyH_take (i := 4) (oi := _) (v := ?v101) rfl (by kernel_rfl) (by kernel_rfl) (by kernel_rfl) (fun _ _ _ h => h) (Or.inl ⟨by kernel_rfl, ?hy101⟩) (by assumption) ?rest101
                    case hy101 => (intro w hSw; (try dsimp only at hSw); go_simp <;> with_reducible rfl)
                    try simp only [Act.put, List.getElem_toArray, List.getElem_cons_zero, List.getElem_cons_succ, List.setIfInBounds_toArray, List.set_cons_zero, List.set_cons_succ]
                    refine wpAnyH_ready (rs := [5]) (by kernel_rfl) (by simp) ?_
                    refine AllReadyH.cons (o := _) rfl (fun K hK => ?_) AllReadyH.nil
                    go_simp
                    go_at_call 17
                    refine (HIS1.out _ (below_drew HB6.out)).mono ?_
                    rintro e w7 ⟨rfl, hb7⟩
                    have HB7 : Hid (Below w0.heap.size w0 w7) := Lib.hid ((below_drew HB6.out).trans (hb7.mono (by have := HB6.out.size; exact this)))
                    clear hb7
                    obtain ⟨u0', u1', u2', u3', u4', u5', u6', u7', zt', za', x1', qk'⟩ := HF.out w7 HB7.out
                    go_simp
                    refine hK.out _ _ ?_ (fun hHeld => ?_)
                    · with_reducible exact ⟨u0', u1', u2', u3', u4', u5', u6', u7', zt', za', x1', qk'⟩
                    clear hK K
                    try simp only [Act.put, List.getElem_toArray, List.getElem_cons_zero, List.getElem_cons_succ, List.setIfInBounds_toArray, List.set_cons_zero, List.set_cons_succ]
                    refine wpAnyH_take (i := 6) (oi := _) (v := ?v102) rfl (by kernel_rfl) (by kernel_rfl) (by kernel_rfl) (fun _ _ _ h => h) (Or.inl ⟨by kernel_rfl, ?hy102⟩) (by assumption) ?rest102
                    case hy102 => (intro w hSw; (try dsimp only at hSw); go_simp <;> with_reducible rfl)
                    try simp only [Act.put, List.getElem_toArray, List.getElem_cons_zero, List.getElem_cons_succ, List.setIfInBounds_toArray, List.set_cons_zero, List.set_cons_succ]
                    refine wpAnyH_take (i := 7) (oi := _) (v := ?v103) rfl (by kernel_rfl) (by kernel_rfl) (by kernel_rfl) (fun _ _ _ h => h) (Or.inl ⟨by kernel_rfl, ?hy103⟩) (by assumption) ?rest103
                    case hy103 => (intro w hSw; (try dsimp only at hSw); go_simp <;> with_reducible rfl)
                    try simp only [Act.put, List.getElem_toArray, List.getElem_cons_zero, List.getElem_cons_succ, List.setIfInBounds_toArray, List.set_cons_zero, List.set_cons_succ]
                    refine wpAnyH_take (i := 8) (oi := _) (v := ?v104) rfl (by kernel_rfl) (by kernel_rfl) (by kernel_rfl) (fun _ _ _ h => h) (Or.inl ⟨by kernel_rfl, ?hy104⟩) (by assumption) ?rest104
                    case hy104 => (intro w hSw; (try dsimp only at hSw); go_simp <;> with_reducible rfl)
                    try simp only [Act.put, List.getElem_toArray, List.getElem_cons_zero, List.getElem_cons_succ, List.setIfInBounds_toArray, List.set_cons_zero, List.set_cons_succ]
                    refine wpAnyH_take (i := 9) (oi := _) (v := ?v105) rfl (by kernel_rfl) (by kernel_rfl) (by kernel_rfl) (fun _ _ _ h => h) (Or.inl ⟨by kernel_rfl, ?hy105⟩) (by assumption) ?rest105
                    case hy105 => (intro w hSw; (try dsimp only at hSw); go_simp <;> with_reducible rfl)
                    try simp only [Act.put, List.getElem_toArray, List.getElem_cons_zero, List.getElem_cons_succ, List.setIfInBounds_toArray, List.set_cons_zero, List.set_cons_succ]
                    refine wpAnyH_take (i := 10) (oi := _) (v := ?v106) rfl (by kernel_rfl) (by kernel_rfl) (by kernel_rfl) (fun _ _ _ h => h) (Or.inl ⟨by kernel_rfl, ?hy106⟩) (by assumption) ?rest106
                    case hy106 => (intro w hSw; (try dsimp only at hSw); go_simp <;> with_reducible rfl)
                    try simp only [Act.put, List.getElem_toArray, List.getElem_cons_zero, List.getElem_cons_succ, List.setIfInBounds_toArray, List.set_cons_zero, List.set_cons_succ]
                    refine wpAnyH_take (i := 11) (oi := _) (v := ?v107) rfl (by kernel_rfl) (by kernel_rfl) (by kernel_rfl) (fun _ _ _ h => h) (Or.inl ⟨by kernel_rfl, ?hy107⟩) (by assumption) ?rest107
                    case hy107 => (intro w hSw; (try dsimp only at hSw); go_simp <;> with_reducible rfl)
                    try simp only [Act.put, List.getElem_toArray, List.getElem_cons_zero, List.getElem_cons_succ, List.setIfInBounds_toArray, List.set_cons_zero, List.set_cons_succ]
                    refine wpAnyH_take (i := 12) (oi := _) (v := ?v108) rfl (by kernel_rfl) (by kernel_rfl) (by kernel_rfl) (fun _ _ _ h => h) (Or.inl ⟨by kernel_rfl, ?hy108⟩) (by assumption) ?rest108
                    case hy108 => (intro w hSw; (try dsimp only at hSw); go_simp <;> with_reducible rfl)
                    try simp only [Act.put, List.getElem_toArray, List.getElem_cons_zero, List.getElem_cons_succ, List.setIfInBounds_toArray, List.set_cons_zero, List.set_cons_succ]
                    refine wpAnyH_take (i := 13) (oi := _) (v := ?v109) rfl (by kernel_rfl) (by kernel_rfl) (by kernel_rfl) (fun _ _ _ h => h) (Or.inl ⟨by kernel_rfl, ?hy109⟩) (by assumption) ?rest109
                    case hy109 => (intro w hSw; (try dsimp only at hSw); go_simp <;> with_reducible rfl)
                    try simp only [Act.put, List.getElem_toArray, List.getElem_cons_zero, List.getElem_cons_succ, List.setIfInBounds_toArray, List.set_cons_zero, List.set_cons_succ]
                    refine wpAnyH_take (i := 14) (oi := _) (v := ?v110) rfl (by kernel_rfl) (by kernel_rfl) (by kernel_rfl) (fun _ _ _ h => h) (Or.inl ⟨by kernel_rfl, ?hy110⟩) (by assumption) ?rest110
                    case hy110 => (intro w hSw; (try dsimp only at hSw); go_simp <;> with_reducible rfl)
                    try simp only [Act.put, List.getElem_toArray, List.getElem_cons_zero, List.getElem_cons_succ, List.setIfInBounds_toArray, List.set_cons_zero, List.set_cons_succ]
                    refine wpAnyH_take (i := 15) (oi := _) (v := ?v111) rfl (by kernel_rfl) (by kernel_rfl) (by kernel_rfl) (fun _ _ _ h => h) (Or.inl ⟨by kernel_rfl, ?hy111⟩) (by assumption) ?rest111
                    case hy111 => (intro w hSw; (try dsimp only at hSw); go_simp <;> with_reducible rfl)
                    try simp only [Act.put, List.getElem_toArray, List.getElem_cons_zero, List.getElem_cons_succ, List.setIfInBounds_toArray, List.set_cons_zero, List.set_cons_succ]
                    refine wpAnyH_take (i := 16) (oi := _) (v := ?v112) rfl (by kernel_rfl) (by kernel_rfl) (by kernel_rfl) (fun _ _ _ h => h) (Or.inl ⟨by kernel_rfl, ?hy112⟩) (by assumption) ?rest112
                    case hy112 => (intro w hSw; (try dsimp only at hSw); go_simp <;> with_reducible rfl)
                    try simp only [Act.put, List.getElem_toArray, List.getElem_cons_zero, List.getElem_cons_succ, List.setIfInBounds_toArray, List.set_cons_zero, List.set_cons_succ]
                    refine wpAnyH_take (i := 17) (oi := _) (v := ?v113) rfl (by kernel_rfl) (by kernel_rfl) (by kernel_rfl) (fun _ _ _ h => h) (Or.inl ⟨by kernel_rfl, ?hy113⟩) (by assumption) ?rest113
                    case hy113 => (intro w hSw; (try dsimp only at hSw); go_simp <;> with_reducible rfl)
                    try simp only [Act.put, List.getElem_toArray, List.getElem_cons_zero, List.getElem_cons_succ, List.setIfInBounds_toArray, List.set_cons_zero, List.set_cons_succ]
                    refine wpAnyH_take (i := 18) (oi := _) (v := ?v114) rfl (by kernel_rfl) (by kernel_rfl) (by kernel_rfl) (fun _ _ _ h => h) (Or.inl ⟨by kernel_rfl, ?hy114⟩) (by assumption) ?rest114
                    case hy114 => (intro w hSw; (try dsimp only at hSw); go_simp <;> with_reducible rfl)
                    try simp only [Act.put, List.getElem_toArray, List.getElem_cons_zero, List.getElem_cons_succ, List.setIfInBounds_toArray, List.set_cons_zero, List.set_cons_succ]
                    refine wpAnyH_take (i := 19) (oi := _) (v := ?v115) rfl (by kernel_rfl) (by kernel_rfl) (by kernel_rfl) (fun _ _ _ h => h) (Or.inl ⟨by kernel_rfl, ?hy115⟩) (by assumption) ?rest115
                    case hy115 => (intro w hSw; (try dsimp only at hSw); go_simp <;> with_reducible rfl)
                    try simp only [Act.put, List.getElem_toArray, List.getElem_cons_zero, List.getElem_cons_succ, List.setIfInBounds_toArray, List.set_cons_zero, List.set_cons_succ]
                    refine wpAnyH_take (i := 20) (oi := _) (v := ?v116) rfl (by kernel_rfl) (by kernel_rfl) (by kernel_rfl) (fun _ _ _ h => h) (Or.inl ⟨by kernel_rfl, ?hy116⟩) (by assumption) ?rest116
                    case hy116 => (intro w hSw; (try dsimp only at hSw); go_simp <;> with_reducible rfl)
                    try simp only [Act.put, List.getElem_toArray, List.getElem_cons_zero, List.getElem_cons_succ, List.setIfInBounds_toArray, List.set_cons_zero, List.set_cons_succ]
                    refine wpAnyH_take (i := 21) (oi := _) (v := ?v117) rfl (by kernel_rfl) (by kernel_rfl) (by kernel_rfl) (fun _ _ _ h => h) (Or.inl ⟨by kernel_rfl, ?hy117⟩) (by assumption) ?rest117
                    case hy117 => (intro w hSw; (try dsimp only at hSw); go_simp <;> with_reducible rfl)
                    try simp only [Act.put, List.getElem_toArray, List.getElem_cons_zero, List.getElem_cons_succ, List.setIfInBounds_toArray, List.set_cons_zero, List.set_cons_succ]
                    refine wpAnyH_take (i := 22) (oi := _) (v := ?v118) rfl (by kernel_rfl) (by kernel_rfl) (by kernel_rfl) (fun _ _ _ h => h) (Or.inl ⟨by kernel_rfl, ?hy118⟩) (by assumption) ?rest118
                    case hy118 => (intro w hSw; (try dsimp only at hSw); go_simp <;> with_reducible rfl)
                    try simp only [Act.put, List.getElem_toArray, List.getElem_cons_zero, List.getElem_cons_succ, List.setIfInBounds_toArray, List.set_cons_zero, List.set_cons_succ]
                    refine wpAnyH_take (i := 23) (oi := _) (v := ?v119) rfl (by kernel_rfl) (by kernel_rfl) (by kernel_rfl) (fun _ _ _ h => h) (Or.inl ⟨by kernel_rfl, ?hy119⟩) (by assumption) ?rest119
                    case hy119 => (intro w hSw; (try dsimp only at hSw); go_simp <;> with_reducible rfl)
                    try simp only [Act.put, List.getElem_toArray, List.getElem_cons_zero, List.getElem_cons_succ, List.setIfInBounds_toArray, List.set_cons_zero, List.set_cons_succ]
                    refine wpAnyH_take (i := 24) (oi := _) (v := ?v120) rfl (by kernel_rfl) (by kernel_rfl) (by kernel_rfl) (fun _ _ _ h => h) (Or.inl ⟨by kernel_rfl, ?hy120⟩) (by assumption) ?rest120
                    case hy120 => (intro w hSw; (try dsimp only at hSw); go_simp <;> with_reducible rfl)
                    try simp only [Act.put, List.getElem_toArray, List.getElem_cons_zero, List.getElem_cons_succ, List.setIfInBounds_toArray, List.set_cons_zero, List.set_cons_succ]
                    refine wpAnyH_done (by kernel_rfl) ?_ _
                    clear u0 u1 u2 u3 u4 u5 u6 u7 zt za x1 qk u0' u1' u2' u3' u4' u5' u6' u7' zt' za' x1' qk'
                    go_wp2_with fail
                    go_roundw
                    case rel => first | exact ⟨j2 + 1, T, by omega, by go_num, by go_num, Lib.hid (by rw [tk_snoc HU.out, HKA.out, HKR.out, ← hT.out]; simp), HB7⟩ | ((repeat apply Exists.intro); exact ⟨⟨j2 + 1, T, by omega, by go_num, by go_num, Lib.hid (by rw [tk_snoc HU.out, HKA.out, HKR.out, ← hT.out]; simp), HB7⟩, rfl⟩)
                    case measure => simp [intOf]; omega
            · have g1a : (x.inv : Int) ≤ (u.resp : Int) := by omega
              have HKA : Hid (tkA cs y.t x.inv u = false) := Lib.hid (by unfold tkA; rw [decide_eq_false g1, Bool.false_and])
              have HKR : Hid (tkR cs k y.t x.inv u = false) := Lib.hid (by unfold tkR; rw [decide_eq_false g1, Bool.false_and])
              have HB5 : Hid (∀ m, Below w0.heap.size w0 (wr.drewN m)) := Lib.hid (fun m => below_drewN hBq.out m)
              go_wp2_with fail
              go_quiet (fail)
              go_wp2_with fail
              go_roundw
              case rel => exact ⟨j2 + 1, T, by omega, by go_num, by go_num, Lib.hid (by rw [tk_snoc HU.out, HKA.out, HKR.out, ← hT.out]; simp), Lib.hid (HB5.out _)⟩
              case measure => simp [intOf]; omega
          · have hjn : ¬ (j2 : Int) < (R.evs.length : Int) := by omega
            have hTk : T = (k : Int) := by
              have h1 := hT.out
              rw [List.take_of_length_le (by omega)] at h1
              have h2 := HAG.out.full x HXM.out HE6.out
              rw [thI_some HY.out] at h2
              omega
            have qk : wr.cell? ⟨w.heap.size, 1, none⟩ = some (.int .i64 (k : Int)) := (HQB.out.same (hBq.out.block _ HQB.out.lt)).cell rfl
            subst hTk
            go_wp2_with fail
            go_roundw
            case rel => exact ⟨j + 1, by omega, by go_num, hBq⟩
            case measure => simp [intOf]; omega
      · have e6a : ¬ (x.ans.err : Int) = 6 := by omega
        have e6b : ((x.ans.err : Int) != 6) = true := by rw [bne_iff_ne]; exact e6a
        have e6c : ((x.ans.err : Int) == 6) = false := by rw [beq_eq_false_iff_ne]; exact e6a
        have HB5 : Hid (∀ m, Below w0.heap.size w0 (wr.drewN m)) := Lib.hid (fun m => below_drewN hBr.out m)
        go_wp2_with fail
        go_roundw
        case rel => exact ⟨j + 1, by omega, by go_num, Lib.hid (HB5.out _)⟩
        case measure => simp [intOf]; omega
    · have hjn : ¬ (j : Int) < (R.evs.length : Int) := by omega
      have HB4 : Hid (Below w.heap.size w wr) := Lib.hid (HB3.out.trans (hBr.out.mono HB3.out.size))
      go_wp2_with fail
      refine (one_any _).mono ?_
      rintro e w4 ⟨rfl, hb4⟩
      have HB5 : Hid (Below w.heap.size w w4) := Lib.hid (HB4.out.trans (hb4.mono HB4.out.size))
      clear hb4
      go_wp2_with fail
      go_ret
      exact ⟨rfl, HB5.out⟩
theorem pfull_all (q0 q1 : Int) (ao : Option Addr) (b o cap : Nat) (cs : List CallV) (ao3 : Option Addr) (b3 o3 cap3 : Nat) (picks : List Int) (w : World) (ha : 0 < cs.length → ao = some ⟨b, o, none⟩) (hb : 0 < cs.length → b < w.heap.size) (hc : CallsAt w b o cs) (hcap : ao = none → cap = 0)
    (ha3 : 0 < picks.length → ao3 = some ⟨b3, o3, none⟩) (hb3 : 0 < picks.length → b3 < w.heap.size) (hc3 : ICells w b3 o3 picks) (hnp : picks.length ≤ 9223372036854775807) (hcl : cs.length ≤ 9223372036854775807) :
    Calls Try.prog 6 #[.agg #[.int .i64 q0, .int .i64 q1], .slice ao cs.length cap, .slice ao3 picks.length cap3] w fun e w' => e = .returned (.bool true) ∧ Below w.heap.size w w' := by
  by_cases hl : longB cs.length picks.length
  · exact pfull_long q0 q1 ao ao3 cs.length cap picks.length cap3 w hnp hl
  · by_cases he : playErr q0 cs picks.length (poolErr q1) = 0
    · obtain ⟨n, rfl, hn1, hth, hpl, _, her⟩ := play_threads he
      have hk : 1 ≤ q1 ∧ q1 ≤ 32 := by
        unfold poolErr at her
        split at her
        · next h => exact h
        · cases her
      obtain ⟨k, rfl⟩ : ∃ k : Nat, q1 = (k : Int) := ⟨q1.toNat, by omega⟩
      have hsz : poolSz (n : Int) (k : Int) = n * k := by unfold poolSz; rw [if_pos hk]; rfl
      have hm : n * k ≤ 512 := Nat.le_trans (Nat.mul_le_mul hn1.2 (show k ≤ 32 by omega)) (by decide)
      have hevs := endM_evs (M := poolM n k) cs (List.replicate (n * k) 0) () picks
      have hend := pool_end (n := n) (k := k) (by omega) hm hth picks
      have hR := rowI_end (M := poolM n k) cs (List.replicate (n * k) 0) () picks
      refine pfull_good n k ao b o cap cs ao3 b3 o3 cap3 picks w hl ha hb hc hcap ha3 hb3 hc3 hnp hcl he (by omega) (repOf (endM (M := poolM n k) cs (List.replicate (n * k) 0) () picks)) (by rw [hsz]) (pool_full (by omega) hm hR hend.1 hend.2) ?_
      show ((endM (M := poolM n k) cs (List.replicate (n * k) 0) () picks).evs.map _).length ≤ _
      rw [List.length_map]; omega
    · exact pfull_bad q0 q1 ao b o cap cs ao3 b3 o3 cap3 picks w hl ha hb hc hcap ha3 hb3 hc3 hnp he
end Go.Proofs.Ytebfkkgemccbfaa
