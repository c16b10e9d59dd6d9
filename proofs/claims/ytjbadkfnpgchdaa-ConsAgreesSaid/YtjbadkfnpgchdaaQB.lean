/- Walk of the law ConsAgrees, where the play is played. -/
import Derived.Test.YtjbadkfnpgchdaaQA
namespace Go.Proofs.Ytjbadkfnpgchdaa
open Go.RowKit
set_option linter.unusedVariables false

theorem EvC.reads {B : Nat} {w : World} {g i : Nat} {x : EvR} {la ka : Option Addr} {lc kc : Nat} (h : EvC B w g i x la ka lc kc) : ∀ k, w.cell? ⟨g, 0 + i * 8 + k, none⟩ = w.cell? ⟨g, i * 8 + k, none⟩ := fun k => by rw [Nat.zero_add]

set_option maxRecDepth 100000 in
set_option maxHeartbeats 4000000 in
theorem agrees_good (n : Int) (ao : Option Addr) (b o cap : Nat) (cs : List CallV) (ao3 : Option Addr) (b3 o3 cap3 : Nat) (picks : List Int) (w : World) (hl : ¬ longB cs.length picks.length) (ha : 0 < cs.length → ao = some ⟨b, o, none⟩) (hb : 0 < cs.length → b < w.heap.size) (hc : CallsAt w b o cs) (hcap : ao = none → cap = 0)
    (ha3 : 0 < picks.length → ao3 = some ⟨b3, o3, none⟩) (hb3 : 0 < picks.length → b3 < w.heap.size) (hc3 : ICells w b3 o3 picks) (hnp : picks.length ≤ 9223372036854775807) (hcl : cs.length ≤ 9223372036854775807) (he : playErr n cs picks.length 0 = 0)
    (D : Nat) (hA : Agreed cs (repOf (endM (M := consM) cs [0] () picks)).evs D) (hel : (repOf (endM (M := consM) cs [0] () picks)).evs.length ≤ 70000) :
    Calls Try.prog 5 #[.int .i64 n, .slice ao cs.length cap, .slice ao3 picks.length cap3] w fun e w' => e = .returned (.bool true) ∧ Below w.heap.size w w' := by
  have HP := Lib.hid (consPlay_good n ao b o cap cs ao3 b3 o3 cap3 picks w ha hb hc hcap ha3 hb3 hc3 hnp)
  have HE := Lib.hid he
  have HL := Lib.hid hl
  have HA := Lib.hid ha
  have HB := Lib.hid hb
  have HC := Lib.hid hc
  obtain ⟨R, hR⟩ : ∃ R, repOf (endM (M := consM) cs [0] () picks) = R := ⟨_, rfl⟩
  rw [hR] at hA hel
  have HAG := Lib.hid hA
  have HRR := Lib.hid hR
  clear ha hb hc hcap ha3 hb3 hc3 he hl hA hR
  go_enter Try.func5, Try.ntmps5
  go_wp2_with fail
  refine (many_no _ _ _ _ _ _ _ hnp HL.out).mono ?_
  rintro e w1 ⟨rfl, rfl⟩
  go_wp2_with fail
  refine HP.out.mono ?_
  rintro e w2 hP
  have hG := hP.good HE.out
  rw [HRR.out] at hG
  obtain ⟨aoE, gE, capE, gw, rfl, hao, hev, hrw, hgw, hb2⟩ := hG
  have HB2 := Lib.hid hb2
  have HAO := Lib.hid hao
  have z2 := hb2.size
  have HEV : Hid (EvAllG w.heap.size (w2.alloc (.cells (repVs (.slice aoE R.evs.length capE) gw R).toArray 32)) gE R.evs) := Lib.hid (hev.below ((Below.refl _ _).alloc (Nat.le_refl _) _) (Nat.le_refl _))
  have HRE : Hid (RowBlk 32 (w2.alloc (.cells (repVs (.slice aoE R.evs.length capE) gw R).toArray 32)) w2.heap.size (repVs (.slice aoE R.evs.length capE) gw R)) := Lib.hid (RowBlk.new _ _ _)
  have HB3 : Hid (Below w.heap.size w (w2.alloc (.cells (repVs (.slice aoE R.evs.length capE) gw R).toArray 32))) := Lib.hid (hb2.alloc z2 _)
  clear hP hb2 hev hrw hao HP
  unfold repVs
  rw [show (repVs (.slice aoE R.evs.length capE) gw R).toArray = #[.slice aoE R.evs.length capE, .slice (some ⟨gw, 0, none⟩) R.ws.length R.ws.length, .int .i64 (R.cn.r : Int), .int .i64 (R.cn.w : Int), .int .i64 (R.cn.s : Int), .int .i64 (R.cn.a : Int), .int .i64 (R.cn.f : Int), .int .i64 (R.ticks : Int), .int .i64 (R.idle : Int)] from rfl] at HEV HRE HB3
  go_wp2_with fail
  generalize w2.alloc (.cells #[.slice aoE R.evs.length capE, .slice (some ⟨gw, 0, none⟩) R.ws.length R.ws.length, .int .i64 (R.cn.r : Int), .int .i64 (R.cn.w : Int), .int .i64 (R.cn.s : Int), .int .i64 (R.cn.a : Int), .int .i64 (R.cn.f : Int), .int .i64 (R.ticks : Int), .int .i64 (R.idle : Int)] 32) = w0 at HEV HRE HB3 ⊢
  go_loopw [9, 10, 37] (fun sm fs k wr => ∃ (j : Nat) (bs : Bool) (d : Nat), j ≤ R.evs.length ∧ k = .int .i64 j ∧ sm = .bool bs ∧ fs = .int .u64 d ∧ Hid (bs = true → d = D ∧ ∃ x ∈ R.evs, goodE x) ∧ Hid (bs = false → d = 0) ∧ Hid (Below w0.heap.size w0 wr)) (fun _ _ k _ => R.evs.length - (intOf k).toNat)
  case atStart => exact ⟨0, false, 0, Nat.zero_le _, rfl, rfl, rfl, Lib.hid (fun h => by cases h), Lib.hid (fun _ => rfl), Lib.hid (Below.refl _ _)⟩
  case round =>
    obtain ⟨j, bs, d, hj, rfl, rfl, rfl, hD, hD0, hBr⟩ := hrel
    have z0 := hBr.out.size
    by_cases hlt : j < R.evs.length
    · obtain rfl := HAO.out (by omega)
      obtain ⟨x, hx⟩ : ∃ x, R.evs[j]? = some x := ⟨R.evs[j], List.getElem?_eq_getElem (by omega)⟩
      have HXM := Lib.hid (List.mem_of_getElem? hx)
      obtain ⟨hgB, la, ka, lc, kc, hv⟩ := (HEV.out.below hBr.out (Nat.le_refl _)) j x hx
      have v0 := hv.c0
      have v1 := hv.c1
      have v2 := hv.c2
      have v3 := hv.c3
      have v4 := hv.c4
      have v5 := hv.c5
      have v6 := hv.c6
      have v7 := hv.c7
      have hgl := World.block_lt_of_cell? wr ⟨gE, j * 8, none⟩ v0
      have r0 : wr.cell? ⟨w2.heap.size, 0, none⟩ = some (.slice (some ⟨gE, 0, none⟩) R.evs.length capE) := (HRE.out.same (hBr.out.block _ HRE.out.lt)).cell rfl
      have hi0 : (0 : Int) ≤ (j : Int) := Int.natCast_nonneg _
      have hi1 : (j : Int) < (R.evs.length : Int) := by omega
      have hb1 := (HAG.out.bnd x HXM.out).1
      have hb2 := (HAG.out.bnd x HXM.out).2
      have b1 : ¬ (x.i : Int) < 0 := by omega
      have b2 : ¬ (cs.length : Int) ≤ (x.i : Int) := by omega
      have b3 : ¬ (2 : Int) < (x.steps : Int) := by omega
      have hrl := HRE.out.lt
      have nr : w2.heap.size ≠ wr.heap.size := by omega
      clear hv hx
      by_cases h1 : x.resp = 0
      · have v2' : wr.cell? ⟨gE, j * 8 + 2, none⟩ = some (.int .i64 0) := by rw [h1] at v2; exact v2
        clear v2 h1
        go_wp2_with fail
        go_roundw
        case rel => exact ⟨j + 1, bs, d, by omega, by go_num, rfl, rfl, hD, hD0, Lib.hid (hBr.out.alloc z0 _)⟩
        case measure => simp [intOf]; omega
      · have h1' : ¬ (x.resp : Int) = 0 := by omega
        by_cases h2 : x.ans.err = 0
        · have v4' : wr.cell? ⟨gE, j * 8 + 4, none⟩ = some (.int .i64 0) := by rw [h2] at v4; exact v4
          have HGE : Hid (goodE x) := Lib.hid ⟨h1, h2⟩
          have hval : x.ans.val = D := HAG.out.same x HXM.out HGE.out
          rw [hval] at v5
          have HVD := Lib.hid hval
          clear v4 h2 h1 hval
          cases bs with
          | true =>
            have hdd : d = D := (hD.out rfl).1
            subst hdd
            go_wp2_with fail
            go_quiet (fail)
            go_wp2_with fail
            go_roundw
            case rel => exact ⟨j + 1, true, d, by omega, by go_num, rfl, rfl, Lib.hid (fun _ => ⟨rfl, x, HXM.out, HGE.out⟩), Lib.hid (fun h => by cases h), Lib.hid (below_drewN (hBr.out.alloc z0 _) _)⟩
            case measure => simp [intOf]; omega
          | false =>
            have hdd : d = 0 := hD0.out rfl
            go_wp2_with fail
            go_quiet (fail)
            go_wp2_with fail
            go_roundw
            case rel => exact ⟨j + 1, true, D, by omega, by go_num, rfl, rfl, Lib.hid (fun _ => ⟨rfl, x, HXM.out, HGE.out⟩), Lib.hid (fun h => by cases h), Lib.hid (below_drewN (hBr.out.alloc z0 _) _)⟩
            case measure => simp [intOf]; omega
        · have h2' : ¬ (x.ans.err : Int) = 0 := by omega
          have h2a : ((x.ans.err : Int) == 0) = false := by simpa using h2
          have h2b : ((x.ans.err : Int) != 0) = true := by simpa using h2
          have h2c : decide ((x.ans.err : Int) = 0) = false := decide_eq_false h2'
          have h2d : decide ((x.ans.err : Int) ≠ 0) = true := decide_eq_true h2'
          clear h1 h2
          go_wp2_with fail
          go_roundw
          case rel => exact ⟨j + 1, bs, d, by omega, by go_num, rfl, rfl, hD, hD0, Lib.hid (hBr.out.alloc z0 _)⟩
          case measure => simp [intOf]; omega
    · have HB4 : Hid (Below w.heap.size w wr) := Lib.hid (HB3.out.trans (hBr.out.mono HB3.out.size))
      have r0 : wr.cell? ⟨w2.heap.size, 0, none⟩ = some (.slice aoE R.evs.length capE) := (HRE.out.same (hBr.out.block _ HRE.out.lt)).cell rfl
      have hjn : ¬ (j : Int) < (R.evs.length : Int) := by omega
      have HBR := hBr
      have HCALL : Hid (∀ W, Below w0.heap.size w0 W → CallsAt W b o cs) := Lib.hid (fun W hW => HC.out.stays (HB3.out.trans (hW.mono HB3.out.size)) HB.out)
      clear hBr
      go_wp2_with fail
      go_loopw [13, 86] (fun pr k wq => ∃ (j2 : Nat) (c : Bool), j2 ≤ R.evs.length ∧ k = .int .i64 j2 ∧ pr = .bool c ∧ Hid (bs = false → c = true) ∧ Hid (∀ (i : Nat) (x : EvR) (y : CallV), i < j2 → R.evs[i]? = some x → cs[x.i]? = some y → y.o = 0 → y.k = 0 → y.a = d → c = true) ∧ Hid (Below w0.heap.size w0 wq)) (fun _ k _ => R.evs.length - (intOf k).toNat)
      case atStart => exact ⟨0, !bs, Nat.zero_le _, rfl, rfl, Lib.hid (fun h => by rw [h]; rfl), Lib.hid (fun i x y h => absurd h (by omega)), HBR⟩
      case round =>
        obtain ⟨j2, c, hj2, rfl, rfl, hC0, hCm, hBq⟩ := hrel
        have zq := hBq.out.size
        by_cases hlt2 : j2 < R.evs.length
        · obtain rfl := HAO.out (by omega)
          obtain ⟨x, hx⟩ : ∃ x, R.evs[j2]? = some x := ⟨R.evs[j2], List.getElem?_eq_getElem (by omega)⟩
          have hb1 := (HAG.out.bnd x (List.mem_of_getElem? hx)).1
          obtain ⟨y, hy⟩ : ∃ y, cs[x.i]? = some y := ⟨cs[x.i]'hb1, List.getElem?_eq_getElem _⟩
          obtain ⟨hgB, la, ka, lc, kc, hv⟩ := (HEV.out.below hBq.out (Nat.le_refl _)) j2 x hx
          have v0 := hv.c0
          have r0 : wr.cell? ⟨w2.heap.size, 0, none⟩ = some (.slice (some ⟨gE, 0, none⟩) R.evs.length capE) := (HRE.out.same (hBq.out.block _ HRE.out.lt)).cell rfl
          obtain rfl := HA.out (by omega)
          obtain ⟨c0, c1, c2, c3, c4, c5, _⟩ := HCALL.out wr hBq.out x.i y hy
          have hi0 : (0 : Int) ≤ (j2 : Int) := Int.natCast_nonneg _
          have hi1 : (j2 : Int) < (R.evs.length : Int) := by omega
          have hk0 : (0 : Int) ≤ (x.i : Int) := Int.natCast_nonneg _
          have hk1 : (x.i : Int) < (cs.length : Int) := by omega
          have hrl := HRE.out.lt
          have hgl := World.block_lt_of_cell? wr ⟨gE, j2 * 8, none⟩ v0
          have hbl := World.block_lt_of_cell? wr ⟨b, o + x.i * 6, none⟩ c0
          have HX := Lib.hid hx
          have HY := Lib.hid hy
          have step : Hid (∀ c' : Bool, (c = true → c' = true) → (y.o = 0 → y.k = 0 → y.a = d → c' = true) → Hid (∀ (i : Nat) (x : EvR) (y : CallV), i < j2 + 1 → R.evs[i]? = some x → cs[x.i]? = some y → y.o = 0 → y.k = 0 → y.a = d → c' = true)) := Lib.hid (fun c' h1 h2 => Lib.hid (fun i x' y' hi hx' hy' e1 e2 e3 => by
            by_cases hij : i = j2
            · subst hij
              rw [HX.out] at hx'; cases hx'
              rw [HY.out] at hy'; cases hy'
              exact h2 e1 e2 e3
            · exact h1 (hCm.out i x' y' (by omega) hx' hy' e1 e2 e3)))
          clear hv hx hy
          cases c with
          | true =>
            go_wp2_with fail
            go_roundw
            case rel => exact ⟨j2 + 1, true, by omega, by go_num, rfl, Lib.hid (fun _ => rfl), step.out true (fun _ => rfl) (fun _ _ _ => rfl), Lib.hid (hBq.out.alloc zq _)⟩
            case measure => simp [intOf]; omega
          | false =>
            by_cases q1 : y.o = 0
            · rw [q1] at c1
              by_cases q2 : y.k = 0
              · rw [q2] at c2
                by_cases q3 : y.a = d
                · rw [q3] at c3
                  have q1' := Lib.hid q1
                  have q2' := Lib.hid q2
                  clear q1 q2 q3
                  go_wp2_with fail
                  go_roundw
                  case rel => exact ⟨j2 + 1, true, by omega, by go_num, rfl, Lib.hid (fun _ => rfl), step.out true (fun _ => rfl) (fun _ _ _ => rfl), Lib.hid (hBq.out.alloc zq _)⟩
                  case measure => simp [intOf]; omega
                · have q3a : ¬ (y.a : Int) = (d : Int) := by omega
                  have q3b : ((y.a : Int) == (d : Int)) = false := by rw [beq_eq_false_iff_ne]; exact q3a
                  have q3c : decide ((y.a : Int) = (d : Int)) = false := decide_eq_false q3a
                  have Q3 := Lib.hid q3
                  clear q1 q2 q3
                  go_wp2_with fail
                  go_roundw
                  case rel => exact ⟨j2 + 1, false, by omega, by go_num, rfl, Lib.hid (fun h => by have := hC0.out h; cases this), step.out false id (fun _ _ h => absurd h Q3.out), Lib.hid (hBq.out.alloc zq _)⟩
                  case measure => simp [intOf]; omega
              · have q2b : (y.k == 0) = false := by simpa using q2
                have q2c : decide (y.k = 0) = false := decide_eq_false q2
                have Q2 := Lib.hid q2
                clear q1
                go_wp2_with fail
                go_roundw
                case rel => exact ⟨j2 + 1, false, by omega, by go_num, rfl, Lib.hid (fun h => by have := hC0.out h; cases this), step.out false id (fun _ h _ => absurd h Q2.out), Lib.hid (hBq.out.alloc zq _)⟩
                case measure => simp [intOf]; omega
            · have q1b : (y.o == 0) = false := by simpa using q1
              have q1c : decide (y.o = 0) = false := decide_eq_false q1
              have Q1 := Lib.hid q1
              go_wp2_with fail
              go_roundw
              case rel => exact ⟨j2 + 1, false, by omega, by go_num, rfl, Lib.hid (fun h => by have := hC0.out h; cases this), step.out false id (fun h _ _ => absurd h Q1.out), Lib.hid (hBq.out.alloc zq _)⟩
              case measure => simp [intOf]; omega
        · have hce : c = true := by
            cases bs with
            | false => exact hC0.out rfl
            | true =>
              obtain ⟨hdD, hex⟩ := hD.out rfl
              obtain ⟨k, x, y, h1, h2, h3, h4, h5⟩ := HAG.out.prop hex
              exact hCm.out k x y (by have := (List.getElem?_eq_some_iff.1 h1).1; omega) h1 h2 h3 h4 (by rw [h5, hdD])
          subst hce
          have hjn2 : ¬ (j2 : Int) < (R.evs.length : Int) := by omega
          go_wp2_with fail
          refine (both_any _).mono ?_
          rintro e w4 ⟨rfl, hb4⟩
          have HB5 : Hid (Below w.heap.size w w4) := Lib.hid ((HB3.out.trans (hBq.out.mono HB3.out.size)).trans (hb4.mono (by have := HB3.out.size; omega)))
          clear hb4
          go_wp2_with fail
          go_ret
          exact ⟨rfl, HB5.out⟩
end Go.Proofs.Ytjbadkfnpgchdaa
