/- CutAt: the law. -/
import Derived.Test.YthacohejdpjjeaaCTL
import Derived.Test.YthacohejdpjjeaaMO
import Derived.Test.YthacohejdpjjeaaHQ
namespace Go.Proofs.Ythacohejdpjjeaa
open Go.RowKit Go.Lib Go.Sort
set_option linter.unusedVariables false
set_option linter.unusedSimpArgs false

set_option maxHeartbeats 4000000 in
set_option maxRecDepth 100000 in
theorem cat_any (n : Int) (sao : Option Addr) (na sc : Nat) (ao : Option Addr) (b o cap : Nat) (cs : List CallV) (pa : Option Addr) (pb po pc : Nat) (ps : List Int) (ea : Option Addr) (eb eo ec : Nat) (le : List (EvX × EvS)) (tick : Int) (w : World) (h : ScnAt w ao b o cs pa pb po ps ea eb eo le) (hsm : ∀ p ∈ le, EvSmall p.1) (htk : I63 tick) :
    Calls Try.prog 4 #[scnV n (.slice sao na sc) (.slice ao cs.length cap) (.slice pa ps.length pc), .slice ea le.length ec, .int .i64 tick] w fun e w' => e = .returned (.bool true) ∧ Below w.heap.size w w' := by
  have HSM := Lib.hid hsm
  have HTK0 := Lib.hid htk
  clear hsm htk
  obtain ⟨w0, hw0⟩ : ∃ w0, w.alloc (scnO n (.slice sao na sc) (.slice ao cs.length cap) (.slice pa ps.length pc)) = w0 := ⟨_, rfl⟩
  obtain ⟨bs, hbs⟩ : ∃ bs, w.heap.size = bs := ⟨_, rfl⟩
  have hR0 : RowBlk 26 w0 bs [.int .i64 n, .slice sao na sc, .slice ao cs.length cap, .slice pa ps.length pc] := by rw [← hw0, ← hbs]; exact RowBlk.new _ _ _
  have hB0 : Below w.heap.size w w0 := by rw [← hw0]; exact (Below.refl _ _).alloc (Nat.le_refl _) _
  have HAD : Hid (∀ W, Below w.heap.size w W → Calls Try.prog 7 #[] W fun e w' => e = .returned (.bool true) ∧ Below w.heap.size w w') := Lib.hid (fun W hW => (adds_any W).mono (fun e w' ⟨h1, h2⟩ => ⟨h1, hW.trans (h2.mono hW.size)⟩))
  have HM : Hid (∀ W, Below w.heap.size w W → Calls Try.prog 6 #[.agg #[.int .i64 n, .slice sao na sc, .slice ao cs.length cap, .slice pa ps.length pc], .slice ea le.length ec] W fun e w' => e = .returned (.bool (manyS na cs.length ps.length le.length)) ∧ Below W.heap.size W w') := Lib.hid (fun W hW => manyS_any n sao ao pa na sc cs.length cap ps.length pc ea le.length ec W)
  have HH := Lib.hid h
  have HR0 := Lib.hid hR0
  have HB0 := Lib.hid hB0
  have HW0 := Lib.hid hw0
  have HBS := Lib.hid hbs
  clear h hR0 hB0 hw0 hbs
  cases hmn : manyS na cs.length ps.length le.length with
  | true =>
    rw [hmn] at HM
    clear hmn
    have k0 := HR0.out.cell (i := 0) rfl
    have k1 := HR0.out.cell (i := 1) rfl
    have k2 := HR0.out.cell (i := 2) rfl
    have k3 := HR0.out.cell (i := 3) rfl
    go_enter Try.func4, Try.ntmps4
    go_upto_region 1 with fail
    rw [HW0.out, HBS.out]
    go_wp2_with fail
    refine (HM.out _ HB0.out).mono ?_
    rintro e w1 ⟨rfl, hb1⟩
    have HB1 := Lib.hid (HB0.out.trans (hb1.mono HB0.out.size))
    clear hb1
    go_wp2_with fail
    refine (HAD.out _ HB1.out).mono ?_
    rintro e w2 ⟨rfl, hb2⟩
    have HB2 := Lib.hid hb2
    clear hb2
    go_wp2_with fail
    go_ret
    exact ⟨rfl, HB2.out⟩
  | false =>
    rw [hmn] at HM
    obtain ⟨hcl, hll⟩ := manyS_no hmn
    clear hmn
    have k0 := HR0.out.cell (i := 0) rfl
    have k1 := HR0.out.cell (i := 1) rfl
    have k2 := HR0.out.cell (i := 2) rfl
    have k3 := HR0.out.cell (i := 3) rfl
    go_enter Try.func4, Try.ntmps4
    go_upto_region 1 with fail
    rw [HW0.out, HBS.out]
    go_wp2_with fail
    refine (HM.out _ HB0.out).mono ?_
    rintro e w1 ⟨rfl, hb1⟩
    have HB1 := Lib.hid (HB0.out.trans (hb1.mono HB0.out.size))
    have HR1 := Lib.hid (HR0.out.same (hb1.block bs HR0.out.lt))
    have HH1 := Lib.hid (HH.out.below HB1.out)
    clear hb1 k0 k1 k2 k3
    have k0 := HR1.out.cell (i := 0) rfl
    have k2 := HR1.out.cell (i := 2) rfl
    have k3 := HR1.out.cell (i := 3) rfl
    have HTK := Lib.hid (at_any n ao b o cap cs ea eb eo ec le pa pb po pc ps tick w1 HH1.out.c HH1.out.ca HH1.out.cb HH1.out.e (by omega) HH1.out.pa HH1.out.pb HH1.out.p HH1.out.pl HSM.out HTK0.out)
    go_wp2_with fail
    refine HTK.out.mono ?_
    rintro e w2 ⟨h2, h3, hb2⟩
    have HB2 := Lib.hid (HB1.out.trans (hb2.mono HB1.out.size))
    have HR2 := Lib.hid (HR1.out.same (hb2.block bs HR1.out.lt))
    have HH2 := Lib.hid (HH.out.below HB2.out)
    clear hb2 k0 k2 k3 HTK
    have k0 := HR2.out.cell (i := 0) rfl
    have k2 := HR2.out.cell (i := 2) rfl
    have k3 := HR2.out.cell (i := 3) rfl
    have HRW := Lib.hid (rwrongC_any n ao b o cap cs pa ps.length pc w2 (by omega) HH.out.pl HH2.out.c HH2.out.ca)
    by_cases hz : wrongC n (thr cs) ps.length = 0
    rotate_left
    · have h4 := h2 hz
      subst h4
      have hzi : ((wrongC n (thr cs) ps.length : Nat) : Int) ≠ 0 := by omega
      clear h2 h3
      generalize wrongC n (thr cs) ps.length = k at HRW hz hzi ⊢
      have hz2 : ((k : Int) == 0) = false := by rw [beq_eq_false_iff_ne]; exact hzi
      have hz3 : decide ((k : Int) = 0) = false := decide_eq_false hzi
      go_wp2_with fail
      refine HRW.out.mono ?_
      rintro e w3 ⟨rfl, rfl⟩
      go_wp2_with (go_at_call 7; refine (HAD.out _ HB2.out).mono ?_; rintro e w4 ⟨rfl, hb4⟩; (have HB4 := Lib.hid hb4); clear hb4)
      go_ret
      exact ⟨rfl, HB4.out⟩
    · obtain ⟨xa, xg, xo, xc, lx, rfl, hex, hsx, hlx⟩ := h3 hz
      have HPL : Hid (ps.length ≤ 65536 ∧ cs.length ≤ 1000) := Lib.hid (by
        have h3 := hz
        unfold wrongC at h3
        split at h3
        · omega
        · split at h3
          · omega
          · have := (wrongL_inv h3).2.1; rw [thr_len] at this; omega)
      rw [hz] at HRW
      have HEX := Lib.hid hex
      have HSX := Lib.hid hsx
      have HLX := Lib.hid hlx
      clear h2 h3 hz hex hsx hlx
      go_wp2_with fail
      refine HRW.out.mono ?_
      rintro e w3 ⟨rfl, rfl⟩
      have HRT := Lib.hid (rat_any ao b o cap cs ea eb eo ec le pa pb po pc ps tick w2 HH2.out.c HH2.out.ca HH2.out.cb HH2.out.e (by omega) HH2.out.pa HH2.out.pb HH2.out.p HPL.out.2 HPL.out.1 HSM.out HTK0.out)
      go_wp2_with fail
      refine HRT.out.mono ?_
      rintro e w4 ⟨ya, yg, yo, yc, ly, rfl, hey, hsy, hly, hb4⟩
      have hll2 : lx.length = ly.length := by rw [← exs_len lx, ← exs_len ly, HLX.out, hly]
      have hxy : exs lx = exs ly := by rw [HLX.out, hly]
      have hx100 : lx.length ≤ 100 := by
        rw [← exs_len lx, HLX.out]
        have := atGo_len tick ((ticksOf (thr cs) (exs le) ps).take (pastN tick (ticksOf (thr cs) (exs le) ps).length)) (exs le)
        rw [exs_len] at this
        unfold atOf
        omega
      have HEX4 := Lib.hid (HEX.out.below hb4)
      have HEY := Lib.hid hey
      have HSY := Lib.hid hsy
      have HXY := Lib.hid hxy
      have HB4 := Lib.hid (HB2.out.trans (hb4.mono HB2.out.size))
      have HLL := Lib.hid hll2
      rw [← hll2]
      clear hey hsy hly hb4 hll2 hxy k0 k2 k3 HRT HRW HEX
      go_wp2_with fail
      go_loopw [66] (fun k wr => ∃ j : Nat, j ≤ lx.length ∧ k = .int .i64 j ∧ Hid (Below w4.heap.size w4 wr)) (fun k _ => lx.length - (RowKit.intOf k).toNat)
      case atStart => exact ⟨0, Nat.zero_le _, rfl, Lib.hid (Below.refl _ _)⟩
      case round =>
        obtain ⟨j, hj, rfl, hB⟩ := hrel
        by_cases hlt : j < lx.length
        · have hlty : j < ly.length := by rw [← HLL.out]; exact hlt
          obtain rfl := HEX4.out.ea (by omega)
          obtain rfl := HEY.out.ea (by omega)
          obtain ⟨⟨x, s⟩, hp⟩ : ∃ p, lx[j]? = some p := ⟨lx[j], List.getElem?_eq_getElem hlt⟩
          obtain ⟨⟨y, t⟩, hq⟩ : ∃ p, ly[j]? = some p := ⟨ly[j], List.getElem?_eq_getElem hlty⟩
          obtain rfl : x = y := by
            have h1 := exs_get hp
            have h2 := exs_get hq
            rw [HXY.out, h2] at h1
            exact (Option.some.inj h1).symm
          have hEX := HEX4.out.below hB.out
          have hEY := HEY.out.below hB.out
          have hs1 := HSX.out _ (List.mem_of_getElem? hp)
          have hCM : Hid (∀ W, Below wr.heap.size wr W → Calls Try.prog 14 #[evV x s, evV x t] W fun e w' => e = .returned (.bool true) ∧ Below W.heap.size W w') := Lib.hid (fun W hW => by
            have hl : x.lw.length ≤ 4611686018427387904 ∧ x.kw.length ≤ 4611686018427387904 := by have h1 : x.lw.length ≤ 17592186044416 := hs1.1; have h2 : x.kw.length ≤ 17592186044416 := hs1.2; omega
            have := cmpE_any x x s t W (((hEX.ek _ (List.mem_of_getElem? hp)).2).below hW) (((hEY.ek _ (List.mem_of_getElem? hq)).2).below hW) ⟨hl, hl⟩
            rw [decide_eq_true rfl] at this
            exact this)
          obtain ⟨a0, a1, a2, a3, a4, a5, a6, a7⟩ := hEX.cells hp
          obtain ⟨b0, b1, b2, b3, b4, b5, b6, b7⟩ := hEY.cells hq
          have hxg := hEX.eb (by omega)
          have hyg := hEY.eb (by omega)
          clear hp hq hEX hEY hs1
          obtain ⟨ca, iv, rs, st, er, vl, lw, kw⟩ := x
          obtain ⟨la, lb, lo, lc, ka, kb, ko, kc⟩ := s
          obtain ⟨la2, lb2, lo2, lc2, ka2, kb2, ko2, kc2⟩ := t
          dsimp only [evV] at *
          have cca0 : ∀ p : BW wr.heap.size wr, p.v.cell? ⟨xg, xo + j * 8, none⟩ = some (.int .i64 ca) := fun p => p.cell (show xg < wr.heap.size from hxg) a0
          have cca1 : ∀ p : BW wr.heap.size wr, p.v.cell? ⟨xg, xo + j * 8 + 1, none⟩ = some (.int .i64 iv) := fun p => p.cell (show xg < wr.heap.size from hxg) a1
          have cca2 : ∀ p : BW wr.heap.size wr, p.v.cell? ⟨xg, xo + j * 8 + 2, none⟩ = some (.int .i64 rs) := fun p => p.cell (show xg < wr.heap.size from hxg) a2
          have cca3 : ∀ p : BW wr.heap.size wr, p.v.cell? ⟨xg, xo + j * 8 + 3, none⟩ = some (.int .i64 st) := fun p => p.cell (show xg < wr.heap.size from hxg) a3
          have cca4 : ∀ p : BW wr.heap.size wr, p.v.cell? ⟨xg, xo + j * 8 + 4, none⟩ = some (.int .i64 er) := fun p => p.cell (show xg < wr.heap.size from hxg) a4
          have cca5 : ∀ p : BW wr.heap.size wr, p.v.cell? ⟨xg, xo + j * 8 + 5, none⟩ = some (.int .u64 (vl : Int)) := fun p => p.cell (show xg < wr.heap.size from hxg) a5
          have cca6 : ∀ p : BW wr.heap.size wr, p.v.cell? ⟨xg, xo + j * 8 + 6, none⟩ = some (.slice la lw.length lc) := fun p => p.cell (show xg < wr.heap.size from hxg) a6
          have cca7 : ∀ p : BW wr.heap.size wr, p.v.cell? ⟨xg, xo + j * 8 + 7, none⟩ = some (.slice ka kw.length kc) := fun p => p.cell (show xg < wr.heap.size from hxg) a7
          have ccb0 : ∀ p : BW wr.heap.size wr, p.v.cell? ⟨yg, yo + j * 8, none⟩ = some (.int .i64 ca) := fun p => p.cell (show yg < wr.heap.size from hyg) b0
          have ccb1 : ∀ p : BW wr.heap.size wr, p.v.cell? ⟨yg, yo + j * 8 + 1, none⟩ = some (.int .i64 iv) := fun p => p.cell (show yg < wr.heap.size from hyg) b1
          have ccb2 : ∀ p : BW wr.heap.size wr, p.v.cell? ⟨yg, yo + j * 8 + 2, none⟩ = some (.int .i64 rs) := fun p => p.cell (show yg < wr.heap.size from hyg) b2
          have ccb3 : ∀ p : BW wr.heap.size wr, p.v.cell? ⟨yg, yo + j * 8 + 3, none⟩ = some (.int .i64 st) := fun p => p.cell (show yg < wr.heap.size from hyg) b3
          have ccb4 : ∀ p : BW wr.heap.size wr, p.v.cell? ⟨yg, yo + j * 8 + 4, none⟩ = some (.int .i64 er) := fun p => p.cell (show yg < wr.heap.size from hyg) b4
          have ccb5 : ∀ p : BW wr.heap.size wr, p.v.cell? ⟨yg, yo + j * 8 + 5, none⟩ = some (.int .u64 (vl : Int)) := fun p => p.cell (show yg < wr.heap.size from hyg) b5
          have ccb6 : ∀ p : BW wr.heap.size wr, p.v.cell? ⟨yg, yo + j * 8 + 6, none⟩ = some (.slice la2 lw.length lc2) := fun p => p.cell (show yg < wr.heap.size from hyg) b6
          have ccb7 : ∀ p : BW wr.heap.size wr, p.v.cell? ⟨yg, yo + j * 8 + 7, none⟩ = some (.slice ka2 kw.length kc2) := fun p => p.cell (show yg < wr.heap.size from hyg) b7
          have hj1 : (j : Int) < (lx.length : Int) := by omega
          clear a0 a1 a2 a3 a4 a5 a6 a7 b0 b1 b2 b3 b4 b5 b6 b7
          go_upto_region 13 with fail
          refine wp_region_low (B := wr.heap.size) (w := wr) (by kernel_rfl) (by kernel_rfl) ?_
          repeat (go_big_quiet_step (first
            | (go_at_call 14; with_reducible exact low_call (hCM.out _ (BW.h _)) (Nat.le_refl _))))
          refine wpQuiet_nil ?_
          intro w5 hw'
          obtain ⟨pq, eq1⟩ := hw'
          have hb5 := pq.h
          rw [← eq1] at hb5
          have HB5 := Lib.hid (hB.out.trans (hb5.mono hB.out.size))
          clear eq1 hb5 cca0 cca1 cca2 cca3 cca4 cca5 cca6 cca7 ccb0 ccb1 ccb2 ccb3 ccb4 ccb5 ccb6 ccb7 hCM
          clear pq
          go_wp2_with fail
          go_roundw
          case rel => exact ⟨j + 1, by omega, by go_num, HB5⟩
          case measure => simp [RowKit.intOf]; omega
        · have hj2 : j = lx.length := by omega
          have HBr : Hid (Below w.heap.size w wr) := Lib.hid (HB4.out.trans (hB.out.mono HB4.out.size))
          subst hj2
          go_wp2_with fail
          refine (HAD.out _ HBr.out).mono ?_
          rintro e w5 ⟨rfl, hb5⟩
          have HB5 := Lib.hid hb5
          clear hb5
          go_wp2_with fail
          go_ret
          exact ⟨rfl, HB5.out⟩
end Go.Proofs.Ythacohejdpjjeaa
