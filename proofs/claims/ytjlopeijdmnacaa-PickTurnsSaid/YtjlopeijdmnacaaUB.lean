/- Walks of the laws PickTurns and PickRows. -/
import Derived.Test.YtjlopeijdmnacaaUA
namespace Go.Proofs.Ytjlopeijdmnacaa
open Go.RowKit

set_option maxRecDepth 100000 in
theorem pturns_long (n : Int) (a1 a2 a3 : Option Addr) (l1 c1 l2 c2 l3 c3 : Nat) (w : World) (h : 1100 < l1 ∨ 1100 < l2 ∨ (2000 < l3 ∧ l3 ≤ 65536)) :
    Calls Try.prog 4 #[.int .i64 n, .slice a1 l1 c1, .agg #[.slice a2 l2 c2, .slice a3 l3 c3]] w fun e w' => e = .returned (.bool true) ∧ Below w.heap.size w w' := by
  have hb0 : Below w.heap.size w (w.alloc (.cells #[.slice a2 l2 c2, .slice a3 l3 c3] 37)) := (Below.refl _ _).alloc (Nat.le_refl _) _
  go_enter Try.func4, Try.ntmps4
  by_cases h1 : 1100 < l1
  · go_wp2_with fail
    refine (pair_any _).mono ?_
    rintro e w1 ⟨rfl, hb⟩
    go_wp2_with fail
    go_ret
    exact ⟨rfl, hb0.trans (hb.mono hb0.size)⟩
  · by_cases h2 : 1100 < l2
    · go_wp2_with fail
      refine (pair_any _).mono ?_
      rintro e w1 ⟨rfl, hb⟩
      go_wp2_with fail
      go_ret
      exact ⟨rfl, hb0.trans (hb.mono hb0.size)⟩
    · have h3 : 2000 < l3 := by omega
      have h4 : l3 ≤ 65536 := by omega
      go_wp2_with fail
      refine (pair_any _).mono ?_
      rintro e w1 ⟨rfl, hb⟩
      go_wp2_with fail
      go_ret
      exact ⟨rfl, hb0.trans (hb.mono hb0.size)⟩

theorem nums_get {l : List Nat} {i x : Nat} (h : l[i]? = some x) : (nums l)[i]? = some (.int .i64 (x : Int)) := by unfold nums; rw [List.getElem?_map, h]; rfl

set_option maxRecDepth 100000 in
set_option maxHeartbeats 4000000 in
theorem pturns_walk (n : Int) (ao : Option Addr) (b o cap : Nat) (cs : List CallV) (ao2 : Option Addr) (b2 o2 cap2 : Nat) (need : List Int) (ao3 : Option Addr) (b3 o3 cap3 : Nat) (ps : List Int) (w : World)
    (hcl : cs.length ≤ 1100) (hnl : need.length ≤ 1100) (hpl : ps.length ≤ 2000 ∨ 65536 < ps.length) (hpm : ps.length ≤ 9223372036854775807)
    (ha : 0 < cs.length → ao = some ⟨b, o, none⟩) (hb : 0 < cs.length → b < w.heap.size) (hc : CallsAt w b o cs)
    (ha2 : 0 < need.length → ao2 = some ⟨b2, o2, none⟩) (hb2 : 0 < need.length → b2 < w.heap.size) (hc2 : ICells w b2 o2 need)
    (ha3 : 0 < ps.length → ao3 = some ⟨b3, o3, none⟩) (hb3 : 0 < ps.length → b3 < w.heap.size) (hc3 : ICells w b3 o3 ps) :
    Calls Try.prog 4 #[.int .i64 n, .slice ao cs.length cap, .agg #[.slice ao2 need.length cap2, .slice ao3 ps.length cap3]] w fun e w' => e = .returned (.bool true) ∧ Below w.heap.size w w' := by
  have hb0 : Below w.heap.size w (w.alloc (.cells #[.slice ao2 need.length cap2, .slice ao3 ps.length cap3] 37)) := (Below.refl _ _).alloc (Nat.le_refl _) _
  have k0 : (w.alloc (.cells #[.slice ao2 need.length cap2, .slice ao3 ps.length cap3] 37)).cell? ⟨w.heap.size, 0, none⟩ = some (.slice ao2 need.length cap2) := by rw [World.cell?_alloc_at _ _ _ _ rfl]; rfl
  have k1 : (w.alloc (.cells #[.slice ao2 need.length cap2, .slice ao3 ps.length cap3] 37)).cell? ⟨w.heap.size, 1, none⟩ = some (.slice ao3 ps.length cap3) := by rw [World.cell?_alloc_at _ _ _ _ rfl]; rfl
  have hs0 : w.heap.size < (w.alloc (.cells #[.slice ao2 need.length cap2, .slice ao3 ps.length cap3] 37)).heap.size := by simp
  have HA := Lib.hid ha
  have HB := Lib.hid hb
  have HC := Lib.hid hc
  have HA2 := Lib.hid ha2
  have HB2 := Lib.hid hb2
  have HC2 := Lib.hid hc2
  have HA3 := Lib.hid ha3
  have HB3 := Lib.hid hb3
  have HC3 := Lib.hid hc3
  have HPL := Lib.hid hpl
  clear hc ha hb hc2 ha2 hb2 ha3 hb3 hc3 hpl
  have hd1 : ¬ (2000 < ps.length ∧ ps.length ≤ 65536) := by have := HPL.out; omega
  have HTN := Lib.hid (turns_any n ao b o cap cs ao2 b2 o2 cap2 need ao3 b3 o3 cap3 ps (w.alloc (.cells #[.slice ao2 need.length cap2, .slice ao3 ps.length cap3] 37)) HA.out (fun h => by have := HB.out h; omega) (HC.out.stays hb0 HB.out)
    HA2.out (fun h => by have := HB2.out h; omega) (HC2.out.stays hb0 HB2.out) (by omega) HA3.out (fun h => by have := HB3.out h; omega) (HC3.out.stays hb0 HB3.out))
  have HB0 := Lib.hid hb0
  clear hb0
  go_enter Try.func4, Try.ntmps4
  by_cases hlong : 65536 < ps.length
  · have hl2 : 2000 < ps.length := by omega
    clear hd1
    go_wp2_with fail
    generalize w.alloc (.cells #[.slice ao2 need.length cap2, .slice ao3 ps.length cap3] 37) = w0 at HTN HB0 k0 k1 hs0 ⊢
    refine HTN.out.mono ?_
    rintro e w1 ⟨hw, hlg, hok, hb1⟩
    have HB1 := Lib.hid (HB0.out.trans (hb1.mono (by omega)))
    have hs1 := hb1.size
    have q0 : w1.cell? ⟨w.heap.size, 0, none⟩ = some (.slice ao2 need.length cap2) := (hb1.cell (p := ⟨w.heap.size, 0, none⟩) hs0).trans k0
    have q1 : w1.cell? ⟨w.heap.size, 1, none⟩ = some (.slice ao3 ps.length cap3) := (hb1.cell (p := ⟨w.heap.size, 1, none⟩) hs0).trans k1
    have HRW := Lib.hid (refWrong_any n ao b o cap cs w1 (by omega) HA.out (HC.out.stays HB1.out HB.out))
    clear hb1 k0 k1
    by_cases h0 : wrongL n (thr cs) = 0
    · have hk := hlg h0 hlong
      subst hk
      rw [h0] at HRW
      clear hw hlg hok h0
      go_wp2_with fail
      refine HRW.out.mono ?_
      rintro e w3 ⟨rfl, rfl⟩
      go_wp2_with fail
      refine (pair_any _).mono ?_
      rintro e w3 ⟨rfl, hb3⟩
      go_wp2_with fail
      go_ret
      exact ⟨rfl, HB1.out.trans (hb3.mono (by have := HB1.out.size; omega))⟩
    · have hk := hw h0
      subst hk
      have hcase := wrongL_cases n (thr cs)
      clear hw hlg hok
      rcases hcase with h1 | h1 | h1
      · exact absurd h1 h0
      all_goals
        rw [h1] at HRW ⊢
        clear h1 h0
        go_wp2_with fail
        refine HRW.out.mono ?_
        rintro e w3 ⟨rfl, rfl⟩
        go_wp2_with fail
        refine (pair_any _).mono ?_
        rintro e w3 ⟨rfl, hb3⟩
        go_wp2_with fail
        go_ret
        exact ⟨rfl, HB1.out.trans (hb3.mono (by have := HB1.out.size; omega))⟩
  · have hl2 : ps.length ≤ 2000 := by omega
    clear hd1
    go_wp2_with fail
    generalize w.alloc (.cells #[.slice ao2 need.length cap2, .slice ao3 ps.length cap3] 37) = w0 at HTN HB0 k0 k1 hs0 ⊢
    refine HTN.out.mono ?_
    rintro e w1 ⟨hw, hlg, hok, hb1⟩
    have HB1 := Lib.hid (HB0.out.trans (hb1.mono (by omega)))
    have hs1 := hb1.size
    have q0 : w1.cell? ⟨w.heap.size, 0, none⟩ = some (.slice ao2 need.length cap2) := (hb1.cell (p := ⟨w.heap.size, 0, none⟩) hs0).trans k0
    have q1 : w1.cell? ⟨w.heap.size, 1, none⟩ = some (.slice ao3 ps.length cap3) := (hb1.cell (p := ⟨w.heap.size, 1, none⟩) hs0).trans k1
    have HRW := Lib.hid (refWrong_any n ao b o cap cs w1 (by omega) HA.out (HC.out.stays HB1.out HB.out))
    clear hb1 k0 k1
    by_cases h0 : wrongL n (thr cs) = 0
    · obtain ⟨v, rfl, hown⟩ := hok h0 (by omega)
      rw [h0] at HRW
      obtain ⟨ao4, g, cap4, rfl, hao, hg, hgc⟩ := own_cells hown
      have hlen := turnsGo_len (thr cs) need ps (fin0 cs.length) (made0 cs.length)
      have HG := Lib.hid hgc
      have HAO := Lib.hid hao
      have HGG := Lib.hid hg
      have hcl2 : (turnsOf cs need ps).1.length ≤ 2000 := by unfold turnsOf; omega
      clear hw hlg hok h0 hown hgc hao hg hlen
      go_wp2_with fail
      refine HRW.out.mono ?_
      rintro e w3 ⟨rfl, rfl⟩
      go_wp2_with fail
      refine (refTurns_any ao b o cap cs ao2 b2 o2 cap2 need ao3 b3 o3 cap3 ps w1 (by omega) (by omega) HA.out (fun h => by have := HB.out h; omega) (HC.out.stays HB1.out HB.out)
        HA2.out (fun h => by have := HB2.out h; omega) (HC2.out.stays HB1.out HB2.out) (by omega) HA3.out (fun h => by have := HB3.out h; omega) (HC3.out.stays HB1.out HB3.out)).mono ?_
      rintro e w2 ⟨v2, rfl, hown2, hb2⟩
      obtain ⟨ao5, g5, cap5, rfl, hao5, hg5, hgc5⟩ := own_cells hown2
      have HG5 := Lib.hid hgc5
      have HAO5 := Lib.hid hao5
      have HG2 : Hid (∀ (i x : Nat), (turnsOf cs need ps).1[i]? = some x → w2.cell? ⟨g, i, none⟩ = some (.int .i64 (x : Int))) := Lib.hid (fun i x hx =>
        (hb2.cell (p := ⟨g, i, none⟩) (HGG.out (by have := (List.getElem?_eq_some_iff.1 hx).1; omega)).2).trans (HG.out i x hx))
      have HB2' : Hid (Below w.heap.size w w2) := Lib.hid (HB1.out.trans (hb2.mono (by have := HB1.out.size; omega)))
      have hs2 : w.heap.size ≤ w2.heap.size := HB2'.out.size
      clear hown2 hgc5 hao5 hg5 hb2 HG HGG
      generalize hT : (turnsOf cs need ps).1 = T at HG2 HG5 HAO HAO5 hcl2 ⊢
      generalize (turnsOf cs need ps).2 = T2 at *
      clear hT
      go_wp2_with fail
      go_loopw [100] (fun k wr => ∃ (j m : Nat), j ≤ T.length ∧ k = .int .i64 j ∧ wr = w2.drewN m) (fun k _ => T.length - (intOf k).toNat)
      case atStart => exact ⟨0, 0, Nat.zero_le _, rfl, rfl⟩
      case round =>
        obtain ⟨j, m, hj, rfl, rfl⟩ := hrel
        by_cases hlt : j < T.length
        · obtain rfl := HAO.out (by omega)
          obtain rfl := HAO5.out (by omega)
          obtain ⟨x, hx⟩ : ∃ x, T[j]? = some x := ⟨T[j], List.getElem?_eq_getElem (by omega)⟩
          have g1 := HG2.out j x hx
          have g2 := HG5.out j x hx
          have hi0 : (0 : Int) ≤ (j : Int) := Int.natCast_nonneg _
          have hi1 : (j : Int) < (T.length : Int) := by omega
          clear hx
          go_wp2_with fail
          go_quiet (fail)
          go_wp2
          go_roundw
          case rel => exact ⟨j + 1, _, by omega, by go_num, rfl⟩
          case measure => simp [intOf]; omega
        · go_wp2_with fail
          refine (pair_any _).mono ?_
          rintro e w3 ⟨rfl, hb3⟩
          go_wp2_with fail
          go_ret
          exact ⟨rfl, (below_drewN HB2'.out m).trans (hb3.mono (by show w.heap.size ≤ w2.heap.size; omega))⟩
    · have hk := hw h0
      subst hk
      have hcase := wrongL_cases n (thr cs)
      clear hw hlg hok
      rcases hcase with h1 | h1 | h1
      · exact absurd h1 h0
      all_goals
        rw [h1] at HRW ⊢
        clear h1 h0
        go_wp2_with fail
        refine HRW.out.mono ?_
        rintro e w3 ⟨rfl, rfl⟩
        go_wp2_with fail
        refine (pair_any _).mono ?_
        rintro e w3 ⟨rfl, hb3⟩
        go_wp2_with fail
        go_ret
        exact ⟨rfl, HB1.out.trans (hb3.mono (by have := HB1.out.size; omega))⟩
end Go.Proofs.Ytjlopeijdmnacaa
