/- Walks of the shares of bounds, and of the law StatShares. -/
import Derived.Test.YticaheiomidanaaGH
import Derived.Test.YticaheiomidanaaHO
import Derived.Test.YticaheiomidanaaK3
namespace Go.Proofs.Yticaheiomidanaa
open Go.RowKit
theorem infoF : (Try.prog.info? 44).map (fun i => (i.zero, i.size, i.bytes)) = some (some (.float .f64 0), 1, 8) := by kernel_rfl
/-- the bound of a call -/
def bd (most : List Int) (c : Int) : Int := if 0 ≤ c then (most[c.toNat]?).getD 0 else 0
theorem bd_low {most : List Int} {c : Int} (h : c < 0) : bd most c = 0 := if_neg (by omega)
theorem bd_high {most : List Int} {c : Int} (h : (most.length : Int) ≤ c) : bd most c = 0 := by
  unfold bd; rw [if_pos (by omega), List.getElem?_eq_none (by omega)]; rfl
theorem bd_mid {most : List Int} {n : Nat} {x : Int} (h : most[n]? = some x) : bd most (n : Int) = x := by
  unfold bd; rw [if_pos (by omega), Int.toNat_natCast, h]; rfl
def flV (z : Nat) : Value := .float .f64 z
/-- shares, one by one -/
def ShP (most : List Int) (l : List EvL) (zs : List Nat) : Prop := ∀ (i : Nat) (z : Nat), zs[i]? = some z → ∃ x, l[i]? = some x ∧ Quo (fof x.st) (fof (bd most x.ca)) z
theorem ShP.snoc {most : List Int} {l : List EvL} {zs : List Nat} {j z : Nat} {x : EvL} (h : ShP most l zs) (hj : zs.length = j) (hx : l[j]? = some x) (hq : Quo (fof x.st) (fof (bd most x.ca)) z) : ShP most l (zs ++ [z]) := by
  intro i y hy
  rcases Nat.lt_or_ge i zs.length with h1 | h1
  · rw [List.getElem?_append_left h1] at hy; exact h i y hy
  · have hi : i = zs.length := by
      have := (List.getElem?_eq_some_iff.1 hy).1
      simp at this; omega
    subst hi
    simp at hy
    subst hy
    exact ⟨x, by rw [hj]; exact hx, hq⟩

set_option maxHeartbeats 400000 in
theorem shares_any (am : Option Addr) (bm om cm : Nat) (most : List Int) (ao : Option Addr) (b o c : Nat) (l : List EvL) (w : World) (hm : most.length ≤ 9223372036854775807) (hl : l.length ≤ 1000)
    (ham : 0 < most.length → am = some ⟨bm, om, none⟩) (hbm : 0 < most.length → bm < w.heap.size) (hcm : ICells w bm om most)
    (ha : 0 < l.length → ao = some ⟨b, o, none⟩) (hb : 0 < l.length → b < w.heap.size) (hc : EvsAt w b o l) :
    Calls Try.prog 23 #[.slice am most.length cm, .slice ao l.length c] w fun e w' => ∃ v zs, e = .returned v ∧ w'.ownsRow w.heap.size 44 1 v l.length (zs.map flV) ∧ zs.length = l.length ∧ ShP most l zs ∧ Below w.heap.size w w' := by
  obtain ⟨iI, ia, ib, ic, id⟩ := info_parts infoF
  have HC := Lib.hid hc
  have HA := Lib.hid ha
  have HB := Lib.hid hb
  have HM := Lib.hid hcm
  have HMA := Lib.hid ham
  have HMB := Lib.hid hbm
  clear hc ha hb hcm ham hbm
  go_enter Try.func23, Try.ntmps23
  go_wp2
  go_loopw [5, 11] (fun v k wr => ∃ (j : Nat) (zs : List Nat), j ≤ l.length ∧ k = .int .i64 j ∧ Hid (zs.length = j) ∧ Hid (ShP most l zs) ∧
     wr.ownsRow w.heap.size 44 1 v j (zs.map flV) ∧ Below w.heap.size w wr) (fun _ k _ => l.length - (intOf k).toNat)
  case atStart => exact ⟨0, [], Nat.zero_le _, rfl, Lib.hid rfl, Lib.hid (fun i z h => by simp at h), World.ownsRow_nil _ _ _ _, Below.refl _ _⟩
  case round =>
    obtain ⟨j, zs, hj, rfl, hzl, hzs, hown, hbl⟩ := hrel
    have hsz := hbl.size
    by_cases hlt : j < l.length
    · obtain rfl := HA.out (by omega)
      obtain ⟨x, hx⟩ : ∃ x, l[j]? = some x := ⟨l[j], List.getElem?_eq_getElem (by omega)⟩
      obtain ⟨d0, d1, d2, d3, d4, d5, d6, d7⟩ := (HC.out.stays hbl HB.out).cells hx
      have hok := ((HC.out j x hx).2)
      have HX := Lib.hid hx
      clear hx
      have hbd : ∃ q, q = bd most x.ca := ⟨_, rfl⟩
      obtain ⟨q, hq⟩ := hbd
      by_cases h1 : x.ca < 0
      · have hq0 : q = 0 := by rw [hq, bd_low h1]
        subst hq0
        have HQ := Lib.hid hq
        clear hq
        go_wp2_with fail
        refine (ratio_any x.st 0 _).mono ?_
        rintro e w1 ⟨z, k1, rfl, hz, hw1⟩
        rw [show (0 : Int) = bd most x.ca from HQ.out] at hz
        have HZ := Lib.hid hz
        have hb1 : Below wr.heap.size wr w1 := by rw [hw1]; exact below_drewN ((Below.refl _ _).alloc (Nat.le_refl _) _) _
        have hown1 := owns_below hown hb1
        have hsz1 : w.heap.size ≤ w1.heap.size := (hbl.trans (hb1.mono hsz)).size
        have hbl1 := hbl.trans (hb1.mono hsz)
        clear hz hw1 hb1 hown hbl d0 d1 d2 d3 d4 d5 d6 d7
        go_wp2_with (at_builtin; refine append_new rfl _ _ 49 rfl w.heap.size 44 iI (.float .f64 0) 1 8 Try.underlying49 ia ib ic id rfl (by decide) (by decide) _ j _ rfl hown1 [flV z] rfl rfl rfl (by omega) hsz1 ?_)
        intro v1 w2 hown2 hbl2 _ _
        have hown3 : w2.ownsRow w.heap.size 44 1 v1 (j + 1) ((zs ++ [z]).map flV) := by rw [List.map_append]; exact hown2
        have hbl3 := hbl1.trans hbl2
        clear hown2 hown1 hbl1 hbl2
        go_wp2
        go_roundw
        case rel => exact ⟨j + 1, zs ++ [z], by omega, by go_num, Lib.hid (by rw [List.length_append, hzl.out]; rfl), Lib.hid (hzs.out.snoc hzl.out HX.out HZ.out), hown3, hbl3⟩
        case measure => simp [intOf]; omega
      · by_cases h2 : (most.length : Int) ≤ x.ca
        · have hq0 : q = 0 := by rw [hq, bd_high h2]
          subst hq0
          have HQ := Lib.hid hq
          clear hq
          go_wp2_with fail
          refine (ratio_any x.st 0 _).mono ?_
          rintro e w1 ⟨z, k1, rfl, hz, hw1⟩
          rw [show (0 : Int) = bd most x.ca from HQ.out] at hz
          have HZ := Lib.hid hz
          have hb1 : Below wr.heap.size wr w1 := by rw [hw1]; exact below_drewN ((Below.refl _ _).alloc (Nat.le_refl _) _) _
          have hown1 := owns_below hown hb1
          have hsz1 : w.heap.size ≤ w1.heap.size := (hbl.trans (hb1.mono hsz)).size
          have hbl1 := hbl.trans (hb1.mono hsz)
          clear hz hw1 hb1 hown hbl d0 d1 d2 d3 d4 d5 d6 d7
          go_wp2_with (at_builtin; refine append_new rfl _ _ 49 rfl w.heap.size 44 iI (.float .f64 0) 1 8 Try.underlying49 ia ib ic id rfl (by decide) (by decide) _ j _ rfl hown1 [flV z] rfl rfl rfl (by omega) hsz1 ?_)
          intro v1 w2 hown2 hbl2 _ _
          have hown3 : w2.ownsRow w.heap.size 44 1 v1 (j + 1) ((zs ++ [z]).map flV) := by rw [List.map_append]; exact hown2
          have hbl3 := hbl1.trans hbl2
          clear hown2 hown1 hbl1 hbl2
          go_wp2
          go_roundw
          case rel => exact ⟨j + 1, zs ++ [z], by omega, by go_num, Lib.hid (by rw [List.length_append, hzl.out]; rfl), Lib.hid (hzs.out.snoc hzl.out HX.out HZ.out), hown3, hbl3⟩
          case measure => simp [intOf]; omega
        · obtain ⟨n, hn⟩ : ∃ n : Nat, x.ca = n := ⟨x.ca.toNat, by omega⟩
          have hnl : n < most.length := by omega
          obtain rfl := HMA.out (by omega)
          obtain ⟨y, hy⟩ : ∃ y, most[n]? = some y := ⟨most[n], List.getElem?_eq_getElem hnl⟩
          obtain ⟨m1, _⟩ := (HM.out.stays hbl HMB.out) n y hy
          have hbw : bm < wr.heap.size := Nat.lt_of_lt_of_le (HMB.out (by omega)) hsz
          have m2 : (wr.alloc (.cells #[.int .i64 n, .int .i64 x.iv, .int .i64 x.rs, .int .i64 x.st, .int .i64 x.er, .int .u64 (x.vl : Int), .slice x.la x.nl x.cl, .slice x.ka x.nk x.ck] 59)).cell? ⟨bm, om + n, none⟩ = some (.int .i64 y) := by
            rw [World.cell?_alloc_past _ _ _ hbw]; exact m1
          have hq0 : q = y := by rw [hq, hn, bd_mid hy]
          subst hq0
          have HQ := Lib.hid hq
          clear hq hy
          go_wp2_with fail
          refine (ratio_any x.st q _).mono ?_
          rintro e w1 ⟨z, k1, rfl, hz, hw1⟩
          rw [HQ.out] at hz
          have HZ := Lib.hid hz
          have hb1 : Below wr.heap.size wr w1 := by rw [hw1]; exact below_drewN ((Below.refl _ _).alloc (Nat.le_refl _) _) _
          have hown1 := owns_below hown hb1
          have hsz1 : w.heap.size ≤ w1.heap.size := (hbl.trans (hb1.mono hsz)).size
          have hbl1 := hbl.trans (hb1.mono hsz)
          clear hz hw1 hb1 hown hbl d0 d1 d2 d3 d4 d5 d6 d7
          go_wp2_with (at_builtin; refine append_new rfl _ _ 49 rfl w.heap.size 44 iI (.float .f64 0) 1 8 Try.underlying49 ia ib ic id rfl (by decide) (by decide) _ j _ rfl hown1 [flV z] rfl rfl rfl (by omega) hsz1 ?_)
          intro v1 w2 hown2 hbl2 _ _
          have hown3 : w2.ownsRow w.heap.size 44 1 v1 (j + 1) ((zs ++ [z]).map flV) := by rw [List.map_append]; exact hown2
          have hbl3 := hbl1.trans hbl2
          clear hown2 hown1 hbl1 hbl2
          go_wp2
          go_roundw
          case rel => exact ⟨j + 1, zs ++ [z], by omega, by go_num, Lib.hid (by rw [List.length_append, hzl.out]; rfl), Lib.hid (hzs.out.snoc hzl.out HX.out HZ.out), hown3, hbl3⟩
          case measure => simp [intOf]; omega
    · have : j = l.length := by omega
      subst this
      go_wp2
      go_ret
      exact ⟨_, zs, rfl, hown, hzl.out, hzs.out, hbl⟩
end Go.Proofs.Yticaheiomidanaa
