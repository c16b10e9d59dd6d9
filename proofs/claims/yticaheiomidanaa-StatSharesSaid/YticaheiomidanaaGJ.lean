/- Walk of the law StatShares. -/
import Derived.Test.YticaheiomidanaaGI
import Derived.Deep.RegionHeld3
namespace Go.Proofs.Yticaheiomidanaa
open Go.RowKit

set_option maxHeartbeats 1000000 in
theorem shares_walk (am : Option Addr) (bm om cm : Nat) (most : List Int) (ao : Option Addr) (b o c : Nat) (l : List EvL) (w : World) (hm : most.length ≤ 9223372036854775807) (hl : l.length ≤ 9223372036854775807)
    (ham : 0 < most.length → am = some ⟨bm, om, none⟩) (hbm : 0 < most.length → bm < w.heap.size) (hcm : ICells w bm om most)
    (ha : 0 < l.length → ao = some ⟨b, o, none⟩) (hb : 0 < l.length → b < w.heap.size) (hc : EvsAt w b o l) :
    Calls Try.prog 8 #[.slice am most.length cm, .slice ao l.length c] w fun e w' => e = .returned (.bool true) ∧ Below w.heap.size w w' := by
  have HC := Lib.hid hc
  have HA := Lib.hid ha
  have HB := Lib.hid hb
  have HM := Lib.hid hcm
  have HMA := Lib.hid ham
  have HMB := Lib.hid hbm
  clear hc ha hb hcm ham hbm
  by_cases hlong : 1000 < l.length
  · go_enter Try.func8, Try.ntmps8
    go_wp2_with fail
    refine (known_any _).mono ?_
    rintro e w' ⟨rfl, hb⟩
    go_wp2_with fail
    go_ret
    exact ⟨rfl, hb⟩
  · have HS := Lib.hid (shares_any am bm om cm most ao b o c l w hm (by omega) HMA.out HMB.out HM.out HA.out HB.out HC.out)
    have hcv := run_fof
    go_enter Try.func8, Try.ntmps8
    go_wp2_with fail
    refine HS.out.mono ?_
    rintro e w1 ⟨v, zs, rfl, hown, hzl, hzs, hb1⟩
    obtain ⟨av, gv, cv, rfl, hav, hgv, hgl, hvc⟩ := owns_open hown
    have HZL := Lib.hid hzl
    have HZS := Lib.hid hzs
    have HAV := Lib.hid hav
    have HGL := Lib.hid hgl
    have HVC := Lib.hid hvc
    have HB1 := Lib.hid hb1
    clear HS hown hzl hzs hav hgv hgl hvc hb1
    go_wp2
    go_loopw [22] (fun k wr => ∃ (j n : Nat), j ≤ l.length ∧ k = .int .i64 j ∧ wr = w1.drewN n) (fun k _ => l.length - (intOf k).toNat)
    case atStart => exact ⟨0, 0, Nat.zero_le _, rfl, rfl⟩
    case round =>
      obtain ⟨j, n, hj, rfl, rfl⟩ := hrel
      by_cases hlt : j < l.length
      · obtain rfl := HA.out (by omega)
        obtain rfl := HAV.out (by omega)
        obtain ⟨x, hx⟩ : ∃ x, l[j]? = some x := ⟨l[j], List.getElem?_eq_getElem (by omega)⟩
        obtain ⟨d0, d1, d2, d3, d4, d5, d6, d7⟩ := (HC.out.stays HB1.out HB.out).cells hx
        obtain ⟨z, hz⟩ : ∃ z, zs[j]? = some z := ⟨zs[j]'(by rw [HZL.out]; exact hlt), List.getElem?_eq_getElem (by rw [HZL.out]; exact hlt)⟩
        have hcz : w1.cell? ⟨gv, j, none⟩ = some (.float .f64 z) := HVC.out j _ (by rw [List.getElem?_map, hz]; rfl)
        obtain ⟨x', hx', hq⟩ := HZS.out j z hz
        rw [hx, Option.some.injEq] at hx'
        subst hx'
        have HQ := Lib.hid hq
        clear hx hz hq d1 d2 d4 d5 d6 d7
        by_cases h1 : x.ca < 0
        · rw [bd_low h1] at HQ
          cases hdv : fD.div (fof x.st) (fof 0) with
          | some r =>
            have hq := fun v => run_float_arith (P := Try.prog) v .quo 44 .f64 _ _ _ hdv
            have HAL := Lib.hid (show alikeB z r = true by rw [quo_some hdv HQ.out]; exact alike_self _)
            clear hdv
            go_wp2
            go_region_held3 (fun w' => w'.cell? ⟨gv, j, none⟩ = some (.float .f64 z) ∧ w'.cell? ⟨b, o + j * 8 + 3, none⟩ = some (.int .i64 x.st))
              (first | exact ⟨hcz, d3⟩ | go_keep)
              (first
                | (go_at_call 18; refine (same_any _ _ _).mono ?_; rw [HAL.out]; rintro e w3 ⟨rfl, rfl⟩)
                | fail)
            go_wp2
            go_roundw
            case rel => exact ⟨j + 1, _, by omega, by go_num, rfl⟩
            case measure => simp [intOf]; omega
          | none =>
            have hq := fun v => run_quo (P := Try.prog) v 44 (fof x.st) (fof 0)
            clear hdv
            go_wp2
            go_region_with
              (first | (go_at_call 18; refine (same_any _ _ _).mono ?_; rw [quo_alike HQ.out (quo_qv _ _ _)]; rintro e w3 ⟨rfl, rfl⟩))
            all_goals (
              go_wp2
              go_roundw
              case rel => exact ⟨j + 1, _, by omega, by go_num, rfl⟩
              case measure => simp [intOf]; omega)
        · by_cases h2 : (most.length : Int) ≤ x.ca
          · rw [bd_high h2] at HQ
            cases hdv : fD.div (fof x.st) (fof 0) with
            | some r =>
              have hq := fun v => run_float_arith (P := Try.prog) v .quo 44 .f64 _ _ _ hdv
              have HAL := Lib.hid (show alikeB z r = true by rw [quo_some hdv HQ.out]; exact alike_self _)
              clear hdv
              go_wp2
              go_region_held3 (fun w' => w'.cell? ⟨gv, j, none⟩ = some (.float .f64 z) ∧ w'.cell? ⟨b, o + j * 8 + 3, none⟩ = some (.int .i64 x.st))
                (first | exact ⟨hcz, d3⟩ | go_keep)
                (first
                  | (go_at_call 18; refine (same_any _ _ _).mono ?_; rw [HAL.out]; rintro e w3 ⟨rfl, rfl⟩)
                  | fail)
              go_wp2
              go_roundw
              case rel => exact ⟨j + 1, _, by omega, by go_num, rfl⟩
              case measure => simp [intOf]; omega
            | none =>
              have hq := fun v => run_quo (P := Try.prog) v 44 (fof x.st) (fof 0)
              clear hdv
              go_wp2
              go_region_with
                (first | (go_at_call 18; refine (same_any _ _ _).mono ?_; rw [quo_alike HQ.out (quo_qv _ _ _)]; rintro e w3 ⟨rfl, rfl⟩))
              all_goals (
                go_wp2
                go_roundw
                case rel => exact ⟨j + 1, _, by omega, by go_num, rfl⟩
                case measure => simp [intOf]; omega)
          · obtain ⟨i, hi⟩ : ∃ i : Nat, x.ca = i := ⟨x.ca.toNat, by omega⟩
            have hil : i < most.length := by omega
            obtain rfl := HMA.out (by omega)
            obtain ⟨y, hy⟩ : ∃ y, most[i]? = some y := ⟨most[i], List.getElem?_eq_getElem hil⟩
            obtain ⟨m1, _⟩ := (HM.out.stays HB1.out HMB.out) i y hy
            rw [hi, bd_mid hy] at HQ
            clear hy
            cases hdv : fD.div (fof x.st) (fof y) with
            | some r =>
              have hq := fun v => run_float_arith (P := Try.prog) v .quo 44 .f64 _ _ _ hdv
              have HAL := Lib.hid (show alikeB z r = true by rw [quo_some hdv HQ.out]; exact alike_self _)
              clear hdv
              go_wp2
              go_region_held3 (fun w' => w'.cell? ⟨gv, j, none⟩ = some (.float .f64 z) ∧ w'.cell? ⟨b, o + j * 8 + 3, none⟩ = some (.int .i64 x.st))
                (first | exact ⟨hcz, d3⟩ | go_keep)
                (first
                  | (go_at_call 18; refine (same_any _ _ _).mono ?_; rw [HAL.out]; rintro e w3 ⟨rfl, rfl⟩)
                  | fail)
              go_wp2
              go_roundw
              case rel => exact ⟨j + 1, _, by omega, by go_num, rfl⟩
              case measure => simp [intOf]; omega
            | none =>
              have hq := fun v => run_quo (P := Try.prog) v 44 (fof x.st) (fof y)
              clear hdv
              go_wp2
              go_region_with
                (first | (go_at_call 18; refine (same_any _ _ _).mono ?_; rw [quo_alike HQ.out (quo_qv _ _ _)]; rintro e w3 ⟨rfl, rfl⟩))
              all_goals (
                go_wp2
                go_roundw
                case rel => exact ⟨j + 1, _, by omega, by go_num, rfl⟩
                case measure => simp [intOf]; omega)
      · have : j = l.length := by omega
        subst this
        have HBD : Hid (Below w.heap.size w (w1.drewN n)) := Lib.hid (below_drewN HB1.out _)
        have HSZ : Hid (w.heap.size ≤ (w1.drewN n).heap.size) := Lib.hid HBD.out.size
        go_wp2_with fail
        refine (known_any _).mono ?_
        rintro e w5 ⟨rfl, hb5⟩
        have hb6 : Below w.heap.size w w5 := HBD.out.trans (hb5.mono HSZ.out)
        go_wp2_with fail
        go_ret
        exact ⟨rfl, hb6⟩
end Go.Proofs.Yticaheiomidanaa
