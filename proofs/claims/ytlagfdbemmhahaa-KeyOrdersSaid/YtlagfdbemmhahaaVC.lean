/- Walk of the law KeyOrders. -/
import Derived.Test.YtlagfdbemmhahaaV9
namespace Go.Proofs.Ytlagfdbemmhahaa
open Go.RowKit

theorem cntTo_lt (ls : List (List Int)) (i j : Nat) (h : i < j) : cntTo ls i j < j := by
  induction j with
  | zero => omega
  | succ j ih =>
    by_cases hij : i = j
    · subst hij
      rw [cnt_no (ltB_irrefl ls i)]
      have := cntTo_le ls i i
      omega
    · have := ih (by omega)
      rw [cntTo_succ]
      split <;> omega

set_option maxHeartbeats 1000000 in
theorem orders_walk (ao : Option Addr) (b o c : Nat) (ls : List (List Int)) (w : World) (hn : ls.length ≤ 9223372036854775807) (ha : 0 < ls.length → ao = some ⟨b, o, none⟩) (hb : 0 < ls.length → b < w.heap.size) (hL : LCells w w.heap.size b o ls) :
    Calls Try.prog 6 #[.slice ao ls.length c] w fun e w' => e = .returned (.bool true) ∧ Below w.heap.size w w' := by
  have HA := Lib.hid ha
  have HB := Lib.hid hb
  have HL := Lib.hid hL
  clear ha hb hL
  by_cases hlong : 100 < ls.length
  · go_enter Try.func6, Try.ntmps6
    go_wp2_with (go_at_call 14; refine (known_any _).mono ?_; rintro e w' ⟨rfl, hb⟩)
    go_ret
    exact ⟨rfl, hb⟩
  · have HO := Lib.hid (order_any ao b o c ls w (by omega) HA.out HB.out HL.out)
    go_enter Try.func6, Try.ntmps6
    go_wp2_with fail
    go_loop [13] (fun k => ∃ j : Nat, j ≤ ls.length ∧ k = .int .i64 j) (fun k => ls.length - (intOf k).toNat)
    case atStart => exact ⟨0, Nat.zero_le _, rfl⟩
    case round =>
      obtain ⟨j, hj, rfl⟩ := hrel
      by_cases hlt : j < ls.length
      · obtain rfl := HA.out (by omega)
        obtain ⟨ao1, b1, o1, c1, h11, _, _, _, h15⟩ := HL.out j _ (atK_get hlt)
        by_cases hl2 : 100 < (atK ls j).length
        · go_wp2_with (go_at_call 14; refine (known_any _).mono ?_; rintro e w' ⟨rfl, hb⟩)
          go_ret
          exact ⟨rfl, hb⟩
        · go_wp2_with fail
          go_round
          case rel => exact ⟨j + 1, by omega, by go_num⟩
          case measure => simp [intOf]; omega
      · go_wp2_with fail
        refine HO.out.mono ?_
        rintro e w1 ⟨g, cap, rfl, h2, h3, h4⟩
        have H2 := Lib.hid h2
        have HL2 := Lib.hid (HL.out.stays h4 HB.out)
        clear h2
        go_wp2_with fail
        go_loopw [33] (fun k wr => ∃ i m : Nat, i ≤ ls.length ∧ k = .int .i64 i ∧ wr = w1.drewN m) (fun k _ => ls.length - (intOf k).toNat)
        case atStart => exact ⟨0, 0, Nat.zero_le _, rfl, rfl⟩
        case round =>
          obtain ⟨i, m, hi, rfl, rfl⟩ := hrel
          by_cases hlt2 : i < ls.length
          · obtain rfl := HA.out (by omega)
            have HBF := Lib.hid (before_any w.heap.size b o c ls i (w1.drewN m) hn hlt2 HL2.out)
            have d1 := H2.out i hlt2
            have hr : rank ls i < ls.length := cntTo_lt ls i _ hlt2
            generalize rank ls i = r at HBF d1 hr
            go_wp2_with fail
            refine HBF.out.mono ?_
            rintro e w2 ⟨rfl, m2, rfl⟩
            go_wp2_with fail
            go_roundw
            case rel => exact ⟨i + 1, _, by omega, by go_num, rfl⟩
            case measure => simp [intOf]; omega
          · go_wp2_with (go_at_call 14; refine (known_any _).mono ?_; rintro e w' ⟨rfl, hb⟩)
            go_ret
            exact ⟨rfl, h4.trans (((below_drewN (Below.refl _ _) m).trans hb).mono h4.size)⟩
end Go.Proofs.Ytlagfdbemmhahaa
