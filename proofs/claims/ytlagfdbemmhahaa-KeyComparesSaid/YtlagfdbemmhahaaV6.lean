/- Walk of the reference's Before. -/
import Derived.Test.YtlagfdbemmhahaaV5
namespace Go.Proofs.Ytlagfdbemmhahaa
open Go.RowKit

/-- a call that only draws keeps what holds whatever is drawn -/
theorem call_quiet {P : Program} {f : FuncId} {args : Array Value} {W : World} {v : Value} {p : World → Prop} (hp : ∀ m, p (W.drewN m)) (c : Calls P f args W fun e w' => e = .returned v ∧ ∃ m, w' = W.drewN m) :
    Calls P f args W fun e w' => e = .returned v ∧ p w' := c.mono fun _ _ ⟨he, m, hm⟩ => ⟨he, hm ▸ hp m⟩

theorem ltB_ahead {ls : List (List Int)} {k i : Nat} (h : aheadB (atK ls k) (atK ls i) = true) : ltB ls k i = true :=
  (ltB_iff ls k i).2 (.inl (of_decide_eq_true h))
theorem ltB_behind {ls : List (List Int)} {k i : Nat} (h : aheadB (atK ls k) (atK ls i) = false) (h2 : ¬ k < i) : ltB ls k i = false := by
  have h := of_decide_eq_false h
  rw [Bool.eq_false_iff, ne_eq, ltB_iff]; omega
theorem ltB_after {ls : List (List Int)} {k i : Nat} (h : aheadB (atK ls k) (atK ls i) = false) (h2 : aheadB (atK ls i) (atK ls k) = true) : ltB ls k i = false := by
  have h := of_decide_eq_false h
  have h2 := of_decide_eq_true h2
  have hn := cmpL_neg (atK ls i) (atK ls k)
  rw [Bool.eq_false_iff, ne_eq, ltB_iff]; omega
theorem ltB_same {ls : List (List Int)} {k i : Nat} (h : aheadB (atK ls k) (atK ls i) = false) (h1 : k < i) (h2 : aheadB (atK ls i) (atK ls k) = false) : ltB ls k i = true := by
  have h := of_decide_eq_false h
  have h2 := of_decide_eq_false h2
  have hn := cmpL_neg (atK ls i) (atK ls k)
  have ht := cmpL_three (atK ls i) (atK ls k)
  rw [ltB_iff]; omega
theorem cnt_yes {ls : List (List Int)} {i j : Nat} (h : ltB ls j i = true) : cntTo ls i (j + 1) = cntTo ls i j + 1 := by rw [cntTo_succ, if_pos h]
theorem cnt_no {ls : List (List Int)} {i j : Nat} (h : ltB ls j i = false) : cntTo ls i (j + 1) = cntTo ls i j := by rw [cntTo_succ, h]; rfl

set_option maxHeartbeats 1000000 in
theorem before_any (B b o c : Nat) (ls : List (List Int)) (i : Nat) (w : World) (hn : ls.length ≤ 9223372036854775807) (hi : i < ls.length) (hL : LCells w B b o ls) :
    Calls Try.prog 20 #[.slice (some ⟨b, o, none⟩) ls.length c, .int .i64 i] w fun e w' => e = .returned (.int .i64 (rank ls i)) ∧ ∃ m, w' = w.drewN m := by
  obtain ⟨ao2, b2, o2, c2, h21, h22, _, h24, h25⟩ := hL i _ (atK_get hi)
  have HL := Lib.hid hL
  have H22 := Lib.hid h22
  have H24 := Lib.hid h24
  have hi0 : (0 : Int) ≤ (i : Int) := Int.natCast_nonneg _
  have hi1 : (i : Int) < (ls.length : Int) := by omega
  clear hL h22 h24
  go_enter Try.func20, Try.ntmps20
  go_wp2
  go_loopw [5, 9] (fun n k wr => ∃ j m : Nat, j ≤ ls.length ∧ k = .int .i64 j ∧ n = .int .i64 (cntTo ls i j) ∧ wr = w.drewN m) (fun _ k _ => ls.length - (intOf k).toNat)
  case atStart => exact ⟨0, 0, Nat.zero_le _, rfl, rfl, rfl⟩
  case round =>
    obtain ⟨j, m, hj, rfl, rfl, rfl⟩ := hrel
    have hcl := cntTo_le ls i j
    by_cases hlt : j < ls.length
    · obtain ⟨ao1, b1, o1, c1, h11, h12, _, h14, h15⟩ := HL.out j _ (atK_get hlt)
      have hj0 : (0 : Int) ≤ (j : Int) := Int.natCast_nonneg _
      have hj1 : (j : Int) < (ls.length : Int) := by omega
      have HA := Lib.hid (fun q => ahead_any ao1 ao2 b1 o1 c1 b2 o2 c2 (atK ls j) (atK ls i) (w.drewN q) h15 h25 h12 H22.out h14 H24.out)
      have HB := Lib.hid (fun q => ahead_any ao2 ao1 b2 o2 c2 b1 o1 c1 (atK ls i) (atK ls j) (w.drewN q) h25 h15 H22.out h12 H24.out h14)
      clear h12 h14
      cases hA : aheadB (atK ls j) (atK ls i) with
      | true =>
        have hc := Lib.hid (cnt_yes (ltB_ahead hA))
        rw [hA] at HA
        clear hA
        go_wp2_with fail
        go_quiet ((go_at_call 15; (with_reducible refine call_quiet (fun q => ?_) (HA.out _)); exact ⟨_, by rw [World.drewN_drewN, Nat.add_assoc]⟩))
        go_wp2
        go_roundw
        case rel => exact ⟨j + 1, _, by omega, by go_num, by rw [hc.out]; go_num, rfl⟩
        case measure => simp [intOf]; omega
      | false =>
        rw [hA] at HA
        by_cases hji : j < i
        · cases hB : aheadB (atK ls i) (atK ls j) with
          | true =>
            have hc := Lib.hid (cnt_no (ltB_after hA hB))
            rw [hB] at HB
            clear hA hB
            have hdec : decide ((j : Int) < (i : Int)) = true := by simpa using hji
            go_wp2_with fail
            go_quiet ((go_at_call 15; first | ((with_reducible refine call_quiet (fun q => ?_) (HA.out _)); exact ⟨_, by rw [World.drewN_drewN, Nat.add_assoc]⟩) | ((with_reducible refine call_quiet (fun q => ?_) (HB.out _)); exact ⟨_, by rw [World.drewN_drewN, Nat.add_assoc]⟩)))
            go_wp2
            go_roundw
            case rel => exact ⟨j + 1, _, by omega, by go_num, by rw [hc.out], rfl⟩
            case measure => simp [intOf]; omega
          | false =>
            have hc := Lib.hid (cnt_yes (ltB_same hA hji hB))
            rw [hB] at HB
            clear hA hB
            have hdec : decide ((j : Int) < (i : Int)) = true := by simpa using hji
            go_wp2_with fail
            go_quiet ((go_at_call 15; first | ((with_reducible refine call_quiet (fun q => ?_) (HA.out _)); exact ⟨_, by rw [World.drewN_drewN, Nat.add_assoc]⟩) | ((with_reducible refine call_quiet (fun q => ?_) (HB.out _)); exact ⟨_, by rw [World.drewN_drewN, Nat.add_assoc]⟩)))
            go_wp2
            go_roundw
            case rel => exact ⟨j + 1, _, by omega, by go_num, by rw [hc.out]; go_num, rfl⟩
            case measure => simp [intOf]; omega
        · have hc := Lib.hid (cnt_no (ltB_behind hA hji))
          clear hA
          have hdec : decide ((j : Int) < (i : Int)) = false := by simpa using hji
          go_wp2_with fail
          go_quiet ((go_at_call 15; (with_reducible refine call_quiet (fun q => ?_) (HA.out _)); exact ⟨_, by rw [World.drewN_drewN, Nat.add_assoc]⟩))
          go_wp2
          go_roundw
          case rel => exact ⟨j + 1, _, by omega, by go_num, by rw [hc.out], rfl⟩
          case measure => simp [intOf]; omega
    · have : j = ls.length := by omega
      subst this
      go_wp2
      go_ret
      exact ⟨rfl, _, rfl⟩
end Go.Proofs.Ytlagfdbemmhahaa
