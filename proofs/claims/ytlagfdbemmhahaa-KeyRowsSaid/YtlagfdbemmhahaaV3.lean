/- Walks of keys: the reference's Ahead, and both Within. -/
import Derived.Test.YtlagfdbemmhahaaV2
import Derived.Deep.QuietTactic
import Derived.BigQuiet
import Derived.IntWalk
namespace Go.Proofs.Ytlagfdbemmhahaa
open Go.RowKit

set_option maxHeartbeats 800000 in
theorem ahead_any (ao1 ao2 : Option Addr) (b1 o1 c1 b2 o2 c2 : Nat) (l k : List Int) (w : World) (hl : l.length ≤ 9223372036854775807) (hk : k.length ≤ 9223372036854775807)
    (ha1 : 0 < l.length → ao1 = some ⟨b1, o1, none⟩) (ha2 : 0 < k.length → ao2 = some ⟨b2, o2, none⟩) (hc1 : ICells w b1 o1 l) (hc2 : ICells w b2 o2 k) :
    Calls Try.prog 15 #[.slice ao1 l.length c1, .slice ao2 k.length c2] w fun e w' => e = .returned (.bool (aheadB l k)) ∧ ∃ m, w' = w.drewN m := by
  have HA1 := Lib.hid ha1
  have HA2 := Lib.hid ha2
  have HC1 := Lib.hid hc1
  have HC2 := Lib.hid hc2
  clear ha1 ha2 hc1 hc2
  go_enter Try.func15, Try.ntmps15
  go_wp2
  go_loopw [5] (fun i wr => ∃ j m : Nat, j ≤ l.length ∧ j ≤ k.length ∧ i = .int .i64 j ∧ Hid (cmpL (l.drop j) (k.drop j) = cmpL l k) ∧ wr = w.drewN m) (fun i _ => l.length - (intOf i).toNat)
  case atStart => exact ⟨0, 0, Nat.zero_le _, Nat.zero_le _, rfl, Lib.hid rfl, rfl⟩
  case round =>
    obtain ⟨j, m, hj, hj2, rfl, hp, rfl⟩ := hrel
    by_cases hlt : j < l.length
    · by_cases hlt2 : j < k.length
      · obtain rfl := HA1.out (by omega)
        obtain rfl := HA2.out (by omega)
        obtain ⟨x, hx⟩ : ∃ x, l[j]? = some x := ⟨l[j], List.getElem?_eq_getElem hlt⟩
        obtain ⟨d1, _⟩ := HC1.out j _ hx
        have hd1 := Lib.hid (drop_cons hx)
        obtain ⟨y, hy⟩ : ∃ y, k[j]? = some y := ⟨k[j], List.getElem?_eq_getElem hlt2⟩
        obtain ⟨d2, _⟩ := HC2.out j _ hy
        have hd2 := Lib.hid (drop_cons hy)
        clear hx hy
        rcases Int.lt_trichotomy x y with h | h | h
        · have hres : Hid (aheadB l k = true) := Lib.hid (aheadB_yes (by rw [← hp.out, hd1.out, hd2.out]; exact cmpL_lt h))
          have hne : (x == y) = false := by simp; omega
          have hdec : decide (x < y) = true := by simpa using h
          go_wp2_with fail
          go_quiet (fail)
          go_wp2
          go_quiet (fail)
          go_wp2
          go_ret
          rw [hres.out]
          exact ⟨rfl, _, by rw [World.drewN_drewN, World.drewN_drewN]⟩
        · subst h
          have hN : Hid (cmpL (l.drop (j + 1)) (k.drop (j + 1)) = cmpL l k) := Lib.hid (by rw [← hp.out, hd1.out, hd2.out, cmpL_eq])
          go_wp2_with fail
          go_quiet (fail)
          go_wp2
          go_roundw
          case rel => exact ⟨j + 1, _, by omega, by omega, by go_num, hN, rfl⟩
          case measure => simp [intOf]; omega
        · have hres : Hid (aheadB l k = false) := Lib.hid (aheadB_no (by rw [← hp.out, hd1.out, hd2.out, cmpL_gt h]; decide))
          have hne : (x == y) = false := by simp; omega
          have hdec : decide (x < y) = false := by simp; omega
          go_wp2_with fail
          go_quiet (fail)
          go_wp2
          go_quiet (fail)
          go_wp2
          go_ret
          rw [hres.out]
          exact ⟨rfl, _, by rw [World.drewN_drewN, World.drewN_drewN]⟩
      · have hres : Hid (aheadB l k = false) := Lib.hid (aheadB_no (by
          have e : k.drop j = [] := List.drop_eq_nil_of_le (by omega)
          rw [← hp.out, e]
          cases h : l.drop j with
          | nil => decide
          | cons y t => show (1 : Int) ≠ -1; decide))
        have hle : ¬ (l.length < k.length) := by omega
        go_wp2_with fail
        go_ret
        rw [hres.out]
        exact ⟨ret_bool (by simp <;> omega), _, rfl⟩
    · have e1 : l.drop j = [] := List.drop_eq_nil_of_le (by omega)
      by_cases hlt2 : l.length < k.length
      · have hres : Hid (aheadB l k = true) := Lib.hid (aheadB_yes (by
          rw [← hp.out, e1]
          cases h : k.drop j with
          | nil => have := congrArg List.length h; rw [List.length_drop, List.length_nil] at this; omega
          | cons y t => rfl))
        clear e1
        go_wp2_with fail
        go_ret
        rw [hres.out]
        exact ⟨ret_bool (by simp <;> omega), _, rfl⟩
      · have hres : Hid (aheadB l k = false) := Lib.hid (aheadB_no (by
          have : k.drop j = [] := List.drop_eq_nil_of_le (by omega)
          rw [← hp.out, e1, this]; decide))
        clear e1
        go_wp2_with fail
        go_ret
        rw [hres.out]
        exact ⟨ret_bool (by simp <;> omega), _, rfl⟩

theorem withinB_neg {x : Int} {l : List Int} {inv resp : Int} (h : x < 0) : withinB (x :: l) inv resp = false := by
  unfold withinB; simp; intro h2; omega
theorem withinB_nat {x : Nat} {l : List Int} {inv resp : Int} : withinB ((x : Int) :: l) inv resp = (decide (inv ≤ (x : Int) / 2) && (decide (resp = 0) || decide ((x : Int) / 2 + (x : Int) % 2 ≤ resp))) := by
  unfold withinB; simp

set_option maxHeartbeats 800000 in
theorem within_any (ao : Option Addr) (b o c : Nat) (l : List Int) (inv resp : Int) (w : World) (hl : l.length ≤ 9223372036854775807)
    (ha : 0 < l.length → ao = some ⟨b, o, none⟩) (hc : ICells w b o l) :
    Calls Try.prog 17 #[.slice ao l.length c, .int .i64 inv, .int .i64 resp] w fun e w' => e = .returned (.bool (withinB l inv resp)) ∧ ∃ m, w' = w.drewN m := by
  cases l with
  | nil =>
    go_enter Try.func17, Try.ntmps17
    go_wp2_with fail
    go_ret
    exact ⟨rfl, 0, rfl⟩
  | cons x l =>
    obtain rfl := ha (by simp)
    obtain ⟨c1, hx⟩ := hc 0 x rfl
    rw [Nat.add_zero] at c1
    have hn : 0 < (x :: l).length := by simp
    have hz : ((x :: l).length == 0) = false := by simp
    clear hc ha
    generalize hL : (x :: l).length = n at hn hz hl
    by_cases h0 : x < 0
    · rw [withinB_neg h0]
      clear hL
      go_enter Try.func17, Try.ntmps17
      go_wp2_with fail
      go_ret
      exact ⟨rfl, 0, rfl⟩
    · obtain ⟨x, rfl⟩ : ∃ t : Nat, x = t := ⟨x.toNat, by omega⟩
      rw [withinB_nat]
      clear hL
      have e1 : (x : Int).tdiv 2 = (x : Int) / 2 := Int.tdiv_eq_ediv_of_nonneg (by omega)
      have e2 : (x : Int).tmod 2 = (x : Int) % 2 := Int.tmod_eq_emod_of_nonneg (by omega)
      go_enter Try.func17, Try.ntmps17
      go_wp2_with fail
      go_quiet (fail)
      go_wp2
      all_goals go_ret
      all_goals refine ⟨ret_bool ?_, _, rfl⟩
      all_goals (rw [Bool.eq_iff_iff]; simp; omega)

set_option maxHeartbeats 800000 in
theorem rwithin_any (ao : Option Addr) (b o c : Nat) (l : List Int) (inv resp : Int) (w : World) (hl : l.length ≤ 9223372036854775807)
    (ha : 0 < l.length → ao = some ⟨b, o, none⟩) (hc : ICells w b o l) :
    Calls Try.prog 18 #[.slice ao l.length c, .int .i64 inv, .int .i64 resp] w fun e w' => e = .returned (.bool (withinB l inv resp)) ∧ ∃ m, w' = w.drewN m := by
  cases l with
  | nil =>
    go_enter Try.func18, Try.ntmps18
    go_wp2_with fail
    go_ret
    exact ⟨rfl, 0, rfl⟩
  | cons x l =>
    obtain rfl := ha (by simp)
    obtain ⟨c1, hx⟩ := hc 0 x rfl
    rw [Nat.add_zero] at c1
    have hn : 0 < (x :: l).length := by simp
    have hz : ((x :: l).length == 0) = false := by simp
    clear hc ha
    generalize hL : (x :: l).length = n at hn hz hl
    by_cases h0 : x < 0
    · rw [withinB_neg h0]
      clear hL
      go_enter Try.func18, Try.ntmps18
      go_wp2_with fail
      go_ret
      exact ⟨rfl, 0, rfl⟩
    · obtain ⟨x, rfl⟩ : ∃ t : Nat, x = t := ⟨x.toNat, by omega⟩
      rw [withinB_nat]
      clear hL
      have e1 : (x : Int).tdiv 2 = (x : Int) / 2 := Int.tdiv_eq_ediv_of_nonneg (by omega)
      rcases (show (x : Int) % 2 = 0 ∨ (x : Int) % 2 = 1 by omega) with hm | hm
      · have e2 : (x : Int).tmod 2 = 0 := by rw [Int.tmod_eq_emod_of_nonneg (by omega)]; exact hm
        go_enter Try.func18, Try.ntmps18
        go_wp2_with fail
        go_quiet (fail)
        go_wp2
        all_goals go_ret
        all_goals refine ⟨ret_bool ?_, _, rfl⟩
        all_goals (rw [Bool.eq_iff_iff]; simp; omega)
      · have e2 : (x : Int).tmod 2 = 1 := by rw [Int.tmod_eq_emod_of_nonneg (by omega)]; exact hm
        go_enter Try.func18, Try.ntmps18
        go_wp2_with fail
        go_quiet (fail)
        go_wp2
        all_goals go_ret
        all_goals refine ⟨ret_bool ?_, _, rfl⟩
        all_goals (rw [Bool.eq_iff_iff]; simp; omega)
end Go.Proofs.Ytlagfdbemmhahaa
