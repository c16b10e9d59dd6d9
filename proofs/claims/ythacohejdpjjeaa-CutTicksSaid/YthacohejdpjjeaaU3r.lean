/- Walks of the picks' reference: Wrong, Now. -/
import Derived.Test.YthacohejdpjjeaaU3
namespace Go.Proofs.Ythacohejdpjjeaa
open Go.RowKit
set_option maxHeartbeats 400000 in
theorem refWrong_any (n : Int) (ao : Option Addr) (b o cap : Nat) (cs : List CallV) (w : World) (hl : cs.length ≤ 9223372036854775807) (ha : 0 < cs.length → ao = some ⟨b, o, none⟩) (hc : CallsAt w b o cs) :
    Calls Try.prog 23 #[.int .i64 n, .slice ao cs.length cap] w fun e w' => e = .returned (.int .i64 (wrongL n (thr cs) : Nat)) ∧ w = w' := by
  have HC := Lib.hid hc
  have HA := Lib.hid ha
  clear hc ha
  by_cases hn : n < 1 ∨ 16 < n
  · have HR := Lib.hid (wrongL_n (ts := thr cs) hn)
    go_enter Try.func23, Try.ntmps23
    by_cases h1 : n < 1
    · go_wp2
      go_ret
      rw [HR.out]; exact ⟨rfl, rfl⟩
    · have h2 : 16 < n := by omega
      go_wp2
      go_ret
      rw [HR.out]; exact ⟨rfl, rfl⟩
  · have h1 : ¬ n < 1 := by omega
    have h2 : ¬ 16 < n := by omega
    have HN := Lib.hid hn
    clear hn
    by_cases h3 : 1000 < cs.length
    · have HR := Lib.hid (wrongL_long HN.out (ts := thr cs) (by rw [thr_len]; exact h3))
      go_enter Try.func23, Try.ntmps23
      go_wp2
      go_ret
      rw [HR.out]; exact ⟨rfl, rfl⟩
    · go_enter Try.func23, Try.ntmps23
      go_wp2
      go_loop [17] (fun k => ∃ j : Nat, j ≤ cs.length ∧ k = .int .i64 j ∧ Hid (∀ (i : Nat) (x : CallV), i < j → cs[i]? = some x → 0 ≤ x.t ∧ x.t < n)) (fun k => cs.length - (intOf k).toNat)
      case atStart => exact ⟨0, Nat.zero_le _, rfl, Lib.hid (fun i x h => absurd h (by omega))⟩
      case round =>
        obtain ⟨j, hj, rfl, hp⟩ := hrel
        by_cases hlt : j < cs.length
        · obtain rfl := HA.out (by omega)
          obtain ⟨x, hx⟩ : ∃ x, cs[j]? = some x := ⟨cs[j], List.getElem?_eq_getElem (by omega)⟩
          obtain ⟨c0, _⟩ := HC.out j _ hx
          have HX := Lib.hid hx
          clear hx
          by_cases h4 : x.t < 0
          · have HR := Lib.hid (wrongL_bad HN.out (ts := thr cs) (by rw [thr_len]; exact h3) (thr_get HX.out) (.inl h4))
            go_wp2
            go_ret
            rw [HR.out]; exact ⟨rfl, rfl⟩
          · by_cases h5 : n ≤ x.t
            · have HR := Lib.hid (wrongL_bad HN.out (ts := thr cs) (by rw [thr_len]; exact h3) (thr_get HX.out) (.inr h5))
              go_wp2
              go_ret
              rw [HR.out]; exact ⟨rfl, rfl⟩
            · have HP : Hid (∀ (i : Nat) (x : CallV), i < j + 1 → cs[i]? = some x → 0 ≤ x.t ∧ x.t < n) := Lib.hid (fun i y hi hy => by
                by_cases he : i = j
                · subst he
                  rw [HX.out] at hy
                  cases hy
                  omega
                · exact hp.out i y (by omega) hy)
              go_wp2
              go_round
              case rel => exact ⟨j + 1, by omega, by go_num, HP⟩
              case measure => simp [intOf]; omega
        · have : j = cs.length := by omega
          subst this
          have HR := Lib.hid (wrongL_ok HN.out (ts := thr cs) (by rw [thr_len]; exact h3) (fun t ht => by
            unfold thr at ht
            obtain ⟨x, hx, rfl⟩ := List.mem_map.1 ht
            obtain ⟨i, hi⟩ := List.mem_iff_getElem?.1 hx
            exact hp.out i x (List.getElem?_eq_some_iff.1 hi).1 hi))
          go_wp2
          go_ret
          rw [HR.out]; exact ⟨rfl, rfl⟩

set_option maxHeartbeats 400000 in
theorem refNow_any (p : Int) (ao : Option Addr) (b o cap : Nat) (cs : List CallV) (ao2 : Option Addr) (b2 o2 cap2 : Nat) (fin : List Bool) (w : World) (hl : cs.length ≤ 9223372036854775807) (hfl : fin.length = cs.length) (ha : 0 < cs.length → ao = some ⟨b, o, none⟩) (hc : CallsAt w b o cs)
    (ha2 : 0 < fin.length → ao2 = some ⟨b2, o2, none⟩) (hc2 : BoolsAt w b2 o2 fin) :
    Calls Try.prog 24 #[.slice ao cs.length cap, .slice ao2 fin.length cap2, .int .i64 p] w fun e w' => e = .returned (.int .i64 (nowI (thr cs) fin p)) ∧ w = w' := by
  have HC := Lib.hid hc
  have HA := Lib.hid ha
  have HC2 := Lib.hid hc2
  have HA2 := Lib.hid ha2
  clear hc ha hc2 ha2
  go_enter Try.func24, Try.ntmps24
  go_wp2
  go_loop [10] (fun k => ∃ j : Nat, j ≤ cs.length ∧ k = .int .i64 j ∧ Hid (∀ i, i < j → openB (thr cs) fin p i = false)) (fun k => cs.length - (intOf k).toNat)
  case atStart => exact ⟨0, Nat.zero_le _, rfl, Lib.hid (fun i h => absurd h (by omega))⟩
  case round =>
    obtain ⟨j, hj, rfl, hp⟩ := hrel
    by_cases hlt : j < cs.length
    · obtain rfl := HA.out (by omega)
      obtain rfl := HA2.out (by omega)
      obtain ⟨x, hx⟩ : ∃ x, cs[j]? = some x := ⟨cs[j], List.getElem?_eq_getElem (by omega)⟩
      obtain ⟨y, hy⟩ : ∃ y, fin[j]? = some y := ⟨fin[j], List.getElem?_eq_getElem (by omega)⟩
      obtain ⟨c0, _⟩ := HC.out j _ hx
      have c1 := HC2.out j _ hy
      have HX := Lib.hid hx
      have HY := Lib.hid hy
      clear hx hy
      by_cases h4 : x.t = p
      · cases y with
        | false =>
          have HO : Hid (nowI (thr cs) fin p = j) := Lib.hid (nowI_some (now_first (by rw [thr_len]; exact hlt) hp.out (openB_iff.2 ⟨by rw [thr_get HX.out, h4], HY.out⟩)))
          go_wp2
          go_ret
          rw [HO.out]; exact ⟨rfl, rfl⟩
        | true =>
          have HP : Hid (∀ i, i < j + 1 → openB (thr cs) fin p i = false) := Lib.hid (fun i hi => by
            by_cases he : i = j
            · subst he; unfold openB; rw [HY.out]; simp
            · exact hp.out i (by omega))
          go_wp2
          go_round
          case rel => exact ⟨j + 1, by omega, by go_num, HP⟩
          case measure => simp [intOf]; omega
      · have HP : Hid (∀ i, i < j + 1 → openB (thr cs) fin p i = false) := Lib.hid (fun i hi => by
          by_cases he : i = j
          · subst he; unfold openB; rw [thr_get HX.out]
            have : (some x.t == some p) = false := by simpa using h4
            rw [this]; rfl
          · exact hp.out i (by omega))
        go_wp2
        go_round
        case rel => exact ⟨_, _, .int .i64 ((j : Int) + 1), ⟨j + 1, by omega, by go_num, HP⟩, rfl, rfl, rfl⟩
        case measure => simp [intOf]; omega
    · have : j = cs.length := by omega
      subst this
      have HR : Hid (nowI (thr cs) fin p = -1) := Lib.hid (nowI_none (now_none (fun i hi => hp.out i (by rw [thr_len] at hi; exact hi))))
      go_wp2
      go_ret
      rw [HR.out]; exact ⟨rfl, rfl⟩

end Go.Proofs.Ythacohejdpjjeaa
