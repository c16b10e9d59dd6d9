/- Walks of keys: comparing. -/
import Derived.Test.YtlagfdbemmhahaaProg
import Derived.Test.YtlagfdbemmhahaaV
import Derived.WalkLawsBesides
namespace Go.Proofs.Ytlagfdbemmhahaa
open Go.RowKit

set_option maxHeartbeats 400000 in
theorem nan_any (x : Int) (w : World) : Calls Try.prog 27 #[.int .i64 x] w fun e w' => e = .returned (.bool false) ∧ w = w' := by
  go_enter Try.func27, Try.ntmps27
  go_wp2
  go_ret
  exact ⟨rfl, rfl⟩

set_option maxHeartbeats 400000 in
theorem icmp_any (x y : Int) (w : World) : Calls Try.prog 25 #[.int .i64 x, .int .i64 y] w fun e w' => e = .returned (.int .i64 (cmpI x y)) ∧ w = w' := by
  rcases Int.lt_trichotomy x y with h | h | h
  · rw [cmpI_lt h]
    go_enter Try.func25, Try.ntmps25
    go_wp2_with (go_at_call 27; refine (nan_any _ _).mono ?_; rintro e w' ⟨rfl, rfl⟩)
    go_ret
    exact ⟨rfl, rfl⟩
  · subst h
    rw [cmpI_eq]
    go_enter Try.func25, Try.ntmps25
    go_wp2_with (go_at_call 27; refine (nan_any _ _).mono ?_; rintro e w' ⟨rfl, rfl⟩)
    go_ret
    exact ⟨rfl, rfl⟩
  · rw [cmpI_gt h]
    have h2 : ¬ x < y := by omega
    go_enter Try.func25, Try.ntmps25
    go_wp2_with (go_at_call 27; refine (nan_any _ _).mono ?_; rintro e w' ⟨rfl, rfl⟩)
    go_ret
    exact ⟨rfl, rfl⟩

set_option maxHeartbeats 800000 in
theorem scompare_any (ao1 ao2 : Option Addr) (b1 o1 c1 b2 o2 c2 : Nat) (l k : List Int) (w : World) (hl : l.length ≤ 9223372036854775807) (hk : k.length ≤ 9223372036854775807)
    (ha1 : 0 < l.length → ao1 = some ⟨b1, o1, none⟩) (ha2 : 0 < k.length → ao2 = some ⟨b2, o2, none⟩) (hc1 : ICells w b1 o1 l) (hc2 : ICells w b2 o2 k) :
    Calls Try.prog 21 #[.slice ao1 l.length c1, .slice ao2 k.length c2] w fun e w' => e = .returned (.int .i64 (cmpL l k)) ∧ w = w' := by
  have HA1 := Lib.hid ha1
  have HA2 := Lib.hid ha2
  have HC1 := Lib.hid hc1
  have HC2 := Lib.hid hc2
  clear ha1 ha2 hc1 hc2
  go_enter Try.func21, Try.ntmps21
  go_wp2
  go_loop [11] (fun i => ∃ j : Nat, j ≤ l.length ∧ j ≤ k.length ∧ i = .int .i64 j ∧ Hid (cmpL (l.drop j) (k.drop j) = cmpL l k)) (fun i => l.length - (intOf i).toNat)
  case atStart => exact ⟨0, Nat.zero_le _, Nat.zero_le _, rfl, Lib.hid rfl⟩
  case round =>
    obtain ⟨j, hj, hj2, rfl, hp⟩ := hrel
    by_cases hlt : j < l.length
    · obtain rfl := HA1.out (by omega)
      obtain ⟨x, hx⟩ : ∃ x, l[j]? = some x := ⟨l[j], List.getElem?_eq_getElem hlt⟩
      obtain ⟨d1, _⟩ := HC1.out j _ hx
      have hd1 := Lib.hid (drop_cons hx)
      clear hx
      by_cases hlt2 : j < k.length
      · obtain rfl := HA2.out (by omega)
        obtain ⟨y, hy⟩ : ∃ y, k[j]? = some y := ⟨k[j], List.getElem?_eq_getElem hlt2⟩
        obtain ⟨d2, _⟩ := HC2.out j _ hy
        have hd2 := Lib.hid (drop_cons hy)
        clear hy
        rcases Int.lt_trichotomy x y with h | h | h
        · have hres : Hid (cmpL l k = -1) := Lib.hid (by rw [← hp.out, hd1.out, hd2.out]; exact cmpL_lt h)
          have HI := icmp_any x y w
          rw [cmpI_lt h] at HI
          have HI' := Lib.hid HI
          clear HI
          go_wp2_with fail
          refine HI'.out.mono ?_
          rintro e w' ⟨rfl, rfl⟩
          go_wp2_with fail
          go_ret
          rw [hres.out]
          exact ⟨rfl, rfl⟩
        · subst h
          have hN : Hid (cmpL (l.drop (j + 1)) (k.drop (j + 1)) = cmpL l k) := Lib.hid (by rw [← hp.out, hd1.out, hd2.out, cmpL_eq])
          have HI := icmp_any x x w
          rw [cmpI_eq] at HI
          have HI' := Lib.hid HI
          clear HI
          go_wp2_with fail
          refine HI'.out.mono ?_
          rintro e w' ⟨rfl, rfl⟩
          go_wp2_with fail
          go_round
          case rel => exact ⟨j + 1, by omega, by omega, by go_num, hN⟩
          case measure => simp [intOf]; omega
        · have hres : Hid (cmpL l k = 1) := Lib.hid (by rw [← hp.out, hd1.out, hd2.out]; exact cmpL_gt h)
          have HI := icmp_any x y w
          rw [cmpI_gt h] at HI
          have HI' := Lib.hid HI
          clear HI
          go_wp2_with fail
          refine HI'.out.mono ?_
          rintro e w' ⟨rfl, rfl⟩
          go_wp2_with fail
          go_ret
          rw [hres.out]
          exact ⟨rfl, rfl⟩
      · have hres : Hid (cmpL l k = 1) := Lib.hid (by
          have : k.drop j = [] := List.drop_eq_nil_of_le (by omega)
          rw [← hp.out, hd1.out, this]; rfl)
        go_wp2_with fail
        go_ret
        rw [hres.out]
        exact ⟨rfl, rfl⟩
    · have e1 : l.drop j = [] := List.drop_eq_nil_of_le (by omega)
      by_cases hlt2 : l.length < k.length
      · have hres : Hid (cmpL l k = -1) := Lib.hid (by
          rw [← hp.out, e1]
          cases h : k.drop j with
          | nil => have := congrArg List.length h; rw [List.length_drop, List.length_nil] at this; omega
          | cons y t => rfl)
        clear e1
        go_wp2_with fail
        go_ret
        rw [hres.out]
        exact ⟨rfl, rfl⟩
      · have hres : Hid (cmpL l k = 0) := Lib.hid (by
          have : k.drop j = [] := List.drop_eq_nil_of_le (by omega)
          rw [← hp.out, e1, this]; rfl)
        clear e1
        go_wp2_with fail
        go_ret
        rw [hres.out]
        exact ⟨rfl, rfl⟩

set_option maxHeartbeats 400000 in
theorem compare_any (ao1 ao2 : Option Addr) (b1 o1 c1 b2 o2 c2 : Nat) (l k : List Int) (w : World) (hl : l.length ≤ 9223372036854775807) (hk : k.length ≤ 9223372036854775807)
    (ha1 : 0 < l.length → ao1 = some ⟨b1, o1, none⟩) (ha2 : 0 < k.length → ao2 = some ⟨b2, o2, none⟩) (hc1 : ICells w b1 o1 l) (hc2 : ICells w b2 o2 k) :
    Calls Try.prog 16 #[.slice ao1 l.length c1, .slice ao2 k.length c2] w fun e w' => e = .returned (.int .i64 (cmpL l k)) ∧ w = w' := by
  have HS := Lib.hid (scompare_any ao1 ao2 b1 o1 c1 b2 o2 c2 l k w hl hk ha1 ha2 hc1 hc2)
  clear ha1 ha2 hc1 hc2
  go_enter Try.func16, Try.ntmps16
  go_wp2_with fail
  refine HS.out.mono ?_
  rintro e w' ⟨rfl, rfl⟩
  go_wp2_with fail
  go_ret
  exact ⟨rfl, rfl⟩
end Go.Proofs.Ytlagfdbemmhahaa
