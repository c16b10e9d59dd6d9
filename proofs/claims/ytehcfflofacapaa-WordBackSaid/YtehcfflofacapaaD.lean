/- Walks of the reference's Pack and Sizes. -/
import Derived.Test.YtehcfflofacapaaC
namespace Go.Proofs.Ytehcfflofacapaa
open Go.RowKit

theorem fits_yes (v s : Nat) (w : World) (hv : v < 18446744073709551616) (h1 : 1 ≤ s) (h : s ≤ 64) (hr : v < 2 ^ s) :
    Calls Try.prog 14 #[.int .u64 v, .int .i64 s] w fun e w' => e = .returned (.bool true) ∧ w = w' := by
  have := fits_any v s w hv h1 h
  rwa [decide_eq_true hr] at this
theorem fits_no (v s : Nat) (w : World) (hv : v < 18446744073709551616) (h1 : 1 ≤ s) (h : s ≤ 64) (hr : ¬ v < 2 ^ s) :
    Calls Try.prog 14 #[.int .u64 v, .int .i64 s] w fun e w' => e = .returned (.bool false) ∧ w = w' := by
  have := fits_any v s w hv h1 h
  rwa [decide_eq_false hr] at this
/-- sizes and numbers lie in two rows -/
def SCells (w : World) (b1 o1 b2 o2 : Nat) (l : List (Int × Nat)) : Prop :=
  ∀ (i : Nat) (x : Int × Nat), l[i]? = some x → w.cell? ⟨b1, o1 + i, none⟩ = some (.int .i64 x.1) ∧ w.cell? ⟨b2, o2 + i, none⟩ = some (.int .u64 x.2) ∧
    (-9223372036854775808 ≤ x.1 ∧ x.1 ≤ 9223372036854775807) ∧ x.2 < 18446744073709551616

set_option maxHeartbeats 400000 in
theorem rpack_any (ao1 ao2 : Option Addr) (b1 o1 c1 b2 o2 c2 : Nat) (l : List (Int × Nat)) (w : World) (hl : l.length ≤ 9223372036854775807)
    (ha1 : 0 < l.length → ao1 = some ⟨b1, o1, none⟩) (ha2 : 0 < l.length → ao2 = some ⟨b2, o2, none⟩) (hc : SCells w b1 o1 b2 o2 l) :
    Calls Try.prog 17 #[.slice ao1 l.length c1, .slice ao2 l.length c2] w fun e w' => e = .returned (.tuple #[.int .i64 (packGo l 0 0).1, .int .u64 (packGo l 0 0).2]) ∧ ∃ m, w' = w.drewN m := by
  have HC := Lib.hid hc
  clear hc
  have HA1 := Lib.hid ha1
  have HA2 := Lib.hid ha2
  clear ha1 ha2
  go_enter Try.func17, Try.ntmps17
  go_wp2
  go_loopw [6, 7, 8] (fun p x k wr => ∃ j a v m : Nat, j ≤ l.length ∧ a ≤ 64 ∧ v < 18446744073709551616 ∧ k = .int .i64 j ∧ p = .int .i64 a ∧ x = .int .u64 v ∧ Hid (packGo (l.drop j) a v = packGo l 0 0) ∧ wr = w.drewN m) (fun _ _ k _ => l.length - (intOf k).toNat)
  case atStart => exact ⟨0, 0, 0, 0, Nat.zero_le _, Nat.zero_le _, by omega, rfl, rfl, rfl, Lib.hid rfl, rfl⟩
  case round =>
    obtain ⟨j, a, v, m, hj, ha, hv, rfl, rfl, rfl, hp, rfl⟩ := hrel
    by_cases hlt : j < l.length
    · obtain rfl := HA1.out (by omega)
      obtain rfl := HA2.out (by omega)
      obtain ⟨⟨s, f⟩, hx⟩ : ∃ x, l[j]? = some x := ⟨l[j], List.getElem?_eq_getElem hlt⟩
      obtain ⟨d1, d2, hs, hf⟩ := HC.out j _ hx
      have hd : Hid (l.drop j = (s, f) :: l.drop (j + 1)) := by
        apply Lib.hid
        rw [List.drop_eq_getElem_cons hlt]
        rw [List.getElem?_eq_getElem hlt, Option.some.injEq] at hx
        rw [hx]
      have HX := Lib.hid hx
      clear hx
      by_cases hex : s < 1 ∨ 64 < a + s
      · have hres : Hid (packGo l 0 0 = (1, 0)) := Lib.hid (by rw [← hp.out, hd.out]; exact packGo_arg hex)
        rcases hex with hex | hex
        · go_wp2_with fail
          go_ret2
          rw [hres.out]
          exact ⟨rfl, _, rfl⟩
        · by_cases h1 : 1 ≤ s
          · go_wp2_with fail
            go_ret2
            rw [hres.out]
            exact ⟨rfl, _, rfl⟩
          · go_wp2_with fail
            go_ret2
            rw [hres.out]
            exact ⟨rfl, _, rfl⟩
      · obtain ⟨t, rfl⟩ : ∃ t : Nat, s = t := ⟨s.toNat, by omega⟩
        have ht : 1 ≤ t ∧ a + t ≤ 64 := by omega
        clear hex hs
        obtain ⟨ht1, ht2⟩ := ht
        by_cases hr : f < 2 ^ t
        · have hn := packGo_next (l := l.drop (j + 1)) (a := a) (w := v) ht1 ht2 hr
          rw [← hd.out, hp.out] at hn
          have HN := Lib.hid hn.symm
          have hpl := pu_lt v a t f hv hr ht2
          have HR := Lib.hid hr
          clear hn hr
          go_wp2_with fail
          go_quiet ((go_at_call 14; exact call_keeps ⟨_, rfl⟩ (fits_yes _ _ _ hf ht1 (by omega) HR.out)))
          go_wp2
          go_quiet ((go_at_call 15; exact call_keeps ⟨_, rfl⟩ (put_ref _ _ _ _ _ hv HR.out ht1 ht2)))
          go_wp2
          go_roundw
          case rel => exact ⟨j + 1, a + t, pu v a t f, _, by omega, by omega, hpl, by go_num, by go_num, rfl, HN, rfl⟩
          case measure => simp [intOf]; omega
        · have hres : Hid (packGo l 0 0 = (10, 0)) := Lib.hid (by rw [← hp.out, hd.out]; exact packGo_range ht1 ht2 hr)
          have HR := Lib.hid hr
          clear hr
          go_wp2_with fail
          go_quiet ((go_at_call 14; exact call_keeps ⟨_, rfl⟩ (fits_no _ _ _ hf ht1 (by omega) HR.out)))
          go_wp2
          go_ret2
          rw [hres.out]
          exact ⟨rfl, _, World.drewN_drewN _ _ _⟩
    · have hres : Hid (packGo l 0 0 = (0, v)) := Lib.hid (by
        have : j = l.length := by omega
        rw [← hp.out, this, List.drop_length]; rfl)
      go_wp2
      go_ret2
      rw [hres.out]
      exact ⟨rfl, _, rfl⟩


theorem sizesGo_arg {s : Int} {l : List Int} {a : Nat} (h : s < 1 ∨ 64 < a + s) : sizesGo (s :: l) a = false := by
  rw [sizesGo, if_pos h]
theorem sizesGo_next {s : Nat} {l : List Int} {a : Nat} (h1 : 1 ≤ s) (h : a + s ≤ 64) : sizesGo ((s : Int) :: l) a = sizesGo l (a + s) := by
  rw [sizesGo, if_neg (by omega)]; simp

/-- whole numbers lie in a row -/
def ICells (w : World) (b o : Nat) (l : List Int) : Prop :=
  ∀ (i : Nat) (x : Int), l[i]? = some x → w.cell? ⟨b, o + i, none⟩ = some (.int .i64 x) ∧ (-9223372036854775808 ≤ x ∧ x ≤ 9223372036854775807)

set_option maxHeartbeats 400000 in
theorem sizes_any (ao : Option Addr) (b o c : Nat) (l : List Int) (w : World) (hl : l.length ≤ 9223372036854775807)
    (ha : 0 < l.length → ao = some ⟨b, o, none⟩) (hc : ICells w b o l) :
    Calls Try.prog 19 #[.slice ao l.length c] w fun e w' => e = .returned (.bool (sizesGo l 0)) ∧ w = w' := by
  have HC := Lib.hid hc
  clear hc
  have HA := Lib.hid ha
  clear ha
  go_enter Try.func19, Try.ntmps19
  go_wp2
  go_loop [3, 4] (fun p k => ∃ j a : Nat, j ≤ l.length ∧ a ≤ 64 ∧ k = .int .i64 j ∧ p = .int .i64 a ∧ Hid (sizesGo (l.drop j) a = sizesGo l 0)) (fun _ k => l.length - (intOf k).toNat)
  case atStart => exact ⟨0, 0, Nat.zero_le _, Nat.zero_le _, rfl, rfl, Lib.hid rfl⟩
  case round =>
    obtain ⟨j, a, hj, ha, rfl, rfl, hp⟩ := hrel
    by_cases hlt : j < l.length
    · obtain rfl := HA.out (by omega)
      obtain ⟨s, hx⟩ : ∃ x, l[j]? = some x := ⟨l[j], List.getElem?_eq_getElem hlt⟩
      obtain ⟨d1, hs⟩ := HC.out j _ hx
      have hd : Hid (l.drop j = s :: l.drop (j + 1)) := by
        apply Lib.hid
        rw [List.drop_eq_getElem_cons hlt]
        rw [List.getElem?_eq_getElem hlt, Option.some.injEq] at hx
        rw [hx]
      have HX := Lib.hid hx
      clear hx
      by_cases hex : s < 1 ∨ 64 < a + s
      · have hres : Hid (sizesGo l 0 = false) := Lib.hid (by rw [← hp.out, hd.out]; exact sizesGo_arg hex)
        rcases hex with hex | hex
        · go_wp2_with fail
          go_ret
          rw [hres.out]
          exact ⟨rfl, rfl⟩
        · by_cases h1 : 1 ≤ s
          · go_wp2_with fail
            go_ret
            rw [hres.out]
            exact ⟨rfl, rfl⟩
          · go_wp2_with fail
            go_ret
            rw [hres.out]
            exact ⟨rfl, rfl⟩
      · obtain ⟨t, rfl⟩ : ∃ t : Nat, s = t := ⟨s.toNat, by omega⟩
        have ht : 1 ≤ t ∧ a + t ≤ 64 := by omega
        clear hex hs
        obtain ⟨ht1, ht2⟩ := ht
        have hn := sizesGo_next (l := l.drop (j + 1)) (a := a) ht1 ht2
        rw [← hd.out, hp.out] at hn
        have HN := Lib.hid hn.symm
        clear hn
        go_wp2_with fail
        go_round
        case rel => exact ⟨j + 1, a + t, by omega, by omega, by go_num, by go_num, HN⟩
        case measure => simp [intOf]; omega
    · have hres : Hid (sizesGo l 0 = true) := Lib.hid (by
        have : j = l.length := by omega
        rw [← hp.out, this, List.drop_length]; rfl)
      go_wp2
      go_ret
      rw [hres.out]
      exact ⟨rfl, rfl⟩

end Go.Proofs.Ytehcfflofacapaa
