/- Walk of the law KeyRows. -/
import Derived.Test.YtlagfdbemmhahaaV9
namespace Go.Proofs.Ytlagfdbemmhahaa
open Go.RowKit

theorem rows_fact (l k t : List Int) : (cmpL l k = -1 → cmpL k t ≤ 0 → cmpL l t = -1) ∧ (cmpL l k ≤ 0 → cmpL k t = -1 → cmpL l t = -1) := by
  refine ⟨fun h1 h2 => ?_, fun h1 h2 => ?_⟩
  · rcases cmpL_three k t with h | h | h
    · exact cmpL_trans _ _ _ h1 h
    · rw [← cmpL_zero _ _ h]; exact h1
    · omega
  · rcases cmpL_three l k with h | h | h
    · exact cmpL_trans _ _ _ h h2
    · rw [cmpL_zero _ _ h]; exact h2
    · omega

/-- what the law's comparisons give -/
def RowsOk (x y z : Int) : Prop := (x = -1 ∧ y = -1 ∧ z = -1) ∨ (x = -1 ∧ y = 0 ∧ z = -1) ∨ (x = -1 ∧ y = 1) ∨ (x = 1) ∨ (x = 0 ∧ y = -1 ∧ z = -1) ∨ (x = 0 ∧ y = 0) ∨ (x = 0 ∧ y = 1)
theorem rows_ok (l k t : List Int) : RowsOk (cmpL l k) (cmpL k t) (cmpL l t) := by
  have h := rows_fact l k t
  have h1 := cmpL_three l k
  have h2 := cmpL_three k t
  unfold RowsOk
  omega

theorem take_same {l k : List Int} {j : Nat} {x : Int} (h : l.take j = k.take j) (h1 : l[j]? = some x) (h2 : k[j]? = some x) : l.take (j + 1) = k.take (j + 1) := by
  rw [take_snoc h1, take_snoc h2, h]

set_option maxHeartbeats 400000 in
theorem rows_long (v1 v2 v3 : Option Addr) (n1 c1 n2 c2 n3 c3 : Nat) (w : World) (h : 1000 < n1 ∨ 1000 < n2 ∨ 1000 < n3) :
    Calls Try.prog 7 #[.slice v1 n1 c1, .slice v2 n2 c2, .slice v3 n3 c3] w fun e w' => e = .returned (.bool true) ∧ Below w.heap.size w w' := by
  by_cases h1 : 1000 < n1
  · clear h
    go_enter Try.func7, Try.ntmps7
    go_wp2_with (go_at_call 14; refine (known_any _).mono ?_; rintro e w' ⟨rfl, hb⟩)
    go_ret
    exact ⟨rfl, hb⟩
  · by_cases h2 : 1000 < n2
    · clear h
      go_enter Try.func7, Try.ntmps7
      go_wp2_with (go_at_call 14; refine (known_any _).mono ?_; rintro e w' ⟨rfl, hb⟩)
      go_ret
      exact ⟨rfl, hb⟩
    · have h3 : 1000 < n3 := by omega
      clear h
      go_enter Try.func7, Try.ntmps7
      go_wp2_with (go_at_call 14; refine (known_any _).mono ?_; rintro e w' ⟨rfl, hb⟩)
      go_ret
      exact ⟨rfl, hb⟩

set_option maxRecDepth 100000 in
set_option maxHeartbeats 2000000 in
theorem rows_walk (ao1 ao2 ao3 : Option Addr) (b1 o1 c1 b2 o2 c2 b3 o3 c3 : Nat) (l k t : List Int) (w : World) (hl : l.length ≤ 1000) (hk : k.length ≤ 1000) (ht : t.length ≤ 1000)
    (ha1 : 0 < l.length → ao1 = some ⟨b1, o1, none⟩) (ha2 : 0 < k.length → ao2 = some ⟨b2, o2, none⟩) (ha3 : 0 < t.length → ao3 = some ⟨b3, o3, none⟩) (hc1 : ICells w b1 o1 l) (hc2 : ICells w b2 o2 k) (hc3 : ICells w b3 o3 t) :
    Calls Try.prog 7 #[.slice ao1 l.length c1, .slice ao2 k.length c2, .slice ao3 t.length c3] w fun e w' => e = .returned (.bool true) ∧ Below w.heap.size w w' := by
  have hl' : l.length ≤ 9223372036854775807 := by omega
  have hk' : k.length ≤ 9223372036854775807 := by omega
  have ht' : t.length ≤ 9223372036854775807 := by omega
  have HX := Lib.hid (compare_any ao1 ao2 b1 o1 c1 b2 o2 c2 l k w hl' hk' ha1 ha2 hc1 hc2)
  have HY := Lib.hid (compare_any ao2 ao3 b2 o2 c2 b3 o3 c3 k t w hk' ht' ha2 ha3 hc2 hc3)
  have HZ := Lib.hid (compare_any ao1 ao3 b1 o1 c1 b3 o3 c3 l t w hl' ht' ha1 ha3 hc1 hc3)
  have HN := Lib.hid (compare_any ao2 ao1 b2 o2 c2 b1 o1 c1 k l w hk' hl' ha2 ha1 hc2 hc1)
  have HS := Lib.hid (compare_any ao1 ao1 b1 o1 c1 b1 o1 c1 l l w hl' hl' ha1 ha1 hc1 hc1)
  rw [cmpL_neg l k] at HN
  rw [cmpL_self] at HS
  have HA1 := Lib.hid ha1
  have HA2 := Lib.hid ha2
  have HC1 := Lib.hid hc1
  have HC2 := Lib.hid hc2
  have HO := rows_ok l k t
  have HQ : Hid (cmpL l k = 0 → l = k) := Lib.hid (cmpL_zero l k)
  have HQ2 : Hid (l = k → cmpL l k = 0) := Lib.hid (fun h => by rw [h]; exact cmpL_self k)
  clear ha1 ha2 ha3 hc1 hc2 hc3
  generalize cmpL l k = x at HX HN HO HQ HQ2
  generalize cmpL k t = y at HY HO
  generalize cmpL l t = z at HZ HO
  by_cases hlk : l.length = k.length
  all_goals have HLK := Lib.hid hlk
  · have hle : ((l.length : Int) == (k.length : Int)) = true := by rw [HLK.out]; simp
    clear hlk
    rcases HO with ⟨rfl, rfl, rfl⟩ | ⟨rfl, rfl, rfl⟩ | ⟨rfl, rfl⟩ | rfl | ⟨rfl, rfl, rfl⟩ | ⟨rfl, rfl⟩ | ⟨rfl, rfl⟩
    all_goals
      go_enter Try.func7, Try.ntmps7
      go_wp2_with (first
        | (go_at_call 16; (with_reducible refine HX.out.mono ?_); rintro e w' ⟨rfl, rfl⟩)
        | (go_at_call 16; (with_reducible refine HY.out.mono ?_); rintro e w' ⟨rfl, rfl⟩)
        | (go_at_call 16; (with_reducible refine HZ.out.mono ?_); rintro e w' ⟨rfl, rfl⟩)
        | (go_at_call 16; (with_reducible refine HN.out.mono ?_); rintro e w' ⟨rfl, rfl⟩)
        | (go_at_call 16; (with_reducible refine HS.out.mono ?_); rintro e w' ⟨rfl, rfl⟩))
      go_loopw [10, 11] (fun s i wr => ∃ (j m : Nat) (r : Bool), s = .bool r ∧ i = .int .i64 j ∧ j ≤ l.length ∧ Hid (r = true → l.take j = k.take j) ∧ Hid (r = false → l = k → False) ∧ wr = w.drewN m) (fun _ i _ => l.length - (intOf i).toNat)
      case atStart => exact ⟨0, 0, true, rfl, rfl, Nat.zero_le _, Lib.hid (fun _ => rfl), Lib.hid (fun h => by cases h), rfl⟩
      case round =>
        obtain ⟨j, m, r, rfl, rfl, hj, HT, HF, rfl⟩ := hrel
        cases r with
        | true =>
          by_cases hlt : j < l.length
          · obtain rfl := HA1.out (by omega)
            obtain rfl := HA2.out (by rw [← HLK.out]; omega)
            obtain ⟨x1, hx⟩ : ∃ x, l[j]? = some x := ⟨l[j], List.getElem?_eq_getElem hlt⟩
            obtain ⟨y1, hy⟩ : ∃ y, k[j]? = some y := ⟨k[j]'(by rw [← HLK.out]; exact hlt), List.getElem?_eq_getElem _⟩
            obtain ⟨d1, _⟩ := HC1.out j _ hx
            obtain ⟨d2, _⟩ := HC2.out j _ hy
            have hlt2 : j < k.length := by rw [← HLK.out]; exact hlt
            by_cases hxy : x1 = y1
            · subst hxy
              have HN2 := Lib.hid (take_same (HT.out rfl) hx hy)
              clear hx hy
              go_wp2_with fail
              go_quiet (fail)
              go_wp2
              go_roundw
              case rel => exact ⟨j + 1, _, true, rfl, by go_num, by omega, Lib.hid (fun _ => HN2.out), Lib.hid (fun h => by cases h), rfl⟩
              case measure => simp [intOf]; omega
            · have HN2 : Hid (l = k → False) := Lib.hid (fun h => hxy (by rw [h, hy] at hx; exact (Option.some.inj hx).symm))
              have hne : (x1 == y1) = false := by simpa using hxy
              clear hx hy hxy
              go_wp2_with fail
              go_quiet (fail)
              go_wp2
              go_roundw
              case rel => exact ⟨j + 1, _, false, rfl, by go_num, by omega, Lib.hid (fun h => by cases h), Lib.hid (fun _ => HN2.out), rfl⟩
              case measure => simp [intOf]; omega
          · have hsame : l = k := by
              have h1 := HT.out rfl
              rwa [List.take_of_length_le (by omega), List.take_of_length_le (by rw [← HLK.out]; omega)] at h1
            have HSM := Lib.hid hsame
            clear hsame
            first
              | exact absurd (HQ2.out HSM.out) (by decide)
              | (go_wp2_with (go_at_call 14; refine (known_any _).mono ?_; rintro e w' ⟨rfl, hb⟩)
                 go_ret
                 exact ⟨rfl, (below_drewN (Below.refl _ _) m).trans hb⟩)
        | false =>
          first
            | exact (HF.out rfl (HQ.out (by trivial))).elim
            | (go_wp2_with (go_at_call 14; refine (known_any _).mono ?_; rintro e w' ⟨rfl, hb⟩)
               go_ret
               exact ⟨rfl, (below_drewN (Below.refl _ _) m).trans hb⟩)
  · have hle : ((l.length : Int) == (k.length : Int)) = false := by simp; omega
    have hne : l = k → False := fun h => hlk (by rw [h])
    have HNE := Lib.hid hne
    clear hlk hne
    rcases HO with ⟨rfl, rfl, rfl⟩ | ⟨rfl, rfl, rfl⟩ | ⟨rfl, rfl⟩ | rfl | ⟨rfl, rfl, rfl⟩ | ⟨rfl, rfl⟩ | ⟨rfl, rfl⟩
    all_goals first
      | exact absurd (HQ.out rfl) HNE.out
      | (go_enter Try.func7, Try.ntmps7
         go_wp2_with (first
           | (go_at_call 16; (with_reducible refine HX.out.mono ?_); rintro e w' ⟨rfl, rfl⟩)
           | (go_at_call 16; (with_reducible refine HY.out.mono ?_); rintro e w' ⟨rfl, rfl⟩)
           | (go_at_call 16; (with_reducible refine HZ.out.mono ?_); rintro e w' ⟨rfl, rfl⟩)
           | (go_at_call 16; (with_reducible refine HN.out.mono ?_); rintro e w' ⟨rfl, rfl⟩)
           | (go_at_call 16; (with_reducible refine HS.out.mono ?_); rintro e w' ⟨rfl, rfl⟩))
         refine wp_loop_rounds 1 ?_
         rw [rounds_succ]
         go_wp2_with (go_at_call 14; refine (known_any _).mono ?_; rintro e w' ⟨rfl, hb⟩)
         go_ret
         exact ⟨rfl, hb⟩)
end Go.Proofs.Ytlagfdbemmhahaa
