/- Walks of the laws WordGets and WordPuts. -/
import Derived.Test.YtehcfflofacapaaF
namespace Go.Proofs.Ytehcfflofacapaa
open Go.RowKit

theorem is_no (a s : Int) (w : World) (h1 : -9223372036854775808 ≤ a) (h2 : a ≤ 9223372036854775807) (h : a < 0 ∨ s < 1 ∨ 64 < a + s) :
    Calls Try.prog 10 #[.int .i64 a, .int .i64 s] w fun e w' => e = .returned (.bool false) ∧ w = w' := by
  have := is_any a s w h1 h2
  rwa [isB_no h] at this
theorem is_yes (a s : Nat) (w : World) (h0 : 1 ≤ s) (h : a + s ≤ 64) :
    Calls Try.prog 10 #[.int .i64 a, .int .i64 s] w fun e w' => e = .returned (.bool true) ∧ w = w' := by
  have := is_any a s w (by omega) (by omega)
  rwa [isB_yes (by omega) (by omega) (by omega)] at this

set_option maxHeartbeats 400000 in
theorem gets_walk (n : Nat) (a s : Int) (w : World) (hn : n < 18446744073709551616) (ha : -9223372036854775808 ≤ a ∧ a ≤ 9223372036854775807) (hs : -9223372036854775808 ≤ s ∧ s ≤ 9223372036854775807) :
    Calls Try.prog 3 #[.int .u64 n, .int .i64 a, .int .i64 s] w fun e w' => e = .returned (.bool true) ∧ Below w.heap.size w w' := by
  by_cases h : a < 0 ∨ s < 1 ∨ 64 < a + s
  · have H := Lib.hid h
    clear h
    go_enter Try.func3, Try.ntmps3
    go_wp2_with fail
    refine (wget_no n a s _ hs.1 hs.2 H.out).mono ?_
    rintro e w' ⟨rfl, rfl⟩
    go_wp2_with fail
    refine (is_no a s _ ha.1 ha.2 H.out).mono ?_
    rintro e w' ⟨rfl, rfl⟩
    go_wp2_with fail
    refine (packed_any _).mono ?_
    rintro e w' ⟨rfl, hb⟩
    go_wp2_with fail
    go_ret
    exact ⟨rfl, hb⟩
  · obtain ⟨a, rfl⟩ : ∃ t : Nat, a = t := ⟨a.toNat, by omega⟩
    obtain ⟨s, rfl⟩ : ∃ t : Nat, s = t := ⟨s.toNat, by omega⟩
    have h1 : 1 ≤ s := by omega
    have h2 : a + s ≤ 64 := by omega
    clear h ha hs
    go_enter Try.func3, Try.ntmps3
    go_wp2_with fail
    refine (wget_yes n a s _ hn h1 h2).mono ?_
    rintro e w' ⟨rfl, k, rfl⟩
    go_wp2_with fail
    refine (is_yes a s _ h1 h2).mono ?_
    rintro e w' ⟨rfl, rfl⟩
    go_wp2_with fail
    refine (get_ref n a s _ hn h1 h2).mono ?_
    rintro e w' ⟨rfl, rfl⟩
    go_wp2_with fail
    refine (packed_any _).mono ?_
    rintro e w' ⟨rfl, hb⟩
    go_wp2_with fail
    go_ret
    exact ⟨rfl, (below_drewN (Below.refl _ _) k).trans hb⟩
end Go.Proofs.Ytehcfflofacapaa
