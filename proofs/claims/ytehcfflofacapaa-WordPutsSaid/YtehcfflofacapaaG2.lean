/- Walk of the law WordPuts. -/
import Derived.Test.YtehcfflofacapaaG
namespace Go.Proofs.Ytehcfflofacapaa
open Go.RowKit

set_option maxHeartbeats 400000 in
theorem puts_walk (n v : Nat) (a s : Int) (w : World) (hn : n < 18446744073709551616) (hv : v < 18446744073709551616) (ha : -9223372036854775808 ≤ a ∧ a ≤ 9223372036854775807) (hs : -9223372036854775808 ≤ s ∧ s ≤ 9223372036854775807) :
    Calls Try.prog 4 #[.int .u64 n, .int .u64 v, .agg #[.int .i64 a, .int .i64 s]] w fun e w' => e = .returned (.bool true) ∧ Below w.heap.size w w' := by
  by_cases h : a < 0 ∨ s < 1 ∨ 64 < a + s
  · have H := Lib.hid h
    clear h
    go_enter Try.func4, Try.ntmps4
    go_wp2_with fail
    refine (wput_no n a s v _ hs.1 hs.2 H.out).mono ?_
    rintro e w' ⟨rfl, rfl⟩
    go_wp2_with fail
    refine (is_no a s _ ha.1 ha.2 H.out).mono ?_
    rintro e w' ⟨rfl, rfl⟩
    go_wp2_with fail
    refine (packed_any _).mono ?_
    rintro e w' ⟨rfl, hb⟩
    go_wp2_with fail
    go_ret
    exact ⟨rfl, ((Below.refl _ _).alloc (Nat.le_refl _) _).trans (hb.mono (by simp))⟩
  · obtain ⟨a, rfl⟩ : ∃ t : Nat, a = t := ⟨a.toNat, by omega⟩
    obtain ⟨s, rfl⟩ : ∃ t : Nat, s = t := ⟨s.toNat, by omega⟩
    have h1 : 1 ≤ s := by omega
    have h2 : a + s ≤ 64 := by omega
    clear h ha hs
    by_cases hr : v < 2 ^ s
    · have HR := Lib.hid hr
      have hpl := pu_lt n a s v hn hr h2
      have HF : Hid (fld (pu n a s v) a s = v) := Lib.hid (fld_pu n a s v hr h2)
      clear hr
      go_enter Try.func4, Try.ntmps4
      go_wp2_with fail
      refine (wput_yes n a s v _ hn h1 h2 HR.out).mono ?_
      rintro e w' ⟨rfl, k, rfl⟩
      go_wp2_with fail
      refine (is_yes a s _ h1 h2).mono ?_
      rintro e w' ⟨rfl, rfl⟩
      go_wp2_with fail
      refine (fits_yes v s _ hv h1 (by omega) HR.out).mono ?_
      rintro e w' ⟨rfl, rfl⟩
      go_wp2_with fail
      refine (wget_yes (pu n a s v) a s _ hpl h1 h2).mono ?_
      rw [HF.out]
      rintro e w' ⟨rfl, k2, rfl⟩
      go_wp2_with fail
      refine (put_ref n a s v _ hn HR.out h1 h2).mono ?_
      rintro e w' ⟨rfl, rfl⟩
      go_wp2_with fail
      refine (packed_any _).mono ?_
      rintro e w' ⟨rfl, hb⟩
      go_wp2_with fail
      go_ret
      exact ⟨rfl, (below_drewN ((Below.refl w.heap.size w).alloc (Nat.le_refl _) _) (k + k2)).trans (hb.mono (by simp))⟩
    · have HR := Lib.hid hr
      clear hr
      go_enter Try.func4, Try.ntmps4
      go_wp2_with fail
      refine (wput_range n a s v _ hv h1 h2 HR.out).mono ?_
      rintro e w' ⟨rfl, rfl⟩
      go_wp2_with fail
      refine (is_yes a s _ h1 h2).mono ?_
      rintro e w' ⟨rfl, rfl⟩
      go_wp2_with fail
      refine (fits_no v s _ hv h1 (by omega) HR.out).mono ?_
      rintro e w' ⟨rfl, rfl⟩
      go_wp2_with fail
      refine (packed_any _).mono ?_
      rintro e w' ⟨rfl, hb⟩
      go_wp2_with fail
      go_ret
      exact ⟨rfl, ((Below.refl _ _).alloc (Nat.le_refl _) _).trans (hb.mono (by simp))⟩
end Go.Proofs.Ytehcfflofacapaa
