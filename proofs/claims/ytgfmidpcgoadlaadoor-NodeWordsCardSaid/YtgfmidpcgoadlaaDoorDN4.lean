/- Walk of the law NodeWords. -/
import Derived.Test.YtgfmidpcgoadlaaDoorDN3
namespace Go.Proofs.YtgfmidpcgoadlaaDoor
open Go.RowKit

set_option maxRecDepth 100000 in
set_option maxHeartbeats 4000000 in
theorem words_lyl (i : Int) (v x : Nat) (w : World) (hF : Fx w) (hi : i < 1) (hv : v < 1048576) (hx : x < 16777216) :
    Calls Tryd.prog 3 #[.int .i64 i, .int .u64 v, .int .u64 x] w fun e w' => e = .returned (.bool true) ∧ Below w.heap.size w w' := by
  have HR : Hid (∀ W, Calls Tryd.prog 6 #[.int .i64 i, .int .u64 (v : Int)] W fun e w' => e = .returned (.tuple #[.int .u64 0, .int .i64 10]) ∧ Below W.heap.size W w') := Lib.hid (fun W => nref_low i v W hi)
  have HS : Hid (∀ W, Calls Tryd.prog 8 #[.int .u64 (v : Int), .int .u64 (x : Int)] W fun e w' => e = .returned (.tuple #[.int .u64 ((x + v * 1073741824 : Nat) : Int), .int .i64 0]) ∧ Below W.heap.size W w') := Lib.hid (fun W => nstamp_yes x v W (by omega) hv)
  have HV : Hid (∀ W, Calls Tryd.prog 10 #[.int .u64 (v : Int), .int .u64 (x : Int)] W fun e w' => e = .returned (.tuple #[.int .u64 ((x + v * 4294967296 : Nat) : Int), .int .i64 0]) ∧ Below W.heap.size W w') := Lib.hid (fun W => nvalue_yes x v W hx hv)
  have HS2 : Hid (∀ W, Calls Tryd.prog 9 #[.int .u64 ((x + v * 1073741824 : Nat) : Int)] W fun e w' => e = .returned (.tuple #[.int .u64 (v : Int), .int .u64 (x : Int)]) ∧ ∃ k, w' = W.drewN k) := Lib.hid (fun W => by
    have h := nunstamp_any (x + v * 1073741824) W (by omega)
    rwa [show (x + v * 1073741824) % 1073741824 = x by omega, show (x + v * 1073741824) / 1073741824 = v by omega] at h)
  have es : ((x + v * 1073741824 : Nat) : Int) = (v : Int) * 1073741824 + (x : Int) := by omega
  have HV2 : Hid (∀ W, Calls Tryd.prog 11 #[.int .u64 ((x + v * 4294967296 : Nat) : Int)] W fun e w' => e = .returned (.tuple #[.int .u64 (v : Int), .int .u64 (x : Int)]) ∧ ∃ k, w' = W.drewN k) := Lib.hid (fun W => by
    have h := nunvalue_any (x + v * 4294967296) W (by omega)
    rwa [show (x + v * 4294967296) % 4294967296 = x by omega, show (x + v * 4294967296) / 4294967296 = v by omega] at h)
  have ev : ((x + v * 4294967296 : Nat) : Int) = (v : Int) * 4294967296 + (x : Int) := by rw [Int.natCast_add, Int.natCast_mul, Int.add_comm]; rfl
  have HX1 := Lib.hid (fun W => nsplit_any x W (by omega))
  have HX2 := Lib.hid (fun W => nunstamp_any x W (by omega))
  have HX3 := Lib.hid (fun W => nunvalue_any x W (by omega))
  have m1 : ((x % 1024 : Nat) : Int) = (x : Int) % 1024 := by omega
  have m2 : ((x / 1024 : Nat) : Int) = (x : Int) / 1024 := by omega
  have m3 : ((x % 1073741824 : Nat) : Int) = (x : Int) % 1073741824 := by omega
  have m4 : ((x / 1073741824 : Nat) : Int) = (x : Int) / 1073741824 := by omega
  have m5 : ((x % 4294967296 : Nat) : Int) = (x : Int) % 4294967296 := by omega
  have m6 : ((x / 4294967296 : Nat) : Int) = (x : Int) / 4294967296 := by omega
  rw [m1, m2] at HX1
  rw [m3, m4] at HX2
  rw [m5, m6] at HX3
  clear m1 m2 m3 m4 m5 m6
  rw [es] at HS HS2
  clear es
  rw [ev] at HV HV2
  clear ev
  have HK := Lib.hid (fun W => fun h : Fx W => nknown_any W h)
  have HF := Lib.hid hF
  have h0 := hF.lt
  obtain ⟨V, hV⟩ : ∃ V : Int, V = (v : Int) := ⟨_, rfl⟩
  obtain ⟨X, hX⟩ : ∃ X : Int, X = (x : Int) := ⟨_, rfl⟩
  have v1 : V < 1048576 := by omega
  have v2 : 0 ≤ V := by omega
  have x2 : 0 ≤ X := by omega
  have x3 : X < 18446744073709551616 := by omega
  have x1 : X < 16777216 := by omega
  have x4 : X < 1073741824 := by omega
  rw [← hV] at HR
  rw [← hV, ← hX] at HS
  rw [← hV, ← hX] at HV
  rw [← hX] at HX1
  rw [← hX] at HX2
  rw [← hX] at HX3
  rw [← hV, ← hX] at HS2
  rw [← hV, ← hX] at HV2
  rw [← hV, ← hX]
  clear hV hX hF hv hx
  go_enter Tryd.func3, Tryd.ntmps3
  go_wp2_with (first
    | (go_at_call 6; (with_reducible refine (HR.out _).mono ?_); rintro e w1 ⟨rfl, hb⟩; (have HB1 := Lib.hid hb); clear hb)
    | (go_at_call 8; (with_reducible refine (HS.out _).mono ?_); rintro e w3 ⟨rfl, hb⟩; (have HB3 := Lib.hid (HB1.out.trans (hb.mono HB1.out.size))); clear hb)
    | (go_at_call 9; (with_reducible refine (HS2.out _).mono ?_); rintro e w4 ⟨rfl, k2, rfl⟩)
    | (go_at_call 10; (with_reducible refine (HV.out _).mono ?_); rintro e w5 ⟨rfl, hb⟩; (have HB5 := Lib.hid ((below_drewN HB3.out _).trans (hb.mono HB3.out.size))); clear hb)
    | (go_at_call 11; (with_reducible refine (HV2.out _).mono ?_); rintro e w6 ⟨rfl, k3, rfl⟩)
    | (go_at_call 7; (with_reducible refine (HX1.out _).mono ?_); rintro e w7 ⟨rfl, k4, rfl⟩)
    | (go_at_call 9; (with_reducible refine (HX2.out _).mono ?_); rintro e w8 ⟨rfl, k5, rfl⟩)
    | (go_at_call 11; (with_reducible refine (HX3.out _).mono ?_); rintro e w9 ⟨rfl, k6, rfl⟩)
    | (go_at_call 12; (refine (HK.out _ (HF.out.below (below_drewN HB5.out _) h0)).mono ?_); rintro e wz ⟨rfl, hb⟩; (have HBz := Lib.hid ((below_drewN HB5.out _).trans (hb.mono HB5.out.size))); clear hb))
  go_ret
  exact ⟨rfl, HBz.out⟩

set_option maxRecDepth 100000 in
set_option maxHeartbeats 4000000 in
theorem words_lym (i : Int) (v x : Nat) (w : World) (hF : Fx w) (hi : i < 1) (hv : v < 1048576) (hx : 16777216 ≤ x ∧ x < 1073741824) :
    Calls Tryd.prog 3 #[.int .i64 i, .int .u64 v, .int .u64 x] w fun e w' => e = .returned (.bool true) ∧ Below w.heap.size w w' := by
  have HR : Hid (∀ W, Calls Tryd.prog 6 #[.int .i64 i, .int .u64 (v : Int)] W fun e w' => e = .returned (.tuple #[.int .u64 0, .int .i64 10]) ∧ Below W.heap.size W w') := Lib.hid (fun W => nref_low i v W hi)
  have HS : Hid (∀ W, Calls Tryd.prog 8 #[.int .u64 (v : Int), .int .u64 (x : Int)] W fun e w' => e = .returned (.tuple #[.int .u64 ((x + v * 1073741824 : Nat) : Int), .int .i64 0]) ∧ Below W.heap.size W w') := Lib.hid (fun W => nstamp_yes x v W (by omega) hv)
  have HV : Hid (∀ W, Calls Tryd.prog 10 #[.int .u64 (v : Int), .int .u64 (x : Int)] W fun e w' => e = .returned (.tuple #[.int .u64 0, .int .i64 10]) ∧ Below W.heap.size W w') := Lib.hid (fun W => nvalue_no x v W (by omega) (by omega) (by omega))
  have HS2 : Hid (∀ W, Calls Tryd.prog 9 #[.int .u64 ((x + v * 1073741824 : Nat) : Int)] W fun e w' => e = .returned (.tuple #[.int .u64 (v : Int), .int .u64 (x : Int)]) ∧ ∃ k, w' = W.drewN k) := Lib.hid (fun W => by
    have h := nunstamp_any (x + v * 1073741824) W (by omega)
    rwa [show (x + v * 1073741824) % 1073741824 = x by omega, show (x + v * 1073741824) / 1073741824 = v by omega] at h)
  have es : ((x + v * 1073741824 : Nat) : Int) = (v : Int) * 1073741824 + (x : Int) := by omega
  have HX1 := Lib.hid (fun W => nsplit_any x W (by omega))
  have HX2 := Lib.hid (fun W => nunstamp_any x W (by omega))
  have HX3 := Lib.hid (fun W => nunvalue_any x W (by omega))
  have m1 : ((x % 1024 : Nat) : Int) = (x : Int) % 1024 := by omega
  have m2 : ((x / 1024 : Nat) : Int) = (x : Int) / 1024 := by omega
  have m3 : ((x % 1073741824 : Nat) : Int) = (x : Int) % 1073741824 := by omega
  have m4 : ((x / 1073741824 : Nat) : Int) = (x : Int) / 1073741824 := by omega
  have m5 : ((x % 4294967296 : Nat) : Int) = (x : Int) % 4294967296 := by omega
  have m6 : ((x / 4294967296 : Nat) : Int) = (x : Int) / 4294967296 := by omega
  rw [m1, m2] at HX1
  rw [m3, m4] at HX2
  rw [m5, m6] at HX3
  clear m1 m2 m3 m4 m5 m6
  rw [es] at HS HS2
  clear es
  have HK := Lib.hid (fun W => fun h : Fx W => nknown_any W h)
  have HF := Lib.hid hF
  have h0 := hF.lt
  obtain ⟨V, hV⟩ : ∃ V : Int, V = (v : Int) := ⟨_, rfl⟩
  obtain ⟨X, hX⟩ : ∃ X : Int, X = (x : Int) := ⟨_, rfl⟩
  have v1 : V < 1048576 := by omega
  have v2 : 0 ≤ V := by omega
  have x2 : 0 ≤ X := by omega
  have x3 : X < 18446744073709551616 := by omega
  have x1 : 16777216 ≤ X := by omega
  have x4 : X < 1073741824 := by omega
  rw [← hV] at HR
  rw [← hV, ← hX] at HS
  rw [← hV, ← hX] at HV
  rw [← hX] at HX1
  rw [← hX] at HX2
  rw [← hX] at HX3
  rw [← hV, ← hX] at HS2
  rw [← hV, ← hX]
  clear hV hX hF hv hx
  go_enter Tryd.func3, Tryd.ntmps3
  go_wp2_with (first
    | (go_at_call 6; (with_reducible refine (HR.out _).mono ?_); rintro e w1 ⟨rfl, hb⟩; (have HB1 := Lib.hid hb); clear hb)
    | (go_at_call 8; (with_reducible refine (HS.out _).mono ?_); rintro e w3 ⟨rfl, hb⟩; (have HB3 := Lib.hid (HB1.out.trans (hb.mono HB1.out.size))); clear hb)
    | (go_at_call 9; (with_reducible refine (HS2.out _).mono ?_); rintro e w4 ⟨rfl, k2, rfl⟩)
    | (go_at_call 10; (with_reducible refine (HV.out _).mono ?_); rintro e w5 ⟨rfl, hb⟩; (have HB5 := Lib.hid ((below_drewN HB3.out _).trans (hb.mono HB3.out.size))); clear hb)
    | (go_at_call 7; (with_reducible refine (HX1.out _).mono ?_); rintro e w7 ⟨rfl, k4, rfl⟩)
    | (go_at_call 9; (with_reducible refine (HX2.out _).mono ?_); rintro e w8 ⟨rfl, k5, rfl⟩)
    | (go_at_call 11; (with_reducible refine (HX3.out _).mono ?_); rintro e w9 ⟨rfl, k6, rfl⟩)
    | (go_at_call 12; (refine (HK.out _ (HF.out.below (below_drewN HB5.out _) h0)).mono ?_); rintro e wz ⟨rfl, hb⟩; (have HBz := Lib.hid ((below_drewN HB5.out _).trans (hb.mono HB5.out.size))); clear hb))
  go_ret
  exact ⟨rfl, HBz.out⟩

set_option maxRecDepth 100000 in
set_option maxHeartbeats 4000000 in
theorem words_lyh (i : Int) (v x : Nat) (w : World) (hF : Fx w) (hi : i < 1) (hv : v < 1048576) (hx : 1073741824 ≤ x ∧ x < 18446744073709551616) :
    Calls Tryd.prog 3 #[.int .i64 i, .int .u64 v, .int .u64 x] w fun e w' => e = .returned (.bool true) ∧ Below w.heap.size w w' := by
  have HR : Hid (∀ W, Calls Tryd.prog 6 #[.int .i64 i, .int .u64 (v : Int)] W fun e w' => e = .returned (.tuple #[.int .u64 0, .int .i64 10]) ∧ Below W.heap.size W w') := Lib.hid (fun W => nref_low i v W hi)
  have HS : Hid (∀ W, Calls Tryd.prog 8 #[.int .u64 (v : Int), .int .u64 (x : Int)] W fun e w' => e = .returned (.tuple #[.int .u64 0, .int .i64 10]) ∧ Below W.heap.size W w') := Lib.hid (fun W => nstamp_no x v W (by omega) (by omega) (by omega))
  have HV : Hid (∀ W, Calls Tryd.prog 10 #[.int .u64 (v : Int), .int .u64 (x : Int)] W fun e w' => e = .returned (.tuple #[.int .u64 0, .int .i64 10]) ∧ Below W.heap.size W w') := Lib.hid (fun W => nvalue_no x v W (by omega) (by omega) (by omega))
  have HX1 := Lib.hid (fun W => nsplit_any x W (by omega))
  have HX2 := Lib.hid (fun W => nunstamp_any x W (by omega))
  have HX3 := Lib.hid (fun W => nunvalue_any x W (by omega))
  have m1 : ((x % 1024 : Nat) : Int) = (x : Int) % 1024 := by omega
  have m2 : ((x / 1024 : Nat) : Int) = (x : Int) / 1024 := by omega
  have m3 : ((x % 1073741824 : Nat) : Int) = (x : Int) % 1073741824 := by omega
  have m4 : ((x / 1073741824 : Nat) : Int) = (x : Int) / 1073741824 := by omega
  have m5 : ((x % 4294967296 : Nat) : Int) = (x : Int) % 4294967296 := by omega
  have m6 : ((x / 4294967296 : Nat) : Int) = (x : Int) / 4294967296 := by omega
  rw [m1, m2] at HX1
  rw [m3, m4] at HX2
  rw [m5, m6] at HX3
  clear m1 m2 m3 m4 m5 m6
  have HK := Lib.hid (fun W => fun h : Fx W => nknown_any W h)
  have HF := Lib.hid hF
  have h0 := hF.lt
  obtain ⟨V, hV⟩ : ∃ V : Int, V = (v : Int) := ⟨_, rfl⟩
  obtain ⟨X, hX⟩ : ∃ X : Int, X = (x : Int) := ⟨_, rfl⟩
  have v1 : V < 1048576 := by omega
  have v2 : 0 ≤ V := by omega
  have x2 : 0 ≤ X := by omega
  have x3 : X < 18446744073709551616 := by omega
  have x1 : 1073741824 ≤ X := by omega
  rw [← hV] at HR
  rw [← hV, ← hX] at HS
  rw [← hV, ← hX] at HV
  rw [← hX] at HX1
  rw [← hX] at HX2
  rw [← hX] at HX3
  rw [← hV, ← hX]
  clear hV hX hF hv hx
  go_enter Tryd.func3, Tryd.ntmps3
  go_wp2_with (first
    | (go_at_call 6; (with_reducible refine (HR.out _).mono ?_); rintro e w1 ⟨rfl, hb⟩; (have HB1 := Lib.hid hb); clear hb)
    | (go_at_call 8; (with_reducible refine (HS.out _).mono ?_); rintro e w3 ⟨rfl, hb⟩; (have HB3 := Lib.hid (HB1.out.trans (hb.mono HB1.out.size))); clear hb)
    | (go_at_call 10; (with_reducible refine (HV.out _).mono ?_); rintro e w5 ⟨rfl, hb⟩; (have HB5 := Lib.hid (HB3.out.trans (hb.mono HB3.out.size))); clear hb)
    | (go_at_call 7; (with_reducible refine (HX1.out _).mono ?_); rintro e w7 ⟨rfl, k4, rfl⟩)
    | (go_at_call 9; (with_reducible refine (HX2.out _).mono ?_); rintro e w8 ⟨rfl, k5, rfl⟩)
    | (go_at_call 11; (with_reducible refine (HX3.out _).mono ?_); rintro e w9 ⟨rfl, k6, rfl⟩)
    | (go_at_call 12; (refine (HK.out _ (HF.out.below (below_drewN HB5.out _) h0)).mono ?_); rintro e wz ⟨rfl, hb⟩; (have HBz := Lib.hid ((below_drewN HB5.out _).trans (hb.mono HB5.out.size))); clear hb))
  go_ret
  exact ⟨rfl, HBz.out⟩

set_option maxRecDepth 100000 in
set_option maxHeartbeats 4000000 in
theorem words_myl (i : Nat) (v x : Nat) (w : World) (hF : Fx w) (hi : 1 ≤ i ∧ i ≤ 1023) (hv : v < 1048576) (hx : x < 16777216) :
    Calls Tryd.prog 3 #[.int .i64 (i : Int), .int .u64 v, .int .u64 x] w fun e w' => e = .returned (.bool true) ∧ Below w.heap.size w w' := by
  have HR : Hid (∀ W, Calls Tryd.prog 6 #[.int .i64 (i : Int), .int .u64 (v : Int)] W fun e w' => e = .returned (.tuple #[.int .u64 ((i + v * 1024 : Nat) : Int), .int .i64 0]) ∧ Below W.heap.size W w') := Lib.hid (fun W => nref_yes i v W hi.1 (by omega) hv)
  have HS : Hid (∀ W, Calls Tryd.prog 8 #[.int .u64 (v : Int), .int .u64 (x : Int)] W fun e w' => e = .returned (.tuple #[.int .u64 ((x + v * 1073741824 : Nat) : Int), .int .i64 0]) ∧ Below W.heap.size W w') := Lib.hid (fun W => nstamp_yes x v W (by omega) hv)
  have HV : Hid (∀ W, Calls Tryd.prog 10 #[.int .u64 (v : Int), .int .u64 (x : Int)] W fun e w' => e = .returned (.tuple #[.int .u64 ((x + v * 4294967296 : Nat) : Int), .int .i64 0]) ∧ Below W.heap.size W w') := Lib.hid (fun W => nvalue_yes x v W hx hv)
  have HR2 : Hid (∀ W, Calls Tryd.prog 7 #[.int .u64 ((i + v * 1024 : Nat) : Int)] W fun e w' => e = .returned (.tuple #[.int .i64 (i : Int), .int .u64 (v : Int)]) ∧ ∃ k, w' = W.drewN k) := Lib.hid (fun W => by
    have h := nsplit_any (i + v * 1024) W (by omega)
    rwa [show (i + v * 1024) % 1024 = i by omega, show (i + v * 1024) / 1024 = v by omega] at h)
  have er : ((i + v * 1024 : Nat) : Int) = (i : Int) + 1024 * (v : Int) := by omega
  have HS2 : Hid (∀ W, Calls Tryd.prog 9 #[.int .u64 ((x + v * 1073741824 : Nat) : Int)] W fun e w' => e = .returned (.tuple #[.int .u64 (v : Int), .int .u64 (x : Int)]) ∧ ∃ k, w' = W.drewN k) := Lib.hid (fun W => by
    have h := nunstamp_any (x + v * 1073741824) W (by omega)
    rwa [show (x + v * 1073741824) % 1073741824 = x by omega, show (x + v * 1073741824) / 1073741824 = v by omega] at h)
  have es : ((x + v * 1073741824 : Nat) : Int) = (v : Int) * 1073741824 + (x : Int) := by omega
  have HV2 : Hid (∀ W, Calls Tryd.prog 11 #[.int .u64 ((x + v * 4294967296 : Nat) : Int)] W fun e w' => e = .returned (.tuple #[.int .u64 (v : Int), .int .u64 (x : Int)]) ∧ ∃ k, w' = W.drewN k) := Lib.hid (fun W => by
    have h := nunvalue_any (x + v * 4294967296) W (by omega)
    rwa [show (x + v * 4294967296) % 4294967296 = x by omega, show (x + v * 4294967296) / 4294967296 = v by omega] at h)
  have ev : ((x + v * 4294967296 : Nat) : Int) = (v : Int) * 4294967296 + (x : Int) := by rw [Int.natCast_add, Int.natCast_mul, Int.add_comm]; rfl
  have HX1 := Lib.hid (fun W => nsplit_any x W (by omega))
  have HX2 := Lib.hid (fun W => nunstamp_any x W (by omega))
  have HX3 := Lib.hid (fun W => nunvalue_any x W (by omega))
  have m1 : ((x % 1024 : Nat) : Int) = (x : Int) % 1024 := by omega
  have m2 : ((x / 1024 : Nat) : Int) = (x : Int) / 1024 := by omega
  have m3 : ((x % 1073741824 : Nat) : Int) = (x : Int) % 1073741824 := by omega
  have m4 : ((x / 1073741824 : Nat) : Int) = (x : Int) / 1073741824 := by omega
  have m5 : ((x % 4294967296 : Nat) : Int) = (x : Int) % 4294967296 := by omega
  have m6 : ((x / 4294967296 : Nat) : Int) = (x : Int) / 4294967296 := by omega
  rw [m1, m2] at HX1
  rw [m3, m4] at HX2
  rw [m5, m6] at HX3
  clear m1 m2 m3 m4 m5 m6
  rw [er] at HR HR2
  clear er
  rw [es] at HS HS2
  clear es
  rw [ev] at HV HV2
  clear ev
  have HK := Lib.hid (fun W => fun h : Fx W => nknown_any W h)
  have HF := Lib.hid hF
  have h0 := hF.lt
  obtain ⟨I, hI⟩ : ∃ I : Int, I = (i : Int) := ⟨_, rfl⟩
  obtain ⟨V, hV⟩ : ∃ V : Int, V = (v : Int) := ⟨_, rfl⟩
  obtain ⟨X, hX⟩ : ∃ X : Int, X = (x : Int) := ⟨_, rfl⟩
  have i1 : ¬ (I < 1) := by omega
  have i2 : ¬ (1023 < I) := by omega
  have i3 : I ≤ 1023 := by omega
  have v1 : V < 1048576 := by omega
  have v2 : 0 ≤ V := by omega
  have x2 : 0 ≤ X := by omega
  have x3 : X < 18446744073709551616 := by omega
  have x1 : X < 16777216 := by omega
  have x4 : X < 1073741824 := by omega
  rw [← hI, ← hV] at HR
  rw [← hV, ← hX] at HS
  rw [← hV, ← hX] at HV
  rw [← hX] at HX1
  rw [← hX] at HX2
  rw [← hX] at HX3
  rw [← hI, ← hV] at HR2
  rw [← hV, ← hX] at HS2
  rw [← hV, ← hX] at HV2
  rw [← hI, ← hV, ← hX]
  clear hV hX hF hv hx hI hi
  go_enter Tryd.func3, Tryd.ntmps3
  go_wp2_with (first
    | (go_at_call 6; (with_reducible refine (HR.out _).mono ?_); rintro e w1 ⟨rfl, hb⟩; (have HB1 := Lib.hid hb); clear hb)
    | (go_at_call 7; (with_reducible refine (HR2.out _).mono ?_); rintro e w2 ⟨rfl, k1, rfl⟩)
    | (go_at_call 8; (with_reducible refine (HS.out _).mono ?_); rintro e w3 ⟨rfl, hb⟩; (have HB3 := Lib.hid ((below_drewN HB1.out _).trans (hb.mono HB1.out.size))); clear hb)
    | (go_at_call 9; (with_reducible refine (HS2.out _).mono ?_); rintro e w4 ⟨rfl, k2, rfl⟩)
    | (go_at_call 10; (with_reducible refine (HV.out _).mono ?_); rintro e w5 ⟨rfl, hb⟩; (have HB5 := Lib.hid ((below_drewN HB3.out _).trans (hb.mono HB3.out.size))); clear hb)
    | (go_at_call 11; (with_reducible refine (HV2.out _).mono ?_); rintro e w6 ⟨rfl, k3, rfl⟩)
    | (go_at_call 7; (with_reducible refine (HX1.out _).mono ?_); rintro e w7 ⟨rfl, k4, rfl⟩)
    | (go_at_call 9; (with_reducible refine (HX2.out _).mono ?_); rintro e w8 ⟨rfl, k5, rfl⟩)
    | (go_at_call 11; (with_reducible refine (HX3.out _).mono ?_); rintro e w9 ⟨rfl, k6, rfl⟩)
    | (go_at_call 12; (refine (HK.out _ (HF.out.below (below_drewN HB5.out _) h0)).mono ?_); rintro e wz ⟨rfl, hb⟩; (have HBz := Lib.hid ((below_drewN HB5.out _).trans (hb.mono HB5.out.size))); clear hb))
  go_ret
  exact ⟨rfl, HBz.out⟩

set_option maxRecDepth 100000 in
set_option maxHeartbeats 4000000 in
theorem words_mym (i : Nat) (v x : Nat) (w : World) (hF : Fx w) (hi : 1 ≤ i ∧ i ≤ 1023) (hv : v < 1048576) (hx : 16777216 ≤ x ∧ x < 1073741824) :
    Calls Tryd.prog 3 #[.int .i64 (i : Int), .int .u64 v, .int .u64 x] w fun e w' => e = .returned (.bool true) ∧ Below w.heap.size w w' := by
  have HR : Hid (∀ W, Calls Tryd.prog 6 #[.int .i64 (i : Int), .int .u64 (v : Int)] W fun e w' => e = .returned (.tuple #[.int .u64 ((i + v * 1024 : Nat) : Int), .int .i64 0]) ∧ Below W.heap.size W w') := Lib.hid (fun W => nref_yes i v W hi.1 (by omega) hv)
  have HS : Hid (∀ W, Calls Tryd.prog 8 #[.int .u64 (v : Int), .int .u64 (x : Int)] W fun e w' => e = .returned (.tuple #[.int .u64 ((x + v * 1073741824 : Nat) : Int), .int .i64 0]) ∧ Below W.heap.size W w') := Lib.hid (fun W => nstamp_yes x v W (by omega) hv)
  have HV : Hid (∀ W, Calls Tryd.prog 10 #[.int .u64 (v : Int), .int .u64 (x : Int)] W fun e w' => e = .returned (.tuple #[.int .u64 0, .int .i64 10]) ∧ Below W.heap.size W w') := Lib.hid (fun W => nvalue_no x v W (by omega) (by omega) (by omega))
  have HR2 : Hid (∀ W, Calls Tryd.prog 7 #[.int .u64 ((i + v * 1024 : Nat) : Int)] W fun e w' => e = .returned (.tuple #[.int .i64 (i : Int), .int .u64 (v : Int)]) ∧ ∃ k, w' = W.drewN k) := Lib.hid (fun W => by
    have h := nsplit_any (i + v * 1024) W (by omega)
    rwa [show (i + v * 1024) % 1024 = i by omega, show (i + v * 1024) / 1024 = v by omega] at h)
  have er : ((i + v * 1024 : Nat) : Int) = (i : Int) + 1024 * (v : Int) := by omega
  have HS2 : Hid (∀ W, Calls Tryd.prog 9 #[.int .u64 ((x + v * 1073741824 : Nat) : Int)] W fun e w' => e = .returned (.tuple #[.int .u64 (v : Int), .int .u64 (x : Int)]) ∧ ∃ k, w' = W.drewN k) := Lib.hid (fun W => by
    have h := nunstamp_any (x + v * 1073741824) W (by omega)
    rwa [show (x + v * 1073741824) % 1073741824 = x by omega, show (x + v * 1073741824) / 1073741824 = v by omega] at h)
  have es : ((x + v * 1073741824 : Nat) : Int) = (v : Int) * 1073741824 + (x : Int) := by omega
  have HX1 := Lib.hid (fun W => nsplit_any x W (by omega))
  have HX2 := Lib.hid (fun W => nunstamp_any x W (by omega))
  have HX3 := Lib.hid (fun W => nunvalue_any x W (by omega))
  have m1 : ((x % 1024 : Nat) : Int) = (x : Int) % 1024 := by omega
  have m2 : ((x / 1024 : Nat) : Int) = (x : Int) / 1024 := by omega
  have m3 : ((x % 1073741824 : Nat) : Int) = (x : Int) % 1073741824 := by omega
  have m4 : ((x / 1073741824 : Nat) : Int) = (x : Int) / 1073741824 := by omega
  have m5 : ((x % 4294967296 : Nat) : Int) = (x : Int) % 4294967296 := by omega
  have m6 : ((x / 4294967296 : Nat) : Int) = (x : Int) / 4294967296 := by omega
  rw [m1, m2] at HX1
  rw [m3, m4] at HX2
  rw [m5, m6] at HX3
  clear m1 m2 m3 m4 m5 m6
  rw [er] at HR HR2
  clear er
  rw [es] at HS HS2
  clear es
  have HK := Lib.hid (fun W => fun h : Fx W => nknown_any W h)
  have HF := Lib.hid hF
  have h0 := hF.lt
  obtain ⟨I, hI⟩ : ∃ I : Int, I = (i : Int) := ⟨_, rfl⟩
  obtain ⟨V, hV⟩ : ∃ V : Int, V = (v : Int) := ⟨_, rfl⟩
  obtain ⟨X, hX⟩ : ∃ X : Int, X = (x : Int) := ⟨_, rfl⟩
  have i1 : ¬ (I < 1) := by omega
  have i2 : ¬ (1023 < I) := by omega
  have i3 : I ≤ 1023 := by omega
  have v1 : V < 1048576 := by omega
  have v2 : 0 ≤ V := by omega
  have x2 : 0 ≤ X := by omega
  have x3 : X < 18446744073709551616 := by omega
  have x1 : 16777216 ≤ X := by omega
  have x4 : X < 1073741824 := by omega
  rw [← hI, ← hV] at HR
  rw [← hV, ← hX] at HS
  rw [← hV, ← hX] at HV
  rw [← hX] at HX1
  rw [← hX] at HX2
  rw [← hX] at HX3
  rw [← hI, ← hV] at HR2
  rw [← hV, ← hX] at HS2
  rw [← hI, ← hV, ← hX]
  clear hV hX hF hv hx hI hi
  go_enter Tryd.func3, Tryd.ntmps3
  go_wp2_with (first
    | (go_at_call 6; (with_reducible refine (HR.out _).mono ?_); rintro e w1 ⟨rfl, hb⟩; (have HB1 := Lib.hid hb); clear hb)
    | (go_at_call 7; (with_reducible refine (HR2.out _).mono ?_); rintro e w2 ⟨rfl, k1, rfl⟩)
    | (go_at_call 8; (with_reducible refine (HS.out _).mono ?_); rintro e w3 ⟨rfl, hb⟩; (have HB3 := Lib.hid ((below_drewN HB1.out _).trans (hb.mono HB1.out.size))); clear hb)
    | (go_at_call 9; (with_reducible refine (HS2.out _).mono ?_); rintro e w4 ⟨rfl, k2, rfl⟩)
    | (go_at_call 10; (with_reducible refine (HV.out _).mono ?_); rintro e w5 ⟨rfl, hb⟩; (have HB5 := Lib.hid ((below_drewN HB3.out _).trans (hb.mono HB3.out.size))); clear hb)
    | (go_at_call 7; (with_reducible refine (HX1.out _).mono ?_); rintro e w7 ⟨rfl, k4, rfl⟩)
    | (go_at_call 9; (with_reducible refine (HX2.out _).mono ?_); rintro e w8 ⟨rfl, k5, rfl⟩)
    | (go_at_call 11; (with_reducible refine (HX3.out _).mono ?_); rintro e w9 ⟨rfl, k6, rfl⟩)
    | (go_at_call 12; (refine (HK.out _ (HF.out.below (below_drewN HB5.out _) h0)).mono ?_); rintro e wz ⟨rfl, hb⟩; (have HBz := Lib.hid ((below_drewN HB5.out _).trans (hb.mono HB5.out.size))); clear hb))
  go_ret
  exact ⟨rfl, HBz.out⟩

set_option maxRecDepth 100000 in
set_option maxHeartbeats 4000000 in
theorem words_myh (i : Nat) (v x : Nat) (w : World) (hF : Fx w) (hi : 1 ≤ i ∧ i ≤ 1023) (hv : v < 1048576) (hx : 1073741824 ≤ x ∧ x < 18446744073709551616) :
    Calls Tryd.prog 3 #[.int .i64 (i : Int), .int .u64 v, .int .u64 x] w fun e w' => e = .returned (.bool true) ∧ Below w.heap.size w w' := by
  have HR : Hid (∀ W, Calls Tryd.prog 6 #[.int .i64 (i : Int), .int .u64 (v : Int)] W fun e w' => e = .returned (.tuple #[.int .u64 ((i + v * 1024 : Nat) : Int), .int .i64 0]) ∧ Below W.heap.size W w') := Lib.hid (fun W => nref_yes i v W hi.1 (by omega) hv)
  have HS : Hid (∀ W, Calls Tryd.prog 8 #[.int .u64 (v : Int), .int .u64 (x : Int)] W fun e w' => e = .returned (.tuple #[.int .u64 0, .int .i64 10]) ∧ Below W.heap.size W w') := Lib.hid (fun W => nstamp_no x v W (by omega) (by omega) (by omega))
  have HV : Hid (∀ W, Calls Tryd.prog 10 #[.int .u64 (v : Int), .int .u64 (x : Int)] W fun e w' => e = .returned (.tuple #[.int .u64 0, .int .i64 10]) ∧ Below W.heap.size W w') := Lib.hid (fun W => nvalue_no x v W (by omega) (by omega) (by omega))
  have HR2 : Hid (∀ W, Calls Tryd.prog 7 #[.int .u64 ((i + v * 1024 : Nat) : Int)] W fun e w' => e = .returned (.tuple #[.int .i64 (i : Int), .int .u64 (v : Int)]) ∧ ∃ k, w' = W.drewN k) := Lib.hid (fun W => by
    have h := nsplit_any (i + v * 1024) W (by omega)
    rwa [show (i + v * 1024) % 1024 = i by omega, show (i + v * 1024) / 1024 = v by omega] at h)
  have er : ((i + v * 1024 : Nat) : Int) = (i : Int) + 1024 * (v : Int) := by omega
  have HX1 := Lib.hid (fun W => nsplit_any x W (by omega))
  have HX2 := Lib.hid (fun W => nunstamp_any x W (by omega))
  have HX3 := Lib.hid (fun W => nunvalue_any x W (by omega))
  have m1 : ((x % 1024 : Nat) : Int) = (x : Int) % 1024 := by omega
  have m2 : ((x / 1024 : Nat) : Int) = (x : Int) / 1024 := by omega
  have m3 : ((x % 1073741824 : Nat) : Int) = (x : Int) % 1073741824 := by omega
  have m4 : ((x / 1073741824 : Nat) : Int) = (x : Int) / 1073741824 := by omega
  have m5 : ((x % 4294967296 : Nat) : Int) = (x : Int) % 4294967296 := by omega
  have m6 : ((x / 4294967296 : Nat) : Int) = (x : Int) / 4294967296 := by omega
  rw [m1, m2] at HX1
  rw [m3, m4] at HX2
  rw [m5, m6] at HX3
  clear m1 m2 m3 m4 m5 m6
  rw [er] at HR HR2
  clear er
  have HK := Lib.hid (fun W => fun h : Fx W => nknown_any W h)
  have HF := Lib.hid hF
  have h0 := hF.lt
  obtain ⟨I, hI⟩ : ∃ I : Int, I = (i : Int) := ⟨_, rfl⟩
  obtain ⟨V, hV⟩ : ∃ V : Int, V = (v : Int) := ⟨_, rfl⟩
  obtain ⟨X, hX⟩ : ∃ X : Int, X = (x : Int) := ⟨_, rfl⟩
  have i1 : ¬ (I < 1) := by omega
  have i2 : ¬ (1023 < I) := by omega
  have i3 : I ≤ 1023 := by omega
  have v1 : V < 1048576 := by omega
  have v2 : 0 ≤ V := by omega
  have x2 : 0 ≤ X := by omega
  have x3 : X < 18446744073709551616 := by omega
  have x1 : 1073741824 ≤ X := by omega
  rw [← hI, ← hV] at HR
  rw [← hV, ← hX] at HS
  rw [← hV, ← hX] at HV
  rw [← hX] at HX1
  rw [← hX] at HX2
  rw [← hX] at HX3
  rw [← hI, ← hV] at HR2
  rw [← hI, ← hV, ← hX]
  clear hV hX hF hv hx hI hi
  go_enter Tryd.func3, Tryd.ntmps3
  go_wp2_with (first
    | (go_at_call 6; (with_reducible refine (HR.out _).mono ?_); rintro e w1 ⟨rfl, hb⟩; (have HB1 := Lib.hid hb); clear hb)
    | (go_at_call 7; (with_reducible refine (HR2.out _).mono ?_); rintro e w2 ⟨rfl, k1, rfl⟩)
    | (go_at_call 8; (with_reducible refine (HS.out _).mono ?_); rintro e w3 ⟨rfl, hb⟩; (have HB3 := Lib.hid ((below_drewN HB1.out _).trans (hb.mono HB1.out.size))); clear hb)
    | (go_at_call 10; (with_reducible refine (HV.out _).mono ?_); rintro e w5 ⟨rfl, hb⟩; (have HB5 := Lib.hid (HB3.out.trans (hb.mono HB3.out.size))); clear hb)
    | (go_at_call 7; (with_reducible refine (HX1.out _).mono ?_); rintro e w7 ⟨rfl, k4, rfl⟩)
    | (go_at_call 9; (with_reducible refine (HX2.out _).mono ?_); rintro e w8 ⟨rfl, k5, rfl⟩)
    | (go_at_call 11; (with_reducible refine (HX3.out _).mono ?_); rintro e w9 ⟨rfl, k6, rfl⟩)
    | (go_at_call 12; (refine (HK.out _ (HF.out.below (below_drewN HB5.out _) h0)).mono ?_); rintro e wz ⟨rfl, hb⟩; (have HBz := Lib.hid ((below_drewN HB5.out _).trans (hb.mono HB5.out.size))); clear hb))
  go_ret
  exact ⟨rfl, HBz.out⟩

set_option maxRecDepth 100000 in
set_option maxHeartbeats 4000000 in
theorem words_hyl (i : Nat) (v x : Nat) (w : World) (hF : Fx w) (hi : 1023 < i ∧ i ≤ 9223372036854775807) (hv : v < 1048576) (hx : x < 16777216) :
    Calls Tryd.prog 3 #[.int .i64 (i : Int), .int .u64 v, .int .u64 x] w fun e w' => e = .returned (.bool true) ∧ Below w.heap.size w w' := by
  have HR : Hid (∀ W, Calls Tryd.prog 6 #[.int .i64 (i : Int), .int .u64 (v : Int)] W fun e w' => e = .returned (.tuple #[.int .u64 0, .int .i64 10]) ∧ Below W.heap.size W w') := Lib.hid (fun W => nref_no i v W (by omega) (by omega) (by omega) (by omega))
  have HS : Hid (∀ W, Calls Tryd.prog 8 #[.int .u64 (v : Int), .int .u64 (x : Int)] W fun e w' => e = .returned (.tuple #[.int .u64 ((x + v * 1073741824 : Nat) : Int), .int .i64 0]) ∧ Below W.heap.size W w') := Lib.hid (fun W => nstamp_yes x v W (by omega) hv)
  have HV : Hid (∀ W, Calls Tryd.prog 10 #[.int .u64 (v : Int), .int .u64 (x : Int)] W fun e w' => e = .returned (.tuple #[.int .u64 ((x + v * 4294967296 : Nat) : Int), .int .i64 0]) ∧ Below W.heap.size W w') := Lib.hid (fun W => nvalue_yes x v W hx hv)
  have HS2 : Hid (∀ W, Calls Tryd.prog 9 #[.int .u64 ((x + v * 1073741824 : Nat) : Int)] W fun e w' => e = .returned (.tuple #[.int .u64 (v : Int), .int .u64 (x : Int)]) ∧ ∃ k, w' = W.drewN k) := Lib.hid (fun W => by
    have h := nunstamp_any (x + v * 1073741824) W (by omega)
    rwa [show (x + v * 1073741824) % 1073741824 = x by omega, show (x + v * 1073741824) / 1073741824 = v by omega] at h)
  have es : ((x + v * 1073741824 : Nat) : Int) = (v : Int) * 1073741824 + (x : Int) := by omega
  have HV2 : Hid (∀ W, Calls Tryd.prog 11 #[.int .u64 ((x + v * 4294967296 : Nat) : Int)] W fun e w' => e = .returned (.tuple #[.int .u64 (v : Int), .int .u64 (x : Int)]) ∧ ∃ k, w' = W.drewN k) := Lib.hid (fun W => by
    have h := nunvalue_any (x + v * 4294967296) W (by omega)
    rwa [show (x + v * 4294967296) % 4294967296 = x by omega, show (x + v * 4294967296) / 4294967296 = v by omega] at h)
  have ev : ((x + v * 4294967296 : Nat) : Int) = (v : Int) * 4294967296 + (x : Int) := by rw [Int.natCast_add, Int.natCast_mul, Int.add_comm]; rfl
  have HX1 := Lib.hid (fun W => nsplit_any x W (by omega))
  have HX2 := Lib.hid (fun W => nunstamp_any x W (by omega))
  have HX3 := Lib.hid (fun W => nunvalue_any x W (by omega))
  have m1 : ((x % 1024 : Nat) : Int) = (x : Int) % 1024 := by omega
  have m2 : ((x / 1024 : Nat) : Int) = (x : Int) / 1024 := by omega
  have m3 : ((x % 1073741824 : Nat) : Int) = (x : Int) % 1073741824 := by omega
  have m4 : ((x / 1073741824 : Nat) : Int) = (x : Int) / 1073741824 := by omega
  have m5 : ((x % 4294967296 : Nat) : Int) = (x : Int) % 4294967296 := by omega
  have m6 : ((x / 4294967296 : Nat) : Int) = (x : Int) / 4294967296 := by omega
  rw [m1, m2] at HX1
  rw [m3, m4] at HX2
  rw [m5, m6] at HX3
  clear m1 m2 m3 m4 m5 m6
  rw [es] at HS HS2
  clear es
  rw [ev] at HV HV2
  clear ev
  have HK := Lib.hid (fun W => fun h : Fx W => nknown_any W h)
  have HF := Lib.hid hF
  have h0 := hF.lt
  obtain ⟨I, hI⟩ : ∃ I : Int, I = (i : Int) := ⟨_, rfl⟩
  obtain ⟨V, hV⟩ : ∃ V : Int, V = (v : Int) := ⟨_, rfl⟩
  obtain ⟨X, hX⟩ : ∃ X : Int, X = (x : Int) := ⟨_, rfl⟩
  have i1 : ¬ (I < 1) := by omega
  have i2 : 1023 < I := by omega
  have v1 : V < 1048576 := by omega
  have v2 : 0 ≤ V := by omega
  have x2 : 0 ≤ X := by omega
  have x3 : X < 18446744073709551616 := by omega
  have x1 : X < 16777216 := by omega
  have x4 : X < 1073741824 := by omega
  rw [← hI, ← hV] at HR
  rw [← hV, ← hX] at HS
  rw [← hV, ← hX] at HV
  rw [← hX] at HX1
  rw [← hX] at HX2
  rw [← hX] at HX3
  rw [← hV, ← hX] at HS2
  rw [← hV, ← hX] at HV2
  rw [← hI, ← hV, ← hX]
  clear hV hX hF hv hx hI hi
  go_enter Tryd.func3, Tryd.ntmps3
  go_wp2_with (first
    | (go_at_call 6; (with_reducible refine (HR.out _).mono ?_); rintro e w1 ⟨rfl, hb⟩; (have HB1 := Lib.hid hb); clear hb)
    | (go_at_call 8; (with_reducible refine (HS.out _).mono ?_); rintro e w3 ⟨rfl, hb⟩; (have HB3 := Lib.hid (HB1.out.trans (hb.mono HB1.out.size))); clear hb)
    | (go_at_call 9; (with_reducible refine (HS2.out _).mono ?_); rintro e w4 ⟨rfl, k2, rfl⟩)
    | (go_at_call 10; (with_reducible refine (HV.out _).mono ?_); rintro e w5 ⟨rfl, hb⟩; (have HB5 := Lib.hid ((below_drewN HB3.out _).trans (hb.mono HB3.out.size))); clear hb)
    | (go_at_call 11; (with_reducible refine (HV2.out _).mono ?_); rintro e w6 ⟨rfl, k3, rfl⟩)
    | (go_at_call 7; (with_reducible refine (HX1.out _).mono ?_); rintro e w7 ⟨rfl, k4, rfl⟩)
    | (go_at_call 9; (with_reducible refine (HX2.out _).mono ?_); rintro e w8 ⟨rfl, k5, rfl⟩)
    | (go_at_call 11; (with_reducible refine (HX3.out _).mono ?_); rintro e w9 ⟨rfl, k6, rfl⟩)
    | (go_at_call 12; (refine (HK.out _ (HF.out.below (below_drewN HB5.out _) h0)).mono ?_); rintro e wz ⟨rfl, hb⟩; (have HBz := Lib.hid ((below_drewN HB5.out _).trans (hb.mono HB5.out.size))); clear hb))
  go_ret
  exact ⟨rfl, HBz.out⟩

set_option maxRecDepth 100000 in
set_option maxHeartbeats 4000000 in
theorem words_hym (i : Nat) (v x : Nat) (w : World) (hF : Fx w) (hi : 1023 < i ∧ i ≤ 9223372036854775807) (hv : v < 1048576) (hx : 16777216 ≤ x ∧ x < 1073741824) :
    Calls Tryd.prog 3 #[.int .i64 (i : Int), .int .u64 v, .int .u64 x] w fun e w' => e = .returned (.bool true) ∧ Below w.heap.size w w' := by
  have HR : Hid (∀ W, Calls Tryd.prog 6 #[.int .i64 (i : Int), .int .u64 (v : Int)] W fun e w' => e = .returned (.tuple #[.int .u64 0, .int .i64 10]) ∧ Below W.heap.size W w') := Lib.hid (fun W => nref_no i v W (by omega) (by omega) (by omega) (by omega))
  have HS : Hid (∀ W, Calls Tryd.prog 8 #[.int .u64 (v : Int), .int .u64 (x : Int)] W fun e w' => e = .returned (.tuple #[.int .u64 ((x + v * 1073741824 : Nat) : Int), .int .i64 0]) ∧ Below W.heap.size W w') := Lib.hid (fun W => nstamp_yes x v W (by omega) hv)
  have HV : Hid (∀ W, Calls Tryd.prog 10 #[.int .u64 (v : Int), .int .u64 (x : Int)] W fun e w' => e = .returned (.tuple #[.int .u64 0, .int .i64 10]) ∧ Below W.heap.size W w') := Lib.hid (fun W => nvalue_no x v W (by omega) (by omega) (by omega))
  have HS2 : Hid (∀ W, Calls Tryd.prog 9 #[.int .u64 ((x + v * 1073741824 : Nat) : Int)] W fun e w' => e = .returned (.tuple #[.int .u64 (v : Int), .int .u64 (x : Int)]) ∧ ∃ k, w' = W.drewN k) := Lib.hid (fun W => by
    have h := nunstamp_any (x + v * 1073741824) W (by omega)
    rwa [show (x + v * 1073741824) % 1073741824 = x by omega, show (x + v * 1073741824) / 1073741824 = v by omega] at h)
  have es : ((x + v * 1073741824 : Nat) : Int) = (v : Int) * 1073741824 + (x : Int) := by omega
  have HX1 := Lib.hid (fun W => nsplit_any x W (by omega))
  have HX2 := Lib.hid (fun W => nunstamp_any x W (by omega))
  have HX3 := Lib.hid (fun W => nunvalue_any x W (by omega))
  have m1 : ((x % 1024 : Nat) : Int) = (x : Int) % 1024 := by omega
  have m2 : ((x / 1024 : Nat) : Int) = (x : Int) / 1024 := by omega
  have m3 : ((x % 1073741824 : Nat) : Int) = (x : Int) % 1073741824 := by omega
  have m4 : ((x / 1073741824 : Nat) : Int) = (x : Int) / 1073741824 := by omega
  have m5 : ((x % 4294967296 : Nat) : Int) = (x : Int) % 4294967296 := by omega
  have m6 : ((x / 4294967296 : Nat) : Int) = (x : Int) / 4294967296 := by omega
  rw [m1, m2] at HX1
  rw [m3, m4] at HX2
  rw [m5, m6] at HX3
  clear m1 m2 m3 m4 m5 m6
  rw [es] at HS HS2
  clear es
  have HK := Lib.hid (fun W => fun h : Fx W => nknown_any W h)
  have HF := Lib.hid hF
  have h0 := hF.lt
  obtain ⟨I, hI⟩ : ∃ I : Int, I = (i : Int) := ⟨_, rfl⟩
  obtain ⟨V, hV⟩ : ∃ V : Int, V = (v : Int) := ⟨_, rfl⟩
  obtain ⟨X, hX⟩ : ∃ X : Int, X = (x : Int) := ⟨_, rfl⟩
  have i1 : ¬ (I < 1) := by omega
  have i2 : 1023 < I := by omega
  have v1 : V < 1048576 := by omega
  have v2 : 0 ≤ V := by omega
  have x2 : 0 ≤ X := by omega
  have x3 : X < 18446744073709551616 := by omega
  have x1 : 16777216 ≤ X := by omega
  have x4 : X < 1073741824 := by omega
  rw [← hI, ← hV] at HR
  rw [← hV, ← hX] at HS
  rw [← hV, ← hX] at HV
  rw [← hX] at HX1
  rw [← hX] at HX2
  rw [← hX] at HX3
  rw [← hV, ← hX] at HS2
  rw [← hI, ← hV, ← hX]
  clear hV hX hF hv hx hI hi
  go_enter Tryd.func3, Tryd.ntmps3
  go_wp2_with (first
    | (go_at_call 6; (with_reducible refine (HR.out _).mono ?_); rintro e w1 ⟨rfl, hb⟩; (have HB1 := Lib.hid hb); clear hb)
    | (go_at_call 8; (with_reducible refine (HS.out _).mono ?_); rintro e w3 ⟨rfl, hb⟩; (have HB3 := Lib.hid (HB1.out.trans (hb.mono HB1.out.size))); clear hb)
    | (go_at_call 9; (with_reducible refine (HS2.out _).mono ?_); rintro e w4 ⟨rfl, k2, rfl⟩)
    | (go_at_call 10; (with_reducible refine (HV.out _).mono ?_); rintro e w5 ⟨rfl, hb⟩; (have HB5 := Lib.hid ((below_drewN HB3.out _).trans (hb.mono HB3.out.size))); clear hb)
    | (go_at_call 7; (with_reducible refine (HX1.out _).mono ?_); rintro e w7 ⟨rfl, k4, rfl⟩)
    | (go_at_call 9; (with_reducible refine (HX2.out _).mono ?_); rintro e w8 ⟨rfl, k5, rfl⟩)
    | (go_at_call 11; (with_reducible refine (HX3.out _).mono ?_); rintro e w9 ⟨rfl, k6, rfl⟩)
    | (go_at_call 12; (refine (HK.out _ (HF.out.below (below_drewN HB5.out _) h0)).mono ?_); rintro e wz ⟨rfl, hb⟩; (have HBz := Lib.hid ((below_drewN HB5.out _).trans (hb.mono HB5.out.size))); clear hb))
  go_ret
  exact ⟨rfl, HBz.out⟩

set_option maxRecDepth 100000 in
set_option maxHeartbeats 4000000 in
theorem words_hyh (i : Nat) (v x : Nat) (w : World) (hF : Fx w) (hi : 1023 < i ∧ i ≤ 9223372036854775807) (hv : v < 1048576) (hx : 1073741824 ≤ x ∧ x < 18446744073709551616) :
    Calls Tryd.prog 3 #[.int .i64 (i : Int), .int .u64 v, .int .u64 x] w fun e w' => e = .returned (.bool true) ∧ Below w.heap.size w w' := by
  have HR : Hid (∀ W, Calls Tryd.prog 6 #[.int .i64 (i : Int), .int .u64 (v : Int)] W fun e w' => e = .returned (.tuple #[.int .u64 0, .int .i64 10]) ∧ Below W.heap.size W w') := Lib.hid (fun W => nref_no i v W (by omega) (by omega) (by omega) (by omega))
  have HS : Hid (∀ W, Calls Tryd.prog 8 #[.int .u64 (v : Int), .int .u64 (x : Int)] W fun e w' => e = .returned (.tuple #[.int .u64 0, .int .i64 10]) ∧ Below W.heap.size W w') := Lib.hid (fun W => nstamp_no x v W (by omega) (by omega) (by omega))
  have HV : Hid (∀ W, Calls Tryd.prog 10 #[.int .u64 (v : Int), .int .u64 (x : Int)] W fun e w' => e = .returned (.tuple #[.int .u64 0, .int .i64 10]) ∧ Below W.heap.size W w') := Lib.hid (fun W => nvalue_no x v W (by omega) (by omega) (by omega))
  have HX1 := Lib.hid (fun W => nsplit_any x W (by omega))
  have HX2 := Lib.hid (fun W => nunstamp_any x W (by omega))
  have HX3 := Lib.hid (fun W => nunvalue_any x W (by omega))
  have m1 : ((x % 1024 : Nat) : Int) = (x : Int) % 1024 := by omega
  have m2 : ((x / 1024 : Nat) : Int) = (x : Int) / 1024 := by omega
  have m3 : ((x % 1073741824 : Nat) : Int) = (x : Int) % 1073741824 := by omega
  have m4 : ((x / 1073741824 : Nat) : Int) = (x : Int) / 1073741824 := by omega
  have m5 : ((x % 4294967296 : Nat) : Int) = (x : Int) % 4294967296 := by omega
  have m6 : ((x / 4294967296 : Nat) : Int) = (x : Int) / 4294967296 := by omega
  rw [m1, m2] at HX1
  rw [m3, m4] at HX2
  rw [m5, m6] at HX3
  clear m1 m2 m3 m4 m5 m6
  have HK := Lib.hid (fun W => fun h : Fx W => nknown_any W h)
  have HF := Lib.hid hF
  have h0 := hF.lt
  obtain ⟨I, hI⟩ : ∃ I : Int, I = (i : Int) := ⟨_, rfl⟩
  obtain ⟨V, hV⟩ : ∃ V : Int, V = (v : Int) := ⟨_, rfl⟩
  obtain ⟨X, hX⟩ : ∃ X : Int, X = (x : Int) := ⟨_, rfl⟩
  have i1 : ¬ (I < 1) := by omega
  have i2 : 1023 < I := by omega
  have v1 : V < 1048576 := by omega
  have v2 : 0 ≤ V := by omega
  have x2 : 0 ≤ X := by omega
  have x3 : X < 18446744073709551616 := by omega
  have x1 : 1073741824 ≤ X := by omega
  rw [← hI, ← hV] at HR
  rw [← hV, ← hX] at HS
  rw [← hV, ← hX] at HV
  rw [← hX] at HX1
  rw [← hX] at HX2
  rw [← hX] at HX3
  rw [← hI, ← hV, ← hX]
  clear hV hX hF hv hx hI hi
  go_enter Tryd.func3, Tryd.ntmps3
  go_wp2_with (first
    | (go_at_call 6; (with_reducible refine (HR.out _).mono ?_); rintro e w1 ⟨rfl, hb⟩; (have HB1 := Lib.hid hb); clear hb)
    | (go_at_call 8; (with_reducible refine (HS.out _).mono ?_); rintro e w3 ⟨rfl, hb⟩; (have HB3 := Lib.hid (HB1.out.trans (hb.mono HB1.out.size))); clear hb)
    | (go_at_call 10; (with_reducible refine (HV.out _).mono ?_); rintro e w5 ⟨rfl, hb⟩; (have HB5 := Lib.hid (HB3.out.trans (hb.mono HB3.out.size))); clear hb)
    | (go_at_call 7; (with_reducible refine (HX1.out _).mono ?_); rintro e w7 ⟨rfl, k4, rfl⟩)
    | (go_at_call 9; (with_reducible refine (HX2.out _).mono ?_); rintro e w8 ⟨rfl, k5, rfl⟩)
    | (go_at_call 11; (with_reducible refine (HX3.out _).mono ?_); rintro e w9 ⟨rfl, k6, rfl⟩)
    | (go_at_call 12; (refine (HK.out _ (HF.out.below (below_drewN HB5.out _) h0)).mono ?_); rintro e wz ⟨rfl, hb⟩; (have HBz := Lib.hid ((below_drewN HB5.out _).trans (hb.mono HB5.out.size))); clear hb))
  go_ret
  exact ⟨rfl, HBz.out⟩

set_option maxRecDepth 100000 in
set_option maxHeartbeats 4000000 in
theorem words_lna (i : Int) (v x : Nat) (w : World) (hF : Fx w) (hi : i < 1) (hv : 1048576 ≤ v ∧ v < 18446744073709551616) (hx : x < 18446744073709551616) :
    Calls Tryd.prog 3 #[.int .i64 i, .int .u64 v, .int .u64 x] w fun e w' => e = .returned (.bool true) ∧ Below w.heap.size w w' := by
  have HR : Hid (∀ W, Calls Tryd.prog 6 #[.int .i64 i, .int .u64 (v : Int)] W fun e w' => e = .returned (.tuple #[.int .u64 0, .int .i64 10]) ∧ Below W.heap.size W w') := Lib.hid (fun W => nref_low i v W hi)
  have HS : Hid (∀ W, Calls Tryd.prog 8 #[.int .u64 (v : Int), .int .u64 (x : Int)] W fun e w' => e = .returned (.tuple #[.int .u64 0, .int .i64 10]) ∧ Below W.heap.size W w') := Lib.hid (fun W => nstamp_no x v W (by omega) (by omega) (by omega))
  have HV : Hid (∀ W, Calls Tryd.prog 10 #[.int .u64 (v : Int), .int .u64 (x : Int)] W fun e w' => e = .returned (.tuple #[.int .u64 0, .int .i64 10]) ∧ Below W.heap.size W w') := Lib.hid (fun W => nvalue_no x v W (by omega) (by omega) (by omega))
  have HX1 := Lib.hid (fun W => nsplit_any x W (by omega))
  have HX2 := Lib.hid (fun W => nunstamp_any x W (by omega))
  have HX3 := Lib.hid (fun W => nunvalue_any x W (by omega))
  have m1 : ((x % 1024 : Nat) : Int) = (x : Int) % 1024 := by omega
  have m2 : ((x / 1024 : Nat) : Int) = (x : Int) / 1024 := by omega
  have m3 : ((x % 1073741824 : Nat) : Int) = (x : Int) % 1073741824 := by omega
  have m4 : ((x / 1073741824 : Nat) : Int) = (x : Int) / 1073741824 := by omega
  have m5 : ((x % 4294967296 : Nat) : Int) = (x : Int) % 4294967296 := by omega
  have m6 : ((x / 4294967296 : Nat) : Int) = (x : Int) / 4294967296 := by omega
  rw [m1, m2] at HX1
  rw [m3, m4] at HX2
  rw [m5, m6] at HX3
  clear m1 m2 m3 m4 m5 m6
  have HK := Lib.hid (fun W => fun h : Fx W => nknown_any W h)
  have HF := Lib.hid hF
  have h0 := hF.lt
  obtain ⟨V, hV⟩ : ∃ V : Int, V = (v : Int) := ⟨_, rfl⟩
  obtain ⟨X, hX⟩ : ∃ X : Int, X = (x : Int) := ⟨_, rfl⟩
  have v1 : 1048576 ≤ V := by omega
  have v2 : 0 ≤ V := by omega
  have x2 : 0 ≤ X := by omega
  have x3 : X < 18446744073709551616 := by omega
  rw [← hV] at HR
  rw [← hV, ← hX] at HS
  rw [← hV, ← hX] at HV
  rw [← hX] at HX1
  rw [← hX] at HX2
  rw [← hX] at HX3
  rw [← hV, ← hX]
  clear hV hX hF hv hx
  go_enter Tryd.func3, Tryd.ntmps3
  go_wp2_with (first
    | (go_at_call 6; (with_reducible refine (HR.out _).mono ?_); rintro e w1 ⟨rfl, hb⟩; (have HB1 := Lib.hid hb); clear hb)
    | (go_at_call 8; (with_reducible refine (HS.out _).mono ?_); rintro e w3 ⟨rfl, hb⟩; (have HB3 := Lib.hid (HB1.out.trans (hb.mono HB1.out.size))); clear hb)
    | (go_at_call 10; (with_reducible refine (HV.out _).mono ?_); rintro e w5 ⟨rfl, hb⟩; (have HB5 := Lib.hid (HB3.out.trans (hb.mono HB3.out.size))); clear hb)
    | (go_at_call 7; (with_reducible refine (HX1.out _).mono ?_); rintro e w7 ⟨rfl, k4, rfl⟩)
    | (go_at_call 9; (with_reducible refine (HX2.out _).mono ?_); rintro e w8 ⟨rfl, k5, rfl⟩)
    | (go_at_call 11; (with_reducible refine (HX3.out _).mono ?_); rintro e w9 ⟨rfl, k6, rfl⟩)
    | (go_at_call 12; (refine (HK.out _ (HF.out.below (below_drewN HB5.out _) h0)).mono ?_); rintro e wz ⟨rfl, hb⟩; (have HBz := Lib.hid ((below_drewN HB5.out _).trans (hb.mono HB5.out.size))); clear hb))
  go_ret
  exact ⟨rfl, HBz.out⟩

set_option maxRecDepth 100000 in
set_option maxHeartbeats 4000000 in
theorem words_mna (i : Nat) (v x : Nat) (w : World) (hF : Fx w) (hi : 1 ≤ i ∧ i ≤ 1023) (hv : 1048576 ≤ v ∧ v < 18446744073709551616) (hx : x < 18446744073709551616) :
    Calls Tryd.prog 3 #[.int .i64 (i : Int), .int .u64 v, .int .u64 x] w fun e w' => e = .returned (.bool true) ∧ Below w.heap.size w w' := by
  have HR : Hid (∀ W, Calls Tryd.prog 6 #[.int .i64 (i : Int), .int .u64 (v : Int)] W fun e w' => e = .returned (.tuple #[.int .u64 0, .int .i64 10]) ∧ Below W.heap.size W w') := Lib.hid (fun W => nref_no i v W (by omega) (by omega) (by omega) (by omega))
  have HS : Hid (∀ W, Calls Tryd.prog 8 #[.int .u64 (v : Int), .int .u64 (x : Int)] W fun e w' => e = .returned (.tuple #[.int .u64 0, .int .i64 10]) ∧ Below W.heap.size W w') := Lib.hid (fun W => nstamp_no x v W (by omega) (by omega) (by omega))
  have HV : Hid (∀ W, Calls Tryd.prog 10 #[.int .u64 (v : Int), .int .u64 (x : Int)] W fun e w' => e = .returned (.tuple #[.int .u64 0, .int .i64 10]) ∧ Below W.heap.size W w') := Lib.hid (fun W => nvalue_no x v W (by omega) (by omega) (by omega))
  have HX1 := Lib.hid (fun W => nsplit_any x W (by omega))
  have HX2 := Lib.hid (fun W => nunstamp_any x W (by omega))
  have HX3 := Lib.hid (fun W => nunvalue_any x W (by omega))
  have m1 : ((x % 1024 : Nat) : Int) = (x : Int) % 1024 := by omega
  have m2 : ((x / 1024 : Nat) : Int) = (x : Int) / 1024 := by omega
  have m3 : ((x % 1073741824 : Nat) : Int) = (x : Int) % 1073741824 := by omega
  have m4 : ((x / 1073741824 : Nat) : Int) = (x : Int) / 1073741824 := by omega
  have m5 : ((x % 4294967296 : Nat) : Int) = (x : Int) % 4294967296 := by omega
  have m6 : ((x / 4294967296 : Nat) : Int) = (x : Int) / 4294967296 := by omega
  rw [m1, m2] at HX1
  rw [m3, m4] at HX2
  rw [m5, m6] at HX3
  clear m1 m2 m3 m4 m5 m6
  have HK := Lib.hid (fun W => fun h : Fx W => nknown_any W h)
  have HF := Lib.hid hF
  have h0 := hF.lt
  obtain ⟨I, hI⟩ : ∃ I : Int, I = (i : Int) := ⟨_, rfl⟩
  obtain ⟨V, hV⟩ : ∃ V : Int, V = (v : Int) := ⟨_, rfl⟩
  obtain ⟨X, hX⟩ : ∃ X : Int, X = (x : Int) := ⟨_, rfl⟩
  have i1 : ¬ (I < 1) := by omega
  have i2 : ¬ (1023 < I) := by omega
  have i3 : I ≤ 1023 := by omega
  have v1 : 1048576 ≤ V := by omega
  have v2 : 0 ≤ V := by omega
  have x2 : 0 ≤ X := by omega
  have x3 : X < 18446744073709551616 := by omega
  rw [← hI, ← hV] at HR
  rw [← hV, ← hX] at HS
  rw [← hV, ← hX] at HV
  rw [← hX] at HX1
  rw [← hX] at HX2
  rw [← hX] at HX3
  rw [← hI, ← hV, ← hX]
  clear hV hX hF hv hx hI hi
  go_enter Tryd.func3, Tryd.ntmps3
  go_wp2_with (first
    | (go_at_call 6; (with_reducible refine (HR.out _).mono ?_); rintro e w1 ⟨rfl, hb⟩; (have HB1 := Lib.hid hb); clear hb)
    | (go_at_call 8; (with_reducible refine (HS.out _).mono ?_); rintro e w3 ⟨rfl, hb⟩; (have HB3 := Lib.hid (HB1.out.trans (hb.mono HB1.out.size))); clear hb)
    | (go_at_call 10; (with_reducible refine (HV.out _).mono ?_); rintro e w5 ⟨rfl, hb⟩; (have HB5 := Lib.hid (HB3.out.trans (hb.mono HB3.out.size))); clear hb)
    | (go_at_call 7; (with_reducible refine (HX1.out _).mono ?_); rintro e w7 ⟨rfl, k4, rfl⟩)
    | (go_at_call 9; (with_reducible refine (HX2.out _).mono ?_); rintro e w8 ⟨rfl, k5, rfl⟩)
    | (go_at_call 11; (with_reducible refine (HX3.out _).mono ?_); rintro e w9 ⟨rfl, k6, rfl⟩)
    | (go_at_call 12; (refine (HK.out _ (HF.out.below (below_drewN HB5.out _) h0)).mono ?_); rintro e wz ⟨rfl, hb⟩; (have HBz := Lib.hid ((below_drewN HB5.out _).trans (hb.mono HB5.out.size))); clear hb))
  go_ret
  exact ⟨rfl, HBz.out⟩

set_option maxRecDepth 100000 in
set_option maxHeartbeats 4000000 in
theorem words_hna (i : Nat) (v x : Nat) (w : World) (hF : Fx w) (hi : 1023 < i ∧ i ≤ 9223372036854775807) (hv : 1048576 ≤ v ∧ v < 18446744073709551616) (hx : x < 18446744073709551616) :
    Calls Tryd.prog 3 #[.int .i64 (i : Int), .int .u64 v, .int .u64 x] w fun e w' => e = .returned (.bool true) ∧ Below w.heap.size w w' := by
  have HR : Hid (∀ W, Calls Tryd.prog 6 #[.int .i64 (i : Int), .int .u64 (v : Int)] W fun e w' => e = .returned (.tuple #[.int .u64 0, .int .i64 10]) ∧ Below W.heap.size W w') := Lib.hid (fun W => nref_no i v W (by omega) (by omega) (by omega) (by omega))
  have HS : Hid (∀ W, Calls Tryd.prog 8 #[.int .u64 (v : Int), .int .u64 (x : Int)] W fun e w' => e = .returned (.tuple #[.int .u64 0, .int .i64 10]) ∧ Below W.heap.size W w') := Lib.hid (fun W => nstamp_no x v W (by omega) (by omega) (by omega))
  have HV : Hid (∀ W, Calls Tryd.prog 10 #[.int .u64 (v : Int), .int .u64 (x : Int)] W fun e w' => e = .returned (.tuple #[.int .u64 0, .int .i64 10]) ∧ Below W.heap.size W w') := Lib.hid (fun W => nvalue_no x v W (by omega) (by omega) (by omega))
  have HX1 := Lib.hid (fun W => nsplit_any x W (by omega))
  have HX2 := Lib.hid (fun W => nunstamp_any x W (by omega))
  have HX3 := Lib.hid (fun W => nunvalue_any x W (by omega))
  have m1 : ((x % 1024 : Nat) : Int) = (x : Int) % 1024 := by omega
  have m2 : ((x / 1024 : Nat) : Int) = (x : Int) / 1024 := by omega
  have m3 : ((x % 1073741824 : Nat) : Int) = (x : Int) % 1073741824 := by omega
  have m4 : ((x / 1073741824 : Nat) : Int) = (x : Int) / 1073741824 := by omega
  have m5 : ((x % 4294967296 : Nat) : Int) = (x : Int) % 4294967296 := by omega
  have m6 : ((x / 4294967296 : Nat) : Int) = (x : Int) / 4294967296 := by omega
  rw [m1, m2] at HX1
  rw [m3, m4] at HX2
  rw [m5, m6] at HX3
  clear m1 m2 m3 m4 m5 m6
  have HK := Lib.hid (fun W => fun h : Fx W => nknown_any W h)
  have HF := Lib.hid hF
  have h0 := hF.lt
  obtain ⟨I, hI⟩ : ∃ I : Int, I = (i : Int) := ⟨_, rfl⟩
  obtain ⟨V, hV⟩ : ∃ V : Int, V = (v : Int) := ⟨_, rfl⟩
  obtain ⟨X, hX⟩ : ∃ X : Int, X = (x : Int) := ⟨_, rfl⟩
  have i1 : ¬ (I < 1) := by omega
  have i2 : 1023 < I := by omega
  have v1 : 1048576 ≤ V := by omega
  have v2 : 0 ≤ V := by omega
  have x2 : 0 ≤ X := by omega
  have x3 : X < 18446744073709551616 := by omega
  rw [← hI, ← hV] at HR
  rw [← hV, ← hX] at HS
  rw [← hV, ← hX] at HV
  rw [← hX] at HX1
  rw [← hX] at HX2
  rw [← hX] at HX3
  rw [← hI, ← hV, ← hX]
  clear hV hX hF hv hx hI hi
  go_enter Tryd.func3, Tryd.ntmps3
  go_wp2_with (first
    | (go_at_call 6; (with_reducible refine (HR.out _).mono ?_); rintro e w1 ⟨rfl, hb⟩; (have HB1 := Lib.hid hb); clear hb)
    | (go_at_call 8; (with_reducible refine (HS.out _).mono ?_); rintro e w3 ⟨rfl, hb⟩; (have HB3 := Lib.hid (HB1.out.trans (hb.mono HB1.out.size))); clear hb)
    | (go_at_call 10; (with_reducible refine (HV.out _).mono ?_); rintro e w5 ⟨rfl, hb⟩; (have HB5 := Lib.hid (HB3.out.trans (hb.mono HB3.out.size))); clear hb)
    | (go_at_call 7; (with_reducible refine (HX1.out _).mono ?_); rintro e w7 ⟨rfl, k4, rfl⟩)
    | (go_at_call 9; (with_reducible refine (HX2.out _).mono ?_); rintro e w8 ⟨rfl, k5, rfl⟩)
    | (go_at_call 11; (with_reducible refine (HX3.out _).mono ?_); rintro e w9 ⟨rfl, k6, rfl⟩)
    | (go_at_call 12; (refine (HK.out _ (HF.out.below (below_drewN HB5.out _) h0)).mono ?_); rintro e wz ⟨rfl, hb⟩; (have HBz := Lib.hid ((below_drewN HB5.out _).trans (hb.mono HB5.out.size))); clear hb))
  go_ret
  exact ⟨rfl, HBz.out⟩

theorem words_walk (i : Int) (v x : Nat) (w : World) (hF : Fx w) (hi : -9223372036854775808 ≤ i ∧ i ≤ 9223372036854775807) (hv : v < 18446744073709551616) (hx : x < 18446744073709551616) :
    Calls Tryd.prog 3 #[.int .i64 i, .int .u64 v, .int .u64 x] w fun e w' => e = .returned (.bool true) ∧ Below w.heap.size w w' := by
  by_cases h1 : i < 1
  · by_cases h2 : v < 1048576
    · by_cases h3 : x < 16777216
      · exact words_lyl i v x w hF h1 h2 h3
      · by_cases h4 : x < 1073741824
        · exact words_lym i v x w hF h1 h2 (by omega)
        · exact words_lyh i v x w hF h1 h2 (by omega)
    · exact words_lna i v x w hF h1 (by omega) hx
  · obtain ⟨i, rfl⟩ : ∃ t : Nat, i = t := ⟨i.toNat, by omega⟩
    by_cases h5 : i ≤ 1023
    · by_cases h2 : v < 1048576
      · by_cases h3 : x < 16777216
        · exact words_myl i v x w hF (by omega) h2 h3
        · by_cases h4 : x < 1073741824
          · exact words_mym i v x w hF (by omega) h2 (by omega)
          · exact words_myh i v x w hF (by omega) h2 (by omega)
      · exact words_mna i v x w hF (by omega) (by omega) hx
    · by_cases h2 : v < 1048576
      · by_cases h3 : x < 16777216
        · exact words_hyl i v x w hF (by omega) h2 h3
        · by_cases h4 : x < 1073741824
          · exact words_hym i v x w hF (by omega) h2 (by omega)
          · exact words_hyh i v x w hF (by omega) h2 (by omega)
      · exact words_hna i v x w hF (by omega) (by omega) hx
end Go.Proofs.YtgfmidpcgoadlaaDoor
