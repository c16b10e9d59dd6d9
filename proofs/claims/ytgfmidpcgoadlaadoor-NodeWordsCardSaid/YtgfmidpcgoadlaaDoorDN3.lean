/- node: words put together, and taken apart. -/
import Derived.Test.YtgfmidpcgoadlaaDoorDN2
namespace Go.Proofs.YtgfmidpcgoadlaaDoor
open Go.RowKit

theorem pack_two {s1 s2 x v : Nat} (a1 : 1 ≤ s1) (a2 : 1 ≤ s2) (h : s1 + s2 ≤ 64) (hx : x < 2 ^ s1) (hv : v < 2 ^ s2) : packGo [((s1 : Int), x), ((s2 : Int), v)] 0 0 = (0, x + v * 2 ^ s1) := by
  rw [packGo_next a1 (by omega) hx, packGo_next a2 (by omega) hv, pu_low (a := 0) (by decide) (by omega), Nat.zero_add, Nat.zero_add, Nat.pow_zero, Nat.mul_one, pu_low hx (by omega)]
  rfl
theorem pack_two_no {s1 s2 x v : Nat} (a1 : 1 ≤ s1) (a2 : 1 ≤ s2) (h : s1 + s2 ≤ 64) (hv : ¬ (x < 2 ^ s1 ∧ v < 2 ^ s2)) : packGo [((s1 : Int), x), ((s2 : Int), v)] 0 0 = (10, 0) := by
  by_cases hx : x < 2 ^ s1
  · rw [packGo_next a1 (by omega) hx, packGo_range a2 (by omega) (fun c => hv ⟨hx, c⟩)]
  · rw [packGo_range a1 (by omega) hx]
theorem pack_val {x v : Nat} (hx : x < 16777216) (hv : v < 1048576) : packGo [((24 : Nat), x), ((8 : Nat), 0), ((20 : Nat), v)] 0 0 = (0, x + v * 4294967296) := by
  have h2 : x < 2 ^ 32 := by omega
  rw [packGo_next (s := 24) (by decide) (by decide) (by omega), packGo_next (s := 8) (by decide) (by decide) (by decide), packGo_next (s := 20) (by decide) (by decide) (by omega),
    pu_low (a := 0) (by decide) (by omega), Nat.zero_add, Nat.zero_add, Nat.pow_zero, Nat.mul_one, pu_low (a := 24) (by omega) (by omega), Nat.zero_mul, show 24 + 8 = 32 from rfl, Nat.add_zero x, pu_low h2 (by omega)]
  rfl
theorem pack_val_no {x v : Nat} (hv : ¬ (x < 16777216 ∧ v < 1048576)) : packGo [((24 : Nat), x), ((8 : Nat), 0), ((20 : Nat), v)] 0 0 = (10, 0) := by
  by_cases hx : x < 16777216
  · rw [packGo_next (s := 24) (by decide) (by decide) (by omega), packGo_next (s := 8) (by decide) (by decide) (by decide), packGo_range (s := 20) (by decide) (by decide) (by omega)]
  · rw [packGo_range (s := 24) (by decide) (by decide) (by omega)]

/-- word.Pack of two fields that lie in a new block -/
theorem pack2_new (s1 s2 : Int) (x v : Nat) (b : Nat) (W : World) (h1 : -9223372036854775808 ≤ s1 ∧ s1 ≤ 9223372036854775807) (h2 : -9223372036854775808 ≤ s2 ∧ s2 ≤ 9223372036854775807) (hx : x < 18446744073709551616) (hv : v < 18446744073709551616) (hb : b < W.heap.size)
    (c0 : W.cell? ⟨b, 0, none⟩ = some (.int .i64 s1)) (c1 : W.cell? ⟨b, 1, none⟩ = some (.int .u64 x)) (c2 : W.cell? ⟨b, 2, none⟩ = some (.int .i64 s2)) (c3 : W.cell? ⟨b, 3, none⟩ = some (.int .u64 v)) :
    Calls Tryd.prog 21 #[.slice (some ⟨b, 0, none⟩) 2 2] W fun e w' => e = .returned (.tuple #[.int .u64 ((packGo [(s1, x), (s2, v)] 0 0).2 : Nat), .int .i64 ((packGo [(s1, x), (s2, v)] 0 0).1 : Nat)]) ∧ Below W.heap.size W w' := by
  refine pack_any (some ⟨b, 0, none⟩) b 0 2 [(s1, x), (s2, v)] W (by simp) (fun _ => hb) (fun _ => rfl) ?_
  intro i y hy
  match i, hy with
  | 0, hy => simp at hy; subst hy; exact ⟨c0, c1, h1, hx⟩
  | 1, hy => simp at hy; subst hy; exact ⟨c2, c3, h2, hv⟩
theorem new_lt0 (w : World) (o : Obj) : w.heap.size < (w.alloc o).heap.size := by simp
theorem new_at0 (w : World) (vs : Array Value) (t : TypeId) {i : Nat} {v : Value} (h : vs[i]? = some v) : (w.alloc (.cells vs t)).cell? ⟨w.heap.size, i, none⟩ = some v :=
  (World.cell?_alloc_at _ _ _ _ rfl).trans h

set_option maxHeartbeats 400000 in
theorem nref_pos (x v : Nat) (w : World) (hx : x < 18446744073709551616) (hv : v < 18446744073709551616) (h1 : 1 ≤ x) (h2 : x ≤ 9223372036854775807) :
    Calls Tryd.prog 6 #[.int .i64 (x : Int), .int .u64 v] w fun e w' => e = .returned (.tuple #[.int .u64 ((packGo [(10, x), (20, v)] 0 0).2 : Nat), .int .i64 ((packGo [(10, x), (20, v)] 0 0).1 : Nat)]) ∧ Below w.heap.size w w' := by
  have HP : Hid (∀ W : World, Calls Tryd.prog 21 #[.slice (some ⟨W.heap.size, 0, none⟩) 2 2] (W.alloc (.cells #[.int .i64 10, .int .u64 (x : Int), .int .i64 20, .int .u64 (v : Int)] 47)) fun e w' =>
      e = .returned (.tuple #[.int .u64 ((packGo [(10, x), (20, v)] 0 0).2 : Nat), .int .i64 ((packGo [(10, x), (20, v)] 0 0).1 : Nat)]) ∧ Below W.heap.size W w') := Lib.hid (fun W => by
    refine (pack2_new 10 20 x v W.heap.size _ (by omega) (by omega) hx hv (new_lt0 _ _) (new_at0 _ _ _ rfl) (new_at0 _ _ _ rfl) (new_at0 _ _ _ rfl) (new_at0 _ _ _ rfl)).mono ?_
    rintro e w' ⟨rfl, hb⟩
    exact ⟨rfl, ((Below.refl _ _).alloc (Nat.le_refl _) _).trans (hb.mono (by simp))⟩)
  generalize (packGo [(10, x), (20, v)] 0 0).2 = r2 at *
  generalize (packGo [(10, x), (20, v)] 0 0).1 = r1 at *
  go_enter Tryd.func6, Tryd.ntmps6
  go_wp2_with (first
    | (go_at_call 21; (with_reducible refine (HP.out _).mono ?_); rintro e w2 ⟨rfl, hb⟩; (have HB2 := Lib.hid hb); clear hb))
  go_ret2
  exact ⟨rfl, HB2.out⟩
set_option maxHeartbeats 400000 in
theorem nstamp_raw (x v : Nat) (w : World) (hx : x < 18446744073709551616) (hv : v < 18446744073709551616) :
    Calls Tryd.prog 8 #[.int .u64 v, .int .u64 x] w fun e w' => e = .returned (.tuple #[.int .u64 ((packGo [(30, x), (20, v)] 0 0).2 : Nat), .int .i64 ((packGo [(30, x), (20, v)] 0 0).1 : Nat)]) ∧ Below w.heap.size w w' := by
  have HP : Hid (∀ W : World, Calls Tryd.prog 21 #[.slice (some ⟨W.heap.size, 0, none⟩) 2 2] (W.alloc (.cells #[.int .i64 30, .int .u64 (x : Int), .int .i64 20, .int .u64 (v : Int)] 47)) fun e w' =>
      e = .returned (.tuple #[.int .u64 ((packGo [(30, x), (20, v)] 0 0).2 : Nat), .int .i64 ((packGo [(30, x), (20, v)] 0 0).1 : Nat)]) ∧ Below W.heap.size W w') := Lib.hid (fun W => by
    refine (pack2_new 30 20 x v W.heap.size _ (by omega) (by omega) hx hv (new_lt0 _ _) (new_at0 _ _ _ rfl) (new_at0 _ _ _ rfl) (new_at0 _ _ _ rfl) (new_at0 _ _ _ rfl)).mono ?_
    rintro e w' ⟨rfl, hb⟩
    exact ⟨rfl, ((Below.refl _ _).alloc (Nat.le_refl _) _).trans (hb.mono (by simp))⟩)
  generalize (packGo [(30, x), (20, v)] 0 0).2 = r2 at *
  generalize (packGo [(30, x), (20, v)] 0 0).1 = r1 at *
  go_enter Tryd.func8, Tryd.ntmps8
  go_wp2_with (first
    | (go_at_call 21; (with_reducible refine (HP.out _).mono ?_); rintro e w2 ⟨rfl, hb⟩; (have HB2 := Lib.hid hb); clear hb))
  go_ret2
  exact ⟨rfl, HB2.out⟩
/-- word.Pack of a value's three fields that lie in a new block -/
theorem pack3_new (x v : Nat) (b : Nat) (W : World) (hx : x < 18446744073709551616) (hv : v < 18446744073709551616) (hb : b < W.heap.size)
    (c0 : W.cell? ⟨b, 0, none⟩ = some (.int .i64 24)) (c1 : W.cell? ⟨b, 1, none⟩ = some (.int .u64 x)) (c2 : W.cell? ⟨b, 2, none⟩ = some (.int .i64 8)) (c3 : W.cell? ⟨b, 3, none⟩ = some (.int .u64 0)) (c4 : W.cell? ⟨b, 4, none⟩ = some (.int .i64 20)) (c5 : W.cell? ⟨b, 5, none⟩ = some (.int .u64 v)) :
    Calls Tryd.prog 21 #[.slice (some ⟨b, 0, none⟩) 3 3] W fun e w' => e = .returned (.tuple #[.int .u64 ((packGo [(24, x), (8, 0), (20, v)] 0 0).2 : Nat), .int .i64 ((packGo [(24, x), (8, 0), (20, v)] 0 0).1 : Nat)]) ∧ Below W.heap.size W w' := by
  refine pack_any (some ⟨b, 0, none⟩) b 0 3 [(24, x), (8, 0), (20, v)] W (by simp) (fun _ => hb) (fun _ => rfl) ?_
  intro i y hy
  match i, hy with
  | 0, hy => simp at hy; subst hy; exact ⟨c0, c1, by dsimp only; omega, hx⟩
  | 1, hy => simp at hy; subst hy; exact ⟨c2, c3, by dsimp only; omega, by dsimp only; omega⟩
  | 2, hy => simp at hy; subst hy; exact ⟨c4, c5, by dsimp only; omega, hv⟩
set_option maxHeartbeats 400000 in
theorem nvalue_raw (x v : Nat) (w : World) (hx : x < 18446744073709551616) (hv : v < 18446744073709551616) :
    Calls Tryd.prog 10 #[.int .u64 v, .int .u64 x] w fun e w' => e = .returned (.tuple #[.int .u64 ((packGo [(24, x), (8, 0), (20, v)] 0 0).2 : Nat), .int .i64 ((packGo [(24, x), (8, 0), (20, v)] 0 0).1 : Nat)]) ∧ Below w.heap.size w w' := by
  have HP : Hid (∀ W : World, Calls Tryd.prog 21 #[.slice (some ⟨W.heap.size, 0, none⟩) 3 3] (W.alloc (.cells #[.int .i64 24, .int .u64 (x : Int), .int .i64 8, .int .u64 0, .int .i64 20, .int .u64 (v : Int)] 47)) fun e w' =>
      e = .returned (.tuple #[.int .u64 ((packGo [(24, x), (8, 0), (20, v)] 0 0).2 : Nat), .int .i64 ((packGo [(24, x), (8, 0), (20, v)] 0 0).1 : Nat)]) ∧ Below W.heap.size W w') := Lib.hid (fun W => by
    refine (pack3_new x v W.heap.size _  hx hv (new_lt0 _ _) (new_at0 _ _ _ rfl) (new_at0 _ _ _ rfl) (new_at0 _ _ _ rfl) (new_at0 _ _ _ rfl) (new_at0 _ _ _ rfl) (new_at0 _ _ _ rfl)).mono ?_
    rintro e w' ⟨rfl, hb⟩
    exact ⟨rfl, ((Below.refl _ _).alloc (Nat.le_refl _) _).trans (hb.mono (by simp))⟩)
  generalize (packGo [(24, x), (8, 0), (20, v)] 0 0).2 = r2 at *
  generalize (packGo [(24, x), (8, 0), (20, v)] 0 0).1 = r1 at *
  go_enter Tryd.func10, Tryd.ntmps10
  go_wp2_with (first
    | (go_at_call 21; (with_reducible refine (HP.out _).mono ?_); rintro e w2 ⟨rfl, hb⟩; (have HB2 := Lib.hid hb); clear hb))
  go_ret2
  exact ⟨rfl, HB2.out⟩
theorem nref_yes (x v : Nat) (w : World) (h1 : 1 ≤ x) (hx : x < 1024) (hv : v < 1048576) :
    Calls Tryd.prog 6 #[.int .i64 x, .int .u64 v] w fun e w' => e = .returned (.tuple #[.int .u64 ((x + v * 1024 : Nat) : Int), .int .i64 0]) ∧ Below w.heap.size w w' := by
  have h2 := nref_pos x v w (by omega) (by omega) h1 (by omega)
  rw [show ([((10 : Int), x), ((20 : Int), v)]) = [(((10 : Nat) : Int), x), (((20 : Nat) : Int), v)] from rfl, pack_two (by decide) (by decide) (by decide) (by omega) (by omega)] at h2
  exact h2
theorem nref_no (x v : Nat) (w : World) (h1 : 1 ≤ x) (hx : x ≤ 9223372036854775807) (hv : v < 18446744073709551616) (h : ¬ (x < 1024 ∧ v < 1048576)) :
    Calls Tryd.prog 6 #[.int .i64 x, .int .u64 v] w fun e w' => e = .returned (.tuple #[.int .u64 0, .int .i64 10]) ∧ Below w.heap.size w w' := by
  have h2 := nref_pos x v w (by omega) hv h1 hx
  rw [show ([((10 : Int), x), ((20 : Int), v)]) = [(((10 : Nat) : Int), x), (((20 : Nat) : Int), v)] from rfl, pack_two_no (by decide) (by decide) (by decide) (by omega)] at h2
  exact h2
set_option maxHeartbeats 400000 in
theorem nref_low (i : Int) (v : Int) (w : World) (h1 : i < 1) :
    Calls Tryd.prog 6 #[.int .i64 i, .int .u64 v] w fun e w' => e = .returned (.tuple #[.int .u64 0, .int .i64 10]) ∧ Below w.heap.size w w' := by
  go_enter Tryd.func6, Tryd.ntmps6
  go_wp2
  go_ret2
  exact ⟨rfl, Below.refl _ _⟩
theorem nstamp_yes (x v : Nat) (w : World) (hx : x < 1073741824) (hv : v < 1048576) :
    Calls Tryd.prog 8 #[.int .u64 v, .int .u64 x] w fun e w' => e = .returned (.tuple #[.int .u64 ((x + v * 1073741824 : Nat) : Int), .int .i64 0]) ∧ Below w.heap.size w w' := by
  have h2 := nstamp_raw x v w (by omega) (by omega)
  rw [show ([((30 : Int), x), ((20 : Int), v)]) = [(((30 : Nat) : Int), x), (((20 : Nat) : Int), v)] from rfl, pack_two (by decide) (by decide) (by decide) (by omega) (by omega)] at h2
  exact h2
theorem nstamp_no (x v : Nat) (w : World) (hx : x < 18446744073709551616) (hv : v < 18446744073709551616) (h : ¬ (x < 1073741824 ∧ v < 1048576)) :
    Calls Tryd.prog 8 #[.int .u64 v, .int .u64 x] w fun e w' => e = .returned (.tuple #[.int .u64 0, .int .i64 10]) ∧ Below w.heap.size w w' := by
  have h2 := nstamp_raw x v w hx hv
  rw [show ([((30 : Int), x), ((20 : Int), v)]) = [(((30 : Nat) : Int), x), (((20 : Nat) : Int), v)] from rfl, pack_two_no (by decide) (by decide) (by decide) (by omega)] at h2
  exact h2
theorem nvalue_yes (x v : Nat) (w : World) (hx : x < 16777216) (hv : v < 1048576) :
    Calls Tryd.prog 10 #[.int .u64 v, .int .u64 x] w fun e w' => e = .returned (.tuple #[.int .u64 ((x + v * 4294967296 : Nat) : Int), .int .i64 0]) ∧ Below w.heap.size w w' := by
  have h2 := nvalue_raw x v w (by omega) (by omega)
  rw [show ([((24 : Int), x), ((8 : Int), 0), ((20 : Int), v)]) = [(((24 : Nat) : Int), x), (((8 : Nat) : Int), 0), (((20 : Nat) : Int), v)] from rfl, pack_val hx hv] at h2
  exact h2
theorem nvalue_no (x v : Nat) (w : World) (hx : x < 18446744073709551616) (hv : v < 18446744073709551616) (h : ¬ (x < 16777216 ∧ v < 1048576)) :
    Calls Tryd.prog 10 #[.int .u64 v, .int .u64 x] w fun e w' => e = .returned (.tuple #[.int .u64 0, .int .i64 10]) ∧ Below w.heap.size w w' := by
  have h2 := nvalue_raw x v w hx hv
  rw [show ([((24 : Int), x), ((8 : Int), 0), ((20 : Int), v)]) = [(((24 : Nat) : Int), x), (((8 : Nat) : Int), 0), (((20 : Nat) : Int), v)] from rfl, pack_val_no h] at h2
  exact h2

theorem fld_hi {n : Nat} (a : Nat) (hn : n < 18446744073709551616) (h : a ≤ 64) : fld n a (64 - a) = n / 2 ^ a := by
  unfold fld
  apply Nat.mod_eq_of_lt
  apply Nat.div_lt_of_lt_mul
  rw [← Nat.pow_add, Nat.add_sub_of_le h]
  exact hn
theorem fld_lo (n s : Nat) : fld n 0 s = n % 2 ^ s := by unfold fld; rw [Nat.pow_zero, Nat.div_one]
set_option maxHeartbeats 400000 in
theorem nsplit_any (x : Nat) (w : World) (hx : x < 18446744073709551616) :
    Calls Tryd.prog 7 #[.int .u64 x] w fun e w' => e = .returned (.tuple #[.int .i64 ((x % 1024 : Nat) : Int), .int .u64 ((x / 1024 : Nat) : Int)]) ∧ ∃ k, w' = w.drewN k := by
  have HC : Hid (∀ W, Calls Tryd.prog 22 #[.int .u64 x, .int .i64 10] W fun e w' => e = .returned (.tuple #[.int .u64 ((x % 1024 : Nat) : Int), .int .u64 ((x / 1024 : Nat) : Int)]) ∧ ∃ k, w' = W.drewN k) := Lib.hid (fun W => by
    have h := cut_any x 10 W hx (by decide) (by decide)
    rwa [fld_lo, fld_hi 10 hx (by decide)] at h)
  have hm := Nat.mod_lt x (show 0 < 1024 by decide)
  generalize x % 1024 = a at *
  generalize x / 1024 = b at *
  go_enter Tryd.func7, Tryd.ntmps7
  go_wp2_with (first
    | (go_at_call 22; (with_reducible refine (HC.out _).mono ?_); rintro e w1 ⟨rfl, k1, rfl⟩))
  go_ret2
  exact ⟨rfl, _, rfl⟩
set_option maxHeartbeats 400000 in
theorem nunstamp_any (x : Nat) (w : World) (hx : x < 18446744073709551616) :
    Calls Tryd.prog 9 #[.int .u64 x] w fun e w' => e = .returned (.tuple #[.int .u64 ((x / 1073741824 : Nat) : Int), .int .u64 ((x % 1073741824 : Nat) : Int)]) ∧ ∃ k, w' = w.drewN k := by
  have HC : Hid (∀ W, Calls Tryd.prog 22 #[.int .u64 x, .int .i64 30] W fun e w' => e = .returned (.tuple #[.int .u64 ((x % 1073741824 : Nat) : Int), .int .u64 ((x / 1073741824 : Nat) : Int)]) ∧ ∃ k, w' = W.drewN k) := Lib.hid (fun W => by
    have h := cut_any x 30 W hx (by decide) (by decide)
    rwa [fld_lo, fld_hi 30 hx (by decide)] at h)
  generalize x % 1073741824 = a at *
  generalize x / 1073741824 = b at *
  go_enter Tryd.func9, Tryd.ntmps9
  go_wp2_with (first
    | (go_at_call 22; (with_reducible refine (HC.out _).mono ?_); rintro e w1 ⟨rfl, k1, rfl⟩))
  go_ret2
  exact ⟨rfl, _, rfl⟩
set_option maxHeartbeats 400000 in
theorem nunvalue_any (x : Nat) (w : World) (hx : x < 18446744073709551616) :
    Calls Tryd.prog 11 #[.int .u64 x] w fun e w' => e = .returned (.tuple #[.int .u64 ((x / 4294967296 : Nat) : Int), .int .u64 ((x % 4294967296 : Nat) : Int)]) ∧ ∃ k, w' = w.drewN k := by
  have HC : Hid (∀ W, Calls Tryd.prog 22 #[.int .u64 x, .int .i64 32] W fun e w' => e = .returned (.tuple #[.int .u64 ((x % 4294967296 : Nat) : Int), .int .u64 ((x / 4294967296 : Nat) : Int)]) ∧ ∃ k, w' = W.drewN k) := Lib.hid (fun W => by
    have h := cut_any x 32 W hx (by decide) (by decide)
    rwa [fld_lo, fld_hi 32 hx (by decide)] at h)
  generalize x % 4294967296 = a at *
  generalize x / 4294967296 = b at *
  go_enter Tryd.func11, Tryd.ntmps11
  go_wp2_with (first
    | (go_at_call 22; (with_reducible refine (HC.out _).mono ?_); rintro e w1 ⟨rfl, k1, rfl⟩))
  go_ret2
  exact ⟨rfl, _, rfl⟩

set_option maxHeartbeats 1000000 in
theorem nknown_any (w : World) (hF : Fx w) :
    Calls Tryd.prog 12 #[] w fun e w' => e = .returned (.bool true) ∧ Below w.heap.size w w' := by
  have HA : Hid (Calls Tryd.prog 13 #[.int .i64 2, .int .i64 3, .int .i64 1, .int .i64 0] w fun e w' => e = .returned (.tuple #[.int .i64 4, .bool true]) ∧ w = w') := Lib.hid (at_any 2 3 1 0 w hF)
  have HO : Hid (∀ W, Calls Tryd.prog 14 #[.int .i64 2, .int .i64 3, .int .i64 5] W fun e w' => e = .returned (.tuple #[.int .i64 1, .bool true]) ∧ W = w') := Lib.hid (fun W => nowner_any 2 3 5 W)
  have HR : Hid (∀ W, Calls Tryd.prog 6 #[.int .i64 5, .int .u64 2] W fun e w' => e = .returned (.tuple #[.int .u64 2053, .int .i64 0]) ∧ Below W.heap.size W w') := Lib.hid (fun W => nref_yes 5 2 W (by decide) (by decide) (by decide))
  have HS : Hid (∀ W, Calls Tryd.prog 16 #[.int .i64 2, .int .i64 3] W fun e w' => e = .returned (.int .i64 32) ∧ W = w') := Lib.hid (fun W => nsize_yes 2 3 W (by decide))
  clear hF
  go_enter Tryd.func12, Tryd.ntmps12
  go_wp2_with (first
    | (go_at_call 13; (with_reducible refine HA.out.mono ?_); rintro e w1 ⟨rfl, rfl⟩)
    | (go_at_call 14; (with_reducible refine (HO.out _).mono ?_); rintro e w1 ⟨rfl, rfl⟩)
    | (go_at_call 16; (with_reducible refine (HS.out _).mono ?_); rintro e w1 ⟨rfl, rfl⟩)
    | (go_at_call 6; (with_reducible refine (HR.out _).mono ?_); rintro e w1 ⟨rfl, hb⟩; (have HB2 := Lib.hid hb); clear hb))
  go_ret
  exact ⟨rfl, HB2.out⟩
end Go.Proofs.YtgfmidpcgoadlaaDoor
