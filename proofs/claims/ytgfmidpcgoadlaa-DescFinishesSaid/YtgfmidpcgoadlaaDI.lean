/- Walk of the law DescFinishes. -/
import Derived.Test.YtgfmidpcgoadlaaDG
namespace Go.Proofs.Ytgfmidpcgoadlaa
open Go.RowKit

theorem dW_done {t : Bool} {l f : Nat} (g : Nat) (u : Bool) : dW (dWord false t l f) g u = false := by
  unfold dW; rw [dP_word]; rfl
theorem dW_load {n l : Nat} (hl : l < 1073741824) (g : Nat) (u : Bool) : dW (dWord (dP n) (dT n) l (dF n)) g u = dW n g u := by
  unfold dW; rw [dP_word, dT_word, dF_word hl]

set_option maxRecDepth 100000 in
set_option maxHeartbeats 2000000 in
theorem finishes_high (n l f : Nat) (t : Bool) (w : World) (hn : n < 18446744073709551616) (hl : l < 18446744073709551616) (h : ¬ l < 1073741824) :
    Calls Try.prog 4 #[.agg #[.int .u64 n, .int .u64 l, .int .u64 f], .bool t] w fun e w' => e = .returned (.bool true) ∧ Below w.heap.size w w' := by
  have HF : Hid (∀ W, Calls Try.prog 14 #[.int .u64 n, .int .u64 l] W fun e w' => e = .returned (.tuple #[.int .u64 0, .int .i64 10]) ∧ Below W.heap.size W w') := Lib.hid (fun W => by
    have h1 := finish_any n l W hn hl
    rw [dPk_no (fun x => h x.1)] at h1
    exact h1)
  have HL : Hid (∀ W, Calls Try.prog 15 #[.int .u64 n, .int .u64 l] W fun e w' => e = .returned (.tuple #[.int .u64 0, .int .i64 10]) ∧ Below W.heap.size W w') := Lib.hid (fun W => by
    have h1 := load_any n l W hn hl
    rw [dPk_no (fun x => h x.1)] at h1
    exact h1)
  have hi : ¬ ((l : Int) < 1073741824) := by omega
  have HA : Hid (Below w.heap.size w (w.alloc (.cells #[.int .u64 (n : Int), .int .u64 (l : Int), .int .u64 (f : Int)] 35))) := Lib.hid ((Below.refl _ _).alloc (Nat.le_refl _) _)
  generalize hL : (l : Int) = L at *
  clear hn hl h hL
  go_enter Try.func4, Try.ntmps4
  go_wp2_with fail
  go_quiet (fail)
  go_wp2_with (first
    | (go_at_call 14; (with_reducible refine (HF.out _).mono ?_); rintro e w1 ⟨rfl, hb⟩
       have HB1 := Lib.hid ((below_drewN HA.out _).trans (hb.mono HA.out.size))
       clear hb)
    | (go_at_call 15; (with_reducible refine (HL.out _).mono ?_); rintro e w2 ⟨rfl, hb⟩
       have HB2 := Lib.hid (HB1.out.trans (hb.mono HB1.out.size))
       clear hb)
    | (go_at_call 13; (refine (put_any _).mono ?_); rintro e w3 ⟨rfl, hb⟩
       have HB3 := Lib.hid (HB2.out.trans (hb.mono HB2.out.size))
       clear hb))
  go_ret
  exact ⟨rfl, HB3.out⟩

set_option maxRecDepth 100000 in
set_option maxHeartbeats 4000000 in
theorem finishes_low (n l f : Nat) (t : Bool) (w : World) (hn : n < 18446744073709551616) (h : l < 1073741824) :
    Calls Try.prog 4 #[.agg #[.int .u64 n, .int .u64 l, .int .u64 f], .bool t] w fun e w' => e = .returned (.bool true) ∧ Below w.heap.size w w' := by
  have hf := dF_lt hn
  have HF : Hid (∀ W, Calls Try.prog 14 #[.int .u64 n, .int .u64 l] W fun e w' => e = .returned (.tuple #[.int .u64 (dWord false (dT n) l (dF n) : Nat), .int .i64 0]) ∧ Below W.heap.size W w') := Lib.hid (fun W => by
    have h1 := finish_any n l W hn (by omega)
    rw [dPk_yes h hf] at h1
    exact h1)
  have HL : Hid (∀ W, Calls Try.prog 15 #[.int .u64 n, .int .u64 l] W fun e w' => e = .returned (.tuple #[.int .u64 (dWord (dP n) (dT n) l (dF n) : Nat), .int .i64 0]) ∧ Below W.heap.size W w') := Lib.hid (fun W => by
    have h1 := load_any n l W hn (by omega)
    rw [dPk_yes h hf] at h1
    exact h1)
  have HW := Lib.hid (fun W => waits_any n f t W hn)
  have HWX := Lib.hid (fun W => waits_any (dWord false (dT n) l (dF n)) f t W (dWord_lt h hf))
  have HWY := Lib.hid (fun W => waits_any (dWord (dP n) (dT n) l (dF n)) f t W (dWord_lt h hf))
  rw [dW_done] at HWX
  rw [dW_load h] at HWY
  have HR := Lib.hid (fun W => rwaits_any n f t W hn)
  have HWF := Lib.hid (fun W => rwith_any n l false W hn h)
  have HWP := Lib.hid (fun W => rwith_any n l (dP n) W hn h)
  have HP := Lib.hid (fun W => rpending_any n W hn)
  have hi : ((l : Int) < 1073741824) := by omega
  have HA : Hid (Below w.heap.size w (w.alloc (.cells #[.int .u64 (n : Int), .int .u64 (l : Int), .int .u64 (f : Int)] 35))) := Lib.hid ((Below.refl _ _).alloc (Nat.le_refl _) _)
  generalize dWord false (dT n) l (dF n) = X at *
  generalize dWord (dP n) (dT n) l (dF n) = Y at *
  generalize dW n f t = b at *
  generalize dP n = p at *
  generalize hL : (l : Int) = L at *
  clear hn h hL hf
  go_enter Try.func4, Try.ntmps4
  go_wp2_with fail
  go_quiet (fail)
  go_wp2_with (first
    | (go_at_call 14; (with_reducible refine (HF.out _).mono ?_); rintro e w1 ⟨rfl, hb⟩
       have HB1 := Lib.hid ((below_drewN HA.out _).trans (hb.mono HA.out.size))
       clear hb)
    | (go_at_call 15; (with_reducible refine (HL.out _).mono ?_); rintro e w2 ⟨rfl, hb⟩
       have HB2 := Lib.hid (HB1.out.trans (hb.mono HB1.out.size))
       clear hb)
    | (go_at_call 9; (with_reducible refine (HP.out _).mono ?_); rintro e w5 ⟨rfl, rfl⟩)
    | (go_at_call 16; (with_reducible refine (HWF.out _).mono ?_); rintro e w5 ⟨rfl, rfl⟩)
    | (go_at_call 16; (with_reducible refine (HWP.out _).mono ?_); rintro e w5 ⟨rfl, rfl⟩)
    | (go_at_call 18; (with_reducible refine (HR.out _).mono ?_); rintro e w5 ⟨rfl, rfl⟩)
    | (go_at_call 17; (with_reducible refine (HW.out _).mono ?_); rintro e w6 ⟨rfl, hb⟩
       have HB6 := Lib.hid (HB2.out.trans (hb.mono HB2.out.size))
       clear hb)
    | (go_at_call 17; (with_reducible refine (HWX.out _).mono ?_); rintro e w7 ⟨rfl, hb⟩
       have HB7 := Lib.hid (HB6.out.trans (hb.mono HB6.out.size))
       clear hb)
    | (go_at_call 17; (with_reducible refine (HWY.out _).mono ?_); rintro e w8 ⟨rfl, hb⟩
       have HB8 := Lib.hid (HB7.out.trans (hb.mono HB7.out.size))
       clear hb)
    | (go_at_call 13; (refine (put_any _).mono ?_); rintro e w3 ⟨rfl, hb⟩
       have HB3 := Lib.hid (HB8.out.trans (hb.mono HB8.out.size))
       clear hb))
  go_ret
  exact ⟨rfl, HB3.out⟩
end Go.Proofs.Ytgfmidpcgoadlaa
