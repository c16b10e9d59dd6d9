/- Walks of the reader: a number of two bytes, a varint, how many threads. -/
import Derived.Test.YticaheiomidanaaIA
namespace Go.Proofs.Yticaheiomidanaa
open Go.RowKit

def pPair (l : List Nat) : Option (Nat × List Nat) := match pNext l with
  | none => none
  | some (a, r) => match pNext r with
    | none => none
    | some (b, r2) => some (a * 256 + b, r2)

theorem pNext_lt {L : List Nat} {i x : Nat} {r : List Nat} (hL : ∀ y ∈ L, y < 256) (h : pNext (L.drop i) = some (x, r)) : x < 256 := by
  cases hd : L.drop i with
  | nil => rw [hd] at h; cases h
  | cons y t =>
    rw [hd] at h
    cases h
    exact hL _ (List.mem_of_mem_drop (i := i) (by rw [hd]; simp))
theorem Src.bytes {w : World} {rb : Nat} {ao : Option Addr} {b o : Nat} {L : List Nat} (h : Src w rb ao b o L) : ∀ y ∈ L, y < 256 := fun y hy => by
  obtain ⟨i, hi⟩ := List.mem_iff_getElem?.1 hy; exact (h.cells i y hi).2

set_option maxHeartbeats 400000 in
theorem pair_any (rb : Nat) (ao : Option Addr) (b o c : Nat) (L : List Nat) (i : Nat) (w : World) (hs : Src w rb ao b o L) (hr : RdS w rb ao L c i) (hi : i ≤ L.length) :
    Calls Try.prog 42 #[.pointer (some ⟨rb, 0, none⟩)] w (RP rb ao c L w (pPair (L.drop i)) intV) := by
  have H1 := Lib.hid (next_any rb ao b o c L i w hs hr hi)
  have HS := Lib.hid hs
  have HR := Lib.hid hr
  have HLT := Lib.hid (fun j x r => pNext_lt (L := L) (i := j) (x := x) (r := r) hs.bytes)
  clear hs hr
  cases h1 : pNext (L.drop i) with
  | none =>
    have e : pPair (L.drop i) = none := by unfold pPair; rw [h1]
    rw [e]
    rw [h1] at H1
    clear e h1
    go_enter Try.func42, Try.ntmps42
    go_wp2_with fail
    refine H1.out.mono ?_
    rintro e w1 ⟨hb, p, r, hp1, hp2, hr1, hr2, rfl⟩
    go_wp2_with fail
    exact bad_end rfl hb ⟨p, r, hp1, hp2, hr1, hr2, rfl⟩
  | some q =>
    obtain ⟨x, r1⟩ := q
    have hx := HLT.out _ _ _ h1
    rw [h1] at H1
    cases h2 : pNext r1 with
    | none =>
      have e : pPair (L.drop i) = none := by unfold pPair; rw [h1]; simp only; rw [h2]
      rw [e]
      have H2 := Lib.hid h2
      clear e h1 h2
      go_enter Try.func42, Try.ntmps42
      go_wp2_with fail
      refine H1.out.mono ?_
      rintro e w1 ⟨hb, _, j, rfl, rfl, hd, hj, hr1⟩
      have N := next_any rb ao b o c L j w1 (HS.out.keep (lt_of_heap HR.out) hb) hr1 hj
      rw [← hd, H2.out] at N
      have HN := Lib.hid N
      clear N
      go_wp2_with fail
      refine HN.out.mono ?_
      rintro e w2 ⟨hb2, p, r, hp1, hp2, hr1, hr2, rfl⟩
      go_wp2_with fail
      exact bad_end rfl (hb.trans hb2) ⟨p, r, hp1, hp2, hr1, hr2, rfl⟩
    | some q2 =>
      obtain ⟨y, r2⟩ := q2
      have e : pPair (L.drop i) = some (x * 256 + y, r2) := by unfold pPair; rw [h1]; simp only; rw [h2]
      rw [e]
      have H2 := Lib.hid h2
      clear e h1 h2
      go_enter Try.func42, Try.ntmps42
      go_wp2_with fail
      refine H1.out.mono ?_
      rintro e w1 ⟨hb, _, j, rfl, rfl, hd, hj, hr1⟩
      have N := next_any rb ao b o c L j w1 (HS.out.keep (lt_of_heap HR.out) hb) hr1 hj
      have hy := HLT.out j y r2 (by rw [← hd]; exact H2.out)
      rw [← hd, H2.out] at N
      have HN := Lib.hid N
      clear N
      go_wp2_with fail
      refine HN.out.mono ?_
      rintro e w2 ⟨hb2, _, k, rfl, rfl, hd2, hk, hr2⟩
      go_wp2_with fail
      go_ret
      exact ⟨hb.trans hb2, _, k, rfl, by show _ = _; go_num, hd2, hk, hr2⟩

/-- a varint -/
def pVar : Nat → Nat → Nat → List Nat → Option (Nat × List Nat)
  | 0, _, _, _ => none
  | f + 1, i, acc, l => match pNext l with
    | none => none
    | some (x, r) => if (i = 9 ∧ 1 < x) ∨ (0 < i ∧ x = 0) then none else if x < 128 then some (acc + x % 128 * 2 ^ (7 * i), r) else pVar f (i + 1) (acc + x % 128 * 2 ^ (7 * i)) r
def wordV (x : Nat) (u : Value) (_ : World) : Prop := u = .int .u64 (x : Int)

theorem and127 {x : Nat} (h : x < 256) : bits .and .i64 (x : Int) 127 = ((x % 128 : Nat) : Int) := by
  have : ∀ y : Fin 256, bits .and .i64 ((y.val : Nat) : Int) 127 = ((y.val % 128 : Nat) : Int) := by decide +kernel
  exact this ⟨x, h⟩
theorem or_add {a y k : Nat} (h : a < 2 ^ k) : a ||| (y * 2 ^ k) = a + y * 2 ^ k := by
  rw [← Nat.shiftLeft_eq, Nat.or_comm, ← Nat.shiftLeft_add_eq_or_of_lt h, Nat.add_comm]
theorem var_fits {n acc x : Nat} (hn : n ≤ 9) (ha : acc < 2 ^ (7 * n)) (hb : ¬ ((n = 9 ∧ 1 < x) ∨ (0 < n ∧ x = 0))) :
    x % 128 * 2 ^ (7 * n) < 18446744073709551616 ∧ acc + x % 128 * 2 ^ (7 * n) < 18446744073709551616 := by
  by_cases h9 : n = 9
  · subst h9
    have hx : x = 1 := by omega
    subst hx
    have : (2 : Nat) ^ (7 * 9) = 9223372036854775808 := by decide
    omega
  · have h1 : (2 : Nat) ^ (7 * n) ≤ 2 ^ 56 := Nat.pow_le_pow_right (by decide) (by omega)
    have h2 : x % 128 < 128 := Nat.mod_lt _ (by decide)
    have h3 : x % 128 * 2 ^ (7 * n) ≤ 127 * 2 ^ 56 := Nat.mul_le_mul (by omega) h1
    have : (2 : Nat) ^ 56 = 72057594037927936 := by decide
    omega
theorem var_or {n acc y : Nat} (hn : n ≤ 9) (ha : acc < 2 ^ (7 * n)) (h : y * 2 ^ (7 * n) < 18446744073709551616) : bits .or .u64 (acc : Int) ((y * 2 ^ (7 * n) : Nat) : Int) = ((acc + y * 2 ^ (7 * n) : Nat) : Int) := by
  have h1 : (2 : Nat) ^ (7 * n) ≤ 2 ^ 63 := Nat.pow_le_pow_right (by decide) (by omega)
  have h2 : (2 : Nat) ^ 63 = 9223372036854775808 := by decide
  rw [u64_or_nat _ _ (by omega) h, or_add ha]
theorem acc_lt {n acc x : Nat} (ha : acc < 2 ^ (7 * n)) : acc + x % 128 * 2 ^ (7 * n) < 2 ^ (7 * (n + 1)) := by
  have h2 : x % 128 < 128 := Nat.mod_lt _ (by decide)
  have h3 : x % 128 * 2 ^ (7 * n) ≤ 127 * 2 ^ (7 * n) := Nat.mul_le_mul_right _ (by omega)
  have h4 : (2 : Nat) ^ (7 * (n + 1)) = 128 * 2 ^ (7 * n) := by rw [show 7 * (n + 1) = 7 + 7 * n by omega, Nat.pow_add]
  omega
theorem var_wrap {n y : Nat} (h : y * 2 ^ (7 * n) < 18446744073709551616) : IntKind.u64.wrap ((y : Int) * 2 ^ (7 * n)) = ((y * 2 ^ (7 * n) : Nat) : Int) := by
  have e : ((y * 2 ^ (7 * n) : Nat) : Int) = (y : Int) * 2 ^ (7 * n) := by rw [Int.natCast_mul, Int.natCast_pow]; rfl
  rw [← e]
  exact IntWalk.u64_in _ (by omega)

set_option maxRecDepth 100000 in
set_option maxHeartbeats 1000000 in
theorem varint_any (rb : Nat) (ao : Option Addr) (b o c : Nat) (L : List Nat) (i : Nat) (w : World) (hs : Src w rb ao b o L) (hr : RdS w rb ao L c i) (hi : i ≤ L.length) :
    Calls Try.prog 44 #[.pointer (some ⟨rb, 0, none⟩)] w (RP rb ao c L w (pVar 10 0 0 (L.drop i)) wordV) := by
  have HS := Lib.hid hs
  have HR := Lib.hid hr
  have HLT := Lib.hid (fun j x r => pNext_lt (L := L) (i := j) (x := x) (r := r) hs.bytes)
  clear hs hr
  go_enter Try.func44, Try.ntmps44
  go_wp2
  go_loopw [3, 4] (fun x k wr => ∃ (n acc j : Nat), n ≤ 9 ∧ acc < 2 ^ (7 * n) ∧ k = .int .i64 n ∧ x = .int .u64 acc ∧ j ≤ L.length ∧ But1 rb w wr ∧ RdS wr rb ao L c j ∧ Hid (pVar (10 - n) n acc (L.drop j) = pVar 10 0 0 (L.drop i))) (fun _ k _ => 10 - (intOf k).toNat)
  case atStart => exact ⟨0, 0, i, by omega, by decide, rfl, rfl, hi, But1.refl _ _, HR.out, Lib.hid rfl⟩
  case round =>
    obtain ⟨n, acc, j, hn, hacc, rfl, rfl, hj, hbt, hrd, hp⟩ := hrel
    have r1 := cell_of_heap hrd (k := 1) rfl
    have N := next_any rb ao b o c L j wr (HS.out.keep (lt_of_heap HR.out) hbt) hrd hj
    cases h1 : pNext (L.drop j) with
    | none =>
      rw [h1] at N
      have HN := Lib.hid N
      have hq : pVar 10 0 0 (L.drop i) = none := by
        rw [← hp.out]
        obtain ⟨f, hf⟩ : ∃ f, 10 - n = f + 1 := ⟨9 - n, by omega⟩
        rw [hf, pVar, h1]
      have HQ := Lib.hid hq
      clear N h1 hq hp
      go_wp2_with fail
      refine HN.out.mono ?_
      rintro e w1 ⟨hb, p, r, hp1, hp2, hr1, hr2, rfl⟩
      go_wp2_with fail
      rw [HQ.out]
      exact bad_end rfl (hbt.trans hb) ⟨p, r, hp1, hp2, hr1, hr2, rfl⟩
    | some q =>
      obtain ⟨x, rr⟩ := q
      have hx := HLT.out _ _ _ h1
      rw [h1] at N
      have HN := Lib.hid N
      obtain ⟨f, hf⟩ : ∃ f, 10 - n = f + 1 := ⟨9 - n, by omega⟩
      have hv : pVar 10 0 0 (L.drop i) = if (n = 9 ∧ 1 < x) ∨ (0 < n ∧ x = 0) then none else if x < 128 then some (acc + x % 128 * 2 ^ (7 * n), rr) else pVar f (n + 1) (acc + x % 128 * 2 ^ (7 * n)) rr := by
        rw [← hp.out, hf, pVar, h1]
      clear N h1 hp
      by_cases hbad : (n = 9 ∧ 1 < x) ∨ (0 < n ∧ x = 0)
      · rw [if_pos hbad] at hv
        have HQ := Lib.hid hv
        clear hv
        by_cases g1 : n = 9
        · have d1 : ((n : Int) == 9) = true := by rw [g1]; rfl
          have d2 : (0 : Int) < n := by omega
          by_cases g2 : 1 < x
          · have d3 : (1 : Int) < x := by omega
            clear hbad g1 g2
            go_wp2_with fail
            refine HN.out.mono ?_
            rintro e w1 ⟨hb, _, k, rfl, rfl, hd, hk, hr1⟩
            go_wp2_with fail
            rw [HQ.out]
            exact bad_end rfl (hbt.trans hb) ⟨j, 5, by omega, by omega, by decide, by decide, rfl⟩
          · have d3 : ¬ (1 : Int) < x := by omega
            have d4 : ((x : Int) == 0) = true := by rw [show x = 0 by omega]; rfl
            clear hbad g1 g2
            go_wp2_with fail
            refine HN.out.mono ?_
            rintro e w1 ⟨hb, _, k, rfl, rfl, hd, hk, hr1⟩
            go_wp2_with fail
            rw [HQ.out]
            exact bad_end rfl (hbt.trans hb) ⟨j, 5, by omega, by omega, by decide, by decide, rfl⟩
        · have d1 : ((n : Int) == 9) = false := beq_false_of_ne (by omega)
          have d2 : (0 : Int) < n := by omega
          have d4 : ((x : Int) == 0) = true := by rw [show x = 0 by omega]; rfl
          clear hbad g1
          go_wp2_with fail
          refine HN.out.mono ?_
          rintro e w1 ⟨hb, _, k, rfl, rfl, hd, hk, hr1⟩
          go_wp2_with fail
          rw [HQ.out]
          exact bad_end rfl (hbt.trans hb) ⟨j, 5, by omega, by omega, by decide, by decide, rfl⟩
      · rw [if_neg hbad] at hv
        have hy : x % 128 * 2 ^ (7 * n) < 18446744073709551616 ∧ acc + x % 128 * 2 ^ (7 * n) < 18446744073709551616 := var_fits hn hacc hbad
        have hor := var_or hn hacc hy.1
        have hal := acc_lt (x := x) hacc
        have hand := and127 hx
        have hwr := var_wrap hy.1
        have hy1 : x % 128 < 128 := Nat.mod_lt _ (by decide)
        generalize hY : x % 128 = y at *
        generalize hZ : y * 2 ^ (7 * n) = z at *
        have hz1 := hy.1
        have hz2 := hy.2
        clear hy
        have HAL := Lib.hid hal
        have HY := Lib.hid hY
        have HZ := Lib.hid hZ
        clear hal hY hZ
        by_cases g1 : n = 9
        · have d1 : ((n : Int) == 9) = true := by rw [g1]; rfl
          have d2 : (0 : Int) < n := by omega
          have d3 : ¬ (1 : Int) < x := by omega
          have d4 : ((x : Int) == 0) = false := beq_false_of_ne (by omega)
          have d6 : (x : Int) < 128 := by omega
          rw [if_pos (show x < 128 by omega)] at hv
          have HQ := Lib.hid hv
          clear hv hbad g1
          go_wp2_with fail
          refine HN.out.mono ?_
          rintro e w1 ⟨hb, _, k, rfl, rfl, hd, hk, hr1⟩
          go_wp2_with fail
          go_ret
          rw [HQ.out]
          exact ⟨hbt.trans hb, _, k, rfl, rfl, hd, hk, hr1⟩
        · have d1 : ((n : Int) == 9) = false := beq_false_of_ne (by omega)
          by_cases g0 : 0 < n
          · have d2 : (0 : Int) < n := by omega
            have d4 : ((x : Int) == 0) = false := beq_false_of_ne (by omega)
            by_cases g6 : x < 128
            · have d6 : (x : Int) < 128 := by omega
              rw [if_pos g6] at hv
              have HQ := Lib.hid hv
              clear hv hbad g1
              go_wp2_with fail
              refine HN.out.mono ?_
              rintro e w1 ⟨hb, _, k, rfl, rfl, hd, hk, hr1⟩
              go_wp2_with fail
              go_ret
              rw [HQ.out]
              exact ⟨hbt.trans hb, _, k, rfl, rfl, hd, hk, hr1⟩
            · have d6 : ¬ (x : Int) < 128 := by omega
              rw [if_neg g6] at hv
              have HQ := Lib.hid hv
              clear hv hbad
              go_wp2_with fail
              refine HN.out.mono ?_
              rintro e w1 ⟨hb, _, k, rfl, rfl, hd, hk, hr1⟩
              go_wp2_with fail
              go_roundw
              case rel => exact ⟨n + 1, acc + z, k, by omega, HAL.out, by go_num, rfl, hk, hbt.trans hb, hr1, Lib.hid (by rw [HQ.out, ← hd, show 10 - (n + 1) = f by omega])⟩
              case measure => simp [intOf]; omega
          · have d2 : ¬ (0 : Int) < n := by omega
            by_cases g6 : x < 128
            · have d6 : (x : Int) < 128 := by omega
              rw [if_pos g6] at hv
              have HQ := Lib.hid hv
              clear hv hbad g1
              go_wp2_with fail
              refine HN.out.mono ?_
              rintro e w1 ⟨hb, _, k, rfl, rfl, hd, hk, hr1⟩
              go_wp2_with fail
              go_ret
              rw [HQ.out]
              exact ⟨hbt.trans hb, _, k, rfl, rfl, hd, hk, hr1⟩
            · have d6 : ¬ (x : Int) < 128 := by omega
              rw [if_neg g6] at hv
              have HQ := Lib.hid hv
              clear hv hbad
              go_wp2_with fail
              refine HN.out.mono ?_
              rintro e w1 ⟨hb, _, k, rfl, rfl, hd, hk, hr1⟩
              go_wp2_with fail
              go_roundw
              case rel => exact ⟨n + 1, acc + z, k, by omega, HAL.out, by go_num, rfl, hk, hbt.trans hb, hr1, Lib.hid (by rw [HQ.out, ← hd, show 10 - (n + 1) = f by omega])⟩
              case measure => simp [intOf]; omega
end Go.Proofs.Yticaheiomidanaa
