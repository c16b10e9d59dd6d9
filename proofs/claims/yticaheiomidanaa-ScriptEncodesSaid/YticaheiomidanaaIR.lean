/- Walks of the law's ref, and of the reference's bytes of a number. -/
import Derived.Test.YticaheiomidanaaIQ
import Derived.Test.YticaheiomidanaaIP
import Derived.Test.YticaheiomidanaaKC
namespace Go.Proofs.Yticaheiomidanaa
open Go.RowKit

set_option maxHeartbeats 400000 in
theorem ref_any (x : ScI) (s : Spots) (w : World) : Calls Try.prog 12 #[scV x s] w fun e w' => e = .returned (scV x s) ∧ Below w.heap.size w w' := by
  obtain ⟨n, specs, calls, picks⟩ := x
  obtain ⟨sa, sb, so, sc, ca, cb, co, cc, pa, pb, po, pc⟩ := s
  go_enter Try.func12, Try.ntmps12
  go_wp2
  have s1 : (w.alloc (.cells #[.int .i64 n, .slice sa specs.length sc, .slice ca calls.length cc, .slice pa picks.length pc] 26)).heap.size = w.heap.size + 1 := by simp
  have hk := heap_new (w.alloc (.cells #[.int .i64 n, .slice sa specs.length sc, .slice ca calls.length cc, .slice pa picks.length pc] 26)) (.cells #[.int .i64 n, .slice sa specs.length sc, .slice ca calls.length cc, .slice pa picks.length pc] 33)
  rw [s1] at hk
  have hb : Below w.heap.size w ((w.alloc (.cells #[.int .i64 n, .slice sa specs.length sc, .slice ca calls.length cc, .slice pa picks.length pc] 26)).alloc (.cells #[.int .i64 n, .slice sa specs.length sc, .slice ca calls.length cc, .slice pa picks.length pc] 33)) := ((Below.refl _ _).alloc (Nat.le_refl _) _).alloc (by omega) _
  have e0 := cell_of_heap hk (k := 0) (v := .int .i64 n) rfl
  have e1 := cell_of_heap hk (k := 1) (v := .slice sa specs.length sc) rfl
  have e2 := cell_of_heap hk (k := 2) (v := .slice ca calls.length cc) rfl
  have e3 := cell_of_heap hk (k := 3) (v := .slice pa picks.length pc) rfl
  generalize (w.alloc (.cells #[.int .i64 n, .slice sa specs.length sc, .slice ca calls.length cc, .slice pa picks.length pc] 26)).alloc (.cells #[.int .i64 n, .slice sa specs.length sc, .slice ca calls.length cc, .slice pa picks.length pc] 33) = W2 at hb e0 e1 e2 e3 ⊢
  refine bodyPost_ret (v := .agg #[.int .i64 n, .slice sa specs.length sc, .slice ca calls.length cc, .slice pa picks.length pc]) (by simp [results, Try.results12, go_sem, e0, e1, e2, e3]) rfl ⟨rfl, hb⟩

set_option maxHeartbeats 1000000 in
set_option maxRecDepth 100000 in
theorem number_any (x : Nat) (w : World) (hx : x < 18446744073709551616) :
    Calls Try.prog 31 #[.int .u64 (x : Int)] w (ApP w.heap.size w (varF 9 x)) := by
  obtain ⟨iI, ia, ib, ic, id⟩ := info_parts infoB
  go_enter Try.func31, Try.ntmps31
  go_wp2
  go_loopw [0, 3, 4] (fun y u k wr => ∃ (j n : Nat) (out : List Nat), j ≤ 9 ∧ y = .int .u64 n ∧ k = .int .i64 j ∧ n < 2 ^ (7 * (9 - j + 1)) ∧ n < 18446744073709551616 ∧ Hid (out.length = j) ∧ Hid (BOwn wr w.heap.size u out) ∧ Hid (Below w.heap.size w wr) ∧ Hid (Keeps 5 w wr) ∧ Hid (out ++ varF (9 - j) n = varF 9 x)) (fun _ _ k _ => 10 - (intOf k).toNat)
  case atStart => exact ⟨0, x, [], by decide, rfl, rfl, Nat.lt_of_lt_of_le hx (by decide), hx, Lib.hid rfl, Lib.hid (World.ownsRow_nil _ _ _ _), Lib.hid (Below.refl _ _), Lib.hid (Keeps.refl _ _), Lib.hid rfl⟩
  case round =>
    obtain ⟨j, n, out, hj, rfl, rfl, hn, hn2, hlen, hown, hbl, hkp, hp⟩ := hrel
    have HSZ := Lib.hid hbl.out.size
    have HL : Hid (out.length + 1 ≤ 4294967296) := Lib.hid (by have := hlen.out; omega)
    by_cases h : n < 128
    · have E : Hid (out ++ [n] = varF 9 x) := Lib.hid (by rw [← hp.out, varF_small h])
      have d1 : (n : Int) < 128 := by omega
      clear hn
      go_wp2_with (at_builtin; refine append_laid rfl _ _ 28 rfl w.heap.size 5 iI (.int .u8 0) 1 1 Try.underlying28 ia ib ic id rfl (by decide) (by decide) _ out.length (out.map bV) rfl hown.out 1 (by decide) [bV n] rfl rfl rfl HL.out HSZ.out ?_)
      intro v1 w1 ho1 hb1 hk1
      have HO1 : Hid (BOwn w1 w.heap.size v1 (out ++ [n])) := Lib.hid (BOwn.app ho1 rfl)
      have HB1 := Lib.hid (hbl.out.trans hb1)
      have HK1 := Lib.hid (hkp.out.trans hk1)
      clear ho1 hb1 hk1
      go_wp2
      go_ret
      exact ⟨_, rfl, by rw [← E.out]; exact HO1.out, HB1.out, HK1.out⟩
    · obtain ⟨i, hi⟩ : ∃ i, 9 - j = i + 1 := by
        cases hji : 9 - j with
        | zero => rw [hji] at hn; simp at hn; omega
        | succ i => exact ⟨i, rfl⟩
      rw [hi] at hn
      have hn3 : n / 128 < 2 ^ (7 * (9 - (j + 1) + 1)) := by
        rw [show 9 - (j + 1) + 1 = i + 1 by omega, Nat.div_lt_iff_lt_mul (by decide)]
        calc n < 2 ^ (7 * (i + 1 + 1)) := hn
          _ = 2 ^ (7 * (i + 1)) * 128 := by rw [show 7 * (i + 1 + 1) = 7 * (i + 1) + 7 by omega, Nat.pow_add]
      have HN3 := Lib.hid hn3
      have E : Hid ((out ++ [n % 128 + 128]) ++ varF (9 - (j + 1)) (n / 128) = varF 9 x) := Lib.hid (by rw [← hp.out, hi, varF, if_pos (by omega), show 9 - (j + 1) = i by omega, List.append_assoc]; rfl)
      have d1 : ¬ (n : Int) < 128 := by omega
      have hi2 := Lib.hid hi
      clear hn hn3 hi
      have EB : Hid ([n % 128 + 128].map bV = [.int .u8 (128 + (n : Int) % 128)]) := Lib.hid (by show [Value.int .u8 ((n % 128 + 128 : Nat) : Int)] = _; rw [Int.natCast_add]; congr 2; omega)
      go_wp2_with (at_builtin; refine append_laid rfl _ _ 28 rfl w.heap.size 5 iI (.int .u8 0) 1 1 Try.underlying28 ia ib ic id rfl (by decide) (by decide) _ out.length (out.map bV) rfl hown.out 1 (by decide) [.int .u8 (128 + (n : Int) % 128)] rfl rfl rfl HL.out HSZ.out ?_)
      intro v1 w1 ho1 hb1 hk1
      have HO1 : Hid (BOwn w1 w.heap.size v1 (out ++ [n % 128 + 128])) := Lib.hid (BOwn.app (by rw [EB.out]; exact ho1) rfl)
      have HB1 := Lib.hid (hbl.out.trans hb1)
      have HK1 := Lib.hid (hkp.out.trans hk1)
      have hj9 : j + 1 ≤ 9 := by have := hi2.out; omega
      clear ho1 hb1 hk1
      go_wp2
      go_roundw
      case rel => exact ⟨j + 1, n / 128, out ++ [n % 128 + 128], hj9, by go_num, by go_num, HN3.out, by omega, Lib.hid (by rw [List.length_append, hlen.out]; rfl), HO1, HB1, HK1, E⟩
      case measure => simp [intOf]; omega
end Go.Proofs.Yticaheiomidanaa
