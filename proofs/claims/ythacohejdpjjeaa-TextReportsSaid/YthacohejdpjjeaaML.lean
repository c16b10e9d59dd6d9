/- Walks of the document's answer: the digits of a number. -/
import Derived.Test.YthacohejdpjjeaaMK
namespace Go.Proofs.Ythacohejdpjjeaa
open Go.RowKit Go.Lib Go.Sort

theorem add_strs (L M : List Nat) (h : L.length + M.length ≤ 9000000000000000000) (w : World) : (Op.stringOp .add (strB L) (strB M)).run Try.prog w = .ok (.string (strB (L ++ M))) w := by
  have := run_string_add_sum (P := Try.prog) (w := w) (strB L) (strB M) (by rw [strB_size, strB_size]; omega)
  rw [strB_app] at this
  exact this
theorem one_str (w : World) (x : Nat) (hx : x < 256) (u : Int) (hu : u = (x : Int)) {b : Nat} (hb : b = w.heap.size) : (convert 77 9 (.slice (some ⟨b, 0, none⟩) 1 1)).run Try.prog (w.alloc (.cells #[.int .u8 u] 5)) = .ok (.string (strB [x])) (w.alloc (.cells #[.int .u8 u] 5)) := by
  subst hu
  exact str_of _ _ b 0 1 [x] (fun _ => rfl) (fun i y hy => by
    match i, hy with
    | 0, hy =>
      simp at hy
      subst hy
      exact ⟨cell_new0 w _ _ hb, hx⟩
    | i + 1, hy => simp at hy)

set_option maxHeartbeats 1000000 in
set_option maxRecDepth 100000 in
theorem rdigits_any (x : Nat) (w : World) (hx : x < 18446744073709551616) :
    Calls Try.prog 49 #[.int .u64 (x : Int)] w (StrP (digs x) w) := by
  obtain ⟨S, hS⟩ : ∃ S, digs x = S := ⟨_, rfl⟩
  have HS := Lib.hid hS
  rw [hS]
  clear hS
  go_enter Try.func49, Try.ntmps49
  go_wp2
  go_loopw [0, 3, 4] (fun y u k wr => ∃ (j n : Nat) (out : List Nat), j ≤ 20 ∧ k = .int .i64 j ∧ y = .int .u64 n ∧ n < 18446744073709551616 ∧ u = .string (strB out.reverse) ∧ Hid (out.length = j) ∧ Hid (Below w.heap.size w wr) ∧ Hid (out ++ rdg (20 - j) n = rdg 20 x)) (fun _ _ k _ => 20 - (RowKit.intOf k).toNat)
  case atStart => exact ⟨0, x, [], by omega, rfl, rfl, hx, rfl, Lib.hid rfl, Lib.hid (Below.refl _ _), Lib.hid rfl⟩
  case round =>
    obtain ⟨j, n, out, hj, rfl, rfl, hn, rfl, hlen, hbl, hp⟩ := hrel
    by_cases hlt : j < 20
    · obtain ⟨f, hf⟩ : ∃ f, 20 - j = f + 1 := ⟨19 - j, by omega⟩
      have hp2 := hp.out
      rw [hf, rdg] at hp2
      have hcv := one_str wr (48 + n % 10) (by omega) (48 + (n : Int) % 10) (by omega) rfl
      have had := fun W => add_strs [48 + n % 10] out.reverse (by rw [List.length_reverse, hlen.out]; simp; omega) W
      have hT : [48 + n % 10] ++ out.reverse = (out ++ [48 + n % 10]).reverse := by simp
      rw [hT] at had
      obtain ⟨T, hT2⟩ : ∃ T, strB (out ++ [48 + n % 10]).reverse = T := ⟨_, rfl⟩
      rw [hT2] at had
      generalize strB out.reverse = O at had ⊢
      have HT2 := Lib.hid hT2
      have HL : Hid ((out ++ [48 + n % 10]).length = j + 1) := Lib.hid (by have := hlen.out; simp; omega)
      have HB : Hid (Below w.heap.size w (wr.alloc (.cells #[.int .u8 (48 + (n : Int) % 10)] 5))) := Lib.hid (hbl.out.alloc hbl.out.size _)
      have dj : (j : Int) < 20 := by omega
      clear hT hT2 hp hbl hlen hlt
      by_cases h0 : n / 10 = 0
      · have d0 : ((n : Int) / 10 == 0) = true := by rw [beq_iff_eq]; omega
        rw [if_pos h0] at hp2
        have HP2 : Hid (out ++ [48 + n % 10] = rdg 20 x) := Lib.hid hp2
        clear h0 hp2 hf
        go_wp2_with fail
        go_ret
        refine ⟨?_, HB.out⟩
        rw [← HT2.out, HP2.out, ← HS.out]
        rfl
      · have d0 : ((n : Int) / 10 == 0) = false := beq_false_of_ne (by omega)
        rw [if_neg h0] at hp2
        have HP2 : Hid ((out ++ [48 + n % 10]) ++ rdg (20 - (j + 1)) (n / 10) = rdg 20 x) := Lib.hid (by rw [show 20 - (j + 1) = f by omega, List.append_assoc]; exact hp2)
        have hjj : j < 20 := by omega
        clear h0 hp2 hf
        go_wp2_with fail
        go_roundw
        case rel => exact ⟨j + 1, n / 10, out ++ [48 + n % 10], by omega, by go_num, by go_num, by omega, by rw [HT2.out], HL, HB, HP2⟩
        case measure => simp [RowKit.intOf]; omega
    · have hj2 : j = 20 := by omega
      have HP : Hid (out = rdg 20 x) := Lib.hid (by
        have := hp.out
        rw [hj2] at this
        simpa [rdg] using this)
      have dj : ¬ (j : Int) < 20 := by omega
      clear hp hj2 hlt
      go_wp2
      go_ret
      refine ⟨?_, hbl.out⟩
      rw [HP.out, ← HS.out]
      rfl
end Go.Proofs.Ythacohejdpjjeaa
