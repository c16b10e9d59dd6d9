/- BoundAll's walk. -/
import Derived.Test.YtgmebjnhbkgbfaaBq
namespace Go.Proofs.Ytgmebjnhbkgbfaa
open Go.ChangeShapes Go.WideShapes Go.ChangeAt Go.RowKit
set_option linter.unusedVariables false
set_option linter.unusedSimpArgs false

set_option maxRecDepth 100000 in
set_option maxHeartbeats 1000000 in
theorem ball_long (n : Int) (ao : Option Addr) (c m : Nat) (w : World) (hl : 1000 < m) : Calls Try.prog 5 #[.int .i64 n, .slice ao m c] w fun e w' => e = .returned (.bool true) ∧ Below w.heap.size w w' := by
  go_enter Try.func5, Try.ntmps5
  go_wp2_with (go_at_call 13; refine (known_any _).mono ?_; rintro e w9 ⟨rfl, hb9⟩; (have HB9 := Lib.hid hb9); clear hb9)
  go_ret
  exact ⟨rfl, HB9.out⟩
set_option maxRecDepth 100000 in
set_option maxHeartbeats 2000000 in
theorem ball_walk (n : Int) (ao : Option Addr) (b o c : Nat) (l : List SpecL) (w : World) (hl : l.length ≤ 1000) (ha : 0 < l.length → ao = some ⟨b, o, none⟩) (hb : 0 < l.length → b < w.heap.size) (hc : SpecsAt w b o l) :
    Calls Try.prog 5 #[.int .i64 n, .slice ao l.length c] w fun e w' => e = .returned (.bool true) ∧ Below w.heap.size w w' := by
  have HC := Lib.hid hc
  have HA := Lib.hid ha
  have HB := Lib.hid hb
  obtain ⟨a, er, hA⟩ : ∃ a er, tbA n l 1 = (a, er) := ⟨_, _, rfl⟩
  have HAll : Hid (∀ w', Below w.heap.size w w' → Calls Try.prog 15 #[.int .i64 n, .slice ao l.length c] w' fun e w2 => e = .returned (.tuple #[.int .i64 a, .int .i64 er]) ∧ Below w'.heap.size w' w2) := Lib.hid (fun w' hbw => by
    have := all_any n ao b o c l w' hl ha (fun h => Nat.lt_of_lt_of_le (hb h) hbw.size) (hc.stays hbw hb)
    unfold AllP at this; rw [hA] at this; exact this)
  have HR : Hid (∀ w', Below w.heap.size w w' → (∀ x ∈ l, tbErr n x.k x.p x.q = 0) → Calls Try.prog 16 #[.int .i64 n, .slice ao l.length c] w' fun e w2 => e = .returned (.int .i64 a) ∧ Below w'.heap.size w' w2) := Lib.hid (fun w' hbw hok => by
    have := rall_any n ao b o c l w' hl ha (fun h => Nat.lt_of_lt_of_le (hb h) hbw.size) (hc.stays hbw hb) hok
    rw [hA] at this; exact this)
  have HAA := Lib.hid hA
  clear hc ha hb hA
  go_enter Try.func5, Try.ntmps5
  go_wp2_with (go_at_call 15; refine (HAll.out _ (Below.refl _ _)).mono ?_; rintro e w1 ⟨rfl, hb1⟩; (have HB1 := Lib.hid hb1); clear hb1)
  have hs1 := HB1.out.size
  go_loopw [22] (fun k wr => ∃ (j : Nat) (m : Int), j ≤ l.length ∧ k = .int .i64 j ∧ Hid (tbA n (l.drop j) m = tbA n l 1) ∧ Hid (∀ i x, i < j → l[i]? = some x → tbErr n x.k x.p x.q = 0) ∧ Below w.heap.size w wr) (fun k _ => l.length - (intOf k).toNat)
  case atStart => exact ⟨0, 1, Nat.zero_le _, rfl, Lib.hid rfl, Lib.hid (fun i x h => absurd h (by omega)), HB1.out⟩
  case round =>
    obtain ⟨j, m, hj, rfl, hp, hz, hbl⟩ := hrel
    have hsz := hbl.size
    by_cases hlt : j < l.length
    · obtain rfl := HA.out (by omega)
      obtain ⟨x, hx⟩ : ∃ x, l[j]? = some x := ⟨l[j], List.getElem?_eq_getElem (by omega)⟩
      obtain ⟨c0, c1, c2⟩ := HC.out.stays hbl HB.out j _ hx
      have hd := Lib.hid (drop_specs hx)
      have HX := Lib.hid hx
      clear hx
      obtain ⟨k, p, q⟩ := x
      simp only at c0 c1 c2
      obtain ⟨s, hs⟩ : ∃ s, tbN n k p q = s := ⟨_, rfl⟩
      have HS := Lib.hid (fun w => rsize_any n k p q w)
      by_cases he : tbErr n k p q = 0
      · rw [hs, he] at HS
        have hN : Hid (tbA n (l.drop (j + 1)) (maxI (maxI m (tbF n k p q)) (tbG n k p q)) = tbA n l 1) := Lib.hid (by rw [← hp.out, hd.out, tbA_next he])
        have hZ : Hid (∀ i x, i < j + 1 → l[i]? = some x → tbErr n x.k x.p x.q = 0) := Lib.hid (fun i y hi hy => by
          by_cases hij : i < j
          · exact hz.out i y hij hy
          · obtain rfl : i = j := by omega
            have := HX.out
            rw [hy] at this
            cases this
            exact he)
        clear hs he hd hp hz
        unfold specV at *
        go_wp2_with (go_at_call 8; refine (HS.out _).mono ?_; rintro e w2 ⟨rfl, hb2⟩; (have HB2 := Lib.hid (hbl.trans (hb2.mono hsz))); clear hb2)
        go_roundw
        case rel => exact ⟨j + 1, _, by omega, by go_num, hN, hZ, HB2.out⟩
        case measure => simp [intOf]; omega
      · have hN : Hid (a = 0 ∧ er = tbErr n k p q) := Lib.hid (by
          have h1 := HAA.out
          rw [← hp.out, hd.out, tbA_err he] at h1
          cases h1; exact ⟨rfl, rfl⟩)
        obtain ⟨et, het⟩ : ∃ et, tbErr n k p q = et := ⟨_, rfl⟩
        rw [hs, het] at HS
        rw [het] at he hN
        obtain ⟨ha0, he0⟩ := hN.out
        clear hs het hd hp hN hz HAll HR HAA
        subst ha0 he0
        unfold specV at *
        go_wp2_with (first
          | (go_at_call 8; refine (HS.out _).mono ?_; rintro e w2 ⟨rfl, hb2⟩; (have HB2 := Lib.hid (hbl.trans (hb2.mono hsz))); clear hb2)
          | (go_at_call 13; refine (known_any _).mono ?_; rintro e w9 ⟨rfl, hb9⟩; (have HB9 := Lib.hid hb9); clear hb9))
        go_ret
        exact ⟨rfl, HB2.out.trans (HB9.out.mono HB2.out.size)⟩
    · have hjl : j = l.length := by omega
      have hok : Hid (∀ x ∈ l, tbErr n x.k x.p x.q = 0) := Lib.hid (fun x hx => by
        obtain ⟨i, hi⟩ := List.mem_iff_getElem?.1 hx
        exact hz.out i x (by have := (List.getElem?_eq_some_iff.1 hi).1; omega) hi)
      have he0 : er = 0 := by
        have h1 := HAA.out
        rw [← hp.out, hjl, List.drop_length] at h1
        cases h1; rfl
      have HBL := Lib.hid hbl
      clear hp hz HAA hbl
      subst he0 hjl
      go_wp2_with (first
        | (go_at_call 16; refine (HR.out _ HBL.out hok.out).mono ?_; rintro e w2 ⟨rfl, hb2⟩; (have HB2 := Lib.hid (HBL.out.trans (hb2.mono hsz))); clear hb2)
        | (go_at_call 13; refine (known_any _).mono ?_; rintro e w9 ⟨rfl, hb9⟩; (have HB9 := Lib.hid hb9); clear hb9))
      go_ret
      exact ⟨rfl, HB2.out.trans (HB9.out.mono HB2.out.size)⟩
theorem bound_all (n : Int) (ao : Option Addr) (b o c : Nat) (l : List SpecL) (w : World) (ha : 0 < l.length → ao = some ⟨b, o, none⟩) (hb : 0 < l.length → b < w.heap.size) (hc : SpecsAt w b o l) :
    Calls Try.prog 5 #[.int .i64 n, .slice ao l.length c] w fun e w' => e = .returned (.bool true) ∧ Below w.heap.size w w' := by
  by_cases hl : l.length ≤ 1000
  · exact ball_walk n ao b o c l w hl ha hb hc
  · exact ball_long n ao c l.length w (by omega)
end Go.Proofs.Ytgmebjnhbkgbfaa
