/- The reference's All. -/
import Derived.Test.YtgmebjnhbkgbfaaBo
namespace Go.Proofs.Ytgmebjnhbkgbfaa
open Go.ChangeShapes Go.WideShapes Go.ChangeAt Go.RowKit
set_option linter.unusedVariables false
set_option linter.unusedSimpArgs false

/-- behind i of an object's operations -/
def inn (m f g : Int) (i : Nat) : Int := if i = 0 then m else if i = 1 then maxI m f else maxI (maxI m f) g
theorem inn_zero (m f g : Int) : inn m f g 0 = m := rfl
theorem inn_step (m f g : Int) (i : Nat) : maxI (inn m f g i) (if (i : Int) = 1 then g else f) = inn m f g (i + 1) := by
  unfold inn
  rcases Nat.lt_trichotomy i 1 with h | h | h
  · obtain rfl : i = 0 := by omega
    rw [if_pos rfl, if_neg (by decide), if_neg (by decide), if_pos rfl]
  · subst h
    rw [if_neg (by decide), if_pos rfl, if_pos (by decide), if_neg (by decide), if_neg (by decide)]
  · rw [if_neg (show ¬ i = 0 by omega), if_neg (show ¬ i = 1 by omega), if_neg (show ¬ (i : Int) = 1 by omega), if_neg (show ¬ i + 1 = 0 by omega), if_neg (show ¬ i + 1 = 1 by omega)]
    have := maxI_ge (maxI m f) g
    have := maxI_ge m f
    show (if maxI (maxI m f) g ≤ f then f else maxI (maxI m f) g) = _
    split <;> omega
theorem inn_end {m f g : Int} {i : Nat} (h : 2 ≤ i) : inn m f g i = maxI (maxI m f) g := by unfold inn; rw [if_neg (by omega), if_neg (by omega)]
theorem tbKn_ge {n k p q : Int} (h : tbErr n k p q = 0) : 2 ≤ tbKn k p ∧ tbKn k p ≤ 4 := by
  obtain ⟨_, hk, hi⟩ := tbErr_zero h
  rcases tb_nine hk with rfl | rfl | rfl | rfl | rfl | rfl | rfl | rfl | rfl | rfl
  · have e : tbKn 0 p = 4 := rfl
    rw [e]; omega
  · have e : tbKn 1 p = 2 := rfl
    rw [e]; omega
  · have e : tbKn 2 p = 2 := rfl
    rw [e]; omega
  · have e : tbKn 3 p = 3 := rfl
    rw [e]; omega
  · have e : tbKn 4 p = 2 := rfl
    rw [e]; omega
  · have e : tbKn 5 p = 2 := rfl
    rw [e]; omega
  · have e : tbKn 6 p = 2 := rfl
    rw [e]; omega
  · rw [tbIn_7] at hi
    show 2 ≤ tbTyp p ∧ tbTyp p ≤ 4
    by_cases h3 : p = 2 ∨ p = 3 ∨ p = 4
    · rw [tbTyp_3 h3]; omega
    · rw [tbTyp_2 hi.1 h3]; omega
  · have e : tbKn 8 p = 2 := rfl
    rw [e]; omega
  · have e : tbKn 9 p = 2 := rfl
    rw [e]; omega

set_option maxRecDepth 100000 in
set_option maxHeartbeats 2000000 in
theorem rall_any (n : Int) (ao : Option Addr) (b o c : Nat) (l : List SpecL) (w : World) (hl : l.length ≤ 1000) (ha : 0 < l.length → ao = some ⟨b, o, none⟩) (hb : 0 < l.length → b < w.heap.size) (hc : SpecsAt w b o l) (hok : ∀ x ∈ l, tbErr n x.k x.p x.q = 0) :
    Calls Try.prog 16 #[.int .i64 n, .slice ao l.length c] w fun e w' => e = .returned (.int .i64 (tbA n l 1).1) ∧ Below w.heap.size w w' := by
  have HC := Lib.hid hc
  have HA := Lib.hid ha
  have HB := Lib.hid hb
  have HK := Lib.hid hok
  clear hc ha hb hok
  go_enter Try.func16, Try.ntmps16
  go_wp2
  go_loopw [5, 10] (fun v k wr => ∃ (j : Nat) (m : Int), j ≤ l.length ∧ k = .int .i64 j ∧ v = .int .i64 m ∧ Hid (tbA n (l.drop j) m = tbA n l 1) ∧ Below w.heap.size w wr) (fun _ k _ => l.length - (intOf k).toNat)
  case atStart => exact ⟨0, 1, Nat.zero_le _, rfl, rfl, Lib.hid rfl, Below.refl _ _⟩
  case round =>
    obtain ⟨j, m, hj, rfl, rfl, hp, hbl⟩ := hrel
    have hsz := hbl.size
    by_cases hlt : j < l.length
    · obtain rfl := HA.out (by omega)
      obtain ⟨x, hx⟩ : ∃ x, l[j]? = some x := ⟨l[j], List.getElem?_eq_getElem (by omega)⟩
      obtain ⟨c0, c1, c2⟩ := HC.out.stays hbl HB.out j _ hx
      have hd := Lib.hid (drop_specs hx)
      have he := HK.out x (List.mem_of_getElem? hx)
      obtain ⟨k, p, q⟩ := x
      simp only at c0 c1 c2 he
      obtain ⟨z1, z2, z3⟩ := tbErr_zero he
      obtain ⟨hk2, hk4⟩ := tbKn_ge he
      obtain ⟨f, hf⟩ : ∃ f, tbF n k p q = f := ⟨_, rfl⟩
      obtain ⟨g, hg⟩ : ∃ g, tbG n k p q = g := ⟨_, rfl⟩
      obtain ⟨kn, hkn⟩ : ∃ kn : Nat, tbKn k p = (kn : Int) := ⟨(tbKn k p).toNat, by omega⟩
      have HRK := Lib.hid (fun w => rkinds_any k p q w)
      have HRM := Lib.hid (fun (i : Nat) w => rmost_any n k p q (i : Int) z1 z2 z3 w)
      rw [hf, hg] at HRM
      rw [hkn] at HRK hk2 hk4
      have hk2' : 2 ≤ kn := by omega
      have hk4' : kn ≤ 4 := by omega
      have hN : Hid (tbA n (l.drop (j + 1)) (maxI (maxI m f) g) = tbA n l 1) := Lib.hid (by rw [← hp.out, hd.out, tbA_next he, hf, hg])
      have HX := Lib.hid hx
      have HBL := Lib.hid hbl
      clear hf hg hkn he z1 z2 z3 hd hp hx hk2 hk4 hbl
      unfold specV at *
      go_wp2_with (go_at_call 10; refine (HRK.out _).mono ?_; rintro e w1 ⟨rfl, hb1⟩; (have HB1 := Lib.hid (HBL.out.trans (hb1.mono hsz))); clear hb1)
      have hs1 := HB1.out.size
      clear c0 c1 c2
      go_loopw [5, 18] (fun v k wq => ∃ (i : Nat), i ≤ kn ∧ k = .int .i64 i ∧ v = .int .i64 (inn m f g i) ∧ Below w.heap.size w wq) (fun _ k _ => kn - (intOf k).toNat)
      case atStart => exact ⟨0, Nat.zero_le _, rfl, by rw [inn_zero], HB1.out⟩
      case round =>
        obtain ⟨i, hi, rfl, rfl, hbq⟩ := hrel
        have hsq := hbq.size
        by_cases hil : i < kn
        · obtain ⟨c0, c1, c2⟩ := HC.out.stays hbq HB.out j _ HX.out
          simp only at c0 c1 c2
          obtain ⟨y, hy⟩ : ∃ y, (if (i : Int) = 1 then g else f) = y := ⟨_, rfl⟩
          have HM := Lib.hid (HRM.out i)
          rw [hy] at HM
          obtain ⟨z, hz⟩ : ∃ z, inn m f g i = z := ⟨_, rfl⟩
          have hst : Hid (maxI z y = inn m f g (i + 1)) := Lib.hid (by rw [← hy, ← hz]; exact inn_step m f g i)
          rw [hz]
          clear hy hz
          go_wp2_with (go_at_call 14; refine (HM.out _).mono ?_; rintro e w2 ⟨rfl, hb2⟩; (have HB2 := Lib.hid (hbq.trans (hb2.mono hsq))); clear hb2)
          go_roundw
          case rel => exact ⟨i + 1, by omega, by go_num, by rw [← hst.out]; unfold maxI; first | rfl | (congr 1; split <;> (try split) <;> omega), HB2.out⟩
          case measure => simp [intOf]; omega
        · have hik : i = kn := by omega
          have hin : Hid (inn m f g i = maxI (maxI m f) g) := Lib.hid (inn_end (by omega))
          obtain ⟨z, hz⟩ : ∃ z, inn m f g i = z := ⟨_, rfl⟩
          rw [hz] at hin ⊢
          have HBQ := Lib.hid hbq
          subst hik
          clear hz
          go_wp2
          go_roundw
          case rel => exact ⟨j + 1, z, by omega, by go_num, rfl, Lib.hid (by rw [hin.out]; exact hN.out), HBQ.out⟩
          case measure => simp [intOf]; omega
    · have : j = l.length := by omega
      subst this
      have hN : Hid (tbA n l 1 = (m, 0)) := Lib.hid (by rw [← hp.out, List.drop_length]; rfl)
      go_wp2
      go_ret
      exact ⟨by rw [hN.out]; rfl, hbl⟩
end Go.Proofs.Ytgmebjnhbkgbfaa
