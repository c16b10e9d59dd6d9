/- Walk of the document's reader of lines: a number that may be negative. -/
import Derived.Test.YtgmgpbplgiicoaaMX
namespace Go.Proofs.Ytgmgpbplgiicoaa
open Go.RowKit Go.Lib Go.Sort

theorem str_m7 : (⟨#[57, 50, 50, 51, 51, 55, 50, 48, 51, 54, 56, 53, 52, 55, 55, 53, 56, 48, 55]⟩ : ByteArray) = strB (digs 9223372036854775807) := by kernel_rfl
theorem str_m8 : (⟨#[57, 50, 50, 51, 51, 55, 50, 48, 51, 54, 56, 53, 52, 55, 55, 53, 56, 48, 56]⟩ : ByteArray) = strB (digs 9223372036854775808) := by kernel_rfl
theorem str_mw : (⟨#[49, 56, 52, 52, 54, 55, 52, 52, 48, 55, 51, 55, 48, 57, 53, 53, 49, 54, 49, 53]⟩ : ByteArray) = strB (digs 18446744073709551615) := by kernel_rfl
theorem magR_le {m : Nat} (hm : m < 100000000000000000000) (h9 : 9 ≤ m) (s : PS) : (magR m s).1 ≤ m := by
  rw [(mag_rel h9 s).v]; exact mag_le hm h9 s
theorem intR_pos {s : PS} (h : isC 45 s = false) : intR s = (((magR 9223372036854775807 s).1 : Int), (magR 9223372036854775807 s).2) := by
  unfold intR
  rw [if_neg (by rw [h]; simp)]

set_option maxHeartbeats 600000 in
set_option maxRecDepth 100000 in
theorem rinteger_any (rb : Nat) (L : List Nat) (i : Nat) (b : Bool) (w : World) (hL : BytL L) (hl : L.length ≤ 900000) (hr : LRd w rb L i b) (hi : i ≤ L.length) :
    Calls Try.prog 24 #[.pointer (some ⟨rb, 0, none⟩)] w (RdR rb L w (.int .i64 (intR (L.drop i, b)).1) (intR (L.drop i, b)).2) := by
  have hs := is_any rb L i b 45 w hL hr hi (by decide)
  have HR := Lib.hid hr
  cases hd : isC 45 (L.drop i, b) with
  | true =>
    rw [hd] at hs
    have HS : Hid (Calls Try.prog 27 #[.pointer (some ⟨rb, 0, none⟩), .int .u8 45] w fun e w' => e = .returned (.bool true) ∧ ∃ k, w' = w.drewN k) := Lib.hid hs
    obtain ⟨r, er⟩ := isC_elim hd
    have hdr : L.drop i = 45 :: r := congrArg Prod.fst er
    have hb0 : b = false := congrArg Prod.snd er
    subst hb0
    have hlt : i < L.length := by
      have := congrArg List.length hdr
      simp only [List.length_drop, List.length_cons] at this
      omega
    have hr1 : r = L.drop (i + 1) := by
      have := congrArg List.tail hdr
      simpa using this.symm
    have ei : intR (L.drop i, false) = if isC 48 (L.drop (i + 1), false) = true then (0, (L.drop (i + 1), true)) else (-((magR 9223372036854775808 (L.drop (i + 1), false)).1 : Int), (magR 9223372036854775808 (L.drop (i + 1), false)).2) := by
      rw [er, intR_neg, hr1]
    have hL2 := hL.l
    have HI : Hid (i + 1 ≤ L.length) := Lib.hid hlt
    have r1 := cell_of_heap hr (k := 1) rfl
    have f1 := free_of_heap (k := 1) hr
    have HIS : Hid (∀ W, LRd W rb L (i + 1) false → Calls Try.prog 27 #[.pointer (some ⟨rb, 0, none⟩), .int .u8 48] W fun e w' => e = .returned (.bool (isC 48 (L.drop (i + 1), false))) ∧ ∃ k, w' = W.drewN k) := Lib.hid (fun W h => is_any rb L (i + 1) false 48 W hL h hlt (by decide))
    have HMG := Lib.hid (fun W (h : LRd W rb L (i + 1) false) => rdigs_any 9223372036854775808 (by decide) (by decide) rb L (i + 1) false W hL hl h hlt)
    rw [ei]
    have HB0 : Hid (∀ k, But1 rb w ((w.drewN k).setCell ⟨rb, 1, none⟩ (.int .i64 ((i : Int) + 1)))) := Lib.hid (fun k => But1.setCell ((But1.refl rb w).drewN k) (x := ⟨rb, 1, none⟩) (.inl rfl) _)
    have HR0 : Hid (∀ k, LRd ((w.drewN k).setCell ⟨rb, 1, none⟩ (.int .i64 ((i : Int) + 1))) rb L (i + 1) false) := Lib.hid (fun k => LRd.set1 (HR.out.drewN k) (i + 1))
    cases hz : isC 48 (L.drop (i + 1), false) with
    | true =>
      rw [if_pos rfl]
      rw [hz] at HIS
      clear hd er hdr hr1 ei hs hr hz HMG hlt
      go_enter Try.func24, Try.ntmps24
      go_wp2_with (go_at_call 27; (with_reducible refine HS.out.mono ?_); rintro e w2 ⟨rfl, k, rfl⟩)
      refine (HIS.out _ (HR0.out k)).mono ?_
      rintro e w3 ⟨rfl, k2, rfl⟩
      have hB := (HB0.out k).drewN k2
      have hR := (HR0.out k).drewN k2
      generalize ((w.drewN k).setCell ⟨rb, 1, none⟩ (.int .i64 ((i : Int) + 1))).drewN k2 = W3 at hB hR ⊢
      have r2 := cell_of_heap hR (k := 2) rfl
      have f2 := free_of_heap (k := 2) hR
      have HE := Lib.hid (And.intro hB hR)
      clear hB hR r1 f1
      go_wp2_with fail
      go_ret
      exact ⟨rfl, But1.setCell HE.out.1 (x := ⟨rb, 2, none⟩) (.inl rfl) _, i + 1, HI.out, LRd.set2 HE.out.2 true, rfl⟩
    | false =>
      rw [if_neg (by simp)]
      rw [hz] at HIS
      have hle := magR_le (m := 9223372036854775808) (by decide) (by decide) (L.drop (i + 1), false)
      obtain ⟨q, hq⟩ : ∃ q, magR 9223372036854775808 (L.drop (i + 1), false) = q := ⟨_, rfl⟩
      rw [hq] at HMG hle ⊢
      rw [← str_m8] at HMG
      obtain ⟨x, l, b1⟩ := q
      dsimp only at hle HMG ⊢
      clear hd er hdr hr1 ei hs hr hz hlt hq
      by_cases hx0 : x = 0
      · have dx : ((x : Int) == 0) = true := by rw [beq_iff_eq]; omega
        have HX : Hid (x = 0) := Lib.hid hx0
        clear hx0
        go_enter Try.func24, Try.ntmps24
        go_wp2_with (go_at_call 27; (with_reducible refine HS.out.mono ?_); rintro e w2 ⟨rfl, k, rfl⟩)
        refine (HIS.out _ (HR0.out k)).mono ?_
        rintro e w3 ⟨rfl, k2, rfl⟩
        have hB := (HB0.out k).drewN k2
        have hR := (HR0.out k).drewN k2
        generalize ((w.drewN k).setCell ⟨rb, 1, none⟩ (.int .i64 ((i : Int) + 1))).drewN k2 = W3 at hB hR ⊢
        have HM3 := Lib.hid (HMG.out W3 hR)
        have HE := Lib.hid (And.intro hB hR)
        clear hB hR r1 f1
        go_wp2_with (go_at_call 26; refine HM3.out.mono ?_; rintro e w4 ⟨rfl, hb4, j4, hj4, hr4, hd4⟩; (have HF := Lib.hid (And.intro hb4 (And.intro hr4 hd4))); clear hb4 hr4 hd4)
        go_ret
        exact ⟨by rw [show -(x : Int) = 0 by have := HX.out; omega]; rfl, HE.out.1.trans HF.out.1, j4, hj4, HF.out.2.1, HF.out.2.2⟩
      · have dx : ((x : Int) == 0) = false := beq_false_of_ne (by omega)
        have hx1 : 1 ≤ x := by omega
        clear hx0
        go_enter Try.func24, Try.ntmps24
        go_wp2_with (go_at_call 27; (with_reducible refine HS.out.mono ?_); rintro e w2 ⟨rfl, k, rfl⟩)
        refine (HIS.out _ (HR0.out k)).mono ?_
        rintro e w3 ⟨rfl, k2, rfl⟩
        have hB := (HB0.out k).drewN k2
        have hR := (HR0.out k).drewN k2
        generalize ((w.drewN k).setCell ⟨rb, 1, none⟩ (.int .i64 ((i : Int) + 1))).drewN k2 = W3 at hB hR ⊢
        have HM3 := Lib.hid (HMG.out W3 hR)
        have HE := Lib.hid (And.intro hB hR)
        clear hB hR r1 f1
        go_wp2_with (go_at_call 26; refine HM3.out.mono ?_; rintro e w4 ⟨rfl, hb4, j4, hj4, hr4, hd4⟩; (have HF := Lib.hid (And.intro hb4 (And.intro hr4 hd4))); clear hb4 hr4 hd4)
        go_ret
        refine ⟨?_, HE.out.1.trans HF.out.1, j4, hj4, HF.out.2.1, HF.out.2.2⟩
        show Ending.returned (.int .i64 (-((x : Int) - 1) - 1)) = _
        rw [show -((x : Int) - 1) - 1 = -(x : Int) by omega]
  | false =>
    rw [hd] at hs
    rw [intR_pos hd]
    have HS : Hid (Calls Try.prog 27 #[.pointer (some ⟨rb, 0, none⟩), .int .u8 45] w fun e w' => e = .returned (.bool false) ∧ ∃ k, w' = w.drewN k) := Lib.hid hs
    have HMG := Lib.hid (fun W (h : LRd W rb L i b) => rdigs_any 9223372036854775807 (by decide) (by decide) rb L i b W hL hl h hi)
    have hle := magR_le (m := 9223372036854775807) (by decide) (by decide) (L.drop i, b)
    obtain ⟨q, hq⟩ : ∃ q, magR 9223372036854775807 (L.drop i, b) = q := ⟨_, rfl⟩
    rw [hq] at HMG hle ⊢
    rw [← str_m7] at HMG
    obtain ⟨x, l, b1⟩ := q
    dsimp only at hle HMG ⊢
    clear hd hs hr hq
    go_enter Try.func24, Try.ntmps24
    go_wp2_with (first
      | (go_at_call 27; (with_reducible refine HS.out.mono ?_); rintro e w2 ⟨rfl, k, rfl⟩)
      | (go_at_call 26; refine (HMG.out _ (HR.out.drewN _)).mono ?_; rintro e w4 ⟨rfl, hb4, j4, hj4, hr4, hd4⟩; (have HF := Lib.hid (And.intro hb4 (And.intro hr4 hd4))); clear hb4 hr4 hd4))
    go_ret
    exact ⟨rfl, ((But1.refl rb w).drewN _).trans HF.out.1, j4, hj4, HF.out.2.1, HF.out.2.2⟩
end Go.Proofs.Ytgmgpbplgiicoaa
