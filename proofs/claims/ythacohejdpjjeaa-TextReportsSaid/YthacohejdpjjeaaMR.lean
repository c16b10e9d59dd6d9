/- Walks of the reader of lines: words, numbers that may be negative, fields. -/
import Derived.Test.YthacohejdpjjeaaMQ
namespace Go.Proofs.Ythacohejdpjjeaa
open Go.RowKit Go.Lib Go.Sort

theorem mag_le {m : Nat} (hm : m < 100000000000000000000) (h9 : 9 ≤ m) (s : PS) : (magP m s).1 ≤ m := by
  unfold magP
  split
  · exact Nat.zero_le _
  · split
    · exact Nat.zero_le _
    · obtain ⟨l, b⟩ := s
      cases l with
      | nil => exact Nat.zero_le _
      | cons c t =>
        show (eatP m 0 (c :: t)).1 ≤ m
        by_cases hd : 48 ≤ c ∧ c ≤ 57
        · have e : eatP m 0 (c :: t) = eatP m (c - 48) t := by rw [eatP, if_pos (by omega), show 10 * 0 + (c - 48) = c - 48 by omega]
          rw [e]
          by_cases h0 : c = 48
          · subst h0
            exact eat_le m t 0 (Nat.zero_le _)
          · exact (eat_good hm t (c - 48) (by omega) (by omega)).2.1
        · rw [eatP, if_neg (by omega)]
          exact Nat.zero_le _
where
  eat_le (m : Nat) : ∀ (l : List Nat) (x : Nat), x ≤ m → (eatP m x l).1 ≤ m
    | [], x, h => h
    | c :: r, x, h => by
      rw [eatP]
      split
      · rename_i h2
        exact eat_le m r _ h2.2.2
      · exact h
theorem word_le (s : PS) : (wordP s).1 < 18446744073709551616 := Nat.lt_succ_of_le (mag_le (by decide) (by decide) s)
theorem int_le (s : PS) : I63 (intP s).1 := by
  unfold intP
  split
  · split
    · constructor <;> simp
    · have := mag_le (m := 9223372036854775808) (by decide) (by decide) (s.1.tail, s.2)
      constructor <;> simp only <;> omega
  · have := mag_le (m := 9223372036854775807) (by decide) (by decide) s
    constructor <;> simp only <;> omega

set_option maxHeartbeats 1000000 in
set_option maxRecDepth 100000 in
theorem word_any (rb : Nat) (L : List Nat) (i : Nat) (b : Bool) (w : World) (hL : BytL L) (hr : TRd w rb L i b) (hi : i ≤ L.length) :
    Calls Try.prog 53 #[.pointer (some ⟨rb, 0, none⟩)] w (RdP rb L w (.int .u64 ((wordP (L.drop i, b)).1 : Int)) (wordP (L.drop i, b)).2) := by
  have hs := mag_any 18446744073709551615 (by decide) (by decide) rb L i b w hL hr hi
  have e1 : magP 18446744073709551615 (L.drop i, b) = wordP (L.drop i, b) := rfl
  rw [e1] at hs
  have ec : ((18446744073709551615 : Nat) : Int) = 18446744073709551615 := rfl
  rw [ec] at hs
  have HS := Lib.hid hs
  generalize wordP (L.drop i, b) = q at HS ⊢
  obtain ⟨x, l, b1⟩ := q
  clear e1 hs hr ec
  go_enter Try.func53, Try.ntmps53
  go_wp2_with fail
  refine HS.out.mono ?_
  rintro e w1 ⟨rfl, hb1, j, hj, hr1, hd1⟩
  have HE := Lib.hid (And.intro hb1 (And.intro hr1 hd1))
  clear hb1 hr1 hd1
  go_wp2_with fail
  go_ret
  exact ⟨rfl, HE.out.1, j, hj, HE.out.2.1, HE.out.2.2⟩

theorem neg_wrap {x : Nat} (h : x ≤ 9223372036854775808) : wrap64 (IntKind.u64.wrap (-(x : Int))) = -(x : Int) := by
  simp only [wrap64, IntKind.wrap, IntKind.bits, IntKind.signed]
  simp
  omega
set_option maxHeartbeats 1000000 in
set_option maxRecDepth 100000 in
theorem integer_any (rb : Nat) (L : List Nat) (i : Nat) (b : Bool) (w : World) (hL : BytL L) (hr : TRd w rb L i b) (hi : i ≤ L.length) :
    Calls Try.prog 57 #[.pointer (some ⟨rb, 0, none⟩)] w (RdP rb L w (.int .i64 (intP (L.drop i, b)).1) (intP (L.drop i, b)).2) := by
  have hs := skip_any rb L i b 45 w hL hr hi (by decide)
  cases hd : isC 45 (L.drop i, b) with
  | true =>
    rw [hd] at hs
    obtain ⟨r, er⟩ := isC_elim hd
    have ei : intP (L.drop i, b) = if digO r = some 0 then (0, (r, true)) else (-((magP 9223372036854775808 (r, false)).1 : Int), (magP 9223372036854775808 (r, false)).2) := by rw [er, intP_neg]
    have es : skipP 45 (L.drop i, b) = (r, false) := by unfold skipP; rw [hd, er]; rfl
    rw [es] at hs
    have HS := Lib.hid hs
    have HDG := Lib.hid (fun j W (h : TRd W rb L j false) (hj : j ≤ L.length) => digit_any rb L j false W hL h hj)
    have HMG := Lib.hid (fun j W (h : TRd W rb L j false) (hj : j ≤ L.length) => mag_any 9223372036854775808 (by decide) (by decide) rb L j false W hL h hj)
    by_cases hz : digO r = some 0
    · rw [ei, if_pos hz]
      have HV := Lib.hid (digV_yes hz)
      clear hd er ei es hs hr hz HMG
      go_enter Try.func57, Try.ntmps57
      go_wp2_with fail
      refine HS.out.mono ?_
      rintro e w1 ⟨rfl, hb1, j, hj, hr1, hd1⟩
      have hdg := HDG.out j w1 hr1 hj
      rw [hd1, HV.out] at hdg
      have HD1 := Lib.hid hdg
      have f2 := free_of_heap (k := 2) hr1
      have r2 := cell_of_heap hr1 (k := 2) rfl
      have HE := Lib.hid (And.intro hb1 (And.intro hr1 hd1))
      clear hb1 hr1 hd1 hdg
      go_wp2_with (go_at_call 61; refine HD1.out.mono ?_; rintro e w2 ⟨rfl, k, rfl⟩)
      go_ret
      exact ⟨rfl, But1.setCell (HE.out.1.drewN _) (x := ⟨rb, 2, none⟩) (.inl rfl) _, j, hj, TRd.set2 (HE.out.2.1.drewN k) true, HE.out.2.2⟩
    · rw [ei, if_neg hz]
      have hle := mag_le (m := 9223372036854775808) (by decide) (by decide) (r, false)
      obtain ⟨q, hq⟩ : ∃ q, magP 9223372036854775808 (r, false) = q := ⟨_, rfl⟩
      have HQ := Lib.hid hq
      rw [hq] at hle ⊢
      obtain ⟨x, l, b1⟩ := q
      dsimp only at hle ⊢
      obtain ⟨V, hV⟩ : ∃ V, digV (r, false) = V := ⟨_, rfl⟩
      have HV := Lib.hid hV
      have hV2 : V = .tuple #[.int .u64 0, .bool false] ∨ ∃ d : Nat, 0 < d ∧ V = .tuple #[.int .u64 (d : Int), .bool true] := by
        rw [← hV]
        cases ho : digO r with
        | none => left; exact digV_no (Or.inr ho)
        | some d =>
          right
          refine ⟨d, ?_, digV_yes ho⟩
          rcases Nat.eq_zero_or_pos d with h0 | h0
          · subst h0; exact absurd ho hz
          · exact h0
      clear hd er ei es hs hr hz hq hV
      rcases hV2 with rfl | ⟨d, hd0, rfl⟩
      · go_enter Try.func57, Try.ntmps57
        go_wp2_with fail
        refine HS.out.mono ?_
        rintro e w1 ⟨rfl, hb1, j, hj, hr1, hd1⟩
        have hdg := HDG.out j w1 hr1 hj
        rw [hd1, HV.out] at hdg
        have HD1 := Lib.hid hdg
        have HM1 : Hid (∀ k, Calls Try.prog 59 #[.pointer (some ⟨rb, 0, none⟩), .int .u64 9223372036854775808] (w1.drewN k) (RdP rb L (w1.drewN k) (.int .u64 (x : Int)) (l, b1))) := Lib.hid (fun k => by
          have := HMG.out j (w1.drewN k) (hr1.drewN k) hj
          rw [hd1, HQ.out] at this
          exact this)
        have HE := Lib.hid hb1
        clear hb1 hr1 hd1 hdg
        go_wp2_with (first
          | (go_at_call 61; refine HD1.out.mono ?_; rintro e w2 ⟨rfl, k, rfl⟩)
          | (go_at_call 59; refine (HM1.out _).mono ?_; rintro e w3 ⟨rfl, hb3, j3, hj3, hr3, hd3⟩; (have HF := Lib.hid (And.intro hb3 (And.intro hr3 hd3))); clear hb3 hr3 hd3))
        go_ret
        refine ⟨?_, (HE.out.drewN _).trans HF.out.1, j3, hj3, HF.out.2.1, HF.out.2.2⟩
        show Ending.returned (.int .i64 (wrap64 (IntKind.u64.wrap (-(x : Int))))) = _
        rw [neg_wrap hle]
      · have dd : ((d : Int) == 0) = false := beq_false_of_ne (by omega)
        go_enter Try.func57, Try.ntmps57
        go_wp2_with fail
        refine HS.out.mono ?_
        rintro e w1 ⟨rfl, hb1, j, hj, hr1, hd1⟩
        have hdg := HDG.out j w1 hr1 hj
        rw [hd1, HV.out] at hdg
        have HD1 := Lib.hid hdg
        have HM1 : Hid (∀ k, Calls Try.prog 59 #[.pointer (some ⟨rb, 0, none⟩), .int .u64 9223372036854775808] (w1.drewN k) (RdP rb L (w1.drewN k) (.int .u64 (x : Int)) (l, b1))) := Lib.hid (fun k => by
          have := HMG.out j (w1.drewN k) (hr1.drewN k) hj
          rw [hd1, HQ.out] at this
          exact this)
        have HE := Lib.hid hb1
        clear hb1 hr1 hd1 hdg
        go_wp2_with (first
          | (go_at_call 61; refine HD1.out.mono ?_; rintro e w2 ⟨rfl, k, rfl⟩)
          | (go_at_call 59; refine (HM1.out _).mono ?_; rintro e w3 ⟨rfl, hb3, j3, hj3, hr3, hd3⟩; (have HF := Lib.hid (And.intro hb3 (And.intro hr3 hd3))); clear hb3 hr3 hd3))
        go_ret
        refine ⟨?_, (HE.out.drewN _).trans HF.out.1, j3, hj3, HF.out.2.1, HF.out.2.2⟩
        show Ending.returned (.int .i64 (wrap64 (IntKind.u64.wrap (-(x : Int))))) = _
        rw [neg_wrap hle]
  | false =>
    have e0 : skipP 45 (L.drop i, b) = (L.drop i, b) := by unfold skipP; rw [hd]; rfl
    rw [hd, e0] at hs
    rw [intP_pos hd]
    have HS := Lib.hid hs
    have HMG := Lib.hid (fun W (h : TRd W rb L i b) => mag_any 9223372036854775807 (by decide) (by decide) rb L i b W hL h hi)
    have hle := mag_le (m := 9223372036854775807) (by decide) (by decide) (L.drop i, b)
    obtain ⟨q, hq⟩ : ∃ q, magP 9223372036854775807 (L.drop i, b) = q := ⟨_, rfl⟩
    rw [hq] at HMG hle ⊢
    obtain ⟨x, l, b1⟩ := q
    dsimp only at hle HMG ⊢
    clear hd e0 hs hr hq
    go_enter Try.func57, Try.ntmps57
    go_wp2_with fail
    refine HS.out.mono ?_
    rintro e w1 ⟨rfl, hb1, j, hj, hr1, hd1⟩
    obtain rfl : j = i := by
      have := congrArg List.length hd1
      simp only [List.length_drop] at this
      omega
    have HM1 : Hid (Calls Try.prog 59 #[.pointer (some ⟨rb, 0, none⟩), .int .u64 9223372036854775807] w1 (RdP rb L w1 (.int .u64 (x : Int)) (l, b1))) := Lib.hid (HMG.out w1 hr1)
    have HE := Lib.hid hb1
    clear hb1 hr1 hd1
    go_wp2_with fail
    refine HM1.out.mono ?_
    rintro e w3 ⟨rfl, hb3, j3, hj3, hr3, hd3⟩
    have HF := Lib.hid (And.intro hb3 (And.intro hr3 hd3))
    clear hb3 hr3 hd3
    go_wp2_with fail
    go_ret
    exact ⟨rfl, HE.out.trans HF.out.1, j3, hj3, HF.out.2.1, HF.out.2.2⟩
end Go.Proofs.Ythacohejdpjjeaa
