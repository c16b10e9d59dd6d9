/- Walks of the reader of lines: the digits of a number. -/
import Derived.Test.YthacohejdpjjeaaMP
namespace Go.Proofs.Ythacohejdpjjeaa
open Go.RowKit Go.Lib Go.Sort

theorem TRd.drewN {w : World} {rb : Nat} {L : List Nat} {i : Nat} {b : Bool} (h : TRd w rb L i b) (n : Nat) : TRd (w.drewN n) rb L i b := h
/-- where a reader is -/
def atOf (rb : Nat) (w : World) : Nat := match w.cell? ⟨rb, 1, none⟩ with | some (.int _ z) => z.toNat | _ => 0
theorem TRd.atOf {w : World} {rb : Nat} {L : List Nat} {i : Nat} {b : Bool} (h : TRd w rb L i b) : atOf rb w = i := by
  unfold Go.Proofs.Ythacohejdpjjeaa.atOf
  rw [cell_of_heap h (k := 1) (v := .int .i64 (i : Int)) rfl]
  simp
theorem digV_no {l : List Nat} {b : Bool} (h : b = true ∨ digO l = none) : digV (l, b) = .tuple #[.int .u64 0, .bool false] := by
  unfold digV
  cases b with
  | true => rfl
  | false =>
    rcases h with h | h
    · cases h
    · rw [if_neg (by simp)]
      simp only [h]
theorem digV_yes {l : List Nat} {d : Nat} (h : digO l = some d) : digV (l, false) = .tuple #[.int .u64 (d : Int), .bool true] := by
  unfold digV
  rw [if_neg (by simp)]
  simp only [h]
theorem digO_some {l : List Nat} {d : Nat} (h : digO l = some d) : ∃ r, l = (48 + d) :: r ∧ d < 10 := by
  cases l with
  | nil => cases h
  | cons c r =>
    unfold digO at h
    simp only at h
    split at h
    · rename_i h2
      cases h
      exact ⟨r, by rw [show 48 + (c - 48) = c by omega], by omega⟩
    · cases h
theorem eat_no {m x : Nat} {l : List Nat} (h : digO l = none) : eatP m x l = (x, l) := eat_stop (by unfold dgt; rw [h]; rfl)
theorem eat_yes {m x d : Nat} {r : List Nat} (hd : d < 10) (h : 10 * x + d ≤ m) : eatP m x ((48 + d) :: r) = eatP m (10 * x + d) r := by
  rw [eatP, if_pos (by omega), show 48 + d - 48 = d by omega]
theorem eat_over {m x d : Nat} {r : List Nat} (hd : d < 10) (h : ¬ 10 * x + d ≤ m) : eatP m x ((48 + d) :: r) = (x, (48 + d) :: r) := by
  rw [eatP, if_neg (by omega)]
theorem drop_len_eq {L : List Nat} {i j : Nat} (hi : i ≤ L.length) (hj : j ≤ L.length) : decide ((L.drop j).length = (L.drop i).length) = decide (j = i) := by
  rw [decide_eq_decide, List.length_drop, List.length_drop]; omega

set_option maxHeartbeats 2000000 in
set_option maxRecDepth 100000 in
theorem mag_any (m : Nat) (hm : 9 ≤ m) (hm2 : m < 18446744073709551616) (rb : Nat) (L : List Nat) (i : Nat) (b : Bool) (w : World) (hL : BytL L) (hr : TRd w rb L i b) (hi : i ≤ L.length) :
    Calls Try.prog 59 #[.pointer (some ⟨rb, 0, none⟩), .int .u64 (m : Int)] w (RdP rb L w (.int .u64 ((magP m (L.drop i, b)).1 : Int)) (magP m (L.drop i, b)).2) := by
  have hs := skip_any rb L i b 48 w hL hr hi (by decide)
  have HD := Lib.hid (fun j b' W (h : TRd W rb L j b') (hj : j ≤ L.length) => digit_any rb L j b' W hL h hj)
  have hlen := hL.l
  cases hd : isC 48 (L.drop i, b) with
  | true =>
    have e1 : magP m (L.drop i, b) = (0, skipP 48 (L.drop i, b)) := by unfold magP skipP; rw [if_pos hd, if_pos hd]
    rw [e1]
    rw [hd] at hs
    generalize skipP 48 (L.drop i, b) = q at hs ⊢
    obtain ⟨l, b1⟩ := q
    have HS := Lib.hid hs
    clear e1 hd hr hs
    go_enter Try.func59, Try.ntmps59
    go_wp2_with fail
    refine HS.out.mono ?_
    rintro e w1 ⟨rfl, hb1, j, hj, hr1, hd1⟩
    have HE := Lib.hid (And.intro hb1 (And.intro hr1 hd1))
    clear hb1 hr1 hd1
    go_wp2_with fail
    go_ret
    exact ⟨rfl, HE.out.1, j, hj, HE.out.2.1, HE.out.2.2⟩
  | false =>
    have e0 : skipP 48 (L.drop i, b) = (L.drop i, b) := by unfold skipP; rw [hd]; rfl
    rw [hd, e0] at hs
    have HS := Lib.hid hs
    obtain ⟨R, hR⟩ : ∃ R, magP m (L.drop i, b) = R := ⟨_, rfl⟩
    have HR : Hid (R = if b = true then (0, (L.drop i, b)) else ((eatP m 0 (L.drop i)).1, ((eatP m 0 (L.drop i)).2, decide ((eatP m 0 (L.drop i)).2.length = (L.drop i).length)))) := Lib.hid (by
      rw [← hR]
      unfold magP
      rw [hd]
      simp)
    rw [hR]
    clear hd e0 hs hr hR
    go_enter Try.func59, Try.ntmps59
    go_wp2_with fail
    refine HS.out.mono ?_
    rintro e w1 ⟨rfl, hb1, j1, hj1, hr1, hd1⟩
    obtain rfl : j1 = i := by
      have := congrArg List.length hd1
      simp only [List.length_drop] at this
      omega
    have r1 := cell_of_heap hr1 (k := 1) rfl
    have HB1 := Lib.hid hb1
    have HR1 := Lib.hid hr1
    clear hb1 hr1 hd1
    go_wp2_with fail
    go_loopw [6] (fun u wr => ∃ (x j : Nat), u = .int .u64 (x : Int) ∧ x ≤ m ∧ j1 ≤ j ∧ j ≤ L.length ∧ Hid (But1 rb w wr) ∧ Hid (TRd wr rb L j b) ∧ Hid (b = true → x = 0 ∧ j = j1) ∧ Hid (b = false → eatP m x (L.drop j) = eatP m 0 (L.drop j1))) (fun _ wr => L.length - atOf rb wr)
    case atStart => exact ⟨0, j1, rfl, by omega, by omega, hi, HB1, HR1, Lib.hid (fun _ => ⟨rfl, rfl⟩), Lib.hid (fun _ => rfl)⟩
    case round =>
      obtain ⟨x, j, rfl, hx, hj0, hj, hbt, hrd, hbx, hp⟩ := hrel
      have HDJ := Lib.hid (HD.out j b wr hrd.out hj)
      by_cases hno : b = true ∨ digO (L.drop j) = none
      · rw [digV_no hno] at HDJ
        have HX : Hid (R = (x, (L.drop j, b || decide (j = j1)))) := Lib.hid (by
          rw [HR.out]
          cases b with
          | true =>
            obtain ⟨rfl, rfl⟩ := hbx.out rfl
            rfl
          | false =>
            rcases hno with h | h
            · cases h
            · rw [if_neg (by simp), ← hp.out rfl, eat_no h]
              simp only
              rw [drop_len_eq hi hj]
              rfl)
        by_cases hjj : j = j1
        · have d3 : ((j : Int) == (j1 : Int)) = true := by rw [beq_iff_eq]; omega
          have HX2 : Hid (R = (x, (L.drop j, true))) := Lib.hid (by rw [HX.out, decide_eq_true hjj, Bool.or_true])
          have r1 := cell_of_heap hrd.out (k := 1) rfl
          have f2 := free_of_heap (k := 2) hrd.out
          have r2 := cell_of_heap hrd.out (k := 2) rfl
          clear hjj HX hno
          go_wp2_with (go_at_call 61; refine HDJ.out.mono ?_; rintro e w2 ⟨rfl, k, rfl⟩)
          go_ret
          rw [HX2.out]
          exact ⟨rfl, But1.setCell (hbt.out.drewN _) (x := ⟨rb, 2, none⟩) (.inl rfl) _, j, hj, TRd.set2 (hrd.out.drewN k) true, rfl⟩
        · have d3 : ((j : Int) == (j1 : Int)) = false := beq_false_of_ne (by omega)
          have hbf : b = false := by
            cases b with
            | false => rfl
            | true => exact absurd (hbx.out rfl).2 hjj
          subst hbf
          have HX2 : Hid (R = (x, (L.drop j, false))) := Lib.hid (by rw [HX.out, decide_eq_false hjj]; rfl)
          have r1 := cell_of_heap hrd.out (k := 1) rfl
          clear hjj HX hno
          go_wp2_with (go_at_call 61; refine HDJ.out.mono ?_; rintro e w2 ⟨rfl, k, rfl⟩)
          go_ret
          rw [HX2.out]
          exact ⟨rfl, hbt.out.drewN _, j, hj, hrd.out.drewN k, rfl⟩
      · obtain ⟨hbf, d, hd⟩ : b = false ∧ ∃ d, digO (L.drop j) = some d := by
          cases b with
          | true => exact absurd (Or.inl rfl) hno
          | false =>
            refine ⟨rfl, ?_⟩
            cases h : digO (L.drop j) with
            | none => exact absurd (Or.inr h) hno
            | some d => exact ⟨d, rfl⟩
        subst hbf
        rw [digV_yes hd] at HDJ
        obtain ⟨r, hdr, hd10⟩ := digO_some hd
        have hp2 := hp.out rfl
        rw [hdr] at hp2
        have hjlt : j < L.length := by
          have := congrArg List.length hdr
          simp only [List.length_drop, List.length_cons] at this
          omega
        have hrest : r = L.drop (j + 1) := by
          have := congrArg List.tail hdr
          simpa using this.symm
        by_cases hov : 10 * x + d ≤ m
        · rw [eat_yes hd10 hov] at hp2
          have HP : Hid (false = false → eatP m (10 * x + d) (L.drop (j + 1)) = eatP m 0 (L.drop j1)) := Lib.hid (fun _ => by rw [← hrest]; exact hp2)
          have r1 := cell_of_heap hrd.out (k := 1) rfl
          have f1 := free_of_heap (k := 1) hrd.out
          have dgt : ¬ ((m : Int) - (d : Int)) / 10 < (x : Int) := by omega
          have hdm : (d : Int) ≤ (m : Int) := by omega
          have HM : Hid (atOf rb wr = j) := Lib.hid hrd.out.atOf
          have HOV := Lib.hid hov
          clear hno hd hdr hp2 hrest hp hbx
          go_wp2_with (go_at_call 61; refine HDJ.out.mono ?_; rintro e w2 ⟨rfl, k, rfl⟩)
          go_roundw
          case rel => exact ⟨10 * x + d, j + 1, by go_num, HOV.out, by omega, by omega, Lib.hid (But1.setCell (hbt.out.drewN _) (x := ⟨rb, 1, none⟩) (.inl rfl) _), Lib.hid (TRd.set1 (hrd.out.drewN k) (j + 1)), Lib.hid (fun h => by cases h), HP⟩
          case measure =>
            have h1 := (TRd.set1 (hrd.out.drewN k) (j + 1)).atOf
            rw [show ((j + 1 : Nat) : Int) = (j : Int) + 1 by omega] at h1
            rw [HM.out, h1]
            omega
        · rw [eat_over hd10 hov] at hp2
          have dgt : ((m : Int) - (d : Int)) / 10 < (x : Int) := by omega
          have hdm : (d : Int) ≤ (m : Int) := by omega
          have HX : Hid (R = (x, (L.drop j, false || decide (j = j1)))) := Lib.hid (by
            rw [HR.out, if_neg (by simp), ← hp2]
            simp only
            rw [← hdr, drop_len_eq hi hj]
            rfl)
          by_cases hjj : j = j1
          · have d3 : ((j : Int) == (j1 : Int)) = true := by rw [beq_iff_eq]; omega
            have HX2 : Hid (R = (x, (L.drop j, true))) := Lib.hid (by rw [HX.out, decide_eq_true hjj, Bool.or_true])
            have r1 := cell_of_heap hrd.out (k := 1) rfl
            have f2 := free_of_heap (k := 2) hrd.out
            have r2 := cell_of_heap hrd.out (k := 2) rfl
            clear hjj HX hno hd hdr hp2 hrest hov
            go_wp2_with (go_at_call 61; refine HDJ.out.mono ?_; rintro e w2 ⟨rfl, k, rfl⟩)
            go_ret
            rw [HX2.out]
            exact ⟨rfl, But1.setCell (hbt.out.drewN _) (x := ⟨rb, 2, none⟩) (.inl rfl) _, j, hj, TRd.set2 (hrd.out.drewN k) true, rfl⟩
          · have d3 : ((j : Int) == (j1 : Int)) = false := beq_false_of_ne (by omega)
            have HX2 : Hid (R = (x, (L.drop j, false))) := Lib.hid (by rw [HX.out, decide_eq_false hjj]; rfl)
            have r1 := cell_of_heap hrd.out (k := 1) rfl
            clear hjj HX hno hd hdr hp2 hrest hov
            go_wp2_with (go_at_call 61; refine HDJ.out.mono ?_; rintro e w2 ⟨rfl, k, rfl⟩)
            go_ret
            rw [HX2.out]
            exact ⟨rfl, hbt.out.drewN _, j, hj, hrd.out.drewN k, rfl⟩
end Go.Proofs.Ythacohejdpjjeaa
