/- Walks of the reader of lines: fields, lists. -/
import Derived.Test.YthacohejdpjjeaaMR
namespace Go.Proofs.Ythacohejdpjjeaa
open Go.RowKit Go.Lib Go.Sort

set_option maxHeartbeats 1000000 in
set_option maxRecDepth 100000 in
theorem field_any (rb : Nat) (L : List Nat) (i : Nat) (b : Bool) (w : World) (hL : BytL L) (hr : TRd w rb L i b) (hi : i ≤ L.length) :
    Calls Try.prog 52 #[.pointer (some ⟨rb, 0, none⟩)] w (RdP rb L w (.int .i64 (fieldP (L.drop i, b)).1) (fieldP (L.drop i, b)).2) := by
  have hs := integer_any rb L i b w hL hr hi
  have HP := Lib.hid (fun j b' W (h : TRd W rb L j b') (hj : j ≤ L.length) => pass_any rb L j b' 32 W hL h hj (by decide))
  unfold fieldP
  obtain ⟨q, hq⟩ : ∃ q, intP (L.drop i, b) = q := ⟨_, rfl⟩
  rw [hq] at hs ⊢
  obtain ⟨x, l, b1⟩ := q
  dsimp only at hs ⊢
  have HS := Lib.hid hs
  clear hs hr hq
  go_enter Try.func52, Try.ntmps52
  go_wp2_with fail
  refine HS.out.mono ?_
  rintro e w1 ⟨rfl, hb1, j, hj, hr1, hd1⟩
  dsimp only at hr1 hd1
  have hp := HP.out j b1 w1 hr1 hj
  rw [hd1] at hp
  obtain ⟨q2, hq2⟩ : ∃ q2, passP 32 (l, b1) = q2 := ⟨_, rfl⟩
  rw [hq2] at hp
  have HQ2 := Lib.hid hq2
  obtain ⟨l2, b2⟩ := q2
  have HP1 := Lib.hid hp
  have HE := Lib.hid hb1
  clear hb1 hr1 hd1 hp hq2
  go_wp2_with fail
  refine HP1.out.mono ?_
  rintro e w2 ⟨rfl, hb2, j2, hj2, hr2, hd2⟩
  have HF := Lib.hid (And.intro hb2 (And.intro hr2 hd2))
  clear hb2 hr2 hd2
  go_wp2_with fail
  go_ret
  rw [HQ2.out]
  exact ⟨rfl, HE.out.trans HF.out.1, j2, hj2, HF.out.2.1, HF.out.2.2⟩

theorem But1.then_below {p : Nat} {a w w' : World} (h : But1 p a w) (k : Below a.heap.size w w') : But1 p a w' :=
  ⟨k.os.trans h.os, k.tape.trans h.tape, k.output.trans h.output, Nat.le_trans h.size k.size, fun i hi h1 => (k.block i hi).trans (h.block i hi h1)⟩
theorem TRd.below {w w' : World} {rb B : Nat} {L : List Nat} {i : Nat} {b : Bool} (h : TRd w rb L i b) (hb : Below B w w') (hB : rb < B) : TRd w' rb L i b := (hb.block rb hB).trans h
/-- has a reader stopped? -/
def stOf (rb : Nat) (w : World) : Nat := match w.cell? ⟨rb, 2, none⟩ with | some (.bool false) => 1 | _ => 0
theorem TRd.stOf {w : World} {rb : Nat} {L : List Nat} {i : Nat} {b : Bool} (h : TRd w rb L i b) : stOf rb w = if b = true then 0 else 1 := by
  unfold Go.Proofs.Ythacohejdpjjeaa.stOf
  rw [cell_of_heap h (k := 2) (v := .bool b) rfl]
  cases b <;> rfl
/-- what the reading of a list leaves -/
def LsP {α : Type} (rb : Nat) (L : List Nat) (W : World) (t : TypeId) (enc : α → Value) (q : Option (List α) × PS) (e : Ending) (w' : World) : Prop :=
  ∃ v, e = .returned v ∧ w'.ownsRow W.heap.size t 1 v (q.1.getD []).length ((q.1.getD []).map enc) ∧ But1 rb W w' ∧ ∃ j, j ≤ L.length ∧ TRd w' rb L j q.2.2 ∧ L.drop j = q.2.1
theorem mag_len (m : Nat) (s : PS) : (magP m s).2.1.length ≤ s.1.length := by
  unfold magP
  split
  · simp
  · split
    · exact Nat.le_refl _
    · exact eatP_len m s.1 0
theorem word_len (s : PS) : (wordP s).2.1.length ≤ s.1.length := mag_len _ s
theorem int_len (s : PS) : (intP s).2.1.length ≤ s.1.length := by
  unfold intP
  split
  · split
    · simp
    · have := mag_len 9223372036854775808 (s.1.tail, s.2)
      simp only [List.length_tail] at this
      show (magP 9223372036854775808 (s.1.tail, s.2)).2.1.length ≤ _
      omega
  · exact mag_len _ s
theorem pass_less {c : Nat} {s : PS} (h : (passP c s).2 = false) : (passP c s).1.length < s.1.length := by
  have h2 : passP c s = ((passP c s).1, false) := by rw [← h]
  have := passP_good h2
  rw [this, passP_cons]
  simp
theorem pass_le (c : Nat) (s : PS) : (passP c s).1.length ≤ s.1.length := by
  unfold passP
  split
  · simp
  · exact Nat.le_refl _

theorem infoW : (Try.prog.info? 37).map (fun i => (i.zero, i.size, i.bytes)) = some (some (.int .u64 0), 1, 8) := by kernel_rfl
set_option maxHeartbeats 2000000 in
set_option maxRecDepth 100000 in
theorem listW_any (rb : Nat) (L : List Nat) (i : Nat) (b : Bool) (w : World) (hL : BytL L) (hl : L.length ≤ 1000000) (hr : TRd w rb L i b) (hi : i ≤ L.length) (hrb : rb < w.heap.size) :
    Calls Try.prog 55 #[.pointer (some ⟨rb, 0, none⟩), .func (.func 53) #[.pointer (some ⟨rb, 0, none⟩)] #[]] w (LsP rb L w 37 (fun z : Nat => Value.int .u64 (z : Int)) (listP wordP (L.drop i, b))) := by
  obtain ⟨iI, ia, ib, ic, id⟩ := info_parts infoW
  have hp0 := pass_any rb L i b 91 w hL hr hi (by decide)
  have HSK := Lib.hid (fun j b' c W (hc : c < 256) (h : TRd W rb L j b') (hj : j ≤ L.length) => skip_any rb L j b' c W hL h hj hc)
  have HPS := Lib.hid (fun j b' W (h : TRd W rb L j b') (hj : j ≤ L.length) => pass_any rb L j b' 32 W hL h hj (by decide))
  have HNX := Lib.hid (fun j b' W (h : TRd W rb L j b') (hj : j ≤ L.length) => word_any rb L j b' W hL h hj)
  obtain ⟨R, hR⟩ : ∃ R, listP wordP (L.drop i, b) = R := ⟨_, rfl⟩
  have hR2 : R = if isC 93 (passP 91 (L.drop i, b)) = true then (some [], ((passP 91 (L.drop i, b)).1.tail, (passP 91 (L.drop i, b)).2)) else loopP wordP ((passP 91 (L.drop i, b)).1.length + 1) [] (passP 91 (L.drop i, b)) := by rw [← hR]; rfl
  rw [hR]
  generalize passP 91 (L.drop i, b) = q at hp0 hR2
  obtain ⟨l, b1⟩ := q
  have HP0 := Lib.hid hp0
  have HR2 := Lib.hid hR2
  clear hp0 hR hR2 hr
  go_enter Try.func55, Try.ntmps55
  go_wp2_with fail
  refine HP0.out.mono ?_
  rintro e w1 ⟨rfl, hb1, j1, hj1, hr1, hd1⟩
  dsimp only at hr1 hd1
  have hsk := HSK.out j1 b1 93 w1 (by decide) hr1 hj1
  rw [hd1] at hsk
  have HB1 := Lib.hid hb1
  have HR1 := Lib.hid hr1
  cases h93 : isC 93 (l, b1) with
  | true =>
    have e1 : skipP 93 (l, b1) = (l.tail, b1) := by unfold skipP; rw [if_pos h93]
    rw [e1, h93] at hsk
    have HRR : Hid (R = (some [], (l.tail, b1))) := Lib.hid (by rw [HR2.out, if_pos h93])
    have HS1 := Lib.hid hsk
    clear hb1 hr1 hd1 hsk e1 h93
    go_wp2_with fail
    refine HS1.out.mono ?_
    rintro e w2 ⟨rfl, hb2, j2, hj2, hr2, hd2⟩
    have HF := Lib.hid (And.intro hb2 (And.intro hr2 hd2))
    clear hb2 hr2 hd2
    go_wp2_with fail
    go_ret
    rw [HRR.out]
    exact ⟨_, rfl, ⟨rfl, .inl ⟨rfl, rfl⟩⟩, HB1.out.trans HF.out.1, j2, hj2, HF.out.2.1, HF.out.2.2⟩
  | false =>
    have e1 : skipP 93 (l, b1) = (l, b1) := by unfold skipP; rw [h93]; rfl
    rw [e1, h93] at hsk
    have HRR : Hid (loopP wordP (l.length + 1) [] (l, b1) = R) := Lib.hid (by rw [HR2.out, if_neg (by rw [h93]; simp)])
    have HS1 := Lib.hid hsk
    have HLL : Hid (l.length ≤ L.length) := Lib.hid (by rw [← hd1, List.length_drop]; omega)
    clear hb1 hr1 hd1 hsk e1 h93
    go_wp2_with fail
    refine HS1.out.mono ?_
    rintro e w2 ⟨rfl, hb2, j2, hj2, hr2, hd2⟩
    dsimp only at hr2 hd2
    have HB2 := Lib.hid (HB1.out.trans hb2)
    have HR22 := Lib.hid hr2
    have HD2 := Lib.hid hd2
    clear hb2 hr2 hd2
    go_wp2_with fail
    go_loopw [5] (fun u wr => ∃ (f j : Nat) (bb : Bool) (acc : List Nat), j ≤ L.length ∧ Hid (acc.length + f ≤ L.length + 1) ∧ Hid (wr.ownsRow w.heap.size 37 1 u acc.length (acc.map (fun z : Nat => Value.int .u64 (z : Int)))) ∧ Hid (But1 rb w wr) ∧ Hid (TRd wr rb L j bb) ∧ Hid (bb = true ∨ (L.drop j).length < f) ∧ Hid (loopP wordP f acc (L.drop j, bb) = R)) (fun _ wr => 2 * (L.length - atOf rb wr) + stOf rb wr)
    case atStart => exact ⟨l.length + 1, j2, b1, [], hj2, Lib.hid (by have := HLL.out; simp; omega), Lib.hid ⟨rfl, .inl ⟨rfl, rfl⟩⟩, HB2, HR22, Lib.hid (Or.inr (by rw [HD2.out]; omega)), by rw [HD2.out]; exact HRR⟩
    case round =>
      obtain ⟨f, j, bb, acc, hj, hlen, hown, hbt, hrd, hfu, hp⟩ := hrel
      have r2 := cell_of_heap hrd.out (k := 2) rfl
      cases bb with
      | true =>
        have HX : Hid (R = (none, (L.drop j, true))) := Lib.hid (by
          rw [← hp.out]
          cases f with
          | zero => rfl
          | succ f => rw [loopP, if_pos rfl])
        clear hp
        go_wp2_with fail
        go_ret
        rw [HX.out]
        exact ⟨_, rfl, ⟨rfl, .inl ⟨rfl, rfl⟩⟩, hbt.out, j, hj, hrd.out, rfl⟩
      | false =>
        obtain ⟨g, rfl⟩ : ∃ g, f = g + 1 := by
          rcases hfu.out with h | h
          · cases h
          · exact ⟨f - 1, by omega⟩
        have hp2 := hp.out
        rw [loopP, if_neg (by simp)] at hp2
        have hnx := HNX.out j false wr hrd.out hj
        have hless := word_ok.less (L.drop j)
        have hle := word_len (L.drop j, false)
        generalize wordP (L.drop j, false) = q at hp2 hnx hless hle
        obtain ⟨x, l3, b3⟩ := q
        dsimp only at hp2 hnx hless hle
        have HFU : Hid ((L.drop j).length < g + 1) := Lib.hid (by
          rcases hfu.out with h | h
          · cases h
          · exact h)
        have HNX1 := Lib.hid hnx
        have HP2 := Lib.hid hp2
        have HLS := Lib.hid hless
        have HLE := Lib.hid hle
        clear hnx hp2 hless hle hp hfu
        go_wp2_with fail
        refine HNX1.out.mono ?_
        rintro e w3 ⟨rfl, hb3, j3, hj3, hr3, hd3⟩
        dsimp only at hr3 hd3
        have hown3 := hb3.own hown.out hrb
        obtain ⟨M, hM⟩ : ∃ M, acc.map (fun z : Nat => Value.int .u64 (z : Int)) = M := ⟨_, rfl⟩
        obtain ⟨N, hN⟩ : ∃ N, acc.length = N := ⟨_, rfl⟩
        have HNL : Hid (N + 1 ≤ 4294967296) := Lib.hid (by have := hlen.out; omega)
        rw [hM, hN] at hown3
        have HM := Lib.hid hM
        have HN := Lib.hid hN
        have HOW := Lib.hid hown3
        have HB3 := Lib.hid (hbt.out.trans hb3)
        have HR3 := Lib.hid hr3
        have HD3 := Lib.hid hd3
        have HSZ3 := Lib.hid (hbt.out.trans hb3).size
        have HJ : Hid (b3 = true ∨ j < j3) := Lib.hid (by
          rcases HLS.out with h | h
          · exact Or.inl h
          · right
            rw [← hd3] at h
            simp only [List.length_drop] at h
            omega)
        have HJ2 : Hid (j ≤ j3) := Lib.hid (by
          have h := HLE.out
          rw [← hd3] at h
          simp only [List.length_drop] at h
          omega)
        clear hown3 hM hN hb3 hr3 hd3 hown
        go_wp2_with (at_builtin; refine append_laid rfl _ _ 40 rfl w.heap.size 37 iI (.int .u64 0) 1 8 Try.underlying40 ia ib ic id rfl (by decide) (by decide) _ N M rfl HOW.out 1 (by decide) [(.int .u64 (x : Int))] rfl rfl rfl HNL.out HSZ3.out ?_)
        intro v4 w4 ho4 hb4 hk4
        have HO4 : Hid (w4.ownsRow w.heap.size 37 1 v4 (acc ++ [x]).length ((acc ++ [x]).map (fun z : Nat => Value.int .u64 (z : Int)))) := Lib.hid (by
          rw [List.map_append, HM.out, List.length_append, HN.out]
          exact ho4)
        have HB4 := Lib.hid (HB3.out.then_below hb4)
        have HR4 := Lib.hid (HR3.out.below hb4 hrb)
        have hsk := HSK.out j3 b3 93 w4 (by decide) HR4.out hj3
        rw [HD3.out] at hsk
        clear ho4 hb4 hk4
        cases h93 : isC 93 (l3, b3) with
        | true =>
          have e1 : skipP 93 (l3, b3) = (l3.tail, b3) := by unfold skipP; rw [if_pos h93]
          rw [e1, h93] at hsk
          have HRR : Hid ((some (acc ++ [x]), (l3.tail, b3)) = R) := Lib.hid (by have := HP2.out; rw [if_pos h93] at this; exact this)
          have HS1 := Lib.hid hsk
          clear hsk e1 h93
          go_wp2_with fail
          refine HS1.out.mono ?_
          rintro e w5 ⟨rfl, hb5, j5, hj5, hr5, hd5⟩
          have HF := Lib.hid (And.intro hb5 (And.intro hr5 hd5))
          have HO5 := Lib.hid (hb5.own HO4.out hrb)
          clear hb5 hr5 hd5
          go_wp2_with fail
          go_ret
          rw [← HRR.out]
          exact ⟨_, rfl, HO5.out, HB4.out.trans HF.out.1, j5, hj5, HF.out.2.1, HF.out.2.2⟩
        | false =>
          have e1 : skipP 93 (l3, b3) = (l3, b3) := by unfold skipP; rw [h93]; rfl
          rw [e1, h93] at hsk
          have HRR : Hid (loopP wordP g (acc ++ [x]) (passP 32 (l3, b3)) = R) := Lib.hid (by have := HP2.out; rw [if_neg (by rw [h93]; simp)] at this; exact this)
          have HS1 := Lib.hid hsk
          clear hsk e1 h93
          go_wp2_with fail
          refine HS1.out.mono ?_
          rintro e w5 ⟨rfl, hb5, j5, hj5, hr5, hd5⟩
          dsimp only at hr5 hd5
          have hps := HPS.out j5 b3 w5 hr5 hj5
          rw [hd5] at hps
          obtain ⟨q6, hq6⟩ : ∃ q6, passP 32 (l3, b3) = q6 := ⟨_, rfl⟩
          have hpl := @pass_less 32 (l3, b3)
          have hpe := pass_le 32 (l3, b3)
          have hps2 := @passP_bad 32 l3
          rw [hq6] at hps hpl hpe
          obtain ⟨l6, b6⟩ := q6
          dsimp only at hpl hpe
          have HQ6 := Lib.hid hq6
          have HS6 := Lib.hid hps
          have HB5 := Lib.hid (HB4.out.trans hb5)
          have HO5 := Lib.hid (hb5.own HO4.out hrb)
          have HPL := Lib.hid hpl
          have HPE := Lib.hid hpe
          have HBB : Hid (b3 = true → b6 = true) := Lib.hid (fun h => by
            subst h
            rw [hps2] at hq6
            cases hq6; rfl)
          clear hb5 hr5 hd5 hps hq6 hpl hpe hps2
          go_wp2_with fail
          refine HS6.out.mono ?_
          rintro e w6 ⟨rfl, hb6, j6, hj6, hr6, hd6⟩
          dsimp only at hr6 hd6
          have HB6 := Lib.hid (HB5.out.trans hb6)
          have HO6 := Lib.hid (hb6.own HO5.out hrb)
          have HR6 := Lib.hid hr6
          have HD6 := Lib.hid hd6
          have HJ6 : Hid (j3 ≤ j6 ∧ (b6 = false → j3 < j6)) := Lib.hid (by
            have h1 := HPE.out
            have h2 := HPL.out
            rw [← hd6, ← HD3.out] at h1 h2
            simp only [List.length_drop] at h1 h2
            exact ⟨by omega, fun h => by have := h2 h; omega⟩)
          clear hb6 hr6 hd6
          go_wp2_with fail
          go_roundw
          case rel =>
            refine ⟨g, j6, b6, acc ++ [x], hj6, Lib.hid (by have := hlen.out; simp; omega), HO6, HB6, HR6, Lib.hid ?_, Lib.hid (by rw [HD6.out, ← HQ6.out]; exact HRR.out)⟩
            cases hb : b6 with
            | true => exact Or.inl rfl
            | false =>
              right
              have h1 := HJ6.out.2 hb
              have h2 := HJ2.out
              have h3 := HFU.out
              simp only [List.length_drop] at h3 ⊢
              omega
          case measure =>
            have h1 := HR6.out.atOf
            have h2 := HR6.out.stOf
            have h3 := hrd.out.atOf
            have h4 := hrd.out.stOf
            have h5 := HJ6.out
            have h6 := HJ.out
            have h7 := HJ2.out
            rw [if_neg (by simp)] at h4
            rw [h1, h2, h3, h4]
            cases hb : b6 with
            | true => simp; omega
            | false =>
              have := h5.2 hb
              simp; omega

theorem infoI : (Try.prog.info? 3).map (fun i => (i.zero, i.size, i.bytes)) = some (some (.int .i64 0), 1, 8) := by kernel_rfl
set_option maxHeartbeats 2000000 in
set_option maxRecDepth 100000 in
theorem listI_any (rb : Nat) (L : List Nat) (i : Nat) (b : Bool) (w : World) (hL : BytL L) (hl : L.length ≤ 1000000) (hr : TRd w rb L i b) (hi : i ≤ L.length) (hrb : rb < w.heap.size) :
    Calls Try.prog 56 #[.pointer (some ⟨rb, 0, none⟩), .func (.func 57) #[.pointer (some ⟨rb, 0, none⟩)] #[]] w (LsP rb L w 3 (fun z : Int => Value.int .i64 z) (listP intP (L.drop i, b))) := by
  obtain ⟨iI, ia, ib, ic, id⟩ := info_parts infoI
  have hp0 := pass_any rb L i b 91 w hL hr hi (by decide)
  have HSK := Lib.hid (fun j b' c W (hc : c < 256) (h : TRd W rb L j b') (hj : j ≤ L.length) => skip_any rb L j b' c W hL h hj hc)
  have HPS := Lib.hid (fun j b' W (h : TRd W rb L j b') (hj : j ≤ L.length) => pass_any rb L j b' 32 W hL h hj (by decide))
  have HNX := Lib.hid (fun j b' W (h : TRd W rb L j b') (hj : j ≤ L.length) => integer_any rb L j b' W hL h hj)
  obtain ⟨R, hR⟩ : ∃ R, listP intP (L.drop i, b) = R := ⟨_, rfl⟩
  have hR2 : R = if isC 93 (passP 91 (L.drop i, b)) = true then (some [], ((passP 91 (L.drop i, b)).1.tail, (passP 91 (L.drop i, b)).2)) else loopP intP ((passP 91 (L.drop i, b)).1.length + 1) [] (passP 91 (L.drop i, b)) := by rw [← hR]; rfl
  rw [hR]
  generalize passP 91 (L.drop i, b) = q at hp0 hR2
  obtain ⟨l, b1⟩ := q
  have HP0 := Lib.hid hp0
  have HR2 := Lib.hid hR2
  clear hp0 hR hR2 hr
  go_enter Try.func56, Try.ntmps56
  go_wp2_with fail
  refine HP0.out.mono ?_
  rintro e w1 ⟨rfl, hb1, j1, hj1, hr1, hd1⟩
  dsimp only at hr1 hd1
  have hsk := HSK.out j1 b1 93 w1 (by decide) hr1 hj1
  rw [hd1] at hsk
  have HB1 := Lib.hid hb1
  have HR1 := Lib.hid hr1
  cases h93 : isC 93 (l, b1) with
  | true =>
    have e1 : skipP 93 (l, b1) = (l.tail, b1) := by unfold skipP; rw [if_pos h93]
    rw [e1, h93] at hsk
    have HRR : Hid (R = (some [], (l.tail, b1))) := Lib.hid (by rw [HR2.out, if_pos h93])
    have HS1 := Lib.hid hsk
    clear hb1 hr1 hd1 hsk e1 h93
    go_wp2_with fail
    refine HS1.out.mono ?_
    rintro e w2 ⟨rfl, hb2, j2, hj2, hr2, hd2⟩
    have HF := Lib.hid (And.intro hb2 (And.intro hr2 hd2))
    clear hb2 hr2 hd2
    go_wp2_with fail
    go_ret
    rw [HRR.out]
    exact ⟨_, rfl, ⟨rfl, .inl ⟨rfl, rfl⟩⟩, HB1.out.trans HF.out.1, j2, hj2, HF.out.2.1, HF.out.2.2⟩
  | false =>
    have e1 : skipP 93 (l, b1) = (l, b1) := by unfold skipP; rw [h93]; rfl
    rw [e1, h93] at hsk
    have HRR : Hid (loopP intP (l.length + 1) [] (l, b1) = R) := Lib.hid (by rw [HR2.out, if_neg (by rw [h93]; simp)])
    have HS1 := Lib.hid hsk
    have HLL : Hid (l.length ≤ L.length) := Lib.hid (by rw [← hd1, List.length_drop]; omega)
    clear hb1 hr1 hd1 hsk e1 h93
    go_wp2_with fail
    refine HS1.out.mono ?_
    rintro e w2 ⟨rfl, hb2, j2, hj2, hr2, hd2⟩
    dsimp only at hr2 hd2
    have HB2 := Lib.hid (HB1.out.trans hb2)
    have HR22 := Lib.hid hr2
    have HD2 := Lib.hid hd2
    clear hb2 hr2 hd2
    go_wp2_with fail
    go_loopw [5] (fun u wr => ∃ (f j : Nat) (bb : Bool) (acc : List Int), j ≤ L.length ∧ Hid (acc.length + f ≤ L.length + 1) ∧ Hid (wr.ownsRow w.heap.size 3 1 u acc.length (acc.map (fun z : Int => Value.int .i64 z))) ∧ Hid (But1 rb w wr) ∧ Hid (TRd wr rb L j bb) ∧ Hid (bb = true ∨ (L.drop j).length < f) ∧ Hid (loopP intP f acc (L.drop j, bb) = R)) (fun _ wr => 2 * (L.length - atOf rb wr) + stOf rb wr)
    case atStart => exact ⟨l.length + 1, j2, b1, [], hj2, Lib.hid (by have := HLL.out; simp; omega), Lib.hid ⟨rfl, .inl ⟨rfl, rfl⟩⟩, HB2, HR22, Lib.hid (Or.inr (by rw [HD2.out]; omega)), by rw [HD2.out]; exact HRR⟩
    case round =>
      obtain ⟨f, j, bb, acc, hj, hlen, hown, hbt, hrd, hfu, hp⟩ := hrel
      have r2 := cell_of_heap hrd.out (k := 2) rfl
      cases bb with
      | true =>
        have HX : Hid (R = (none, (L.drop j, true))) := Lib.hid (by
          rw [← hp.out]
          cases f with
          | zero => rfl
          | succ f => rw [loopP, if_pos rfl])
        clear hp
        go_wp2_with fail
        go_ret
        rw [HX.out]
        exact ⟨_, rfl, ⟨rfl, .inl ⟨rfl, rfl⟩⟩, hbt.out, j, hj, hrd.out, rfl⟩
      | false =>
        obtain ⟨g, rfl⟩ : ∃ g, f = g + 1 := by
          rcases hfu.out with h | h
          · cases h
          · exact ⟨f - 1, by omega⟩
        have hp2 := hp.out
        rw [loopP, if_neg (by simp)] at hp2
        have hnx := HNX.out j false wr hrd.out hj
        have hless := int_ok.less (L.drop j)
        have hle := int_len (L.drop j, false)
        generalize intP (L.drop j, false) = q at hp2 hnx hless hle
        obtain ⟨x, l3, b3⟩ := q
        dsimp only at hp2 hnx hless hle
        have HFU : Hid ((L.drop j).length < g + 1) := Lib.hid (by
          rcases hfu.out with h | h
          · cases h
          · exact h)
        have HNX1 := Lib.hid hnx
        have HP2 := Lib.hid hp2
        have HLS := Lib.hid hless
        have HLE := Lib.hid hle
        clear hnx hp2 hless hle hp hfu
        go_wp2_with fail
        refine HNX1.out.mono ?_
        rintro e w3 ⟨rfl, hb3, j3, hj3, hr3, hd3⟩
        dsimp only at hr3 hd3
        have hown3 := hb3.own hown.out hrb
        obtain ⟨M, hM⟩ : ∃ M, acc.map (fun z : Int => Value.int .i64 z) = M := ⟨_, rfl⟩
        obtain ⟨N, hN⟩ : ∃ N, acc.length = N := ⟨_, rfl⟩
        have HNL : Hid (N + 1 ≤ 4294967296) := Lib.hid (by have := hlen.out; omega)
        rw [hM, hN] at hown3
        have HM := Lib.hid hM
        have HN := Lib.hid hN
        have HOW := Lib.hid hown3
        have HB3 := Lib.hid (hbt.out.trans hb3)
        have HR3 := Lib.hid hr3
        have HD3 := Lib.hid hd3
        have HSZ3 := Lib.hid (hbt.out.trans hb3).size
        have HJ : Hid (b3 = true ∨ j < j3) := Lib.hid (by
          rcases HLS.out with h | h
          · exact Or.inl h
          · right
            rw [← hd3] at h
            simp only [List.length_drop] at h
            omega)
        have HJ2 : Hid (j ≤ j3) := Lib.hid (by
          have h := HLE.out
          rw [← hd3] at h
          simp only [List.length_drop] at h
          omega)
        clear hown3 hM hN hb3 hr3 hd3 hown
        go_wp2_with (at_builtin; refine append_laid rfl _ _ 24 rfl w.heap.size 3 iI (.int .i64 0) 1 8 Try.underlying24 ia ib ic id rfl (by decide) (by decide) _ N M rfl HOW.out 1 (by decide) [(.int .i64 x)] rfl rfl rfl HNL.out HSZ3.out ?_)
        intro v4 w4 ho4 hb4 hk4
        have HO4 : Hid (w4.ownsRow w.heap.size 3 1 v4 (acc ++ [x]).length ((acc ++ [x]).map (fun z : Int => Value.int .i64 z))) := Lib.hid (by
          rw [List.map_append, HM.out, List.length_append, HN.out]
          exact ho4)
        have HB4 := Lib.hid (HB3.out.then_below hb4)
        have HR4 := Lib.hid (HR3.out.below hb4 hrb)
        have hsk := HSK.out j3 b3 93 w4 (by decide) HR4.out hj3
        rw [HD3.out] at hsk
        clear ho4 hb4 hk4
        cases h93 : isC 93 (l3, b3) with
        | true =>
          have e1 : skipP 93 (l3, b3) = (l3.tail, b3) := by unfold skipP; rw [if_pos h93]
          rw [e1, h93] at hsk
          have HRR : Hid ((some (acc ++ [x]), (l3.tail, b3)) = R) := Lib.hid (by have := HP2.out; rw [if_pos h93] at this; exact this)
          have HS1 := Lib.hid hsk
          clear hsk e1 h93
          go_wp2_with fail
          refine HS1.out.mono ?_
          rintro e w5 ⟨rfl, hb5, j5, hj5, hr5, hd5⟩
          have HF := Lib.hid (And.intro hb5 (And.intro hr5 hd5))
          have HO5 := Lib.hid (hb5.own HO4.out hrb)
          clear hb5 hr5 hd5
          go_wp2_with fail
          go_ret
          rw [← HRR.out]
          exact ⟨_, rfl, HO5.out, HB4.out.trans HF.out.1, j5, hj5, HF.out.2.1, HF.out.2.2⟩
        | false =>
          have e1 : skipP 93 (l3, b3) = (l3, b3) := by unfold skipP; rw [h93]; rfl
          rw [e1, h93] at hsk
          have HRR : Hid (loopP intP g (acc ++ [x]) (passP 32 (l3, b3)) = R) := Lib.hid (by have := HP2.out; rw [if_neg (by rw [h93]; simp)] at this; exact this)
          have HS1 := Lib.hid hsk
          clear hsk e1 h93
          go_wp2_with fail
          refine HS1.out.mono ?_
          rintro e w5 ⟨rfl, hb5, j5, hj5, hr5, hd5⟩
          dsimp only at hr5 hd5
          have hps := HPS.out j5 b3 w5 hr5 hj5
          rw [hd5] at hps
          obtain ⟨q6, hq6⟩ : ∃ q6, passP 32 (l3, b3) = q6 := ⟨_, rfl⟩
          have hpl := @pass_less 32 (l3, b3)
          have hpe := pass_le 32 (l3, b3)
          have hps2 := @passP_bad 32 l3
          rw [hq6] at hps hpl hpe
          obtain ⟨l6, b6⟩ := q6
          dsimp only at hpl hpe
          have HQ6 := Lib.hid hq6
          have HS6 := Lib.hid hps
          have HB5 := Lib.hid (HB4.out.trans hb5)
          have HO5 := Lib.hid (hb5.own HO4.out hrb)
          have HPL := Lib.hid hpl
          have HPE := Lib.hid hpe
          have HBB : Hid (b3 = true → b6 = true) := Lib.hid (fun h => by
            subst h
            rw [hps2] at hq6
            cases hq6; rfl)
          clear hb5 hr5 hd5 hps hq6 hpl hpe hps2
          go_wp2_with fail
          refine HS6.out.mono ?_
          rintro e w6 ⟨rfl, hb6, j6, hj6, hr6, hd6⟩
          dsimp only at hr6 hd6
          have HB6 := Lib.hid (HB5.out.trans hb6)
          have HO6 := Lib.hid (hb6.own HO5.out hrb)
          have HR6 := Lib.hid hr6
          have HD6 := Lib.hid hd6
          have HJ6 : Hid (j3 ≤ j6 ∧ (b6 = false → j3 < j6)) := Lib.hid (by
            have h1 := HPE.out
            have h2 := HPL.out
            rw [← hd6, ← HD3.out] at h1 h2
            simp only [List.length_drop] at h1 h2
            exact ⟨by omega, fun h => by have := h2 h; omega⟩)
          clear hb6 hr6 hd6
          go_wp2_with fail
          go_roundw
          case rel =>
            refine ⟨g, j6, b6, acc ++ [x], hj6, Lib.hid (by have := hlen.out; simp; omega), HO6, HB6, HR6, Lib.hid ?_, Lib.hid (by rw [HD6.out, ← HQ6.out]; exact HRR.out)⟩
            cases hb : b6 with
            | true => exact Or.inl rfl
            | false =>
              right
              have h1 := HJ6.out.2 hb
              have h2 := HJ2.out
              have h3 := HFU.out
              simp only [List.length_drop] at h3 ⊢
              omega
          case measure =>
            have h1 := HR6.out.atOf
            have h2 := HR6.out.stOf
            have h3 := hrd.out.atOf
            have h4 := hrd.out.stOf
            have h5 := HJ6.out
            have h6 := HJ.out
            have h7 := HJ2.out
            rw [if_neg (by simp)] at h4
            rw [h1, h2, h3, h4]
            cases hb : b6 with
            | true => simp; omega
            | false =>
              have := h5.2 hb
              simp; omega
end Go.Proofs.Ythacohejdpjjeaa
