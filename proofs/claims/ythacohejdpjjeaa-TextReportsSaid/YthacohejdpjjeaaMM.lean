/- Walks of the document's answer: numbers that may be negative; lists of numbers. -/
import Derived.Test.YthacohejdpjjeaaML
namespace Go.Proofs.Ythacohejdpjjeaa
open Go.RowKit Go.Lib Go.Sort

theorem str_minus : (⟨#[45]⟩ : ByteArray) = strB [45] := by rfl
theorem str_space : (⟨#[32]⟩ : ByteArray) = strB [32] := by rfl
theorem str_open : (⟨#[91]⟩ : ByteArray) = strB [91] := by rfl
theorem str_shut : (⟨#[93]⟩ : ByteArray) = strB [93] := by rfl

set_option maxHeartbeats 1000000 in
set_option maxRecDepth 100000 in
theorem rint_any (z : Int) (w : World) (hz : I63 z) :
    Calls Try.prog 36 #[.int .i64 z] w (StrP (digI z) w) := by
  obtain ⟨h1, h2⟩ := hz
  by_cases h : z < 0
  · obtain ⟨k, rfl⟩ : ∃ k : Nat, z = -(k : Int) - 1 := ⟨z.natAbs - 1, by omega⟩
    have e : digI (-(k : Int) - 1) = 45 :: digs (k + 1) := by rw [digI, if_pos h, show (-(k : Int) - 1).natAbs = k + 1 by omega]
    rw [e]
    have HA := Lib.hid (rdigits_any (k + 1) w (by omega))
    have had := fun W => add_strs [45] (digs (k + 1)) (by have := digs_len (k + 1); simp; omega) W
    rw [← str_minus] at had
    have hE : [45] ++ digs (k + 1) = 45 :: digs (k + 1) := rfl
    rw [hE] at had
    have ek : ((k + 1 : Nat) : Int) = (k : Int) + 1 := by omega
    rw [ek] at HA
    unfold StrP at HA ⊢
    generalize strB (45 :: digs (k + 1)) = T at had ⊢
    generalize strB (digs (k + 1)) = O at had HA
    clear hE e ek
    go_enter Try.func36, Try.ntmps36
    go_wp2_with fail
    refine HA.out.mono ?_
    rintro e w1 ⟨rfl, hb1⟩
    have HB1 := Lib.hid hb1
    clear hb1
    go_wp2_with fail
    go_ret
    exact ⟨rfl, HB1.out⟩
  · obtain ⟨x, rfl⟩ : ∃ x : Nat, z = (x : Int) := ⟨z.toNat, by omega⟩
    have e : digI (x : Int) = digs x := by rw [digI, if_neg h, show ((x : Int)).natAbs = x by omega]
    rw [e]
    have HA := Lib.hid (rdigits_any x w (by omega))
    have d0 : ¬ (x : Int) < 0 := h
    clear e
    go_enter Try.func36, Try.ntmps36
    go_wp2_with fail
    refine HA.out.mono ?_
    rintro e w1 ⟨rfl, hb1⟩
    have HB1 := Lib.hid hb1
    clear hb1
    go_wp2_with fail
    go_ret
    exact ⟨rfl, HB1.out⟩

set_option maxHeartbeats 1000000 in
set_option maxRecDepth 100000 in
theorem rlistI_any (ao : Option Addr) (b o c : Nat) (l : List Int) (w : World) (ha : 0 < l.length → ao = some ⟨b, o, none⟩) (hb : 0 < l.length → b < w.heap.size)
    (hc : ∀ (i : Nat) (x : Int), l[i]? = some x → w.cell? ⟨b, o + i, none⟩ = some (.int .i64 x)) (hz : ∀ x ∈ l, I63 x) (hn : l.length ≤ 100000000) :
    Calls Try.prog 51 #[.slice ao l.length c] w (StrP (listL digI l) w) := by
  have HC := Lib.hid hc
  have HA := Lib.hid ha
  have HB := Lib.hid hb
  have HZ := Lib.hid hz
  have HN := Lib.hid hn
  obtain ⟨R, hRR⟩ : ∃ R, listL digI l = R := ⟨_, rfl⟩
  rw [hRR]
  have HRR : Hid (([91] ++ numsF digI true l) ++ [93] = R) := Lib.hid (by rw [← hRR]; simp [listL])
  clear hc ha hb hz hRR hn
  go_enter Try.func51, Try.ntmps51
  go_wp2
  go_loopw [3, 7] (fun u k wr => ∃ (j : Nat) (out : List Nat), j ≤ l.length ∧ k = .int .i64 j ∧ u = .string (strB out) ∧ Hid (out.length ≤ 1 + j * 22) ∧ Hid (Below w.heap.size w wr) ∧ Hid (out ++ numsF digI (decide (j = 0)) (l.drop j) = [91] ++ numsF digI true l)) (fun _ k _ => l.length - (RowKit.intOf k).toNat)
  case atStart => exact ⟨0, [91], Nat.zero_le _, rfl, by rw [← str_open], Lib.hid (by decide), Lib.hid (Below.refl _ _), Lib.hid rfl⟩
  case round =>
    obtain ⟨j, out, hj, rfl, rfl, hol, hbl, hp⟩ := hrel
    by_cases hlt : j < l.length
    · obtain rfl := HA.out (by omega)
      obtain ⟨x, hx⟩ : ∃ x, l[j]? = some x := ⟨l[j], List.getElem?_eq_getElem hlt⟩
      have hxo := HZ.out x (List.mem_of_getElem? hx)
      have hcl : wr.cell? ⟨b, o + j, none⟩ = some (.int .i64 x) := (hbl.out.cell (p := ⟨b, _, none⟩) (HB.out (by omega))).trans (HC.out j x hx)
      have HLE : Hid (out.length ≤ 1 + 22 * 100000000) := Lib.hid (by
        have h1 := HN.out
        have h2 := hol.out
        have h3 : j * 22 ≤ l.length * 22 := Nat.mul_le_mul_right _ hj
        omega)
      have hd := drop_consG hx
      have hjb : j < 100000000 := by have := HN.out; omega
      have HAP := Lib.hid (fun W => rint_any x W hxo)
      have hpl := digI_len x
      clear hx hxo
      by_cases h0 : j = 0
      · have d0 : ¬ (0 : Int) < j := by omega
        have HP : Hid ((out ++ digI x) ++ numsF digI (decide (j + 1 = 0)) (l.drop (j + 1)) = [91] ++ numsF digI true l) := Lib.hid (by
          rw [← hp.out, hd]
          rw [show decide (j = 0) = true from decide_eq_true h0, show decide (j + 1 = 0) = false from decide_eq_false (by omega), numsF_true, List.append_assoc])
        have had := fun W => add_strs out (digI x) (by have := HLE.out; omega) W
        have HL : Hid ((out ++ digI x).length ≤ 1 + (j + 1) * 22) := Lib.hid (by have := hol.out; rw [List.length_append]; omega)
        obtain ⟨T, hT⟩ : ∃ T, strB (out ++ digI x) = T := ⟨_, rfl⟩
        have HT := Lib.hid hT
        rw [hT] at had
        unfold StrP at HAP
        generalize strB out = O at had ⊢
        generalize strB (digI x) = O2 at had HAP
        clear hp hd h0 hT
        go_wp2_with (go_at_call 36; refine (HAP.out _).mono ?_; rintro e w2 ⟨rfl, hb2⟩)
        have HB2 := Lib.hid (hbl.out.trans (hb2.mono hbl.out.size))
        clear hb2
        go_roundw
        case rel => exact ⟨j + 1, out ++ digI x, by omega, by go_num, by rw [HT.out], HL, HB2, HP⟩
        case measure => simp [RowKit.intOf]; omega
      · have d0 : (0 : Int) < j := by omega
        have HP : Hid (((out ++ [32]) ++ digI x) ++ numsF digI (decide (j + 1 = 0)) (l.drop (j + 1)) = [91] ++ numsF digI true l) := Lib.hid (by
          rw [← hp.out, hd]
          rw [show decide (j = 0) = false from decide_eq_false h0, show decide (j + 1 = 0) = false from decide_eq_false (by omega), numsF_false]
          simp)
        have had0 := fun W => add_strs out [32] (by have := HLE.out; simp; omega) W
        have had := fun W => add_strs (out ++ [32]) (digI x) (by have := HLE.out; simp; omega) W
        have HL : Hid (((out ++ [32]) ++ digI x).length ≤ 1 + (j + 1) * 22) := Lib.hid (by have := hol.out; simp only [List.length_append, List.length_singleton]; omega)
        rw [← str_space] at had0
        obtain ⟨T, hT⟩ : ∃ T, strB ((out ++ [32]) ++ digI x) = T := ⟨_, rfl⟩
        have HT := Lib.hid hT
        rw [hT] at had
        unfold StrP at HAP
        generalize strB out = O at had0 ⊢
        generalize strB (out ++ [32]) = O1 at had0 had
        generalize strB (digI x) = O2 at had HAP
        clear hp hd h0 hT
        go_wp2_with (go_at_call 36; refine (HAP.out _).mono ?_; rintro e w2 ⟨rfl, hb2⟩)
        have HB2 := Lib.hid (hbl.out.trans (hb2.mono hbl.out.size))
        clear hb2
        go_roundw
        case rel => exact ⟨j + 1, (out ++ [32]) ++ digI x, by omega, by go_num, by rw [HT.out], HL, HB2, HP⟩
        case measure => simp [RowKit.intOf]; omega
    · have hj2 : j = l.length := by omega
      have HP : Hid (out ++ [93] = R) := Lib.hid (by
        rw [← HRR.out, ← hp.out, hj2, List.drop_length]
        simp [numsF])
      have HLE : Hid (out.length ≤ 1 + 22 * 100000000) := Lib.hid (by
        have h1 := HN.out
        have h2 := hol.out
        have h3 : j * 22 ≤ l.length * 22 := Nat.mul_le_mul_right _ hj
        omega)
      have had := fun W => add_strs out [93] (by have := HLE.out; simp; omega) W
      rw [HP.out, ← str_shut] at had
      obtain ⟨T, hT⟩ : ∃ T, strB R = T := ⟨_, rfl⟩
      have HT := Lib.hid hT
      rw [hT] at had
      generalize strB out = O at had ⊢
      clear hp hT
      subst hj2
      go_wp2
      go_ret
      exact ⟨by rw [HT.out]; rfl, hbl.out⟩

set_option maxHeartbeats 1000000 in
set_option maxRecDepth 100000 in
theorem rlistW_any (ao : Option Addr) (b o c : Nat) (l : List Nat) (w : World) (ha : 0 < l.length → ao = some ⟨b, o, none⟩) (hb : 0 < l.length → b < w.heap.size)
    (hc : ∀ (i : Nat) (x : Nat), l[i]? = some x → w.cell? ⟨b, o + i, none⟩ = some (.int .u64 (x : Int))) (hz : ∀ x ∈ l, x < 18446744073709551616) (hn : l.length ≤ 100000000) :
    Calls Try.prog 50 #[.slice ao l.length c] w (StrP (listL digs l) w) := by
  have HC := Lib.hid hc
  have HA := Lib.hid ha
  have HB := Lib.hid hb
  have HZ := Lib.hid hz
  have HN := Lib.hid hn
  obtain ⟨R, hRR⟩ : ∃ R, listL digs l = R := ⟨_, rfl⟩
  rw [hRR]
  have HRR : Hid (([91] ++ numsF digs true l) ++ [93] = R) := Lib.hid (by rw [← hRR]; simp [listL])
  clear hc ha hb hz hRR hn
  go_enter Try.func50, Try.ntmps50
  go_wp2
  go_loopw [3, 7] (fun u k wr => ∃ (j : Nat) (out : List Nat), j ≤ l.length ∧ k = .int .i64 j ∧ u = .string (strB out) ∧ Hid (out.length ≤ 1 + j * 22) ∧ Hid (Below w.heap.size w wr) ∧ Hid (out ++ numsF digs (decide (j = 0)) (l.drop j) = [91] ++ numsF digs true l)) (fun _ k _ => l.length - (RowKit.intOf k).toNat)
  case atStart => exact ⟨0, [91], Nat.zero_le _, rfl, by rw [← str_open], Lib.hid (by decide), Lib.hid (Below.refl _ _), Lib.hid rfl⟩
  case round =>
    obtain ⟨j, out, hj, rfl, rfl, hol, hbl, hp⟩ := hrel
    by_cases hlt : j < l.length
    · obtain rfl := HA.out (by omega)
      obtain ⟨x, hx⟩ : ∃ x, l[j]? = some x := ⟨l[j], List.getElem?_eq_getElem hlt⟩
      have hxo := HZ.out x (List.mem_of_getElem? hx)
      have hcl : wr.cell? ⟨b, o + j, none⟩ = some (.int .u64 (x : Int)) := (hbl.out.cell (p := ⟨b, _, none⟩) (HB.out (by omega))).trans (HC.out j x hx)
      have HLE : Hid (out.length ≤ 1 + 22 * 100000000) := Lib.hid (by
        have h1 := HN.out
        have h2 := hol.out
        have h3 : j * 22 ≤ l.length * 22 := Nat.mul_le_mul_right _ hj
        omega)
      have hd := drop_consG hx
      have hjb : j < 100000000 := by have := HN.out; omega
      have HAP := Lib.hid (fun W => rdigits_any x W hxo)
      have hpl := digs_len x
      clear hx hxo
      by_cases h0 : j = 0
      · have d0 : ¬ (0 : Int) < j := by omega
        have HP : Hid ((out ++ digs x) ++ numsF digs (decide (j + 1 = 0)) (l.drop (j + 1)) = [91] ++ numsF digs true l) := Lib.hid (by
          rw [← hp.out, hd]
          rw [show decide (j = 0) = true from decide_eq_true h0, show decide (j + 1 = 0) = false from decide_eq_false (by omega), numsF_true, List.append_assoc])
        have had := fun W => add_strs out (digs x) (by have := HLE.out; omega) W
        have HL : Hid ((out ++ digs x).length ≤ 1 + (j + 1) * 22) := Lib.hid (by have := hol.out; rw [List.length_append]; omega)
        obtain ⟨T, hT⟩ : ∃ T, strB (out ++ digs x) = T := ⟨_, rfl⟩
        have HT := Lib.hid hT
        rw [hT] at had
        unfold StrP at HAP
        generalize strB out = O at had ⊢
        generalize strB (digs x) = O2 at had HAP
        clear hp hd h0 hT
        go_wp2_with (go_at_call 49; refine (HAP.out _).mono ?_; rintro e w2 ⟨rfl, hb2⟩)
        have HB2 := Lib.hid (hbl.out.trans (hb2.mono hbl.out.size))
        clear hb2
        go_roundw
        case rel => exact ⟨j + 1, out ++ digs x, by omega, by go_num, by rw [HT.out], HL, HB2, HP⟩
        case measure => simp [RowKit.intOf]; omega
      · have d0 : (0 : Int) < j := by omega
        have HP : Hid (((out ++ [32]) ++ digs x) ++ numsF digs (decide (j + 1 = 0)) (l.drop (j + 1)) = [91] ++ numsF digs true l) := Lib.hid (by
          rw [← hp.out, hd]
          rw [show decide (j = 0) = false from decide_eq_false h0, show decide (j + 1 = 0) = false from decide_eq_false (by omega), numsF_false]
          simp)
        have had0 := fun W => add_strs out [32] (by have := HLE.out; simp; omega) W
        have had := fun W => add_strs (out ++ [32]) (digs x) (by have := HLE.out; simp; omega) W
        have HL : Hid (((out ++ [32]) ++ digs x).length ≤ 1 + (j + 1) * 22) := Lib.hid (by have := hol.out; simp only [List.length_append, List.length_singleton]; omega)
        rw [← str_space] at had0
        obtain ⟨T, hT⟩ : ∃ T, strB ((out ++ [32]) ++ digs x) = T := ⟨_, rfl⟩
        have HT := Lib.hid hT
        rw [hT] at had
        unfold StrP at HAP
        generalize strB out = O at had0 ⊢
        generalize strB (out ++ [32]) = O1 at had0 had
        generalize strB (digs x) = O2 at had HAP
        clear hp hd h0 hT
        go_wp2_with (go_at_call 49; refine (HAP.out _).mono ?_; rintro e w2 ⟨rfl, hb2⟩)
        have HB2 := Lib.hid (hbl.out.trans (hb2.mono hbl.out.size))
        clear hb2
        go_roundw
        case rel => exact ⟨j + 1, (out ++ [32]) ++ digs x, by omega, by go_num, by rw [HT.out], HL, HB2, HP⟩
        case measure => simp [RowKit.intOf]; omega
    · have hj2 : j = l.length := by omega
      have HP : Hid (out ++ [93] = R) := Lib.hid (by
        rw [← HRR.out, ← hp.out, hj2, List.drop_length]
        simp [numsF])
      have HLE : Hid (out.length ≤ 1 + 22 * 100000000) := Lib.hid (by
        have h1 := HN.out
        have h2 := hol.out
        have h3 : j * 22 ≤ l.length * 22 := Nat.mul_le_mul_right _ hj
        omega)
      have had := fun W => add_strs out [93] (by have := HLE.out; simp; omega) W
      rw [HP.out, ← str_shut] at had
      obtain ⟨T, hT⟩ : ∃ T, strB R = T := ⟨_, rfl⟩
      have HT := Lib.hid hT
      rw [hT] at had
      generalize strB out = O at had ⊢
      clear hp hT
      subst hj2
      go_wp2
      go_ret
      exact ⟨by rw [HT.out]; rfl, hbl.out⟩
end Go.Proofs.Ythacohejdpjjeaa
