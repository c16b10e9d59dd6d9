/- Walks of what appends lists of numbers. -/
import Derived.Test.YthacohejdpjjeaaMG
namespace Go.Proofs.Ythacohejdpjjeaa
open Go.RowKit Go.Lib Go.Sort

/-- cells that stay whatever is appended -/
def LaterC (w : World) (B b o : Nat) (vs : List Value) : Prop := ∀ w', Below B w w' → Keeps 5 w w' → ∀ i u, vs[i]? = some u → w'.cell? ⟨b, o + i, none⟩ = some u
theorem LaterC.trans {w w1 : World} {B b o : Nat} {vs : List Value} (h : LaterC w B b o vs) (hb : Below B w w1) (hk : Keeps 5 w w1) : LaterC w1 B b o vs := fun w2 h2 k2 => h w2 (hb.trans h2) (hk.trans k2)
theorem LaterC.of {w : World} {B b o : Nat} {vs : List Value} (hc : ∀ i u, vs[i]? = some u → w.cell? ⟨b, o + i, none⟩ = some u) (hb : 0 < vs.length → b < B) : LaterC w B b o vs := fun w1 h1 _ i u hu => by
  have hl : 0 < vs.length := by have := (List.getElem?_eq_some_iff.1 hu).1; omega
  exact (h1.cell (p := ⟨b, _, none⟩) (hb hl)).trans (hc i u hu)
theorem LaterC.own {w : World} {B B2 g c n : Nat} {e : TypeId} {vs : List Value} (h : w.ownsRow B2 e 1 (.slice (some ⟨g, 0, none⟩) n c) n vs) (he : e ≠ 5) : LaterC w B g 0 vs := fun w1 _ k1 i u hu => by
  have := World.ownsRow.cells (g := g) (k1 B2 e 1 n _ vs he h) rfl i u hu
  rw [Nat.zero_add]
  by_cases hi : i = 0
  · subst hi; simpa [Addr.add] using this
  · simpa [Addr.add, hi] using this

theorem drop_consG {α : Type} {l : List α} {j : Nat} {x : α} (h : l[j]? = some x) : l.drop j = x :: l.drop (j + 1) := by
  have hl := (List.getElem?_eq_some_iff.1 h).1
  rw [List.drop_eq_getElem_cons hl, (List.getElem?_eq_some_iff.1 h).2]
theorem numsF_true {α : Type} {p : α → List Nat} (x : α) (l : List α) : numsF p true (x :: l) = p x ++ numsF p false l := by simp [numsF]
theorem numsF_false {α : Type} {p : α → List Nat} (x : α) (l : List α) : numsF p false (x :: l) = 32 :: (p x ++ numsF p false l) := by simp [numsF]

set_option maxHeartbeats 1000000 in
set_option maxRecDepth 100000 in
theorem appNumsI_any (B : Nat) (v : Value) (out0 : List Nat) (ao : Option Addr) (b o c : Nat) (l : List Int) (w : World) (ho : BOwn w B v out0) (hB : B ≤ w.heap.size) (ha : 0 < l.length → ao = some ⟨b, o, none⟩) (hr : l.length ≤ c)
    (hc : LaterC w B b o (l.map (fun z : Int => Value.int .i64 z))) (hz : ∀ x ∈ l, I63 x) (hn : out0.length + l.length * 22 ≤ 4000000000) :
    Calls Try.prog 43 #[v, .slice ao l.length c] w (ApP B w (out0 ++ numsF digI true l)) := by
  obtain ⟨iI, ia, ib, ic, id⟩ := info_parts infoB
  have HO := Lib.hid ho
  have HC := Lib.hid hc
  have HA := Lib.hid ha
  have HZ := Lib.hid hz
  have HN := Lib.hid hn
  have HR := Lib.hid hr
  obtain ⟨R, hRR⟩ : ∃ R, out0 ++ numsF digI true l = R := ⟨_, rfl⟩
  rw [hRR]
  have HRR := Lib.hid hRR
  clear ho hc ha hz hRR hn hr
  go_enter Try.func43, Try.ntmps43
  go_wp2
  go_loopw [0, 9] (fun u k wr => ∃ (j : Nat) (out : List Nat), j ≤ l.length ∧ k = .int .i64 j ∧ Hid (out.length ≤ out0.length + j * 22) ∧ Hid (BOwn wr B u out) ∧ Hid (Below B w wr) ∧ Hid (Keeps 5 w wr) ∧ Hid (out ++ numsF digI (decide (j = 0)) (l.drop j) = R)) (fun _ k _ => l.length - (RowKit.intOf k).toNat)
  case atStart => exact ⟨0, out0, Nat.zero_le _, rfl, Lib.hid (by omega), HO, Lib.hid (Below.refl _ _), Lib.hid (Keeps.refl _ _), HRR⟩
  case round =>
    obtain ⟨j, out, hj, rfl, hol, hown, hbl, hkp, hp⟩ := hrel
    have HSZ := Lib.hid (Nat.le_trans hB hbl.out.size)
    by_cases hlt : j < l.length
    · obtain rfl := HA.out (by omega)
      obtain ⟨x, hx⟩ : ∃ x, l[j]? = some x := ⟨l[j], List.getElem?_eq_getElem hlt⟩
      have hxo := HZ.out x (List.mem_of_getElem? hx)
      have hcl := HC.out wr hbl.out hkp.out j (.int .i64 x) (by rw [List.getElem?_map, hx]; rfl)
      have HX := Lib.hid hx
      have HXO := Lib.hid hxo
      have HLE : Hid (out.length + 22 ≤ 4000000000) := Lib.hid (by
        have h1 := HN.out
        have h2 := hol.out
        have h3 : (j + 1) * 22 ≤ l.length * 22 := Nat.mul_le_mul_right _ hlt
        omega)
      have hd := drop_consG hx
      have hjb : j < 4000000000 := by have := HN.out; omega
      clear hx hxo
      by_cases h0 : j = 0
      · have d0 : ¬ (0 : Int) < j := by omega
        have HP : Hid ((out ++ digI x) ++ numsF digI (decide (j + 1 = 0)) (l.drop (j + 1)) = R) := Lib.hid (by
          rw [← hp.out, hd]
          rw [show decide (j = 0) = true from decide_eq_true h0, show decide (j + 1 = 0) = false from decide_eq_false (by omega), numsF_true, List.append_assoc])
        have HAP := Lib.hid (appInt_any B u0 out x wr hown.out HXO.out (by have := HLE.out; omega) HSZ.out)
        clear hp hd h0
        go_wp2_with fail
        refine HAP.out.mono ?_
        rintro e w2 ⟨v2, rfl, ho2, hb2, hk2⟩
        have HO2 := Lib.hid ho2
        have HB2 := Lib.hid (hbl.out.trans hb2)
        have HK2 := Lib.hid (hkp.out.trans hk2)
        clear ho2 hb2 hk2
        go_wp2
        go_roundw
        case rel => exact ⟨j + 1, out ++ digI x, by omega, by go_num, Lib.hid (by have := hol.out; have := digI_len x; rw [List.length_append]; omega), HO2, HB2, HK2, HP⟩
        case measure => simp [RowKit.intOf]; omega
      · have d0 : (0 : Int) < j := by omega
        have HP : Hid (((out ++ [32]) ++ digI x) ++ numsF digI (decide (j + 1 = 0)) (l.drop (j + 1)) = R) := Lib.hid (by
          rw [← hp.out, hd]
          rw [show decide (j = 0) = false from decide_eq_false h0, show decide (j + 1 = 0) = false from decide_eq_false (by omega), numsF_false]
          simp)
        have HL : Hid (out.length + 1 ≤ 4294967296) := Lib.hid (by have := HLE.out; omega)
        have hown2 := hown.out
        unfold BOwn at hown2
        obtain ⟨M, hM⟩ : ∃ M, out.map bV = M := ⟨_, rfl⟩
        obtain ⟨N, hN⟩ : ∃ N, out.length = N := ⟨_, rfl⟩
        rw [hM, hN] at hown2
        rw [hN] at HL
        have HM := Lib.hid hM
        have HNN := Lib.hid hN
        have HOW := Lib.hid hown2
        clear hp hd hM hN hown2 hown h0
        go_wp2_with (at_builtin; refine append_laid rfl _ _ 77 rfl B 5 iI (.int .u8 0) 1 1 Try.underlying77 ia ib ic id rfl (by decide) (by decide) _ N M rfl HOW.out 1 (by decide) [.int .u8 32] rfl rfl rfl HL.out HSZ.out ?_)
        intro v1 w1 ho1 hb1 hk1
        have HO1 : Hid (BOwn w1 B v1 (out ++ [32])) := Lib.hid (by
          rw [← HM.out] at ho1
          exact BOwn.app (m := [32]) ho1 (by rw [← HNN.out]; rfl))
        have HB1 := Lib.hid (hbl.out.trans hb1)
        have HK1 := Lib.hid (hkp.out.trans hk1)
        have HAP := Lib.hid (appInt_any B v1 (out ++ [32]) x w1 HO1.out HXO.out (by have := HLE.out; simp; omega) (Nat.le_trans HSZ.out hb1.size))
        clear ho1 hb1 hk1
        go_wp2_with fail
        refine HAP.out.mono ?_
        rintro e w2 ⟨v2, rfl, ho2, hb2, hk2⟩
        have HO2 := Lib.hid ho2
        have HB2 := Lib.hid (HB1.out.trans hb2)
        have HK2 := Lib.hid (HK1.out.trans hk2)
        clear ho2 hb2 hk2
        go_wp2
        go_roundw
        case rel => exact ⟨j + 1, (out ++ [32]) ++ digI x, by omega, by go_num, Lib.hid (by have := hol.out; have := digI_len x; simp only [List.length_append, List.length_singleton]; omega), HO2, HB2, HK2, HP⟩
        case measure => simp [RowKit.intOf]; omega
    · have hj2 : j = l.length := by omega
      have HP : Hid (out = R) := Lib.hid (by
        rw [← hp.out, hj2, List.drop_length]
        simp [numsF])
      clear hp
      subst hj2
      go_wp2
      go_ret
      exact ⟨_, rfl, by rw [← HP.out]; exact hown.out, hbl.out, hkp.out⟩

set_option maxHeartbeats 1000000 in
set_option maxRecDepth 100000 in
theorem appListI_any (B : Nat) (v : Value) (out0 : List Nat) (ao : Option Addr) (b o c : Nat) (l : List Int) (w : World) (ho : BOwn w B v out0) (hB : B ≤ w.heap.size) (ha : 0 < l.length → ao = some ⟨b, o, none⟩) (hr : l.length ≤ c)
    (hc : LaterC w B b o (l.map (fun z : Int => Value.int .i64 z))) (hz : ∀ x ∈ l, I63 x) (hn : out0.length + l.length * 22 ≤ 3999999990) :
    Calls Try.prog 47 #[v, .slice ao l.length c] w (ApP B w (out0 ++ listL digI l)) := by
  obtain ⟨iI, ia, ib, ic, id⟩ := info_parts infoB
  have HL0 : Hid (out0.length + 1 ≤ 4294967296) := Lib.hid (by omega)
  have hq : ∀ W v1, BOwn W B v1 (out0 ++ [91]) → Below B w W → Keeps 5 w W → Calls Try.prog 43 #[v1, .slice ao l.length c] W (ApP B W ((out0 ++ [91]) ++ numsF digI true l)) := fun W v1 h1 h2 h3 =>
    appNumsI_any B v1 (out0 ++ [91]) ao b o c l W h1 (Nat.le_trans hB h2.size) ha hr (hc.trans h2 h3) hz (by simp; omega)
  have hlen : ((out0 ++ [91]) ++ numsF digI true l).length + 1 ≤ 4294967296 := by
    have := numsF_len (p := digI) (k := 21) (fun x => Nat.le_trans (digI_len x) (by decide)) true l
    simp at this ⊢
    omega
  have HQ := Lib.hid hq
  have HLEN := Lib.hid hlen
  have HO := Lib.hid ho
  obtain ⟨R, hR⟩ : ∃ R, out0 ++ listL digI l = R := ⟨_, rfl⟩
  have hRR : ((out0 ++ [91]) ++ numsF digI true l) ++ [93] = R := by rw [← hR]; simp [listL]
  have HRR := Lib.hid hRR
  rw [hR]
  clear hq hlen ho ha hr hc hz hn hR hRR
  go_enter Try.func47, Try.ntmps47
  go_wp2_with (at_builtin; refine append_laid rfl _ _ 77 rfl B 5 iI (.int .u8 0) 1 1 Try.underlying77 ia ib ic id rfl (by decide) (by decide) _ out0.length (out0.map bV) rfl HO.out 1 (by decide) [.int .u8 91] rfl rfl rfl HL0.out hB ?_)
  intro v1 w1 ho1 hb1 hk1
  have HO1 : Hid (BOwn w1 B v1 (out0 ++ [91])) := Lib.hid (BOwn.app (m := [91]) ho1 rfl)
  have HB1 := Lib.hid hb1
  have HK1 := Lib.hid hk1
  have HA1 := Lib.hid (HQ.out w1 v1 HO1.out hb1 hk1)
  clear ho1 hb1 hk1
  go_wp2_with fail
  refine HA1.out.mono ?_
  rintro e w2 ⟨v2, rfl, ho2, hb2, hk2⟩
  obtain ⟨X, hX⟩ : ∃ X, (out0 ++ [91]) ++ numsF digI true l = X := ⟨_, rfl⟩
  rw [hX] at ho2 HRR HLEN
  have HO2 : Hid (w2.ownsRow B 5 1 v2 X.length (X.map bV)) := Lib.hid ho2
  have HB2 := Lib.hid (HB1.out.trans hb2)
  have HK2 := Lib.hid (HK1.out.trans hk2)
  have HSZ := Lib.hid (Nat.le_trans hB HB2.out.size)
  clear ho2 hb2 hk2 hX HA1
  go_wp2_with (at_builtin; refine append_laid rfl _ _ 77 rfl B 5 iI (.int .u8 0) 1 1 Try.underlying77 ia ib ic id rfl (by decide) (by decide) _ X.length (X.map bV) rfl HO2.out 1 (by decide) [.int .u8 93] rfl rfl rfl HLEN.out HSZ.out ?_)
  intro v3 w3 ho3 hb3 hk3
  have HO3 : Hid (BOwn w3 B v3 R) := Lib.hid (by rw [← HRR.out]; exact BOwn.app (m := [93]) ho3 rfl)
  have HB3 := Lib.hid (HB2.out.trans hb3)
  have HK3 := Lib.hid (HK2.out.trans hk3)
  clear ho3 hb3 hk3
  go_wp2
  go_ret
  exact ⟨_, rfl, HO3.out, HB3.out, HK3.out⟩

set_option maxHeartbeats 1000000 in
set_option maxRecDepth 100000 in
theorem appNumsW_any (B : Nat) (v : Value) (out0 : List Nat) (ao : Option Addr) (b o c : Nat) (l : List Nat) (w : World) (ho : BOwn w B v out0) (hB : B ≤ w.heap.size) (ha : 0 < l.length → ao = some ⟨b, o, none⟩) (hr : l.length ≤ c)
    (hc : LaterC w B b o (l.map (fun z : Nat => Value.int .u64 (z : Int)))) (hz : ∀ x ∈ l, x < 18446744073709551616) (hn : out0.length + l.length * 22 ≤ 4000000000) :
    Calls Try.prog 44 #[v, .slice ao l.length c] w (ApP B w (out0 ++ numsF digs true l)) := by
  obtain ⟨iI, ia, ib, ic, id⟩ := info_parts infoB
  have HO := Lib.hid ho
  have HC := Lib.hid hc
  have HA := Lib.hid ha
  have HZ := Lib.hid hz
  have HN := Lib.hid hn
  have HR := Lib.hid hr
  obtain ⟨R, hRR⟩ : ∃ R, out0 ++ numsF digs true l = R := ⟨_, rfl⟩
  rw [hRR]
  have HRR := Lib.hid hRR
  clear ho hc ha hz hRR hn hr
  go_enter Try.func44, Try.ntmps44
  go_wp2
  go_loopw [0, 9] (fun u k wr => ∃ (j : Nat) (out : List Nat), j ≤ l.length ∧ k = .int .i64 j ∧ Hid (out.length ≤ out0.length + j * 22) ∧ Hid (BOwn wr B u out) ∧ Hid (Below B w wr) ∧ Hid (Keeps 5 w wr) ∧ Hid (out ++ numsF digs (decide (j = 0)) (l.drop j) = R)) (fun _ k _ => l.length - (RowKit.intOf k).toNat)
  case atStart => exact ⟨0, out0, Nat.zero_le _, rfl, Lib.hid (by omega), HO, Lib.hid (Below.refl _ _), Lib.hid (Keeps.refl _ _), HRR⟩
  case round =>
    obtain ⟨j, out, hj, rfl, hol, hown, hbl, hkp, hp⟩ := hrel
    have HSZ := Lib.hid (Nat.le_trans hB hbl.out.size)
    by_cases hlt : j < l.length
    · obtain rfl := HA.out (by omega)
      obtain ⟨x, hx⟩ : ∃ x, l[j]? = some x := ⟨l[j], List.getElem?_eq_getElem hlt⟩
      have hxo := HZ.out x (List.mem_of_getElem? hx)
      have hcl := HC.out wr hbl.out hkp.out j (.int .u64 (x : Int)) (by rw [List.getElem?_map, hx]; rfl)
      have HX := Lib.hid hx
      have HXO := Lib.hid hxo
      have HLE : Hid (out.length + 22 ≤ 4000000000) := Lib.hid (by
        have h1 := HN.out
        have h2 := hol.out
        have h3 : (j + 1) * 22 ≤ l.length * 22 := Nat.mul_le_mul_right _ hlt
        omega)
      have hd := drop_consG hx
      have hjb : j < 4000000000 := by have := HN.out; omega
      clear hx hxo
      by_cases h0 : j = 0
      · have d0 : ¬ (0 : Int) < j := by omega
        have HP : Hid ((out ++ digs x) ++ numsF digs (decide (j + 1 = 0)) (l.drop (j + 1)) = R) := Lib.hid (by
          rw [← hp.out, hd]
          rw [show decide (j = 0) = true from decide_eq_true h0, show decide (j + 1 = 0) = false from decide_eq_false (by omega), numsF_true, List.append_assoc])
        have HAP := Lib.hid (appNat_any B u0 out x wr hown.out HXO.out (by have := HLE.out; omega) HSZ.out)
        clear hp hd h0
        go_wp2_with fail
        refine HAP.out.mono ?_
        rintro e w2 ⟨v2, rfl, ho2, hb2, hk2⟩
        have HO2 := Lib.hid ho2
        have HB2 := Lib.hid (hbl.out.trans hb2)
        have HK2 := Lib.hid (hkp.out.trans hk2)
        clear ho2 hb2 hk2
        go_wp2
        go_roundw
        case rel => exact ⟨j + 1, out ++ digs x, by omega, by go_num, Lib.hid (by have := hol.out; have := digs_len x; rw [List.length_append]; omega), HO2, HB2, HK2, HP⟩
        case measure => simp [RowKit.intOf]; omega
      · have d0 : (0 : Int) < j := by omega
        have HP : Hid (((out ++ [32]) ++ digs x) ++ numsF digs (decide (j + 1 = 0)) (l.drop (j + 1)) = R) := Lib.hid (by
          rw [← hp.out, hd]
          rw [show decide (j = 0) = false from decide_eq_false h0, show decide (j + 1 = 0) = false from decide_eq_false (by omega), numsF_false]
          simp)
        have HL : Hid (out.length + 1 ≤ 4294967296) := Lib.hid (by have := HLE.out; omega)
        have hown2 := hown.out
        unfold BOwn at hown2
        obtain ⟨M, hM⟩ : ∃ M, out.map bV = M := ⟨_, rfl⟩
        obtain ⟨N, hN⟩ : ∃ N, out.length = N := ⟨_, rfl⟩
        rw [hM, hN] at hown2
        rw [hN] at HL
        have HM := Lib.hid hM
        have HNN := Lib.hid hN
        have HOW := Lib.hid hown2
        clear hp hd hM hN hown2 hown h0
        go_wp2_with (at_builtin; refine append_laid rfl _ _ 77 rfl B 5 iI (.int .u8 0) 1 1 Try.underlying77 ia ib ic id rfl (by decide) (by decide) _ N M rfl HOW.out 1 (by decide) [.int .u8 32] rfl rfl rfl HL.out HSZ.out ?_)
        intro v1 w1 ho1 hb1 hk1
        have HO1 : Hid (BOwn w1 B v1 (out ++ [32])) := Lib.hid (by
          rw [← HM.out] at ho1
          exact BOwn.app (m := [32]) ho1 (by rw [← HNN.out]; rfl))
        have HB1 := Lib.hid (hbl.out.trans hb1)
        have HK1 := Lib.hid (hkp.out.trans hk1)
        have HAP := Lib.hid (appNat_any B v1 (out ++ [32]) x w1 HO1.out HXO.out (by have := HLE.out; simp; omega) (Nat.le_trans HSZ.out hb1.size))
        clear ho1 hb1 hk1
        go_wp2_with fail
        refine HAP.out.mono ?_
        rintro e w2 ⟨v2, rfl, ho2, hb2, hk2⟩
        have HO2 := Lib.hid ho2
        have HB2 := Lib.hid (HB1.out.trans hb2)
        have HK2 := Lib.hid (HK1.out.trans hk2)
        clear ho2 hb2 hk2
        go_wp2
        go_roundw
        case rel => exact ⟨j + 1, (out ++ [32]) ++ digs x, by omega, by go_num, Lib.hid (by have := hol.out; have := digs_len x; simp only [List.length_append, List.length_singleton]; omega), HO2, HB2, HK2, HP⟩
        case measure => simp [RowKit.intOf]; omega
    · have hj2 : j = l.length := by omega
      have HP : Hid (out = R) := Lib.hid (by
        rw [← hp.out, hj2, List.drop_length]
        simp [numsF])
      clear hp
      subst hj2
      go_wp2
      go_ret
      exact ⟨_, rfl, by rw [← HP.out]; exact hown.out, hbl.out, hkp.out⟩

set_option maxHeartbeats 1000000 in
set_option maxRecDepth 100000 in
theorem appListW_any (B : Nat) (v : Value) (out0 : List Nat) (ao : Option Addr) (b o c : Nat) (l : List Nat) (w : World) (ho : BOwn w B v out0) (hB : B ≤ w.heap.size) (ha : 0 < l.length → ao = some ⟨b, o, none⟩) (hr : l.length ≤ c)
    (hc : LaterC w B b o (l.map (fun z : Nat => Value.int .u64 (z : Int)))) (hz : ∀ x ∈ l, x < 18446744073709551616) (hn : out0.length + l.length * 22 ≤ 3999999990) :
    Calls Try.prog 46 #[v, .slice ao l.length c] w (ApP B w (out0 ++ listL digs l)) := by
  obtain ⟨iI, ia, ib, ic, id⟩ := info_parts infoB
  have HL0 : Hid (out0.length + 1 ≤ 4294967296) := Lib.hid (by omega)
  have hq : ∀ W v1, BOwn W B v1 (out0 ++ [91]) → Below B w W → Keeps 5 w W → Calls Try.prog 44 #[v1, .slice ao l.length c] W (ApP B W ((out0 ++ [91]) ++ numsF digs true l)) := fun W v1 h1 h2 h3 =>
    appNumsW_any B v1 (out0 ++ [91]) ao b o c l W h1 (Nat.le_trans hB h2.size) ha hr (hc.trans h2 h3) hz (by simp; omega)
  have hlen : ((out0 ++ [91]) ++ numsF digs true l).length + 1 ≤ 4294967296 := by
    have := numsF_len (p := digs) (k := 21) (fun x => Nat.le_trans (digs_len x) (by decide)) true l
    simp at this ⊢
    omega
  have HQ := Lib.hid hq
  have HLEN := Lib.hid hlen
  have HO := Lib.hid ho
  obtain ⟨R, hR⟩ : ∃ R, out0 ++ listL digs l = R := ⟨_, rfl⟩
  have hRR : ((out0 ++ [91]) ++ numsF digs true l) ++ [93] = R := by rw [← hR]; simp [listL]
  have HRR := Lib.hid hRR
  rw [hR]
  clear hq hlen ho ha hr hc hz hn hR hRR
  go_enter Try.func46, Try.ntmps46
  go_wp2_with (at_builtin; refine append_laid rfl _ _ 77 rfl B 5 iI (.int .u8 0) 1 1 Try.underlying77 ia ib ic id rfl (by decide) (by decide) _ out0.length (out0.map bV) rfl HO.out 1 (by decide) [.int .u8 91] rfl rfl rfl HL0.out hB ?_)
  intro v1 w1 ho1 hb1 hk1
  have HO1 : Hid (BOwn w1 B v1 (out0 ++ [91])) := Lib.hid (BOwn.app (m := [91]) ho1 rfl)
  have HB1 := Lib.hid hb1
  have HK1 := Lib.hid hk1
  have HA1 := Lib.hid (HQ.out w1 v1 HO1.out hb1 hk1)
  clear ho1 hb1 hk1
  go_wp2_with fail
  refine HA1.out.mono ?_
  rintro e w2 ⟨v2, rfl, ho2, hb2, hk2⟩
  obtain ⟨X, hX⟩ : ∃ X, (out0 ++ [91]) ++ numsF digs true l = X := ⟨_, rfl⟩
  rw [hX] at ho2 HRR HLEN
  have HO2 : Hid (w2.ownsRow B 5 1 v2 X.length (X.map bV)) := Lib.hid ho2
  have HB2 := Lib.hid (HB1.out.trans hb2)
  have HK2 := Lib.hid (HK1.out.trans hk2)
  have HSZ := Lib.hid (Nat.le_trans hB HB2.out.size)
  clear ho2 hb2 hk2 hX HA1
  go_wp2_with (at_builtin; refine append_laid rfl _ _ 77 rfl B 5 iI (.int .u8 0) 1 1 Try.underlying77 ia ib ic id rfl (by decide) (by decide) _ X.length (X.map bV) rfl HO2.out 1 (by decide) [.int .u8 93] rfl rfl rfl HLEN.out HSZ.out ?_)
  intro v3 w3 ho3 hb3 hk3
  have HO3 : Hid (BOwn w3 B v3 R) := Lib.hid (by rw [← HRR.out]; exact BOwn.app (m := [93]) ho3 rfl)
  have HB3 := Lib.hid (HB2.out.trans hb3)
  have HK3 := Lib.hid (HK2.out.trans hk3)
  clear ho3 hb3 hk3
  go_wp2
  go_ret
  exact ⟨_, rfl, HO3.out, HB3.out, HK3.out⟩
end Go.Proofs.Ythacohejdpjjeaa
