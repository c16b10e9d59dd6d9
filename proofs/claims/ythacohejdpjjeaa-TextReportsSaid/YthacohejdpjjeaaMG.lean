/- Walks of what appends numbers: the digits of numbers that may be negative. -/
import Derived.Test.YthacohejdpjjeaaMF
namespace Go.Proofs.Ythacohejdpjjeaa
open Go.RowKit Go.Lib Go.Sort

set_option maxHeartbeats 1000000 in
set_option maxRecDepth 100000 in
theorem appPos_any (B : Nat) (v : Value) (l : List Nat) (x : Nat) (w : World) (ho : BOwn w B v l) (hx : x < 9223372036854775808) (hl : l.length ≤ 4000000000) (hB : B ≤ w.heap.size) :
    Calls Try.prog 48 #[v, .int .i64 (x : Int)] w (ApP B w (l ++ digs x)) := by
  obtain ⟨iI, ia, ib, ic, id⟩ := info_parts infoB
  obtain ⟨ao, c, rfl⟩ := ho.isSlice
  have HO := Lib.hid ho
  clear ho
  have d0 : ¬ (x : Int) < 0 := by omega
  go_enter Try.func48, Try.ntmps48
  go_wp2
  go_loopw [0, 1, 6] (fun u y fs wr => ∃ (f n : Nat) (fst : Bool) (out : List Nat), y = .int .i64 n ∧ fs = .bool fst ∧ n < 10 ^ f ∧ n < 9223372036854775808 ∧ Hid (fst = true → 0 < f) ∧ Hid (out.length + f = 20) ∧ Hid (BOwn wr B u (l ++ out)) ∧ Hid (Below B w wr) ∧ Hid (Keeps 5 w wr) ∧ Hid (out ++ restD f fst n = rdg 20 x)) (fun _ y fs _ => 2 * (RowKit.intOf y).toNat + bOf fs)
  case atStart => exact ⟨20, x, true, [], rfl, rfl, Nat.lt_of_lt_of_le hx (by decide), hx, Lib.hid (fun _ => by decide), Lib.hid rfl, Lib.hid (by rw [List.append_nil]; exact HO.out), Lib.hid (Below.refl _ _), Lib.hid (Keeps.refl _ _), Lib.hid rfl⟩
  case round =>
    obtain ⟨f, n, fst, out, rfl, rfl, hn, hn2, hf, hlen, hown, hbl, hkp, hp⟩ := hrel
    have HSZ : Hid (B ≤ _) := Lib.hid (Nat.le_trans hB hbl.out.size)
    have HL : Hid ((l ++ out).length + 1 ≤ 4294967296) := Lib.hid (by have := hlen.out; simp; omega)
    by_cases h : fst = false ∧ n = 0
    · obtain ⟨rfl, rfl⟩ := h
      have hq : out = rdg 20 x := by
        have := hp.out
        unfold restD at this
        rw [if_pos ⟨rfl, rfl⟩, List.append_nil] at this
        exact this
      obtain ⟨ao1, c1, rfl⟩ := hown.out.isSlice
      have hne : 0 < out.length := by rw [hq, rdg]; simp
      obtain ⟨g, cur, rfl, hg, hcur, hcc⟩ := hown.out.spot (by simp; omega)
      obtain ⟨HR, HS⟩ := own_reverse hown.out
      have hlen2 : (l ++ out).length = l.length + out.length := List.length_append
      have HQ : Hid (out.reverse = digs x) := Lib.hid (by rw [hq]; rfl)
      have HCU := Lib.hid hcur
      have HR2 := Lib.hid (rev_list g l.length (c1 - l.length) out wr HR (by have := hlen.out; omega))
      have HS2 : Hid (∀ k, BOwn (putRow bV (Sort.ahead wr k) g l.length out.reverse.toArray) B (.slice (some ⟨g, 0, none⟩) (l ++ out).length c1) (l ++ digs x)) := Lib.hid (fun k => by
        have := (HS k).1
        rw [show (l ++ out.reverse).length = (l ++ out).length by simp, HQ.out] at this
        rw [← HQ.out] at this ⊢
        exact this)
      clear hq hcur HR HS hown
      obtain ⟨N, hN⟩ : ∃ N, (l ++ out).length = N := ⟨_, rfl⟩
      have hsl := fun W => run_suffix g N c1 l.length (by omega) (by omega) W
      rw [show N - l.length = out.length by omega] at hsl
      have hc1 : ¬ c1 = l.length := by omega
      have hc2 : l.length ≤ N := by omega
      rw [hN] at HS2 ⊢
      clear hN hlen2 hcc
      go_wp2_with fail
      refine HR2.out.mono ?_
      rintro e w2 ⟨rfl, k, rfl⟩
      have HO3 := Lib.hid (HS2.out k)
      go_wp2_with fail
      go_ret
      exact ⟨_, rfl, HO3.out, below_rev hbl.out hg, hkp.out.trans (keeps_rev HCU.out)⟩
    · obtain ⟨e, rfl⟩ : ∃ e, f = e + 1 := by
        cases f with
        | zero =>
          have h0 := hf.out
          cases fst with
          | true => exact absurd (h0 rfl) (by decide)
          | false => exact absurd ⟨rfl, by simpa using hn⟩ h
        | succ e => exact ⟨e, rfl⟩
      have E : Hid ((out ++ [48 + n % 10]) ++ restD e false (n / 10) = rdg 20 x) := Lib.hid (by rw [← hp.out, restD_next h, List.append_assoc]; rfl)
      have HN : Hid (n / 10 < 10 ^ e) := Lib.hid (by rw [Nat.div_lt_iff_lt_mul (by decide), ← Nat.pow_succ]; exact hn)
      have EB : Hid ([Value.int .u8 (48 + (n : Int) % 10)] = [bV (48 + n % 10)]) := Lib.hid (by unfold bV; rw [Int.natCast_add]; rfl)
      have HE : Hid (e < 20) := Lib.hid (by have := hlen.out; omega)
      have HM : Hid (bOf (.bool fst) = 1 ∨ 0 < n) := Lib.hid (by cases fst with
        | true => exact Or.inl rfl
        | false => right; exact Nat.pos_of_ne_zero (fun h0 => h ⟨rfl, h0⟩))
      obtain ⟨ao1, c1, rfl⟩ := hown.out.isSlice
      have HA : Hid (fst = true ∨ (fst = false ∧ ¬ (n : Int) = 0)) := Lib.hid (by cases fst with
        | true => exact Or.inl rfl
        | false => right; exact ⟨rfl, fun h0 => h ⟨rfl, by omega⟩⟩)
      obtain ⟨N, hN⟩ : ∃ N, (l ++ out).length = N := ⟨_, rfl⟩
      have HN2 := Lib.hid hN
      have hown2 := hown.out
      unfold BOwn at hown2
      obtain ⟨M, hM⟩ : ∃ M, (l ++ out).map bV = M := ⟨_, rfl⟩
      have HM2 := Lib.hid hM
      rw [hN, hM] at hown2
      rw [hN] at HL ⊢
      have HOW := Lib.hid hown2
      clear hM
      clear hown hown2 hp hn hf h hN
      rcases HA.out with rfl | ⟨rfl, h0⟩
      all_goals (
        clear HA
        go_wp2_with (at_builtin; refine append_laid rfl _ _ 77 rfl B 5 iI (.int .u8 0) 1 1 Try.underlying77 ia ib ic id rfl (by decide) (by decide) _ N M rfl HOW.out 1 (by decide) [.int .u8 (48 + (n : Int) % 10)] rfl rfl rfl HL.out HSZ.out ?_)
        intro v1 w1 ho1 hb1 hk1
        have HO1 : Hid (BOwn w1 B v1 (l ++ (out ++ [48 + n % 10]))) := Lib.hid (by
          rw [← List.append_assoc]
          rw [EB.out, ← HM2.out] at ho1
          exact BOwn.app (m := [48 + n % 10]) ho1 (by rw [HN2.out]; rfl))
        have HB1 := Lib.hid (hbl.out.trans hb1)
        have HK1 := Lib.hid (hkp.out.trans hk1)
        clear ho1 hb1 hk1
        go_wp2
        go_roundw
        case rel => exact ⟨e, n / 10, false, out ++ [48 + n % 10], by go_num, rfl, HN.out, by omega, Lib.hid (fun h => by cases h), Lib.hid (by have := hlen.out; simp; omega), HO1, HB1, HK1, E⟩
        case measure => have := HM.out; simp [RowKit.intOf, bOf] at this ⊢; omega)

set_option maxHeartbeats 1000000 in
set_option maxRecDepth 100000 in
theorem appNeg_any (B : Nat) (v : Value) (l kk : List Nat) (hkk : l ++ [45] = kk) (x : Nat) (w : World) (ho : BOwn w B v l) (hx0 : 0 < x) (hx : x ≤ 9223372036854775808) (hl : l.length ≤ 4000000000) (hB : B ≤ w.heap.size) :
    Calls Try.prog 48 #[v, .int .i64 (-(x : Int))] w (ApP B w (kk ++ digs x)) := by
  have HKK := Lib.hid hkk
  clear hkk
  obtain ⟨iI, ia, ib, ic, id⟩ := info_parts infoB
  obtain ⟨ao0, c0, rfl⟩ := ho.isSlice
  have HO := Lib.hid ho
  clear ho
  have d0 : -(x : Int) < 0 := by omega
  have HL0 : Hid (l.length + 1 ≤ 4294967296) := Lib.hid (by omega)
  go_enter Try.func48, Try.ntmps48
  go_wp2_with (at_builtin; refine append_laid rfl _ _ 77 rfl B 5 iI (.int .u8 0) 1 1 Try.underlying77 ia ib ic id rfl (by decide) (by decide) _ l.length (l.map bV) rfl HO.out 1 (by decide) [.int .u8 45] rfl rfl rfl HL0.out hB ?_)
  intro v1 w1 ho1 hb1 hk1
  have HO1 : Hid (BOwn w1 B v1 kk) := Lib.hid (by rw [← HKK.out]; exact BOwn.app (m := [45]) ho1 rfl)
  have hkl : kk.length ≤ 4000000001 := by rw [← HKK.out]; simp; omega
  obtain ⟨ao, c, rfl⟩ := HO1.out.isSlice
  have HB1 := Lib.hid hb1
  have HK1 := Lib.hid hk1
  have HSZ1 := Lib.hid (Nat.le_trans hB hb1.size)
  clear ho1 hb1 hk1 HO HKK
  go_wp2
  go_loopw [0, 1, 6] (fun u y fs wr => ∃ (f n : Nat) (fst : Bool) (out : List Nat), y = .int .i64 (-(n : Int)) ∧ fs = .bool fst ∧ n < 10 ^ f ∧ n ≤ 9223372036854775808 ∧ Hid (fst = true → 0 < f) ∧ Hid (out.length + f = 20) ∧ Hid (BOwn wr B u (kk ++ out)) ∧ Hid (Below B w wr) ∧ Hid (Keeps 5 w wr) ∧ Hid (out ++ restD f fst n = rdg 20 x)) (fun _ y fs _ => 2 * (-RowKit.intOf y).toNat + bOf fs)
  case atStart => exact ⟨20, x, true, [], rfl, rfl, Nat.lt_of_le_of_lt hx (by decide), hx, Lib.hid (fun _ => by decide), Lib.hid rfl, Lib.hid (by rw [List.append_nil]; exact HO1.out), Lib.hid HB1.out, Lib.hid HK1.out, Lib.hid rfl⟩
  case round =>
    obtain ⟨f, n, fst, out, rfl, rfl, hn, hn2, hf, hlen, hown, hbl, hkp, hp⟩ := hrel
    have HSZ : Hid (B ≤ _) := Lib.hid (Nat.le_trans hB hbl.out.size)
    have HL : Hid ((kk ++ out).length + 1 ≤ 4294967296) := Lib.hid (by have := hlen.out; simp; omega)
    by_cases h : fst = false ∧ n = 0
    · obtain ⟨rfl, rfl⟩ := h
      have hq : out = rdg 20 x := by
        have := hp.out
        unfold restD at this
        rw [if_pos ⟨rfl, rfl⟩, List.append_nil] at this
        exact this
      obtain ⟨ao1, c1, rfl⟩ := hown.out.isSlice
      have hne : 0 < out.length := by rw [hq, rdg]; simp
      obtain ⟨g, cur, rfl, hg, hcur, hcc⟩ := hown.out.spot (by simp; omega)
      obtain ⟨HR, HS⟩ := own_reverse (l := kk) hown.out
      have hlen2 : (kk ++ out).length = kk.length + out.length := List.length_append
      have HQ : Hid (out.reverse = digs x) := Lib.hid (by rw [hq]; rfl)
      have HCU := Lib.hid hcur
      have HR2 := Lib.hid (rev_list g kk.length (c1 - kk.length) out wr HR (by have := hlen.out; omega))
      have HS2 : Hid (∀ k, BOwn (putRow bV (Sort.ahead wr k) g kk.length out.reverse.toArray) B (.slice (some ⟨g, 0, none⟩) (kk ++ out).length c1) (kk ++ digs x)) := Lib.hid (fun k => by
        have := (HS k).1
        rw [show (kk ++ out.reverse).length = (kk ++ out).length by simp, HQ.out] at this
        rw [← HQ.out] at this ⊢
        exact this)
      clear hq hcur HR HS hown
      obtain ⟨N, hN⟩ : ∃ N, (kk ++ out).length = N := ⟨_, rfl⟩
      have hsl := fun W => run_suffix g N c1 kk.length (by omega) (by omega) W
      rw [show N - kk.length = out.length by omega] at hsl
      have hc1 : ¬ c1 = kk.length := by omega
      have hc2 : kk.length ≤ N := by omega
      rw [hN] at HS2 ⊢
      clear hN hlen2 hcc
      go_wp2_with fail
      refine HR2.out.mono ?_
      rintro e w2 ⟨rfl, k, rfl⟩
      have HO3 := Lib.hid (HS2.out k)
      go_wp2_with fail
      go_ret
      exact ⟨_, rfl, HO3.out, below_rev hbl.out hg, hkp.out.trans (keeps_rev HCU.out)⟩
    · obtain ⟨e, rfl⟩ : ∃ e, f = e + 1 := by
        cases f with
        | zero =>
          have h0 := hf.out
          cases fst with
          | true => exact absurd (h0 rfl) (by decide)
          | false => exact absurd ⟨rfl, by simpa using hn⟩ h
        | succ e => exact ⟨e, rfl⟩
      have E : Hid ((out ++ [48 + n % 10]) ++ restD e false (n / 10) = rdg 20 x) := Lib.hid (by rw [← hp.out, restD_next h, List.append_assoc]; rfl)
      have HN : Hid (n / 10 < 10 ^ e) := Lib.hid (by rw [Nat.div_lt_iff_lt_mul (by decide), ← Nat.pow_succ]; exact hn)
      have EB : Hid ([Value.int .u8 (48 + (n : Int) % 10)] = [bV (48 + n % 10)]) := Lib.hid (by unfold bV; rw [Int.natCast_add]; rfl)
      have HE : Hid (e < 20) := Lib.hid (by have := hlen.out; omega)
      have HM : Hid (bOf (.bool fst) = 1 ∨ 0 < n) := Lib.hid (by cases fst with
        | true => exact Or.inl rfl
        | false => right; exact Nat.pos_of_ne_zero (fun h0 => h ⟨rfl, h0⟩))
      obtain ⟨ao1, c1, rfl⟩ := hown.out.isSlice
      have HA : Hid (fst = true ∨ (fst = false ∧ ¬ -(n : Int) = 0)) := Lib.hid (by cases fst with
        | true => exact Or.inl rfl
        | false => right; exact ⟨rfl, fun h0 => h ⟨rfl, by omega⟩⟩)
      obtain ⟨N, hN⟩ : ∃ N, (kk ++ out).length = N := ⟨_, rfl⟩
      have HN2 := Lib.hid hN
      have hown2 := hown.out
      unfold BOwn at hown2
      obtain ⟨M, hM⟩ : ∃ M, (kk ++ out).map bV = M := ⟨_, rfl⟩
      have HM2 := Lib.hid hM
      rw [hN, hM] at hown2
      rw [hN] at HL ⊢
      have HOW := Lib.hid hown2
      clear hM
      clear hown hown2 hp hn hf h hN
      by_cases hz : n % 10 = 0
      · have h10 : (n : Int) % 10 = 0 := by omega
        have EB2 : Hid ([Value.int .u8 48] = [bV (48 + n % 10)]) := Lib.hid (by unfold bV; rw [hz]; rfl)
        clear EB hz
        rcases HA.out with rfl | ⟨rfl, h0⟩
        all_goals (
          clear HA
          go_wp2_with (at_builtin; refine append_laid rfl _ _ 77 rfl B 5 iI (.int .u8 0) 1 1 Try.underlying77 ia ib ic id rfl (by decide) (by decide) _ N M rfl HOW.out 1 (by decide) [.int .u8 48] rfl rfl rfl HL.out HSZ.out ?_)
          intro v1 w1 ho1 hb1 hk1
          have HO1 : Hid (BOwn w1 B v1 (kk ++ (out ++ [48 + n % 10]))) := Lib.hid (by
            rw [← List.append_assoc]
            rw [EB2.out, ← HM2.out] at ho1
            exact BOwn.app (m := [48 + n % 10]) ho1 (by rw [HN2.out]; rfl))
          have HB1 := Lib.hid (hbl.out.trans hb1)
          have HK1 := Lib.hid (hkp.out.trans hk1)
          clear ho1 hb1 hk1
          go_wp2
          go_roundw
          case rel => exact ⟨e, n / 10, false, out ++ [48 + n % 10], by go_num, rfl, HN.out, by omega, Lib.hid (fun h => by cases h), Lib.hid (by have := hlen.out; simp; omega), HO1, HB1, HK1, E⟩
          case measure => have := HM.out; simp [RowKit.intOf, bOf] at this ⊢; omega)
      · have h10 : 0 < (n : Int) % 10 := by omega
        clear hz
        rcases HA.out with rfl | ⟨rfl, h0⟩
        all_goals (
          clear HA
          go_wp2_with (at_builtin; refine append_laid rfl _ _ 77 rfl B 5 iI (.int .u8 0) 1 1 Try.underlying77 ia ib ic id rfl (by decide) (by decide) _ N M rfl HOW.out 1 (by decide) [.int .u8 (48 + (n : Int) % 10)] rfl rfl rfl HL.out HSZ.out ?_)
          intro v1 w1 ho1 hb1 hk1
          have HO1 : Hid (BOwn w1 B v1 (kk ++ (out ++ [48 + n % 10]))) := Lib.hid (by
            rw [← List.append_assoc]
            rw [EB.out, ← HM2.out] at ho1
            exact BOwn.app (m := [48 + n % 10]) ho1 (by rw [HN2.out]; rfl))
          have HB1 := Lib.hid (hbl.out.trans hb1)
          have HK1 := Lib.hid (hkp.out.trans hk1)
          clear ho1 hb1 hk1
          go_wp2
          go_roundw
          case rel => exact ⟨e, n / 10, false, out ++ [48 + n % 10], by go_num, rfl, HN.out, by omega, Lib.hid (fun h => by cases h), Lib.hid (by have := hlen.out; simp; omega), HO1, HB1, HK1, E⟩
          case measure => have := HM.out; simp [RowKit.intOf, bOf] at this ⊢; omega)

/-- the digits of any int -/
theorem appInt_any (B : Nat) (v : Value) (l : List Nat) (z : Int) (w : World) (ho : BOwn w B v l) (hz : I63 z) (hl : l.length ≤ 4000000000) (hB : B ≤ w.heap.size) :
    Calls Try.prog 48 #[v, .int .i64 z] w (ApP B w (l ++ digI z)) := by
  obtain ⟨h1, h2⟩ := hz
  by_cases h : z < 0
  · obtain ⟨x, rfl⟩ : ∃ x : Nat, z = -(x : Int) := ⟨z.natAbs, by omega⟩
    have e : l ++ digI (-(x : Int)) = (l ++ [45]) ++ digs x := by rw [digI, if_pos h, show (-(x : Int)).natAbs = x by omega, List.append_assoc]; rfl
    rw [e]
    exact appNeg_any B v l _ rfl x w ho (by omega) (by omega) hl hB
  · obtain ⟨x, rfl⟩ : ∃ x : Nat, z = (x : Int) := ⟨z.toNat, by omega⟩
    have e : digI (x : Int) = digs x := by rw [digI, if_neg h, show ((x : Int)).natAbs = x by omega]
    rw [e]
    exact appPos_any B v l x w ho (by omega) hl hB
end Go.Proofs.Ythacohejdpjjeaa
