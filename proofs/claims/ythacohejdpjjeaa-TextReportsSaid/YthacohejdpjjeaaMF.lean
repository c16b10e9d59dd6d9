/- Walks of what appends numbers: their digits. -/
import Derived.Test.YthacohejdpjjeaaME
import Derived.IntWalk
namespace Go.Proofs.Ythacohejdpjjeaa
open Go.RowKit Go.Lib Go.Sort

def bOf (v : Value) : Nat := match v with | .bool true => 1 | _ => 0
theorem BOwn.isSlice {w : World} {B : Nat} {v : Value} {l : List Nat} (h : BOwn w B v l) : ∃ ao c, v = .slice ao l.length c := by
  obtain ⟨_, ⟨rfl, e⟩ | ⟨g, cap, cur, rfl, _⟩⟩ := h
  · exact ⟨none, 0, by rw [e]⟩
  · exact ⟨_, cap, rfl⟩
theorem BOwn.spot {w : World} {B : Nat} {ao : Option Addr} {n c : Nat} {l : List Nat} (h : BOwn w B (.slice ao n c) l) (h0 : 0 < l.length) : ∃ g cur, ao = some ⟨g, 0, none⟩ ∧ B ≤ g ∧ w.heap[g]? = some (.cells cur 5 (0, 0)) ∧ l.length ≤ c := by
  obtain ⟨hl, ⟨e, e2⟩ | ⟨g, cap, cur, e, hb, hg, hn, _⟩⟩ := h
  · omega
  · injection e with e1 e2 e3
    subst e3
    exact ⟨g, cur, e1, hb, hg, hn⟩
/-- what is still to be appended of a number -/
def restD (f : Nat) (fst : Bool) (x : Nat) : List Nat := if fst = false ∧ x = 0 then [] else rdg f x
theorem restD_next {f : Nat} {fst : Bool} {x : Nat} (h : ¬ (fst = false ∧ x = 0)) : restD (f + 1) fst x = (48 + x % 10) :: restD f false (x / 10) := by
  unfold restD
  rw [if_neg h, rdg]
  by_cases h0 : x / 10 = 0
  · rw [if_pos h0, if_pos ⟨rfl, h0⟩]
  · rw [if_neg h0, if_neg (fun h => h0 h.2)]
theorem run_suffix (g n c m : Nat) (hm : m < n) (hn : n ≤ c) (w : World) : (Instr.slice 77 (.slice (some ⟨g, 0, none⟩) n c) (some (.int .i64 (m : Int))) none none).run Try.prog w = .ok (.slice (some ⟨g, m, none⟩) (n - m) (c - m)) w := by
  have h : c ≠ m := by omega
  simp [Instr.slice, go_sem]
  rw [if_pos (by omega), if_neg h]

set_option maxHeartbeats 1000000 in
set_option maxRecDepth 100000 in
theorem appNat_any (B : Nat) (v : Value) (l : List Nat) (x : Nat) (w : World) (ho : BOwn w B v l) (hx : x < 18446744073709551616) (hl : l.length ≤ 4000000000) (hB : B ≤ w.heap.size) :
    Calls Try.prog 45 #[v, .int .u64 (x : Int)] w (ApP B w (l ++ digs x)) := by
  obtain ⟨iI, ia, ib, ic, id⟩ := info_parts infoB
  obtain ⟨ao, c, rfl⟩ := ho.isSlice
  have HO := Lib.hid ho
  clear ho
  have d0 : ¬ (x : Int) < 0 := by omega
  go_enter Try.func45, Try.ntmps45
  go_wp2
  go_loopw [0, 1, 6] (fun u y fs wr => ∃ (f n : Nat) (fst : Bool) (out : List Nat), y = .int .u64 n ∧ fs = .bool fst ∧ n < 10 ^ f ∧ n < 18446744073709551616 ∧ Hid (fst = true → 0 < f) ∧ Hid (out.length + f = 20) ∧ Hid (BOwn wr B u (l ++ out)) ∧ Hid (Below B w wr) ∧ Hid (Keeps 5 w wr) ∧ Hid (out ++ restD f fst n = rdg 20 x)) (fun _ y fs _ => 2 * (RowKit.intOf y).toNat + bOf fs)
  case atStart => exact ⟨20, x, true, [], rfl, rfl, Nat.lt_of_lt_of_le hx (by decide), hx, Lib.hid (fun _ => by decide), Lib.hid rfl, Lib.hid (by rw [List.append_nil]; exact HO.out), Lib.hid (Below.refl _ _), Lib.hid (Keeps.refl _ _), Lib.hid rfl⟩
  case round =>
    obtain ⟨f, n, fst, out, rfl, rfl, hn, hn2, hf, hlen, hown, hbl, hkp, hp⟩ := hrel
    have HSZ : Hid (B ≤ _) := Lib.hid (Nat.le_trans hB hbl.out.size)
    have HL : Hid ((l ++ out).length + 1 ≤ 4294967296) := Lib.hid (by have := hlen.out; simp; omega)
    by_cases h : fst = false ∧ n = 0
    · obtain ⟨rfl, rfl⟩ := h
      have hq : out = rdg 20 x := by
        have := hp.out
        unfold restD at this
        rw [if_pos ⟨rfl, rfl⟩, List.append_nil] at this
        exact this
      obtain ⟨ao1, c1, rfl⟩ := hown.out.isSlice
      have hne : 0 < out.length := by rw [hq, rdg]; simp
      obtain ⟨g, cur, rfl, hg, hcur, hcc⟩ := hown.out.spot (by simp; omega)
      obtain ⟨HR, HS⟩ := own_reverse hown.out
      have hlen2 : (l ++ out).length = l.length + out.length := List.length_append
      have HQ : Hid (out.reverse = digs x) := Lib.hid (by rw [hq]; rfl)
      have HCU := Lib.hid hcur
      have HR2 := Lib.hid (rev_list g l.length (c1 - l.length) out wr HR (by have := hlen.out; omega))
      have HS2 : Hid (∀ k, BOwn (putRow bV (Sort.ahead wr k) g l.length out.reverse.toArray) B (.slice (some ⟨g, 0, none⟩) (l ++ out).length c1) (l ++ digs x)) := Lib.hid (fun k => by
        have := (HS k).1
        rw [show (l ++ out.reverse).length = (l ++ out).length by simp, HQ.out] at this
        rw [← HQ.out] at this ⊢
        exact this)
      clear hq hcur HR HS hown
      obtain ⟨N, hN⟩ : ∃ N, (l ++ out).length = N := ⟨_, rfl⟩
      have hsl := fun W => run_suffix g N c1 l.length (by omega) (by omega) W
      rw [show N - l.length = out.length by omega] at hsl
      have hc1 : ¬ c1 = l.length := by omega
      have hc2 : l.length ≤ N := by omega
      rw [hN] at HS2 ⊢
      clear hN hlen2 hcc
      go_wp2_with fail
      refine HR2.out.mono ?_
      rintro e w2 ⟨rfl, k, rfl⟩
      have HO3 := Lib.hid (HS2.out k)
      go_wp2_with fail
      go_ret
      exact ⟨_, rfl, HO3.out, below_rev hbl.out hg, hkp.out.trans (keeps_rev HCU.out)⟩
    · obtain ⟨e, rfl⟩ : ∃ e, f = e + 1 := by
        cases f with
        | zero =>
          have h0 := hf.out
          cases fst with
          | true => exact absurd (h0 rfl) (by decide)
          | false => exact absurd ⟨rfl, by simpa using hn⟩ h
        | succ e => exact ⟨e, rfl⟩
      have E : Hid ((out ++ [48 + n % 10]) ++ restD e false (n / 10) = rdg 20 x) := Lib.hid (by rw [← hp.out, restD_next h, List.append_assoc]; rfl)
      have HN : Hid (n / 10 < 10 ^ e) := Lib.hid (by rw [Nat.div_lt_iff_lt_mul (by decide), ← Nat.pow_succ]; exact hn)
      have EB : Hid ([Value.int .u8 (48 + (n : Int) % 10)] = [bV (48 + n % 10)]) := Lib.hid (by unfold bV; rw [Int.natCast_add]; rfl)
      have HE : Hid (e < 20) := Lib.hid (by have := hlen.out; omega)
      have HM : Hid (bOf (.bool fst) = 1 ∨ 0 < n) := Lib.hid (by cases fst with
        | true => exact Or.inl rfl
        | false => right; exact Nat.pos_of_ne_zero (fun h0 => h ⟨rfl, h0⟩))
      obtain ⟨ao1, c1, rfl⟩ := hown.out.isSlice
      have HA : Hid (fst = true ∨ (fst = false ∧ ¬ (n : Int) = 0)) := Lib.hid (by cases fst with
        | true => exact Or.inl rfl
        | false => right; exact ⟨rfl, fun h0 => h ⟨rfl, by omega⟩⟩)
      obtain ⟨N, hN⟩ : ∃ N, (l ++ out).length = N := ⟨_, rfl⟩
      have HN2 := Lib.hid hN
      have hown2 := hown.out
      unfold BOwn at hown2
      obtain ⟨M, hM⟩ : ∃ M, (l ++ out).map bV = M := ⟨_, rfl⟩
      have HM2 := Lib.hid hM
      rw [hN, hM] at hown2
      rw [hN] at HL ⊢
      have HOW := Lib.hid hown2
      clear hM
      clear hown hown2 hp hn hf h hN
      rcases HA.out with rfl | ⟨rfl, h0⟩
      all_goals (
        clear HA
        go_wp2_with (at_builtin; refine append_laid rfl _ _ 77 rfl B 5 iI (.int .u8 0) 1 1 Try.underlying77 ia ib ic id rfl (by decide) (by decide) _ N M rfl HOW.out 1 (by decide) [.int .u8 (48 + (n : Int) % 10)] rfl rfl rfl HL.out HSZ.out ?_)
        intro v1 w1 ho1 hb1 hk1
        have HO1 : Hid (BOwn w1 B v1 (l ++ (out ++ [48 + n % 10]))) := Lib.hid (by
          rw [← List.append_assoc]
          rw [EB.out, ← HM2.out] at ho1
          exact BOwn.app (m := [48 + n % 10]) ho1 (by rw [HN2.out]; rfl))
        have HB1 := Lib.hid (hbl.out.trans hb1)
        have HK1 := Lib.hid (hkp.out.trans hk1)
        clear ho1 hb1 hk1
        go_wp2
        go_roundw
        case rel => exact ⟨e, n / 10, false, out ++ [48 + n % 10], by go_num, rfl, HN.out, by omega, Lib.hid (fun h => by cases h), Lib.hid (by have := hlen.out; simp; omega), HO1, HB1, HK1, E⟩
        case measure => have := HM.out; simp [RowKit.intOf, bOf] at this ⊢; omega)
end Go.Proofs.Ythacohejdpjjeaa
