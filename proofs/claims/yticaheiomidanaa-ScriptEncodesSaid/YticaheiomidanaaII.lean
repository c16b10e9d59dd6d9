/- Walks of what appends bytes: two bytes, a varint. -/
import Derived.Test.YticaheiomidanaaIHb
import Derived.Test.YticaheiomidanaaKB
namespace Go.Proofs.Yticaheiomidanaa
open Go.RowKit

theorem infoB : (Try.prog.info? 5).map (fun i => (i.zero, i.size, i.bytes)) = some (some (.int .u8 0), 1, 1) := by kernel_rfl
def bV (x : Nat) : Value := .int .u8 (x : Int)
abbrev BOwn (w : World) (B : Nat) (v : Value) (l : List Nat) : Prop := w.ownsRow B 5 1 v l.length (l.map bV)
def pairL (n : Nat) : List Nat := [n / 256, n % 256]
/-- what appending leaves -/
def ApP (B : Nat) (w : World) (l : List Nat) (e : Ending) (w' : World) : Prop := ∃ v, e = .returned v ∧ BOwn w' B v l ∧ Below B w w' ∧ Keeps 5 w w'
theorem bV_all (l : List Nat) : (l.map bV).all (fun u => u.oneCell') = true := by
  induction l with
  | nil => rfl
  | cons x l ih => rw [List.map_cons, List.all_cons, ih]; rfl
theorem BOwn.app {w : World} {B : Nat} {v : Value} {l m : List Nat} {n : Nat} (h : w.ownsRow B 5 1 v n (l.map bV ++ m.map bV)) (hn : n = l.length + m.length) : BOwn w B v (l ++ m) := by
  unfold BOwn
  rw [List.length_append, ← hn, List.map_append]; exact h

set_option maxRecDepth 100000 in
theorem appendPair_any (B : Nat) (v : Value) (l : List Nat) (n : Nat) (w : World) (ho : BOwn w B v l) (hn : n ≤ 65535) (hl : l.length ≤ 1000000) (hB : B ≤ w.heap.size) :
    Calls Try.prog 25 #[v, .int .i64 (n : Int)] w (ApP B w (l ++ pairL n)) := by
  obtain ⟨iI, ia, ib, ic, id⟩ := info_parts infoB
  have HO := Lib.hid ho
  have HL : Hid (l.length + 2 ≤ 4294967296) := Lib.hid (by omega)
  have E : Hid ((pairL n).map bV = [.int .u8 ((n : Int) / 256), .int .u8 ((n : Int) % 256)]) := Lib.hid rfl
  clear ho
  go_enter Try.func25, Try.ntmps25
  go_wp2_with (at_builtin; refine append_laid rfl _ _ 28 rfl B 5 iI (.int .u8 0) 1 1 Try.underlying28 ia ib ic id rfl (by decide) (by decide) _ l.length (l.map bV) rfl HO.out 2 (by decide) [.int .u8 ((n : Int) / 256), .int .u8 ((n : Int) % 256)] rfl rfl rfl HL.out hB ?_)
  intro v1 w1 ho1 hb1 hk1
  have HO1 : Hid (BOwn w1 B v1 (l ++ pairL n)) := Lib.hid (BOwn.app (by rw [E.out]; exact ho1) rfl)
  clear ho1
  go_wp2_with fail
  go_ret
  exact ⟨_, rfl, HO1.out, hb1, hk1⟩

/-- a varint's bytes -/
def varF : Nat → Nat → List Nat
  | 0, x => [x]
  | f + 1, x => if 128 ≤ x then (x % 128 + 128) :: varF f (x / 128) else [x]
theorem or128 {y : Nat} : bits .or .u8 ((y : Int) % 256) 128 = ((y % 128 + 128 : Nat) : Int) := by
  have h : ∀ z : Fin 256, bits .or .u8 ((z.val : Nat) : Int) 128 = ((z.val % 128 + 128 : Nat) : Int) := by decide +kernel
  have := h ⟨y % 256, Nat.mod_lt _ (by decide)⟩
  simp only at this
  rw [show y % 256 % 128 = y % 128 by omega] at this
  rw [← this]
  rfl

set_option maxHeartbeats 1000000 in
set_option maxRecDepth 100000 in
theorem appendVarint_any (B : Nat) (v : Value) (l : List Nat) (x : Nat) (w : World) (ho : BOwn w B v l) (hx : x < 18446744073709551616) (hl : l.length ≤ 1000000) (hB : B ≤ w.heap.size) :
    Calls Try.prog 26 #[v, .int .u64 (x : Int)] w (ApP B w (l ++ varF 9 x)) := by
  obtain ⟨iI, ia, ib, ic, id⟩ := info_parts infoB
  have HO := Lib.hid ho
  clear ho
  go_enter Try.func26, Try.ntmps26
  go_wp2
  go_loopw [0, 1] (fun u y wr => ∃ (f n : Nat) (out : List Nat), y = .int .u64 n ∧ n < 2 ^ (7 * (f + 1)) ∧ n < 18446744073709551616 ∧ Hid (out.length + f = l.length + 9) ∧ Hid (BOwn wr B u out) ∧ Hid (Below B w wr) ∧ Hid (Keeps 5 w wr) ∧ Hid (out ++ varF f n = l ++ varF 9 x)) (fun _ y _ => (intOf y).toNat)
  case atStart => exact ⟨9, x, l, rfl, Nat.lt_of_lt_of_le hx (by decide), hx, Lib.hid rfl, HO, Lib.hid (Below.refl _ _), Lib.hid (Keeps.refl _ _), Lib.hid rfl⟩
  case round =>
    obtain ⟨f, n, out, rfl, hn, hn2, hlen, hown, hbl, hkp, hp⟩ := hrel
    have HSZ : Hid (B ≤ _) := Lib.hid (Nat.le_trans hB hbl.out.size)
    have HL : Hid (out.length + 1 ≤ 4294967296) := Lib.hid (by have := hlen.out; omega)
    by_cases h : 128 ≤ n
    · obtain ⟨g, rfl⟩ : ∃ g, f = g + 1 := by
        cases f with
        | zero => simp at hn; omega
        | succ g => exact ⟨g, rfl⟩
      have d1 : (128 : Int) ≤ n := by omega
      have hor := or128 (y := n)
      have hn3 : n / 128 < 2 ^ (7 * (g + 1)) := by
        rw [Nat.div_lt_iff_lt_mul (by decide)]
        calc n < 2 ^ (7 * (g + 1 + 1)) := hn
          _ = 2 ^ (7 * (g + 1)) * 128 := by rw [show 7 * (g + 1 + 1) = 7 * (g + 1) + 7 by omega, Nat.pow_add]
      have HN3 := Lib.hid hn3
      have E : Hid ((out ++ [n % 128 + 128]) ++ varF g (n / 128) = l ++ varF 9 x) := Lib.hid (by rw [← hp.out, varF, if_pos h, List.append_assoc]; rfl)
      clear hn hn3 h
      go_wp2_with (at_builtin; refine append_laid rfl _ _ 28 rfl B 5 iI (.int .u8 0) 1 1 Try.underlying28 ia ib ic id rfl (by decide) (by decide) _ out.length (out.map bV) rfl hown.out 1 (by decide) [bV (n % 128 + 128)] rfl rfl rfl HL.out HSZ.out ?_)
      intro v1 w1 ho1 hb1 hk1
      have HO1 : Hid (BOwn w1 B v1 (out ++ [n % 128 + 128])) := Lib.hid (BOwn.app ho1 rfl)
      have HB1 := Lib.hid (hbl.out.trans hb1)
      have HK1 := Lib.hid (hkp.out.trans hk1)
      clear ho1 hb1 hk1
      go_wp2
      go_roundw
      case rel => exact ⟨g, n / 128, out ++ [n % 128 + 128], by go_num, HN3.out, by omega, Lib.hid (by rw [List.length_append]; have := hlen.out; simp; omega), HO1, HB1, HK1, E⟩
      case measure => simp [intOf]; omega
    · have d1 : ¬ (128 : Int) ≤ n := by omega
      have E : Hid (out ++ [n] = l ++ varF 9 x) := Lib.hid (by
        rw [← hp.out]
        cases f with
        | zero => rfl
        | succ g => rw [varF, if_neg h])
      have hm : n % 256 = n := by omega
      have EB : Hid ([bV n] = [.int .u8 ((n : Int))]) := Lib.hid rfl
      go_wp2_with (at_builtin; refine append_laid rfl _ _ 28 rfl B 5 iI (.int .u8 0) 1 1 Try.underlying28 ia ib ic id rfl (by decide) (by decide) _ out.length (out.map bV) rfl hown.out 1 (by decide) [bV n] rfl rfl rfl HL.out HSZ.out ?_)
      intro v1 w1 ho1 hb1 hk1
      have HO1 : Hid (BOwn w1 B v1 (out ++ [n])) := Lib.hid (BOwn.app ho1 rfl)
      have HB1 := Lib.hid (hbl.out.trans hb1)
      have HK1 := Lib.hid (hkp.out.trans hk1)
      clear ho1 hb1 hk1
      go_wp2
      go_ret
      exact ⟨_, rfl, by rw [← E.out]; exact HO1.out, HB1.out, HK1.out⟩
end Go.Proofs.Yticaheiomidanaa
