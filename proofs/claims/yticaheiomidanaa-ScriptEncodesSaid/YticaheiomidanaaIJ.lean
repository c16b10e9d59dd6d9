/- Walk of what appends the runs of picks. -/
import Derived.Test.YticaheiomidanaaII
import Derived.Lib.MinMax
namespace Go.Proofs.Yticaheiomidanaa
open Go.RowKit
theorem run_from (b o n c m : Nat) (hm : m ≤ n) (hn : n ≤ c) (w : World) : (Instr.slice 24 (.slice (some ⟨b, o, none⟩) n c) (some (.int .i64 (m : Int))) none none).run Try.prog w = .ok (.slice (some (if c = m then ⟨b, o, none⟩ else ⟨b, o + m, none⟩)) (n - m) (c - m)) w := by
  by_cases h : c = m
  · subst h
    simp [Instr.slice, go_sem]
    intro h2
    omega
  · simp [Instr.slice, go_sem]
    rw [if_pos hm, if_neg h]
    simp [h]

/-- the runs of picks; n: how many of the first one came ahead -/
def refR : Nat → List Int → List Nat
  | _, [] => []
  | n, [x] => [x.toNat, n + 1]
  | n, x :: y :: l => if n + 1 = 255 ∨ y ≠ x then x.toNat :: (n + 1) :: refR 0 (y :: l) else refR (n + 1) (y :: l)
theorem refR_stop {n : Nat} {x : Int} {l : List Int} (h : l = [] ∨ n + 1 = 255 ∨ ∃ y r, l = y :: r ∧ y ≠ x) : refR n (x :: l) = x.toNat :: (n + 1) :: refR 0 l := by
  match l, h with
  | [], _ => simp [refR]
  | y :: r, h =>
    rw [refR, if_pos]
    rcases h with h | h | ⟨y', r', h, h2⟩
    · cases h
    · exact Or.inl h
    · cases h; exact Or.inr h2
theorem refR_more {n : Nat} {x : Int} {l : List Int} (h : n + 1 ≠ 255) : refR n (x :: x :: l) = refR (n + 1) (x :: l) := by
  rw [refR, if_neg]
  rintro (h1 | h1)
  · exact h h1
  · exact h1 rfl
theorem drop_at {l : List Int} {j : Nat} {x : Int} (h : l[j]? = some x) : l.drop j = x :: l.drop (j + 1) := drop_cons h

def lenOf (v : Value) : Nat := match v with | .slice _ n _ => n | _ => 0

set_option maxHeartbeats 2000000 in
set_option maxRecDepth 100000 in
theorem appendRuns_any (B : Nat) (v : Value) (out0 : List Nat) (ao : Option Addr) (b o c : Nat) (l : List Int) (w : World) (ho : BOwn w B v out0) (hl : l.length ≤ 65536) (hlo : out0.length ≤ 100000) (hB : B ≤ w.heap.size)
    (ha : 0 < l.length → ao = some ⟨b, o, none⟩) (hb : 0 < l.length → b < B) (hr : l.length ≤ c) (hc : ICells w b o l) (h255 : ∀ x ∈ l, 0 ≤ x ∧ x ≤ 255) :
    Calls Try.prog 27 #[v, .slice ao l.length c] w (ApP B w (out0 ++ refR 0 l)) := by
  obtain ⟨iI, ia, ib, ic, id⟩ := info_parts infoB
  have HO := Lib.hid ho
  have HC := Lib.hid hc
  have HA := Lib.hid ha
  have HBB := Lib.hid hb
  have H5 := Lib.hid h255
  clear ho hc ha hb h255
  go_enter Try.func27, Try.ntmps27
  go_wp2
  go_loopw [0, 1] (fun u sl wr => ∃ (j : Nat) (aj : Option Addr) (out : List Nat), j ≤ l.length ∧ sl = .slice aj (l.length - j) (c - j) ∧ Hid (j < l.length → aj = some ⟨b, o + j, none⟩) ∧ Hid (out.length ≤ out0.length + 2 * j) ∧ Hid (BOwn wr B u out) ∧ Hid (Below B w wr) ∧ Hid (Keeps 5 w wr) ∧ Hid (out ++ refR 0 (l.drop j) = out0 ++ refR 0 l)) (fun _ sl _ => lenOf sl)
  case atStart => exact ⟨0, ao, out0, Nat.zero_le _, rfl, Lib.hid HA.out, Lib.hid (by omega), HO, Lib.hid (Below.refl _ _), Lib.hid (Keeps.refl _ _), Lib.hid rfl⟩
  case round =>
    obtain ⟨j, aj, out, hj, rfl, haj, hol, hown, hbl, hkp, hp⟩ := hrel
    by_cases hlt : j < l.length
    · obtain rfl := haj.out hlt
      obtain ⟨n, hn⟩ : ∃ n, l.length - j = n + 1 := ⟨l.length - j - 1, by omega⟩
      obtain ⟨x, hx⟩ : ∃ x, l[j]? = some x := ⟨l[j], List.getElem?_eq_getElem hlt⟩
      have hxr := H5.out x (List.mem_of_getElem? hx)
      have HCW : Hid (∀ wr2, Below B w wr2 → ICells wr2 b o l) := Lib.hid (fun wr2 h2 => HC.out.stays h2 HBB.out)
      obtain ⟨c0, _⟩ := (HCW.out wr hbl.out) j x hx
      have HX := Lib.hid hx
      obtain ⟨g, hg⟩ : ∃ g, g = min (n + 1) 255 := ⟨_, rfl⟩
      have hgm : min ((n : Int) + 1) 255 = (g : Int) := by omega
      have hg1 : 1 ≤ g := by omega
      have hg2 : g ≤ n + 1 := by omega
      have hg3 : g ≤ 255 := by omega
      have HG := Lib.hid hg
      clear hx hg
      obtain ⟨K, hK⟩ : ∃ K, c - j = K := ⟨_, rfl⟩
      have hnK : n + 1 ≤ K := by omega
      have HLJ := Lib.hid hn
      have HKJ := Lib.hid hK
      rw [hn, hK]
      clear hn hK
      have HSZ := Lib.hid (Nat.le_trans hB hbl.out.size)
      go_wp2
      go_loopw [6] (fun k w4 => ∃ (m q : Nat), 1 ≤ m ∧ m ≤ g ∧ k = .int .i64 m ∧ w4 = wr.drewN q ∧ Hid (l[j + m - 1]? = some x) ∧ Hid (refR (m - 1) (l.drop (j + m - 1)) = refR 0 (l.drop j))) (fun k _ => g - (intOf k).toNat)
      case atStart => exact ⟨1, 0, Nat.le_refl _, hg1, rfl, rfl, HX, Lib.hid rfl⟩
      case round =>
        obtain ⟨m, q, hm1, hmg, rfl, rfl, hxm, hrm⟩ := hrel
        by_cases hmlt : m < g
        · obtain ⟨y, hy⟩ : ∃ y, l[j + m]? = some y := ⟨l[j + m]'(by have := HLJ.out; omega), List.getElem?_eq_getElem (by have := HLJ.out; omega)⟩
          obtain ⟨c1, _⟩ := (HCW.out wr hbl.out) (j + m) y hy
          rw [← Nat.add_assoc] at c1
          have HY := Lib.hid hy
          clear hy
          have d1 : decide ((m : Int) < (g : Int)) = true := decide_eq_true (by omega)
          have dm : (m : Int) < n + 1 := by omega
          by_cases hxy : y = x
          · have d2 : ((y : Int) == x) = true := beq_iff_eq.2 hxy
            have HR : Hid (refR (m + 1 - 1) (l.drop (j + (m + 1) - 1)) = refR 0 (l.drop j)) := Lib.hid (by
              rw [← hrm.out, drop_at hxm.out, show j + m - 1 + 1 = j + m by omega, drop_at HY.out, hxy, refR_more (by omega), show m - 1 + 1 = m by omega, show m + 1 - 1 = m by omega, show j + (m + 1) - 1 = j + m by omega]
              congr 1
              rw [drop_at HY.out, hxy])
            have HY2 : Hid (l[j + (m + 1) - 1]? = some x) := Lib.hid (by rw [show j + (m + 1) - 1 = j + m by omega, HY.out, hxy])
            clear hxy
            go_wp2_with fail
            go_quiet (fail)
            go_wp2
            go_roundw
            case rel => exact ⟨m + 1, _, by omega, by omega, by go_num, rfl, HY2, HR⟩
            case measure => simp [intOf]; omega
          · have d2 : ((y : Int) == x) = false := beq_false_of_ne hxy
            have HST : Hid (refR 0 (l.drop j) = x.toNat :: m :: refR 0 (l.drop (j + m))) := Lib.hid (by
              rw [← hrm.out, drop_at hxm.out, show j + m - 1 + 1 = j + m by omega, refR_stop (Or.inr (Or.inr ⟨y, _, drop_at HY.out, hxy⟩)), show m - 1 + 1 = m by omega])
            clear hxy
            go_wp2_with fail
            go_quiet (fail)
            have hsl := run_from b (o + j) (n + 1) K m (by omega) hnK
            have HSL := Lib.hid hsl
            have HL : Hid (out.length + 2 ≤ 4294967296) := Lib.hid (by have := hol.out; omega)
            have hx8 : IntKind.u8.wrap x = x := IntWalk.u8_in _ hxr
            have hm8 : IntKind.u8.wrap (m : Int) = m := IntWalk.u8_in _ (by omega)
            have HXN : Hid ([bV x.toNat, bV m] = [.int .u8 x, .int .u8 (m : Int)]) := Lib.hid (by unfold bV; rw [Int.toNat_of_nonneg hxr.1])
            clear hsl
            go_wp2_with (at_builtin; refine append_laid rfl _ _ 28 rfl B 5 iI (.int .u8 0) 1 1 Try.underlying28 ia ib ic id rfl (by decide) (by decide) _ out.length (out.map bV) rfl hown.out 2 (by decide) [.int .u8 x, .int .u8 (m : Int)] rfl rfl rfl HL.out HSZ.out ?_)
            intro v1 w5 ho5 hb5 hk5
            have HO5 : Hid (BOwn w5 B v1 (out ++ [x.toNat, m])) := Lib.hid (BOwn.app (by rw [List.map_cons, List.map_cons, List.map_nil, HXN.out]; exact ho5) rfl)
            have HB5 : Hid (Below B w w5) := Lib.hid (hbl.out.trans ((below_drewN (Below.refl _ _) _).trans hb5))
            have HK5 : Hid (Keeps 5 w w5) := Lib.hid (hkp.out.trans ((Keeps.drewN _ _ _).trans hk5))
            have hsl := HSL.out
            clear ho5 hb5 hk5
            go_wp2
            go_roundw
            case rel => exact ⟨j + m, _, out ++ [x.toNat, m], by have := HLJ.out; omega, by congr 1 <;> (have := HLJ.out; have := HKJ.out; omega), Lib.hid (fun h => by have := HLJ.out; have := HKJ.out; first | (rw [if_neg (by omega)]; rw [Nat.add_assoc]; done) | rw [Nat.add_assoc]), Lib.hid (by rw [List.length_append]; have := hol.out; simp; omega), HO5, HB5, HK5, Lib.hid (by rw [← hp.out, HST.out, List.append_assoc]; rfl)⟩
            case measure => simp [lenOf]; omega
        · have hmg2 : m = g := by omega
          have d1 : decide ((m : Int) < (g : Int)) = false := decide_eq_false (by omega)
          have HST : Hid (refR 0 (l.drop j) = x.toNat :: m :: refR 0 (l.drop (j + m))) := Lib.hid (by
            rw [← hrm.out, drop_at hxm.out, show j + m - 1 + 1 = j + m by omega, refR_stop (by
              by_cases h2 : m = 255
              · exact Or.inr (Or.inl (by omega))
              · left
                have := HG.out
                have := HLJ.out
                rw [List.drop_eq_nil_iff]
                omega), show m - 1 + 1 = m by omega])
          clear hmg2
          go_wp2_with fail
          go_quiet (fail)
          have hsl := run_from b (o + j) (n + 1) K m (by omega) hnK
          have HSL := Lib.hid hsl
          have HL : Hid (out.length + 2 ≤ 4294967296) := Lib.hid (by have := hol.out; omega)
          have hx8 : IntKind.u8.wrap x = x := IntWalk.u8_in _ hxr
          have hm8 : IntKind.u8.wrap (m : Int) = m := IntWalk.u8_in _ (by omega)
          have HXN : Hid ([bV x.toNat, bV m] = [.int .u8 x, .int .u8 (m : Int)]) := Lib.hid (by unfold bV; rw [Int.toNat_of_nonneg hxr.1])
          clear hsl
          go_wp2_with (at_builtin; refine append_laid rfl _ _ 28 rfl B 5 iI (.int .u8 0) 1 1 Try.underlying28 ia ib ic id rfl (by decide) (by decide) _ out.length (out.map bV) rfl hown.out 2 (by decide) [.int .u8 x, .int .u8 (m : Int)] rfl rfl rfl HL.out HSZ.out ?_)
          intro v1 w5 ho5 hb5 hk5
          have HO5 : Hid (BOwn w5 B v1 (out ++ [x.toNat, m])) := Lib.hid (BOwn.app (by rw [List.map_cons, List.map_cons, List.map_nil, HXN.out]; exact ho5) rfl)
          have HB5 : Hid (Below B w w5) := Lib.hid (hbl.out.trans ((below_drewN (Below.refl _ _) _).trans hb5))
          have HK5 : Hid (Keeps 5 w w5) := Lib.hid (hkp.out.trans ((Keeps.drewN _ _ _).trans hk5))
          have hsl := HSL.out
          clear ho5 hb5 hk5
          go_wp2
          go_roundw
          case rel => exact ⟨j + m, _, out ++ [x.toNat, m], by have := HLJ.out; omega, by congr 1 <;> (have := HLJ.out; have := HKJ.out; omega), Lib.hid (fun h => by have := HLJ.out; have := HKJ.out; first | (rw [if_neg (by omega)]; rw [Nat.add_assoc]; done) | rw [Nat.add_assoc]), Lib.hid (by rw [List.length_append]; have := hol.out; simp; omega), HO5, HB5, HK5, Lib.hid (by rw [← hp.out, HST.out, List.append_assoc]; rfl)⟩
          case measure => simp [lenOf]; omega
    · have hjl : j = l.length := by omega
      have E : Hid (out = out0 ++ refR 0 l) := Lib.hid (by rw [← hp.out, hjl, List.drop_length]; simp [refR])
      have hz : l.length - j = 0 := by omega
      rw [hz]
      go_wp2
      go_ret
      exact ⟨_, rfl, by rw [← E.out]; exact hown.out, hbl.out, hkp.out⟩
end Go.Proofs.Yticaheiomidanaa
