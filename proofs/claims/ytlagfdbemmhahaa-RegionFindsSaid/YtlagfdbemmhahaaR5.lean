/- Walk of the law RegionFinds. -/
import Derived.Test.YtlagfdbemmhahaaR4
namespace Go.Proofs.Ytlagfdbemmhahaa
open Go.RowKit

/-- the regions ahead of the j-th among which one has the address: how many -/
def cnt (i j : Nat) : Nat := if i < j then 1 else 0

set_option maxHeartbeats 800000 in
theorem finds_yes (a : Int) (ao : Option Addr) (b o c : Nat) (l : List Int) (i : Nat) (s : Int) (w : World) (ba : -9223372036854775808 ≤ a ∧ a ≤ 9223372036854775807) (hl : l.length ≤ 300) (hb : 0 < l.length → b < w.heap.size) (ha : 0 < l.length → ao = some ⟨b, o, none⟩) (hc : ICells w b o l) (hg : wrongGo l 0 = 0)
    (hx : l[i]? = some s) (h1 : beg l i ≤ a) (h2 : a < beg l i + s) :
    Calls Try.prog 4 #[.slice ao l.length c, .int .i64 a] w fun e w' => e = .returned (.bool true) ∧ Below w.heap.size w w' := by
  have hi := (List.getElem?_eq_some_iff.1 hx).1
  have HF := Lib.hid (find_some a ao b o c l i s w ba (by omega) ha hb hc hg hx h1 h2)
  obtain rfl := ha (by omega)
  have HC := Lib.hid hc
  have HB := Lib.hid hb
  have HG := Lib.hid hg
  have HX := Lib.hid hx
  have b1 := laid_at hg (i := i) (by omega)
  have hl2 : l.length ≤ 9223372036854775807 := by omega
  clear hc ha hb hg hx
  go_enter Try.func4, Try.ntmps4
  go_wp2_with fail
  refine HF.out.mono ?_
  rintro e w1 ⟨rfl, hb1⟩
  have HC2 := Lib.hid (HC.out.stays hb1 HB.out)
  have HW := Lib.hid (wrong_any (some ⟨b, o, none⟩) b o c l w1 hl2 (fun _ => rfl) HC2.out)
  rw [HG.out] at HW
  go_wp2_with fail
  refine HW.out.mono ?_
  rintro e w2 ⟨rfl, rfl⟩
  go_wp2_with fail
  go_loopw [8, 39] (fun n k wr => ∃ j m : Nat, j ≤ l.length ∧ k = .int .i64 j ∧ n = .int .i64 (cnt i j) ∧ wr = w1.drewN m) (fun _ k _ => l.length - (intOf k).toNat)
  case atStart => exact ⟨0, 0, Nat.zero_le _, rfl, by simp [cnt], rfl⟩
  case round =>
    obtain ⟨j, m, hj, rfl, rfl, rfl⟩ := hrel
    by_cases hlt : j < l.length
    · obtain ⟨t, hx⟩ : ∃ x, l[j]? = some x := ⟨l[j], List.getElem?_eq_getElem hlt⟩
      by_cases hij : j = i
      · subst hij
        have hts : t = s := by have := HX.out; rw [hx] at this; exact Option.some.inj this
        subst hts
        have c0 : cnt j j = 0 := by unfold cnt; simp
        have c1 : Hid (cnt j (j + 1) = 1) := Lib.hid (by unfold cnt; simp)
        rw [c0]
        have HH := Lib.hid (has_any b o c l j t a (w1.drewN m) hx hl2 HC2.out HG.out true (by simp; omega))
        clear hx c0
        go_wp2_with fail
        refine HH.out.mono ?_
        rintro e w2 ⟨rfl, m2, rfl⟩
        go_wp2_with fail
        refine (begin_any _ b o c l j (w1.drewN (m + m2)) (by omega) hl2 (fun _ => rfl) HC2.out HG.out).mono ?_
        rintro e w2 ⟨rfl, rfl⟩
        go_wp2_with fail
        go_roundw
        case rel => exact ⟨j + 1, _, by omega, by go_num, by rw [c1.out]; rfl, rfl⟩
        case measure => simp [intOf]; omega
      · have c1 : Hid (cnt i (j + 1) = cnt i j) := Lib.hid (by unfold cnt; by_cases h : i < j <;> simp [h] <;> omega)
        have hno : ¬ (beg l j ≤ a ∧ a < beg l j + t) := fun h => hij (one_region HG.out hx HX.out h ⟨h1, h2⟩)
        have HH := Lib.hid (has_any b o c l j t a (w1.drewN m) hx hl2 HC2.out HG.out false (by rw [decide_eq_false hno]))
        clear hx hno
        go_wp2_with fail
        refine HH.out.mono ?_
        rintro e w2 ⟨rfl, m2, rfl⟩
        go_wp2_with fail
        go_roundw
        case rel => exact ⟨j + 1, _, by omega, by go_num, by rw [c1.out], rfl⟩
        case measure => simp [intOf]; omega
    · have : cnt i j = 1 := by unfold cnt; rw [if_pos (by omega)]
      rw [this]
      clear this
      go_wp2_with fail
      refine (three_any _).mono ?_
      rintro e w' ⟨rfl, hb⟩
      go_wp2_with fail
      go_ret
      exact ⟨rfl, hb1.trans (((below_drewN (Below.refl _ _) m).trans hb).mono hb1.size)⟩

set_option maxHeartbeats 800000 in
theorem finds_no (a : Int) (ao : Option Addr) (b o c : Nat) (l : List Int) (w : World) (ba : -9223372036854775808 ≤ a ∧ a ≤ 9223372036854775807) (hl : l.length ≤ 300) (hb : 0 < l.length → b < w.heap.size) (ha : 0 < l.length → ao = some ⟨b, o, none⟩) (hc : ICells w b o l) (hg : wrongGo l 0 = 0)
    (hno : ∀ (i : Nat) (s : Int), l[i]? = some s → ¬ (beg l i ≤ a ∧ a < beg l i + s)) :
    Calls Try.prog 4 #[.slice ao l.length c, .int .i64 a] w fun e w' => e = .returned (.bool true) ∧ Below w.heap.size w w' := by
  have HF := Lib.hid (find_none a ao b o c l w ba (by omega) ha hb hc hg hno)
  have HA := Lib.hid ha
  have HC := Lib.hid hc
  have HB := Lib.hid hb
  have HG := Lib.hid hg
  have HN := Lib.hid hno
  have hl2 : l.length ≤ 9223372036854775807 := by omega
  clear hc ha hb hg hno
  go_enter Try.func4, Try.ntmps4
  go_wp2_with fail
  refine HF.out.mono ?_
  rintro e w1 ⟨rfl, hb1⟩
  have HC2 := Lib.hid (HC.out.stays hb1 HB.out)
  have HW := Lib.hid (wrong_any ao b o c l w1 hl2 HA.out HC2.out)
  rw [HG.out] at HW
  go_wp2_with fail
  refine HW.out.mono ?_
  rintro e w2 ⟨rfl, rfl⟩
  go_wp2_with fail
  go_loopw [8, 39] (fun n k wr => ∃ j m : Nat, j ≤ l.length ∧ k = .int .i64 j ∧ n = .int .i64 0 ∧ wr = w1.drewN m) (fun _ k _ => l.length - (intOf k).toNat)
  case atStart => exact ⟨0, 0, Nat.zero_le _, rfl, rfl, rfl⟩
  case round =>
    obtain ⟨j, m, hj, rfl, rfl, rfl⟩ := hrel
    by_cases hlt : j < l.length
    · obtain rfl := HA.out (by omega)
      obtain ⟨t, hx⟩ : ∃ x, l[j]? = some x := ⟨l[j], List.getElem?_eq_getElem hlt⟩
      have HH := Lib.hid (has_any b o c l j t a (w1.drewN m) hx hl2 HC2.out HG.out false (by rw [decide_eq_false (HN.out j t hx)]))
      clear hx
      go_wp2_with fail
      refine HH.out.mono ?_
      rintro e w2 ⟨rfl, m2, rfl⟩
      go_wp2_with fail
      go_roundw
      case rel => exact ⟨j + 1, _, by omega, by go_num, rfl, rfl⟩
      case measure => simp [intOf]; omega
    · go_wp2_with fail
      refine (three_any _).mono ?_
      rintro e w' ⟨rfl, hb⟩
      go_wp2_with fail
      go_ret
      exact ⟨rfl, hb1.trans (((below_drewN (Below.refl _ _) m).trans hb).mono hb1.size)⟩

set_option maxHeartbeats 400000 in
theorem finds_walk (a : Int) (ao : Option Addr) (b o c : Nat) (l : List Int) (w : World) (ba : -9223372036854775808 ≤ a ∧ a ≤ 9223372036854775807) (hl : l.length ≤ 9223372036854775807) (hb : 0 < l.length → b < w.heap.size) (ha : 0 < l.length → ao = some ⟨b, o, none⟩) (hc : ICells w b o l) :
    Calls Try.prog 4 #[.slice ao l.length c, .int .i64 a] w fun e w' => e = .returned (.bool true) ∧ Below w.heap.size w w' := by
  by_cases hlong : 300 < l.length
  · clear hc ha hb
    go_enter Try.func4, Try.ntmps4
    go_wp2_with fail
    refine (three_any _).mono ?_
    rintro e w' ⟨rfl, hb⟩
    go_wp2_with fail
    go_ret
    exact ⟨rfl, hb⟩
  · by_cases hg : wrongGo l 0 = 0
    · by_cases hex : ∃ (i : Nat) (s : Int), l[i]? = some s ∧ beg l i ≤ a ∧ a < beg l i + s
      · obtain ⟨i, s, hx, h1, h2⟩ := hex
        exact finds_yes a ao b o c l i s w ba (by omega) hb ha hc hg hx h1 h2
      · exact finds_no a ao b o c l w ba (by omega) hb ha hc hg (fun i s hx h => hex ⟨i, s, hx, h.1, h.2⟩)
    · have HF := Lib.hid (find_wrong a ao b o c l w (by omega) ha hb hc hg)
      have HA := Lib.hid ha
      have HC := Lib.hid hc
      have HB := Lib.hid hb
      obtain ⟨r, hr⟩ : ∃ r, r = wrongGo l 0 := ⟨_, rfl⟩
      have hz : ¬ (r : Int) = 0 := by omega
      have HW := Lib.hid (fun W h => wrong_any ao b o c l W hl HA.out h)
      rw [← hr] at HW
      clear hr hg hc ha hb
      go_enter Try.func4, Try.ntmps4
      go_wp2_with fail
      refine HF.out.mono ?_
      rintro e w1 ⟨rfl, hb1⟩
      go_wp2_with fail
      refine (HW.out _ (HC.out.stays hb1 HB.out)).mono ?_
      rintro e w2 ⟨rfl, rfl⟩
      go_wp2_with fail
      refine (three_any _).mono ?_
      rintro e w' ⟨rfl, hb⟩
      go_wp2_with fail
      go_ret
      exact ⟨rfl, hb1.trans (hb.mono hb1.size)⟩
end Go.Proofs.Ytlagfdbemmhahaa
