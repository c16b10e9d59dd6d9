/- Walks of region: the reference's Has, and Find. -/
import Derived.Test.YtlagfdbemmhahaaR2
import Derived.Deep.QuietTactic
import Derived.BigQuiet
import Derived.IntWalk
namespace Go.Proofs.Ytlagfdbemmhahaa
open Go.RowKit

theorem begin_at (ao : Option Addr) (b o c : Nat) (l : List Int) (x : Int) (i : Nat) (w : World) (hx : x = i) (hi : i ≤ l.length) (hl : l.length ≤ 9223372036854775807) (ha : 0 < l.length → ao = some ⟨b, o, none⟩) (hc : ICells w b o l) (hg : wrongGo l 0 = 0) :
    Calls Try.prog 11 #[.slice ao l.length c, .int .i64 x] w fun e w' => e = .returned (.int .i64 (beg l i)) ∧ w = w' := by
  subst hx; exact begin_any ao b o c l i w hi hl ha hc hg

set_option maxHeartbeats 400000 in
theorem has_any (b o c : Nat) (l : List Int) (i : Nat) (s a : Int) (w : World) (hx : l[i]? = some s) (hl : l.length ≤ 9223372036854775807) (hc : ICells w b o l) (hg : wrongGo l 0 = 0) (r : Bool) (hr : r = decide (beg l i ≤ a ∧ a < beg l i + s)) :
    Calls Try.prog 13 #[.slice (some ⟨b, o, none⟩) l.length c, .int .i64 i, .int .i64 a] w fun e w' => e = .returned (.bool r) ∧ ∃ m, w' = w.drewN m := by
  have hi := (List.getElem?_eq_some_iff.1 hx).1
  obtain ⟨c1, _⟩ := hc i _ hx
  have h1 := laid_at hg (i := i) (by omega)
  have h2 := laid_size hg hx
  have HC := Lib.hid hc
  have HG := Lib.hid hg
  have HR := Lib.hid hr
  clear hc hg hx hr
  by_cases h3 : beg l i ≤ a
  · by_cases h4 : a < beg l i + s
    · have hb : Hid (r = true) := Lib.hid (by rw [HR.out]; simp; omega)
      rw [hb.out]
      have hdec : decide (beg l i ≤ a) = true := by simpa using h3
      have hw : IntKind.i64.wrap (beg l i + s) = beg l i + s := IntWalk.i64_in _ (by omega)
      have hdec2 : decide (a < beg l i + s) = true := by simpa using h4
      go_enter Try.func13, Try.ntmps13
      go_wp2_with fail
      go_quiet ((go_at_call 11; exact call_keeps ⟨_, rfl⟩ (begin_any _ b o c l i _ (by omega) hl (fun _ => rfl) HC.out HG.out)))
      go_wp2
      go_ret
      exact ⟨rfl, _, rfl⟩
    · have hb : Hid (r = false) := Lib.hid (by rw [HR.out]; simp; omega)
      rw [hb.out]
      have hdec : decide (beg l i ≤ a) = true := by simpa using h3
      have hw : IntKind.i64.wrap (beg l i + s) = beg l i + s := IntWalk.i64_in _ (by omega)
      have hdec2 : decide (a < beg l i + s) = false := by simpa using h4
      go_enter Try.func13, Try.ntmps13
      go_wp2_with fail
      go_quiet ((go_at_call 11; exact call_keeps ⟨_, rfl⟩ (begin_any _ b o c l i _ (by omega) hl (fun _ => rfl) HC.out HG.out)))
      go_wp2
      go_ret
      exact ⟨rfl, _, rfl⟩
  · have hb : Hid (r = false) := Lib.hid (by rw [HR.out]; simp; omega)
    rw [hb.out]
    have hdec : decide (beg l i ≤ a) = false := by simpa using h3
    go_enter Try.func13, Try.ntmps13
    go_wp2_with fail
    go_quiet ((go_at_call 11; exact call_keeps ⟨_, rfl⟩ (begin_any _ b o c l i _ (by omega) hl (fun _ => rfl) HC.out HG.out)))
    go_wp2
    go_ret
    exact ⟨rfl, _, rfl⟩

set_option maxHeartbeats 400000 in
theorem find_wrong (a : Int) (ao : Option Addr) (b o c : Nat) (l : List Int) (w : World) (hl : l.length ≤ 4294967296) (ha : 0 < l.length → ao = some ⟨b, o, none⟩) (hb : 0 < l.length → b < w.heap.size) (hc : ICells w b o l) (hg : wrongGo l 0 ≠ 0) :
    Calls Try.prog 12 #[.int .i64 a, .slice ao l.length c] w fun e w' => e = .returned (.tuple #[.int .i64 0, .int .i64 0, .bool false]) ∧ Below w.heap.size w w' := by
  have HL := Lib.hid (lay_any ao b o c l w hl ha hb hc)
  have HG := Lib.hid hg
  have hz : ¬ ((wrongGo l 0 : Nat) : Int) = 0 := by omega
  clear hc ha hb hg
  obtain ⟨r, hr⟩ : ∃ r, r = wrongGo l 0 := ⟨_, rfl⟩
  rw [← hr] at hz
  have HR := Lib.hid hr
  clear hr
  go_enter Try.func12, Try.ntmps12
  go_wp2_with fail
  refine HL.out.mono ?_
  rintro e w1 ⟨v, _, hy, hb1⟩
  rw [← HR.out] at hy
  obtain rfl := hy (by omega)
  clear hy
  go_wp2
  go_ret3
  exact ⟨rfl, hb1⟩

/-- a row of beginnings, as cells -/
theorem bgs_cells {w : World} {B : Nat} {v : Value} {l : List Int} (h : w.ownsRow B 3 1 v l.length (bgs l l.length)) :
    ∃ ao g cap, v = .slice ao l.length cap ∧ (0 < l.length → ao = some ⟨g, 0, none⟩) ∧ (0 < l.length → g < w.heap.size) ∧ ∀ i, i < l.length → w.cell? ⟨g, i, none⟩ = some (.int .i64 (beg l i)) := by
  obtain ⟨ao, g, cap, rfl, h1, _, h3, h4⟩ := owns_open h
  exact ⟨ao, g, cap, rfl, h1, h3, fun i hi => h4 i _ (bgs_get l hi)⟩

set_option maxHeartbeats 400000 in
theorem find_some (a : Int) (ao : Option Addr) (b o c : Nat) (l : List Int) (i : Nat) (s : Int) (w : World) (ba : -9223372036854775808 ≤ a ∧ a ≤ 9223372036854775807) (hl : l.length ≤ 4294967296) (ha : 0 < l.length → ao = some ⟨b, o, none⟩) (hb : 0 < l.length → b < w.heap.size) (hc : ICells w b o l) (hg : wrongGo l 0 = 0)
    (hx : l[i]? = some s) (h1 : beg l i ≤ a) (h2 : a < beg l i + s) :
    Calls Try.prog 12 #[.int .i64 a, .slice ao l.length c] w fun e w' => e = .returned (.tuple #[.int .i64 i, .int .i64 (a - beg l i), .bool true]) ∧ Below w.heap.size w w' := by
  have HL := Lib.hid (lay_any ao b o c l w hl ha hb hc)
  have HC := Lib.hid hc
  have HA := Lib.hid ha
  have HB := Lib.hid hb
  have HG := Lib.hid hg
  have HX := Lib.hid hx
  have hi := (List.getElem?_eq_some_iff.1 hx).1
  have b1 := laid_at hg (i := i) (by omega)
  have b2 := laid_size hg hx
  clear hc ha hb hg hx
  go_enter Try.func12, Try.ntmps12
  go_wp2_with fail
  refine HL.out.mono ?_
  rintro e w1 ⟨v, hy, _, hb1⟩
  obtain ⟨rfl, hown⟩ := hy HG.out
  clear hy
  obtain ⟨ao1, g, cap, rfl, hA1, hG1, hC1⟩ := bgs_cells hown
  obtain rfl := hA1 (by omega)
  have HC1 := Lib.hid hC1
  clear hown hC1 hA1 hG1
  have HC2 := Lib.hid (HC.out.stays hb1 HB.out)
  obtain rfl := HA.out (by omega)
  go_wp2
  go_loop [22] (fun k => ∃ j : Nat, j ≤ i ∧ k = .int .i64 j) (fun k => l.length - (intOf k).toNat)
  case atStart => exact ⟨0, Nat.zero_le _, rfl⟩
  case round =>
    obtain ⟨j, hj, rfl⟩ := hrel
    by_cases hlt : j < i
    · obtain ⟨t, hx⟩ : ∃ x, l[j]? = some x := ⟨l[j], List.getElem?_eq_getElem (by omega)⟩
      obtain ⟨c1, _⟩ := HC2.out j _ hx
      have c2 := HC1.out j (by omega)
      have k1 := laid_at HG.out (i := j) (by omega)
      have k2 := laid_size HG.out hx
      have k3 := beg_next HG.out hx hlt (by omega)
      have k4 : t ≤ a - beg l j := by omega
      have k5 : beg l j ≤ a := by omega
      clear hx
      go_wp2
      go_round
      case rel => exact ⟨j + 1, by omega, by go_num⟩
      case measure => simp [intOf]; omega
    · have : j = i := by omega
      subst this
      obtain ⟨c1, _⟩ := HC2.out j _ HX.out
      have c2 := HC1.out j (by omega)
      have k4 : a - beg l j < s := by omega
      go_wp2
      go_ret3
      exact ⟨rfl, hb1⟩

set_option maxHeartbeats 400000 in
theorem find_none (a : Int) (ao : Option Addr) (b o c : Nat) (l : List Int) (w : World) (ba : -9223372036854775808 ≤ a ∧ a ≤ 9223372036854775807) (hl : l.length ≤ 4294967296) (ha : 0 < l.length → ao = some ⟨b, o, none⟩) (hb : 0 < l.length → b < w.heap.size) (hc : ICells w b o l) (hg : wrongGo l 0 = 0)
    (hno : ∀ (i : Nat) (s : Int), l[i]? = some s → ¬ (beg l i ≤ a ∧ a < beg l i + s)) :
    Calls Try.prog 12 #[.int .i64 a, .slice ao l.length c] w fun e w' => e = .returned (.tuple #[.int .i64 0, .int .i64 0, .bool false]) ∧ Below w.heap.size w w' := by
  have HL := Lib.hid (lay_any ao b o c l w hl ha hb hc)
  have HC := Lib.hid hc
  have HA := Lib.hid ha
  have HB := Lib.hid hb
  have HG := Lib.hid hg
  have HN := Lib.hid hno
  clear hc ha hb hg hno
  go_enter Try.func12, Try.ntmps12
  go_wp2_with fail
  refine HL.out.mono ?_
  rintro e w1 ⟨v, hy, _, hb1⟩
  obtain ⟨rfl, hown⟩ := hy HG.out
  clear hy
  obtain ⟨ao1, g, cap, rfl, hA1, hG1, hC1⟩ := bgs_cells hown
  have HA1 := Lib.hid hA1
  have HC1 := Lib.hid hC1
  clear hown hC1 hA1 hG1
  have HC2 := Lib.hid (HC.out.stays hb1 HB.out)
  go_wp2
  go_loop [22] (fun k => ∃ j : Nat, j ≤ l.length ∧ k = .int .i64 j) (fun k => l.length - (intOf k).toNat)
  case atStart => exact ⟨0, Nat.zero_le _, rfl⟩
  case round =>
    obtain ⟨j, hj, rfl⟩ := hrel
    by_cases hlt : j < l.length
    · obtain rfl := HA.out (by omega)
      obtain rfl := HA1.out (by omega)
      obtain ⟨t, hx⟩ : ∃ x, l[j]? = some x := ⟨l[j], List.getElem?_eq_getElem (by omega)⟩
      obtain ⟨c1, _⟩ := HC2.out j _ hx
      have c2 := HC1.out j (by omega)
      have k1 := laid_at HG.out (i := j) (by omega)
      have k2 := laid_size HG.out hx
      have k3 := HN.out j t hx
      clear hx
      by_cases k5 : beg l j ≤ a
      · have k4 : t ≤ a - beg l j := by omega
        clear k3
        go_wp2
        go_round
        case rel => exact ⟨j + 1, by omega, by go_num⟩
        case measure => simp [intOf]; omega
      · clear k3
        go_wp2
        go_round
        case rel => exact ⟨j + 1, by omega, by go_num⟩
        case measure => simp [intOf]; omega
    · go_wp2
      go_ret3
      exact ⟨rfl, hb1⟩
end Go.Proofs.Ytlagfdbemmhahaa
