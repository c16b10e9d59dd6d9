/- history: what HistoryTells wants, plainly; comparison of rows that are alike; its first part, walked. -/
import Derived.Test.YtigcmcmapbomoaaHM
import Derived.Deep.Cut
import Derived.Deep.CutRange
namespace Go.Proofs.Ytigcmcmapbomoaa
open Go.RowKit
set_option linter.unusedVariables false
set_option linter.unusedSimpArgs false

set_option maxHeartbeats 400000 in
/-- two rows of one list are alike -/
theorem ints_like (ao1 ao2 : Option Addr) (b1 b2 c1 c2 : Nat) (l : List Int) (w : World) (hl : l.length ≤ 9223372036854775807) (ha1 : 0 < l.length → ao1 = some ⟨b1, 0, none⟩) (ha2 : 0 < l.length → ao2 = some ⟨b2, 0, none⟩)
    (hc1 : ∀ (i : Nat) u, (zvs l)[i]? = some u → w.cell? ⟨b1, i, none⟩ = some u) (hc2 : ∀ (i : Nat) u, (zvs l)[i]? = some u → w.cell? ⟨b2, i, none⟩ = some u) :
    Calls Try.prog 11 #[.slice ao1 l.length c1, .slice ao2 l.length c2] w fun e w' => e = .returned (.bool true) ∧ ∃ m, w' = w.drewN m := by
  have HA1 := Lib.hid ha1
  have HA2 := Lib.hid ha2
  have HC1 := Lib.hid hc1
  have HC2 := Lib.hid hc2
  clear ha1 ha2 hc1 hc2
  go_enter Try.func11, Try.ntmps11
  go_wp2
  go_loopw [13] (fun k wr => ∃ j m : Nat, j ≤ l.length ∧ k = .int .i64 j ∧ wr = w.drewN m) (fun k _ => l.length - (intOf k).toNat)
  case atStart => exact ⟨0, 0, Nat.zero_le _, rfl, rfl⟩
  case round =>
    obtain ⟨j, m, hj, rfl, rfl⟩ := hrel
    by_cases hlt : j < l.length
    · obtain rfl := HA1.out (by omega)
      obtain rfl := HA2.out (by omega)
      obtain ⟨x, hx⟩ : ∃ x, l[j]? = some x := ⟨l[j], List.getElem?_eq_getElem hlt⟩
      have d1 : w.cell? ⟨b1, 0 + j, none⟩ = some (.int .i64 x) := by rw [Nat.zero_add]; exact HC1.out j _ (zvs_get hx)
      have d2 : w.cell? ⟨b2, 0 + j, none⟩ = some (.int .i64 x) := by rw [Nat.zero_add]; exact HC2.out j _ (zvs_get hx)
      rw [Nat.zero_add] at d1 d2
      clear hx
      go_wp2_with fail
      go_quiet (fail)
      go_wp2
      go_roundw
      case rel => exact ⟨j + 1, _, by omega, by go_num, rfl⟩
      case measure => simp [intOf]; omega
    · go_wp2
      go_ret
      exact ⟨rfl, _, rfl⟩
def izs (xs : List Nat) : List Int := xs.map fun (x : Nat) => (x : Int)
theorem ivs_izs (xs : List Nat) : ivs xs = zvs (izs xs) := by simp [ivs, zvs, izs]
theorem izs_len (xs : List Nat) : (izs xs).length = xs.length := by simp [izs]
theorem izs_snoc (xs : List Nat) (x : Nat) : izs (xs ++ [x]) = izs xs ++ [(x : Int)] := by simp [izs]
/-- the call's own row against what a function told -/
theorem ints_rows {B1 B2 : Nat} {v1 v2 : Value} {xs : List Nat} {w : World} (hl : xs.length ≤ 100) (h1 : w.ownsRow B1 3 1 v1 xs.length (ivs xs)) (h2 : w.ownsRow B2 3 1 v2 xs.length (zvs (izs xs))) :
    Calls Try.prog 11 #[v1, v2] w fun e w' => e = .returned (.bool true) ∧ Below w.heap.size w w' := by
  rw [ivs_izs] at h1
  rw [← izs_len] at h1 h2
  obtain ⟨a1, g1, c1, rfl, ha1, _, _, hc1⟩ := owns_open h1
  obtain ⟨a2, g2, c2, rfl, ha2, _, _, hc2⟩ := owns_open h2
  refine (ints_like a1 a2 g1 g2 c1 c2 (izs xs) w (by rw [izs_len]; omega) ha1 ha2 hc1 hc2).mono ?_
  rintro e w' ⟨he, m, rfl⟩
  exact ⟨he, below_drewN (Below.refl _ _) m⟩

/-- how many of the first k an instant lies within -/
def cntK (l : List EvL) (t : Int) (k : Nat) : Nat := (l.take k).countP fun x => within x t
theorem cntK_succ {l : List EvL} {t : Int} {k : Nat} {x : EvL} (h : l[k]? = some x) : cntK l t (k + 1) = cntK l t k + if within x t = true then 1 else 0 := by
  unfold cntK
  rw [take_snoc h, List.countP_append, List.countP_singleton]
theorem cntK_le (l : List EvL) (t : Int) (k : Nat) : cntK l t k ≤ k := by
  unfold cntK
  have := List.countP_le_length (p := fun x => within x t) (l := l.take k)
  rw [List.length_take] at this
  omega
theorem cntK_all (l : List EvL) (t : Int) : cntK l t l.length = cnt l t := by unfold cntK cnt; rw [List.take_length]
theorem wdL_succ {l : List EvL} {k : Nat} {x : EvL} (h : l[k]? = some x) : wdL l (k + 1) = max (wdL l k) (cnt l x.iv : Int) := by
  show max (wdL l k) (cnt l ((l[k]?.map EvL.iv).getD 0) : Int) = _
  rw [h]; rfl
theorem cnt_len (l : List EvL) (t : Int) : cnt l t ≤ l.length := List.countP_le_length
theorem wdL_top (l : List EvL) (k : Nat) : wdL l k ≤ l.length := wdL_le l (by omega) (fun t => by have := cnt_len l t; omega) k
theorem ahd_at (l : List EvL) (q0 q1 : Int) (x y : EvL) (h0 : 0 ≤ q0) (h1 : 0 ≤ q1) (hx : l[q0.toNat]? = some x) (hy : l[q1.toNat]? = some y) : aheadAt l q0 q1 = ahd x y := by
  have := aheadAt_in hx hy
  rwa [show ((q0.toNat : Nat) : Int) = q0 by omega, show ((q1.toNat : Nat) : Int) = q1 by omega] at this
def inR (l : List EvL) (q0 q1 : Int) : Bool := decide (0 ≤ q0 ∧ q0 < l.length ∧ 0 ≤ q1 ∧ q1 < l.length)
theorem ahd_out {l : List EvL} {q0 q1 : Int} (h : inR l q0 q1 = false) : aheadAt l q0 q1 = false := by
  unfold aheadAt
  rw [if_neg (by unfold inR at h; simpa only [decide_eq_false_iff_not] using h)]
end Go.Proofs.Ytigcmcmapbomoaa
