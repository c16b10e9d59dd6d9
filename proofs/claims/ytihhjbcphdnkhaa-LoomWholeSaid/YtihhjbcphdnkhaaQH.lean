/- Walk of ahead: how two keys stand to one another. -/
import Derived.Test.YtihhjbcphdnkhaaZE
namespace Go.Proofs.Ytihhjbcphdnkhaa
open Go.RowKit
set_option linter.unusedVariables false

def aheadK : List Nat → List Nat → Bool
  | [], [] => false
  | [], _ :: _ => true
  | _ :: _, [] => false
  | x :: a, y :: b => if x = y then aheadK a b else decide (x < y)
theorem aheadK_same {a b : List Nat} {x y : Nat} {j : Nat} (ha : a[j]? = some x) (hb : b[j]? = some y) (h : x = y) : aheadK (a.drop j) (b.drop j) = aheadK (a.drop (j + 1)) (b.drop (j + 1)) := by
  obtain ⟨h1, e1⟩ := List.getElem?_eq_some_iff.1 ha
  obtain ⟨h2, e2⟩ := List.getElem?_eq_some_iff.1 hb
  rw [List.drop_eq_getElem_cons h1, List.drop_eq_getElem_cons h2, e1, e2]
  show (if x = y then _ else _) = _
  rw [if_pos h]
theorem aheadK_diff {a b : List Nat} {x y : Nat} {j : Nat} (ha : a[j]? = some x) (hb : b[j]? = some y) (h : ¬ x = y) : aheadK (a.drop j) (b.drop j) = decide (x < y) := by
  obtain ⟨h1, e1⟩ := List.getElem?_eq_some_iff.1 ha
  obtain ⟨h2, e2⟩ := List.getElem?_eq_some_iff.1 hb
  rw [List.drop_eq_getElem_cons h1, List.drop_eq_getElem_cons h2, e1, e2]
  show (if x = y then _ else _) = _
  rw [if_neg h]
theorem aheadK_end {a b : List Nat} {j : Nat} (h : a.length ≤ j ∨ b.length ≤ j) (hj : j ≤ a.length) (hj2 : j ≤ b.length) : aheadK (a.drop j) (b.drop j) = decide (a.length < b.length) := by
  by_cases h1 : a.length ≤ j
  · rw [List.drop_eq_nil_of_le h1]
    by_cases h2 : b.length ≤ j
    · rw [List.drop_eq_nil_of_le h2, decide_eq_false (by omega)]; rfl
    · rw [List.drop_eq_getElem_cons (by omega), decide_eq_true (by omega)]; rfl
  · have h2 : b.length ≤ j := h.resolve_left h1
    rw [List.drop_eq_nil_of_le h2, List.drop_eq_getElem_cons (by omega), decide_eq_false (by omega)]; rfl

set_option maxRecDepth 20000 in
set_option maxHeartbeats 1000000 in
theorem ahead_any (ka kb : Option Addr) (ca cb : Nat) (a b : List Nat) (p q : Nat → Prop) (w : World) (ha : ListAt w 3 mkI p (.slice ka a.length ca) a) (hb : ListAt w 3 mkI q (.slice kb b.length cb) b) :
    Calls Try.prog 16 #[.slice ka a.length ca, .slice kb b.length cb] w fun e w' => e = .returned (.bool (aheadK a b)) ∧ ∃ m, w' = w.drewN m := by
  obtain ⟨ao, ga, oa, cpa, e1, h1, _, hla, hc1⟩ := ha
  cases e1
  obtain ⟨bo, gb, ob, cpb, e2, h2, _, hlb, hc2⟩ := hb
  cases e2
  have HA := Lib.hid h1
  have HB := Lib.hid h2
  have HCA := Lib.hid hc1
  have HCB := Lib.hid hc2
  clear h1 h2 hc1 hc2
  go_enter Try.func16, Try.ntmps16
  go_wp2_with fail
  go_loopw [5] (fun k wr => ∃ (j m : Nat), j ≤ a.length ∧ j ≤ b.length ∧ k = .int .i64 j ∧ wr = w.drewN m ∧ Hid (aheadK (a.drop j) (b.drop j) = aheadK a b)) (fun k _ => a.length - (intOf k).toNat)
  case atStart => exact ⟨0, 0, Nat.zero_le _, Nat.zero_le _, rfl, rfl, Lib.hid rfl⟩
  case round =>
    obtain ⟨j, m, hj1, hj2, rfl, rfl, hE⟩ := hrel
    by_cases hl1 : j < a.length
    · by_cases hl2 : j < b.length
      · obtain rfl := (HA.out (by omega)).1
        obtain rfl := (HB.out (by omega)).1
        obtain ⟨x, hx⟩ : ∃ x, a[j]? = some x := ⟨a[j], List.getElem?_eq_getElem hl1⟩
        obtain ⟨y, hy⟩ : ∃ y, b[j]? = some y := ⟨b[j], List.getElem?_eq_getElem hl2⟩
        have c1 : w.cell? ⟨ga, oa + j, none⟩ = some (.int .i64 (x : Int)) := HCA.out j x hx
        have c2 : w.cell? ⟨gb, ob + j, none⟩ = some (.int .i64 (y : Int)) := HCB.out j y hy
        have hi0 : (0 : Int) ≤ (j : Int) := Int.natCast_nonneg _
        have hi1 : (j : Int) < (a.length : Int) := by omega
        have hi2 : (j : Int) < (b.length : Int) := by omega
        by_cases hxy : x = y
        · have HN : Hid (aheadK (a.drop (j + 1)) (b.drop (j + 1)) = aheadK a b) := Lib.hid (by rw [← aheadK_same hx hy hxy]; exact hE.out)
          subst hxy
          clear hx hy
          go_wp2_with fail
          go_quiet (fail)
          go_wp2_with fail
          go_roundw
          case rel => exact ⟨j + 1, m + nq, by omega, by omega, by go_num, rfl, HN⟩
          case measure => simp [intOf]; omega
        · have HN : Hid (decide (x < y) = aheadK a b) := Lib.hid (by rw [← aheadK_diff hx hy hxy]; exact hE.out)
          have n1 : ¬ (x : Int) = (y : Int) := by omega
          have n2 : ((x : Int) != (y : Int)) = true := by rw [bne_iff_ne]; exact n1
          have n3 : decide ((x : Int) = (y : Int)) = false := decide_eq_false n1
          have n4 : (x != y) = true := by rw [bne_iff_ne]; exact hxy
          have n5 : (x == y) = false := by rw [beq_eq_false_iff_ne]; exact hxy
          clear hx hy
          go_wp2_with fail
          go_quiet (fail)
          go_wp2_with fail
          go_quiet (fail)
          go_wp2_with fail
          go_ret
          refine ⟨ret_bool HN.out, _, by rw [World.drewN_drewN, World.drewN_drewN]⟩
      · have HN : Hid (decide (a.length < b.length) = aheadK a b) := Lib.hid (by rw [← aheadK_end (Or.inr (by omega)) hj1 hj2]; exact hE.out)
        have hi1 : (j : Int) < (a.length : Int) := by omega
        have hi2 : ¬ (j : Int) < (b.length : Int) := by omega
        have n1 : decide ((j : Int) < (b.length : Int)) = false := decide_eq_false hi2
        have n2 : decide (j < b.length) = false := decide_eq_false hl2
        go_wp2_with fail
        go_ret
        refine ⟨ret_bool HN.out, _, rfl⟩
    · have HN : Hid (decide (a.length < b.length) = aheadK a b) := Lib.hid (by rw [← aheadK_end (Or.inl (by omega)) hj1 hj2]; exact hE.out)
      have hi1 : ¬ (j : Int) < (a.length : Int) := by omega
      have n1 : decide ((j : Int) < (a.length : Int)) = false := decide_eq_false hi1
      have n2 : decide (j < a.length) = false := decide_eq_false hl1
      go_wp2_with fail
      go_ret
      refine ⟨ret_bool HN.out, _, rfl⟩
end Go.Proofs.Ytihhjbcphdnkhaa
