/- Walks of the reference: Same, Of, and its accesses. -/
import Derived.Test.YtglpalomhhhmhaaN4
import Derived.Deep.QuietTactic
import Derived.BigQuiet
import Derived.Laws.IdiomArrays
import Derived.Laws.AppendOwnNone
namespace Go.Proofs.Ytglpalomhhhmhaa
open Go.RowKit

def eqB (l k : List Nat) : Bool := decide (l = k)

set_option maxHeartbeats 400000 in
theorem same_yes (ao1 ao2 : Option Addr) (b1 o1 c1 b2 o2 c2 : Nat) (l : List Nat) (w : World) (hl : l.length ≤ 9223372036854775807) (ha1 : 0 < l.length → ao1 = some ⟨b1, o1, none⟩) (ha2 : 0 < l.length → ao2 = some ⟨b2, o2, none⟩)
    (hc1 : UCells w b1 o1 l) (hc2 : UCells w b2 o2 l) :
    Calls Try.prog 21 #[.slice ao1 l.length c1, .slice ao2 l.length c2] w fun e w' => e = .returned (.bool true) ∧ ∃ m, w' = w.drewN m := by
  have HA1 := Lib.hid ha1
  have HA2 := Lib.hid ha2
  have HC1 := Lib.hid hc1
  have HC2 := Lib.hid hc2
  clear ha1 ha2 hc1 hc2
  go_enter Try.func21, Try.ntmps21
  go_wp2
  go_loopw [13] (fun k wr => ∃ j m : Nat, j ≤ l.length ∧ k = .int .i64 j ∧ wr = w.drewN m) (fun k _ => l.length - (intOf k).toNat)
  case atStart => exact ⟨0, 0, Nat.zero_le _, rfl, rfl⟩
  case round =>
    obtain ⟨j, m, hj, rfl, rfl⟩ := hrel
    by_cases hlt : j < l.length
    · obtain rfl := HA1.out (by omega)
      obtain rfl := HA2.out (by omega)
      obtain ⟨x, hx⟩ : ∃ x, l[j]? = some x := ⟨l[j], List.getElem?_eq_getElem hlt⟩
      have d1 := HC1.out j x hx
      have d2 := HC2.out j x hx
      clear hx
      go_wp2_with fail
      go_quiet (fail)
      go_wp2
      go_roundw
      case rel => exact ⟨j + 1, _, by omega, by go_num, rfl⟩
      case measure => simp [intOf]; omega
    · go_wp2
      go_ret
      exact ⟨rfl, _, rfl⟩

/-- what Of gives: a struct of a slice that has the words, and of counts that are 0 -/
def OfPost (l : List Nat) (w : World) (e : Ending) (w' : World) : Prop :=
  ∃ g cap, e = .returned (.agg #[.slice (some ⟨g, 0, none⟩) l.length cap, .int .i64 0, .int .i64 0, .int .i64 0, .int .i64 0, .int .i64 0]) ∧ w.heap.size ≤ g ∧ g < w'.heap.size ∧ Below w.heap.size w w' ∧
    ∃ cur : Array Value, w'.heap[g]? = some (.cells cur 37 (0, 0)) ∧ ∀ (i x : Nat), l[i]? = some x → cur[i]? = some (Value.int .u64 (x : Int))

theorem of_post {l : List Nat} {w1 : World} {v : Value} {B : Nat} (h : w1.ownsRow B 37 1 v l.length (u64s l)) (hv : v = .slice none 0 0 → False) :
    ∃ g cap, v = .slice (some ⟨g, 0, none⟩) l.length cap ∧ B ≤ g ∧ g < w1.heap.size ∧
    ∃ cur : Array Value, w1.heap[g]? = some (.cells cur 37 (0, 0)) ∧ ∀ (i x : Nat), l[i]? = some x → cur[i]? = some (Value.int .u64 (x : Int)) := by
  obtain ⟨_, ⟨rfl, _⟩ | ⟨g, cap, cur, rfl, hg, hb, _, _, _, h4⟩⟩ := h
  · exact absurd rfl hv
  · refine ⟨g, cap, rfl, by omega, lt_of_heap hb, cur, hb, fun i x hx => ?_⟩
    have h5 := u64s_get hx
    rw [← h4, List.getElem?_take] at h5
    split at h5
    · simpa using h5
    · cases h5

theorem store6 (w1 : World) (b : Nat) (v0 v1 v2 v3 v4 v5 : Value) :
    (∀ k, k ≠ b → (((((((w1.setCell ⟨b, 0, none⟩ v0).setCell ⟨b, 1, none⟩ v1).setCell ⟨b, 2, none⟩ v2).setCell ⟨b, 3, none⟩ v3).setCell ⟨b, 4, none⟩ v4).setCell ⟨b, 5, none⟩ v5)).heap[k]? = w1.heap[k]?) ∧
    (((((((w1.setCell ⟨b, 0, none⟩ v0).setCell ⟨b, 1, none⟩ v1).setCell ⟨b, 2, none⟩ v2).setCell ⟨b, 3, none⟩ v3).setCell ⟨b, 4, none⟩ v4).setCell ⟨b, 5, none⟩ v5)).heap.size = w1.heap.size := by
  refine ⟨fun k hk => ?_, by simp [World.setCell]⟩
  rw [Below.heap_setCell _ _ _ _ hk, Below.heap_setCell _ _ _ _ hk, Below.heap_setCell _ _ _ _ hk, Below.heap_setCell _ _ _ _ hk, Below.heap_setCell _ _ _ _ hk, Below.heap_setCell _ _ _ _ hk]

end Go.Proofs.Ytglpalomhhhmhaa
