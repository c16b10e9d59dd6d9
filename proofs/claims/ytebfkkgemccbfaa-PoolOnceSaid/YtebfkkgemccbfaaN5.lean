/- Walks of the reference: Same, Of, and its accesses. -/
import Derived.Test.YtebfkkgemccbfaaN4
import Derived.Deep.QuietTactic
import Derived.BigQuiet
import Derived.Laws.IdiomArrays
import Derived.Laws.AppendOwnNone
namespace Go.Proofs.Ytebfkkgemccbfaa
open Go.RowKit

def eqB (l k : List Nat) : Bool := decide (l = k)

set_option maxHeartbeats 400000 in
theorem same_yes (ao1 ao2 : Option Addr) (b1 o1 c1 b2 o2 c2 : Nat) (l : List Nat) (w : World) (hl : l.length ≤ 9223372036854775807) (ha1 : 0 < l.length → ao1 = some ⟨b1, o1, none⟩) (ha2 : 0 < l.length → ao2 = some ⟨b2, o2, none⟩)
    (hc1 : UCells w b1 o1 l) (hc2 : UCells w b2 o2 l) :
    Calls Try.prog 33 #[.slice ao1 l.length c1, .slice ao2 l.length c2] w fun e w' => e = .returned (.bool true) ∧ ∃ m, w' = w.drewN m := by
  have HA1 := Lib.hid ha1
  have HA2 := Lib.hid ha2
  have HC1 := Lib.hid hc1
  have HC2 := Lib.hid hc2
  clear ha1 ha2 hc1 hc2
  go_enter Try.func33, Try.ntmps33
  go_wp2
  go_loopw [13] (fun k wr => ∃ j m : Nat, j ≤ l.length ∧ k = .int .i64 j ∧ wr = w.drewN m) (fun k _ => l.length - (intOf k).toNat)
  case atStart => exact ⟨0, 0, Nat.zero_le _, rfl, rfl⟩
  case round =>
    obtain ⟨j, m, hj, rfl, rfl⟩ := hrel
    by_cases hlt : j < l.length
    · obtain rfl := HA1.out (by omega)
      obtain rfl := HA2.out (by omega)
      obtain ⟨x, hx⟩ : ∃ x, l[j]? = some x := ⟨l[j], List.getElem?_eq_getElem hlt⟩
      have d1 := HC1.out j x hx
      have d2 := HC2.out j x hx
      clear hx
      go_wp2_with fail
      go_quiet (fail)
      go_wp2
      go_roundw
      case rel => exact ⟨j + 1, _, by omega, by go_num, rfl⟩
      case measure => simp [intOf]; omega
    · go_wp2
      go_ret
      exact ⟨rfl, _, rfl⟩

/-- the reference's memory in memory: a struct, and the row of its words (which may have room to spare) -/
def RefIs (W : World) (br g cap : Nat) (l : List Nat) (c : Cn) : Prop :=
  W.heap[br]? = some (.cells #[.slice (some ⟨g, 0, none⟩) l.length cap, .int .i64 c.r, .int .i64 c.w, .int .i64 c.s, .int .i64 c.a, .int .i64 c.f] 148 (0, 0)) ∧
  (∃ cur : Array Value, W.heap[g]? = some (.cells cur 37 (0, 0)) ∧ ∀ (i x : Nat), l[i]? = some x → cur[i]? = some (Value.int .u64 (x : Int))) ∧ br ≠ g

/-- what Of gives: a struct of a slice that has the words, and of counts that are 0 -/
def OfPost (l : List Nat) (w : World) (e : Ending) (w' : World) : Prop :=
  ∃ g cap, e = .returned (.agg #[.slice (some ⟨g, 0, none⟩) l.length cap, .int .i64 0, .int .i64 0, .int .i64 0, .int .i64 0, .int .i64 0]) ∧ w.heap.size ≤ g ∧ g < w'.heap.size ∧ Below w.heap.size w w' ∧
    ∃ cur : Array Value, w'.heap[g]? = some (.cells cur 37 (0, 0)) ∧ ∀ (i x : Nat), l[i]? = some x → cur[i]? = some (Value.int .u64 (x : Int))

theorem of_post {l : List Nat} {w1 : World} {v : Value} {B : Nat} (h : w1.ownsRow B 37 1 v l.length (u64s l)) (hv : v = .slice none 0 0 → False) :
    ∃ g cap, v = .slice (some ⟨g, 0, none⟩) l.length cap ∧ B ≤ g ∧ g < w1.heap.size ∧
    ∃ cur : Array Value, w1.heap[g]? = some (.cells cur 37 (0, 0)) ∧ ∀ (i x : Nat), l[i]? = some x → cur[i]? = some (Value.int .u64 (x : Int)) := by
  obtain ⟨_, ⟨rfl, _⟩ | ⟨g, cap, cur, rfl, hg, hb, _, _, _, h4⟩⟩ := h
  · exact absurd rfl hv
  · refine ⟨g, cap, rfl, by omega, lt_of_heap hb, cur, hb, fun i x hx => ?_⟩
    have h5 := u64s_get hx
    rw [← h4, List.getElem?_take] at h5
    split at h5
    · simpa using h5
    · cases h5

theorem store6 (w1 : World) (b : Nat) (v0 v1 v2 v3 v4 v5 : Value) :
    (∀ k, k ≠ b → (((((((w1.setCell ⟨b, 0, none⟩ v0).setCell ⟨b, 1, none⟩ v1).setCell ⟨b, 2, none⟩ v2).setCell ⟨b, 3, none⟩ v3).setCell ⟨b, 4, none⟩ v4).setCell ⟨b, 5, none⟩ v5)).heap[k]? = w1.heap[k]?) ∧
    (((((((w1.setCell ⟨b, 0, none⟩ v0).setCell ⟨b, 1, none⟩ v1).setCell ⟨b, 2, none⟩ v2).setCell ⟨b, 3, none⟩ v3).setCell ⟨b, 4, none⟩ v4).setCell ⟨b, 5, none⟩ v5)).heap.size = w1.heap.size := by
  refine ⟨fun k hk => ?_, by simp [World.setCell]⟩
  rw [Below.heap_setCell _ _ _ _ hk, Below.heap_setCell _ _ _ _ hk, Below.heap_setCell _ _ _ _ hk, Below.heap_setCell _ _ _ _ hk, Below.heap_setCell _ _ _ _ hk, Below.heap_setCell _ _ _ _ hk]

set_option maxHeartbeats 400000 in
theorem of_any (ao : Option Addr) (b o cap : Nat) (l : List Nat) (w : World) (hn : l.length ≤ 65536) (ha : 0 < l.length → ao = some ⟨b, o, none⟩) (hb : 0 < l.length → b < w.heap.size) (hc : UCells w b o l) (hcap : ao = none → cap = 0) :
    Calls Try.prog 78 #[.slice ao l.length cap] w (OfPost l w) := by
  obtain ⟨i0, hi, hz0, hz1, hz2⟩ := info_parts info22
  cases ao with
  | some ad =>
    have hnews : Hid (∀ (j : Nat) (u : Value), (u64s l)[j]? = some u → ((w.alloc (.cells #[.slice none 0 0, .int .i64 0, .int .i64 0, .int .i64 0, .int .i64 0, .int .i64 0] 148)).alloc (.cells #[] 37)).cell? (ad.add j) = some u) := by
      intro j v hv
      unfold u64s at hv
      rw [List.getElem?_map] at hv
      cases hx : l[j]? with
      | none => rw [hx] at hv; cases hv
      | some x =>
        rw [hx] at hv
        simp only [Option.map_some, Option.some.injEq] at hv
        subst hv
        have h0 : 0 < l.length := by have := (List.getElem?_eq_some_iff.1 hx).1; omega
        have hb' := hb h0
        obtain rfl := Option.some.inj (ha h0)
        rw [addr_add _ j b o rfl, World.cell?_alloc_past _ _ _ (by simp; omega), World.cell?_alloc_past _ _ _ hb']
        exact hc j x hx
    have h1 : Hid (∀ u ∈ u64s l, u.oneCell' = true) := by
      intro v hv
      unfold u64s at hv
      obtain ⟨x, _, rfl⟩ := List.mem_map.1 hv
      rfl
    have hmade : Hid (((w.alloc (.cells #[.slice none 0 0, .int .i64 0, .int .i64 0, .int .i64 0, .int .i64 0, .int .i64 0] 148)).alloc (.cells #[] 37)).ownsRow (w.heap.size + 1) 37 1 (.slice (some ⟨w.heap.size + 1, 0, none⟩) 0 0) 0 []) := by
      have := World.ownsRow_made (base := w.heap.size + 1) (e := 37) (size := 1) (w.alloc (.cells #[.slice none 0 0, .int .i64 0, .int .i64 0, .int .i64 0, .int .i64 0, .int .i64 0] 148)) #[] 0 (by simp) (by unfold maxLen; omega) rfl
      apply Lib.hid
      simpa using this
    have hul : Hid ((u64s l).length = l.length * 1) := by show _ = _; rw [u64s_length, Nat.mul_one]
    clear hc ha hb hcap
    go_enter Try.func78, Try.ntmps78
    go_wp2_with (at_builtin; refine wpList_append_own _ rfl _ _ 28 rfl (w.heap.size + 1) 37 i0 (.int .u64 0) 1 8 Try.underlying28 hi hz0 hz1 hz2 rfl (by decide) _ 0 [] rfl hmade.out ad l.length cap (u64s l) rfl hul.out hnews.out h1.out ?p3 ?p4 ?p5 ?_)
    case p3 => unfold maxLen; omega
    case p4 => omega
    case p5 => simp
    intro v' w1 hown hg hnn
    have hown' : w1.ownsRow (w.heap.size + 1) 37 1 v' l.length (u64s l) := by simpa using hown
    have hvn : v' = .slice none 0 0 → False := hnn
    have hbk : w1.heap[w.heap.size]? = some (.cells #[.slice none 0 0, .int .i64 0, .int .i64 0, .int .i64 0, .int .i64 0, .int .i64 0] 148 (0, 0)) := by
      rw [hg.block w.heap.size (by simp; omega) (by simp [Value.ownBlock])]
      rw [Below.heap_alloc _ _ _ (by simp)]
      exact heap_alloc_new _ _
    have hbl : Below w.heap.size w w1 := (((Below.refl _ _).alloc (Nat.le_refl _) _).alloc (by simp) _).grown hg (by simp; omega) (fun k hk => by simp [Value.ownBlock] at hk; omega)
    obtain ⟨g, cap', rfl, hg1, hg2, hcur⟩ := of_post hown' hvn
    have k0 := cell_of_heap (k := 0) hbk rfl
    have k1 := cell_of_heap (k := 1) hbk rfl
    have k2 := cell_of_heap (k := 2) hbk rfl
    have k3 := cell_of_heap (k := 3) hbk rfl
    have k4 := cell_of_heap (k := 4) hbk rfl
    have k5 := cell_of_heap (k := 5) hbk rfl
    have z0 := free_of_heap (k := 0) hbk
    have z1 := free_of_heap (k := 1) hbk
    have z2 := free_of_heap (k := 2) hbk
    have z3 := free_of_heap (k := 3) hbk
    have z4 := free_of_heap (k := 4) hbk
    have z5 := free_of_heap (k := 5) hbk
    have HCU := Lib.hid hcur
    have HBK := Lib.hid hbk
    clear hown hown' hg hnn hvn hcur hbk
    go_wp2
    obtain ⟨hs1, hs2⟩ := store6 w1 w.heap.size (.slice (some ⟨g, 0, none⟩) l.length cap') (.int .i64 0) (.int .i64 0) (.int .i64 0) (.int .i64 0) (.int .i64 0)
    refine bodyPost_ret (v := .agg #[.slice (some ⟨g, 0, none⟩) l.length cap', .int .i64 0, .int .i64 0, .int .i64 0, .int .i64 0, .int .i64 0]) (by simp [results, Try.results78, go_sem, k0, k1, k2, k3, k4, k5]) rfl ⟨g, cap', rfl, by omega, ?_, ?_, ?_⟩
    · rw [hs2]; exact hg2
    · exact (((((hbl.setCell (Nat.le_refl _) _).setCell (Nat.le_refl _) _).setCell (Nat.le_refl _) _).setCell (Nat.le_refl _) _).setCell (Nat.le_refl _) _).setCell (Nat.le_refl _) _
    · obtain ⟨cur, h1, h2⟩ := HCU.out
      exact ⟨cur, (hs1 g (by omega)).trans h1, h2⟩
  | none =>
    have hl0 : l.length = 0 := by
      cases hh : l.length with
      | zero => rfl
      | succ n => exact absurd (ha (by omega)) (by simp)
    obtain rfl : l = [] := List.eq_nil_of_length_eq_zero hl0
    obtain rfl : cap = 0 := hcap rfl
    have hmade : Hid (((w.alloc (.cells #[.slice none 0 0, .int .i64 0, .int .i64 0, .int .i64 0, .int .i64 0, .int .i64 0] 148)).alloc (.cells #[] 37)).ownsRow (w.heap.size + 1) 37 1 (.slice (some ⟨w.heap.size + 1, 0, none⟩) 0 0) 0 []) := by
      have := World.ownsRow_made (base := w.heap.size + 1) (e := 37) (size := 1) (w.alloc (.cells #[.slice none 0 0, .int .i64 0, .int .i64 0, .int .i64 0, .int .i64 0, .int .i64 0] 148)) #[] 0 (by simp) (by unfold maxLen; omega) rfl
      apply Lib.hid
      simpa using this
    clear hc ha hb hcap hl0
    go_enter Try.func78, Try.ntmps78
    go_wp2_with (at_builtin; refine wpList_append_own_none rfl _ _ 28 rfl (w.heap.size + 1) 37 i0 1 Try.underlying28 hi _ 0 [] rfl hmade.out rfl ?_)
    go_wp2
    refine bodyPost_ret (v := .agg #[.slice (some ⟨w.heap.size + 1, 0, none⟩) 0 0, .int .i64 0, .int .i64 0, .int .i64 0, .int .i64 0, .int .i64 0]) (by simp [results, Try.results78, go_sem]) rfl ⟨w.heap.size + 1, 0, rfl, by omega, by simp, ?_, ?_⟩
    · exact ((Below.refl _ _).alloc (Nat.le_refl _) _).alloc (by simp) _
    · have h := heap_alloc_new (w.alloc (.cells #[.slice (some ⟨w.heap.size + 1, 0, none⟩) 0 0, .int .i64 0, .int .i64 0, .int .i64 0, .int .i64 0, .int .i64 0] 148)) (.cells #[] 37)
      exact ⟨#[], by simpa using h, fun i x hx => by simp at hx⟩
end Go.Proofs.Ytebfkkgemccbfaa
