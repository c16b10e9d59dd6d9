/- Walk of pair. -/
import Derived.Test.YtjlopeijdmnacaaU8
namespace Go.Proofs.Ytjlopeijdmnacaa
open Go.RowKit

def pairCs : List CallV := [⟨0, 0, 0, 0, 0, 0⟩, ⟨1, 0, 0, 0, 0, 0⟩]
def pairCells : Array Value := #[.int .i64 0, .int .i64 0, .int .i64 0, .int .u64 0, .int .u64 0, .int .u64 0, .int .i64 1, .int .i64 0, .int .i64 0, .int .u64 0, .int .u64 0, .int .u64 0]
theorem pair_calls {w : World} {g : Nat} (h : w.heap[g]? = some (.cells pairCells 45 (0, 0))) : CallsAt w g 0 pairCs := by
  intro i x hx
  have e : ∀ (k : Nat) (v : Value), pairCells[k]? = some v → w.cell? ⟨g, k, none⟩ = some v := fun k v hv => cell_of_heap h hv
  match i, hx with
  | 0, hx => cases hx; exact ⟨e 0 _ rfl, e 1 _ rfl, e 2 _ rfl, e 3 _ rfl, e 4 _ rfl, e 5 _ rfl, by decide, by decide, by decide, by decide, by decide, by decide⟩
  | 1, hx => cases hx; exact ⟨e 6 _ rfl, e 7 _ rfl, e 8 _ rfl, e 9 _ rfl, e 10 _ rfl, e 11 _ rfl, by decide, by decide, by decide, by decide, by decide, by decide⟩
theorem pair_ints {w : World} {g : Nat} {l : List Int} (h : w.heap[g]? = some (.cells (intVs l).toArray 3 (0, 0))) (hl : ∀ x ∈ l, -9223372036854775808 ≤ x ∧ x ≤ 9223372036854775807) : ICells w g 0 l := by
  intro i x hx
  rw [Nat.zero_add]
  exact ⟨cell_of_heap h (by simpa using intVs_get hx), hl x (List.mem_of_getElem? hx)⟩
theorem pair_turns : turnsOf pairCs [2, 1] [0, 1, 1, 0] = ([0, 1, 0], 1) := by decide
theorem pair_wrong : wrongL 2 (thr pairCs) = 0 := by decide
theorem pair_own1 : ownL (thr pairCs) (List.replicate pairCs.length false) 1 = [1] := by decide
theorem pair_left : leftOf' (updF (ownL (thr pairCs) (List.replicate pairCs.length false)) 1 []) = 1 := by decide

/-- three blocks of the call's own, one behind the other -/
theorem three_blocks (w : World) (o1 o2 o3 : Obj) : (((w.alloc o1).alloc o2).alloc o3).heap[w.heap.size]? = some o1 ∧ (((w.alloc o1).alloc o2).alloc o3).heap[w.heap.size + 1]? = some o2 ∧
    (((w.alloc o1).alloc o2).alloc o3).heap[w.heap.size + 1 + 1]? = some o3 ∧ Below w.heap.size w (((w.alloc o1).alloc o2).alloc o3) ∧ (((w.alloc o1).alloc o2).alloc o3).heap.size = w.heap.size + 1 + 1 + 1 := by
  have s1 : (w.alloc o1).heap.size = w.heap.size + 1 := by simp
  have s2 : ((w.alloc o1).alloc o2).heap.size = w.heap.size + 1 + 1 := by simp
  have h1 : (w.alloc o1).heap[w.heap.size]? = some o1 := heap_alloc_new w o1
  have h2 : ((w.alloc o1).alloc o2).heap[w.heap.size + 1]? = some o2 := by have := heap_alloc_new (w.alloc o1) o2; rw [s1] at this; exact this
  have h3 : (((w.alloc o1).alloc o2).alloc o3).heap[w.heap.size + 1 + 1]? = some o3 := by have := heap_alloc_new ((w.alloc o1).alloc o2) o3; rw [s2] at this; exact this
  refine ⟨?_, ?_, h3, (((Below.refl _ _).alloc (Nat.le_refl _) _).alloc (by omega) _).alloc (by omega) _, by simp⟩
  · rw [Below.heap_alloc _ _ _ (by omega), Below.heap_alloc _ _ _ (by omega)]; exact h1
  · rw [Below.heap_alloc _ _ _ (by omega)]; exact h2

theorem own_cells {w : World} {B n : Nat} {v : Value} {l : List Nat} (h : w.ownsRow B 3 1 v n (nums l)) : ∃ ao g cap, v = .slice ao n cap ∧ (0 < n → ao = some ⟨g, 0, none⟩) ∧ (0 < n → B ≤ g ∧ g < w.heap.size) ∧ ∀ (i x : Nat), l[i]? = some x → w.cell? ⟨g, i, none⟩ = some (.int .i64 (x : Int)) := by
  obtain ⟨ao, g, cap, hv, h1, h2, h3, h4⟩ := owns_open h
  exact ⟨ao, g, cap, hv, h1, fun h => ⟨h2 h, h3 h⟩, fun i x hx => h4 i _ (by unfold nums; rw [List.getElem?_map, hx]; rfl)⟩

set_option maxRecDepth 100000 in
set_option maxHeartbeats 2000000 in
theorem pair_any (w : World) : Calls Try.prog 9 #[] w fun e w' => e = .returned (.bool true) ∧ Below w.heap.size w w' := by
  go_enter Try.func9, Try.ntmps9
  go_wp2_with fail
  obtain ⟨hk1, hk2, hk3, hbl, hsz⟩ := three_blocks w (.cells #[.int .i64 0, .int .i64 0, .int .i64 0, .int .u64 0, .int .u64 0, .int .u64 0, .int .i64 1, .int .i64 0, .int .i64 0, .int .u64 0, .int .u64 0, .int .u64 0] 45) (.cells #[.int .i64 2, .int .i64 1] 3) (.cells #[.int .i64 0, .int .i64 1, .int .i64 1, .int .i64 0] 3)
  generalize ((w.alloc (.cells #[.int .i64 0, .int .i64 0, .int .i64 0, .int .u64 0, .int .u64 0, .int .u64 0, .int .i64 1, .int .i64 0, .int .i64 0, .int .u64 0, .int .u64 0, .int .u64 0] 45)).alloc (.cells #[.int .i64 2, .int .i64 1] 3)).alloc (.cells #[.int .i64 0, .int .i64 1, .int .i64 1, .int .i64 0] 3) = w1 at hk1 hk2 hk3 hbl hsz ⊢
  have HC1 : Hid (CallsAt w1 w.heap.size 0 pairCs) := Lib.hid (pair_calls hk1)
  have HT := Lib.hid (turns_any 2 (some ⟨w.heap.size, 0, none⟩) w.heap.size 0 2 pairCs (some ⟨w.heap.size + 1, 0, none⟩) (w.heap.size + 1) 0 2 [2, 1] (some ⟨w.heap.size + 1 + 1, 0, none⟩) (w.heap.size + 1 + 1) 0 4 [0, 1, 1, 0] w1
    (fun _ => rfl) (fun _ => by omega) HC1.out (fun _ => rfl) (fun _ => by omega) (pair_ints hk2 (by decide)) (by decide) (fun _ => rfl) (fun _ => by omega) (pair_ints hk3 (by decide)))
  have HBL := Lib.hid hbl
  clear hk1 hk2 hk3 hbl
  refine HT.out.mono ?_
  rintro e w2 ⟨_, _, h3, hb2⟩
  obtain ⟨v, rfl, hown⟩ := h3 pair_wrong (by decide)
  rw [pair_turns] at *
  obtain ⟨ao, g, cap, rfl, hao, hg, hgc⟩ := own_cells hown
  obtain rfl := hao (by decide)
  have c0 := hgc 0 0 rfl
  have c1 := hgc 1 1 rfl
  have c2 := hgc 2 0 rfl
  have hglt := (hg (by decide)).2
  have hs2 := hb2.size
  have HC2 : Hid (CallsAt w2 w.heap.size 0 pairCs) := Lib.hid (HC1.out.stays hb2 (fun _ => by omega))
  have HB2 : Hid (Below w.heap.size w w2) := Lib.hid (HBL.out.trans (hb2.mono (by omega)))
  clear h3 hown hgc hao hg hb2 HC1 HBL HT
  go_wp2_with fail
  refine (new_any 2 (some ⟨w.heap.size, 0, none⟩) w.heap.size 0 2 pairCs w2 (fun _ => rfl) (fun _ => by omega) HC2.out).mono ?_
  rintro e w3 ⟨_, h3, hb3⟩
  obtain ⟨lb, mb, f, rfl, hlb, hmb, hline⟩ := h3 pair_wrong
  have hs3 := hb3.size
  have HL := Lib.hid hline
  have HB3 : Hid (Below w.heap.size w w3) := Lib.hid (HB2.out.trans (hb3.mono (by omega)))
  have d0 : w3.cell? ⟨g, 0, none⟩ = some (.int .i64 0) := (hb3.cell (p := ⟨g, 0, none⟩) hglt).trans c0
  have d1 : w3.cell? ⟨g, 1, none⟩ = some (.int .i64 1) := (hb3.cell (p := ⟨g, 1, none⟩) hglt).trans c1
  have d2 : w3.cell? ⟨g, 2, none⟩ = some (.int .i64 0) := (hb3.cell (p := ⟨g, 2, none⟩) hglt).trans c2
  clear h3 hb3 c0 c1 c2 hline HC2 HB2
  go_wp2_with fail
  refine (finish_at 1 _ HL.out (Nat.le_refl _) (by decide) pair_own1).mono ?_
  rintro e w4 ⟨rfl, ⟨f4, hl4⟩, hb4⟩
  have HL4 := Lib.hid hl4
  have hs4 := hb4.size
  have HB4 : Hid (Below w.heap.size w w4) := Lib.hid (HB3.out.trans (hb4.below (by omega) (by omega) (by omega)))
  have bg : w4.heap[g]? = w3.heap[g]? := hb4.block g (by omega) (by omega) (by omega)
  have e0 : w4.cell? ⟨g, 0, none⟩ = some (.int .i64 0) := by rw [← d0]; unfold World.cell?; rw [bg]
  have e1 : w4.cell? ⟨g, 1, none⟩ = some (.int .i64 1) := by rw [← d1]; unfold World.cell?; rw [bg]
  have e2 : w4.cell? ⟨g, 2, none⟩ = some (.int .i64 0) := by rw [← d2]; unfold World.cell?; rw [bg]
  clear hl4 hb4 d0 d1 d2 bg HL HB3
  go_wp2_with fail
  refine (now_done 1 _ HL4.out (by decide) (updF_same _ _ _)).mono ?_
  rintro e w5 ⟨rfl, rfl⟩
  go_wp2_with fail
  refine (left_any w4 HL4.out (by omega) (by rw [pair_left]; decide)).mono ?_
  rintro e w6 ⟨rfl, hb6⟩
  rw [pair_left]
  have HL6 := Lib.hid (HL4.out.stays hb6 (by omega))
  have HB6 := Lib.hid (HB4.out.trans (hb6.mono (by omega)))
  go_wp2_with fail
  refine (finish_done 1 _ HL6.out (by decide) (updF_same _ _ _)).mono ?_
  rintro e w7 ⟨rfl, rfl⟩
  go_wp2_with fail
  go_ret
  exact ⟨rfl, HB6.out⟩
end Go.Proofs.Ytjlopeijdmnacaa
