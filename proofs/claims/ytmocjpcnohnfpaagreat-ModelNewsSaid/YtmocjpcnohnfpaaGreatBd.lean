/- table: rows, find. -/
import Derived.Test.YtmocjpcnohnfpaaGreatBc
namespace Go.Proofs.YtmocjpcnohnfpaaGreat.Tb
open Go.ChangeShapes Go.WideShapes Go.ChangeAt Go.RowKit
set_option linter.unusedVariables false
set_option linter.unusedSimpArgs false

/-- boxes of one cell each, one behind the other -/
structure Boxes (B : Nat) (w0 w : World) (vs : List Value) : Prop where
  size : w.heap.size = B + vs.length
  cell : ∀ (j : Nat) (v : Value), vs[j]? = some v → w.cell? ⟨B + j, 0, none⟩ = some v
  bel : Below B w0 w
theorem Boxes.init (w : World) : Boxes w.heap.size w w [] := ⟨rfl, fun j v h => by simp at h, Below.refl _ _⟩
theorem Boxes.push {B : Nat} {w0 w : World} {vs : List Value} (h : Boxes B w0 w vs) (v : Value) (t : TypeId) : Boxes B w0 (w.alloc (.cells #[v] t)) (vs ++ [v]) := by
  refine ⟨?_, fun j u hj => ?_, h.bel.alloc (by rw [h.size]; omega) _⟩
  · rw [World.size_alloc, h.size, List.length_append]; rfl
  · rcases Nat.lt_trichotomy j vs.length with hl | hl | hl
    · rw [List.getElem?_append_left hl] at hj
      have h1 := h.cell j u hj
      have hlt := World.block_lt_of_cell? w _ h1
      exact (((Below.refl w.heap.size w).alloc (Nat.le_refl _) _).cell hlt).trans h1
    · subst hl
      rw [List.getElem?_append_right (Nat.le_refl _), Nat.sub_self] at hj
      cases hj
      exact World.cell?_alloc_at _ _ _ _ (by rw [h.size])
    · rw [List.getElem?_append_right (by omega)] at hj
      have : ([v] : List Value)[j - vs.length]? = none := by rw [List.getElem?_eq_none_iff]; simp; omega
      rw [this] at hj; cases hj
theorem run_makeFuncT (fn : Fn) (first cap : Array Value) (w : World) : (Instr.makeFunc fn first cap).run Tryz.prog w = .ok (.func fn first cap) w := rfl

set_option maxHeartbeats 400000 in
theorem withP_box (f : Nat) (B : Nat) (w0 w : World) (vs : List Value) (h : Boxes B w0 w vs) :
    Calls Tryz.prog 153 #[.func (.func f) #[] #[]] w fun e w' => e = .returned (.func (.func 175) #[] #[.pointer (some ⟨B + vs.length, 0, none⟩)]) ∧ Boxes B w0 w' (vs ++ [.func (.func f) #[] #[]]) := by
  have hmf := run_makeFuncT
  have HS := Lib.hid h.size
  have HB := Lib.hid h
  clear h
  go_enter Tryz.func153, Tryz.ntmps153
  go_wp2_with fail
  go_ret
  exact ⟨by rw [HS.out]; rfl, HB.out.push _ _⟩

set_option maxHeartbeats 400000 in
theorem plain_box (f : Nat) (B : Nat) (w0 w : World) (vs : List Value) (h : Boxes B w0 w vs) :
    Calls Tryz.prog 156 #[.func (.func f) #[] #[]] w fun e w' => e = .returned (.func (.func 177) #[] #[.pointer (some ⟨B + vs.length, 0, none⟩)]) ∧ Boxes B w0 w' (vs ++ [.func (.func f) #[] #[]]) := by
  have hmf := run_makeFuncT
  have HS := Lib.hid h.size
  have HB := Lib.hid h
  clear h
  go_enter Tryz.func156, Tryz.ntmps156
  go_wp2_with fail
  go_ret
  exact ⟨by rw [HS.out]; rfl, HB.out.push _ _⟩

set_option maxHeartbeats 400000 in
theorem always_box (f : Int) (B : Nat) (w0 w : World) (vs : List Value) (h : Boxes B w0 w vs) :
    Calls Tryz.prog 155 #[.int .i64 f] w fun e w' => e = .returned (.func (.func 176) #[] #[.pointer (some ⟨B + vs.length, 0, none⟩)]) ∧ Boxes B w0 w' (vs ++ [.int .i64 f]) := by
  have hmf := run_makeFuncT
  have HS := Lib.hid h.size
  have HB := Lib.hid h
  clear h
  go_enter Tryz.func155, Tryz.ntmps155
  go_wp2_with fail
  go_ret
  exact ⟨by rw [HS.out]; rfl, HB.out.push _ _⟩

def rowBoxes : List Value := [.func (.func 154) #[] #[], .int .i64 4, .func (.func 157) #[] #[], .int .i64 2, .func (.func 158) #[] #[], .int .i64 2, .func (.func 159) #[] #[], .int .i64 3, .func (.func 160) #[] #[], .int .i64 2, .func (.func 161) #[] #[], .int .i64 2, .int .i64 2, .int .i64 2, .func (.func 166) #[] #[], .int .i64 2]
def rowCells (B : Nat) : Array Value := #[.func (.func 175) #[] #[.pointer (some ⟨B + 0, 0, none⟩)], .func (.func 176) #[] #[.pointer (some ⟨B + 1, 0, none⟩)], .func (.func 177) #[] #[.pointer (some ⟨B + 2, 0, none⟩)], .func (.func 176) #[] #[.pointer (some ⟨B + 3, 0, none⟩)], .func (.func 177) #[] #[.pointer (some ⟨B + 4, 0, none⟩)], .func (.func 176) #[] #[.pointer (some ⟨B + 5, 0, none⟩)], .func (.func 177) #[] #[.pointer (some ⟨B + 6, 0, none⟩)], .func (.func 176) #[] #[.pointer (some ⟨B + 7, 0, none⟩)], .func (.func 175) #[] #[.pointer (some ⟨B + 8, 0, none⟩)], .func (.func 176) #[] #[.pointer (some ⟨B + 9, 0, none⟩)], .func (.func 175) #[] #[.pointer (some ⟨B + 10, 0, none⟩)], .func (.func 176) #[] #[.pointer (some ⟨B + 11, 0, none⟩)], .func (.func 162) #[] #[], .func (.func 176) #[] #[.pointer (some ⟨B + 12, 0, none⟩)], .func (.func 163) #[] #[], .func (.func 164) #[] #[], .func (.func 165) #[] #[], .func (.func 176) #[] #[.pointer (some ⟨B + 13, 0, none⟩)], .func (.func 175) #[] #[.pointer (some ⟨B + 14, 0, none⟩)], .func (.func 176) #[] #[.pointer (some ⟨B + 15, 0, none⟩)]]
def RowsP (W : World) (e : Ending) (w' : World) : Prop := ∃ wz, Boxes W.heap.size W wz rowBoxes ∧ w' = wz.alloc (.cells (rowCells W.heap.size) 131) ∧ e = .returned (.slice (some ⟨W.heap.size + 16, 0, none⟩) 10 10)
set_option maxRecDepth 100000 in
set_option maxHeartbeats 2000000 in
theorem rows_any (w : World) : Calls Tryz.prog 130 #[] w (RowsP w) := by
  have HB : Hid (Boxes w.heap.size w w []) := Lib.hid (Boxes.init w)
  go_enter Tryz.func130, Tryz.ntmps130
  go_wp2_with (first
    | (go_at_call 153; refine (withP_box _ _ _ _ _ HB.out).mono ?_; rintro e w5 ⟨rfl, hB⟩; (replace HB := Lib.hid hB); clear hB)
    | (go_at_call 155; refine (always_box _ _ _ _ _ HB.out).mono ?_; rintro e w5 ⟨rfl, hB⟩; (replace HB := Lib.hid hB); clear hB)
    | (go_at_call 156; refine (plain_box _ _ _ _ _ HB.out).mono ?_; rintro e w5 ⟨rfl, hB⟩; (replace HB := Lib.hid hB); clear hB))
  go_ret
  exact ⟨_, HB.out, rfl, by rw [HB.out.size]; rfl⟩
end Go.Proofs.YtmocjpcnohnfpaaGreat.Tb
