/- Models of one word: what all of them share. -/
import Derived.Test.YtcedfcdhdgmelaaQM
namespace Go.Proofs.Ytcedfcdhdgmelaa
open Go.ChangeShapes Go.WideShapes Go.ChangeAt Go.RowKit
set_option linter.unusedVariables false
theorem new_one (W W1 : World) (hb : Below W.heap.size W W1) : ∃ v : Value, v = .slice (some ⟨W1.heap.size, 0, none⟩) 1 1 ∧ ListAt (W1.alloc (.cells #[.int .u64 0] 43)) 43 mkU (fun b => W.heap.size ≤ b) v [0] ∧ Below W.heap.size W (W1.alloc (.cells #[.int .u64 0] 43)) := by
  have hO : Own1 (W1.alloc (.cells #[.int .u64 0] 43)) W1.heap.size 0 := ⟨#[.int .u64 0], heap_alloc_new W1 _, rfl⟩
  exact ⟨_, rfl, hO.list 1 _ hb.size, hb.alloc hb.size _⟩
def OneInv (st : List Nat) : Prop := ∃ y, st = [y] ∧ y < 18446744073709551616
theorem ApplyPost.gen {D : Mod} {st : List Nat} {x : CallV} {W w' : World} {e : Ending} (h : ApplyPost (D.ap st x) W e w') (h1 : ∃ z, (D.ap st x).1 = [z]) (h2 : (D.ap st x).2.list = []) :
    ∃ v' lv, e = .returned (.tuple #[v', .agg #[.int .i64 ((D.ap st x).2.err : Int), .int .u64 ((D.ap st x).2.val : Int), lv]]) ∧ ListAt w' 43 mkU (fun b => W.heap.size ≤ b) v' (D.ap st x).1 ∧ ListAt w' 43 mkU (fun b => W.heap.size ≤ b) lv (D.ap st x).2.list ∧ Below W.heap.size W w' := by
  obtain ⟨g, cap, he, hO, hg, hb⟩ := h
  obtain ⟨z, hz⟩ := h1
  rw [hz] at hO ⊢
  rw [h2]
  exact ⟨_, _, he, hO.list cap _ hg, ListAt.nil _ _ _ _, hb⟩
end Go.Proofs.Ytcedfcdhdgmelaa
