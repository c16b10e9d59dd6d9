/- history: the iterator over the numbers of events; what it is asked. -/
import Derived.RangeFuncNested
import Derived.RangeFuncBound
import Derived.RangeFuncCalls
import Derived.RangeFuncLeaves
import Derived.Shelf.Abstract
import Derived.Shelf.RegionOpen
import Derived.WalkKit
import Derived.OwnWalkIn
import Derived.TacticsInMore
import Derived.LoopNIn
import Derived.LoopIn
import Derived.Maps.AppendAt
import Derived.Test.YtkkkpobdjhmgfaaGreatDoorHB
namespace Go.Proofs.YtkkkpobdjhmgfaaGreatDoor
set_option maxRecDepth 100000
open Go.RowKit Go.Shelf
set_option linter.unusedVariables false
set_option linter.unusedSimpArgs false
attribute [local go_sem] Oper.semAt_some

theorem below_grown {a w : World} (h : Below a.heap.size a w) : a.grownBy w none := ⟨h.os, h.tape, h.output, h.size, fun k hk _ => h.block k hk⟩
/-- the numbers of those that are asked for, among the first k -/
def sel (p : EvL → Bool) (l : List EvL) (k : Nat) : List Nat := (List.range k).filter fun i => (l[i]?).any p
theorem sel_hit {p : EvL → Bool} {l : List EvL} {k : Nat} {x : EvL} (hx : l[k]? = some x) (h : p x = true) : sel p l (k + 1) = sel p l k ++ [k] := by
  simp [sel, List.range_succ, hx, h]
theorem sel_miss {p : EvL → Bool} {l : List EvL} {k : Nat} {x : EvL} (hx : l[k]? = some x) (h : p x = false) : sel p l (k + 1) = sel p l k := by
  simp [sel, List.range_succ, hx, h]
theorem sel_len (p : EvL → Bool) (l : List EvL) (k : Nat) : (sel p l k).length ≤ k := by
  have := List.length_filter_le (fun i => (l[i]?).any p) (List.range k)
  simpa [sel] using this

/-- is it of this thread's? -/
def ofT (ts : List Int) (t : Int) (x : EvL) : Bool := (thr ts x).isSome && decide ((thr ts x).getD 0 = t)
theorem infoInt : (Tryz.prog.info? 3).map (fun i => (i.zero, i.size, i.bytes)) = some (some (.int .i64 0), 1, 8) := by kernel_rfl
/-- numbers as values -/
def ivs (xs : List Nat) : List Value := xs.map fun (x : Nat) => Value.int .i64 (x : Int)
end Go.Proofs.YtkkkpobdjhmgfaaGreatDoor
