/-
  No cell of these rows narrows 'for every input' (looked for: loops, veiled, ifaces, maps, wideKeys, modest, calm, conditions, laid).
  DERIVED. THE GIVEN ROWS OF THIS SEAT. 6 by the template 'for every input the law returns true; each argument reads behind the call as it read before'; 0 by the template 'total and deterministic' (their statements: YtjlopeijdmnacaaTotals.lean).
  GIVEN WITH THE SEED: the statements are not yours to turn. If you find one false, say at which input.
  Laid BY PROGRAM, IN A SANDBOX (cutbox-rows.mjs): the forced cells as the released guide's own fill.sh prints them over the translation 6b8ccc46859740e5… (all of the seat's roots in one cut). By AI agents, Wed Nov 11 2026. No macro, syntax, notation, axiom, sorry.
-/
import Derived.Test.YtjlopeijdmnacaaChecked
import GoSem.Claim
import GoSem.ClaimJoined
import GoSem.ClaimMapViews
import Derived.JoinedTies
import Derived.KernelRfl
namespace Go.Proofs.Ytjlopeijdmnacaa
/- THE CELL 'sum', in the pinned program and in every row, IS THE sha256 OF THE DUMP (.gsa) THAT YtjlopeijdmnacaaProg.lean LOADS. Nothing in Lean hashes anything: it is a label: what it is worth is what the hold of that sum in a sandbox is worth. -/
noncomputable def Try.pinned : Pinned := { name := "ytjlopeijdmnacaa", sum := "6b8ccc46859740e54ea379d0f766a6d40dc97670616f5e7b66e2a9206e36c691", checked := Try.checked }
namespace Rows
def none {H : Type} : Left H := { results := [], args := [] }

/-- 'roundelaylaw05.PickLines': WHATEVER THE INPUT: true; the input reads as it did. -/
def pickLinesSpec : ChangeSpec := { name := "pickLines", fn := fun _ => fun
  | [d1, d2, d3] => { results := [.lit (.bool true)], args := [d1, d2, d3] }
  | _ => none }
def pickLinesRow : OpenClaim := { program := "ytjlopeijdmnacaa", sum := "6b8ccc46859740e54ea379d0f766a6d40dc97670616f5e7b66e2a9206e36c691", func := "roundelay/roundelaylaw05.PickLines", spec := "pickLines", apart := false }
def PickLinesSaid : Prop := pickLinesRow.holds Try.pinned (OpenSpec.ofChange pickLinesSpec)

/-- ITS FALSE NEIGHBOUR: 'it returns false'. Refute it at one input. -/
def pickLinesWrong : ChangeSpec := { name := "pickLines", fn := fun _ => fun
  | [d1, d2, d3] => { results := [.lit (.bool false)], args := [d1, d2, d3] }
  | _ => none }
def PickLinesWrongFalsely : Prop := pickLinesRow.holds Try.pinned (OpenSpec.ofChange pickLinesWrong)

/-- 'roundelaylaw05.PickTurns': WHATEVER THE INPUT: true; the input reads as it did. -/
def pickTurnsSpec : ChangeSpec := { name := "pickTurns", fn := fun _ => fun
  | [d1, d2, d3] => { results := [.lit (.bool true)], args := [d1, d2, d3] }
  | _ => none }
def pickTurnsRow : OpenClaim := { program := "ytjlopeijdmnacaa", sum := "6b8ccc46859740e54ea379d0f766a6d40dc97670616f5e7b66e2a9206e36c691", func := "roundelay/roundelaylaw05.PickTurns", spec := "pickTurns", apart := false }
def PickTurnsSaid : Prop := pickTurnsRow.holds Try.pinned (OpenSpec.ofChange pickTurnsSpec)

/-- ITS FALSE NEIGHBOUR: 'it returns false'. Refute it at one input. -/
def pickTurnsWrong : ChangeSpec := { name := "pickTurns", fn := fun _ => fun
  | [d1, d2, d3] => { results := [.lit (.bool false)], args := [d1, d2, d3] }
  | _ => none }
def PickTurnsWrongFalsely : Prop := pickTurnsRow.holds Try.pinned (OpenSpec.ofChange pickTurnsWrong)

/-- 'roundelaylaw05.PickRows': WHATEVER THE INPUT: true; the input reads as it did. -/
def pickRowsSpec : ChangeSpec := { name := "pickRows", fn := fun _ => fun
  | [d1, d2, d3] => { results := [.lit (.bool true)], args := [d1, d2, d3] }
  | _ => none }
def pickRowsRow : OpenClaim := { program := "ytjlopeijdmnacaa", sum := "6b8ccc46859740e54ea379d0f766a6d40dc97670616f5e7b66e2a9206e36c691", func := "roundelay/roundelaylaw05.PickRows", spec := "pickRows", apart := false }
def PickRowsSaid : Prop := pickRowsRow.holds Try.pinned (OpenSpec.ofChange pickRowsSpec)

/-- ITS FALSE NEIGHBOUR: 'it returns false'. Refute it at one input. -/
def pickRowsWrong : ChangeSpec := { name := "pickRows", fn := fun _ => fun
  | [d1, d2, d3] => { results := [.lit (.bool false)], args := [d1, d2, d3] }
  | _ => none }
def PickRowsWrongFalsely : Prop := pickRowsRow.holds Try.pinned (OpenSpec.ofChange pickRowsWrong)

/-- 'roundelaylaw06.LoomRows': WHATEVER THE INPUT: true; the input reads as it did. -/
def loomRowsSpec : ChangeSpec := { name := "loomRows", fn := fun _ => fun
  | [d1, d2, d3] => { results := [.lit (.bool true)], args := [d1, d2, d3] }
  | _ => none }
def loomRowsRow : OpenClaim := { program := "ytjlopeijdmnacaa", sum := "6b8ccc46859740e54ea379d0f766a6d40dc97670616f5e7b66e2a9206e36c691", func := "roundelay/roundelaylaw06.LoomRows", spec := "loomRows", unfollowed := true, recurses := true, apart := false }
def LoomRowsSaid : Prop := loomRowsRow.holds Try.pinned (OpenSpec.ofChange loomRowsSpec)

/-- ITS FALSE NEIGHBOUR: 'it returns false'. Refute it at one input. -/
def loomRowsWrong : ChangeSpec := { name := "loomRows", fn := fun _ => fun
  | [d1, d2, d3] => { results := [.lit (.bool false)], args := [d1, d2, d3] }
  | _ => none }
def LoomRowsWrongFalsely : Prop := loomRowsRow.holds Try.pinned (OpenSpec.ofChange loomRowsWrong)

/-- 'roundelaylaw06.LoomStays': WHATEVER THE INPUT: true; the input reads as it did. -/
def loomStaysSpec : ChangeSpec := { name := "loomStays", fn := fun _ => fun
  | [d1, d2, d3] => { results := [.lit (.bool true)], args := [d1, d2, d3] }
  | _ => none }
def loomStaysRow : OpenClaim := { program := "ytjlopeijdmnacaa", sum := "6b8ccc46859740e54ea379d0f766a6d40dc97670616f5e7b66e2a9206e36c691", func := "roundelay/roundelaylaw06.LoomStays", spec := "loomStays", unfollowed := true, recurses := true, apart := false }
def LoomStaysSaid : Prop := loomStaysRow.holds Try.pinned (OpenSpec.ofChange loomStaysSpec)

/-- ITS FALSE NEIGHBOUR: 'it returns false'. Refute it at one input. -/
def loomStaysWrong : ChangeSpec := { name := "loomStays", fn := fun _ => fun
  | [d1, d2, d3] => { results := [.lit (.bool false)], args := [d1, d2, d3] }
  | _ => none }
def LoomStaysWrongFalsely : Prop := loomStaysRow.holds Try.pinned (OpenSpec.ofChange loomStaysWrong)

/-- 'roundelaylaw06.LoomWhole': WHATEVER THE INPUT: true; the input reads as it did. -/
def loomWholeSpec : ChangeSpec := { name := "loomWhole", fn := fun _ => fun
  | [d1, d2, d3] => { results := [.lit (.bool true)], args := [d1, d2, d3] }
  | _ => none }
def loomWholeRow : OpenClaim := { program := "ytjlopeijdmnacaa", sum := "6b8ccc46859740e54ea379d0f766a6d40dc97670616f5e7b66e2a9206e36c691", func := "roundelay/roundelaylaw06.LoomWhole", spec := "loomWhole", unfollowed := true, recurses := true, apart := false }
def LoomWholeSaid : Prop := loomWholeRow.holds Try.pinned (OpenSpec.ofChange loomWholeSpec)

/-- ITS FALSE NEIGHBOUR: 'it returns false'. Refute it at one input. -/
def loomWholeWrong : ChangeSpec := { name := "loomWhole", fn := fun _ => fun
  | [d1, d2, d3] => { results := [.lit (.bool false)], args := [d1, d2, d3] }
  | _ => none }
def LoomWholeWrongFalsely : Prop := loomWholeRow.holds Try.pinned (OpenSpec.ofChange loomWholeWrong)

/- THE SECOND FORM. 'bulk': how many values and letters a reading holds, each counted each time it is reached (what is shared counts as often as it is met; a slice's spare places count too). A statement '..UptoSaid' is the law's where the arguments, and the package variables that the reading takes, are together of bulk at most 1048576: NARROWER than '..Said'. Prove '..Said' where nothing that the law and all that it calls make is longer than what came in: it says more and counts as full. Else prove '..UptoSaid'. A law counts once. -/
mutual
def uptoBulk {H : Type} : DataW H → Nat
  | .lit (.string bytes) => bytes.length + 1
  | .lit _ => 1
  | .nil => 1
  | .ptr d => uptoBulk d + 1
  | .slice elems spare => uptoBulkAll elems + uptoBulkAll spare + 1
  | .agg parts => uptoBulkAll parts + 1
  | .iface _ d => uptoBulk d + 1
  | .map entries => uptoBulkEntries entries + 1
  | .held _ => 1
def uptoBulkAll {H : Type} : List (DataW H) → Nat
  | [] => 0
  | d :: r => uptoBulk d + uptoBulkAll r
def uptoBulkEntries {H : Type} : List (Lit × DataW H) → Nat
  | [] => 0
  | x :: r => uptoBulkEntry x + uptoBulkEntries r
def uptoBulkEntry {H : Type} : Lit × DataW H → Nat
  | (.string bytes, d) => bytes.length + uptoBulk d + 1
  | (_, d) => uptoBulk d + 1
 end
def uptoSmall : (H : Type) → List (DataW H) → Bool := fun _ ds => decide (uptoBulkAll ds ≤ 1048576)
def OpenSpec.upto (s : _root_.Go.ChangeSpec) : _root_.Go.OpenSpec := { _root_.Go.OpenSpec.ofChange s with cond := some uptoSmall }

/-- 'roundelaylaw05.PickLines', WHERE WHAT IT READS IS OF BULK AT MOST 1048576: true; the input reads as it did. -/
def pickLinesUptoRow : OpenClaim := { program := "ytjlopeijdmnacaa", sum := "6b8ccc46859740e54ea379d0f766a6d40dc97670616f5e7b66e2a9206e36c691", func := "roundelay/roundelaylaw05.PickLines", spec := "pickLines", apart := false, narrowed := true }
def PickLinesUptoSaid : Prop := pickLinesUptoRow.holds Try.pinned (OpenSpec.upto pickLinesSpec)

/-- 'roundelaylaw05.PickTurns', WHERE WHAT IT READS IS OF BULK AT MOST 1048576: true; the input reads as it did. -/
def pickTurnsUptoRow : OpenClaim := { program := "ytjlopeijdmnacaa", sum := "6b8ccc46859740e54ea379d0f766a6d40dc97670616f5e7b66e2a9206e36c691", func := "roundelay/roundelaylaw05.PickTurns", spec := "pickTurns", apart := false, narrowed := true }
def PickTurnsUptoSaid : Prop := pickTurnsUptoRow.holds Try.pinned (OpenSpec.upto pickTurnsSpec)

/-- 'roundelaylaw05.PickRows', WHERE WHAT IT READS IS OF BULK AT MOST 1048576: true; the input reads as it did. -/
def pickRowsUptoRow : OpenClaim := { program := "ytjlopeijdmnacaa", sum := "6b8ccc46859740e54ea379d0f766a6d40dc97670616f5e7b66e2a9206e36c691", func := "roundelay/roundelaylaw05.PickRows", spec := "pickRows", apart := false, narrowed := true }
def PickRowsUptoSaid : Prop := pickRowsUptoRow.holds Try.pinned (OpenSpec.upto pickRowsSpec)

/-- 'roundelaylaw06.LoomRows', WHERE WHAT IT READS IS OF BULK AT MOST 1048576: true; the input reads as it did. -/
def loomRowsUptoRow : OpenClaim := { program := "ytjlopeijdmnacaa", sum := "6b8ccc46859740e54ea379d0f766a6d40dc97670616f5e7b66e2a9206e36c691", func := "roundelay/roundelaylaw06.LoomRows", spec := "loomRows", unfollowed := true, recurses := true, apart := false, narrowed := true }
def LoomRowsUptoSaid : Prop := loomRowsUptoRow.holds Try.pinned (OpenSpec.upto loomRowsSpec)

/-- 'roundelaylaw06.LoomStays', WHERE WHAT IT READS IS OF BULK AT MOST 1048576: true; the input reads as it did. -/
def loomStaysUptoRow : OpenClaim := { program := "ytjlopeijdmnacaa", sum := "6b8ccc46859740e54ea379d0f766a6d40dc97670616f5e7b66e2a9206e36c691", func := "roundelay/roundelaylaw06.LoomStays", spec := "loomStays", unfollowed := true, recurses := true, apart := false, narrowed := true }
def LoomStaysUptoSaid : Prop := loomStaysUptoRow.holds Try.pinned (OpenSpec.upto loomStaysSpec)

/-- 'roundelaylaw06.LoomWhole', WHERE WHAT IT READS IS OF BULK AT MOST 1048576: true; the input reads as it did. -/
def loomWholeUptoRow : OpenClaim := { program := "ytjlopeijdmnacaa", sum := "6b8ccc46859740e54ea379d0f766a6d40dc97670616f5e7b66e2a9206e36c691", func := "roundelay/roundelaylaw06.LoomWhole", spec := "loomWhole", unfollowed := true, recurses := true, apart := false, narrowed := true }
def LoomWholeUptoSaid : Prop := loomWholeUptoRow.holds Try.pinned (OpenSpec.upto loomWholeSpec)

end Rows
end Go.Proofs.Ytjlopeijdmnacaa
