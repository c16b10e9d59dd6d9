/-
  No cell of these rows narrows 'for every input' (looked for: loops, veiled, ifaces, maps, wideKeys, modest, calm, conditions, laid).
  DERIVED. THE GIVEN ROWS OF THIS SEAT. 3 by the template 'for every input the law returns true; each argument reads behind the call as it read before'; 0 by the template 'total and deterministic' (their statements: YtglpalomhhhmhaaTotals.lean).
  GIVEN WITH THE SEED: the statements are not yours to turn. If you find one false, say at which input.
  Laid BY PROGRAM, IN A SANDBOX (cutbox-rows.mjs): the forced cells as the released guide's own fill.sh prints them over the translation 46599e025b37c995… (all of the seat's roots in one cut). By AI agents, Wed Nov 11 2026. No macro, syntax, notation, axiom, sorry.
-/
import Derived.Test.YtglpalomhhhmhaaChecked
import GoSem.Claim
import GoSem.ClaimJoined
import GoSem.ClaimMapViews
import Derived.JoinedTies
import Derived.KernelRfl
namespace Go.Proofs.Ytglpalomhhhmhaa
/- THE CELL 'sum', in the pinned program and in every row, IS THE sha256 OF THE DUMP (.gsa) THAT YtglpalomhhhmhaaProg.lean LOADS. Nothing in Lean hashes anything: it is a label: what it is worth is what the hold of that sum in a sandbox is worth. -/
noncomputable def Try.pinned : Pinned := { name := "ytglpalomhhhmhaa", sum := "46599e025b37c995ed57f8c2d73b080bf65af05e1b4575bd536df91a36a85221", checked := Try.checked }
namespace Rows
def none {H : Type} : Left H := { results := [], args := [] }

/-- 'roundelaylaw39.SplitNames': WHATEVER THE INPUT: true; the input reads as it did. -/
def splitNamesSpec : ChangeSpec := { name := "splitNames", fn := fun _ => fun
  | [d1, d2, d3] => { results := [.lit (.bool true)], args := [d1, d2, d3] }
  | _ => none }
def splitNamesRow : OpenClaim := { program := "ytglpalomhhhmhaa", sum := "46599e025b37c995ed57f8c2d73b080bf65af05e1b4575bd536df91a36a85221", func := "roundelay/roundelaylaw39.SplitNames", spec := "splitNames", unfollowed := true, recurses := true, apart := false }
def SplitNamesSaid : Prop := splitNamesRow.holds Try.pinned (OpenSpec.ofChange splitNamesSpec)

/-- ITS FALSE NEIGHBOUR: 'it returns false'. Refute it at one input. -/
def splitNamesWrong : ChangeSpec := { name := "splitNames", fn := fun _ => fun
  | [d1, d2, d3] => { results := [.lit (.bool false)], args := [d1, d2, d3] }
  | _ => none }
def SplitNamesWrongFalsely : Prop := splitNamesRow.holds Try.pinned (OpenSpec.ofChange splitNamesWrong)

/-- 'roundelaylaw40.AdoptHolds': WHATEVER THE INPUT: true; the input reads as it did. -/
def adoptHoldsSpec : ChangeSpec := { name := "adoptHolds", fn := fun _ => fun
  | [d1, d2, d3] => { results := [.lit (.bool true)], args := [d1, d2, d3] }
  | _ => none }
def adoptHoldsRow : OpenClaim := { program := "ytglpalomhhhmhaa", sum := "46599e025b37c995ed57f8c2d73b080bf65af05e1b4575bd536df91a36a85221", func := "roundelay/roundelaylaw40.AdoptHolds", spec := "adoptHolds", unfollowed := true, recurses := true, apart := false }
def AdoptHoldsSaid : Prop := adoptHoldsRow.holds Try.pinned (OpenSpec.ofChange adoptHoldsSpec)

/-- ITS FALSE NEIGHBOUR: 'it returns false'. Refute it at one input. -/
def adoptHoldsWrong : ChangeSpec := { name := "adoptHolds", fn := fun _ => fun
  | [d1, d2, d3] => { results := [.lit (.bool false)], args := [d1, d2, d3] }
  | _ => none }
def AdoptHoldsWrongFalsely : Prop := adoptHoldsRow.holds Try.pinned (OpenSpec.ofChange adoptHoldsWrong)

/-- 'roundelaylaw40.AdoptSame': WHATEVER THE INPUT: true; the input reads as it did. -/
def adoptSameSpec : ChangeSpec := { name := "adoptSame", fn := fun _ => fun
  | [d1, d2, d3] => { results := [.lit (.bool true)], args := [d1, d2, d3] }
  | _ => none }
def adoptSameRow : OpenClaim := { program := "ytglpalomhhhmhaa", sum := "46599e025b37c995ed57f8c2d73b080bf65af05e1b4575bd536df91a36a85221", func := "roundelay/roundelaylaw40.AdoptSame", spec := "adoptSame", unfollowed := true, recurses := true, apart := false }
def AdoptSameSaid : Prop := adoptSameRow.holds Try.pinned (OpenSpec.ofChange adoptSameSpec)

/-- ITS FALSE NEIGHBOUR: 'it returns false'. Refute it at one input. -/
def adoptSameWrong : ChangeSpec := { name := "adoptSame", fn := fun _ => fun
  | [d1, d2, d3] => { results := [.lit (.bool false)], args := [d1, d2, d3] }
  | _ => none }
def AdoptSameWrongFalsely : Prop := adoptSameRow.holds Try.pinned (OpenSpec.ofChange adoptSameWrong)

/- THE SECOND FORM. 'bulk': how many values and letters a reading holds, each counted each time it is reached (what is shared counts as often as it is met; a slice's spare places count too). A statement '..UptoSaid' is the law's where the arguments, and the package variables that the reading takes, are together of bulk at most 1048576: NARROWER than '..Said'. Prove '..Said' where nothing that the law and all that it calls make is longer than what came in: it says more and counts as full. Else prove '..UptoSaid'. A law counts once. -/
mutual
def uptoBulk {H : Type} : DataW H → Nat
  | .lit (.string bytes) => bytes.length + 1
  | .lit _ => 1
  | .nil => 1
  | .ptr d => uptoBulk d + 1
  | .slice elems spare => uptoBulkAll elems + uptoBulkAll spare + 1
  | .agg parts => uptoBulkAll parts + 1
  | .iface _ d => uptoBulk d + 1
  | .map entries => uptoBulkEntries entries + 1
  | .held _ => 1
def uptoBulkAll {H : Type} : List (DataW H) → Nat
  | [] => 0
  | d :: r => uptoBulk d + uptoBulkAll r
def uptoBulkEntries {H : Type} : List (Lit × DataW H) → Nat
  | [] => 0
  | x :: r => uptoBulkEntry x + uptoBulkEntries r
def uptoBulkEntry {H : Type} : Lit × DataW H → Nat
  | (.string bytes, d) => bytes.length + uptoBulk d + 1
  | (_, d) => uptoBulk d + 1
 end
def uptoSmall : (H : Type) → List (DataW H) → Bool := fun _ ds => decide (uptoBulkAll ds ≤ 1048576)
def OpenSpec.upto (s : _root_.Go.ChangeSpec) : _root_.Go.OpenSpec := { _root_.Go.OpenSpec.ofChange s with cond := some uptoSmall }

/-- 'roundelaylaw39.SplitNames', WHERE WHAT IT READS IS OF BULK AT MOST 1048576: true; the input reads as it did. -/
def splitNamesUptoRow : OpenClaim := { program := "ytglpalomhhhmhaa", sum := "46599e025b37c995ed57f8c2d73b080bf65af05e1b4575bd536df91a36a85221", func := "roundelay/roundelaylaw39.SplitNames", spec := "splitNames", unfollowed := true, recurses := true, apart := false, narrowed := true }
def SplitNamesUptoSaid : Prop := splitNamesUptoRow.holds Try.pinned (OpenSpec.upto splitNamesSpec)

/-- 'roundelaylaw40.AdoptHolds', WHERE WHAT IT READS IS OF BULK AT MOST 1048576: true; the input reads as it did. -/
def adoptHoldsUptoRow : OpenClaim := { program := "ytglpalomhhhmhaa", sum := "46599e025b37c995ed57f8c2d73b080bf65af05e1b4575bd536df91a36a85221", func := "roundelay/roundelaylaw40.AdoptHolds", spec := "adoptHolds", unfollowed := true, recurses := true, apart := false, narrowed := true }
def AdoptHoldsUptoSaid : Prop := adoptHoldsUptoRow.holds Try.pinned (OpenSpec.upto adoptHoldsSpec)

/-- 'roundelaylaw40.AdoptSame', WHERE WHAT IT READS IS OF BULK AT MOST 1048576: true; the input reads as it did. -/
def adoptSameUptoRow : OpenClaim := { program := "ytglpalomhhhmhaa", sum := "46599e025b37c995ed57f8c2d73b080bf65af05e1b4575bd536df91a36a85221", func := "roundelay/roundelaylaw40.AdoptSame", spec := "adoptSame", unfollowed := true, recurses := true, apart := false, narrowed := true }
def AdoptSameUptoSaid : Prop := adoptSameUptoRow.holds Try.pinned (OpenSpec.upto adoptSameSpec)

end Rows
end Go.Proofs.Ytglpalomhhhmhaa
