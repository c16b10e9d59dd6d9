/-
  No cell of these rows narrows 'for every input' (looked for: loops, veiled, ifaces, maps, wideKeys, modest, calm, conditions, laid).
  DERIVED. THE GIVEN ROWS OF THIS SEAT. 3 by the template 'for every input the law returns true; each argument reads behind the call as it read before'; 0 by the template 'total and deterministic' (their statements: YtmocjpcnohnfpaaGreatTotals.lean).
  GIVEN WITH THE SEED: the statements are not yours to turn. If you find one false, say at which input.
  Laid BY PROGRAM, IN A SANDBOX (cutbox-rows.mjs): the forced cells as the released guide's own fill.sh prints them over the translation 2af2a862a891c2c5… (all of the seat's roots in one cut). By AI agents, Wed Nov 11 2026. No macro, syntax, notation, axiom, sorry.
-/
import Derived.Test.YtmocjpcnohnfpaaGreatChecked
import GoSem.Claim
import GoSem.ClaimJoined
import GoSem.ClaimMapViews
import Derived.JoinedTies
import Derived.KernelRfl
namespace Go.Proofs.YtmocjpcnohnfpaaGreat
/- THE CELL 'sum', in the pinned program and in every row, IS THE sha256 OF THE DUMP (.gsa) THAT YtmocjpcnohnfpaaGreatProg.lean LOADS. Nothing in Lean hashes anything: it is a label: what it is worth is what the hold of that sum in a sandbox is worth. -/
noncomputable def Tryz.pinned : Pinned := { name := "ytmocjpcnohnfpaagreat", sum := "2af2a862a891c2c529a4956a81754dac21ee088518bd69cccb23de1ad09babb3", checked := Tryz.checked }
namespace Rows
def none {H : Type} : Left H := { results := [], args := [] }

/-- 'roundelaylaw27.ModelNews': WHATEVER THE INPUT: true; the input reads as it did. -/
def modelNewsSpec : ChangeSpec := { name := "modelNews", fn := fun _ => fun
  | [d] => { results := [.lit (.bool true)], args := [d] }
  | _ => none }
def modelNewsRow : OpenClaim := { program := "ytmocjpcnohnfpaagreat", sum := "2af2a862a891c2c529a4956a81754dac21ee088518bd69cccb23de1ad09babb3", func := "roundelay/roundelaylaw27.ModelNews", spec := "modelNews", unfollowed := true, recurses := true, apart := false }
def ModelNewsSaid : Prop := modelNewsRow.holds Tryz.pinned (OpenSpec.ofChange modelNewsSpec)

/-- ITS FALSE NEIGHBOUR: 'it returns false'. Refute it at one input. -/
def modelNewsWrong : ChangeSpec := { name := "modelNews", fn := fun _ => fun
  | [d] => { results := [.lit (.bool false)], args := [d] }
  | _ => none }
def ModelNewsWrongFalsely : Prop := modelNewsRow.holds Tryz.pinned (OpenSpec.ofChange modelNewsWrong)

/-- 'roundelaylaw28.LinearWrong': WHATEVER THE INPUT: true; the input reads as it did. -/
def linearWrongSpec : ChangeSpec := { name := "linearWrong", fn := fun _ => fun
  | [d] => { results := [.lit (.bool true)], args := [d] }
  | _ => none }
def linearWrongRow : OpenClaim := { program := "ytmocjpcnohnfpaagreat", sum := "2af2a862a891c2c529a4956a81754dac21ee088518bd69cccb23de1ad09babb3", func := "roundelay/roundelaylaw28.LinearWrong", spec := "linearWrong", unfollowed := true, recurses := true, apart := false }
def LinearWrongSaid : Prop := linearWrongRow.holds Tryz.pinned (OpenSpec.ofChange linearWrongSpec)

/-- ITS FALSE NEIGHBOUR: 'it returns false'. Refute it at one input. -/
def linearWrongWrong : ChangeSpec := { name := "linearWrong", fn := fun _ => fun
  | [d] => { results := [.lit (.bool false)], args := [d] }
  | _ => none }
def LinearWrongWrongFalsely : Prop := linearWrongRow.holds Tryz.pinned (OpenSpec.ofChange linearWrongWrong)

/-- 'roundelaylaw28.LinearWhole': WHATEVER THE INPUT: true; the input reads as it did. -/
def linearWholeSpec : ChangeSpec := { name := "linearWhole", fn := fun _ => fun
  | [d] => { results := [.lit (.bool true)], args := [d] }
  | _ => none }
def linearWholeRow : OpenClaim := { program := "ytmocjpcnohnfpaagreat", sum := "2af2a862a891c2c529a4956a81754dac21ee088518bd69cccb23de1ad09babb3", func := "roundelay/roundelaylaw28.LinearWhole", spec := "linearWhole", unfollowed := true, recurses := true, apart := false }
def LinearWholeSaid : Prop := linearWholeRow.holds Tryz.pinned (OpenSpec.ofChange linearWholeSpec)

/-- ITS FALSE NEIGHBOUR: 'it returns false'. Refute it at one input. -/
def linearWholeWrong : ChangeSpec := { name := "linearWhole", fn := fun _ => fun
  | [d] => { results := [.lit (.bool false)], args := [d] }
  | _ => none }
def LinearWholeWrongFalsely : Prop := linearWholeRow.holds Tryz.pinned (OpenSpec.ofChange linearWholeWrong)

/- THE SECOND FORM. 'bulk': how many values and letters a reading holds, each counted each time it is reached (what is shared counts as often as it is met; a slice's spare places count too). A statement '..UptoSaid' is the law's where the arguments, and the package variables that the reading takes, are together of bulk at most 1048576: NARROWER than '..Said'. Prove '..Said' where nothing that the law and all that it calls make is longer than what came in: it says more and counts as full. Else prove '..UptoSaid'. A law counts once. -/
mutual
def uptoBulk {H : Type} : DataW H → Nat
  | .lit (.string bytes) => bytes.length + 1
  | .lit _ => 1
  | .nil => 1
  | .ptr d => uptoBulk d + 1
  | .slice elems spare => uptoBulkAll elems + uptoBulkAll spare + 1
  | .agg parts => uptoBulkAll parts + 1
  | .iface _ d => uptoBulk d + 1
  | .map entries => uptoBulkEntries entries + 1
  | .held _ => 1
def uptoBulkAll {H : Type} : List (DataW H) → Nat
  | [] => 0
  | d :: r => uptoBulk d + uptoBulkAll r
def uptoBulkEntries {H : Type} : List (Lit × DataW H) → Nat
  | [] => 0
  | x :: r => uptoBulkEntry x + uptoBulkEntries r
def uptoBulkEntry {H : Type} : Lit × DataW H → Nat
  | (.string bytes, d) => bytes.length + uptoBulk d + 1
  | (_, d) => uptoBulk d + 1
 end
def uptoSmall : (H : Type) → List (DataW H) → Bool := fun _ ds => decide (uptoBulkAll ds ≤ 1048576)
def OpenSpec.upto (s : _root_.Go.ChangeSpec) : _root_.Go.OpenSpec := { _root_.Go.OpenSpec.ofChange s with cond := some uptoSmall }

/-- 'roundelaylaw27.ModelNews', WHERE WHAT IT READS IS OF BULK AT MOST 1048576: true; the input reads as it did. -/
def modelNewsUptoRow : OpenClaim := { program := "ytmocjpcnohnfpaagreat", sum := "2af2a862a891c2c529a4956a81754dac21ee088518bd69cccb23de1ad09babb3", func := "roundelay/roundelaylaw27.ModelNews", spec := "modelNews", unfollowed := true, recurses := true, apart := false, narrowed := true }
def ModelNewsUptoSaid : Prop := modelNewsUptoRow.holds Tryz.pinned (OpenSpec.upto modelNewsSpec)

/-- 'roundelaylaw28.LinearWrong', WHERE WHAT IT READS IS OF BULK AT MOST 1048576: true; the input reads as it did. -/
def linearWrongUptoRow : OpenClaim := { program := "ytmocjpcnohnfpaagreat", sum := "2af2a862a891c2c529a4956a81754dac21ee088518bd69cccb23de1ad09babb3", func := "roundelay/roundelaylaw28.LinearWrong", spec := "linearWrong", unfollowed := true, recurses := true, apart := false, narrowed := true }
def LinearWrongUptoSaid : Prop := linearWrongUptoRow.holds Tryz.pinned (OpenSpec.upto linearWrongSpec)

/-- 'roundelaylaw28.LinearWhole', WHERE WHAT IT READS IS OF BULK AT MOST 1048576: true; the input reads as it did. -/
def linearWholeUptoRow : OpenClaim := { program := "ytmocjpcnohnfpaagreat", sum := "2af2a862a891c2c529a4956a81754dac21ee088518bd69cccb23de1ad09babb3", func := "roundelay/roundelaylaw28.LinearWhole", spec := "linearWhole", unfollowed := true, recurses := true, apart := false, narrowed := true }
def LinearWholeUptoSaid : Prop := linearWholeUptoRow.holds Tryz.pinned (OpenSpec.upto linearWholeSpec)

end Rows
end Go.Proofs.YtmocjpcnohnfpaaGreat
