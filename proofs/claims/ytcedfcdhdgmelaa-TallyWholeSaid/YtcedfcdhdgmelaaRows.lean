/-
  No cell of these rows narrows 'for every input' (looked for: loops, veiled, ifaces, maps, wideKeys, modest, calm, conditions, laid).
  DERIVED. THE GIVEN ROWS OF THIS SEAT. 6 by the template 'for every input the law returns true; each argument reads behind the call as it read before'; 0 by the template 'total and deterministic' (their statements: YtcedfcdhdgmelaaTotals.lean).
  GIVEN WITH THE SEED: the statements are not yours to turn. If you find one false, say at which input.
  Laid BY PROGRAM, IN A SANDBOX (cutbox-rows.mjs): the forced cells as the released guide's own fill.sh prints them over the translation 54305b013632f240… (all of the seat's roots in one cut). By AI agents, Wed Nov 11 2026. No macro, syntax, notation, axiom, sorry.
-/
import Derived.Test.YtcedfcdhdgmelaaChecked
import GoSem.Claim
import GoSem.ClaimJoined
import GoSem.ClaimMapViews
import Derived.JoinedTies
import Derived.KernelRfl
namespace Go.Proofs.Ytcedfcdhdgmelaa
/- THE CELL 'sum', in the pinned program and in every row, IS THE sha256 OF THE DUMP (.gsa) THAT YtcedfcdhdgmelaaProg.lean LOADS. Nothing in Lean hashes anything: it is a label: what it is worth is what the hold of that sum in a sandbox is worth. -/
noncomputable def Try.pinned : Pinned := { name := "ytcedfcdhdgmelaa", sum := "54305b013632f24088f162b7168573e937834018efe9475faa681807536e075a", checked := Try.checked }
namespace Rows
def none {H : Type} : Left H := { results := [], args := [] }

/-- 'roundelaylaw07.ConsWhole': WHATEVER THE INPUT: true; the input reads as it did. -/
def consWholeSpec : ChangeSpec := { name := "consWhole", fn := fun _ => fun
  | [d1, d2, d3] => { results := [.lit (.bool true)], args := [d1, d2, d3] }
  | _ => none }
def consWholeRow : OpenClaim := { program := "ytcedfcdhdgmelaa", sum := "54305b013632f24088f162b7168573e937834018efe9475faa681807536e075a", func := "roundelay/roundelaylaw07.ConsWhole", spec := "consWhole", unfollowed := true, recurses := true, apart := false }
def ConsWholeSaid : Prop := consWholeRow.holds Try.pinned (OpenSpec.ofChange consWholeSpec)

/-- ITS FALSE NEIGHBOUR: 'it returns false'. Refute it at one input. -/
def consWholeWrong : ChangeSpec := { name := "consWhole", fn := fun _ => fun
  | [d1, d2, d3] => { results := [.lit (.bool false)], args := [d1, d2, d3] }
  | _ => none }
def ConsWholeWrongFalsely : Prop := consWholeRow.holds Try.pinned (OpenSpec.ofChange consWholeWrong)

/-- 'roundelaylaw08.TallyReads': WHATEVER THE INPUT: true; the input reads as it did. -/
def tallyReadsSpec : ChangeSpec := { name := "tallyReads", fn := fun _ => fun
  | [d1, d2, d3] => { results := [.lit (.bool true)], args := [d1, d2, d3] }
  | _ => none }
def tallyReadsRow : OpenClaim := { program := "ytcedfcdhdgmelaa", sum := "54305b013632f24088f162b7168573e937834018efe9475faa681807536e075a", func := "roundelay/roundelaylaw08.TallyReads", spec := "tallyReads", unfollowed := true, recurses := true, apart := false }
def TallyReadsSaid : Prop := tallyReadsRow.holds Try.pinned (OpenSpec.ofChange tallyReadsSpec)

/-- ITS FALSE NEIGHBOUR: 'it returns false'. Refute it at one input. -/
def tallyReadsWrong : ChangeSpec := { name := "tallyReads", fn := fun _ => fun
  | [d1, d2, d3] => { results := [.lit (.bool false)], args := [d1, d2, d3] }
  | _ => none }
def TallyReadsWrongFalsely : Prop := tallyReadsRow.holds Try.pinned (OpenSpec.ofChange tallyReadsWrong)

/-- 'roundelaylaw08.TallyWhole': WHATEVER THE INPUT: true; the input reads as it did. -/
def tallyWholeSpec : ChangeSpec := { name := "tallyWhole", fn := fun _ => fun
  | [d1, d2, d3] => { results := [.lit (.bool true)], args := [d1, d2, d3] }
  | _ => none }
def tallyWholeRow : OpenClaim := { program := "ytcedfcdhdgmelaa", sum := "54305b013632f24088f162b7168573e937834018efe9475faa681807536e075a", func := "roundelay/roundelaylaw08.TallyWhole", spec := "tallyWhole", unfollowed := true, recurses := true, apart := false }
def TallyWholeSaid : Prop := tallyWholeRow.holds Try.pinned (OpenSpec.ofChange tallyWholeSpec)

/-- ITS FALSE NEIGHBOUR: 'it returns false'. Refute it at one input. -/
def tallyWholeWrong : ChangeSpec := { name := "tallyWhole", fn := fun _ => fun
  | [d1, d2, d3] => { results := [.lit (.bool false)], args := [d1, d2, d3] }
  | _ => none }
def TallyWholeWrongFalsely : Prop := tallyWholeRow.holds Try.pinned (OpenSpec.ofChange tallyWholeWrong)

/-- 'roundelaylaw12.DoorRises': WHATEVER THE INPUT: true; the input reads as it did. -/
def doorRisesSpec : ChangeSpec := { name := "doorRises", fn := fun _ => fun
  | [d1, d2, d3] => { results := [.lit (.bool true)], args := [d1, d2, d3] }
  | _ => none }
def doorRisesRow : OpenClaim := { program := "ytcedfcdhdgmelaa", sum := "54305b013632f24088f162b7168573e937834018efe9475faa681807536e075a", func := "roundelay/roundelaylaw12.DoorRises", spec := "doorRises", unfollowed := true, recurses := true, apart := false }
def DoorRisesSaid : Prop := doorRisesRow.holds Try.pinned (OpenSpec.ofChange doorRisesSpec)

/-- ITS FALSE NEIGHBOUR: 'it returns false'. Refute it at one input. -/
def doorRisesWrong : ChangeSpec := { name := "doorRises", fn := fun _ => fun
  | [d1, d2, d3] => { results := [.lit (.bool false)], args := [d1, d2, d3] }
  | _ => none }
def DoorRisesWrongFalsely : Prop := doorRisesRow.holds Try.pinned (OpenSpec.ofChange doorRisesWrong)

/-- 'roundelaylaw10.MaxReads': WHATEVER THE INPUT: true; the input reads as it did. -/
def maxReadsSpec : ChangeSpec := { name := "maxReads", fn := fun _ => fun
  | [d1, d2, d3] => { results := [.lit (.bool true)], args := [d1, d2, d3] }
  | _ => none }
def maxReadsRow : OpenClaim := { program := "ytcedfcdhdgmelaa", sum := "54305b013632f24088f162b7168573e937834018efe9475faa681807536e075a", func := "roundelay/roundelaylaw10.MaxReads", spec := "maxReads", unfollowed := true, recurses := true, apart := false }
def MaxReadsSaid : Prop := maxReadsRow.holds Try.pinned (OpenSpec.ofChange maxReadsSpec)

/-- ITS FALSE NEIGHBOUR: 'it returns false'. Refute it at one input. -/
def maxReadsWrong : ChangeSpec := { name := "maxReads", fn := fun _ => fun
  | [d1, d2, d3] => { results := [.lit (.bool false)], args := [d1, d2, d3] }
  | _ => none }
def MaxReadsWrongFalsely : Prop := maxReadsRow.holds Try.pinned (OpenSpec.ofChange maxReadsWrong)

/-- 'roundelaylaw10.MaxSteps': WHATEVER THE INPUT: true; the input reads as it did. -/
def maxStepsSpec : ChangeSpec := { name := "maxSteps", fn := fun _ => fun
  | [d1, d2, d3] => { results := [.lit (.bool true)], args := [d1, d2, d3] }
  | _ => none }
def maxStepsRow : OpenClaim := { program := "ytcedfcdhdgmelaa", sum := "54305b013632f24088f162b7168573e937834018efe9475faa681807536e075a", func := "roundelay/roundelaylaw10.MaxSteps", spec := "maxSteps", unfollowed := true, recurses := true, apart := false }
def MaxStepsSaid : Prop := maxStepsRow.holds Try.pinned (OpenSpec.ofChange maxStepsSpec)

/-- ITS FALSE NEIGHBOUR: 'it returns false'. Refute it at one input. -/
def maxStepsWrong : ChangeSpec := { name := "maxSteps", fn := fun _ => fun
  | [d1, d2, d3] => { results := [.lit (.bool false)], args := [d1, d2, d3] }
  | _ => none }
def MaxStepsWrongFalsely : Prop := maxStepsRow.holds Try.pinned (OpenSpec.ofChange maxStepsWrong)

/- THE SECOND FORM. 'bulk': how many values and letters a reading holds, each counted each time it is reached (what is shared counts as often as it is met; a slice's spare places count too). A statement '..UptoSaid' is the law's where the arguments, and the package variables that the reading takes, are together of bulk at most 1048576: NARROWER than '..Said'. Prove '..Said' where nothing that the law and all that it calls make is longer than what came in: it says more and counts as full. Else prove '..UptoSaid'. A law counts once. -/
mutual
def uptoBulk {H : Type} : DataW H → Nat
  | .lit (.string bytes) => bytes.length + 1
  | .lit _ => 1
  | .nil => 1
  | .ptr d => uptoBulk d + 1
  | .slice elems spare => uptoBulkAll elems + uptoBulkAll spare + 1
  | .agg parts => uptoBulkAll parts + 1
  | .iface _ d => uptoBulk d + 1
  | .map entries => uptoBulkEntries entries + 1
  | .held _ => 1
def uptoBulkAll {H : Type} : List (DataW H) → Nat
  | [] => 0
  | d :: r => uptoBulk d + uptoBulkAll r
def uptoBulkEntries {H : Type} : List (Lit × DataW H) → Nat
  | [] => 0
  | x :: r => uptoBulkEntry x + uptoBulkEntries r
def uptoBulkEntry {H : Type} : Lit × DataW H → Nat
  | (.string bytes, d) => bytes.length + uptoBulk d + 1
  | (_, d) => uptoBulk d + 1
 end
def uptoSmall : (H : Type) → List (DataW H) → Bool := fun _ ds => decide (uptoBulkAll ds ≤ 1048576)
def OpenSpec.upto (s : _root_.Go.ChangeSpec) : _root_.Go.OpenSpec := { _root_.Go.OpenSpec.ofChange s with cond := some uptoSmall }

/-- 'roundelaylaw07.ConsWhole', WHERE WHAT IT READS IS OF BULK AT MOST 1048576: true; the input reads as it did. -/
def consWholeUptoRow : OpenClaim := { program := "ytcedfcdhdgmelaa", sum := "54305b013632f24088f162b7168573e937834018efe9475faa681807536e075a", func := "roundelay/roundelaylaw07.ConsWhole", spec := "consWhole", unfollowed := true, recurses := true, apart := false, narrowed := true }
def ConsWholeUptoSaid : Prop := consWholeUptoRow.holds Try.pinned (OpenSpec.upto consWholeSpec)

/-- 'roundelaylaw08.TallyReads', WHERE WHAT IT READS IS OF BULK AT MOST 1048576: true; the input reads as it did. -/
def tallyReadsUptoRow : OpenClaim := { program := "ytcedfcdhdgmelaa", sum := "54305b013632f24088f162b7168573e937834018efe9475faa681807536e075a", func := "roundelay/roundelaylaw08.TallyReads", spec := "tallyReads", unfollowed := true, recurses := true, apart := false, narrowed := true }
def TallyReadsUptoSaid : Prop := tallyReadsUptoRow.holds Try.pinned (OpenSpec.upto tallyReadsSpec)

/-- 'roundelaylaw08.TallyWhole', WHERE WHAT IT READS IS OF BULK AT MOST 1048576: true; the input reads as it did. -/
def tallyWholeUptoRow : OpenClaim := { program := "ytcedfcdhdgmelaa", sum := "54305b013632f24088f162b7168573e937834018efe9475faa681807536e075a", func := "roundelay/roundelaylaw08.TallyWhole", spec := "tallyWhole", unfollowed := true, recurses := true, apart := false, narrowed := true }
def TallyWholeUptoSaid : Prop := tallyWholeUptoRow.holds Try.pinned (OpenSpec.upto tallyWholeSpec)

/-- 'roundelaylaw12.DoorRises', WHERE WHAT IT READS IS OF BULK AT MOST 1048576: true; the input reads as it did. -/
def doorRisesUptoRow : OpenClaim := { program := "ytcedfcdhdgmelaa", sum := "54305b013632f24088f162b7168573e937834018efe9475faa681807536e075a", func := "roundelay/roundelaylaw12.DoorRises", spec := "doorRises", unfollowed := true, recurses := true, apart := false, narrowed := true }
def DoorRisesUptoSaid : Prop := doorRisesUptoRow.holds Try.pinned (OpenSpec.upto doorRisesSpec)

/-- 'roundelaylaw10.MaxReads', WHERE WHAT IT READS IS OF BULK AT MOST 1048576: true; the input reads as it did. -/
def maxReadsUptoRow : OpenClaim := { program := "ytcedfcdhdgmelaa", sum := "54305b013632f24088f162b7168573e937834018efe9475faa681807536e075a", func := "roundelay/roundelaylaw10.MaxReads", spec := "maxReads", unfollowed := true, recurses := true, apart := false, narrowed := true }
def MaxReadsUptoSaid : Prop := maxReadsUptoRow.holds Try.pinned (OpenSpec.upto maxReadsSpec)

/-- 'roundelaylaw10.MaxSteps', WHERE WHAT IT READS IS OF BULK AT MOST 1048576: true; the input reads as it did. -/
def maxStepsUptoRow : OpenClaim := { program := "ytcedfcdhdgmelaa", sum := "54305b013632f24088f162b7168573e937834018efe9475faa681807536e075a", func := "roundelay/roundelaylaw10.MaxSteps", spec := "maxSteps", unfollowed := true, recurses := true, apart := false, narrowed := true }
def MaxStepsUptoSaid : Prop := maxStepsUptoRow.holds Try.pinned (OpenSpec.upto maxStepsSpec)

end Rows
end Go.Proofs.Ytcedfcdhdgmelaa
