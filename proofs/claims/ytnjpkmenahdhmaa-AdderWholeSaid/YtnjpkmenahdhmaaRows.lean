/-
  No cell of these rows narrows 'for every input' (looked for: loops, veiled, ifaces, maps, wideKeys, modest, calm, conditions, laid).
  DERIVED. THE GIVEN ROWS OF THIS SEAT. 7 by the template 'for every input the law returns true; each argument reads behind the call as it read before'; 0 by the template 'total and deterministic' (their statements: YtnjpkmenahdhmaaTotals.lean).
  GIVEN WITH THE SEED: the statements are not yours to turn. If you find one false, say at which input.
  Laid BY PROGRAM, IN A SANDBOX (cutbox-rows.mjs): the forced cells as the released guide's own fill.sh prints them over the translation 504985b9b3516c25… (all of the seat's roots in one cut). By AI agents, Wed Nov 11 2026. No macro, syntax, notation, axiom, sorry.
-/
import Derived.Test.YtnjpkmenahdhmaaChecked
import GoSem.Claim
import GoSem.ClaimJoined
import GoSem.ClaimMapViews
import Derived.JoinedTies
import Derived.KernelRfl
namespace Go.Proofs.Ytnjpkmenahdhmaa
/- THE CELL 'sum', in the pinned program and in every row, IS THE sha256 OF THE DUMP (.gsa) THAT YtnjpkmenahdhmaaProg.lean LOADS. Nothing in Lean hashes anything: it is a label: what it is worth is what the hold of that sum in a sandbox is worth. -/
noncomputable def Try.pinned : Pinned := { name := "ytnjpkmenahdhmaa", sum := "504985b9b3516c254368f60bc4e27e92dddbc6bd7b94222391cdcba361f3b83c", checked := Try.checked }
namespace Rows
def none {H : Type} : Left H := { results := [], args := [] }

/-- 'roundelaylaw06.LoomWhole': WHATEVER THE INPUT: true; the input reads as it did. -/
def loomWholeSpec : ChangeSpec := { name := "loomWhole", fn := fun _ => fun
  | [d1, d2, d3] => { results := [.lit (.bool true)], args := [d1, d2, d3] }
  | _ => none }
def loomWholeRow : OpenClaim := { program := "ytnjpkmenahdhmaa", sum := "504985b9b3516c254368f60bc4e27e92dddbc6bd7b94222391cdcba361f3b83c", func := "roundelay/roundelaylaw06.LoomWhole", spec := "loomWhole", unfollowed := true, recurses := true, apart := false }
def LoomWholeSaid : Prop := loomWholeRow.holds Try.pinned (OpenSpec.ofChange loomWholeSpec)

/-- ITS FALSE NEIGHBOUR: 'it returns false'. Refute it at one input. -/
def loomWholeWrong : ChangeSpec := { name := "loomWhole", fn := fun _ => fun
  | [d1, d2, d3] => { results := [.lit (.bool false)], args := [d1, d2, d3] }
  | _ => none }
def LoomWholeWrongFalsely : Prop := loomWholeRow.holds Try.pinned (OpenSpec.ofChange loomWholeWrong)

/-- 'roundelaylaw07.ConsWhole': WHATEVER THE INPUT: true; the input reads as it did. -/
def consWholeSpec : ChangeSpec := { name := "consWhole", fn := fun _ => fun
  | [d1, d2, d3] => { results := [.lit (.bool true)], args := [d1, d2, d3] }
  | _ => none }
def consWholeRow : OpenClaim := { program := "ytnjpkmenahdhmaa", sum := "504985b9b3516c254368f60bc4e27e92dddbc6bd7b94222391cdcba361f3b83c", func := "roundelay/roundelaylaw07.ConsWhole", spec := "consWhole", unfollowed := true, recurses := true, apart := false }
def ConsWholeSaid : Prop := consWholeRow.holds Try.pinned (OpenSpec.ofChange consWholeSpec)

/-- ITS FALSE NEIGHBOUR: 'it returns false'. Refute it at one input. -/
def consWholeWrong : ChangeSpec := { name := "consWhole", fn := fun _ => fun
  | [d1, d2, d3] => { results := [.lit (.bool false)], args := [d1, d2, d3] }
  | _ => none }
def ConsWholeWrongFalsely : Prop := consWholeRow.holds Try.pinned (OpenSpec.ofChange consWholeWrong)

/-- 'roundelaylaw08.TallyReads': WHATEVER THE INPUT: true; the input reads as it did. -/
def tallyReadsSpec : ChangeSpec := { name := "tallyReads", fn := fun _ => fun
  | [d1, d2, d3] => { results := [.lit (.bool true)], args := [d1, d2, d3] }
  | _ => none }
def tallyReadsRow : OpenClaim := { program := "ytnjpkmenahdhmaa", sum := "504985b9b3516c254368f60bc4e27e92dddbc6bd7b94222391cdcba361f3b83c", func := "roundelay/roundelaylaw08.TallyReads", spec := "tallyReads", unfollowed := true, recurses := true, apart := false }
def TallyReadsSaid : Prop := tallyReadsRow.holds Try.pinned (OpenSpec.ofChange tallyReadsSpec)

/-- ITS FALSE NEIGHBOUR: 'it returns false'. Refute it at one input. -/
def tallyReadsWrong : ChangeSpec := { name := "tallyReads", fn := fun _ => fun
  | [d1, d2, d3] => { results := [.lit (.bool false)], args := [d1, d2, d3] }
  | _ => none }
def TallyReadsWrongFalsely : Prop := tallyReadsRow.holds Try.pinned (OpenSpec.ofChange tallyReadsWrong)

/-- 'roundelaylaw08.TallyWhole': WHATEVER THE INPUT: true; the input reads as it did. -/
def tallyWholeSpec : ChangeSpec := { name := "tallyWhole", fn := fun _ => fun
  | [d1, d2, d3] => { results := [.lit (.bool true)], args := [d1, d2, d3] }
  | _ => none }
def tallyWholeRow : OpenClaim := { program := "ytnjpkmenahdhmaa", sum := "504985b9b3516c254368f60bc4e27e92dddbc6bd7b94222391cdcba361f3b83c", func := "roundelay/roundelaylaw08.TallyWhole", spec := "tallyWhole", unfollowed := true, recurses := true, apart := false }
def TallyWholeSaid : Prop := tallyWholeRow.holds Try.pinned (OpenSpec.ofChange tallyWholeSpec)

/-- ITS FALSE NEIGHBOUR: 'it returns false'. Refute it at one input. -/
def tallyWholeWrong : ChangeSpec := { name := "tallyWhole", fn := fun _ => fun
  | [d1, d2, d3] => { results := [.lit (.bool false)], args := [d1, d2, d3] }
  | _ => none }
def TallyWholeWrongFalsely : Prop := tallyWholeRow.holds Try.pinned (OpenSpec.ofChange tallyWholeWrong)

/-- 'roundelaylaw09.AdderTickets': WHATEVER THE INPUT: true; the input reads as it did. -/
def adderTicketsSpec : ChangeSpec := { name := "adderTickets", fn := fun _ => fun
  | [d1, d2, d3] => { results := [.lit (.bool true)], args := [d1, d2, d3] }
  | _ => none }
def adderTicketsRow : OpenClaim := { program := "ytnjpkmenahdhmaa", sum := "504985b9b3516c254368f60bc4e27e92dddbc6bd7b94222391cdcba361f3b83c", func := "roundelay/roundelaylaw09.AdderTickets", spec := "adderTickets", unfollowed := true, recurses := true, apart := false }
def AdderTicketsSaid : Prop := adderTicketsRow.holds Try.pinned (OpenSpec.ofChange adderTicketsSpec)

/-- ITS FALSE NEIGHBOUR: 'it returns false'. Refute it at one input. -/
def adderTicketsWrong : ChangeSpec := { name := "adderTickets", fn := fun _ => fun
  | [d1, d2, d3] => { results := [.lit (.bool false)], args := [d1, d2, d3] }
  | _ => none }
def AdderTicketsWrongFalsely : Prop := adderTicketsRow.holds Try.pinned (OpenSpec.ofChange adderTicketsWrong)

/-- 'roundelaylaw09.AdderWhole': WHATEVER THE INPUT: true; the input reads as it did. -/
def adderWholeSpec : ChangeSpec := { name := "adderWhole", fn := fun _ => fun
  | [d1, d2, d3] => { results := [.lit (.bool true)], args := [d1, d2, d3] }
  | _ => none }
def adderWholeRow : OpenClaim := { program := "ytnjpkmenahdhmaa", sum := "504985b9b3516c254368f60bc4e27e92dddbc6bd7b94222391cdcba361f3b83c", func := "roundelay/roundelaylaw09.AdderWhole", spec := "adderWhole", unfollowed := true, recurses := true, apart := false }
def AdderWholeSaid : Prop := adderWholeRow.holds Try.pinned (OpenSpec.ofChange adderWholeSpec)

/-- ITS FALSE NEIGHBOUR: 'it returns false'. Refute it at one input. -/
def adderWholeWrong : ChangeSpec := { name := "adderWhole", fn := fun _ => fun
  | [d1, d2, d3] => { results := [.lit (.bool false)], args := [d1, d2, d3] }
  | _ => none }
def AdderWholeWrongFalsely : Prop := adderWholeRow.holds Try.pinned (OpenSpec.ofChange adderWholeWrong)

/-- 'roundelaylaw10.MaxReads': WHATEVER THE INPUT: true; the input reads as it did. -/
def maxReadsSpec : ChangeSpec := { name := "maxReads", fn := fun _ => fun
  | [d1, d2, d3] => { results := [.lit (.bool true)], args := [d1, d2, d3] }
  | _ => none }
def maxReadsRow : OpenClaim := { program := "ytnjpkmenahdhmaa", sum := "504985b9b3516c254368f60bc4e27e92dddbc6bd7b94222391cdcba361f3b83c", func := "roundelay/roundelaylaw10.MaxReads", spec := "maxReads", unfollowed := true, recurses := true, apart := false }
def MaxReadsSaid : Prop := maxReadsRow.holds Try.pinned (OpenSpec.ofChange maxReadsSpec)

/-- ITS FALSE NEIGHBOUR: 'it returns false'. Refute it at one input. -/
def maxReadsWrong : ChangeSpec := { name := "maxReads", fn := fun _ => fun
  | [d1, d2, d3] => { results := [.lit (.bool false)], args := [d1, d2, d3] }
  | _ => none }
def MaxReadsWrongFalsely : Prop := maxReadsRow.holds Try.pinned (OpenSpec.ofChange maxReadsWrong)

/- THE SECOND FORM. 'bulk': how many values and letters a reading holds, each counted each time it is reached (what is shared counts as often as it is met; a slice's spare places count too). A statement '..UptoSaid' is the law's where the arguments, and the package variables that the reading takes, are together of bulk at most 1048576: NARROWER than '..Said'. Prove '..Said' where nothing that the law and all that it calls make is longer than what came in: it says more and counts as full. Else prove '..UptoSaid'. A law counts once. -/
mutual
def uptoBulk {H : Type} : DataW H → Nat
  | .lit (.string bytes) => bytes.length + 1
  | .lit _ => 1
  | .nil => 1
  | .ptr d => uptoBulk d + 1
  | .slice elems spare => uptoBulkAll elems + uptoBulkAll spare + 1
  | .agg parts => uptoBulkAll parts + 1
  | .iface _ d => uptoBulk d + 1
  | .map entries => uptoBulkEntries entries + 1
  | .held _ => 1
def uptoBulkAll {H : Type} : List (DataW H) → Nat
  | [] => 0
  | d :: r => uptoBulk d + uptoBulkAll r
def uptoBulkEntries {H : Type} : List (Lit × DataW H) → Nat
  | [] => 0
  | x :: r => uptoBulkEntry x + uptoBulkEntries r
def uptoBulkEntry {H : Type} : Lit × DataW H → Nat
  | (.string bytes, d) => bytes.length + uptoBulk d + 1
  | (_, d) => uptoBulk d + 1
 end
def uptoSmall : (H : Type) → List (DataW H) → Bool := fun _ ds => decide (uptoBulkAll ds ≤ 1048576)
def OpenSpec.upto (s : _root_.Go.ChangeSpec) : _root_.Go.OpenSpec := { _root_.Go.OpenSpec.ofChange s with cond := some uptoSmall }

/-- 'roundelaylaw06.LoomWhole', WHERE WHAT IT READS IS OF BULK AT MOST 1048576: true; the input reads as it did. -/
def loomWholeUptoRow : OpenClaim := { program := "ytnjpkmenahdhmaa", sum := "504985b9b3516c254368f60bc4e27e92dddbc6bd7b94222391cdcba361f3b83c", func := "roundelay/roundelaylaw06.LoomWhole", spec := "loomWhole", unfollowed := true, recurses := true, apart := false, narrowed := true }
def LoomWholeUptoSaid : Prop := loomWholeUptoRow.holds Try.pinned (OpenSpec.upto loomWholeSpec)

/-- 'roundelaylaw07.ConsWhole', WHERE WHAT IT READS IS OF BULK AT MOST 1048576: true; the input reads as it did. -/
def consWholeUptoRow : OpenClaim := { program := "ytnjpkmenahdhmaa", sum := "504985b9b3516c254368f60bc4e27e92dddbc6bd7b94222391cdcba361f3b83c", func := "roundelay/roundelaylaw07.ConsWhole", spec := "consWhole", unfollowed := true, recurses := true, apart := false, narrowed := true }
def ConsWholeUptoSaid : Prop := consWholeUptoRow.holds Try.pinned (OpenSpec.upto consWholeSpec)

/-- 'roundelaylaw08.TallyReads', WHERE WHAT IT READS IS OF BULK AT MOST 1048576: true; the input reads as it did. -/
def tallyReadsUptoRow : OpenClaim := { program := "ytnjpkmenahdhmaa", sum := "504985b9b3516c254368f60bc4e27e92dddbc6bd7b94222391cdcba361f3b83c", func := "roundelay/roundelaylaw08.TallyReads", spec := "tallyReads", unfollowed := true, recurses := true, apart := false, narrowed := true }
def TallyReadsUptoSaid : Prop := tallyReadsUptoRow.holds Try.pinned (OpenSpec.upto tallyReadsSpec)

/-- 'roundelaylaw08.TallyWhole', WHERE WHAT IT READS IS OF BULK AT MOST 1048576: true; the input reads as it did. -/
def tallyWholeUptoRow : OpenClaim := { program := "ytnjpkmenahdhmaa", sum := "504985b9b3516c254368f60bc4e27e92dddbc6bd7b94222391cdcba361f3b83c", func := "roundelay/roundelaylaw08.TallyWhole", spec := "tallyWhole", unfollowed := true, recurses := true, apart := false, narrowed := true }
def TallyWholeUptoSaid : Prop := tallyWholeUptoRow.holds Try.pinned (OpenSpec.upto tallyWholeSpec)

/-- 'roundelaylaw09.AdderTickets', WHERE WHAT IT READS IS OF BULK AT MOST 1048576: true; the input reads as it did. -/
def adderTicketsUptoRow : OpenClaim := { program := "ytnjpkmenahdhmaa", sum := "504985b9b3516c254368f60bc4e27e92dddbc6bd7b94222391cdcba361f3b83c", func := "roundelay/roundelaylaw09.AdderTickets", spec := "adderTickets", unfollowed := true, recurses := true, apart := false, narrowed := true }
def AdderTicketsUptoSaid : Prop := adderTicketsUptoRow.holds Try.pinned (OpenSpec.upto adderTicketsSpec)

/-- 'roundelaylaw09.AdderWhole', WHERE WHAT IT READS IS OF BULK AT MOST 1048576: true; the input reads as it did. -/
def adderWholeUptoRow : OpenClaim := { program := "ytnjpkmenahdhmaa", sum := "504985b9b3516c254368f60bc4e27e92dddbc6bd7b94222391cdcba361f3b83c", func := "roundelay/roundelaylaw09.AdderWhole", spec := "adderWhole", unfollowed := true, recurses := true, apart := false, narrowed := true }
def AdderWholeUptoSaid : Prop := adderWholeUptoRow.holds Try.pinned (OpenSpec.upto adderWholeSpec)

/-- 'roundelaylaw10.MaxReads', WHERE WHAT IT READS IS OF BULK AT MOST 1048576: true; the input reads as it did. -/
def maxReadsUptoRow : OpenClaim := { program := "ytnjpkmenahdhmaa", sum := "504985b9b3516c254368f60bc4e27e92dddbc6bd7b94222391cdcba361f3b83c", func := "roundelay/roundelaylaw10.MaxReads", spec := "maxReads", unfollowed := true, recurses := true, apart := false, narrowed := true }
def MaxReadsUptoSaid : Prop := maxReadsUptoRow.holds Try.pinned (OpenSpec.upto maxReadsSpec)

end Rows
end Go.Proofs.Ytnjpkmenahdhmaa
