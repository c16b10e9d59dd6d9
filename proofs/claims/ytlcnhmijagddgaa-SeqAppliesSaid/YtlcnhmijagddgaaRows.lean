/-
  No cell of these rows narrows 'for every input' (looked for: loops, veiled, ifaces, maps, wideKeys, modest, calm, conditions, laid).
  DERIVED. THE GIVEN ROWS OF THIS SEAT. 3 by the template 'for every input the law returns true; each argument reads behind the call as it read before'; 0 by the template 'total and deterministic' (their statements: YtlcnhmijagddgaaTotals.lean).
  GIVEN WITH THE SEED: the statements are not yours to turn. If you find one false, say at which input.
  Laid BY PROGRAM, IN A SANDBOX (cutbox-rows.mjs): the forced cells as the released guide's own fill.sh prints them over the translation 764873d5706a9225… (all of the seat's roots in one cut). By AI agents, Wed Nov 11 2026. No macro, syntax, notation, axiom, sorry.
-/
import Derived.Test.YtlcnhmijagddgaaChecked
import GoSem.Claim
import GoSem.ClaimJoined
import GoSem.ClaimMapViews
import Derived.JoinedTies
import Derived.KernelRfl
namespace Go.Proofs.Ytlcnhmijagddgaa
/- THE CELL 'sum', in the pinned program and in every row, IS THE sha256 OF THE DUMP (.gsa) THAT YtlcnhmijagddgaaProg.lean LOADS. Nothing in Lean hashes anything: it is a label: what it is worth is what the hold of that sum in a sandbox is worth. -/
noncomputable def Try.pinned : Pinned := { name := "ytlcnhmijagddgaa", sum := "764873d5706a92253cd6fee2b670df976ac3bba93d515a1bd37f7ea63612c2bc", checked := Try.checked }
namespace Rows
def none {H : Type} : Left H := { results := [], args := [] }

/-- 'roundelaylaw17.SeqTypes': WHATEVER THE INPUT: true; the input reads as it did. -/
def seqTypesSpec : ChangeSpec := { name := "seqTypes", fn := fun _ => fun
  | [d1, d2] => { results := [.lit (.bool true)], args := [d1, d2] }
  | _ => none }
def seqTypesRow : OpenClaim := { program := "ytlcnhmijagddgaa", sum := "764873d5706a92253cd6fee2b670df976ac3bba93d515a1bd37f7ea63612c2bc", func := "roundelay/roundelaylaw17.SeqTypes", spec := "seqTypes", unfollowed := true, recurses := true, apart := false }
def SeqTypesSaid : Prop := seqTypesRow.holds Try.pinned (OpenSpec.ofChange seqTypesSpec)

/-- ITS FALSE NEIGHBOUR: 'it returns false'. Refute it at one input. -/
def seqTypesWrong : ChangeSpec := { name := "seqTypes", fn := fun _ => fun
  | [d1, d2] => { results := [.lit (.bool false)], args := [d1, d2] }
  | _ => none }
def SeqTypesWrongFalsely : Prop := seqTypesRow.holds Try.pinned (OpenSpec.ofChange seqTypesWrong)

/-- 'roundelaylaw17.SeqApplies': WHATEVER THE INPUT: true; the input reads as it did. -/
def seqAppliesSpec : ChangeSpec := { name := "seqApplies", fn := fun _ => fun
  | [d1, d2, d3] => { results := [.lit (.bool true)], args := [d1, d2, d3] }
  | _ => none }
def seqAppliesRow : OpenClaim := { program := "ytlcnhmijagddgaa", sum := "764873d5706a92253cd6fee2b670df976ac3bba93d515a1bd37f7ea63612c2bc", func := "roundelay/roundelaylaw17.SeqApplies", spec := "seqApplies", unfollowed := true, recurses := true, apart := false }
def SeqAppliesSaid : Prop := seqAppliesRow.holds Try.pinned (OpenSpec.ofChange seqAppliesSpec)

/-- ITS FALSE NEIGHBOUR: 'it returns false'. Refute it at one input. -/
def seqAppliesWrong : ChangeSpec := { name := "seqApplies", fn := fun _ => fun
  | [d1, d2, d3] => { results := [.lit (.bool false)], args := [d1, d2, d3] }
  | _ => none }
def SeqAppliesWrongFalsely : Prop := seqAppliesRow.holds Try.pinned (OpenSpec.ofChange seqAppliesWrong)

/-- 'roundelaylaw17.SeqRows': WHATEVER THE INPUT: true; the input reads as it did. -/
def seqRowsSpec : ChangeSpec := { name := "seqRows", fn := fun _ => fun
  | [d] => { results := [.lit (.bool true)], args := [d] }
  | _ => none }
def seqRowsRow : OpenClaim := { program := "ytlcnhmijagddgaa", sum := "764873d5706a92253cd6fee2b670df976ac3bba93d515a1bd37f7ea63612c2bc", func := "roundelay/roundelaylaw17.SeqRows", spec := "seqRows", unfollowed := true, recurses := true, apart := false }
def SeqRowsSaid : Prop := seqRowsRow.holds Try.pinned (OpenSpec.ofChange seqRowsSpec)

/-- ITS FALSE NEIGHBOUR: 'it returns false'. Refute it at one input. -/
def seqRowsWrong : ChangeSpec := { name := "seqRows", fn := fun _ => fun
  | [d] => { results := [.lit (.bool false)], args := [d] }
  | _ => none }
def SeqRowsWrongFalsely : Prop := seqRowsRow.holds Try.pinned (OpenSpec.ofChange seqRowsWrong)

/- THE SECOND FORM. 'bulk': how many values and letters a reading holds, each counted each time it is reached (what is shared counts as often as it is met; a slice's spare places count too). A statement '..UptoSaid' is the law's where the arguments, and the package variables that the reading takes, are together of bulk at most 1048576: NARROWER than '..Said'. Prove '..Said' where nothing that the law and all that it calls make is longer than what came in: it says more and counts as full. Else prove '..UptoSaid'. A law counts once. -/
mutual
def uptoBulk {H : Type} : DataW H → Nat
  | .lit (.string bytes) => bytes.length + 1
  | .lit _ => 1
  | .nil => 1
  | .ptr d => uptoBulk d + 1
  | .slice elems spare => uptoBulkAll elems + uptoBulkAll spare + 1
  | .agg parts => uptoBulkAll parts + 1
  | .iface _ d => uptoBulk d + 1
  | .map entries => uptoBulkEntries entries + 1
  | .held _ => 1
def uptoBulkAll {H : Type} : List (DataW H) → Nat
  | [] => 0
  | d :: r => uptoBulk d + uptoBulkAll r
def uptoBulkEntries {H : Type} : List (Lit × DataW H) → Nat
  | [] => 0
  | x :: r => uptoBulkEntry x + uptoBulkEntries r
def uptoBulkEntry {H : Type} : Lit × DataW H → Nat
  | (.string bytes, d) => bytes.length + uptoBulk d + 1
  | (_, d) => uptoBulk d + 1
 end
def uptoSmall : (H : Type) → List (DataW H) → Bool := fun _ ds => decide (uptoBulkAll ds ≤ 1048576)
def OpenSpec.upto (s : _root_.Go.ChangeSpec) : _root_.Go.OpenSpec := { _root_.Go.OpenSpec.ofChange s with cond := some uptoSmall }

/-- 'roundelaylaw17.SeqTypes', WHERE WHAT IT READS IS OF BULK AT MOST 1048576: true; the input reads as it did. -/
def seqTypesUptoRow : OpenClaim := { program := "ytlcnhmijagddgaa", sum := "764873d5706a92253cd6fee2b670df976ac3bba93d515a1bd37f7ea63612c2bc", func := "roundelay/roundelaylaw17.SeqTypes", spec := "seqTypes", unfollowed := true, recurses := true, apart := false, narrowed := true }
def SeqTypesUptoSaid : Prop := seqTypesUptoRow.holds Try.pinned (OpenSpec.upto seqTypesSpec)

/-- 'roundelaylaw17.SeqApplies', WHERE WHAT IT READS IS OF BULK AT MOST 1048576: true; the input reads as it did. -/
def seqAppliesUptoRow : OpenClaim := { program := "ytlcnhmijagddgaa", sum := "764873d5706a92253cd6fee2b670df976ac3bba93d515a1bd37f7ea63612c2bc", func := "roundelay/roundelaylaw17.SeqApplies", spec := "seqApplies", unfollowed := true, recurses := true, apart := false, narrowed := true }
def SeqAppliesUptoSaid : Prop := seqAppliesUptoRow.holds Try.pinned (OpenSpec.upto seqAppliesSpec)

/-- 'roundelaylaw17.SeqRows', WHERE WHAT IT READS IS OF BULK AT MOST 1048576: true; the input reads as it did. -/
def seqRowsUptoRow : OpenClaim := { program := "ytlcnhmijagddgaa", sum := "764873d5706a92253cd6fee2b670df976ac3bba93d515a1bd37f7ea63612c2bc", func := "roundelay/roundelaylaw17.SeqRows", spec := "seqRows", unfollowed := true, recurses := true, apart := false, narrowed := true }
def SeqRowsUptoSaid : Prop := seqRowsUptoRow.holds Try.pinned (OpenSpec.upto seqRowsSpec)

end Rows
end Go.Proofs.Ytlcnhmijagddgaa
