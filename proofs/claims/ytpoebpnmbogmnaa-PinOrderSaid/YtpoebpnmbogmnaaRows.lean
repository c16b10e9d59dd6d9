/-
  No cell of these rows narrows 'for every input' (looked for: loops, veiled, ifaces, maps, wideKeys, modest, calm, conditions, laid).
  DERIVED. THE GIVEN ROWS OF THIS SEAT. 10 by the template 'for every input the law returns true; each argument reads behind the call as it read before'; 0 by the template 'total and deterministic' (their statements: YtpoebpnmbogmnaaTotals.lean).
  GIVEN WITH THE SEED: the statements are not yours to turn. If you find one false, say at which input.
  Laid BY PROGRAM, IN A SANDBOX (cutbox-rows.mjs): the forced cells as the released guide's own fill.sh prints them over the translation a8d88697f3c28ea2… (all of the seat's roots in one cut). By AI agents, Wed Nov 11 2026. No macro, syntax, notation, axiom, sorry.
-/
import Derived.Test.YtpoebpnmbogmnaaChecked
import GoSem.Claim
import GoSem.ClaimJoined
import GoSem.ClaimMapViews
import Derived.JoinedTies
import Derived.KernelRfl
namespace Go.Proofs.Ytpoebpnmbogmnaa
/- THE CELL 'sum', in the pinned program and in every row, IS THE sha256 OF THE DUMP (.gsa) THAT YtpoebpnmbogmnaaProg.lean LOADS. Nothing in Lean hashes anything: it is a label: what it is worth is what the hold of that sum in a sandbox is worth. -/
noncomputable def Try.pinned : Pinned := { name := "ytpoebpnmbogmnaa", sum := "a8d88697f3c28ea2780060a1080c917a06b413e55c140d36e12863df137f9eb4", checked := Try.checked }
namespace Rows
def none {H : Type} : Left H := { results := [], args := [] }

/-- 'roundelaylaw10.MaxReads': WHATEVER THE INPUT: true; the input reads as it did. -/
def maxReadsSpec : ChangeSpec := { name := "maxReads", fn := fun _ => fun
  | [d1, d2, d3] => { results := [.lit (.bool true)], args := [d1, d2, d3] }
  | _ => none }
def maxReadsRow : OpenClaim := { program := "ytpoebpnmbogmnaa", sum := "a8d88697f3c28ea2780060a1080c917a06b413e55c140d36e12863df137f9eb4", func := "roundelay/roundelaylaw10.MaxReads", spec := "maxReads", unfollowed := true, recurses := true, apart := false }
def MaxReadsSaid : Prop := maxReadsRow.holds Try.pinned (OpenSpec.ofChange maxReadsSpec)

/-- ITS FALSE NEIGHBOUR: 'it returns false'. Refute it at one input. -/
def maxReadsWrong : ChangeSpec := { name := "maxReads", fn := fun _ => fun
  | [d1, d2, d3] => { results := [.lit (.bool false)], args := [d1, d2, d3] }
  | _ => none }
def MaxReadsWrongFalsely : Prop := maxReadsRow.holds Try.pinned (OpenSpec.ofChange maxReadsWrong)

/-- 'roundelaylaw10.MaxSteps': WHATEVER THE INPUT: true; the input reads as it did. -/
def maxStepsSpec : ChangeSpec := { name := "maxSteps", fn := fun _ => fun
  | [d1, d2, d3] => { results := [.lit (.bool true)], args := [d1, d2, d3] }
  | _ => none }
def maxStepsRow : OpenClaim := { program := "ytpoebpnmbogmnaa", sum := "a8d88697f3c28ea2780060a1080c917a06b413e55c140d36e12863df137f9eb4", func := "roundelay/roundelaylaw10.MaxSteps", spec := "maxSteps", unfollowed := true, recurses := true, apart := false }
def MaxStepsSaid : Prop := maxStepsRow.holds Try.pinned (OpenSpec.ofChange maxStepsSpec)

/-- ITS FALSE NEIGHBOUR: 'it returns false'. Refute it at one input. -/
def maxStepsWrong : ChangeSpec := { name := "maxSteps", fn := fun _ => fun
  | [d1, d2, d3] => { results := [.lit (.bool false)], args := [d1, d2, d3] }
  | _ => none }
def MaxStepsWrongFalsely : Prop := maxStepsRow.holds Try.pinned (OpenSpec.ofChange maxStepsWrong)

/-- 'roundelaylaw14.PinWhole': WHATEVER THE INPUT: true; the input reads as it did. -/
def pinWholeSpec : ChangeSpec := { name := "pinWhole", fn := fun _ => fun
  | [d1, d2, d3] => { results := [.lit (.bool true)], args := [d1, d2, d3] }
  | _ => none }
def pinWholeRow : OpenClaim := { program := "ytpoebpnmbogmnaa", sum := "a8d88697f3c28ea2780060a1080c917a06b413e55c140d36e12863df137f9eb4", func := "roundelay/roundelaylaw14.PinWhole", spec := "pinWhole", unfollowed := true, recurses := true, apart := false }
def PinWholeSaid : Prop := pinWholeRow.holds Try.pinned (OpenSpec.ofChange pinWholeSpec)

/-- ITS FALSE NEIGHBOUR: 'it returns false'. Refute it at one input. -/
def pinWholeWrong : ChangeSpec := { name := "pinWhole", fn := fun _ => fun
  | [d1, d2, d3] => { results := [.lit (.bool false)], args := [d1, d2, d3] }
  | _ => none }
def PinWholeWrongFalsely : Prop := pinWholeRow.holds Try.pinned (OpenSpec.ofChange pinWholeWrong)

/-- 'roundelaylaw14.PinSteps': WHATEVER THE INPUT: true; the input reads as it did. -/
def pinStepsSpec : ChangeSpec := { name := "pinSteps", fn := fun _ => fun
  | [d1, d2, d3] => { results := [.lit (.bool true)], args := [d1, d2, d3] }
  | _ => none }
def pinStepsRow : OpenClaim := { program := "ytpoebpnmbogmnaa", sum := "a8d88697f3c28ea2780060a1080c917a06b413e55c140d36e12863df137f9eb4", func := "roundelay/roundelaylaw14.PinSteps", spec := "pinSteps", unfollowed := true, recurses := true, apart := false }
def PinStepsSaid : Prop := pinStepsRow.holds Try.pinned (OpenSpec.ofChange pinStepsSpec)

/-- ITS FALSE NEIGHBOUR: 'it returns false'. Refute it at one input. -/
def pinStepsWrong : ChangeSpec := { name := "pinSteps", fn := fun _ => fun
  | [d1, d2, d3] => { results := [.lit (.bool false)], args := [d1, d2, d3] }
  | _ => none }
def PinStepsWrongFalsely : Prop := pinStepsRow.holds Try.pinned (OpenSpec.ofChange pinStepsWrong)

/-- 'roundelaylaw14.PinOrder': WHATEVER THE INPUT: true; the input reads as it did. -/
def pinOrderSpec : ChangeSpec := { name := "pinOrder", fn := fun _ => fun
  | [d1, d2, d3] => { results := [.lit (.bool true)], args := [d1, d2, d3] }
  | _ => none }
def pinOrderRow : OpenClaim := { program := "ytpoebpnmbogmnaa", sum := "a8d88697f3c28ea2780060a1080c917a06b413e55c140d36e12863df137f9eb4", func := "roundelay/roundelaylaw14.PinOrder", spec := "pinOrder", unfollowed := true, recurses := true, apart := false }
def PinOrderSaid : Prop := pinOrderRow.holds Try.pinned (OpenSpec.ofChange pinOrderSpec)

/-- ITS FALSE NEIGHBOUR: 'it returns false'. Refute it at one input. -/
def pinOrderWrong : ChangeSpec := { name := "pinOrder", fn := fun _ => fun
  | [d1, d2, d3] => { results := [.lit (.bool false)], args := [d1, d2, d3] }
  | _ => none }
def PinOrderWrongFalsely : Prop := pinOrderRow.holds Try.pinned (OpenSpec.ofChange pinOrderWrong)

/-- 'roundelaylaw15.SnapWhole': WHATEVER THE INPUT: true; the input reads as it did. -/
def snapWholeSpec : ChangeSpec := { name := "snapWhole", fn := fun _ => fun
  | [d1, d2, d3] => { results := [.lit (.bool true)], args := [d1, d2, d3] }
  | _ => none }
def snapWholeRow : OpenClaim := { program := "ytpoebpnmbogmnaa", sum := "a8d88697f3c28ea2780060a1080c917a06b413e55c140d36e12863df137f9eb4", func := "roundelay/roundelaylaw15.SnapWhole", spec := "snapWhole", unfollowed := true, recurses := true, apart := false }
def SnapWholeSaid : Prop := snapWholeRow.holds Try.pinned (OpenSpec.ofChange snapWholeSpec)

/-- ITS FALSE NEIGHBOUR: 'it returns false'. Refute it at one input. -/
def snapWholeWrong : ChangeSpec := { name := "snapWhole", fn := fun _ => fun
  | [d1, d2, d3] => { results := [.lit (.bool false)], args := [d1, d2, d3] }
  | _ => none }
def SnapWholeWrongFalsely : Prop := snapWholeRow.holds Try.pinned (OpenSpec.ofChange snapWholeWrong)

/-- 'roundelaylaw15.SnapSteps': WHATEVER THE INPUT: true; the input reads as it did. -/
def snapStepsSpec : ChangeSpec := { name := "snapSteps", fn := fun _ => fun
  | [d1, d2, d3] => { results := [.lit (.bool true)], args := [d1, d2, d3] }
  | _ => none }
def snapStepsRow : OpenClaim := { program := "ytpoebpnmbogmnaa", sum := "a8d88697f3c28ea2780060a1080c917a06b413e55c140d36e12863df137f9eb4", func := "roundelay/roundelaylaw15.SnapSteps", spec := "snapSteps", unfollowed := true, recurses := true, apart := false }
def SnapStepsSaid : Prop := snapStepsRow.holds Try.pinned (OpenSpec.ofChange snapStepsSpec)

/-- ITS FALSE NEIGHBOUR: 'it returns false'. Refute it at one input. -/
def snapStepsWrong : ChangeSpec := { name := "snapSteps", fn := fun _ => fun
  | [d1, d2, d3] => { results := [.lit (.bool false)], args := [d1, d2, d3] }
  | _ => none }
def SnapStepsWrongFalsely : Prop := snapStepsRow.holds Try.pinned (OpenSpec.ofChange snapStepsWrong)

/-- 'roundelaylaw15.SnapRows': WHATEVER THE INPUT: true; the input reads as it did. -/
def snapRowsSpec : ChangeSpec := { name := "snapRows", fn := fun _ => fun
  | [d1, d2, d3] => { results := [.lit (.bool true)], args := [d1, d2, d3] }
  | _ => none }
def snapRowsRow : OpenClaim := { program := "ytpoebpnmbogmnaa", sum := "a8d88697f3c28ea2780060a1080c917a06b413e55c140d36e12863df137f9eb4", func := "roundelay/roundelaylaw15.SnapRows", spec := "snapRows", unfollowed := true, recurses := true, apart := false }
def SnapRowsSaid : Prop := snapRowsRow.holds Try.pinned (OpenSpec.ofChange snapRowsSpec)

/-- ITS FALSE NEIGHBOUR: 'it returns false'. Refute it at one input. -/
def snapRowsWrong : ChangeSpec := { name := "snapRows", fn := fun _ => fun
  | [d1, d2, d3] => { results := [.lit (.bool false)], args := [d1, d2, d3] }
  | _ => none }
def SnapRowsWrongFalsely : Prop := snapRowsRow.holds Try.pinned (OpenSpec.ofChange snapRowsWrong)

/-- 'roundelaylaw16.MultiWhole': WHATEVER THE INPUT: true; the input reads as it did. -/
def multiWholeSpec : ChangeSpec := { name := "multiWhole", fn := fun _ => fun
  | [d1, d2, d3] => { results := [.lit (.bool true)], args := [d1, d2, d3] }
  | _ => none }
def multiWholeRow : OpenClaim := { program := "ytpoebpnmbogmnaa", sum := "a8d88697f3c28ea2780060a1080c917a06b413e55c140d36e12863df137f9eb4", func := "roundelay/roundelaylaw16.MultiWhole", spec := "multiWhole", unfollowed := true, recurses := true, apart := false }
def MultiWholeSaid : Prop := multiWholeRow.holds Try.pinned (OpenSpec.ofChange multiWholeSpec)

/-- ITS FALSE NEIGHBOUR: 'it returns false'. Refute it at one input. -/
def multiWholeWrong : ChangeSpec := { name := "multiWhole", fn := fun _ => fun
  | [d1, d2, d3] => { results := [.lit (.bool false)], args := [d1, d2, d3] }
  | _ => none }
def MultiWholeWrongFalsely : Prop := multiWholeRow.holds Try.pinned (OpenSpec.ofChange multiWholeWrong)

/-- 'roundelaylaw16.MultiSteps': WHATEVER THE INPUT: true; the input reads as it did. -/
def multiStepsSpec : ChangeSpec := { name := "multiSteps", fn := fun _ => fun
  | [d1, d2, d3] => { results := [.lit (.bool true)], args := [d1, d2, d3] }
  | _ => none }
def multiStepsRow : OpenClaim := { program := "ytpoebpnmbogmnaa", sum := "a8d88697f3c28ea2780060a1080c917a06b413e55c140d36e12863df137f9eb4", func := "roundelay/roundelaylaw16.MultiSteps", spec := "multiSteps", unfollowed := true, recurses := true, apart := false }
def MultiStepsSaid : Prop := multiStepsRow.holds Try.pinned (OpenSpec.ofChange multiStepsSpec)

/-- ITS FALSE NEIGHBOUR: 'it returns false'. Refute it at one input. -/
def multiStepsWrong : ChangeSpec := { name := "multiSteps", fn := fun _ => fun
  | [d1, d2, d3] => { results := [.lit (.bool false)], args := [d1, d2, d3] }
  | _ => none }
def MultiStepsWrongFalsely : Prop := multiStepsRow.holds Try.pinned (OpenSpec.ofChange multiStepsWrong)

/- THE SECOND FORM. 'bulk': how many values and letters a reading holds, each counted each time it is reached (what is shared counts as often as it is met; a slice's spare places count too). A statement '..UptoSaid' is the law's where the arguments, and the package variables that the reading takes, are together of bulk at most 1048576: NARROWER than '..Said'. Prove '..Said' where nothing that the law and all that it calls make is longer than what came in: it says more and counts as full. Else prove '..UptoSaid'. A law counts once. -/
mutual
def uptoBulk {H : Type} : DataW H → Nat
  | .lit (.string bytes) => bytes.length + 1
  | .lit _ => 1
  | .nil => 1
  | .ptr d => uptoBulk d + 1
  | .slice elems spare => uptoBulkAll elems + uptoBulkAll spare + 1
  | .agg parts => uptoBulkAll parts + 1
  | .iface _ d => uptoBulk d + 1
  | .map entries => uptoBulkEntries entries + 1
  | .held _ => 1
def uptoBulkAll {H : Type} : List (DataW H) → Nat
  | [] => 0
  | d :: r => uptoBulk d + uptoBulkAll r
def uptoBulkEntries {H : Type} : List (Lit × DataW H) → Nat
  | [] => 0
  | x :: r => uptoBulkEntry x + uptoBulkEntries r
def uptoBulkEntry {H : Type} : Lit × DataW H → Nat
  | (.string bytes, d) => bytes.length + uptoBulk d + 1
  | (_, d) => uptoBulk d + 1
 end
def uptoSmall : (H : Type) → List (DataW H) → Bool := fun _ ds => decide (uptoBulkAll ds ≤ 1048576)
def OpenSpec.upto (s : _root_.Go.ChangeSpec) : _root_.Go.OpenSpec := { _root_.Go.OpenSpec.ofChange s with cond := some uptoSmall }

/-- 'roundelaylaw10.MaxReads', WHERE WHAT IT READS IS OF BULK AT MOST 1048576: true; the input reads as it did. -/
def maxReadsUptoRow : OpenClaim := { program := "ytpoebpnmbogmnaa", sum := "a8d88697f3c28ea2780060a1080c917a06b413e55c140d36e12863df137f9eb4", func := "roundelay/roundelaylaw10.MaxReads", spec := "maxReads", unfollowed := true, recurses := true, apart := false, narrowed := true }
def MaxReadsUptoSaid : Prop := maxReadsUptoRow.holds Try.pinned (OpenSpec.upto maxReadsSpec)

/-- 'roundelaylaw10.MaxSteps', WHERE WHAT IT READS IS OF BULK AT MOST 1048576: true; the input reads as it did. -/
def maxStepsUptoRow : OpenClaim := { program := "ytpoebpnmbogmnaa", sum := "a8d88697f3c28ea2780060a1080c917a06b413e55c140d36e12863df137f9eb4", func := "roundelay/roundelaylaw10.MaxSteps", spec := "maxSteps", unfollowed := true, recurses := true, apart := false, narrowed := true }
def MaxStepsUptoSaid : Prop := maxStepsUptoRow.holds Try.pinned (OpenSpec.upto maxStepsSpec)

/-- 'roundelaylaw14.PinWhole', WHERE WHAT IT READS IS OF BULK AT MOST 1048576: true; the input reads as it did. -/
def pinWholeUptoRow : OpenClaim := { program := "ytpoebpnmbogmnaa", sum := "a8d88697f3c28ea2780060a1080c917a06b413e55c140d36e12863df137f9eb4", func := "roundelay/roundelaylaw14.PinWhole", spec := "pinWhole", unfollowed := true, recurses := true, apart := false, narrowed := true }
def PinWholeUptoSaid : Prop := pinWholeUptoRow.holds Try.pinned (OpenSpec.upto pinWholeSpec)

/-- 'roundelaylaw14.PinSteps', WHERE WHAT IT READS IS OF BULK AT MOST 1048576: true; the input reads as it did. -/
def pinStepsUptoRow : OpenClaim := { program := "ytpoebpnmbogmnaa", sum := "a8d88697f3c28ea2780060a1080c917a06b413e55c140d36e12863df137f9eb4", func := "roundelay/roundelaylaw14.PinSteps", spec := "pinSteps", unfollowed := true, recurses := true, apart := false, narrowed := true }
def PinStepsUptoSaid : Prop := pinStepsUptoRow.holds Try.pinned (OpenSpec.upto pinStepsSpec)

/-- 'roundelaylaw14.PinOrder', WHERE WHAT IT READS IS OF BULK AT MOST 1048576: true; the input reads as it did. -/
def pinOrderUptoRow : OpenClaim := { program := "ytpoebpnmbogmnaa", sum := "a8d88697f3c28ea2780060a1080c917a06b413e55c140d36e12863df137f9eb4", func := "roundelay/roundelaylaw14.PinOrder", spec := "pinOrder", unfollowed := true, recurses := true, apart := false, narrowed := true }
def PinOrderUptoSaid : Prop := pinOrderUptoRow.holds Try.pinned (OpenSpec.upto pinOrderSpec)

/-- 'roundelaylaw15.SnapWhole', WHERE WHAT IT READS IS OF BULK AT MOST 1048576: true; the input reads as it did. -/
def snapWholeUptoRow : OpenClaim := { program := "ytpoebpnmbogmnaa", sum := "a8d88697f3c28ea2780060a1080c917a06b413e55c140d36e12863df137f9eb4", func := "roundelay/roundelaylaw15.SnapWhole", spec := "snapWhole", unfollowed := true, recurses := true, apart := false, narrowed := true }
def SnapWholeUptoSaid : Prop := snapWholeUptoRow.holds Try.pinned (OpenSpec.upto snapWholeSpec)

/-- 'roundelaylaw15.SnapSteps', WHERE WHAT IT READS IS OF BULK AT MOST 1048576: true; the input reads as it did. -/
def snapStepsUptoRow : OpenClaim := { program := "ytpoebpnmbogmnaa", sum := "a8d88697f3c28ea2780060a1080c917a06b413e55c140d36e12863df137f9eb4", func := "roundelay/roundelaylaw15.SnapSteps", spec := "snapSteps", unfollowed := true, recurses := true, apart := false, narrowed := true }
def SnapStepsUptoSaid : Prop := snapStepsUptoRow.holds Try.pinned (OpenSpec.upto snapStepsSpec)

/-- 'roundelaylaw15.SnapRows', WHERE WHAT IT READS IS OF BULK AT MOST 1048576: true; the input reads as it did. -/
def snapRowsUptoRow : OpenClaim := { program := "ytpoebpnmbogmnaa", sum := "a8d88697f3c28ea2780060a1080c917a06b413e55c140d36e12863df137f9eb4", func := "roundelay/roundelaylaw15.SnapRows", spec := "snapRows", unfollowed := true, recurses := true, apart := false, narrowed := true }
def SnapRowsUptoSaid : Prop := snapRowsUptoRow.holds Try.pinned (OpenSpec.upto snapRowsSpec)

/-- 'roundelaylaw16.MultiWhole', WHERE WHAT IT READS IS OF BULK AT MOST 1048576: true; the input reads as it did. -/
def multiWholeUptoRow : OpenClaim := { program := "ytpoebpnmbogmnaa", sum := "a8d88697f3c28ea2780060a1080c917a06b413e55c140d36e12863df137f9eb4", func := "roundelay/roundelaylaw16.MultiWhole", spec := "multiWhole", unfollowed := true, recurses := true, apart := false, narrowed := true }
def MultiWholeUptoSaid : Prop := multiWholeUptoRow.holds Try.pinned (OpenSpec.upto multiWholeSpec)

/-- 'roundelaylaw16.MultiSteps', WHERE WHAT IT READS IS OF BULK AT MOST 1048576: true; the input reads as it did. -/
def multiStepsUptoRow : OpenClaim := { program := "ytpoebpnmbogmnaa", sum := "a8d88697f3c28ea2780060a1080c917a06b413e55c140d36e12863df137f9eb4", func := "roundelay/roundelaylaw16.MultiSteps", spec := "multiSteps", unfollowed := true, recurses := true, apart := false, narrowed := true }
def MultiStepsUptoSaid : Prop := multiStepsUptoRow.holds Try.pinned (OpenSpec.upto multiStepsSpec)

end Rows
end Go.Proofs.Ytpoebpnmbogmnaa
