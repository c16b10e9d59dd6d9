/-
  No cell of these rows narrows 'for every input' (looked for: loops, veiled, ifaces, maps, wideKeys, modest, calm, conditions, laid).
  DERIVED. THE GIVEN ROWS OF THIS SEAT. 7 by the template 'for every input the law returns true; each argument reads behind the call as it read before'; 0 by the template 'total and deterministic' (their statements: YtebfkkgemccbfaaTotals.lean).
  GIVEN WITH THE SEED: the statements are not yours to turn. If you find one false, say at which input.
  Laid BY PROGRAM, IN A SANDBOX (cutbox-rows.mjs): the forced cells as the released guide's own fill.sh prints them over the translation 2a5e7c98dfb45b25… (all of the seat's roots in one cut). By AI agents, Wed Nov 11 2026. No macro, syntax, notation, axiom, sorry.
-/
import Derived.Test.YtebfkkgemccbfaaChecked
import GoSem.Claim
import GoSem.ClaimJoined
import GoSem.ClaimMapViews
import Derived.JoinedTies
import Derived.KernelRfl
namespace Go.Proofs.Ytebfkkgemccbfaa
/- THE CELL 'sum', in the pinned program and in every row, IS THE sha256 OF THE DUMP (.gsa) THAT YtebfkkgemccbfaaProg.lean LOADS. Nothing in Lean hashes anything: it is a label: what it is worth is what the hold of that sum in a sandbox is worth. -/
noncomputable def Try.pinned : Pinned := { name := "ytebfkkgemccbfaa", sum := "2a5e7c98dfb45b257522ee11a93f7c3e33037f79895ceba37f39053734807fa4", checked := Try.checked }
namespace Rows
def none {H : Type} : Left H := { results := [], args := [] }

/-- 'roundelaylaw10.MaxReads': WHATEVER THE INPUT: true; the input reads as it did. -/
def maxReadsSpec : ChangeSpec := { name := "maxReads", fn := fun _ => fun
  | [d1, d2, d3] => { results := [.lit (.bool true)], args := [d1, d2, d3] }
  | _ => none }
def maxReadsRow : OpenClaim := { program := "ytebfkkgemccbfaa", sum := "2a5e7c98dfb45b257522ee11a93f7c3e33037f79895ceba37f39053734807fa4", func := "roundelay/roundelaylaw10.MaxReads", spec := "maxReads", unfollowed := true, recurses := true, apart := false }
def MaxReadsSaid : Prop := maxReadsRow.holds Try.pinned (OpenSpec.ofChange maxReadsSpec)

/-- ITS FALSE NEIGHBOUR: 'it returns false'. Refute it at one input. -/
def maxReadsWrong : ChangeSpec := { name := "maxReads", fn := fun _ => fun
  | [d1, d2, d3] => { results := [.lit (.bool false)], args := [d1, d2, d3] }
  | _ => none }
def MaxReadsWrongFalsely : Prop := maxReadsRow.holds Try.pinned (OpenSpec.ofChange maxReadsWrong)

/-- 'roundelaylaw10.MaxSteps': WHATEVER THE INPUT: true; the input reads as it did. -/
def maxStepsSpec : ChangeSpec := { name := "maxSteps", fn := fun _ => fun
  | [d1, d2, d3] => { results := [.lit (.bool true)], args := [d1, d2, d3] }
  | _ => none }
def maxStepsRow : OpenClaim := { program := "ytebfkkgemccbfaa", sum := "2a5e7c98dfb45b257522ee11a93f7c3e33037f79895ceba37f39053734807fa4", func := "roundelay/roundelaylaw10.MaxSteps", spec := "maxSteps", unfollowed := true, recurses := true, apart := false }
def MaxStepsSaid : Prop := maxStepsRow.holds Try.pinned (OpenSpec.ofChange maxStepsSpec)

/-- ITS FALSE NEIGHBOUR: 'it returns false'. Refute it at one input. -/
def maxStepsWrong : ChangeSpec := { name := "maxSteps", fn := fun _ => fun
  | [d1, d2, d3] => { results := [.lit (.bool false)], args := [d1, d2, d3] }
  | _ => none }
def MaxStepsWrongFalsely : Prop := maxStepsRow.holds Try.pinned (OpenSpec.ofChange maxStepsWrong)

/-- 'roundelaylaw13.PoolOnce': WHATEVER THE INPUT: true; the input reads as it did. -/
def poolOnceSpec : ChangeSpec := { name := "poolOnce", fn := fun _ => fun
  | [d1, d2, d3] => { results := [.lit (.bool true)], args := [d1, d2, d3] }
  | _ => none }
def poolOnceRow : OpenClaim := { program := "ytebfkkgemccbfaa", sum := "2a5e7c98dfb45b257522ee11a93f7c3e33037f79895ceba37f39053734807fa4", func := "roundelay/roundelaylaw13.PoolOnce", spec := "poolOnce", unfollowed := true, recurses := true, apart := false }
def PoolOnceSaid : Prop := poolOnceRow.holds Try.pinned (OpenSpec.ofChange poolOnceSpec)

/-- ITS FALSE NEIGHBOUR: 'it returns false'. Refute it at one input. -/
def poolOnceWrong : ChangeSpec := { name := "poolOnce", fn := fun _ => fun
  | [d1, d2, d3] => { results := [.lit (.bool false)], args := [d1, d2, d3] }
  | _ => none }
def PoolOnceWrongFalsely : Prop := poolOnceRow.holds Try.pinned (OpenSpec.ofChange poolOnceWrong)

/-- 'roundelaylaw13.PoolFull': WHATEVER THE INPUT: true; the input reads as it did. -/
def poolFullSpec : ChangeSpec := { name := "poolFull", fn := fun _ => fun
  | [d1, d2, d3] => { results := [.lit (.bool true)], args := [d1, d2, d3] }
  | _ => none }
def poolFullRow : OpenClaim := { program := "ytebfkkgemccbfaa", sum := "2a5e7c98dfb45b257522ee11a93f7c3e33037f79895ceba37f39053734807fa4", func := "roundelay/roundelaylaw13.PoolFull", spec := "poolFull", unfollowed := true, recurses := true, apart := false }
def PoolFullSaid : Prop := poolFullRow.holds Try.pinned (OpenSpec.ofChange poolFullSpec)

/-- ITS FALSE NEIGHBOUR: 'it returns false'. Refute it at one input. -/
def poolFullWrong : ChangeSpec := { name := "poolFull", fn := fun _ => fun
  | [d1, d2, d3] => { results := [.lit (.bool false)], args := [d1, d2, d3] }
  | _ => none }
def PoolFullWrongFalsely : Prop := poolFullRow.holds Try.pinned (OpenSpec.ofChange poolFullWrong)

/-- 'roundelaylaw14.PinWhole': WHATEVER THE INPUT: true; the input reads as it did. -/
def pinWholeSpec : ChangeSpec := { name := "pinWhole", fn := fun _ => fun
  | [d1, d2, d3] => { results := [.lit (.bool true)], args := [d1, d2, d3] }
  | _ => none }
def pinWholeRow : OpenClaim := { program := "ytebfkkgemccbfaa", sum := "2a5e7c98dfb45b257522ee11a93f7c3e33037f79895ceba37f39053734807fa4", func := "roundelay/roundelaylaw14.PinWhole", spec := "pinWhole", unfollowed := true, recurses := true, apart := false }
def PinWholeSaid : Prop := pinWholeRow.holds Try.pinned (OpenSpec.ofChange pinWholeSpec)

/-- ITS FALSE NEIGHBOUR: 'it returns false'. Refute it at one input. -/
def pinWholeWrong : ChangeSpec := { name := "pinWhole", fn := fun _ => fun
  | [d1, d2, d3] => { results := [.lit (.bool false)], args := [d1, d2, d3] }
  | _ => none }
def PinWholeWrongFalsely : Prop := pinWholeRow.holds Try.pinned (OpenSpec.ofChange pinWholeWrong)

/-- 'roundelaylaw14.PinSteps': WHATEVER THE INPUT: true; the input reads as it did. -/
def pinStepsSpec : ChangeSpec := { name := "pinSteps", fn := fun _ => fun
  | [d1, d2, d3] => { results := [.lit (.bool true)], args := [d1, d2, d3] }
  | _ => none }
def pinStepsRow : OpenClaim := { program := "ytebfkkgemccbfaa", sum := "2a5e7c98dfb45b257522ee11a93f7c3e33037f79895ceba37f39053734807fa4", func := "roundelay/roundelaylaw14.PinSteps", spec := "pinSteps", unfollowed := true, recurses := true, apart := false }
def PinStepsSaid : Prop := pinStepsRow.holds Try.pinned (OpenSpec.ofChange pinStepsSpec)

/-- ITS FALSE NEIGHBOUR: 'it returns false'. Refute it at one input. -/
def pinStepsWrong : ChangeSpec := { name := "pinSteps", fn := fun _ => fun
  | [d1, d2, d3] => { results := [.lit (.bool false)], args := [d1, d2, d3] }
  | _ => none }
def PinStepsWrongFalsely : Prop := pinStepsRow.holds Try.pinned (OpenSpec.ofChange pinStepsWrong)

/-- 'roundelaylaw14.PinOrder': WHATEVER THE INPUT: true; the input reads as it did. -/
def pinOrderSpec : ChangeSpec := { name := "pinOrder", fn := fun _ => fun
  | [d1, d2, d3] => { results := [.lit (.bool true)], args := [d1, d2, d3] }
  | _ => none }
def pinOrderRow : OpenClaim := { program := "ytebfkkgemccbfaa", sum := "2a5e7c98dfb45b257522ee11a93f7c3e33037f79895ceba37f39053734807fa4", func := "roundelay/roundelaylaw14.PinOrder", spec := "pinOrder", unfollowed := true, recurses := true, apart := false }
def PinOrderSaid : Prop := pinOrderRow.holds Try.pinned (OpenSpec.ofChange pinOrderSpec)

/-- ITS FALSE NEIGHBOUR: 'it returns false'. Refute it at one input. -/
def pinOrderWrong : ChangeSpec := { name := "pinOrder", fn := fun _ => fun
  | [d1, d2, d3] => { results := [.lit (.bool false)], args := [d1, d2, d3] }
  | _ => none }
def PinOrderWrongFalsely : Prop := pinOrderRow.holds Try.pinned (OpenSpec.ofChange pinOrderWrong)

/- THE SECOND FORM. 'bulk': how many values and letters a reading holds, each counted each time it is reached (what is shared counts as often as it is met; a slice's spare places count too). A statement '..UptoSaid' is the law's where the arguments, and the package variables that the reading takes, are together of bulk at most 1048576: NARROWER than '..Said'. Prove '..Said' where nothing that the law and all that it calls make is longer than what came in: it says more and counts as full. Else prove '..UptoSaid'. A law counts once. -/
mutual
def uptoBulk {H : Type} : DataW H → Nat
  | .lit (.string bytes) => bytes.length + 1
  | .lit _ => 1
  | .nil => 1
  | .ptr d => uptoBulk d + 1
  | .slice elems spare => uptoBulkAll elems + uptoBulkAll spare + 1
  | .agg parts => uptoBulkAll parts + 1
  | .iface _ d => uptoBulk d + 1
  | .map entries => uptoBulkEntries entries + 1
  | .held _ => 1
def uptoBulkAll {H : Type} : List (DataW H) → Nat
  | [] => 0
  | d :: r => uptoBulk d + uptoBulkAll r
def uptoBulkEntries {H : Type} : List (Lit × DataW H) → Nat
  | [] => 0
  | x :: r => uptoBulkEntry x + uptoBulkEntries r
def uptoBulkEntry {H : Type} : Lit × DataW H → Nat
  | (.string bytes, d) => bytes.length + uptoBulk d + 1
  | (_, d) => uptoBulk d + 1
 end
def uptoSmall : (H : Type) → List (DataW H) → Bool := fun _ ds => decide (uptoBulkAll ds ≤ 1048576)
def OpenSpec.upto (s : _root_.Go.ChangeSpec) : _root_.Go.OpenSpec := { _root_.Go.OpenSpec.ofChange s with cond := some uptoSmall }

/-- 'roundelaylaw10.MaxReads', WHERE WHAT IT READS IS OF BULK AT MOST 1048576: true; the input reads as it did. -/
def maxReadsUptoRow : OpenClaim := { program := "ytebfkkgemccbfaa", sum := "2a5e7c98dfb45b257522ee11a93f7c3e33037f79895ceba37f39053734807fa4", func := "roundelay/roundelaylaw10.MaxReads", spec := "maxReads", unfollowed := true, recurses := true, apart := false, narrowed := true }
def MaxReadsUptoSaid : Prop := maxReadsUptoRow.holds Try.pinned (OpenSpec.upto maxReadsSpec)

/-- 'roundelaylaw10.MaxSteps', WHERE WHAT IT READS IS OF BULK AT MOST 1048576: true; the input reads as it did. -/
def maxStepsUptoRow : OpenClaim := { program := "ytebfkkgemccbfaa", sum := "2a5e7c98dfb45b257522ee11a93f7c3e33037f79895ceba37f39053734807fa4", func := "roundelay/roundelaylaw10.MaxSteps", spec := "maxSteps", unfollowed := true, recurses := true, apart := false, narrowed := true }
def MaxStepsUptoSaid : Prop := maxStepsUptoRow.holds Try.pinned (OpenSpec.upto maxStepsSpec)

/-- 'roundelaylaw13.PoolOnce', WHERE WHAT IT READS IS OF BULK AT MOST 1048576: true; the input reads as it did. -/
def poolOnceUptoRow : OpenClaim := { program := "ytebfkkgemccbfaa", sum := "2a5e7c98dfb45b257522ee11a93f7c3e33037f79895ceba37f39053734807fa4", func := "roundelay/roundelaylaw13.PoolOnce", spec := "poolOnce", unfollowed := true, recurses := true, apart := false, narrowed := true }
def PoolOnceUptoSaid : Prop := poolOnceUptoRow.holds Try.pinned (OpenSpec.upto poolOnceSpec)

/-- 'roundelaylaw13.PoolFull', WHERE WHAT IT READS IS OF BULK AT MOST 1048576: true; the input reads as it did. -/
def poolFullUptoRow : OpenClaim := { program := "ytebfkkgemccbfaa", sum := "2a5e7c98dfb45b257522ee11a93f7c3e33037f79895ceba37f39053734807fa4", func := "roundelay/roundelaylaw13.PoolFull", spec := "poolFull", unfollowed := true, recurses := true, apart := false, narrowed := true }
def PoolFullUptoSaid : Prop := poolFullUptoRow.holds Try.pinned (OpenSpec.upto poolFullSpec)

/-- 'roundelaylaw14.PinWhole', WHERE WHAT IT READS IS OF BULK AT MOST 1048576: true; the input reads as it did. -/
def pinWholeUptoRow : OpenClaim := { program := "ytebfkkgemccbfaa", sum := "2a5e7c98dfb45b257522ee11a93f7c3e33037f79895ceba37f39053734807fa4", func := "roundelay/roundelaylaw14.PinWhole", spec := "pinWhole", unfollowed := true, recurses := true, apart := false, narrowed := true }
def PinWholeUptoSaid : Prop := pinWholeUptoRow.holds Try.pinned (OpenSpec.upto pinWholeSpec)

/-- 'roundelaylaw14.PinSteps', WHERE WHAT IT READS IS OF BULK AT MOST 1048576: true; the input reads as it did. -/
def pinStepsUptoRow : OpenClaim := { program := "ytebfkkgemccbfaa", sum := "2a5e7c98dfb45b257522ee11a93f7c3e33037f79895ceba37f39053734807fa4", func := "roundelay/roundelaylaw14.PinSteps", spec := "pinSteps", unfollowed := true, recurses := true, apart := false, narrowed := true }
def PinStepsUptoSaid : Prop := pinStepsUptoRow.holds Try.pinned (OpenSpec.upto pinStepsSpec)

/-- 'roundelaylaw14.PinOrder', WHERE WHAT IT READS IS OF BULK AT MOST 1048576: true; the input reads as it did. -/
def pinOrderUptoRow : OpenClaim := { program := "ytebfkkgemccbfaa", sum := "2a5e7c98dfb45b257522ee11a93f7c3e33037f79895ceba37f39053734807fa4", func := "roundelay/roundelaylaw14.PinOrder", spec := "pinOrder", unfollowed := true, recurses := true, apart := false, narrowed := true }
def PinOrderUptoSaid : Prop := pinOrderUptoRow.holds Try.pinned (OpenSpec.upto pinOrderSpec)

end Rows
end Go.Proofs.Ytebfkkgemccbfaa
