/-
  No cell of these rows narrows 'for every input' (looked for: loops, veiled, ifaces, maps, wideKeys, modest, calm, conditions, laid).
  DERIVED. THE GIVEN ROWS OF THIS SEAT. 3 by the template 'for every input the law returns true; each argument reads behind the call as it read before'; 0 by the template 'total and deterministic' (their statements: YthacohejdpjjeaaTotals.lean).
  GIVEN WITH THE SEED: the statements are not yours to turn. If you find one false, say at which input.
  Laid BY PROGRAM, IN A SANDBOX (cutbox-rows.mjs): the forced cells as the released guide's own fill.sh prints them over the translation 088c0672c2f28be1… (all of the seat's roots in one cut). By AI agents, Wed Nov 11 2026. No macro, syntax, notation, axiom, sorry.
-/
import Derived.Test.YthacohejdpjjeaaChecked
import GoSem.Claim
import GoSem.ClaimJoined
import GoSem.ClaimMapViews
import Derived.JoinedTies
import Derived.KernelRfl
namespace Go.Proofs.Ythacohejdpjjeaa
/- THE CELL 'sum', in the pinned program and in every row, IS THE sha256 OF THE DUMP (.gsa) THAT YthacohejdpjjeaaProg.lean LOADS. Nothing in Lean hashes anything: it is a label: what it is worth is what the hold of that sum in a sandbox is worth. -/
noncomputable def Try.pinned : Pinned := { name := "ythacohejdpjjeaa", sum := "088c0672c2f28be10099cd0106187b1e1cc4a272d35ec7a5ed965cdc0b3c1738", checked := Try.checked }
namespace Rows
def none {H : Type} : Left H := { results := [], args := [] }

/-- 'roundelaylaw36.CutTicks': WHATEVER THE INPUT: true; the input reads as it did. -/
def cutTicksSpec : ChangeSpec := { name := "cutTicks", fn := fun _ => fun
  | [d1, d2] => { results := [.lit (.bool true)], args := [d1, d2] }
  | _ => none }
def cutTicksRow : OpenClaim := { program := "ythacohejdpjjeaa", sum := "088c0672c2f28be10099cd0106187b1e1cc4a272d35ec7a5ed965cdc0b3c1738", func := "roundelay/roundelaylaw36.CutTicks", spec := "cutTicks", apart := false }
def CutTicksSaid : Prop := cutTicksRow.holds Try.pinned (OpenSpec.ofChange cutTicksSpec)

/-- ITS FALSE NEIGHBOUR: 'it returns false'. Refute it at one input. -/
def cutTicksWrong : ChangeSpec := { name := "cutTicks", fn := fun _ => fun
  | [d1, d2] => { results := [.lit (.bool false)], args := [d1, d2] }
  | _ => none }
def CutTicksWrongFalsely : Prop := cutTicksRow.holds Try.pinned (OpenSpec.ofChange cutTicksWrong)

/-- 'roundelaylaw36.CutAt': WHATEVER THE INPUT: true; the input reads as it did. -/
def cutAtSpec : ChangeSpec := { name := "cutAt", fn := fun _ => fun
  | [d1, d2, d3] => { results := [.lit (.bool true)], args := [d1, d2, d3] }
  | _ => none }
def cutAtRow : OpenClaim := { program := "ythacohejdpjjeaa", sum := "088c0672c2f28be10099cd0106187b1e1cc4a272d35ec7a5ed965cdc0b3c1738", func := "roundelay/roundelaylaw36.CutAt", spec := "cutAt", apart := false }
def CutAtSaid : Prop := cutAtRow.holds Try.pinned (OpenSpec.ofChange cutAtSpec)

/-- ITS FALSE NEIGHBOUR: 'it returns false'. Refute it at one input. -/
def cutAtWrong : ChangeSpec := { name := "cutAt", fn := fun _ => fun
  | [d1, d2, d3] => { results := [.lit (.bool false)], args := [d1, d2, d3] }
  | _ => none }
def CutAtWrongFalsely : Prop := cutAtRow.holds Try.pinned (OpenSpec.ofChange cutAtWrong)

/-- 'roundelaylaw33.TextReports': WHATEVER THE INPUT: true; the input reads as it did. -/
def textReportsSpec : ChangeSpec := { name := "textReports", fn := fun _ => fun
  | [d1, d2] => { results := [.lit (.bool true)], args := [d1, d2] }
  | _ => none }
def textReportsRow : OpenClaim := { program := "ythacohejdpjjeaa", sum := "088c0672c2f28be10099cd0106187b1e1cc4a272d35ec7a5ed965cdc0b3c1738", func := "roundelay/roundelaylaw33.TextReports", spec := "textReports", unfollowed := true, recurses := true, apart := false }
def TextReportsSaid : Prop := textReportsRow.holds Try.pinned (OpenSpec.ofChange textReportsSpec)

/-- ITS FALSE NEIGHBOUR: 'it returns false'. Refute it at one input. -/
def textReportsWrong : ChangeSpec := { name := "textReports", fn := fun _ => fun
  | [d1, d2] => { results := [.lit (.bool false)], args := [d1, d2] }
  | _ => none }
def TextReportsWrongFalsely : Prop := textReportsRow.holds Try.pinned (OpenSpec.ofChange textReportsWrong)

/- THE SECOND FORM. 'bulk': how many values and letters a reading holds, each counted each time it is reached (what is shared counts as often as it is met; a slice's spare places count too). A statement '..UptoSaid' is the law's where the arguments, and the package variables that the reading takes, are together of bulk at most 1048576: NARROWER than '..Said'. Prove '..Said' where nothing that the law and all that it calls make is longer than what came in: it says more and counts as full. Else prove '..UptoSaid'. A law counts once. -/
mutual
def uptoBulk {H : Type} : DataW H → Nat
  | .lit (.string bytes) => bytes.length + 1
  | .lit _ => 1
  | .nil => 1
  | .ptr d => uptoBulk d + 1
  | .slice elems spare => uptoBulkAll elems + uptoBulkAll spare + 1
  | .agg parts => uptoBulkAll parts + 1
  | .iface _ d => uptoBulk d + 1
  | .map entries => uptoBulkEntries entries + 1
  | .held _ => 1
def uptoBulkAll {H : Type} : List (DataW H) → Nat
  | [] => 0
  | d :: r => uptoBulk d + uptoBulkAll r
def uptoBulkEntries {H : Type} : List (Lit × DataW H) → Nat
  | [] => 0
  | x :: r => uptoBulkEntry x + uptoBulkEntries r
def uptoBulkEntry {H : Type} : Lit × DataW H → Nat
  | (.string bytes, d) => bytes.length + uptoBulk d + 1
  | (_, d) => uptoBulk d + 1
 end
def uptoSmall : (H : Type) → List (DataW H) → Bool := fun _ ds => decide (uptoBulkAll ds ≤ 1048576)
def OpenSpec.upto (s : _root_.Go.ChangeSpec) : _root_.Go.OpenSpec := { _root_.Go.OpenSpec.ofChange s with cond := some uptoSmall }

/-- 'roundelaylaw36.CutTicks', WHERE WHAT IT READS IS OF BULK AT MOST 1048576: true; the input reads as it did. -/
def cutTicksUptoRow : OpenClaim := { program := "ythacohejdpjjeaa", sum := "088c0672c2f28be10099cd0106187b1e1cc4a272d35ec7a5ed965cdc0b3c1738", func := "roundelay/roundelaylaw36.CutTicks", spec := "cutTicks", apart := false, narrowed := true }
def CutTicksUptoSaid : Prop := cutTicksUptoRow.holds Try.pinned (OpenSpec.upto cutTicksSpec)

/-- 'roundelaylaw36.CutAt', WHERE WHAT IT READS IS OF BULK AT MOST 1048576: true; the input reads as it did. -/
def cutAtUptoRow : OpenClaim := { program := "ythacohejdpjjeaa", sum := "088c0672c2f28be10099cd0106187b1e1cc4a272d35ec7a5ed965cdc0b3c1738", func := "roundelay/roundelaylaw36.CutAt", spec := "cutAt", apart := false, narrowed := true }
def CutAtUptoSaid : Prop := cutAtUptoRow.holds Try.pinned (OpenSpec.upto cutAtSpec)

/-- 'roundelaylaw33.TextReports', WHERE WHAT IT READS IS OF BULK AT MOST 1048576: true; the input reads as it did. -/
def textReportsUptoRow : OpenClaim := { program := "ythacohejdpjjeaa", sum := "088c0672c2f28be10099cd0106187b1e1cc4a272d35ec7a5ed965cdc0b3c1738", func := "roundelay/roundelaylaw33.TextReports", spec := "textReports", unfollowed := true, recurses := true, apart := false, narrowed := true }
def TextReportsUptoSaid : Prop := textReportsUptoRow.holds Try.pinned (OpenSpec.upto textReportsSpec)

end Rows
end Go.Proofs.Ythacohejdpjjeaa
