/-
  No cell of these rows narrows 'for every input' (looked for: loops, veiled, ifaces, maps, wideKeys, modest, calm, conditions, laid).
  DERIVED. THE GIVEN ROWS OF THIS SEAT. 6 by the template 'for every input the law returns true; each argument reads behind the call as it read before'; 0 by the template 'total and deterministic' (their statements: YticaheiomidanaaTotals.lean).
  GIVEN WITH THE SEED: the statements are not yours to turn. If you find one false, say at which input.
  Laid BY PROGRAM, IN A SANDBOX (cutbox-rows.mjs): the forced cells as the released guide's own fill.sh prints them over the translation ac0208fbec1e001b… (all of the seat's roots in one cut). By AI agents, Wed Nov 11 2026. No macro, syntax, notation, axiom, sorry.
-/
import Derived.Test.YticaheiomidanaaChecked
import GoSem.Claim
import GoSem.ClaimJoined
import GoSem.ClaimMapViews
import Derived.JoinedTies
import Derived.KernelRfl
namespace Go.Proofs.Yticaheiomidanaa
/- THE CELL 'sum', in the pinned program and in every row, IS THE sha256 OF THE DUMP (.gsa) THAT YticaheiomidanaaProg.lean LOADS. Nothing in Lean hashes anything: it is a label: what it is worth is what the hold of that sum in a sandbox is worth. -/
noncomputable def Try.pinned : Pinned := { name := "yticaheiomidanaa", sum := "ac0208fbec1e001b44670f724fb8ecbff493d93ecf9de23dcf3f0af3f433c70e", checked := Try.checked }
namespace Rows
def none {H : Type} : Left H := { results := [], args := [] }

/-- 'roundelaylaw31.ScriptEncodes': WHATEVER THE INPUT: true; the input reads as it did. -/
def scriptEncodesSpec : ChangeSpec := { name := "scriptEncodes", fn := fun _ => fun
  | [d] => { results := [.lit (.bool true)], args := [d] }
  | _ => none }
def scriptEncodesRow : OpenClaim := { program := "yticaheiomidanaa", sum := "ac0208fbec1e001b44670f724fb8ecbff493d93ecf9de23dcf3f0af3f433c70e", func := "roundelay/roundelaylaw31.ScriptEncodes", spec := "scriptEncodes", unfollowed := true, recurses := true, apart := false }
def ScriptEncodesSaid : Prop := scriptEncodesRow.holds Try.pinned (OpenSpec.ofChange scriptEncodesSpec)

/-- ITS FALSE NEIGHBOUR: 'it returns false'. Refute it at one input. -/
def scriptEncodesWrong : ChangeSpec := { name := "scriptEncodes", fn := fun _ => fun
  | [d] => { results := [.lit (.bool false)], args := [d] }
  | _ => none }
def ScriptEncodesWrongFalsely : Prop := scriptEncodesRow.holds Try.pinned (OpenSpec.ofChange scriptEncodesWrong)

/-- 'roundelaylaw31.ScriptBack': WHATEVER THE INPUT: true; the input reads as it did. -/
def scriptBackSpec : ChangeSpec := { name := "scriptBack", fn := fun _ => fun
  | [d] => { results := [.lit (.bool true)], args := [d] }
  | _ => none }
def scriptBackRow : OpenClaim := { program := "yticaheiomidanaa", sum := "ac0208fbec1e001b44670f724fb8ecbff493d93ecf9de23dcf3f0af3f433c70e", func := "roundelay/roundelaylaw31.ScriptBack", spec := "scriptBack", unfollowed := true, recurses := true, apart := false }
def ScriptBackSaid : Prop := scriptBackRow.holds Try.pinned (OpenSpec.ofChange scriptBackSpec)

/-- ITS FALSE NEIGHBOUR: 'it returns false'. Refute it at one input. -/
def scriptBackWrong : ChangeSpec := { name := "scriptBack", fn := fun _ => fun
  | [d] => { results := [.lit (.bool false)], args := [d] }
  | _ => none }
def ScriptBackWrongFalsely : Prop := scriptBackRow.holds Try.pinned (OpenSpec.ofChange scriptBackWrong)

/-- 'roundelaylaw32.StatRatios': WHATEVER THE INPUT: true; the input reads as it did. -/
def statRatiosSpec : ChangeSpec := { name := "statRatios", fn := fun _ => fun
  | [d1, d2, d3] => { results := [.lit (.bool true)], args := [d1, d2, d3] }
  | _ => none }
def statRatiosRow : OpenClaim := { program := "yticaheiomidanaa", sum := "ac0208fbec1e001b44670f724fb8ecbff493d93ecf9de23dcf3f0af3f433c70e", func := "roundelay/roundelaylaw32.StatRatios", spec := "statRatios", inPlace := ["math.Float64frombits"], apart := false }
def StatRatiosSaid : Prop := statRatiosRow.holds Try.pinned (OpenSpec.ofChange statRatiosSpec)

/-- ITS FALSE NEIGHBOUR: 'it returns false'. Refute it at one input. -/
def statRatiosWrong : ChangeSpec := { name := "statRatios", fn := fun _ => fun
  | [d1, d2, d3] => { results := [.lit (.bool false)], args := [d1, d2, d3] }
  | _ => none }
def StatRatiosWrongFalsely : Prop := statRatiosRow.holds Try.pinned (OpenSpec.ofChange statRatiosWrong)

/-- 'roundelaylaw32.StatEven': WHATEVER THE INPUT: true; the input reads as it did. -/
def statEvenSpec : ChangeSpec := { name := "statEven", fn := fun _ => fun
  | [d] => { results := [.lit (.bool true)], args := [d] }
  | _ => none }
def statEvenRow : OpenClaim := { program := "yticaheiomidanaa", sum := "ac0208fbec1e001b44670f724fb8ecbff493d93ecf9de23dcf3f0af3f433c70e", func := "roundelay/roundelaylaw32.StatEven", spec := "statEven", inPlace := ["math.Float64frombits"], apart := false }
def StatEvenSaid : Prop := statEvenRow.holds Try.pinned (OpenSpec.ofChange statEvenSpec)

/-- ITS FALSE NEIGHBOUR: 'it returns false'. Refute it at one input. -/
def statEvenWrong : ChangeSpec := { name := "statEven", fn := fun _ => fun
  | [d] => { results := [.lit (.bool false)], args := [d] }
  | _ => none }
def StatEvenWrongFalsely : Prop := statEvenRow.holds Try.pinned (OpenSpec.ofChange statEvenWrong)

/-- 'roundelaylaw32.StatGreatest': WHATEVER THE INPUT: true; the input reads as it did. -/
def statGreatestSpec : ChangeSpec := { name := "statGreatest", fn := fun _ => fun
  | [d1, d2] => { results := [.lit (.bool true)], args := [d1, d2] }
  | _ => none }
def statGreatestRow : OpenClaim := { program := "yticaheiomidanaa", sum := "ac0208fbec1e001b44670f724fb8ecbff493d93ecf9de23dcf3f0af3f433c70e", func := "roundelay/roundelaylaw32.StatGreatest", spec := "statGreatest", inPlace := ["math.Float64frombits"], apart := false }
def StatGreatestSaid : Prop := statGreatestRow.holds Try.pinned (OpenSpec.ofChange statGreatestSpec)

/-- ITS FALSE NEIGHBOUR: 'it returns false'. Refute it at one input. -/
def statGreatestWrong : ChangeSpec := { name := "statGreatest", fn := fun _ => fun
  | [d1, d2] => { results := [.lit (.bool false)], args := [d1, d2] }
  | _ => none }
def StatGreatestWrongFalsely : Prop := statGreatestRow.holds Try.pinned (OpenSpec.ofChange statGreatestWrong)

/-- 'roundelaylaw32.StatShares': WHATEVER THE INPUT: true; the input reads as it did. -/
def statSharesSpec : ChangeSpec := { name := "statShares", fn := fun _ => fun
  | [d1, d2] => { results := [.lit (.bool true)], args := [d1, d2] }
  | _ => none }
def statSharesRow : OpenClaim := { program := "yticaheiomidanaa", sum := "ac0208fbec1e001b44670f724fb8ecbff493d93ecf9de23dcf3f0af3f433c70e", func := "roundelay/roundelaylaw32.StatShares", spec := "statShares", inPlace := ["math.Float64frombits"], apart := false }
def StatSharesSaid : Prop := statSharesRow.holds Try.pinned (OpenSpec.ofChange statSharesSpec)

/-- ITS FALSE NEIGHBOUR: 'it returns false'. Refute it at one input. -/
def statSharesWrong : ChangeSpec := { name := "statShares", fn := fun _ => fun
  | [d1, d2] => { results := [.lit (.bool false)], args := [d1, d2] }
  | _ => none }
def StatSharesWrongFalsely : Prop := statSharesRow.holds Try.pinned (OpenSpec.ofChange statSharesWrong)

/- THE SECOND FORM. 'bulk': how many values and letters a reading holds, each counted each time it is reached (what is shared counts as often as it is met; a slice's spare places count too). A statement '..UptoSaid' is the law's where the arguments, and the package variables that the reading takes, are together of bulk at most 1048576: NARROWER than '..Said'. Prove '..Said' where nothing that the law and all that it calls make is longer than what came in: it says more and counts as full. Else prove '..UptoSaid'. A law counts once. -/
mutual
def uptoBulk {H : Type} : DataW H → Nat
  | .lit (.string bytes) => bytes.length + 1
  | .lit _ => 1
  | .nil => 1
  | .ptr d => uptoBulk d + 1
  | .slice elems spare => uptoBulkAll elems + uptoBulkAll spare + 1
  | .agg parts => uptoBulkAll parts + 1
  | .iface _ d => uptoBulk d + 1
  | .map entries => uptoBulkEntries entries + 1
  | .held _ => 1
def uptoBulkAll {H : Type} : List (DataW H) → Nat
  | [] => 0
  | d :: r => uptoBulk d + uptoBulkAll r
def uptoBulkEntries {H : Type} : List (Lit × DataW H) → Nat
  | [] => 0
  | x :: r => uptoBulkEntry x + uptoBulkEntries r
def uptoBulkEntry {H : Type} : Lit × DataW H → Nat
  | (.string bytes, d) => bytes.length + uptoBulk d + 1
  | (_, d) => uptoBulk d + 1
 end
def uptoSmall : (H : Type) → List (DataW H) → Bool := fun _ ds => decide (uptoBulkAll ds ≤ 1048576)
def OpenSpec.upto (s : _root_.Go.ChangeSpec) : _root_.Go.OpenSpec := { _root_.Go.OpenSpec.ofChange s with cond := some uptoSmall }

/-- 'roundelaylaw31.ScriptEncodes', WHERE WHAT IT READS IS OF BULK AT MOST 1048576: true; the input reads as it did. -/
def scriptEncodesUptoRow : OpenClaim := { program := "yticaheiomidanaa", sum := "ac0208fbec1e001b44670f724fb8ecbff493d93ecf9de23dcf3f0af3f433c70e", func := "roundelay/roundelaylaw31.ScriptEncodes", spec := "scriptEncodes", unfollowed := true, recurses := true, apart := false, narrowed := true }
def ScriptEncodesUptoSaid : Prop := scriptEncodesUptoRow.holds Try.pinned (OpenSpec.upto scriptEncodesSpec)

/-- 'roundelaylaw31.ScriptBack', WHERE WHAT IT READS IS OF BULK AT MOST 1048576: true; the input reads as it did. -/
def scriptBackUptoRow : OpenClaim := { program := "yticaheiomidanaa", sum := "ac0208fbec1e001b44670f724fb8ecbff493d93ecf9de23dcf3f0af3f433c70e", func := "roundelay/roundelaylaw31.ScriptBack", spec := "scriptBack", unfollowed := true, recurses := true, apart := false, narrowed := true }
def ScriptBackUptoSaid : Prop := scriptBackUptoRow.holds Try.pinned (OpenSpec.upto scriptBackSpec)

/-- 'roundelaylaw32.StatRatios', WHERE WHAT IT READS IS OF BULK AT MOST 1048576: true; the input reads as it did. -/
def statRatiosUptoRow : OpenClaim := { program := "yticaheiomidanaa", sum := "ac0208fbec1e001b44670f724fb8ecbff493d93ecf9de23dcf3f0af3f433c70e", func := "roundelay/roundelaylaw32.StatRatios", spec := "statRatios", inPlace := ["math.Float64frombits"], apart := false, narrowed := true }
def StatRatiosUptoSaid : Prop := statRatiosUptoRow.holds Try.pinned (OpenSpec.upto statRatiosSpec)

/-- 'roundelaylaw32.StatEven', WHERE WHAT IT READS IS OF BULK AT MOST 1048576: true; the input reads as it did. -/
def statEvenUptoRow : OpenClaim := { program := "yticaheiomidanaa", sum := "ac0208fbec1e001b44670f724fb8ecbff493d93ecf9de23dcf3f0af3f433c70e", func := "roundelay/roundelaylaw32.StatEven", spec := "statEven", inPlace := ["math.Float64frombits"], apart := false, narrowed := true }
def StatEvenUptoSaid : Prop := statEvenUptoRow.holds Try.pinned (OpenSpec.upto statEvenSpec)

/-- 'roundelaylaw32.StatGreatest', WHERE WHAT IT READS IS OF BULK AT MOST 1048576: true; the input reads as it did. -/
def statGreatestUptoRow : OpenClaim := { program := "yticaheiomidanaa", sum := "ac0208fbec1e001b44670f724fb8ecbff493d93ecf9de23dcf3f0af3f433c70e", func := "roundelay/roundelaylaw32.StatGreatest", spec := "statGreatest", inPlace := ["math.Float64frombits"], apart := false, narrowed := true }
def StatGreatestUptoSaid : Prop := statGreatestUptoRow.holds Try.pinned (OpenSpec.upto statGreatestSpec)

/-- 'roundelaylaw32.StatShares', WHERE WHAT IT READS IS OF BULK AT MOST 1048576: true; the input reads as it did. -/
def statSharesUptoRow : OpenClaim := { program := "yticaheiomidanaa", sum := "ac0208fbec1e001b44670f724fb8ecbff493d93ecf9de23dcf3f0af3f433c70e", func := "roundelay/roundelaylaw32.StatShares", spec := "statShares", inPlace := ["math.Float64frombits"], apart := false, narrowed := true }
def StatSharesUptoSaid : Prop := statSharesUptoRow.holds Try.pinned (OpenSpec.upto statSharesSpec)

end Rows
end Go.Proofs.Yticaheiomidanaa
