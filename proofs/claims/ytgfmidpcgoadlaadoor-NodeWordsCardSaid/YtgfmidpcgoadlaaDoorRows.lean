/-
  NARROWER THAN 'FOR EVERY INPUT', by the rows' own cells (each row's printed sentence says how): NodeWords: laid · NodePlaces: laid · NodeApart: laid.
  DERIVED. THE GIVEN ROWS OF THIS SEAT. 3 by the template 'for every input the law returns true; each argument reads behind the call as it read before'; 0 by the template 'total and deterministic' (their statements: YtgfmidpcgoadlaaDoorTotals.lean).
  GIVEN WITH THE SEED: the statements are not yours to turn. If you find one false, say at which input.
  Laid BY PROGRAM, IN A SANDBOX (cutbox-rows.mjs): the forced cells as the released guide's own fill.sh prints them over the translation ae60edd6f0648597… (all of the seat's roots in one cut). By AI agents, Wed Nov 11 2026. No macro, syntax, notation, axiom, sorry.
-/
import Derived.Test.YtgfmidpcgoadlaaDoorChecked
import GoSem.Claim
import GoSem.ClaimJoined
import GoSem.ClaimMapViews
import Derived.JoinedTies
import Derived.KernelRfl
namespace Go.Proofs.YtgfmidpcgoadlaaDoor
/- THE CELL 'sum', in the pinned program and in every row, IS THE sha256 OF THE DUMP (.gsa) THAT YtgfmidpcgoadlaaDoorProg.lean LOADS. Nothing in Lean hashes anything: it is a label: what it is worth is what the hold of that sum in a sandbox is worth. -/
noncomputable def Tryd.pinned : Pinned := { name := "ytgfmidpcgoadlaadoor", sum := "ae60edd6f064859720ecbdc9ee3d6732d08a39756e9b89cd90ef6edf28754e10", checked := Tryd.checked }
namespace Rows
def none {H : Type} : Left H := { results := [], args := [] }

/- WHAT THE LISTED PACKAGE-LEVEL VARIABLES READ AS WHEN THE CALL BEGINS. Each datum BY PROGRAM (the guide's laid-datum.mjs) off the statement by which the dump's own 'gosem.cut.vars' lays the variable. In a bare row this is a premise. The card (YtgfmidpcgoadlaaDoorCards.lean) ties it to the program's text. -/
def laid_roundelay_node_fields {H : Type} : DataW H := .agg [.lit (.int .i64 0), .lit (.int .i64 1), .lit (.int .i64 2), .lit (.int .i64 3)]

/-- 'roundelaylaw20.NodeWords': WHATEVER THE INPUT: true; the input reads as it did. -/
def nodeWordsSpec : ChangeSpec := { name := "nodeWords", fn := fun _ => fun
  | [d1, d2, d3] => { results := [.lit (.bool true)], args := [d1, d2, d3] }
  | _ => none }
def nodeWordsRow : OpenClaim := { program := "ytgfmidpcgoadlaadoor", sum := "ae60edd6f064859720ecbdc9ee3d6732d08a39756e9b89cd90ef6edf28754e10", func := "roundelay/roundelaylaw20.NodeWords", spec := "nodeWords", named := ["roundelay/node.fields"], apart := false, laid := [("roundelay/node.fields", laid_roundelay_node_fields)] }
def NodeWordsSaid : Prop := nodeWordsRow.holds Tryd.pinned (OpenSpec.ofChange nodeWordsSpec)

/-- ITS FALSE NEIGHBOUR: 'it returns false'. Refute it at one input. -/
def nodeWordsWrong : ChangeSpec := { name := "nodeWords", fn := fun _ => fun
  | [d1, d2, d3] => { results := [.lit (.bool false)], args := [d1, d2, d3] }
  | _ => none }
def NodeWordsWrongFalsely : Prop := nodeWordsRow.holds Tryd.pinned (OpenSpec.ofChange nodeWordsWrong)

/-- 'roundelaylaw20.NodePlaces': WHATEVER THE INPUT: true; the input reads as it did. -/
def nodePlacesSpec : ChangeSpec := { name := "nodePlaces", fn := fun _ => fun
  | [d1, d2, d3] => { results := [.lit (.bool true)], args := [d1, d2, d3] }
  | _ => none }
def nodePlacesRow : OpenClaim := { program := "ytgfmidpcgoadlaadoor", sum := "ae60edd6f064859720ecbdc9ee3d6732d08a39756e9b89cd90ef6edf28754e10", func := "roundelay/roundelaylaw20.NodePlaces", spec := "nodePlaces", named := ["roundelay/node.fields"], apart := false, laid := [("roundelay/node.fields", laid_roundelay_node_fields)] }
def NodePlacesSaid : Prop := nodePlacesRow.holds Tryd.pinned (OpenSpec.ofChange nodePlacesSpec)

/-- ITS FALSE NEIGHBOUR: 'it returns false'. Refute it at one input. -/
def nodePlacesWrong : ChangeSpec := { name := "nodePlaces", fn := fun _ => fun
  | [d1, d2, d3] => { results := [.lit (.bool false)], args := [d1, d2, d3] }
  | _ => none }
def NodePlacesWrongFalsely : Prop := nodePlacesRow.holds Tryd.pinned (OpenSpec.ofChange nodePlacesWrong)

/-- 'roundelaylaw20.NodeApart': WHATEVER THE INPUT: true; the input reads as it did. -/
def nodeApartSpec : ChangeSpec := { name := "nodeApart", fn := fun _ => fun
  | [d1, d2, d3] => { results := [.lit (.bool true)], args := [d1, d2, d3] }
  | _ => none }
def nodeApartRow : OpenClaim := { program := "ytgfmidpcgoadlaadoor", sum := "ae60edd6f064859720ecbdc9ee3d6732d08a39756e9b89cd90ef6edf28754e10", func := "roundelay/roundelaylaw20.NodeApart", spec := "nodeApart", named := ["roundelay/node.fields"], apart := false, laid := [("roundelay/node.fields", laid_roundelay_node_fields)] }
def NodeApartSaid : Prop := nodeApartRow.holds Tryd.pinned (OpenSpec.ofChange nodeApartSpec)

/-- ITS FALSE NEIGHBOUR: 'it returns false'. Refute it at one input. -/
def nodeApartWrong : ChangeSpec := { name := "nodeApart", fn := fun _ => fun
  | [d1, d2, d3] => { results := [.lit (.bool false)], args := [d1, d2, d3] }
  | _ => none }
def NodeApartWrongFalsely : Prop := nodeApartRow.holds Tryd.pinned (OpenSpec.ofChange nodeApartWrong)

/- THE SECOND FORM. 'bulk': how many values and letters a reading holds, each counted each time it is reached (what is shared counts as often as it is met; a slice's spare places count too). A statement '..UptoSaid' is the law's where the arguments, and the package variables that the reading takes, are together of bulk at most 1048576: NARROWER than '..Said'. Prove '..Said' where nothing that the law and all that it calls make is longer than what came in: it says more and counts as full. Else prove '..UptoSaid'. A law counts once. -/
mutual
def uptoBulk {H : Type} : DataW H → Nat
  | .lit (.string bytes) => bytes.length + 1
  | .lit _ => 1
  | .nil => 1
  | .ptr d => uptoBulk d + 1
  | .slice elems spare => uptoBulkAll elems + uptoBulkAll spare + 1
  | .agg parts => uptoBulkAll parts + 1
  | .iface _ d => uptoBulk d + 1
  | .map entries => uptoBulkEntries entries + 1
  | .held _ => 1
def uptoBulkAll {H : Type} : List (DataW H) → Nat
  | [] => 0
  | d :: r => uptoBulk d + uptoBulkAll r
def uptoBulkEntries {H : Type} : List (Lit × DataW H) → Nat
  | [] => 0
  | x :: r => uptoBulkEntry x + uptoBulkEntries r
def uptoBulkEntry {H : Type} : Lit × DataW H → Nat
  | (.string bytes, d) => bytes.length + uptoBulk d + 1
  | (_, d) => uptoBulk d + 1
 end
def uptoSmall : (H : Type) → List (DataW H) → Bool := fun _ ds => decide (uptoBulkAll ds ≤ 1048576)
def OpenSpec.upto (s : _root_.Go.ChangeSpec) : _root_.Go.OpenSpec := { _root_.Go.OpenSpec.ofChange s with cond := some uptoSmall }

/-- 'roundelaylaw20.NodeWords', WHERE WHAT IT READS IS OF BULK AT MOST 1048576: true; the input reads as it did. -/
def nodeWordsUptoRow : OpenClaim := { program := "ytgfmidpcgoadlaadoor", sum := "ae60edd6f064859720ecbdc9ee3d6732d08a39756e9b89cd90ef6edf28754e10", func := "roundelay/roundelaylaw20.NodeWords", spec := "nodeWords", named := ["roundelay/node.fields"], apart := false, laid := [("roundelay/node.fields", laid_roundelay_node_fields)], narrowed := true }
def NodeWordsUptoSaid : Prop := nodeWordsUptoRow.holds Tryd.pinned (OpenSpec.upto nodeWordsSpec)

/-- 'roundelaylaw20.NodePlaces', WHERE WHAT IT READS IS OF BULK AT MOST 1048576: true; the input reads as it did. -/
def nodePlacesUptoRow : OpenClaim := { program := "ytgfmidpcgoadlaadoor", sum := "ae60edd6f064859720ecbdc9ee3d6732d08a39756e9b89cd90ef6edf28754e10", func := "roundelay/roundelaylaw20.NodePlaces", spec := "nodePlaces", named := ["roundelay/node.fields"], apart := false, laid := [("roundelay/node.fields", laid_roundelay_node_fields)], narrowed := true }
def NodePlacesUptoSaid : Prop := nodePlacesUptoRow.holds Tryd.pinned (OpenSpec.upto nodePlacesSpec)

/-- 'roundelaylaw20.NodeApart', WHERE WHAT IT READS IS OF BULK AT MOST 1048576: true; the input reads as it did. -/
def nodeApartUptoRow : OpenClaim := { program := "ytgfmidpcgoadlaadoor", sum := "ae60edd6f064859720ecbdc9ee3d6732d08a39756e9b89cd90ef6edf28754e10", func := "roundelay/roundelaylaw20.NodeApart", spec := "nodeApart", named := ["roundelay/node.fields"], apart := false, laid := [("roundelay/node.fields", laid_roundelay_node_fields)], narrowed := true }
def NodeApartUptoSaid : Prop := nodeApartUptoRow.holds Tryd.pinned (OpenSpec.upto nodeApartSpec)

end Rows
end Go.Proofs.YtgfmidpcgoadlaaDoor
