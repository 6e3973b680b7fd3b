/-
  No cell of these rows narrows 'for every input' (looked for: loops, veiled, ifaces, maps, wideKeys, modest, calm, conditions, laid).
  DERIVED. THE GIVEN ROWS OF THIS SEAT. 3 by the template 'for every input the law returns true; each argument reads behind the call as it read before'; 0 by the template 'total and deterministic' (their statements: YtlgnkkjbbaaokaaTotals.lean).
  GIVEN WITH THE SEED: the statements are not yours to turn. If you find one false, say at which input.
  Laid BY PROGRAM, IN A SANDBOX (cutbox-rows.mjs): the forced cells as the released guide's own fill.sh prints them over the translation cef67f34fc1c53c7… (all of the seat's roots in one cut). By AI agents, Wed Nov 11 2026. No macro, syntax, notation, axiom, sorry.
-/
import Derived.Test.YtlgnkkjbbaaokaaChecked
import GoSem.Claim
import GoSem.ClaimJoined
import GoSem.ClaimMapViews
import Derived.JoinedTies
import Derived.KernelRfl
namespace Go.Proofs.Ytlgnkkjbbaaokaa
/- THE CELL 'sum', in the pinned program and in every row, IS THE sha256 OF THE DUMP (.gsa) THAT YtlgnkkjbbaaokaaProg.lean LOADS. Nothing in Lean hashes anything: it is a label: what it is worth is what the hold of that sum in a sandbox is worth. -/
noncomputable def Try.pinned : Pinned := { name := "ytlgnkkjbbaaokaa", sum := "cef67f34fc1c53c78ed51b6c0cd6515f444b3f85e5d3fe3045a2e9fd669c194c", checked := Try.checked }
namespace Rows
def none {H : Type} : Left H := { results := [], args := [] }

/-- 'stopgatelaw09.LifoApplies': WHATEVER THE INPUT: true; the input reads as it did. -/
def lifoAppliesSpec : ChangeSpec := { name := "lifoApplies", fn := fun _ => fun
  | [d1, d2, d3, d4, d5, d6] => { results := [.lit (.bool true)], args := [d1, d2, d3, d4, d5, d6] }
  | _ => none }
def lifoAppliesRow : OpenClaim := { program := "ytlgnkkjbbaaokaa", sum := "cef67f34fc1c53c78ed51b6c0cd6515f444b3f85e5d3fe3045a2e9fd669c194c", func := "stopgate/stopgatelaw09.LifoApplies", spec := "lifoApplies", apart := false }
def LifoAppliesSaid : Prop := lifoAppliesRow.holds Try.pinned (OpenSpec.ofChange lifoAppliesSpec)

/-- ITS FALSE NEIGHBOUR: 'it returns false'. Refute it at one input. -/
def lifoAppliesWrong : ChangeSpec := { name := "lifoApplies", fn := fun _ => fun
  | [d1, d2, d3, d4, d5, d6] => { results := [.lit (.bool false)], args := [d1, d2, d3, d4, d5, d6] }
  | _ => none }
def LifoAppliesWrongFalsely : Prop := lifoAppliesRow.holds Try.pinned (OpenSpec.ofChange lifoAppliesWrong)

/-- 'stopgatelaw09.LifoUndoes': WHATEVER THE INPUT: true; the input reads as it did. -/
def lifoUndoesSpec : ChangeSpec := { name := "lifoUndoes", fn := fun _ => fun
  | [d1, d2, d3, d4] => { results := [.lit (.bool true)], args := [d1, d2, d3, d4] }
  | _ => none }
def lifoUndoesRow : OpenClaim := { program := "ytlgnkkjbbaaokaa", sum := "cef67f34fc1c53c78ed51b6c0cd6515f444b3f85e5d3fe3045a2e9fd669c194c", func := "stopgate/stopgatelaw09.LifoUndoes", spec := "lifoUndoes", apart := false }
def LifoUndoesSaid : Prop := lifoUndoesRow.holds Try.pinned (OpenSpec.ofChange lifoUndoesSpec)

/-- ITS FALSE NEIGHBOUR: 'it returns false'. Refute it at one input. -/
def lifoUndoesWrong : ChangeSpec := { name := "lifoUndoes", fn := fun _ => fun
  | [d1, d2, d3, d4] => { results := [.lit (.bool false)], args := [d1, d2, d3, d4] }
  | _ => none }
def LifoUndoesWrongFalsely : Prop := lifoUndoesRow.holds Try.pinned (OpenSpec.ofChange lifoUndoesWrong)

/-- 'stopgatelaw09.LifoTurned': WHATEVER THE INPUT: true; the input reads as it did. -/
def lifoTurnedSpec : ChangeSpec := { name := "lifoTurned", fn := fun _ => fun
  | [d] => { results := [.lit (.bool true)], args := [d] }
  | _ => none }
def lifoTurnedRow : OpenClaim := { program := "ytlgnkkjbbaaokaa", sum := "cef67f34fc1c53c78ed51b6c0cd6515f444b3f85e5d3fe3045a2e9fd669c194c", func := "stopgate/stopgatelaw09.LifoTurned", spec := "lifoTurned", apart := false }
def LifoTurnedSaid : Prop := lifoTurnedRow.holds Try.pinned (OpenSpec.ofChange lifoTurnedSpec)

/-- ITS FALSE NEIGHBOUR: 'it returns false'. Refute it at one input. -/
def lifoTurnedWrong : ChangeSpec := { name := "lifoTurned", fn := fun _ => fun
  | [d] => { results := [.lit (.bool false)], args := [d] }
  | _ => none }
def LifoTurnedWrongFalsely : Prop := lifoTurnedRow.holds Try.pinned (OpenSpec.ofChange lifoTurnedWrong)

/- THE SECOND FORM. 'bulk': how many values and letters a reading holds, each counted each time it is reached (what is shared counts as often as it is met; a slice's spare places count too). A statement '..UptoSaid' is the law's where the arguments, and the package variables that the reading takes, are together of bulk at most 1048576: NARROWER than '..Said'. Prove '..Said' where nothing that the law and all that it calls make is longer than what came in: it says more and counts as full. Else prove '..UptoSaid'. A law counts once. -/
mutual
def uptoBulk {H : Type} : DataW H → Nat
  | .lit (.string bytes) => bytes.length + 1
  | .lit _ => 1
  | .nil => 1
  | .ptr d => uptoBulk d + 1
  | .slice elems spare => uptoBulkAll elems + uptoBulkAll spare + 1
  | .agg parts => uptoBulkAll parts + 1
  | .iface _ d => uptoBulk d + 1
  | .map entries => uptoBulkEntries entries + 1
  | .held _ => 1
def uptoBulkAll {H : Type} : List (DataW H) → Nat
  | [] => 0
  | d :: r => uptoBulk d + uptoBulkAll r
def uptoBulkEntries {H : Type} : List (Lit × DataW H) → Nat
  | [] => 0
  | x :: r => uptoBulkEntry x + uptoBulkEntries r
def uptoBulkEntry {H : Type} : Lit × DataW H → Nat
  | (.string bytes, d) => bytes.length + uptoBulk d + 1
  | (_, d) => uptoBulk d + 1
 end
def uptoSmall : (H : Type) → List (DataW H) → Bool := fun _ ds => decide (uptoBulkAll ds ≤ 1048576)
def OpenSpec.upto (s : _root_.Go.ChangeSpec) : _root_.Go.OpenSpec := { _root_.Go.OpenSpec.ofChange s with cond := some uptoSmall }

/-- 'stopgatelaw09.LifoApplies', WHERE WHAT IT READS IS OF BULK AT MOST 1048576: true; the input reads as it did. -/
def lifoAppliesUptoRow : OpenClaim := { program := "ytlgnkkjbbaaokaa", sum := "cef67f34fc1c53c78ed51b6c0cd6515f444b3f85e5d3fe3045a2e9fd669c194c", func := "stopgate/stopgatelaw09.LifoApplies", spec := "lifoApplies", apart := false, narrowed := true }
def LifoAppliesUptoSaid : Prop := lifoAppliesUptoRow.holds Try.pinned (OpenSpec.upto lifoAppliesSpec)

/-- 'stopgatelaw09.LifoUndoes', WHERE WHAT IT READS IS OF BULK AT MOST 1048576: true; the input reads as it did. -/
def lifoUndoesUptoRow : OpenClaim := { program := "ytlgnkkjbbaaokaa", sum := "cef67f34fc1c53c78ed51b6c0cd6515f444b3f85e5d3fe3045a2e9fd669c194c", func := "stopgate/stopgatelaw09.LifoUndoes", spec := "lifoUndoes", apart := false, narrowed := true }
def LifoUndoesUptoSaid : Prop := lifoUndoesUptoRow.holds Try.pinned (OpenSpec.upto lifoUndoesSpec)

/-- 'stopgatelaw09.LifoTurned', WHERE WHAT IT READS IS OF BULK AT MOST 1048576: true; the input reads as it did. -/
def lifoTurnedUptoRow : OpenClaim := { program := "ytlgnkkjbbaaokaa", sum := "cef67f34fc1c53c78ed51b6c0cd6515f444b3f85e5d3fe3045a2e9fd669c194c", func := "stopgate/stopgatelaw09.LifoTurned", spec := "lifoTurned", apart := false, narrowed := true }
def LifoTurnedUptoSaid : Prop := lifoTurnedUptoRow.holds Try.pinned (OpenSpec.upto lifoTurnedSpec)

end Rows
end Go.Proofs.Ytlgnkkjbbaaokaa
