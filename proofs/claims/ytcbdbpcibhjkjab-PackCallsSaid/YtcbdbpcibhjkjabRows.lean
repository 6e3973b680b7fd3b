/-
  No cell of these rows narrows 'for every input' (looked for: loops, veiled, ifaces, maps, wideKeys, modest, calm, conditions, laid).
  DERIVED. THE GIVEN ROWS OF THIS SEAT. 6 by the template 'for every input the law returns true; each argument reads behind the call as it read before'; 0 by the template 'total and deterministic' (their statements: YtcbdbpcibhjkjabTotals.lean).
  GIVEN WITH THE SEED: the statements are not yours to turn. If you find one false, say at which input.
  Laid BY PROGRAM, IN A SANDBOX (cutbox-rows.mjs): the forced cells as the released guide's own fill.sh prints them over the translation fa36da8146528e93… (all of the seat's roots in one cut). By AI agents, Wed Nov 11 2026. No macro, syntax, notation, axiom, sorry.
-/
import Derived.Test.YtcbdbpcibhjkjabChecked
import GoSem.Claim
import GoSem.ClaimJoined
import GoSem.ClaimMapViews
import Derived.JoinedTies
import Derived.KernelRfl
namespace Go.Proofs.Ytcbdbpcibhjkjab
/- THE CELL 'sum', in the pinned program and in every row, IS THE sha256 OF THE DUMP (.gsa) THAT YtcbdbpcibhjkjabProg.lean LOADS. Nothing in Lean hashes anything: it is a label: what it is worth is what the hold of that sum in a sandbox is worth. -/
noncomputable def Try.pinned : Pinned := { name := "ytcbdbpcibhjkjab", sum := "fa36da8146528e93362890d0f96bd627d59008fe83cee2490161e1e62a11fabd", checked := Try.checked }
namespace Rows
def none {H : Type} : Left H := { results := [], args := [] }

/-- 'stopgatelaw02.PackResults': WHATEVER THE INPUT: true; the input reads as it did. -/
def packResultsSpec : ChangeSpec := { name := "packResults", fn := fun _ => fun
  | [d1, d2] => { results := [.lit (.bool true)], args := [d1, d2] }
  | _ => none }
def packResultsRow : OpenClaim := { program := "ytcbdbpcibhjkjab", sum := "fa36da8146528e93362890d0f96bd627d59008fe83cee2490161e1e62a11fabd", func := "stopgate/stopgatelaw02.PackResults", spec := "packResults", unfollowed := true, recurses := true, apart := false }
def PackResultsSaid : Prop := packResultsRow.holds Try.pinned (OpenSpec.ofChange packResultsSpec)

/-- ITS FALSE NEIGHBOUR: 'it returns false'. Refute it at one input. -/
def packResultsWrong : ChangeSpec := { name := "packResults", fn := fun _ => fun
  | [d1, d2] => { results := [.lit (.bool false)], args := [d1, d2] }
  | _ => none }
def PackResultsWrongFalsely : Prop := packResultsRow.holds Try.pinned (OpenSpec.ofChange packResultsWrong)

/-- 'stopgatelaw02.PackBack': WHATEVER THE INPUT: true; the input reads as it did. -/
def packBackSpec : ChangeSpec := { name := "packBack", fn := fun _ => fun
  | [d1, d2] => { results := [.lit (.bool true)], args := [d1, d2] }
  | _ => none }
def packBackRow : OpenClaim := { program := "ytcbdbpcibhjkjab", sum := "fa36da8146528e93362890d0f96bd627d59008fe83cee2490161e1e62a11fabd", func := "stopgate/stopgatelaw02.PackBack", spec := "packBack", unfollowed := true, recurses := true, apart := false }
def PackBackSaid : Prop := packBackRow.holds Try.pinned (OpenSpec.ofChange packBackSpec)

/-- ITS FALSE NEIGHBOUR: 'it returns false'. Refute it at one input. -/
def packBackWrong : ChangeSpec := { name := "packBack", fn := fun _ => fun
  | [d1, d2] => { results := [.lit (.bool false)], args := [d1, d2] }
  | _ => none }
def PackBackWrongFalsely : Prop := packBackRow.holds Try.pinned (OpenSpec.ofChange packBackWrong)

/-- 'stopgatelaw02.PackRanks': WHATEVER THE INPUT: true; the input reads as it did. -/
def packRanksSpec : ChangeSpec := { name := "packRanks", fn := fun _ => fun
  | [d1, d2, d3] => { results := [.lit (.bool true)], args := [d1, d2, d3] }
  | _ => none }
def packRanksRow : OpenClaim := { program := "ytcbdbpcibhjkjab", sum := "fa36da8146528e93362890d0f96bd627d59008fe83cee2490161e1e62a11fabd", func := "stopgate/stopgatelaw02.PackRanks", spec := "packRanks", unfollowed := true, recurses := true, apart := false }
def PackRanksSaid : Prop := packRanksRow.holds Try.pinned (OpenSpec.ofChange packRanksSpec)

/-- ITS FALSE NEIGHBOUR: 'it returns false'. Refute it at one input. -/
def packRanksWrong : ChangeSpec := { name := "packRanks", fn := fun _ => fun
  | [d1, d2, d3] => { results := [.lit (.bool false)], args := [d1, d2, d3] }
  | _ => none }
def PackRanksWrongFalsely : Prop := packRanksRow.holds Try.pinned (OpenSpec.ofChange packRanksWrong)

/-- 'stopgatelaw02.PackCalls': WHATEVER THE INPUT: true; the input reads as it did. -/
def packCallsSpec : ChangeSpec := { name := "packCalls", fn := fun _ => fun
  | [d1, d2, d3] => { results := [.lit (.bool true)], args := [d1, d2, d3] }
  | _ => none }
def packCallsRow : OpenClaim := { program := "ytcbdbpcibhjkjab", sum := "fa36da8146528e93362890d0f96bd627d59008fe83cee2490161e1e62a11fabd", func := "stopgate/stopgatelaw02.PackCalls", spec := "packCalls", unfollowed := true, recurses := true, apart := false }
def PackCallsSaid : Prop := packCallsRow.holds Try.pinned (OpenSpec.ofChange packCallsSpec)

/-- ITS FALSE NEIGHBOUR: 'it returns false'. Refute it at one input. -/
def packCallsWrong : ChangeSpec := { name := "packCalls", fn := fun _ => fun
  | [d1, d2, d3] => { results := [.lit (.bool false)], args := [d1, d2, d3] }
  | _ => none }
def PackCallsWrongFalsely : Prop := packCallsRow.holds Try.pinned (OpenSpec.ofChange packCallsWrong)

/-- 'stopgatelaw02.PackSaid': WHATEVER THE INPUT: true; the input reads as it did. -/
def packSaidSpec : ChangeSpec := { name := "packSaid", fn := fun _ => fun
  | [d1, d2, d3] => { results := [.lit (.bool true)], args := [d1, d2, d3] }
  | _ => none }
def packSaidRow : OpenClaim := { program := "ytcbdbpcibhjkjab", sum := "fa36da8146528e93362890d0f96bd627d59008fe83cee2490161e1e62a11fabd", func := "stopgate/stopgatelaw02.PackSaid", spec := "packSaid", unfollowed := true, recurses := true, apart := false }
def PackSaidSaid : Prop := packSaidRow.holds Try.pinned (OpenSpec.ofChange packSaidSpec)

/-- ITS FALSE NEIGHBOUR: 'it returns false'. Refute it at one input. -/
def packSaidWrong : ChangeSpec := { name := "packSaid", fn := fun _ => fun
  | [d1, d2, d3] => { results := [.lit (.bool false)], args := [d1, d2, d3] }
  | _ => none }
def PackSaidWrongFalsely : Prop := packSaidRow.holds Try.pinned (OpenSpec.ofChange packSaidWrong)

/-- 'stopgatelaw02.PackEpochs': WHATEVER THE INPUT: true; the input reads as it did. -/
def packEpochsSpec : ChangeSpec := { name := "packEpochs", fn := fun _ => fun
  | [d1, d2] => { results := [.lit (.bool true)], args := [d1, d2] }
  | _ => none }
def packEpochsRow : OpenClaim := { program := "ytcbdbpcibhjkjab", sum := "fa36da8146528e93362890d0f96bd627d59008fe83cee2490161e1e62a11fabd", func := "stopgate/stopgatelaw02.PackEpochs", spec := "packEpochs", unfollowed := true, recurses := true, apart := false }
def PackEpochsSaid : Prop := packEpochsRow.holds Try.pinned (OpenSpec.ofChange packEpochsSpec)

/-- ITS FALSE NEIGHBOUR: 'it returns false'. Refute it at one input. -/
def packEpochsWrong : ChangeSpec := { name := "packEpochs", fn := fun _ => fun
  | [d1, d2] => { results := [.lit (.bool false)], args := [d1, d2] }
  | _ => none }
def PackEpochsWrongFalsely : Prop := packEpochsRow.holds Try.pinned (OpenSpec.ofChange packEpochsWrong)

/- THE SECOND FORM. 'bulk': how many values and letters a reading holds, each counted each time it is reached (what is shared counts as often as it is met; a slice's spare places count too). A statement '..UptoSaid' is the law's where the arguments, and the package variables that the reading takes, are together of bulk at most 1048576: NARROWER than '..Said'. Prove '..Said' where nothing that the law and all that it calls make is longer than what came in: it says more and counts as full. Else prove '..UptoSaid'. A law counts once. -/
mutual
def uptoBulk {H : Type} : DataW H → Nat
  | .lit (.string bytes) => bytes.length + 1
  | .lit _ => 1
  | .nil => 1
  | .ptr d => uptoBulk d + 1
  | .slice elems spare => uptoBulkAll elems + uptoBulkAll spare + 1
  | .agg parts => uptoBulkAll parts + 1
  | .iface _ d => uptoBulk d + 1
  | .map entries => uptoBulkEntries entries + 1
  | .held _ => 1
def uptoBulkAll {H : Type} : List (DataW H) → Nat
  | [] => 0
  | d :: r => uptoBulk d + uptoBulkAll r
def uptoBulkEntries {H : Type} : List (Lit × DataW H) → Nat
  | [] => 0
  | x :: r => uptoBulkEntry x + uptoBulkEntries r
def uptoBulkEntry {H : Type} : Lit × DataW H → Nat
  | (.string bytes, d) => bytes.length + uptoBulk d + 1
  | (_, d) => uptoBulk d + 1
 end
def uptoSmall : (H : Type) → List (DataW H) → Bool := fun _ ds => decide (uptoBulkAll ds ≤ 1048576)
def OpenSpec.upto (s : _root_.Go.ChangeSpec) : _root_.Go.OpenSpec := { _root_.Go.OpenSpec.ofChange s with cond := some uptoSmall }

/-- 'stopgatelaw02.PackResults', WHERE WHAT IT READS IS OF BULK AT MOST 1048576: true; the input reads as it did. -/
def packResultsUptoRow : OpenClaim := { program := "ytcbdbpcibhjkjab", sum := "fa36da8146528e93362890d0f96bd627d59008fe83cee2490161e1e62a11fabd", func := "stopgate/stopgatelaw02.PackResults", spec := "packResults", unfollowed := true, recurses := true, apart := false, narrowed := true }
def PackResultsUptoSaid : Prop := packResultsUptoRow.holds Try.pinned (OpenSpec.upto packResultsSpec)

/-- 'stopgatelaw02.PackBack', WHERE WHAT IT READS IS OF BULK AT MOST 1048576: true; the input reads as it did. -/
def packBackUptoRow : OpenClaim := { program := "ytcbdbpcibhjkjab", sum := "fa36da8146528e93362890d0f96bd627d59008fe83cee2490161e1e62a11fabd", func := "stopgate/stopgatelaw02.PackBack", spec := "packBack", unfollowed := true, recurses := true, apart := false, narrowed := true }
def PackBackUptoSaid : Prop := packBackUptoRow.holds Try.pinned (OpenSpec.upto packBackSpec)

/-- 'stopgatelaw02.PackRanks', WHERE WHAT IT READS IS OF BULK AT MOST 1048576: true; the input reads as it did. -/
def packRanksUptoRow : OpenClaim := { program := "ytcbdbpcibhjkjab", sum := "fa36da8146528e93362890d0f96bd627d59008fe83cee2490161e1e62a11fabd", func := "stopgate/stopgatelaw02.PackRanks", spec := "packRanks", unfollowed := true, recurses := true, apart := false, narrowed := true }
def PackRanksUptoSaid : Prop := packRanksUptoRow.holds Try.pinned (OpenSpec.upto packRanksSpec)

/-- 'stopgatelaw02.PackCalls', WHERE WHAT IT READS IS OF BULK AT MOST 1048576: true; the input reads as it did. -/
def packCallsUptoRow : OpenClaim := { program := "ytcbdbpcibhjkjab", sum := "fa36da8146528e93362890d0f96bd627d59008fe83cee2490161e1e62a11fabd", func := "stopgate/stopgatelaw02.PackCalls", spec := "packCalls", unfollowed := true, recurses := true, apart := false, narrowed := true }
def PackCallsUptoSaid : Prop := packCallsUptoRow.holds Try.pinned (OpenSpec.upto packCallsSpec)

/-- 'stopgatelaw02.PackSaid', WHERE WHAT IT READS IS OF BULK AT MOST 1048576: true; the input reads as it did. -/
def packSaidUptoRow : OpenClaim := { program := "ytcbdbpcibhjkjab", sum := "fa36da8146528e93362890d0f96bd627d59008fe83cee2490161e1e62a11fabd", func := "stopgate/stopgatelaw02.PackSaid", spec := "packSaid", unfollowed := true, recurses := true, apart := false, narrowed := true }
def PackSaidUptoSaid : Prop := packSaidUptoRow.holds Try.pinned (OpenSpec.upto packSaidSpec)

/-- 'stopgatelaw02.PackEpochs', WHERE WHAT IT READS IS OF BULK AT MOST 1048576: true; the input reads as it did. -/
def packEpochsUptoRow : OpenClaim := { program := "ytcbdbpcibhjkjab", sum := "fa36da8146528e93362890d0f96bd627d59008fe83cee2490161e1e62a11fabd", func := "stopgate/stopgatelaw02.PackEpochs", spec := "packEpochs", unfollowed := true, recurses := true, apart := false, narrowed := true }
def PackEpochsUptoSaid : Prop := packEpochsUptoRow.holds Try.pinned (OpenSpec.upto packEpochsSpec)

end Rows
end Go.Proofs.Ytcbdbpcibhjkjab
