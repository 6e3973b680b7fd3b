/-
  No cell of these rows narrows 'for every input' (looked for: loops, veiled, ifaces, maps, wideKeys, modest, calm, conditions, laid).
  DERIVED. THE GIVEN ROWS OF THIS SEAT. 5 by the template 'for every input the law returns true; each argument reads behind the call as it read before'; 0 by the template 'total and deterministic' (their statements: YtdfbddepeacebaaTotals.lean).
  GIVEN WITH THE SEED: the statements are not yours to turn. If you find one false, say at which input.
  Laid BY PROGRAM, IN A SANDBOX (cutbox-rows.mjs): the forced cells as the released guide's own fill.sh prints them over the translation ca797fb200e7b9af… (all of the seat's roots in one cut). By AI agents, Wed Nov 11 2026. No macro, syntax, notation, axiom, sorry.
-/
import Derived.Test.YtdfbddepeacebaaChecked
import GoSem.Claim
import GoSem.ClaimJoined
import GoSem.ClaimMapViews
import Derived.JoinedTies
import Derived.KernelRfl
namespace Go.Proofs.Ytdfbddepeacebaa
/- THE CELL 'sum', in the pinned program and in every row, IS THE sha256 OF THE DUMP (.gsa) THAT YtdfbddepeacebaaProg.lean LOADS. Nothing in Lean hashes anything: it is a label: what it is worth is what the hold of that sum in a sandbox is worth. -/
noncomputable def Try.pinned : Pinned := { name := "ytdfbddepeacebaa", sum := "ca797fb200e7b9af30e4e09b6626f91912ef4d8d7795d2f3d2b52be355960352", checked := Try.checked }
namespace Rows
def none {H : Type} : Left H := { results := [], args := [] }

/-- 'stopgatelaw06.RetireEpochs': WHATEVER THE INPUT: true; the input reads as it did. -/
def retireEpochsSpec : ChangeSpec := { name := "retireEpochs", fn := fun _ => fun
  | [d1, d2, d3] => { results := [.lit (.bool true)], args := [d1, d2, d3] }
  | _ => none }
def retireEpochsRow : OpenClaim := { program := "ytdfbddepeacebaa", sum := "ca797fb200e7b9af30e4e09b6626f91912ef4d8d7795d2f3d2b52be355960352", func := "stopgate/stopgatelaw06.RetireEpochs", spec := "retireEpochs", unfollowed := true, recurses := true, plainKeys := false, apart := false }
def RetireEpochsSaid : Prop := retireEpochsRow.holds Try.pinned (OpenSpec.ofChange retireEpochsSpec)

/-- ITS FALSE NEIGHBOUR: 'it returns false'. Refute it at one input. -/
def retireEpochsWrong : ChangeSpec := { name := "retireEpochs", fn := fun _ => fun
  | [d1, d2, d3] => { results := [.lit (.bool false)], args := [d1, d2, d3] }
  | _ => none }
def RetireEpochsWrongFalsely : Prop := retireEpochsRow.holds Try.pinned (OpenSpec.ofChange retireEpochsWrong)

/-- 'stopgatelaw06.RetireSlots': WHATEVER THE INPUT: true; the input reads as it did. -/
def retireSlotsSpec : ChangeSpec := { name := "retireSlots", fn := fun _ => fun
  | [d1, d2] => { results := [.lit (.bool true)], args := [d1, d2] }
  | _ => none }
def retireSlotsRow : OpenClaim := { program := "ytdfbddepeacebaa", sum := "ca797fb200e7b9af30e4e09b6626f91912ef4d8d7795d2f3d2b52be355960352", func := "stopgate/stopgatelaw06.RetireSlots", spec := "retireSlots", unfollowed := true, recurses := true, plainKeys := false, apart := false }
def RetireSlotsSaid : Prop := retireSlotsRow.holds Try.pinned (OpenSpec.ofChange retireSlotsSpec)

/-- ITS FALSE NEIGHBOUR: 'it returns false'. Refute it at one input. -/
def retireSlotsWrong : ChangeSpec := { name := "retireSlots", fn := fun _ => fun
  | [d1, d2] => { results := [.lit (.bool false)], args := [d1, d2] }
  | _ => none }
def RetireSlotsWrongFalsely : Prop := retireSlotsRow.holds Try.pinned (OpenSpec.ofChange retireSlotsWrong)

/-- 'stopgatelaw06.RetireNeeds': WHATEVER THE INPUT: true; the input reads as it did. -/
def retireNeedsSpec : ChangeSpec := { name := "retireNeeds", fn := fun _ => fun
  | [d1, d2, d3] => { results := [.lit (.bool true)], args := [d1, d2, d3] }
  | _ => none }
def retireNeedsRow : OpenClaim := { program := "ytdfbddepeacebaa", sum := "ca797fb200e7b9af30e4e09b6626f91912ef4d8d7795d2f3d2b52be355960352", func := "stopgate/stopgatelaw06.RetireNeeds", spec := "retireNeeds", unfollowed := true, recurses := true, plainKeys := false, apart := false }
def RetireNeedsSaid : Prop := retireNeedsRow.holds Try.pinned (OpenSpec.ofChange retireNeedsSpec)

/-- ITS FALSE NEIGHBOUR: 'it returns false'. Refute it at one input. -/
def retireNeedsWrong : ChangeSpec := { name := "retireNeeds", fn := fun _ => fun
  | [d1, d2, d3] => { results := [.lit (.bool false)], args := [d1, d2, d3] }
  | _ => none }
def RetireNeedsWrongFalsely : Prop := retireNeedsRow.holds Try.pinned (OpenSpec.ofChange retireNeedsWrong)

/-- 'stopgatelaw06.RetireFew': WHATEVER THE INPUT: true; the input reads as it did. -/
def retireFewSpec : ChangeSpec := { name := "retireFew", fn := fun _ => fun
  | [d1, d2] => { results := [.lit (.bool true)], args := [d1, d2] }
  | _ => none }
def retireFewRow : OpenClaim := { program := "ytdfbddepeacebaa", sum := "ca797fb200e7b9af30e4e09b6626f91912ef4d8d7795d2f3d2b52be355960352", func := "stopgate/stopgatelaw06.RetireFew", spec := "retireFew", unfollowed := true, recurses := true, plainKeys := false, apart := false }
def RetireFewSaid : Prop := retireFewRow.holds Try.pinned (OpenSpec.ofChange retireFewSpec)

/-- ITS FALSE NEIGHBOUR: 'it returns false'. Refute it at one input. -/
def retireFewWrong : ChangeSpec := { name := "retireFew", fn := fun _ => fun
  | [d1, d2] => { results := [.lit (.bool false)], args := [d1, d2] }
  | _ => none }
def RetireFewWrongFalsely : Prop := retireFewRow.holds Try.pinned (OpenSpec.ofChange retireFewWrong)

/-- 'stopgatelaw06.RetireLater': WHATEVER THE INPUT: true; the input reads as it did. -/
def retireLaterSpec : ChangeSpec := { name := "retireLater", fn := fun _ => fun
  | [d1, d2, d3, d4] => { results := [.lit (.bool true)], args := [d1, d2, d3, d4] }
  | _ => none }
def retireLaterRow : OpenClaim := { program := "ytdfbddepeacebaa", sum := "ca797fb200e7b9af30e4e09b6626f91912ef4d8d7795d2f3d2b52be355960352", func := "stopgate/stopgatelaw06.RetireLater", spec := "retireLater", unfollowed := true, recurses := true, plainKeys := false, apart := false }
def RetireLaterSaid : Prop := retireLaterRow.holds Try.pinned (OpenSpec.ofChange retireLaterSpec)

/-- ITS FALSE NEIGHBOUR: 'it returns false'. Refute it at one input. -/
def retireLaterWrong : ChangeSpec := { name := "retireLater", fn := fun _ => fun
  | [d1, d2, d3, d4] => { results := [.lit (.bool false)], args := [d1, d2, d3, d4] }
  | _ => none }
def RetireLaterWrongFalsely : Prop := retireLaterRow.holds Try.pinned (OpenSpec.ofChange retireLaterWrong)

/- THE SECOND FORM. 'bulk': how many values and letters a reading holds, each counted each time it is reached (what is shared counts as often as it is met; a slice's spare places count too). A statement '..UptoSaid' is the law's where the arguments, and the package variables that the reading takes, are together of bulk at most 1048576: NARROWER than '..Said'. Prove '..Said' where nothing that the law and all that it calls make is longer than what came in: it says more and counts as full. Else prove '..UptoSaid'. A law counts once. -/
mutual
def uptoBulk {H : Type} : DataW H → Nat
  | .lit (.string bytes) => bytes.length + 1
  | .lit _ => 1
  | .nil => 1
  | .ptr d => uptoBulk d + 1
  | .slice elems spare => uptoBulkAll elems + uptoBulkAll spare + 1
  | .agg parts => uptoBulkAll parts + 1
  | .iface _ d => uptoBulk d + 1
  | .map entries => uptoBulkEntries entries + 1
  | .held _ => 1
def uptoBulkAll {H : Type} : List (DataW H) → Nat
  | [] => 0
  | d :: r => uptoBulk d + uptoBulkAll r
def uptoBulkEntries {H : Type} : List (Lit × DataW H) → Nat
  | [] => 0
  | x :: r => uptoBulkEntry x + uptoBulkEntries r
def uptoBulkEntry {H : Type} : Lit × DataW H → Nat
  | (.string bytes, d) => bytes.length + uptoBulk d + 1
  | (_, d) => uptoBulk d + 1
 end
def uptoSmall : (H : Type) → List (DataW H) → Bool := fun _ ds => decide (uptoBulkAll ds ≤ 1048576)
def OpenSpec.upto (s : _root_.Go.ChangeSpec) : _root_.Go.OpenSpec := { _root_.Go.OpenSpec.ofChange s with cond := some uptoSmall }

/-- 'stopgatelaw06.RetireEpochs', WHERE WHAT IT READS IS OF BULK AT MOST 1048576: true; the input reads as it did. -/
def retireEpochsUptoRow : OpenClaim := { program := "ytdfbddepeacebaa", sum := "ca797fb200e7b9af30e4e09b6626f91912ef4d8d7795d2f3d2b52be355960352", func := "stopgate/stopgatelaw06.RetireEpochs", spec := "retireEpochs", unfollowed := true, recurses := true, plainKeys := false, apart := false, narrowed := true }
def RetireEpochsUptoSaid : Prop := retireEpochsUptoRow.holds Try.pinned (OpenSpec.upto retireEpochsSpec)

/-- 'stopgatelaw06.RetireSlots', WHERE WHAT IT READS IS OF BULK AT MOST 1048576: true; the input reads as it did. -/
def retireSlotsUptoRow : OpenClaim := { program := "ytdfbddepeacebaa", sum := "ca797fb200e7b9af30e4e09b6626f91912ef4d8d7795d2f3d2b52be355960352", func := "stopgate/stopgatelaw06.RetireSlots", spec := "retireSlots", unfollowed := true, recurses := true, plainKeys := false, apart := false, narrowed := true }
def RetireSlotsUptoSaid : Prop := retireSlotsUptoRow.holds Try.pinned (OpenSpec.upto retireSlotsSpec)

/-- 'stopgatelaw06.RetireNeeds', WHERE WHAT IT READS IS OF BULK AT MOST 1048576: true; the input reads as it did. -/
def retireNeedsUptoRow : OpenClaim := { program := "ytdfbddepeacebaa", sum := "ca797fb200e7b9af30e4e09b6626f91912ef4d8d7795d2f3d2b52be355960352", func := "stopgate/stopgatelaw06.RetireNeeds", spec := "retireNeeds", unfollowed := true, recurses := true, plainKeys := false, apart := false, narrowed := true }
def RetireNeedsUptoSaid : Prop := retireNeedsUptoRow.holds Try.pinned (OpenSpec.upto retireNeedsSpec)

/-- 'stopgatelaw06.RetireFew', WHERE WHAT IT READS IS OF BULK AT MOST 1048576: true; the input reads as it did. -/
def retireFewUptoRow : OpenClaim := { program := "ytdfbddepeacebaa", sum := "ca797fb200e7b9af30e4e09b6626f91912ef4d8d7795d2f3d2b52be355960352", func := "stopgate/stopgatelaw06.RetireFew", spec := "retireFew", unfollowed := true, recurses := true, plainKeys := false, apart := false, narrowed := true }
def RetireFewUptoSaid : Prop := retireFewUptoRow.holds Try.pinned (OpenSpec.upto retireFewSpec)

/-- 'stopgatelaw06.RetireLater', WHERE WHAT IT READS IS OF BULK AT MOST 1048576: true; the input reads as it did. -/
def retireLaterUptoRow : OpenClaim := { program := "ytdfbddepeacebaa", sum := "ca797fb200e7b9af30e4e09b6626f91912ef4d8d7795d2f3d2b52be355960352", func := "stopgate/stopgatelaw06.RetireLater", spec := "retireLater", unfollowed := true, recurses := true, plainKeys := false, apart := false, narrowed := true }
def RetireLaterUptoSaid : Prop := retireLaterUptoRow.holds Try.pinned (OpenSpec.upto retireLaterSpec)

end Rows
end Go.Proofs.Ytdfbddepeacebaa
