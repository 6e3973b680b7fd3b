/-
  No cell of these rows narrows 'for every input' (looked for: loops, veiled, ifaces, maps, wideKeys, modest, calm, conditions, laid).
  DERIVED. THE GIVEN ROWS OF THIS SEAT. 11 by the template 'for every input the law returns true; each argument reads behind the call as it read before'; 0 by the template 'total and deterministic' (their statements: YtihpjfhibhpciaaTotals.lean).
  GIVEN WITH THE SEED: the statements are not yours to turn. If you find one false, say at which input.
  Laid BY PROGRAM, IN A SANDBOX (cutbox-rows.mjs): the forced cells as the released guide's own fill.sh prints them over the translation 0236c7fbb05c2401… (all of the seat's roots in one cut). By AI agents, Wed Nov 11 2026. No macro, syntax, notation, axiom, sorry.
-/
import Derived.Test.YtihpjfhibhpciaaChecked
import GoSem.Claim
import GoSem.ClaimJoined
import GoSem.ClaimMapViews
import Derived.JoinedTies
import Derived.KernelRfl
namespace Go.Proofs.Ytihpjfhibhpciaa
/- THE CELL 'sum', in the pinned program and in every row, IS THE sha256 OF THE DUMP (.gsa) THAT YtihpjfhibhpciaaProg.lean LOADS. Nothing in Lean hashes anything: it is a label: what it is worth is what the hold of that sum in a sandbox is worth. -/
noncomputable def Try.pinned : Pinned := { name := "ytihpjfhibhpciaa", sum := "0236c7fbb05c2401efe401c5f53bbf34ae85fe3e5ed556cc702925a966b03b7a", checked := Try.checked }
namespace Rows
def none {H : Type} : Left H := { results := [], args := [] }

/-- 'stopgatelaw10.WaitsMoves': WHATEVER THE INPUT: true; the input reads as it did. -/
def waitsMovesSpec : ChangeSpec := { name := "waitsMoves", fn := fun _ => fun
  | [d1, d2, d3] => { results := [.lit (.bool true)], args := [d1, d2, d3] }
  | _ => none }
def waitsMovesRow : OpenClaim := { program := "ytihpjfhibhpciaa", sum := "0236c7fbb05c2401efe401c5f53bbf34ae85fe3e5ed556cc702925a966b03b7a", func := "stopgate/stopgatelaw10.WaitsMoves", spec := "waitsMoves", unfollowed := true, recurses := true, apart := false }
def WaitsMovesSaid : Prop := waitsMovesRow.holds Try.pinned (OpenSpec.ofChange waitsMovesSpec)

/-- ITS FALSE NEIGHBOUR: 'it returns false'. Refute it at one input. -/
def waitsMovesWrong : ChangeSpec := { name := "waitsMoves", fn := fun _ => fun
  | [d1, d2, d3] => { results := [.lit (.bool false)], args := [d1, d2, d3] }
  | _ => none }
def WaitsMovesWrongFalsely : Prop := waitsMovesRow.holds Try.pinned (OpenSpec.ofChange waitsMovesWrong)

/-- 'stopgatelaw10.WaitsTells': WHATEVER THE INPUT: true; the input reads as it did. -/
def waitsTellsSpec : ChangeSpec := { name := "waitsTells", fn := fun _ => fun
  | [d1, d2, d3, d4] => { results := [.lit (.bool true)], args := [d1, d2, d3, d4] }
  | _ => none }
def waitsTellsRow : OpenClaim := { program := "ytihpjfhibhpciaa", sum := "0236c7fbb05c2401efe401c5f53bbf34ae85fe3e5ed556cc702925a966b03b7a", func := "stopgate/stopgatelaw10.WaitsTells", spec := "waitsTells", unfollowed := true, recurses := true, apart := false }
def WaitsTellsSaid : Prop := waitsTellsRow.holds Try.pinned (OpenSpec.ofChange waitsTellsSpec)

/-- ITS FALSE NEIGHBOUR: 'it returns false'. Refute it at one input. -/
def waitsTellsWrong : ChangeSpec := { name := "waitsTells", fn := fun _ => fun
  | [d1, d2, d3, d4] => { results := [.lit (.bool false)], args := [d1, d2, d3, d4] }
  | _ => none }
def WaitsTellsWrongFalsely : Prop := waitsTellsRow.holds Try.pinned (OpenSpec.ofChange waitsTellsWrong)

/-- 'stopgatelaw10.WaitsUndoes': WHATEVER THE INPUT: true; the input reads as it did. -/
def waitsUndoesSpec : ChangeSpec := { name := "waitsUndoes", fn := fun _ => fun
  | [d1, d2, d3] => { results := [.lit (.bool true)], args := [d1, d2, d3] }
  | _ => none }
def waitsUndoesRow : OpenClaim := { program := "ytihpjfhibhpciaa", sum := "0236c7fbb05c2401efe401c5f53bbf34ae85fe3e5ed556cc702925a966b03b7a", func := "stopgate/stopgatelaw10.WaitsUndoes", spec := "waitsUndoes", unfollowed := true, recurses := true, apart := false }
def WaitsUndoesSaid : Prop := waitsUndoesRow.holds Try.pinned (OpenSpec.ofChange waitsUndoesSpec)

/-- ITS FALSE NEIGHBOUR: 'it returns false'. Refute it at one input. -/
def waitsUndoesWrong : ChangeSpec := { name := "waitsUndoes", fn := fun _ => fun
  | [d1, d2, d3] => { results := [.lit (.bool false)], args := [d1, d2, d3] }
  | _ => none }
def WaitsUndoesWrongFalsely : Prop := waitsUndoesRow.holds Try.pinned (OpenSpec.ofChange waitsUndoesWrong)

/-- 'stopgatelaw10.WaitsFirst': WHATEVER THE INPUT: true; the input reads as it did. -/
def waitsFirstSpec : ChangeSpec := { name := "waitsFirst", fn := fun _ => fun
  | [d1, d2, d3] => { results := [.lit (.bool true)], args := [d1, d2, d3] }
  | _ => none }
def waitsFirstRow : OpenClaim := { program := "ytihpjfhibhpciaa", sum := "0236c7fbb05c2401efe401c5f53bbf34ae85fe3e5ed556cc702925a966b03b7a", func := "stopgate/stopgatelaw10.WaitsFirst", spec := "waitsFirst", unfollowed := true, recurses := true, apart := false }
def WaitsFirstSaid : Prop := waitsFirstRow.holds Try.pinned (OpenSpec.ofChange waitsFirstSpec)

/-- ITS FALSE NEIGHBOUR: 'it returns false'. Refute it at one input. -/
def waitsFirstWrong : ChangeSpec := { name := "waitsFirst", fn := fun _ => fun
  | [d1, d2, d3] => { results := [.lit (.bool false)], args := [d1, d2, d3] }
  | _ => none }
def WaitsFirstWrongFalsely : Prop := waitsFirstRow.holds Try.pinned (OpenSpec.ofChange waitsFirstWrong)

/-- 'stopgatelaw11.ChansDo': WHATEVER THE INPUT: true; the input reads as it did. -/
def chansDoSpec : ChangeSpec := { name := "chansDo", fn := fun _ => fun
  | [d1, d2, d3, d4, d5] => { results := [.lit (.bool true)], args := [d1, d2, d3, d4, d5] }
  | _ => none }
def chansDoRow : OpenClaim := { program := "ytihpjfhibhpciaa", sum := "0236c7fbb05c2401efe401c5f53bbf34ae85fe3e5ed556cc702925a966b03b7a", func := "stopgate/stopgatelaw11.ChansDo", spec := "chansDo", unfollowed := true, recurses := true, apart := false }
def ChansDoSaid : Prop := chansDoRow.holds Try.pinned (OpenSpec.ofChange chansDoSpec)

/-- ITS FALSE NEIGHBOUR: 'it returns false'. Refute it at one input. -/
def chansDoWrong : ChangeSpec := { name := "chansDo", fn := fun _ => fun
  | [d1, d2, d3, d4, d5] => { results := [.lit (.bool false)], args := [d1, d2, d3, d4, d5] }
  | _ => none }
def ChansDoWrongFalsely : Prop := chansDoRow.holds Try.pinned (OpenSpec.ofChange chansDoWrong)

/-- 'stopgatelaw11.ChansAfter': WHATEVER THE INPUT: true; the input reads as it did. -/
def chansAfterSpec : ChangeSpec := { name := "chansAfter", fn := fun _ => fun
  | [d1, d2, d3] => { results := [.lit (.bool true)], args := [d1, d2, d3] }
  | _ => none }
def chansAfterRow : OpenClaim := { program := "ytihpjfhibhpciaa", sum := "0236c7fbb05c2401efe401c5f53bbf34ae85fe3e5ed556cc702925a966b03b7a", func := "stopgate/stopgatelaw11.ChansAfter", spec := "chansAfter", unfollowed := true, recurses := true, apart := false }
def ChansAfterSaid : Prop := chansAfterRow.holds Try.pinned (OpenSpec.ofChange chansAfterSpec)

/-- ITS FALSE NEIGHBOUR: 'it returns false'. Refute it at one input. -/
def chansAfterWrong : ChangeSpec := { name := "chansAfter", fn := fun _ => fun
  | [d1, d2, d3] => { results := [.lit (.bool false)], args := [d1, d2, d3] }
  | _ => none }
def ChansAfterWrongFalsely : Prop := chansAfterRow.holds Try.pinned (OpenSpec.ofChange chansAfterWrong)

/-- 'stopgatelaw11.ChansOne': WHATEVER THE INPUT: true; the input reads as it did. -/
def chansOneSpec : ChangeSpec := { name := "chansOne", fn := fun _ => fun
  | [d1, d2, d3, d4, d5] => { results := [.lit (.bool true)], args := [d1, d2, d3, d4, d5] }
  | _ => none }
def chansOneRow : OpenClaim := { program := "ytihpjfhibhpciaa", sum := "0236c7fbb05c2401efe401c5f53bbf34ae85fe3e5ed556cc702925a966b03b7a", func := "stopgate/stopgatelaw11.ChansOne", spec := "chansOne", unfollowed := true, recurses := true, apart := false }
def ChansOneSaid : Prop := chansOneRow.holds Try.pinned (OpenSpec.ofChange chansOneSpec)

/-- ITS FALSE NEIGHBOUR: 'it returns false'. Refute it at one input. -/
def chansOneWrong : ChangeSpec := { name := "chansOne", fn := fun _ => fun
  | [d1, d2, d3, d4, d5] => { results := [.lit (.bool false)], args := [d1, d2, d3, d4, d5] }
  | _ => none }
def ChansOneWrongFalsely : Prop := chansOneRow.holds Try.pinned (OpenSpec.ofChange chansOneWrong)

/-- 'stopgatelaw12.HallApplies': WHATEVER THE INPUT: true; the input reads as it did. -/
def hallAppliesSpec : ChangeSpec := { name := "hallApplies", fn := fun _ => fun
  | [d1, d2, d3, d4, d5] => { results := [.lit (.bool true)], args := [d1, d2, d3, d4, d5] }
  | _ => none }
def hallAppliesRow : OpenClaim := { program := "ytihpjfhibhpciaa", sum := "0236c7fbb05c2401efe401c5f53bbf34ae85fe3e5ed556cc702925a966b03b7a", func := "stopgate/stopgatelaw12.HallApplies", spec := "hallApplies", unfollowed := true, recurses := true, apart := false }
def HallAppliesSaid : Prop := hallAppliesRow.holds Try.pinned (OpenSpec.ofChange hallAppliesSpec)

/-- ITS FALSE NEIGHBOUR: 'it returns false'. Refute it at one input. -/
def hallAppliesWrong : ChangeSpec := { name := "hallApplies", fn := fun _ => fun
  | [d1, d2, d3, d4, d5] => { results := [.lit (.bool false)], args := [d1, d2, d3, d4, d5] }
  | _ => none }
def HallAppliesWrongFalsely : Prop := hallAppliesRow.holds Try.pinned (OpenSpec.ofChange hallAppliesWrong)

/-- 'stopgatelaw12.HallFinds': WHATEVER THE INPUT: true; the input reads as it did. -/
def hallFindsSpec : ChangeSpec := { name := "hallFinds", fn := fun _ => fun
  | [d1, d2, d3] => { results := [.lit (.bool true)], args := [d1, d2, d3] }
  | _ => none }
def hallFindsRow : OpenClaim := { program := "ytihpjfhibhpciaa", sum := "0236c7fbb05c2401efe401c5f53bbf34ae85fe3e5ed556cc702925a966b03b7a", func := "stopgate/stopgatelaw12.HallFinds", spec := "hallFinds", unfollowed := true, recurses := true, apart := false }
def HallFindsSaid : Prop := hallFindsRow.holds Try.pinned (OpenSpec.ofChange hallFindsSpec)

/-- ITS FALSE NEIGHBOUR: 'it returns false'. Refute it at one input. -/
def hallFindsWrong : ChangeSpec := { name := "hallFinds", fn := fun _ => fun
  | [d1, d2, d3] => { results := [.lit (.bool false)], args := [d1, d2, d3] }
  | _ => none }
def HallFindsWrongFalsely : Prop := hallFindsRow.holds Try.pinned (OpenSpec.ofChange hallFindsWrong)

/-- 'stopgatelaw12.HallSelects': WHATEVER THE INPUT: true; the input reads as it did. -/
def hallSelectsSpec : ChangeSpec := { name := "hallSelects", fn := fun _ => fun
  | [d1, d2, d3] => { results := [.lit (.bool true)], args := [d1, d2, d3] }
  | _ => none }
def hallSelectsRow : OpenClaim := { program := "ytihpjfhibhpciaa", sum := "0236c7fbb05c2401efe401c5f53bbf34ae85fe3e5ed556cc702925a966b03b7a", func := "stopgate/stopgatelaw12.HallSelects", spec := "hallSelects", unfollowed := true, recurses := true, apart := false }
def HallSelectsSaid : Prop := hallSelectsRow.holds Try.pinned (OpenSpec.ofChange hallSelectsSpec)

/-- ITS FALSE NEIGHBOUR: 'it returns false'. Refute it at one input. -/
def hallSelectsWrong : ChangeSpec := { name := "hallSelects", fn := fun _ => fun
  | [d1, d2, d3] => { results := [.lit (.bool false)], args := [d1, d2, d3] }
  | _ => none }
def HallSelectsWrongFalsely : Prop := hallSelectsRow.holds Try.pinned (OpenSpec.ofChange hallSelectsWrong)

/-- 'stopgatelaw12.HallDefault': WHATEVER THE INPUT: true; the input reads as it did. -/
def hallDefaultSpec : ChangeSpec := { name := "hallDefault", fn := fun _ => fun
  | [d1, d2, d3] => { results := [.lit (.bool true)], args := [d1, d2, d3] }
  | _ => none }
def hallDefaultRow : OpenClaim := { program := "ytihpjfhibhpciaa", sum := "0236c7fbb05c2401efe401c5f53bbf34ae85fe3e5ed556cc702925a966b03b7a", func := "stopgate/stopgatelaw12.HallDefault", spec := "hallDefault", unfollowed := true, recurses := true, apart := false }
def HallDefaultSaid : Prop := hallDefaultRow.holds Try.pinned (OpenSpec.ofChange hallDefaultSpec)

/-- ITS FALSE NEIGHBOUR: 'it returns false'. Refute it at one input. -/
def hallDefaultWrong : ChangeSpec := { name := "hallDefault", fn := fun _ => fun
  | [d1, d2, d3] => { results := [.lit (.bool false)], args := [d1, d2, d3] }
  | _ => none }
def HallDefaultWrongFalsely : Prop := hallDefaultRow.holds Try.pinned (OpenSpec.ofChange hallDefaultWrong)

/- THE SECOND FORM. 'bulk': how many values and letters a reading holds, each counted each time it is reached (what is shared counts as often as it is met; a slice's spare places count too). A statement '..UptoSaid' is the law's where the arguments, and the package variables that the reading takes, are together of bulk at most 1048576: NARROWER than '..Said'. Prove '..Said' where nothing that the law and all that it calls make is longer than what came in: it says more and counts as full. Else prove '..UptoSaid'. A law counts once. -/
mutual
def uptoBulk {H : Type} : DataW H → Nat
  | .lit (.string bytes) => bytes.length + 1
  | .lit _ => 1
  | .nil => 1
  | .ptr d => uptoBulk d + 1
  | .slice elems spare => uptoBulkAll elems + uptoBulkAll spare + 1
  | .agg parts => uptoBulkAll parts + 1
  | .iface _ d => uptoBulk d + 1
  | .map entries => uptoBulkEntries entries + 1
  | .held _ => 1
def uptoBulkAll {H : Type} : List (DataW H) → Nat
  | [] => 0
  | d :: r => uptoBulk d + uptoBulkAll r
def uptoBulkEntries {H : Type} : List (Lit × DataW H) → Nat
  | [] => 0
  | x :: r => uptoBulkEntry x + uptoBulkEntries r
def uptoBulkEntry {H : Type} : Lit × DataW H → Nat
  | (.string bytes, d) => bytes.length + uptoBulk d + 1
  | (_, d) => uptoBulk d + 1
 end
def uptoSmall : (H : Type) → List (DataW H) → Bool := fun _ ds => decide (uptoBulkAll ds ≤ 1048576)
def OpenSpec.upto (s : _root_.Go.ChangeSpec) : _root_.Go.OpenSpec := { _root_.Go.OpenSpec.ofChange s with cond := some uptoSmall }

/-- 'stopgatelaw10.WaitsMoves', WHERE WHAT IT READS IS OF BULK AT MOST 1048576: true; the input reads as it did. -/
def waitsMovesUptoRow : OpenClaim := { program := "ytihpjfhibhpciaa", sum := "0236c7fbb05c2401efe401c5f53bbf34ae85fe3e5ed556cc702925a966b03b7a", func := "stopgate/stopgatelaw10.WaitsMoves", spec := "waitsMoves", unfollowed := true, recurses := true, apart := false, narrowed := true }
def WaitsMovesUptoSaid : Prop := waitsMovesUptoRow.holds Try.pinned (OpenSpec.upto waitsMovesSpec)

/-- 'stopgatelaw10.WaitsTells', WHERE WHAT IT READS IS OF BULK AT MOST 1048576: true; the input reads as it did. -/
def waitsTellsUptoRow : OpenClaim := { program := "ytihpjfhibhpciaa", sum := "0236c7fbb05c2401efe401c5f53bbf34ae85fe3e5ed556cc702925a966b03b7a", func := "stopgate/stopgatelaw10.WaitsTells", spec := "waitsTells", unfollowed := true, recurses := true, apart := false, narrowed := true }
def WaitsTellsUptoSaid : Prop := waitsTellsUptoRow.holds Try.pinned (OpenSpec.upto waitsTellsSpec)

/-- 'stopgatelaw10.WaitsUndoes', WHERE WHAT IT READS IS OF BULK AT MOST 1048576: true; the input reads as it did. -/
def waitsUndoesUptoRow : OpenClaim := { program := "ytihpjfhibhpciaa", sum := "0236c7fbb05c2401efe401c5f53bbf34ae85fe3e5ed556cc702925a966b03b7a", func := "stopgate/stopgatelaw10.WaitsUndoes", spec := "waitsUndoes", unfollowed := true, recurses := true, apart := false, narrowed := true }
def WaitsUndoesUptoSaid : Prop := waitsUndoesUptoRow.holds Try.pinned (OpenSpec.upto waitsUndoesSpec)

/-- 'stopgatelaw10.WaitsFirst', WHERE WHAT IT READS IS OF BULK AT MOST 1048576: true; the input reads as it did. -/
def waitsFirstUptoRow : OpenClaim := { program := "ytihpjfhibhpciaa", sum := "0236c7fbb05c2401efe401c5f53bbf34ae85fe3e5ed556cc702925a966b03b7a", func := "stopgate/stopgatelaw10.WaitsFirst", spec := "waitsFirst", unfollowed := true, recurses := true, apart := false, narrowed := true }
def WaitsFirstUptoSaid : Prop := waitsFirstUptoRow.holds Try.pinned (OpenSpec.upto waitsFirstSpec)

/-- 'stopgatelaw11.ChansDo', WHERE WHAT IT READS IS OF BULK AT MOST 1048576: true; the input reads as it did. -/
def chansDoUptoRow : OpenClaim := { program := "ytihpjfhibhpciaa", sum := "0236c7fbb05c2401efe401c5f53bbf34ae85fe3e5ed556cc702925a966b03b7a", func := "stopgate/stopgatelaw11.ChansDo", spec := "chansDo", unfollowed := true, recurses := true, apart := false, narrowed := true }
def ChansDoUptoSaid : Prop := chansDoUptoRow.holds Try.pinned (OpenSpec.upto chansDoSpec)

/-- 'stopgatelaw11.ChansAfter', WHERE WHAT IT READS IS OF BULK AT MOST 1048576: true; the input reads as it did. -/
def chansAfterUptoRow : OpenClaim := { program := "ytihpjfhibhpciaa", sum := "0236c7fbb05c2401efe401c5f53bbf34ae85fe3e5ed556cc702925a966b03b7a", func := "stopgate/stopgatelaw11.ChansAfter", spec := "chansAfter", unfollowed := true, recurses := true, apart := false, narrowed := true }
def ChansAfterUptoSaid : Prop := chansAfterUptoRow.holds Try.pinned (OpenSpec.upto chansAfterSpec)

/-- 'stopgatelaw11.ChansOne', WHERE WHAT IT READS IS OF BULK AT MOST 1048576: true; the input reads as it did. -/
def chansOneUptoRow : OpenClaim := { program := "ytihpjfhibhpciaa", sum := "0236c7fbb05c2401efe401c5f53bbf34ae85fe3e5ed556cc702925a966b03b7a", func := "stopgate/stopgatelaw11.ChansOne", spec := "chansOne", unfollowed := true, recurses := true, apart := false, narrowed := true }
def ChansOneUptoSaid : Prop := chansOneUptoRow.holds Try.pinned (OpenSpec.upto chansOneSpec)

/-- 'stopgatelaw12.HallApplies', WHERE WHAT IT READS IS OF BULK AT MOST 1048576: true; the input reads as it did. -/
def hallAppliesUptoRow : OpenClaim := { program := "ytihpjfhibhpciaa", sum := "0236c7fbb05c2401efe401c5f53bbf34ae85fe3e5ed556cc702925a966b03b7a", func := "stopgate/stopgatelaw12.HallApplies", spec := "hallApplies", unfollowed := true, recurses := true, apart := false, narrowed := true }
def HallAppliesUptoSaid : Prop := hallAppliesUptoRow.holds Try.pinned (OpenSpec.upto hallAppliesSpec)

/-- 'stopgatelaw12.HallFinds', WHERE WHAT IT READS IS OF BULK AT MOST 1048576: true; the input reads as it did. -/
def hallFindsUptoRow : OpenClaim := { program := "ytihpjfhibhpciaa", sum := "0236c7fbb05c2401efe401c5f53bbf34ae85fe3e5ed556cc702925a966b03b7a", func := "stopgate/stopgatelaw12.HallFinds", spec := "hallFinds", unfollowed := true, recurses := true, apart := false, narrowed := true }
def HallFindsUptoSaid : Prop := hallFindsUptoRow.holds Try.pinned (OpenSpec.upto hallFindsSpec)

/-- 'stopgatelaw12.HallSelects', WHERE WHAT IT READS IS OF BULK AT MOST 1048576: true; the input reads as it did. -/
def hallSelectsUptoRow : OpenClaim := { program := "ytihpjfhibhpciaa", sum := "0236c7fbb05c2401efe401c5f53bbf34ae85fe3e5ed556cc702925a966b03b7a", func := "stopgate/stopgatelaw12.HallSelects", spec := "hallSelects", unfollowed := true, recurses := true, apart := false, narrowed := true }
def HallSelectsUptoSaid : Prop := hallSelectsUptoRow.holds Try.pinned (OpenSpec.upto hallSelectsSpec)

/-- 'stopgatelaw12.HallDefault', WHERE WHAT IT READS IS OF BULK AT MOST 1048576: true; the input reads as it did. -/
def hallDefaultUptoRow : OpenClaim := { program := "ytihpjfhibhpciaa", sum := "0236c7fbb05c2401efe401c5f53bbf34ae85fe3e5ed556cc702925a966b03b7a", func := "stopgate/stopgatelaw12.HallDefault", spec := "hallDefault", unfollowed := true, recurses := true, apart := false, narrowed := true }
def HallDefaultUptoSaid : Prop := hallDefaultUptoRow.holds Try.pinned (OpenSpec.upto hallDefaultSpec)

end Rows
end Go.Proofs.Ytihpjfhibhpciaa
