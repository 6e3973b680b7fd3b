/- The contracts of Names and of the reference's, over the seat's program. -/
import Derived.Test.YtdfbddepeacebaaRtM
import Derived.Test.YtdfbddepeacebaaApp
namespace Go.Proofs.Ytdfbddepeacebaa
open Go.ChangeShapes Go.WideShapes Go.ChangeAt Go.RowKit Go.Joins

theorem Try.info_int : (Try.prog.info? 3).map (fun i => (i.zero, i.size, i.bytes)) = some (some (.int .i64 0), 1, 8) := by kernel_rfl
/-- Whether a pool has a node of its own, as a number; the names of its nodes; how many they are. -/
def PV.c (P : PV) : Nat := if P.t = 0 then 0 else 1
def PV.count (P : PV) : Nat := P.c + P.nf + P.no
end Go.Proofs.Ytdfbddepeacebaa
