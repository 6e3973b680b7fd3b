/- The walk of PackSaid over the seat's program, all cases: for every input it returns true, and makes new memory alone. -/
import Derived.Test.YtcbdbpcibhjkjabSaidA
import Derived.Test.YtcbdbpcibhjkjabSaidB
namespace Go.Proofs.Ytcbdbpcibhjkjab
open Go.ChangeShapes Go.WideShapes Go.ChangeAt Go.RowKit Go.Joins
theorem said_walk (k a x phase : Int) (d : Bool) (cs : List C3) (xs : List Int) {cv lv : Value} (_ : -9223372036854775808 ≤ phase) (_ : phase ≤ 9223372036854775807) (w : World) (hv : CasesAt w cv cs) (hl : WordsAt w lv xs) (hx : ∀ x ∈ xs, 0 ≤ x ∧ x < 18446744073709551616) :
    Calls Try.prog 7 #[.agg #[.int .i64 k, .int .i64 a, .int .i64 x, .bool d, cv], .int .i64 phase, lv] w fun e w' => e = .returned (.bool true) ∧ Below w.heap.size w w' := by
  obtain ⟨a1, c1, rfl⟩ := hv.form
  obtain ⟨a2, c2, rfl⟩ := hl.form
  by_cases hf : fitsB k a x cs = true ∧ inB phase 4294967295 = true
  · cases ho : (readG xs).ok
    · exact said_ny k a x phase d a1 a2 c1 c2 cs xs w hv hl hx (readG_no ho) hf.1 hf.2
    · exact said_yy k a x phase d a1 a2 c1 c2 cs xs (readG xs).kind (readG xs).arg (readG xs).value (readG xs).phase (readG xs).d (readG xs).cs w hv hl hx (readG_yes ho) (readG_ok ho) hf.1 hf.2
  · cases ho : (readG xs).ok
    · exact said_nn k a x phase d a1 a2 c1 c2 cs xs w hv hl hx (readG_no ho) hf
    · exact said_yn k a x phase d a1 a2 c1 c2 cs xs (readG xs).kind (readG xs).arg (readG xs).value (readG xs).phase (readG xs).d (readG xs).cs w hv hl hx (readG_yes ho) (readG_ok ho) hf
end Go.Proofs.Ytcbdbpcibhjkjab
