/- The walk of RefLess over the seat's program, all cases: for every input it returns true, and makes new memory alone. -/
import Derived.Test.YtcbdbpcibhjkjaaLessA
import Derived.Test.YtcbdbpcibhjkjaaLessB
import Derived.Test.YtcbdbpcibhjkjaaLessC
import Derived.Test.YtcbdbpcibhjkjaaLessD
import Derived.Test.YtcbdbpcibhjkjaaLessE
namespace Go.Proofs.Ytcbdbpcibhjkjaa
open Go.ChangeShapes Go.WideShapes Go.ChangeAt Go.RowKit Go.Joins
theorem less_walk (a b c d f g : Int) (_ : -9223372036854775808 ≤ a) (_ : a ≤ 9223372036854775807) (_ : -9223372036854775808 ≤ b) (_ : b ≤ 9223372036854775807) (_ : -9223372036854775808 ≤ c) (_ : c ≤ 9223372036854775807) (_ : -9223372036854775808 ≤ d) (_ : d ≤ 9223372036854775807) (_ : -9223372036854775808 ≤ f) (_ : f ≤ 9223372036854775807) (_ : -9223372036854775808 ≤ g) (_ : g ≤ 9223372036854775807) (w : World) :
    Calls Try.prog 7 #[.agg #[.int .i64 a, .int .i64 b], .agg #[.int .i64 c, .int .i64 d], .agg #[.int .i64 f, .int .i64 g]] w
    fun e w' => e = .returned (.bool true) ∧ Below w.heap.size w w' := by
  cases h1 : lessB a b c d
  · cases h2 : lessB c d a b
    · obtain ⟨rfl, rfl⟩ := less_same h1 h2
      exact less_w3 _ _ _ _ h1 h2 w
    · by_cases e : a = c
      · subst e
        exact less_w2b _ _ _ _ _ h1 h2 (by have := less_ne h2; simp at this ⊢; omega) w
      · exact less_w2a _ _ _ _ _ _ h1 h2 (by simpa using e) w
  · have h2 := less_anti h1
    by_cases e : a = c
    · subst e
      exact less_w1b _ _ _ _ _ h1 h2 (by have := less_ne h1; simp at this ⊢; omega) w
    · exact less_w1a _ _ _ _ _ _ h1 h2 (by simpa using e) w
end Go.Proofs.Ytcbdbpcibhjkjaa
