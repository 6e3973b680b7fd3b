/- The walk of PackEpochs over the seat's program: for every input it returns true, and makes new memory alone. -/
import Derived.Test.YtcbdbpcibhjkjabRanks
import Derived.Test.YtcbdbpcibhjkjabAwake
namespace Go.Proofs.Ytcbdbpcibhjkjab
open Go.ChangeShapes Go.WideShapes Go.ChangeAt Go.RowKit Go.Joins
theorem lets_0 (g : Int) (w : World) : Calls Try.prog 33 #[.int .u64 0, .int .i64 g] w fun e w' => e = .returned (.bool true) ∧ w = w' := lets_any 0 g w
theorem lets_own (g : Int) (w : World) : Calls Try.prog 33 #[.int .u64 (epI g), .int .i64 g] w fun e w' => e = .returned (.bool true) ∧ w = w' := by
  have := lets_any (epI g) g w
  rw [show letsB (epI g) g = true by simp [letsB]] at this
  exact this
set_option maxHeartbeats 1000000 in
theorem epochs_walk (g n : Int) (_ : -9223372036854775808 ≤ g) (_ : g ≤ 9223372036854775807) (_ : 0 ≤ n) (_ : n ≤ 18446744073709551615) (w : World) : Calls Try.prog 8 #[.int .i64 g, .int .u64 n] w
    fun e w' => e = .returned (.bool true) ∧ Below w.heap.size w w' := by
  go_enter Try.func8, Try.ntmps8
  go_wp2_with (first
    | (go_at_call 31; (with_reducible refine (epoch_any g _).mono ?_); rintro e w1 ⟨rfl, rfl⟩)
    | (go_at_call 32; (with_reducible refine (repoch_any g _).mono ?_); rintro e w1 ⟨rfl, rfl⟩)
    | (go_at_call 33; (with_reducible refine (lets_any n g _).mono ?_); rintro e w1 ⟨rfl, rfl⟩)
    | (go_at_call 34; (with_reducible refine (rlets_any n g _).mono ?_); rintro e w1 ⟨rfl, rfl⟩)
    | (go_at_call 33; (with_reducible refine (lets_0 g _).mono ?_); rintro e w1 ⟨rfl, rfl⟩)
    | (go_at_call 33; (with_reducible refine (lets_own g _).mono ?_); rintro e w1 ⟨rfl, rfl⟩)
    | (go_at_call 16; (with_reducible refine (awake_any _).mono ?_); rintro e w1 ⟨rfl, hb1⟩))
  go_ret
  exact ⟨rfl, hb1⟩
end Go.Proofs.Ytcbdbpcibhjkjab
