/- The law's own example, over the seat's program: awake returns true, and makes new memory alone. No condition. -/
import Derived.Test.YtcbdbpcibhjkjaaNext
import Derived.Test.YtcbdbpcibhjkjaaPlace
namespace Go.Proofs.Ytcbdbpcibhjkjaa
open Go.ChangeShapes Go.WideShapes Go.ChangeAt Go.RowKit Go.Joins

theorem read_ex (w : World) : Calls Try.prog 9 #[.int .u64 131076] w
    fun e w' => e = .returned (.tuple #[.agg #[.int .i64 3, .int .i64 2], .bool true]) ∧ ((w.alloc (.cells #[.int .i64 3, .int .i64 2] 23)).alloc (.cells #[.int .i64 3, .int .i64 2] 23)).alloc (.cells #[.int .i64 3, .int .i64 2] 23) = w' := read_any 131076 (by omega) (by omega) w
theorem next_ex (w : World) : Calls Try.prog 16 #[.agg #[.int .i64 3, .int .i64 2], .int .i64 3] w
    fun e w' => e = .returned (.tuple #[.agg #[.int .i64 3, .int .i64 3], .bool true]) ∧ (((w.alloc (.cells #[.int .i64 3, .int .i64 2] 31)).alloc (.cells #[.int .i64 3, .int .i64 3] 23)).alloc (.cells #[.int .i64 3, .int .i64 3] 23)).alloc (.cells #[.int .i64 3, .int .i64 3] 23) = w' := by
  go_enter Try.func16, Try.ntmps16
  go_wp2
  exact bodyPost_ret (v := .tuple #[.agg #[.int .i64 3, .int .i64 3], .bool true]) (by simp [results, Try.results16, go_sem]) rfl ⟨rfl, rfl⟩
theorem next_none (w : World) : Calls Try.prog 16 #[.agg #[.int .i64 3, .int .i64 3], .int .i64 3] w
    fun e w' => e = .returned (.tuple #[.agg #[.int .i64 0, .int .i64 0], .bool false]) ∧ ((w.alloc (.cells #[.int .i64 3, .int .i64 3] 31)).alloc (.cells #[.int .i64 0, .int .i64 0] 23)).alloc (.cells #[.int .i64 3, .int .i64 4] 23) = w' := by
  go_enter Try.func16, Try.ntmps16
  go_wp2
  exact bodyPost_ret (v := .tuple #[.agg #[.int .i64 0, .int .i64 0], .bool false]) (by simp [results, Try.results16, go_sem]) rfl ⟨rfl, rfl⟩
theorem word_ex (w : World) : Calls Try.prog 13 #[.agg #[.int .i64 3, .int .i64 2]] w
    fun e w' => e = .returned (.int .u64 131076) ∧ (w.alloc (.cells #[.int .i64 3, .int .i64 2] 23)).alloc (.cells #[.int .i64 3, .int .i64 2] 23) = w' := word_any 3 2 w

theorem awake_any (w : World) : Calls Try.prog 15 #[] w fun e w' => e = .returned (.bool true) ∧ Below w.heap.size w w' := by
  go_enter Try.func15, Try.ntmps15
  go_wp2_with (first
    | (go_at_call 9; (with_reducible refine (read_ex _).mono ?_); rintro e w1 ⟨rfl, rfl⟩)
    | (go_at_call 16; (with_reducible refine (next_ex _).mono ?_); rintro e w2 ⟨rfl, rfl⟩)
    | (go_at_call 16; (with_reducible refine (next_none _).mono ?_); rintro e w3 ⟨rfl, rfl⟩)
    | (go_at_call 13; (with_reducible refine (word_ex _).mono ?_); rintro e w4 ⟨rfl, rfl⟩)
    | (go_at_call 23; (with_reducible refine (handle_any 1 1 _).mono ?_); rintro e w5 ⟨rfl, rfl⟩))
  go_ret
  refine ⟨rfl, ?_⟩
  repeat (first | exact Below.refl _ _ | refine Below.alloc ?_ (by first | (simp; done) | (simp; omega)) _)
end Go.Proofs.Ytcbdbpcibhjkjaa
