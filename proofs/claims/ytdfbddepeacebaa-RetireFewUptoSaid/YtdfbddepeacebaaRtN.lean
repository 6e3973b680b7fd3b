/- Contracts of ref.Good, Next, Slot, of the reference's Next, and of owns, over the seat's program. -/
import Derived.Test.YtdfbddepeacebaaPlB
namespace Go.Proofs.Ytdfbddepeacebaa
open Go.ChangeShapes Go.WideShapes Go.ChangeAt Go.RowKit Go.Joins

def goodB (i t : Int) : Bool := decide (0 ≤ i) && decide (i ≤ 65534) && decide (1 ≤ t) && decide (t ≤ 4294967295)
theorem goodB_iff (i t : Int) : goodB i t = true ↔ 0 ≤ i ∧ i ≤ 65534 ∧ 1 ≤ t ∧ t ≤ 4294967295 := by simp [goodB]; omega

theorem good_any (i t : Int) (w : World) : Calls Try.prog 42 #[.agg #[.int .i64 i, .int .i64 t]] w
    fun e w' => e = .returned (.bool (goodB i t)) ∧ w.alloc (.cells #[.int .i64 i, .int .i64 t] 23) = w' := by
  go_enter Try.func42, Try.ntmps42
  go_wp2
  all_goals
    go_ret
    exact ⟨ret_bool (by simp [goodB]; omega), rfl⟩

theorem good_yes (i t : Int) (h : goodB i t = true) (w : World) : Calls Try.prog 42 #[.agg #[.int .i64 i, .int .i64 t]] w
    fun e w' => e = .returned (.bool true) ∧ w.alloc (.cells #[.int .i64 i, .int .i64 t] 23) = w' := by rw [← h]; exact good_any i t w
theorem good_no (i t : Int) (h : goodB i t = false) (w : World) : Calls Try.prog 42 #[.agg #[.int .i64 i, .int .i64 t]] w
    fun e w' => e = .returned (.bool false) ∧ w.alloc (.cells #[.int .i64 i, .int .i64 t] 23) = w' := by rw [← h]; exact good_any i t w
theorem slot_any (i t : Int) (w : World) : Calls Try.prog 37 #[.agg #[.int .i64 i, .int .i64 t]] w
    fun e w' => e = .returned (.agg #[.int .i64 i, .int .i64 t]) ∧ (w.alloc (.cells #[.int .i64 i, .int .i64 t] 23)).alloc (.cells #[.int .i64 i, .int .i64 t] 46) = w' := by
  go_enter Try.func37, Try.ntmps37
  go_wp2
  refine bodyPost_ret (v := .agg #[.int .i64 i, .int .i64 t]) (by simp [results, Try.results37, go_sem]) rfl ⟨rfl, rfl⟩

/-- Is there a node that is to be written? -/
theorem owns_any (pi pt : Int) (fa oa : Option Addr) (nf fc no oc : Nat) (ps : Int) (w : World) : Calls Try.prog 41 #[.agg #[.int .i64 pi, .int .i64 pt, .slice fa nf fc, .slice oa no oc, .int .i64 ps]] w
    fun e w' => e = .returned (.bool (pt != 0)) ∧ Below w.heap.size w w' := by
  go_enter Try.func41, Try.ntmps41
  go_wp2
  go_ret
  exact ⟨rfl, (Below.refl _ _).alloc (Nat.le_refl _) _⟩
theorem owns_eq {b : Bool} (pi pt : Int) (hb : (pt != 0) = b) (fa oa : Option Addr) (nf fc no oc : Nat) (ps : Int) (w : World) : Calls Try.prog 41 #[.agg #[.int .i64 pi, .int .i64 pt, .slice fa nf fc, .slice oa no oc, .int .i64 ps]] w
    fun e w' => e = .returned (.bool b) ∧ Below w.heap.size w w' := by rw [← hb]; exact owns_any pi pt fa oa nf fc no oc ps w
end Go.Proofs.Ytdfbddepeacebaa
