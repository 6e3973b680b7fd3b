/- Contracts of ref's and the reference's small functions (Less, Good), over the seat's program: each returns what a plain function of its numbers says, and makes new memory alone. No condition. -/
import Derived.Test.YtcbdbpcibhjkjaaRows
import Derived.WalkKit
import Derived.ProofKit
import Derived.OpenShut
import Derived.Lib.Hide
import Derived.Lib.SmallJoins
import Derived.BigQuiet
import Derived.Deep.RegionHeld3
namespace Go.Proofs.Ytcbdbpcibhjkjaa
open Go.ChangeShapes Go.WideShapes Go.ChangeAt Go.RowKit Go.Joins

def lessB (a b c d : Int) : Bool := if a = c then decide (b < d) else decide (a < c)

theorem bcell {W w1 : World} (hb : Below W.heap.size W w1) : (∀ b o, b < W.heap.size → w1.cell? ⟨b, o, none⟩ = W.cell? ⟨b, o, none⟩) ∧ (∀ b o, b < W.heap.size → w1.frozen? ⟨b, o, none⟩ = W.frozen? ⟨b, o, none⟩) :=
  ⟨fun b o h => hb.cell (p := ⟨b, o, none⟩) h, fun b o h => hb.frozen (p := ⟨b, o, none⟩) h⟩

theorem ret_bool {x y : Bool} (h : y = x) : Ending.returned (.bool x) = Ending.returned (.bool y) := by rw [h]

theorem less_any (a b c d : Int) (w : World) : Calls Try.prog 19 #[.agg #[.int .i64 a, .int .i64 b], .agg #[.int .i64 c, .int .i64 d]] w
    fun e w' => e = .returned (.bool (lessB a b c d)) ∧ (w.alloc (.cells #[.int .i64 a, .int .i64 b] 23)).alloc (.cells #[.int .i64 c, .int .i64 d] 23) = w' := by
  by_cases h : a = c
  · have hl : lessB a b c d = decide (b < d) := by simp [lessB, h]
    have HL := Lib.hid hl
    clear hl
    have h1 : (a == c) = true := by simp [h]
    have h2 : (a != c) = false := by simp [h]
    clear h
    go_enter Try.func19, Try.ntmps19
    go_wp2
    go_ret
    exact ⟨ret_bool HL.out, rfl⟩
  · have hl : lessB a b c d = decide (a < c) := by simp [lessB, h]
    have HL := Lib.hid hl
    clear hl
    have h1 : (a == c) = false := by simp [h]
    have h2 : (a != c) = true := by simp [h]
    clear h
    go_enter Try.func19, Try.ntmps19
    go_wp2
    go_ret
    exact ⟨ret_bool HL.out, rfl⟩

theorem rless_any (a b c d : Int) (w : World) : Calls Try.prog 20 #[.agg #[.int .i64 a, .int .i64 b], .agg #[.int .i64 c, .int .i64 d]] w
    fun e w' => e = .returned (.bool (lessB a b c d)) ∧ (w.alloc (.cells #[.int .i64 a, .int .i64 b] 23)).alloc (.cells #[.int .i64 c, .int .i64 d] 23) = w' := by
  by_cases h0 : a < c
  · have hl : lessB a b c d = true := by simp [lessB, h0, show ¬ a = c by omega]
    have HL := Lib.hid hl
    clear hl
    go_enter Try.func20, Try.ntmps20
    go_wp2
    go_ret
    exact ⟨ret_bool HL.out, rfl⟩
  · by_cases h : a = c
    · have hl : lessB a b c d = decide (b < d) := by simp [lessB, h]
      have HL := Lib.hid hl
      clear hl
      have h1 : (a == c) = true := by simp [h]
      have h3 : decide (a < c) = false := by simp; omega
      clear h
      go_enter Try.func20, Try.ntmps20
      go_wp2
      go_ret
      exact ⟨ret_bool HL.out, rfl⟩
    · have hl : lessB a b c d = false := by simp [lessB, h]; omega
      have HL := Lib.hid hl
      clear hl
      have h1 : (a == c) = false := by simp [h]
      have h3 : decide (a < c) = false := by simp; omega
      clear h
      go_enter Try.func20, Try.ntmps20
      go_wp2
      go_ret
      exact ⟨ret_bool HL.out, rfl⟩

end Go.Proofs.Ytcbdbpcibhjkjaa
