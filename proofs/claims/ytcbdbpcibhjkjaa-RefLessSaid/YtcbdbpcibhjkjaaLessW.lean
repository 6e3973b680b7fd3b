/- The walk of RefLess over the seat's program: for every input it returns true, and makes new memory alone. -/
import Derived.Test.YtcbdbpcibhjkjaaBackW
import Derived.Deep.DrawnRows
namespace Go.Proofs.Ytcbdbpcibhjkjaa
open Go.ChangeShapes Go.WideShapes Go.ChangeAt Go.RowKit Go.Joins
attribute [local go_sem ↓] Go.wp_at_zero Go.wp_at_succ

theorem less_eq {x : Bool} (a b c d : Int) (h : lessB a b c d = x) (w : World) : Calls Try.prog 19 #[.agg #[.int .i64 a, .int .i64 b], .agg #[.int .i64 c, .int .i64 d]] w
    fun e w' => e = .returned (.bool x) ∧ (w.alloc (.cells #[.int .i64 a, .int .i64 b] 23)).alloc (.cells #[.int .i64 c, .int .i64 d] 23) = w' := by
  rw [← h]; exact less_any a b c d w
theorem rless_eq {x : Bool} (a b c d : Int) (h : lessB a b c d = x) (w : World) : Calls Try.prog 20 #[.agg #[.int .i64 a, .int .i64 b], .agg #[.int .i64 c, .int .i64 d]] w
    fun e w' => e = .returned (.bool x) ∧ (w.alloc (.cells #[.int .i64 a, .int .i64 b] 23)).alloc (.cells #[.int .i64 c, .int .i64 d] 23) = w' := by
  rw [← h]; exact rless_any a b c d w

theorem less_anti {a b c d : Int} (h : lessB a b c d = true) : lessB c d a b = false := by
  unfold lessB at h ⊢
  split at h <;> rename_i k
  · subst k; simp at h ⊢; omega
  · rw [if_neg (fun e => k e.symm)]; simp at h ⊢; omega
theorem less_same {a b c d : Int} (h : lessB a b c d = false) (k : lessB c d a b = false) : a = c ∧ b = d := by
  unfold lessB at h k
  by_cases e : a = c
  · subst e; simp at h k; exact ⟨rfl, by omega⟩
  · rw [if_neg e] at h; rw [if_neg (fun x => e x.symm)] at k; simp at h k; omega
theorem less_ne {a b c d : Int} (h : lessB a b c d = true) : ¬ (a = c ∧ b = d) := by
  rintro ⟨rfl, rfl⟩
  simp [lessB] at h
theorem less_trans {a b c d e f : Int} (h : lessB a b c d = true) (k : lessB c d e f = true) : lessB a b e f = true := by
  unfold lessB at h k ⊢
  by_cases h1 : a = c
  · subst h1
    by_cases h2 : a = e
    · subst h2; simp at h k ⊢; omega
    · simp [h2] at h k ⊢; omega
  · rw [if_neg h1] at h
    by_cases h2 : c = e
    · subst h2; simp [h1] at h ⊢; omega
    · rw [if_neg h2] at k; simp at h k; rw [if_neg (by omega)]; simp; omega
end Go.Proofs.Ytcbdbpcibhjkjaa
