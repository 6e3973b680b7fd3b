/- The contract of New over the seat's program, for a size that may be. -/
import Derived.Test.YtalkibpebfhoeaaNew
namespace Go.Proofs.Ytalkibpebfhoeaa
open Go.ChangeShapes Go.WideShapes Go.ChangeAt Go.RowKit Go.Joins
attribute [local go_sem ↓] Go.wp_at_zero Go.wp_at_succ
attribute [local go_sem] Try.zero40
set_option maxHeartbeats 3200000 in
theorem new_some (n : Nat) (h0 : 0 < n) (h1 : n ≤ 1048576) (w : World) : Calls Try.prog 6 #[.int .i64 n] w fun e w' => ∃ p, e = .returned (.pointer (some ⟨p, 0, none⟩)) ∧ MObj w' w.heap.size p w.heap.size n (.slice none 0 0) (fun _ => 0) false (fun _ => 0) ∧ Below w.heap.size w w' := by
  obtain ⟨i0, hi0, hz0, hz1, hz2⟩ := info_parts Try.info22
  have HI := Lib.hid (And.intro hi0 (And.intro hz0 (And.intro hz1 hz2)))
  clear hi0 hz0 hz1 hz2
  have e1 : decide ((n : Int) < 1) = false := by simp; omega
  have e2 : decide (1048576 < (n : Int)) = false := by simp; omega
  go_enter Try.func6, Try.ntmps6
  go_wp2_with (at_make; go_loud (refine wpList_make_full _ rfl _ _ 36 rfl w.heap.size 22 i0 (.int .u64 0) 1 Try.underlying36 HI.out.1 HI.out.2.1 HI.out.2.2.1 .i64 .i64 _ _ n rfl rfl rfl rfl (by rw [HI.out.2.2.2]; omega) (by unfold maxLen; omega) (Nat.le_refl _) ?_; intro w0 hown0 hgrow0))
  go_ret
  refine ⟨w0.heap.size, rfl, ?_, ?_⟩
  · have hz := (hown0.lt w.heap.size rfl).2
    have hp : ∀ j, (w0.alloc (.cells (Z0.setIfInBounds 0 (.slice (some ⟨w.heap.size, 0, none⟩) n n)) 40)).cell? ⟨w0.heap.size, j, none⟩ = (Z0.setIfInBounds 0 (.slice (some ⟨w.heap.size, 0, none⟩) n n))[j]? := fun j => cell_of_row _ _ _ _ 40 (0, 0) (heap_alloc_new w0 _)
    have hp' : ∀ j, j ≠ 0 → (w0.alloc (.cells (Z0.setIfInBounds 0 (.slice (some ⟨w.heap.size, 0, none⟩) n n)) 40)).cell? ⟨w0.heap.size, j, none⟩ = Z0[j]? := fun j hj => by rw [hp, Array.getElem?_setIfInBounds_ne (Ne.symm hj)]
    have hB := (Below.refl w0.heap.size w0).alloc (Nat.le_refl _) (.cells (Z0.setIfInBounds 0 (.slice (some ⟨w.heap.size, 0, none⟩) n n)) 40)
    refine ⟨?_, ?_, fun i hi => ?_, ?_, fun i _ => frozen_of_row _ _ _ _ 40 (heap_alloc_new w0 _), fun i hi => ?_, fun i hi => ?_, ⟨Nat.le_of_lt hz, by simp⟩, ⟨Nat.le_refl _, by simp; omega⟩, by omega, ⟨h0, by omega⟩⟩
    · rw [hp, Array.getElem?_setIfInBounds_self_of_lt (by rw [Z0_size]; omega)]
    · rw [hp' _ (by omega)]; exact Z0_log
    · rw [hp' _ (by omega)]; exact Z0_count i hi
    · rw [hp' _ (by omega)]; exact Z0_keep
    · rw [(bcell hB).1 _ _ hz, hown0.cellAt i (by omega)]
      simp [madeCells, hi, Value.cells, Nat.mod_one]
    · rw [(bcell hB).2 _ _ hz]
      exact hown0.frozenAt i
  · exact Below.alloc (Below.grown (Below.refl _ _) hgrow0 (Nat.le_refl _) (fun _ e => by cases e)) (by have := (hown0.lt w.heap.size rfl).2; omega) _
end Go.Proofs.Ytalkibpebfhoeaa
