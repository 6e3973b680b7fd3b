/- The contract of New over the seat's program (under way). -/
import Derived.Test.YtalkibpebfhoeaaAcc
namespace Go.Proofs.Ytalkibpebfhoeaa
open Go.ChangeShapes Go.WideShapes Go.ChangeAt Go.RowKit Go.Joins
def Z0 : Array Value := #[.slice none 0 0, .slice none 0 0] ++ Array.replicate 64 (.int .i64 0) ++ #[.bool false]
theorem Z0_size : Z0.size = 67 := by simp [Z0]
theorem Z0_count (i : Nat) (h : i < 64) : Z0[2 + i]? = some (.int .i64 0) := by
  unfold Z0
  rw [Array.getElem?_append_left (by simp; omega), Array.getElem?_append_right (by simp)]
  simp [h]
theorem Z0_log : Z0[1]? = some (.slice none 0 0) := by simp [Z0]
theorem Z0_keep : Z0[66]? = some (.bool false) := by kernel_rfl
theorem Try.info40 : (Try.prog.info? 40).map (fun i => (i.zero, i.size)) = some (some (Value.agg Z0), 67) := by kernel_rfl
theorem Try.zero40 (w : World) : (zeroValue 40).run Try.prog w = .ok (.agg Z0) w := by
  have h := Try.info40
  cases hq : Try.prog.info? 40 with
  | none => rw [hq] at h; cases h
  | some i =>
    rw [hq] at h
    simp only [Option.map_some, Option.some.injEq, Prod.mk.injEq] at h
    simp [zeroValue, typeInfo, hq, h.1, go_sem]
theorem Try.info22 : (Try.prog.info? 22).map (fun i => (i.zero, i.size, i.bytes)) = some (some (.int .u64 0), 1, 8) := by kernel_rfl
end Go.Proofs.Ytalkibpebfhoeaa
