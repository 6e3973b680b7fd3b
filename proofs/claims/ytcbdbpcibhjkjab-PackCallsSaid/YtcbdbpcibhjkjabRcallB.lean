/- The reference's Call over the seat's program: the words of a call of two cases. -/
import Derived.Test.YtcbdbpcibhjkjabCall
namespace Go.Proofs.Ytcbdbpcibhjkjab
open Go.ChangeShapes Go.WideShapes Go.ChangeAt Go.RowKit Go.Joins

set_option maxRecDepth 100000 in
set_option maxHeartbeats 3200000 in
theorem rcall_w2false (kind arg value phase x0 y0 z0 x1 y1 z1 : Int) (b off cap : Nat) (k1 : 1 ≤ kind) (k2 : kind ≤ 9) (a1 : 0 ≤ arg) (a2 : arg ≤ 65535) (v1 : 0 ≤ value) (v2 : value ≤ 4294967295) (p1 : 0 ≤ phase) (p2 : phase ≤ 4294967295) (dx0 : 1 ≤ x0) (ex0 : x0 ≤ 2) (dy0 : 0 ≤ y0) (ey0 : y0 ≤ 65535) (dz0 : 0 ≤ z0) (ez0 : z0 ≤ 4294967295) (dx1 : 1 ≤ x1) (ex1 : x1 ≤ 2) (dy1 : 0 ≤ y1) (ey1 : y1 ≤ 65535) (dz1 : 0 ≤ z1) (ez1 : z1 ≤ 4294967295) (w : World) (hb : b < w.heap.size) (c00 : w.cell? ⟨b, off, none⟩ = some (.int .i64 x0)) (c01 : w.cell? ⟨b, off + 1, none⟩ = some (.int .i64 y0)) (c02 : w.cell? ⟨b, off + 2, none⟩ = some (.int .i64 z0)) (c10 : w.cell? ⟨b, off + 3, none⟩ = some (.int .i64 x1)) (c11 : w.cell? ⟨b, off + 3 + 1, none⟩ = some (.int .i64 y1)) (c12 : w.cell? ⟨b, off + 3 + 2, none⟩ = some (.int .i64 z1))
    (hf : ∀ W, W = w.alloc (.cells #[.int .i64 kind, .int .i64 arg, .int .i64 value, .bool false, .slice (some ⟨b, off, none⟩) 2 cap] 37) → Calls Try.prog 26 #[.agg #[.int .i64 kind, .int .i64 arg, .int .i64 value, .bool false, .slice (some ⟨b, off, none⟩) 2 cap]] W fun e w' => e = .returned (.bool true) ∧ Below W.heap.size W w') :
    Calls Try.prog 29 #[.agg #[.int .i64 kind, .int .i64 arg, .int .i64 value, .bool false, .slice (some ⟨b, off, none⟩) 2 cap], .int .i64 phase] w (RetWords [kind + 512 + 65536 * arg + 4294967296 * value, x0 + 256 * y0 + 4294967296 * z0, x1 + 256 * y1 + 4294967296 * z1, 0, phase] w) := by
  have HF := Lib.hid (hf _ rfl)
  clear hf
  have p3 : decide (phase < 0) = false := by simp; omega
  have p4 : decide (4294967295 < phase) = false := by simp; omega
  go_enter Try.func29, Try.ntmps29
  go_wp2_with fail
  refine HF.out.mono ?_
  rintro e w1 ⟨rfl, hb1⟩
  obtain ⟨hc1, hf1⟩ := bcell hb1
  have m0 : w.heap.size < w1.heap.size := by have h := hb1.size; simp at h; omega
  have m1 : w.heap.size < w1.heap.size + 1 := by omega
  have m2 : w.heap.size < w1.heap.size + 1 + 1 := by omega
  have m3 : w.heap.size < w1.heap.size + 1 + 1 + 1 := by omega
  have m4 : w.heap.size < w1.heap.size + 1 + 1 + 1 + 1 := by omega
  have q0 : w1.cell? ⟨w.heap.size, 0, none⟩ = some (.int .i64 kind) := by rw [hc1 _ _ (by simp)]; go_simp
  have q1 : w1.cell? ⟨w.heap.size, 1, none⟩ = some (.int .i64 arg) := by rw [hc1 _ _ (by simp)]; go_simp
  have q2 : w1.cell? ⟨w.heap.size, 2, none⟩ = some (.int .i64 value) := by rw [hc1 _ _ (by simp)]; go_simp
  have q3 : w1.cell? ⟨w.heap.size, 3, none⟩ = some (.bool false) := by rw [hc1 _ _ (by simp)]; go_simp
  have q4 : w1.cell? ⟨w.heap.size, 4, none⟩ = some (.slice (some ⟨b, off, none⟩) 2 cap) := by rw [hc1 _ _ (by simp)]; go_simp
  have n0 : b < w1.heap.size := by omega
  have n1 : b < w1.heap.size + 1 := by omega
  have n2 : b < w1.heap.size + 1 + 1 := by omega
  have n3 : b < w1.heap.size + 1 + 1 + 1 := by omega
  have n4 : b < w1.heap.size + 1 + 1 + 1 + 1 := by omega
  have t00 : w1.cell? ⟨b, off, none⟩ = some (.int .i64 x0) := by rw [hc1 _ _ (by simp; omega)]; go_simp
  have t01 : w1.cell? ⟨b, off + 1, none⟩ = some (.int .i64 y0) := by rw [hc1 _ _ (by simp; omega)]; go_simp
  have t02 : w1.cell? ⟨b, off + 2, none⟩ = some (.int .i64 z0) := by rw [hc1 _ _ (by simp; omega)]; go_simp
  have t10 : w1.cell? ⟨b, off + 3, none⟩ = some (.int .i64 x1) := by rw [hc1 _ _ (by simp; omega)]; go_simp
  have t11 : w1.cell? ⟨b, off + 3 + 1, none⟩ = some (.int .i64 y1) := by rw [hc1 _ _ (by simp; omega)]; go_simp
  have t12 : w1.cell? ⟨b, off + 3 + 2, none⟩ = some (.int .i64 z1) := by rw [hc1 _ _ (by simp; omega)]; go_simp
  clear hc1 hf1 c00 c01 c02 c10 c11 c12
  go_wp2
  refine wp_loop_rounds 3 ?_
  rw [rounds_succ]
  go_wp2
  rw [rounds_succ]
  go_wp2
  rw [rounds_succ]
  go_wp2
  go_ret
  refine ⟨_, rfl, .inr ⟨w1.heap.size, 0, 5, rfl, ?_, by simp, ?_⟩, ?_⟩
  · first | (simp; done) | (simp; omega)
  · intro i hi
    have hi' : i = 0 ∨ i = 1 ∨ i = 2 ∨ i = 3 ∨ i = 4 := by simp at hi; omega
    rcases hi' with rfl | rfl | rfl | rfl | rfl <;> go_simp
  · refine Below.trans (Below.trans ((Below.refl _ _).alloc (Nat.le_refl _) _) (hb1.mono (by simp))) ?_
    repeat' (first | with_reducible exact Below.refl _ _ | with_reducible refine Below.alloc ?_ ?_ _ | with_reducible refine Below.setCell ?_ ?_ _ | (simp; done) | (simp; omega) | omega)

set_option maxRecDepth 100000 in
set_option maxHeartbeats 3200000 in
theorem rcall_w2true (kind arg value phase x0 y0 z0 x1 y1 z1 : Int) (b off cap : Nat) (k1 : 1 ≤ kind) (k2 : kind ≤ 9) (a1 : 0 ≤ arg) (a2 : arg ≤ 65535) (v1 : 0 ≤ value) (v2 : value ≤ 4294967295) (p1 : 0 ≤ phase) (p2 : phase ≤ 4294967295) (dx0 : 1 ≤ x0) (ex0 : x0 ≤ 2) (dy0 : 0 ≤ y0) (ey0 : y0 ≤ 65535) (dz0 : 0 ≤ z0) (ez0 : z0 ≤ 4294967295) (dx1 : 1 ≤ x1) (ex1 : x1 ≤ 2) (dy1 : 0 ≤ y1) (ey1 : y1 ≤ 65535) (dz1 : 0 ≤ z1) (ez1 : z1 ≤ 4294967295) (w : World) (hb : b < w.heap.size) (c00 : w.cell? ⟨b, off, none⟩ = some (.int .i64 x0)) (c01 : w.cell? ⟨b, off + 1, none⟩ = some (.int .i64 y0)) (c02 : w.cell? ⟨b, off + 2, none⟩ = some (.int .i64 z0)) (c10 : w.cell? ⟨b, off + 3, none⟩ = some (.int .i64 x1)) (c11 : w.cell? ⟨b, off + 3 + 1, none⟩ = some (.int .i64 y1)) (c12 : w.cell? ⟨b, off + 3 + 2, none⟩ = some (.int .i64 z1))
    (hf : ∀ W, W = w.alloc (.cells #[.int .i64 kind, .int .i64 arg, .int .i64 value, .bool true, .slice (some ⟨b, off, none⟩) 2 cap] 37) → Calls Try.prog 26 #[.agg #[.int .i64 kind, .int .i64 arg, .int .i64 value, .bool true, .slice (some ⟨b, off, none⟩) 2 cap]] W fun e w' => e = .returned (.bool true) ∧ Below W.heap.size W w') :
    Calls Try.prog 29 #[.agg #[.int .i64 kind, .int .i64 arg, .int .i64 value, .bool true, .slice (some ⟨b, off, none⟩) 2 cap], .int .i64 phase] w (RetWords [kind + 512 + 65536 * arg + 4294967296 * value + 4096, x0 + 256 * y0 + 4294967296 * z0, x1 + 256 * y1 + 4294967296 * z1, 0, phase] w) := by
  have HF := Lib.hid (hf _ rfl)
  clear hf
  have p3 : decide (phase < 0) = false := by simp; omega
  have p4 : decide (4294967295 < phase) = false := by simp; omega
  go_enter Try.func29, Try.ntmps29
  go_wp2_with fail
  refine HF.out.mono ?_
  rintro e w1 ⟨rfl, hb1⟩
  obtain ⟨hc1, hf1⟩ := bcell hb1
  have m0 : w.heap.size < w1.heap.size := by have h := hb1.size; simp at h; omega
  have m1 : w.heap.size < w1.heap.size + 1 := by omega
  have m2 : w.heap.size < w1.heap.size + 1 + 1 := by omega
  have m3 : w.heap.size < w1.heap.size + 1 + 1 + 1 := by omega
  have m4 : w.heap.size < w1.heap.size + 1 + 1 + 1 + 1 := by omega
  have q0 : w1.cell? ⟨w.heap.size, 0, none⟩ = some (.int .i64 kind) := by rw [hc1 _ _ (by simp)]; go_simp
  have q1 : w1.cell? ⟨w.heap.size, 1, none⟩ = some (.int .i64 arg) := by rw [hc1 _ _ (by simp)]; go_simp
  have q2 : w1.cell? ⟨w.heap.size, 2, none⟩ = some (.int .i64 value) := by rw [hc1 _ _ (by simp)]; go_simp
  have q3 : w1.cell? ⟨w.heap.size, 3, none⟩ = some (.bool true) := by rw [hc1 _ _ (by simp)]; go_simp
  have q4 : w1.cell? ⟨w.heap.size, 4, none⟩ = some (.slice (some ⟨b, off, none⟩) 2 cap) := by rw [hc1 _ _ (by simp)]; go_simp
  have n0 : b < w1.heap.size := by omega
  have n1 : b < w1.heap.size + 1 := by omega
  have n2 : b < w1.heap.size + 1 + 1 := by omega
  have n3 : b < w1.heap.size + 1 + 1 + 1 := by omega
  have n4 : b < w1.heap.size + 1 + 1 + 1 + 1 := by omega
  have t00 : w1.cell? ⟨b, off, none⟩ = some (.int .i64 x0) := by rw [hc1 _ _ (by simp; omega)]; go_simp
  have t01 : w1.cell? ⟨b, off + 1, none⟩ = some (.int .i64 y0) := by rw [hc1 _ _ (by simp; omega)]; go_simp
  have t02 : w1.cell? ⟨b, off + 2, none⟩ = some (.int .i64 z0) := by rw [hc1 _ _ (by simp; omega)]; go_simp
  have t10 : w1.cell? ⟨b, off + 3, none⟩ = some (.int .i64 x1) := by rw [hc1 _ _ (by simp; omega)]; go_simp
  have t11 : w1.cell? ⟨b, off + 3 + 1, none⟩ = some (.int .i64 y1) := by rw [hc1 _ _ (by simp; omega)]; go_simp
  have t12 : w1.cell? ⟨b, off + 3 + 2, none⟩ = some (.int .i64 z1) := by rw [hc1 _ _ (by simp; omega)]; go_simp
  clear hc1 hf1 c00 c01 c02 c10 c11 c12
  go_wp2
  refine wp_loop_rounds 3 ?_
  rw [rounds_succ]
  go_wp2
  rw [rounds_succ]
  go_wp2
  rw [rounds_succ]
  go_wp2
  go_ret
  refine ⟨_, rfl, .inr ⟨w1.heap.size, 0, 5, rfl, ?_, by simp, ?_⟩, ?_⟩
  · first | (simp; done) | (simp; omega)
  · intro i hi
    have hi' : i = 0 ∨ i = 1 ∨ i = 2 ∨ i = 3 ∨ i = 4 := by simp at hi; omega
    rcases hi' with rfl | rfl | rfl | rfl | rfl <;> go_simp
  · refine Below.trans (Below.trans ((Below.refl _ _).alloc (Nat.le_refl _) _) (hb1.mono (by simp))) ?_
    repeat' (first | with_reducible exact Below.refl _ _ | with_reducible refine Below.alloc ?_ ?_ _ | with_reducible refine Below.setCell ?_ ?_ _ | (simp; done) | (simp; omega) | omega)
end Go.Proofs.Ytcbdbpcibhjkjab
