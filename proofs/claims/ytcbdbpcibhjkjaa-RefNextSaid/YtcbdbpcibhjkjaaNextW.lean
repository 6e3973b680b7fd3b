/- The walk of RefNext over the seat's program: for every input it returns true, and makes new memory alone. -/
import Derived.Test.YtcbdbpcibhjkjaaNewW
import Derived.Deep.DrawnRows
namespace Go.Proofs.Ytcbdbpcibhjkjaa
open Go.ChangeShapes Go.WideShapes Go.ChangeAt Go.RowKit Go.Joins
attribute [local go_sem ↓] Go.wp_at_zero Go.wp_at_succ

theorem rnext_exact (i t last : Int) (w : World) : Calls Try.prog 17 #[.agg #[.int .i64 i, .int .i64 t], .int .i64 last] w
    fun e w' => e = .returned (.tuple #[.agg #[.int .i64 (nI i t last), .int .i64 (nT i t last)], .bool (nOk i t last)]) ∧ (w.alloc (.cells #[.int .i64 i, .int .i64 t] 31)).alloc (.cells #[.int .i64 (nI i t last), .int .i64 (nT i t last)] 23) = w' := by
  cases h : nOk i t last
  · have H1 := Lib.hid (show nI i t last = 0 by simp [nI, h])
    have H2 := Lib.hid (show nT i t last = 0 by simp [nT, h])
    have Hg : ¬ ((0 ≤ i ∧ i ≤ 65534 ∧ 0 ≤ t ∧ t < 4294967295) ∧ t < last) := fun hh => by
      have := (nOk_iff _ _ _).2 hh
      rw [h] at this
      exact absurd this (by simp)
    clear h
    go_enter Try.func17, Try.ntmps17
    go_wp2
    all_goals
      refine bodyPost_ret (v := .tuple #[.agg #[.int .i64 0, .int .i64 0], .bool false]) (by simp [results, Try.results17, go_sem]) rfl ⟨?_, ?_⟩
      · rw [H1.out, H2.out]
      · rw [H1.out, H2.out]
  · have H1 := Lib.hid (show nI i t last = i by simp [nI, h])
    have H2 := Lib.hid (show nT i t last = t + 1 by simp [nT, h])
    obtain ⟨⟨g1, g2, g3, g4⟩, g5⟩ := (nOk_iff _ _ _).1 h
    clear h
    have k1 : decide (t < 0) = false := by simp; omega
    have k2 : decide (last ≤ t) = false := by simp; omega
    have k3 : decide (4294967295 ≤ t) = false := by simp; omega
    have k4 : decide (i < 0) = false := by simp; omega
    have k5 : decide (65534 < i) = false := by simp; omega
    go_enter Try.func17, Try.ntmps17
    go_wp2
    refine bodyPost_ret (v := .tuple #[.agg #[.int .i64 i, .int .i64 (t + 1)], .bool true]) (by simp [results, Try.results17, go_sem]) rfl ⟨?_, ?_⟩
    · rw [H1.out, H2.out]
    · rw [H1.out, H2.out]

theorem size2 {w w1 : World} {o p : Obj} (hb : Below ((w.alloc o).alloc p).heap.size ((w.alloc o).alloc p) w1) : w.heap.size + 1 < w1.heap.size := by
  have h := hb.size
  simp at h
  omega

set_option maxRecDepth 100000 in
set_option maxHeartbeats 3200000 in
theorem next_walk (i t last j u : Int) (_ : -9223372036854775808 ≤ i) (_ : i ≤ 9223372036854775807) (lo : -9223372036854775808 ≤ t) (_ : t ≤ 9223372036854775807) (_ : -9223372036854775808 ≤ last) (hl : last ≤ 9223372036854775807) (_ : -9223372036854775808 ≤ j) (_ : j ≤ 9223372036854775807) (_ : -9223372036854775808 ≤ u) (_ : u ≤ 9223372036854775807) (w : World) : Calls Try.prog 5 #[.agg #[.int .i64 i, .int .i64 t], .int .i64 last, .agg #[.int .i64 j, .int .i64 u]] w
    fun e w' => e = .returned (.bool true) ∧ Below w.heap.size w w' := by
  go_enter Try.func5, Try.ntmps5
  go_wp2_with (first
    | (go_at_call 16; (with_reducible refine (next_any i t last lo hl _).mono ?_); rintro e w1 ⟨rfl, hb1⟩; obtain ⟨hc1, hf1⟩ := bcell hb1; have hz1 := size2 hb1; have hz2 := Nat.lt_of_succ_lt hz1; have hn1 := Nat.ne_of_lt hz1; have hn2 := Nat.ne_of_lt hz2)
    | (go_at_call 17; (with_reducible refine (rnext_exact i t last _).mono ?_); rintro e w2 ⟨rfl, rfl⟩))
  have hr0 : w1.cell? ⟨w.heap.size + 1, 0, none⟩ = some (.int .i64 j) := by rw [hc1 _ _ (by simp)]; go_simp
  have hr1 : w1.cell? ⟨w.heap.size + 1, 1, none⟩ = some (.int .i64 u) := by rw [hc1 _ _ (by simp)]; go_simp
  clear hc1 hf1
  have m1 : w.heap.size < w1.heap.size + 1 := by omega
  have m2 : w.heap.size < w1.heap.size + 1 + 1 := by omega
  have m3 : w.heap.size < w1.heap.size + 1 + 1 + 1 := by omega
  have m4 : w.heap.size < w1.heap.size + 1 + 1 + 1 + 1 := by omega
  go_region_held3 (fun w' => w'.cell? ⟨w.heap.size + 1, 0, none⟩ = some (.int .i64 j) ∧ w'.cell? ⟨w.heap.size + 1, 1, none⟩ = some (.int .i64 u) ∧
      w'.cell? ⟨w1.heap.size, 0, none⟩ = some (.int .i64 (nI i t last)) ∧ w'.cell? ⟨w1.heap.size, 1, none⟩ = some (.int .i64 (nT i t last)) ∧
      w'.cell? ⟨w1.heap.size + 1 + 1 + 1, 0, none⟩ = some (.int .i64 (nI i t last)) ∧ w'.cell? ⟨w1.heap.size + 1 + 1 + 1, 1, none⟩ = some (.int .i64 (nT i t last)))
    (first | (go_simp; done) | go_keep)
    (first
    | (go_at_call 18; (with_reducible refine (slot_any j u _).mono ?_); rintro e w3 ⟨rfl, rfl⟩)
    | (go_at_call 15; (with_reducible refine (awake_any _).mono ?_); rintro e w4 ⟨rfl, hb2⟩; obtain ⟨hc2, hf2⟩ := bcell hb2))
  all_goals go_wp2
  all_goals go_ret
  all_goals
    refine ⟨rfl, Below.trans (Below.trans ?_ (hb1.mono (by first | (simp; done) | (simp; omega) | omega))) (Below.trans ?_ (hb2.mono (by first | (simp; done) | (simp; omega) | omega)))⟩
    all_goals repeat (first | exact Below.refl _ _ | refine Below.drew ?_ | refine Below.alloc ?_ (by first | (simp; done) | (simp; omega) | omega) _)
end Go.Proofs.Ytcbdbpcibhjkjaa
