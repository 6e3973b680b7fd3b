/- The walk of RefNew over the seat's program: for any node and any last tag it returns true, and makes new memory alone. -/
import Derived.Test.YtcbdbpcibhjkjaaAwake
namespace Go.Proofs.Ytcbdbpcibhjkjaa
open Go.ChangeShapes Go.WideShapes Go.ChangeAt Go.RowKit Go.Joins

theorem size1 {w w1 : World} {o : Obj} (hb : Below (w.alloc o).heap.size (w.alloc o) w1) : w.heap.size < w1.heap.size := by
  have h := hb.size
  simp at h
  omega

theorem next_no {i t last : Int} (h : nOk i t last = false) (lo : -9223372036854775808 ≤ t) (hl : last ≤ 9223372036854775807) (w : World) : Calls Try.prog 16 #[.agg #[.int .i64 i, .int .i64 t], .int .i64 last] w
    fun e w' => e = .returned (.tuple #[.agg #[.int .i64 0, .int .i64 0], .bool false]) ∧ Below w.heap.size w w' := by
  have := next_any i t last lo hl w
  rw [show nI i t last = 0 by simp [nI, h], show nT i t last = 0 by simp [nT, h], h] at this
  exact this
theorem next_yes {i t last : Int} (h : nOk i t last = true) (lo : -9223372036854775808 ≤ t) (hl : last ≤ 9223372036854775807) (w : World) : Calls Try.prog 16 #[.agg #[.int .i64 i, .int .i64 t], .int .i64 last] w
    fun e w' => e = .returned (.tuple #[.agg #[.int .i64 i, .int .i64 (t + 1)], .bool true]) ∧ Below w.heap.size w w' := by
  have := next_any i t last lo hl w
  rw [show nI i t last = i by simp [nI, h], show nT i t last = t + 1 by simp [nT, h], h] at this
  exact this

theorem new_walk (i t last : Int) (_ : -9223372036854775808 ≤ i) (_ : i ≤ 9223372036854775807) (lo : -9223372036854775808 ≤ t) (_ : t ≤ 9223372036854775807) (_ : -9223372036854775808 ≤ last) (hl : last ≤ 9223372036854775807) (w : World) : Calls Try.prog 6 #[.agg #[.int .i64 i, .int .i64 t], .int .i64 last] w
    fun e w' => e = .returned (.bool true) ∧ Below w.heap.size w w' := by
  cases h : nOk i t last
  · have H := Lib.hid h
    clear h
    go_enter Try.func6, Try.ntmps6
    go_wp2_with (first
      | (go_at_call 16; (with_reducible refine (next_no H.out lo hl _).mono ?_); rintro e w1 ⟨rfl, hb1⟩; obtain ⟨hc1, hf1⟩ := bcell hb1; have hz1 := size1 hb1; have hn1 := Nat.ne_of_lt hz1)
      | (go_at_call 15; (with_reducible refine (awake_any _).mono ?_); rintro e w2 ⟨rfl, hb2⟩))
    go_ret
    exact ⟨rfl, ((((Below.refl _ _).alloc (Nat.le_refl _) _).trans (hb1.mono (by simp))).alloc (by omega) _).trans (hb2.mono (by simp; omega))⟩
  · have H := Lib.hid h
    obtain ⟨⟨g1, g2, g3, g4⟩, g5⟩ := (nOk_iff _ _ _).1 h
    have H2 := Lib.hid (show goodB i (t + 1) = true by rw [goodB_iff]; omega)
    have g6 : t + 1 ≤ last := by omega
    clear h
    go_enter Try.func6, Try.ntmps6
    go_wp2_with (first
      | (go_at_call 11; (with_reducible refine (good_yes _ _ H2.out _).mono ?_); rintro e w4 ⟨rfl, rfl⟩)
      | (go_at_call 16; (with_reducible refine (next_yes H.out lo hl _).mono ?_); rintro e w1 ⟨rfl, hb1⟩; obtain ⟨hc1, hf1⟩ := bcell hb1; have hz1 := size1 hb1; have hn1 := Nat.ne_of_lt hz1)
      | (go_at_call 15; (with_reducible refine (awake_any _).mono ?_); rintro e w2 ⟨rfl, hb2⟩))
    go_ret
    exact ⟨rfl, (((((Below.refl _ _).alloc (Nat.le_refl _) _).trans (hb1.mono (by simp))).alloc (by omega) _).alloc (by simp; omega) _).trans (hb2.mono (by simp; omega))⟩
end Go.Proofs.Ytcbdbpcibhjkjaa
