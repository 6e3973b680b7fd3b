/- Contracts of ref.Next and the reference's Next over the seat's program: each returns what a plain function of its numbers says, and makes new memory alone. -/
import Derived.Test.YtcbdbpcibhjkjaaRead
namespace Go.Proofs.Ytcbdbpcibhjkjaa
open Go.ChangeShapes Go.WideShapes Go.ChangeAt Go.RowKit Go.Joins

def nOk (i t last : Int) : Bool := goodB i (t + 1) && decide (t < last)
def nI (i t last : Int) : Int := if nOk i t last = true then i else 0
def nT (i t last : Int) : Int := if nOk i t last = true then t + 1 else 0
theorem nOk_iff (i t last : Int) : nOk i t last = true ↔ (0 ≤ i ∧ i ≤ 65534 ∧ 0 ≤ t ∧ t < 4294967295) ∧ t < last := by
  simp [nOk, goodB_iff]; omega

theorem next_any (i t last : Int) (lo : -9223372036854775808 ≤ t) (hl : last ≤ 9223372036854775807) (w : World) : Calls Try.prog 16 #[.agg #[.int .i64 i, .int .i64 t], .int .i64 last] w
    fun e w' => e = .returned (.tuple #[.agg #[.int .i64 (nI i t last), .int .i64 (nT i t last)], .bool (nOk i t last)]) ∧ Below w.heap.size w w' := by
  by_cases k : last ≤ t
  · have h : nOk i t last = false := by simp [nOk]; omega
    have H1 := Lib.hid (show nI i t last = 0 by simp [nI, h])
    have H2 := Lib.hid (show nT i t last = 0 by simp [nT, h])
    have H := Lib.hid h
    clear h
    go_enter Try.func16, Try.ntmps16
    go_wp2_with fail
    refine bodyPost_ret (v := .tuple #[.agg #[.int .i64 0, .int .i64 0], .bool false]) (by simp [results, Try.results16, go_sem]) rfl ⟨?_, ?_⟩
    · rw [H1.out, H2.out, H.out]
    · repeat (first | exact Below.refl _ _ | refine Below.alloc ?_ (by first | (simp; done) | (simp; omega)) _ | refine Below.setCell ?_ (by first | (simp; done) | (simp; omega)) _)
  · have k' : t < last := by omega
    have k1 : decide (last ≤ t) = false := by simp; omega
    clear k
    cases h : goodB i (t + 1)
    · have h' : nOk i t last = false := by simp [nOk, h]
      have H1 := Lib.hid (show nI i t last = 0 by simp [nI, h'])
      have H2 := Lib.hid (show nT i t last = 0 by simp [nT, h'])
      have H := Lib.hid h
      have H' := Lib.hid h'
      clear h h'
      go_enter Try.func16, Try.ntmps16
      go_wp2_with (go_at_call 11; refine (good_no _ _ H.out _).mono ?_; rintro e w' ⟨rfl, rfl⟩)
      refine bodyPost_ret (v := .tuple #[.agg #[.int .i64 0, .int .i64 0], .bool false]) (by simp [results, Try.results16, go_sem]) rfl ⟨?_, ?_⟩
      · rw [H1.out, H2.out, H'.out]
      · repeat (first | exact Below.refl _ _ | refine Below.alloc ?_ (by first | (simp; done) | (simp; omega)) _ | refine Below.setCell ?_ (by first | (simp; done) | (simp; omega)) _)
    · have h' : nOk i t last = true := by simp [nOk, h, k']
      have H1 := Lib.hid (show nI i t last = i by simp [nI, h'])
      have H2 := Lib.hid (show nT i t last = t + 1 by simp [nT, h'])
      have H := Lib.hid h
      have H' := Lib.hid h'
      clear h h'
      go_enter Try.func16, Try.ntmps16
      go_wp2_with (go_at_call 11; refine (good_yes _ _ H.out _).mono ?_; rintro e w' ⟨rfl, rfl⟩)
      refine bodyPost_ret (v := .tuple #[.agg #[.int .i64 i, .int .i64 (t + 1)], .bool true]) (by simp [results, Try.results16, go_sem]) rfl ⟨?_, ?_⟩
      · rw [H1.out, H2.out, H'.out]
      · repeat (first | exact Below.refl _ _ | refine Below.alloc ?_ (by first | (simp; done) | (simp; omega)) _ | refine Below.setCell ?_ (by first | (simp; done) | (simp; omega)) _)

theorem rnext_any (i t last : Int) (w : World) : Calls Try.prog 17 #[.agg #[.int .i64 i, .int .i64 t], .int .i64 last] w
    fun e w' => e = .returned (.tuple #[.agg #[.int .i64 (nI i t last), .int .i64 (nT i t last)], .bool (nOk i t last)]) ∧ Below w.heap.size w w' := by
  cases h : nOk i t last
  · have H1 := Lib.hid (show nI i t last = 0 by simp [nI, h])
    have H2 := Lib.hid (show nT i t last = 0 by simp [nT, h])
    have Hg : ¬ ((0 ≤ i ∧ i ≤ 65534 ∧ 0 ≤ t ∧ t < 4294967295) ∧ t < last) := fun hh => by
      have := (nOk_iff _ _ _).2 hh
      rw [h] at this
      exact absurd this (by simp)
    clear h
    go_enter Try.func17, Try.ntmps17
    go_wp2
    all_goals
      refine bodyPost_ret (v := .tuple #[.agg #[.int .i64 0, .int .i64 0], .bool false]) (by simp [results, Try.results17, go_sem]) rfl ⟨?_, ?_⟩
      · rw [H1.out, H2.out]
      · repeat (first | exact Below.refl _ _ | refine Below.alloc ?_ (by first | (simp; done) | (simp; omega)) _ | refine Below.setCell ?_ (by first | (simp; done) | (simp; omega)) _)
  · have H1 := Lib.hid (show nI i t last = i by simp [nI, h])
    have H2 := Lib.hid (show nT i t last = t + 1 by simp [nT, h])
    obtain ⟨⟨g1, g2, g3, g4⟩, g5⟩ := (nOk_iff _ _ _).1 h
    clear h
    have k1 : decide (t < 0) = false := by simp; omega
    have k2 : decide (last ≤ t) = false := by simp; omega
    have k3 : decide (4294967295 ≤ t) = false := by simp; omega
    have k4 : decide (i < 0) = false := by simp; omega
    have k5 : decide (65534 < i) = false := by simp; omega
    go_enter Try.func17, Try.ntmps17
    go_wp2
    refine bodyPost_ret (v := .tuple #[.agg #[.int .i64 i, .int .i64 (t + 1)], .bool true]) (by simp [results, Try.results17, go_sem]) rfl ⟨?_, ?_⟩
    · rw [H1.out, H2.out]
    · repeat (first | exact Below.refl _ _ | refine Below.alloc ?_ (by first | (simp; done) | (simp; omega)) _ | refine Below.setCell ?_ (by first | (simp; done) | (simp; omega)) _)
end Go.Proofs.Ytcbdbpcibhjkjaa
