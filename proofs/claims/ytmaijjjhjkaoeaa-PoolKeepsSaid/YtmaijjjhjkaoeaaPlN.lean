/- Contracts of ref.Good, Next, Slot, of the reference's Next, and of owns, over the seat's program. -/
import Derived.Test.YtmaijjjhjkaoeaaPlB
namespace Go.Proofs.Ytmaijjjhjkaoeaa
open Go.ChangeShapes Go.WideShapes Go.ChangeAt Go.RowKit Go.Joins

def goodB (i t : Int) : Bool := decide (0 ≤ i) && decide (i ≤ 65534) && decide (1 ≤ t) && decide (t ≤ 4294967295)
theorem goodB_iff (i t : Int) : goodB i t = true ↔ 0 ≤ i ∧ i ≤ 65534 ∧ 1 ≤ t ∧ t ≤ 4294967295 := by simp [goodB]; omega

theorem good_any (i t : Int) (w : World) : Calls Try.prog 45 #[.agg #[.int .i64 i, .int .i64 t]] w
    fun e w' => e = .returned (.bool (goodB i t)) ∧ w.alloc (.cells #[.int .i64 i, .int .i64 t] 23) = w' := by
  go_enter Try.func45, Try.ntmps45
  go_wp2
  all_goals
    go_ret
    exact ⟨ret_bool (by simp [goodB]; omega), rfl⟩

theorem good_yes (i t : Int) (h : goodB i t = true) (w : World) : Calls Try.prog 45 #[.agg #[.int .i64 i, .int .i64 t]] w
    fun e w' => e = .returned (.bool true) ∧ w.alloc (.cells #[.int .i64 i, .int .i64 t] 23) = w' := by rw [← h]; exact good_any i t w
theorem good_no (i t : Int) (h : goodB i t = false) (w : World) : Calls Try.prog 45 #[.agg #[.int .i64 i, .int .i64 t]] w
    fun e w' => e = .returned (.bool false) ∧ w.alloc (.cells #[.int .i64 i, .int .i64 t] 23) = w' := by rw [← h]; exact good_any i t w
def nOk (i t last : Int) : Bool := goodB i (t + 1) && decide (t < last)
def nI (i t last : Int) : Int := if nOk i t last = true then i else 0
def nT (i t last : Int) : Int := if nOk i t last = true then t + 1 else 0
theorem nOk_iff (i t last : Int) : nOk i t last = true ↔ (0 ≤ i ∧ i ≤ 65534 ∧ 0 ≤ t ∧ t < 4294967295) ∧ t < last := by
  simp [nOk, goodB_iff]; omega

theorem next_any (i t last : Int) (lo : -9223372036854775808 ≤ t) (hl : last ≤ 9223372036854775807) (w : World) : Calls Try.prog 36 #[.agg #[.int .i64 i, .int .i64 t], .int .i64 last] w
    fun e w' => e = .returned (.tuple #[.agg #[.int .i64 (nI i t last), .int .i64 (nT i t last)], .bool (nOk i t last)]) ∧ Below w.heap.size w w' := by
  by_cases k : last ≤ t
  · have h : nOk i t last = false := by simp [nOk]; omega
    have H1 := Lib.hid (show nI i t last = 0 by simp [nI, h])
    have H2 := Lib.hid (show nT i t last = 0 by simp [nT, h])
    have H := Lib.hid h
    clear h
    go_enter Try.func36, Try.ntmps36
    go_wp2_with fail
    refine bodyPost_ret (v := .tuple #[.agg #[.int .i64 0, .int .i64 0], .bool false]) (by simp [results, Try.results36, go_sem]) rfl ⟨?_, ?_⟩
    · rw [H1.out, H2.out, H.out]
    · repeat (first | exact Below.refl _ _ | refine Below.alloc ?_ (by first | (simp; done) | (simp; omega)) _ | refine Below.setCell ?_ (by first | (simp; done) | (simp; omega)) _)
  · have k' : t < last := by omega
    have k1 : decide (last ≤ t) = false := by simp; omega
    clear k
    cases h : goodB i (t + 1)
    · have h' : nOk i t last = false := by simp [nOk, h]
      have H1 := Lib.hid (show nI i t last = 0 by simp [nI, h'])
      have H2 := Lib.hid (show nT i t last = 0 by simp [nT, h'])
      have H := Lib.hid h
      have H' := Lib.hid h'
      clear h h'
      go_enter Try.func36, Try.ntmps36
      go_wp2_with (go_at_call 45; refine (good_no _ _ H.out _).mono ?_; rintro e w' ⟨rfl, rfl⟩)
      refine bodyPost_ret (v := .tuple #[.agg #[.int .i64 0, .int .i64 0], .bool false]) (by simp [results, Try.results36, go_sem]) rfl ⟨?_, ?_⟩
      · rw [H1.out, H2.out, H'.out]
      · repeat (first | exact Below.refl _ _ | refine Below.alloc ?_ (by first | (simp; done) | (simp; omega)) _ | refine Below.setCell ?_ (by first | (simp; done) | (simp; omega)) _)
    · have h' : nOk i t last = true := by simp [nOk, h, k']
      have H1 := Lib.hid (show nI i t last = i by simp [nI, h'])
      have H2 := Lib.hid (show nT i t last = t + 1 by simp [nT, h'])
      have H := Lib.hid h
      have H' := Lib.hid h'
      clear h h'
      go_enter Try.func36, Try.ntmps36
      go_wp2_with (go_at_call 45; refine (good_yes _ _ H.out _).mono ?_; rintro e w' ⟨rfl, rfl⟩)
      refine bodyPost_ret (v := .tuple #[.agg #[.int .i64 i, .int .i64 (t + 1)], .bool true]) (by simp [results, Try.results36, go_sem]) rfl ⟨?_, ?_⟩
      · rw [H1.out, H2.out, H'.out]
      · repeat (first | exact Below.refl _ _ | refine Below.alloc ?_ (by first | (simp; done) | (simp; omega)) _ | refine Below.setCell ?_ (by first | (simp; done) | (simp; omega)) _)

theorem rnext_any (i t last : Int) (w : World) : Calls Try.prog 37 #[.agg #[.int .i64 i, .int .i64 t], .int .i64 last] w
    fun e w' => e = .returned (.tuple #[.agg #[.int .i64 (nI i t last), .int .i64 (nT i t last)], .bool (nOk i t last)]) ∧ Below w.heap.size w w' := by
  cases h : nOk i t last
  · have H1 := Lib.hid (show nI i t last = 0 by simp [nI, h])
    have H2 := Lib.hid (show nT i t last = 0 by simp [nT, h])
    have Hg : ¬ ((0 ≤ i ∧ i ≤ 65534 ∧ 0 ≤ t ∧ t < 4294967295) ∧ t < last) := fun hh => by
      have := (nOk_iff _ _ _).2 hh
      rw [h] at this
      exact absurd this (by simp)
    clear h
    go_enter Try.func37, Try.ntmps37
    go_wp2
    all_goals
      refine bodyPost_ret (v := .tuple #[.agg #[.int .i64 0, .int .i64 0], .bool false]) (by simp [results, Try.results37, go_sem]) rfl ⟨?_, ?_⟩
      · rw [H1.out, H2.out]
      · repeat (first | exact Below.refl _ _ | refine Below.alloc ?_ (by first | (simp; done) | (simp; omega)) _ | refine Below.setCell ?_ (by first | (simp; done) | (simp; omega)) _)
  · have H1 := Lib.hid (show nI i t last = i by simp [nI, h])
    have H2 := Lib.hid (show nT i t last = t + 1 by simp [nT, h])
    obtain ⟨⟨g1, g2, g3, g4⟩, g5⟩ := (nOk_iff _ _ _).1 h
    clear h
    have k1 : decide (t < 0) = false := by simp; omega
    have k2 : decide (last ≤ t) = false := by simp; omega
    have k3 : decide (4294967295 ≤ t) = false := by simp; omega
    have k4 : decide (i < 0) = false := by simp; omega
    have k5 : decide (65534 < i) = false := by simp; omega
    go_enter Try.func37, Try.ntmps37
    go_wp2
    refine bodyPost_ret (v := .tuple #[.agg #[.int .i64 i, .int .i64 (t + 1)], .bool true]) (by simp [results, Try.results37, go_sem]) rfl ⟨?_, ?_⟩
    · rw [H1.out, H2.out]
    · repeat (first | exact Below.refl _ _ | refine Below.alloc ?_ (by first | (simp; done) | (simp; omega)) _ | refine Below.setCell ?_ (by first | (simp; done) | (simp; omega)) _)
theorem slot_any (i t : Int) (w : World) : Calls Try.prog 40 #[.agg #[.int .i64 i, .int .i64 t]] w
    fun e w' => e = .returned (.agg #[.int .i64 i, .int .i64 t]) ∧ (w.alloc (.cells #[.int .i64 i, .int .i64 t] 23)).alloc (.cells #[.int .i64 i, .int .i64 t] 57) = w' := by
  go_enter Try.func40, Try.ntmps40
  go_wp2
  refine bodyPost_ret (v := .agg #[.int .i64 i, .int .i64 t]) (by simp [results, Try.results40, go_sem]) rfl ⟨rfl, rfl⟩

theorem next_no {i t last : Int} (h : nOk i t last = false) (lo : -9223372036854775808 ≤ t) (hl : last ≤ 9223372036854775807) (w : World) : Calls Try.prog 36 #[.agg #[.int .i64 i, .int .i64 t], .int .i64 last] w
    fun e w' => e = .returned (.tuple #[.agg #[.int .i64 0, .int .i64 0], .bool false]) ∧ Below w.heap.size w w' := by
  have := next_any i t last lo hl w
  rw [show nI i t last = 0 by simp [nI, h], show nT i t last = 0 by simp [nT, h], h] at this
  exact this
theorem next_yes {i t last : Int} (h : nOk i t last = true) (lo : -9223372036854775808 ≤ t) (hl : last ≤ 9223372036854775807) (w : World) : Calls Try.prog 36 #[.agg #[.int .i64 i, .int .i64 t], .int .i64 last] w
    fun e w' => e = .returned (.tuple #[.agg #[.int .i64 i, .int .i64 (t + 1)], .bool true]) ∧ Below w.heap.size w w' := by
  have := next_any i t last lo hl w
  rw [show nI i t last = i by simp [nI, h], show nT i t last = t + 1 by simp [nT, h], h] at this
  exact this


theorem rnext_no {i t last : Int} (h : nOk i t last = false) (w : World) : Calls Try.prog 37 #[.agg #[.int .i64 i, .int .i64 t], .int .i64 last] w
    fun e w' => e = .returned (.tuple #[.agg #[.int .i64 0, .int .i64 0], .bool false]) ∧ Below w.heap.size w w' := by
  have := rnext_any i t last w
  rw [show nI i t last = 0 by simp [nI, h], show nT i t last = 0 by simp [nT, h], h] at this
  exact this
theorem rnext_yes {i t last : Int} (h : nOk i t last = true) (w : World) : Calls Try.prog 37 #[.agg #[.int .i64 i, .int .i64 t], .int .i64 last] w
    fun e w' => e = .returned (.tuple #[.agg #[.int .i64 i, .int .i64 (t + 1)], .bool true]) ∧ Below w.heap.size w w' := by
  have := rnext_any i t last w
  rw [show nI i t last = i by simp [nI, h], show nT i t last = t + 1 by simp [nT, h], h] at this
  exact this

/-- Is there a node that is to be written? -/
theorem owns_any (pi pt : Int) (fa oa : Option Addr) (nf fc no oc : Nat) (ps : Int) (w : World) : Calls Try.prog 35 #[.agg #[.int .i64 pi, .int .i64 pt, .slice fa nf fc, .slice oa no oc, .int .i64 ps]] w
    fun e w' => e = .returned (.bool (pt != 0)) ∧ Below w.heap.size w w' := by
  go_enter Try.func35, Try.ntmps35
  go_wp2
  go_ret
  exact ⟨rfl, (Below.refl _ _).alloc (Nat.le_refl _) _⟩
theorem owns_eq {b : Bool} (pi pt : Int) (hb : (pt != 0) = b) (fa oa : Option Addr) (nf fc no oc : Nat) (ps : Int) (w : World) : Calls Try.prog 35 #[.agg #[.int .i64 pi, .int .i64 pt, .slice fa nf fc, .slice oa no oc, .int .i64 ps]] w
    fun e w' => e = .returned (.bool b) ∧ Below w.heap.size w w' := by rw [← hb]; exact owns_any pi pt fa oa nf fc no oc ps w
end Go.Proofs.Ytmaijjjhjkaoeaa
