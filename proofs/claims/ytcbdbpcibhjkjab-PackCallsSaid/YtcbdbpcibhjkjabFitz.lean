/- The contract of Fits over the seat's program. -/
import Derived.Test.YtcbdbpcibhjkjabFits
namespace Go.Proofs.Ytcbdbpcibhjkjab
open Go.ChangeShapes Go.WideShapes Go.ChangeAt Go.RowKit Go.Joins

theorem CasesAt.below {w w' : World} {v : Value} {cs : List C3} (h : CasesAt w v cs) (hw : Below w.heap.size w w') : CasesAt w' v cs := by
  rcases h with h | ⟨b, off, cap, hv, hb, hm, hc⟩
  · exact .inl h
  · exact .inr ⟨b, off, cap, hv, Nat.lt_of_lt_of_le hb hw.size, hm, Row3.below hc hb hw⟩
theorem CasesAt.form {w : World} {v : Value} {cs : List C3} (h : CasesAt w v cs) : ∃ a cap, v = .slice a cs.length cap := by
  rcases h with ⟨rfl, a, cap, rfl⟩ | ⟨b, off, cap, rfl, _⟩
  · exact ⟨_, _, rfl⟩
  · exact ⟨_, _, rfl⟩
theorem WordsAt.below {w w' : World} {v : Value} {xs : List Int} (h : WordsAt w v xs) (hw : Below w.heap.size w w') : WordsAt w' v xs := by
  rcases h with h | ⟨b, off, cap, hv, hb, hm, hc⟩
  · exact .inl h
  · exact .inr ⟨b, off, cap, hv, Nat.lt_of_lt_of_le hb hw.size, hm, fun i hi => by rw [(bcell hw).1 _ _ hb]; exact hc i hi⟩
theorem WordsAt.form {w : World} {v : Value} {xs : List Int} (h : WordsAt w v xs) : ∃ a cap, v = .slice a xs.length cap := by
  rcases h with ⟨rfl, a, cap, rfl⟩ | ⟨b, off, cap, rfl, _⟩
  · exact ⟨_, _, rfl⟩
  · exact ⟨_, _, rfl⟩

theorem fits_any (kind arg value : Int) (d : Bool) {v : Value} {cs : List C3} (w : World) (h : CasesAt w v cs) :
    Calls Try.prog 25 #[.agg #[.int .i64 kind, .int .i64 arg, .int .i64 value, .bool d, v]] w fun e w' => e = .returned (.bool (fitsB kind arg value cs)) ∧ Below w.heap.size w w' := by
  obtain ⟨a, cap, rfl⟩ := h.form
  have HA := Lib.hid (h.below ((Below.refl _ _).alloc (Nat.le_refl _) (.cells #[.int .i64 kind, .int .i64 arg, .int .i64 value, .bool d, .slice a cs.length cap] 37)))
  clear h
  generalize hl : cs.length = n at *
  have HL := Lib.hid hl
  clear hl
  by_cases k1 : kind < 1
  · have HF := Lib.hid (show fitsB kind arg value cs = false by simp [fitsB]; omega)
    go_enter Try.func25, Try.ntmps25
    go_wp2
    go_ret
    exact ⟨ret_bool HF.out, (Below.refl _ _).alloc (Nat.le_refl _) _⟩
  by_cases k2 : 9 < kind
  · have HF := Lib.hid (show fitsB kind arg value cs = false by simp [fitsB]; omega)
    go_enter Try.func25, Try.ntmps25
    go_wp2
    go_ret
    exact ⟨ret_bool HF.out, (Below.refl _ _).alloc (Nat.le_refl _) _⟩
  have k1' : 1 ≤ kind := by omega
  have k2' : kind ≤ 9 := by omega
  clear k1 k2
  cases k3 : inB arg 65535
  · have HF := Lib.hid (show fitsB kind arg value cs = false by simp [fitsB, k3])
    have H3 := Lib.hid k3
    clear k3
    go_enter Try.func25, Try.ntmps25
    go_wp2_with (go_at_call 35; (with_reducible refine (within_eq arg 65535 H3.out _).mono ?_); rintro e w1 ⟨rfl, rfl⟩)
    go_ret
    exact ⟨ret_bool HF.out, (Below.refl _ _).alloc (Nat.le_refl _) _⟩
  cases k4 : inB value 4294967295
  · have HF := Lib.hid (show fitsB kind arg value cs = false by simp [fitsB, k4])
    have H3 := Lib.hid k3
    have H4 := Lib.hid k4
    clear k3 k4
    go_enter Try.func25, Try.ntmps25
    go_wp2_with (first
      | (go_at_call 35; (with_reducible refine (within_eq arg 65535 H3.out _).mono ?_); rintro e w1 ⟨rfl, rfl⟩)
      | (go_at_call 35; (with_reducible refine (within_eq value 4294967295 H4.out _).mono ?_); rintro e w1 ⟨rfl, rfl⟩))
    go_ret
    exact ⟨ret_bool HF.out, (Below.refl _ _).alloc (Nat.le_refl _) _⟩
  have H3 := Lib.hid k3
  have H4 := Lib.hid k4
  by_cases k5 : n ≤ 3
  · have HF := Lib.hid (show fitsB kind arg value cs = cs.all caseB by simp [fitsB, k1', k2', k3, k4, HL.out, k5])
    have k6 : (n : Int) ≤ 3 := by omega
    clear k3 k4 k5
    go_enter Try.func25, Try.ntmps25
    go_wp2_with (first
      | (go_at_call 35; (with_reducible refine (within_eq arg 65535 H3.out _).mono ?_); rintro e w1 ⟨rfl, rfl⟩)
      | (go_at_call 35; (with_reducible refine (within_eq value 4294967295 H4.out _).mono ?_); rintro e w1 ⟨rfl, rfl⟩)
      | (go_at_call 39; (with_reducible refine (contains_any _ HA.out).mono ?_); rintro e w1 ⟨rfl, hb1⟩))
    all_goals go_ret
    all_goals exact ⟨ret_bool (by first | (rw [HF.out]; done) | (rw [HF.out]; simp)), ((Below.refl _ _).alloc (Nat.le_refl _) _).trans (hb1.mono (by simp))⟩
  · have HF := Lib.hid (show fitsB kind arg value cs = false by simp [fitsB, HL.out]; omega)
    have k6 : decide ((n : Int) ≤ 3) = false := by simp; omega
    clear k3 k4 k5
    go_enter Try.func25, Try.ntmps25
    go_wp2_with (first
      | (go_at_call 35; (with_reducible refine (within_eq arg 65535 H3.out _).mono ?_); rintro e w1 ⟨rfl, rfl⟩)
      | (go_at_call 35; (with_reducible refine (within_eq value 4294967295 H4.out _).mono ?_); rintro e w1 ⟨rfl, rfl⟩))
    go_ret
    exact ⟨ret_bool HF.out, (Below.refl _ _).alloc (Nat.le_refl _) _⟩
end Go.Proofs.Ytcbdbpcibhjkjab
