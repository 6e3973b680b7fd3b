/- The walk of EpochStays over the seat's program: for every input it returns true, and makes new memory alone. -/
import Derived.Test.YtiadkhdcnipfbaaEpAwake
namespace Go.Proofs.Ytiadkhdcnipfbaa
open Go.ChangeShapes Go.WideShapes Go.ChangeAt Go.RowKit Go.Joins

theorem next_stays (n : Nat) (f : Nat → Int) (me g : Int) (h : allB n f me g = false) : nextI n f me g = g := by simp [nextI, h]

set_option maxRecDepth 100000 in
set_option maxHeartbeats 6400000 in
theorem stays_walk (a : Option Addr) (n cap : Nat) (f : Nat → Int) (me g : Int) (w : World) (h : RowAt .u64 w a n cap f) (_ : ∀ i, i < n → 0 ≤ f i ∧ f i ≤ 18446744073709551615) (_ : -9223372036854775808 ≤ me) (_ : me ≤ 9223372036854775807) (_ : -9223372036854775808 ≤ g) (_ : g ≤ 9223372036854775807) :
    Calls Try.prog 5 #[.slice a n cap, .int .i64 me, .int .i64 g] w fun e w' => e = .returned (.bool true) ∧ Below w.heap.size w w' := by
  have HR := Lib.hid h
  have HL := Lib.hid (late_any a n cap f g w h)
  have H0 := all_none f g me n
  have H1 := all_one f g me n
  have H2 := all_more f g me n
  have hle := lateL_le f g n
  have hn := h.1
  obtain ⟨F, hF⟩ : ∃ F : Nat → Int, (fun i => (lateL f g n).getD i 0) = F := ⟨_, rfl⟩
  rw [show (lateL f g n).getD 0 0 = F 0 by rw [← hF]] at H1
  rw [hF] at HL
  generalize (lateL f g n).length = m at *
  clear h hF
  by_cases m0 : m = 0
  · subst m0
    have HA := Lib.hid (fun W h => all_eq a n cap f me g (H0 rfl) W h)
    clear H0 H1 H2
    go_enter Try.func5, Try.ntmps5
    go_wp2_with (first
      | (go_at_call 14; (with_reducible refine HL.out.mono ?_); rintro e w1 ⟨a1, cap1, rfl, _, hb⟩; have HB := Lib.hid hb; clear hb)
      | (go_at_call 9; (with_reducible refine (HA.out _ (HR.out.below HB.out)).mono ?_); rintro e w2 ⟨rfl, rfl⟩)
      | (go_at_call 16; (with_reducible refine (awake_any _).mono ?_); rintro e w7 ⟨rfl, hb7⟩; have HB7 := Lib.hid (HB.out.trans (hb7.mono HB.out.size)); clear hb7))
    go_ret
    exact ⟨rfl, HB7.out⟩
  · have e0 : ((m : Int) == 0) = false := by simp; omega
    by_cases m1 : m = 1
    · subst m1
      have hA := H1 rfl
      clear H0 H1 H2 m0
      by_cases hm : F 0 = me
      · have e1 : (F 0 == me) = true := by simp [hm]
        have HA := Lib.hid (fun W h => all_eq a n cap f me g (hA.trans e1) W h)
        clear hA hm
        go_enter Try.func5, Try.ntmps5
        go_wp2_with (first
          | (go_at_call 14; (with_reducible refine HL.out.mono ?_); rintro e w1 ⟨a1, cap1, rfl, ho, hb⟩; obtain ⟨b1, rfl, hbb, hc⟩ := ho.get (show 0 < 1 by omega); have c1 := (hc 0 (by omega)).1; have HB := Lib.hid hb; clear ho hb hc)
          | (go_at_call 9; (with_reducible refine (HA.out _ (HR.out.below HB.out)).mono ?_); rintro e w2 ⟨rfl, rfl⟩)
          | (go_at_call 16; (with_reducible refine (awake_any _).mono ?_); rintro e w7 ⟨rfl, hb7⟩; have HB7 := Lib.hid (HB.out.trans (hb7.mono HB.out.size)); clear hb7))
        go_ret
        exact ⟨rfl, HB7.out⟩
      · have e1 : (F 0 == me) = false := by simp [hm]
        have HA := Lib.hid (fun W h => all_eq a n cap f me g (hA.trans e1) W h)
        have HN := Lib.hid (fun W (h : RowAt .u64 W a n cap f) => show Calls Try.prog 22 #[.slice a n cap, .int .i64 me, .int .i64 g] W fun e w' => e = .returned (.int .i64 g) ∧ W = w' by
          have := next_any a n cap f me g W h
          rw [next_stays n f me g (hA.trans e1)] at this; exact this)
        clear hA hm
        go_enter Try.func5, Try.ntmps5
        go_wp2_with (first
          | (go_at_call 14; (with_reducible refine HL.out.mono ?_); rintro e w1 ⟨a1, cap1, rfl, ho, hb⟩; obtain ⟨b1, rfl, hbb, hc⟩ := ho.get (show 0 < 1 by omega); have c1 := (hc 0 (by omega)).1; have HB := Lib.hid hb; clear ho hb hc)
          | (go_at_call 9; (with_reducible refine (HA.out _ (HR.out.below HB.out)).mono ?_); rintro e w2 ⟨rfl, rfl⟩)
          | (go_at_call 22; (with_reducible refine (HN.out _ (HR.out.below HB.out)).mono ?_); rintro e w2 ⟨rfl, rfl⟩)
          | (go_at_call 16; (with_reducible refine (awake_any _).mono ?_); rintro e w7 ⟨rfl, hb7⟩; have HB7 := Lib.hid (HB.out.trans (hb7.mono HB.out.size)); clear hb7))
        go_ret
        exact ⟨rfl, HB7.out⟩
    · have e1 : ((m : Int) == 1) = false := by simp; omega
      have hA := H2 (by omega)
      have HA := Lib.hid (fun W h => all_eq a n cap f me g hA W h)
      have HN := Lib.hid (fun W (h : RowAt .u64 W a n cap f) => show Calls Try.prog 22 #[.slice a n cap, .int .i64 me, .int .i64 g] W fun e w' => e = .returned (.int .i64 g) ∧ W = w' by
        have := next_any a n cap f me g W h
        rw [next_stays n f me g hA] at this; exact this)
      clear H0 H1 H2 hA m0 m1
      go_enter Try.func5, Try.ntmps5
      go_wp2_with (first
        | (go_at_call 14; (with_reducible refine HL.out.mono ?_); rintro e w1 ⟨a1, cap1, rfl, ho, hb⟩; have HB := Lib.hid hb; clear ho hb)
        | (go_at_call 9; (with_reducible refine (HA.out _ (HR.out.below HB.out)).mono ?_); rintro e w2 ⟨rfl, rfl⟩)
        | (go_at_call 22; (with_reducible refine (HN.out _ (HR.out.below HB.out)).mono ?_); rintro e w2 ⟨rfl, rfl⟩)
        | (go_at_call 16; (with_reducible refine (awake_any _).mono ?_); rintro e w7 ⟨rfl, hb7⟩; have HB7 := Lib.hid (HB.out.trans (hb7.mono HB.out.size)); clear hb7))
      go_ret
      exact ⟨rfl, HB7.out⟩
end Go.Proofs.Ytiadkhdcnipfbaa
