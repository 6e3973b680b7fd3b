/- Contracts of the reference's All, of Least, Next and the reference's, over the seat's program. -/
import Derived.Test.YtiadkhdcnipfbaaEpA
namespace Go.Proofs.Ytiadkhdcnipfbaa
open Go.ChangeShapes Go.WideShapes Go.ChangeAt Go.RowKit Go.Joins

theorem repoch_q (g : Int) (w : World) : Calls Try.prog 21 #[.int .i64 g] w fun e w' => e = .returned (.int .u64 (epI g)) ∧ w' = w := (repoch_any g w).mono fun _ _ ⟨a, b⟩ => ⟨a, b.symm⟩

set_option maxHeartbeats 2000000 in
theorem rall_any (a : Option Addr) (n cap : Nat) (f : Nat → Int) (me g : Int) (w : World) (h : RowAt .u64 w a n cap f) :
    Calls Try.prog 10 #[.slice a n cap, .int .i64 me, .int .i64 g] w fun e w' => e = .returned (.bool (allB n f me g)) ∧ SomeDraws w w' := by
  have hn := h.1
  have HR := Lib.hid h
  clear h
  go_enter Try.func10, Try.ntmps10
  go_wp2
  go_loopw [10] (fun i wr => ∃ k : Nat, k ≤ n ∧ i = .int .i64 k ∧ (∀ j, j < k → (j : Int) ≠ me → letsB (f j) g = true) ∧ RowAt .u64 wr a n cap f ∧ SomeDraws w wr) (fun i _ => n - (intOf i).toNat)
  case atStart => exact ⟨0, Nat.zero_le _, rfl, fun j hj => absurd hj (by omega), HR.out, 0, rfl⟩
  case round =>
    obtain ⟨k, hk, rfl, hs, hr, hq⟩ := hrel
    have HS := Lib.hid hs
    have HR1 := Lib.hid hr
    have HQ := Lib.hid hq
    clear hs hr hq
    by_cases hlt : k < n
    · obtain ⟨b, off, rfl, hb, hc⟩ := HR1.out.get hlt
      have c1 := hc k hlt
      have i0 : (0 : Int) ≤ (k : Int) := by omega
      have i1 : (k : Int) < (n : Int) := by omega
      clear hc
      by_cases hm : (k : Int) = me
      · have e1 : ((k : Int) != me) = false := by simp [hm]
        have HM := Lib.hid hm
        clear hm
        go_wp2
        go_quiet (fail)
        go_wp2
        go_roundw
        case rel => exact ⟨k + 1, by omega, by go_num, fun j hj hne => by
          rcases Nat.lt_succ_iff_lt_or_eq.1 hj with h | h
          · exact HS.out j h hne
          · subst h; exact absurd HM.out hne, HR1.out.drewN _, HQ.out.drew _⟩
        case measure => simp [intOf]; omega
      · have e1 : ((k : Int) != me) = true := by simp [hm]
        have HM := Lib.hid hm
        clear hm
        by_cases h0 : f k = 0
        · have e2 : (f k != 0) = false := by simp [h0]
          have HL := Lib.hid (show letsB (f k) g = true by simp [letsB, h0])
          clear h0
          go_wp2
          go_quiet (fail)
          go_wp2
          go_roundw
          case rel => exact ⟨k + 1, by omega, by go_num, fun j hj hne => by
            rcases Nat.lt_succ_iff_lt_or_eq.1 hj with h | h
            · exact HS.out j h hne
            · subst h; exact HL.out, HR1.out.drewN _, HQ.out.drew _⟩
          case measure => simp [intOf]; omega
        · have e2 : (f k != 0) = true := by simp [h0]
          have e3 : letsB (f k) g = (f k == epI g) := by simp [letsB, h0]
          clear h0
          by_cases h1 : f k = epI g
          · have e4 : (f k != epI g) = false := by simp [h1]
            have HL := Lib.hid (show letsB (f k) g = true by rw [e3]; simp [h1])
            clear h1 e3
            go_wp2
            go_quiet ((go_at_call 21; exact Calls.quiet_of_same (repoch_q g _)))
            go_wp2
            go_roundw
            case rel => exact ⟨k + 1, by omega, by go_num, fun j hj hne => by
              rcases Nat.lt_succ_iff_lt_or_eq.1 hj with h | h
              · exact HS.out j h hne
              · subst h; exact HL.out, HR1.out.drewN _, HQ.out.drew _⟩
            case measure => simp [intOf]; omega
          · have e4 : (f k != epI g) = true := by simp [h1]
            have HF := Lib.hid (allB_no (n := n) (me := me) k hlt HM.out (show letsB (f k) g = false by rw [e3]; simp [h1]))
            clear h1 e3
            go_wp2
            go_quiet ((go_at_call 21; exact Calls.quiet_of_same (repoch_q g _)))
            go_wp2
            go_ret
            exact ⟨ret_bool HF.out, HQ.out.drew _⟩
    · have HF := Lib.hid (allB_yes (n := n) (f := f) (me := me) (g := g) fun i hi => HS.out i (by omega))
      go_wp2
      go_ret
      exact ⟨ret_bool HF.out, HQ.out⟩

/-- The least epoch of the first ones, and whether one is in any. -/
def leastS (f : Nat → Int) : Nat → Int × Bool
  | 0 => (0, false)
  | k + 1 => if f k = 0 then leastS f k else if (leastS f k).2 = false ∨ f k / 2 < (leastS f k).1 then (f k / 2, true) else leastS f k
theorem leastS_bounds (f : Nat → Int) (n : Nat) (hf : ∀ i, i < n → 0 ≤ f i ∧ f i < 18446744073709551616) : 0 ≤ (leastS f n).1 ∧ (leastS f n).1 < 9223372036854775808 := by
  induction n with
  | zero => simp [leastS]
  | succ k ih =>
    have h1 := hf k (by omega)
    have h2 := ih fun i hi => hf i (by omega)
    simp only [leastS]
    split
    · exact h2
    · split
      · exact ⟨by show 0 ≤ f k / 2; omega, by show f k / 2 < _; omega⟩
      · exact h2
theorem half_div (x : Int) (h0 : 0 ≤ x) (h1 : x < 18446744073709551616) : IntKind.u64.wrap (x.tdiv 2) = x / 2 := by rw [IntKind.wrap_u64, Int.tdiv_eq_ediv_of_nonneg h0]; omega
theorem half_conv (x : Int) (h0 : 0 ≤ x) (h1 : x < 18446744073709551616) : wrap64 (x / 2) = x / 2 := by unfold wrap64; omega

set_option maxHeartbeats 2000000 in
theorem least_any (a : Option Addr) (n cap : Nat) (f : Nat → Int) (w : World) (hf : ∀ i, i < n → 0 ≤ f i ∧ f i < 18446744073709551616) (h : RowAt .u64 w a n cap f) :
    Calls Try.prog 7 #[.slice a n cap] w fun e w' => e = .returned (.tuple #[.int .i64 (leastS f n).1, .bool (leastS f n).2]) ∧ w = w' := by
  have hn := h.1
  have HR := Lib.hid h
  have HFB := Lib.hid hf
  clear h hf
  go_enter Try.func7, Try.ntmps7
  go_wp2
  go_loopw [4, 5, 11] (fun l o i wr => ∃ (k : Nat) (x : Int) (y : Bool), k ≤ n ∧ i = .int .i64 k ∧ (x, y) = leastS f k ∧ l = .int .i64 x ∧ o = .bool y ∧ wr = w) (fun _ _ i _ => n - (intOf i).toNat)
  case atStart => exact ⟨0, 0, false, Nat.zero_le _, rfl, rfl, rfl, rfl, rfl⟩
  case round =>
    obtain ⟨k, x, y, hk, rfl, hs, rfl, rfl, rfl⟩ := hrel
    by_cases hlt : k < n
    · obtain ⟨b, off, rfl, hb, hc⟩ := HR.out.get hlt
      have c1 := hc k hlt
      have i0 : (0 : Int) ≤ (k : Int) := by omega
      have i1 : (k : Int) < (n : Int) := by omega
      have f0 := (HFB.out k hlt).1
      have ED := half_div (f k) f0 (HFB.out k hlt).2
      have EW := Lib.hid (half_conv (f k) f0 (HFB.out k hlt).2)
      clear hc
      by_cases hm : f k = 0
      · have e1 : (f k != 0) = false := by simp [hm]
        have HM := Lib.hid (show (x, y) = leastS f (k + 1) by simp only [leastS, hm, if_true]; exact hs)
        clear hm hs
        go_wp2
        go_roundw
        case rel => exact ⟨k + 1, x, y, by omega, by go_num, HM.out, rfl, rfl, trivial⟩
        case measure => simp [intOf]; omega
      · have e1 : (f k != 0) = true := by simp [hm]
        have hx : x = (leastS f k).1 := by rw [← hs]
        have hy : y = (leastS f k).2 := by rw [← hs]
        by_cases hy0 : y = false
        · have HM := Lib.hid (show (f k / 2, true) = leastS f (k + 1) by simp only [leastS, hm, if_false, ← hx, ← hy, hy0, true_or, if_true])
          subst hy0
          clear hm hs hx hy
          go_wp2
          go_roundw
          case rel => exact ⟨k + 1, _, _, by omega, by go_num, HM.out, (by first | rfl | rw [EW.out]), rfl, trivial⟩
          case measure => simp [intOf]; omega
        · obtain rfl : y = true := by simpa using hy0
          by_cases hl : f k / 2 < x
          · have HM := Lib.hid (show (f k / 2, true) = leastS f (k + 1) by simp only [leastS, hm, if_false, ← hx, ← hy, hl, or_true, if_true])
            have e2 : wrap64 (f k / 2) < x := by rw [EW.out]; exact hl
            clear hm hs hx hy hy0 hl
            go_wp2
            go_roundw
            case rel => exact ⟨k + 1, _, _, by omega, by go_num, HM.out, (by first | rfl | rw [EW.out]), rfl, trivial⟩
            case measure => simp [intOf]; omega
          · have HM := Lib.hid (show (x, true) = leastS f (k + 1) by simp only [leastS, hm, if_false, ← hx, ← hy, hl, or_false]; simpa using hs)
            have e2 : x ≤ wrap64 (f k / 2) := by rw [EW.out]; omega
            clear hm hs hx hy hy0 hl
            go_wp2
            go_roundw
            case rel => exact ⟨k + 1, _, _, by omega, by go_num, HM.out, (by first | rfl | rw [EW.out]), rfl, trivial⟩
            case measure => simp [intOf]; omega
    · obtain rfl : k = n := by omega
      have HX := Lib.hid hs
      clear hs
      go_wp2
      go_ret2
      exact ⟨ret_two (by rw [← HX.out]) (by rw [← HX.out]), rfl⟩

set_option maxHeartbeats 2000000 in
theorem rleast_any (a : Option Addr) (n cap : Nat) (f : Nat → Int) (w : World) (hf : ∀ i, i < n → 0 ≤ f i ∧ f i < 18446744073709551616) (h : RowAt .u64 w a n cap f) :
    Calls Try.prog 8 #[.slice a n cap] w fun e w' => e = .returned (.tuple #[.int .i64 (leastS f n).1, .bool (leastS f n).2]) ∧ w = w' := by
  have hn := h.1
  have HR := Lib.hid h
  have HFB := Lib.hid hf
  clear h hf
  go_enter Try.func8, Try.ntmps8
  go_wp2
  go_loopw [4, 5, 10] (fun l o i wr => ∃ (k : Nat) (x : Int) (y : Bool), k ≤ n ∧ i = .int .i64 k ∧ (x, y) = leastS f k ∧ l = .int .u64 x ∧ o = .bool y ∧ wr = w) (fun _ _ i _ => n - (intOf i).toNat)
  case atStart => exact ⟨0, 0, false, Nat.zero_le _, rfl, rfl, rfl, rfl, rfl⟩
  case round =>
    obtain ⟨k, x, y, hk, rfl, hs, rfl, rfl, rfl⟩ := hrel
    by_cases hlt : k < n
    · obtain ⟨b, off, rfl, hb, hc⟩ := HR.out.get hlt
      have c1 := hc k hlt
      have i0 : (0 : Int) ≤ (k : Int) := by omega
      have i1 : (k : Int) < (n : Int) := by omega
      have f0 := (HFB.out k hlt).1
      have ED := half_div (f k) f0 (HFB.out k hlt).2
      clear hc
      by_cases hm : f k = 0
      · have e1 : (f k == 0) = true := by simp [hm]
        have HM := Lib.hid (show (x, y) = leastS f (k + 1) by simp only [leastS, hm, if_true]; exact hs)
        clear hm hs
        go_wp2
        go_roundw
        case rel => exact ⟨k + 1, x, y, by omega, by go_num, HM.out, rfl, rfl, trivial⟩
        case measure => simp [intOf]; omega
      · have e1 : (f k == 0) = false := by simp [hm]
        have hx : x = (leastS f k).1 := by rw [← hs]
        have hy : y = (leastS f k).2 := by rw [← hs]
        by_cases hy0 : y = false
        · have HM := Lib.hid (show (f k / 2, true) = leastS f (k + 1) by simp only [leastS, hm, if_false, ← hx, ← hy, hy0, true_or, if_true])
          subst hy0
          clear hm hs hx hy
          go_wp2
          go_roundw
          case rel => exact ⟨k + 1, _, _, by omega, by go_num, HM.out, rfl, rfl, trivial⟩
          case measure => simp [intOf]; omega
        · obtain rfl : y = true := by simpa using hy0
          by_cases hl : f k / 2 < x
          · have HM := Lib.hid (show (f k / 2, true) = leastS f (k + 1) by simp only [leastS, hm, if_false, ← hx, ← hy, hl, or_true, if_true])
            clear hm hs hx hy hy0
            go_wp2
            go_roundw
            case rel => exact ⟨k + 1, _, _, by omega, by go_num, HM.out, rfl, rfl, trivial⟩
            case measure => simp [intOf]; omega
          · have HM := Lib.hid (show (x, true) = leastS f (k + 1) by simp only [leastS, hm, if_false, ← hx, ← hy, hl, or_false]; simpa using hs)
            have e2 : decide (f k / 2 < x) = false := by simpa using hl
            clear hm hs hx hy hy0 hl
            go_wp2
            go_roundw
            case rel => exact ⟨k + 1, _, _, by omega, by go_num, HM.out, rfl, rfl, trivial⟩
            case measure => simp [intOf]; omega
    · obtain rfl : k = n := by omega
      have HX := Lib.hid (show leastS f k = (x, y) from hs.symm)
      have hx : x = (leastS f k).1 := by rw [← hs]
      have hb := leastS_bounds f k HFB.out
      have EW := Lib.hid (show wrap64 x = x by rw [hx]; unfold wrap64; omega)
      clear hs hx hb
      go_wp2
      go_ret2
      exact ⟨ret_two (by rw [HX.out, EW.out]) (by rw [HX.out]), rfl⟩

end Go.Proofs.Ytiadkhdcnipfbaa
