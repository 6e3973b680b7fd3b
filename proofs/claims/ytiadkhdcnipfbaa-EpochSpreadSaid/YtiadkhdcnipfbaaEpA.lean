/- Contracts of Epoch, Lets, All, In and the reference's, over the seat's program. -/
import Derived.Test.YtiadkhdcnipfbaaOpen
namespace Go.Proofs.Ytiadkhdcnipfbaa
open Go.ChangeShapes Go.WideShapes Go.ChangeAt Go.RowKit Go.Joins

def epI (g : Int) : Int := (2 * g + 1) % 18446744073709551616
theorem ep1 (g : Int) : IntKind.u64.wrap (wrap64 (wrap64 (2 * g) + 1)) = epI g := by rw [IntKind.wrap_u64]; unfold wrap64 epI; omega
theorem ep2 (g : Int) : IntKind.u64.wrap (IntKind.u64.wrap (IntKind.u64.wrap g * 2) + 1) = epI g := by simp only [IntKind.wrap_u64]; unfold epI; omega
theorem epoch_any (g : Int) (w : World) : Calls Try.prog 27 #[.int .i64 g] w fun e w' => e = .returned (.int .u64 (epI g)) ∧ w = w' := by
  go_enter Try.func27, Try.ntmps27
  go_wp2
  go_ret
  exact ⟨by rw [← ep1]; rfl, rfl⟩
theorem repoch_any (g : Int) (w : World) : Calls Try.prog 21 #[.int .i64 g] w fun e w' => e = .returned (.int .u64 (epI g)) ∧ w = w' := by
  go_enter Try.func21, Try.ntmps21
  go_wp2
  go_ret
  exact ⟨by rw [← ep2]; rfl, rfl⟩
def letsB (n g : Int) : Bool := n == 0 || n == epI g
theorem lets_any (n g : Int) (w : World) : Calls Try.prog 24 #[.int .u64 n, .int .i64 g] w fun e w' => e = .returned (.bool (letsB n g)) ∧ w = w' := by
  by_cases h1 : n = 0
  · subst h1
    go_enter Try.func24, Try.ntmps24
    go_wp2
    go_ret
    exact ⟨rfl, rfl⟩
  · have k1 : (n == 0) = false := by simp [h1]
    have HL := Lib.hid (show letsB n g = (n == epI g) by simp [letsB, h1])
    clear h1
    go_enter Try.func24, Try.ntmps24
    go_wp2_with (go_at_call 27; (with_reducible refine (epoch_any g _).mono ?_); rintro e w1 ⟨rfl, rfl⟩)
    go_ret
    exact ⟨ret_bool HL.out, rfl⟩
theorem rlets_any (n g : Int) (w : World) : Calls Try.prog 25 #[.int .u64 n, .int .i64 g] w fun e w' => e = .returned (.bool (letsB n g)) ∧ w = w' := by
  by_cases h1 : n = 0
  · subst h1
    go_enter Try.func25, Try.ntmps25
    go_wp2
    go_ret
    exact ⟨rfl, rfl⟩
  · have k1 : (n == 0) = false := by simp [h1]
    have HL := Lib.hid (show letsB n g = (n == epI g) by simp [letsB, h1])
    clear h1
    go_enter Try.func25, Try.ntmps25
    go_wp2_with (go_at_call 21; (with_reducible refine (repoch_any g _).mono ?_); rintro e w1 ⟨rfl, rfl⟩)
    go_ret
    exact ⟨ret_bool HL.out, rfl⟩
theorem lets_eq {b : Bool} (n g : Int) (h : letsB n g = b) (w : World) : Calls Try.prog 24 #[.int .u64 n, .int .i64 g] w fun e w' => e = .returned (.bool b) ∧ w = w' := by rw [← h]; exact lets_any n g w
theorem rlets_eq {b : Bool} (n g : Int) (h : letsB n g = b) (w : World) : Calls Try.prog 25 #[.int .u64 n, .int .i64 g] w fun e w' => e = .returned (.bool b) ∧ w = w' := by rw [← h]; exact rlets_any n g w

/-- Does each thread but one let an epoch end? -/
def allB (n : Nat) (f : Nat → Int) (me g : Int) : Bool := decide (∀ i, i < n → (i : Int) ≠ me → letsB (f i) g = true)
theorem allB_yes {n : Nat} {f : Nat → Int} {me g : Int} (h : ∀ i, i < n → (i : Int) ≠ me → letsB (f i) g = true) : allB n f me g = true := decide_eq_true h
theorem allB_no {n : Nat} {f : Nat → Int} {me g : Int} (k : Nat) (hk : k < n) (hm : (k : Int) ≠ me) (h : letsB (f k) g = false) : allB n f me g = false :=
  decide_eq_false fun H => by rw [H k hk hm] at h; cases h

set_option maxHeartbeats 1000000 in
theorem all_any (a : Option Addr) (n cap : Nat) (f : Nat → Int) (me g : Int) (w : World) (h : RowAt .u64 w a n cap f) :
    Calls Try.prog 9 #[.slice a n cap, .int .i64 me, .int .i64 g] w fun e w' => e = .returned (.bool (allB n f me g)) ∧ w = w' := by
  have hn := h.1
  have HR := Lib.hid h
  clear h
  go_enter Try.func9, Try.ntmps9
  go_wp2
  go_loopw [11] (fun i wr => ∃ k : Nat, k ≤ n ∧ i = .int .i64 k ∧ (∀ j, j < k → (j : Int) ≠ me → letsB (f j) g = true) ∧ wr = w) (fun i _ => n - (intOf i).toNat)
  case atStart => exact ⟨0, Nat.zero_le _, rfl, fun j hj => absurd hj (by omega), rfl⟩
  case round =>
    obtain ⟨k, hk, rfl, hs, rfl⟩ := hrel
    have HS := Lib.hid hs
    clear hs
    by_cases hlt : k < n
    · obtain ⟨b, off, rfl, hb, hc⟩ := HR.out.get hlt
      have c1 := hc k hlt
      have i0 : (0 : Int) ≤ (k : Int) := by omega
      have i1 : (k : Int) < (n : Int) := by omega
      clear hc
      by_cases hm : (k : Int) = me
      · have e1 : ((k : Int) != me) = false := by simp [hm]
        have HM := Lib.hid hm
        clear hm
        go_wp2
        go_roundw
        case rel => exact ⟨k + 1, by omega, by go_num, fun j hj hne => by
          rcases Nat.lt_succ_iff_lt_or_eq.1 hj with h | h
          · exact HS.out j h hne
          · subst h; exact absurd HM.out hne, trivial⟩
        case measure => simp [intOf]; omega
      · have e1 : ((k : Int) != me) = true := by simp [hm]
        have HM := Lib.hid hm
        clear hm
        cases hl : letsB (f k) g
        · have HL := Lib.hid hl
          have HF := Lib.hid (allB_no (me := me) k hlt HM.out hl)
          clear hl
          go_wp2_with (go_at_call 24; (with_reducible refine (lets_eq (f k) g HL.out _).mono ?_); rintro e w1 ⟨rfl, rfl⟩)
          go_ret
          exact ⟨ret_bool HF.out, rfl⟩
        · have HL := Lib.hid hl
          clear hl
          go_wp2_with (go_at_call 24; (with_reducible refine (lets_eq (f k) g HL.out _).mono ?_); rintro e w1 ⟨rfl, rfl⟩)
          go_roundw
          case rel => exact ⟨k + 1, by omega, by go_num, fun j hj hne => by
            rcases Nat.lt_succ_iff_lt_or_eq.1 hj with h | h
            · exact HS.out j h hne
            · subst h; exact HL.out, trivial⟩
          case measure => simp [intOf]; omega
    · have HF := Lib.hid (allB_yes (n := n) (f := f) (me := me) (g := g) fun i hi => HS.out i (by omega))
      go_wp2
      go_ret
      exact ⟨ret_bool HF.out, rfl⟩

/-- How many are not 0. -/
def inI (f : Nat → Int) : Nat → Nat
  | 0 => 0
  | k + 1 => inI f k + if f k = 0 then 0 else 1
theorem inI_le (f : Nat → Int) (k : Nat) : inI f k ≤ k := by
  induction k with
  | zero => exact Nat.le_refl _
  | succ k ih => simp only [inI]; split <;> omega

set_option maxHeartbeats 1000000 in
theorem in_any (a : Option Addr) (n cap : Nat) (f : Nat → Int) (w : World) (h : RowAt .u64 w a n cap f) :
    Calls Try.prog 11 #[.slice a n cap] w fun e w' => e = .returned (.int .i64 (inI f n : Nat)) ∧ w = w' := by
  have hn := h.1
  have HR := Lib.hid h
  clear h
  go_enter Try.func11, Try.ntmps11
  go_wp2
  go_loopw [3, 8] (fun c i wr => ∃ k : Nat, k ≤ n ∧ i = .int .i64 k ∧ c = .int .i64 (inI f k : Nat) ∧ wr = w) (fun _ i _ => n - (intOf i).toNat)
  case atStart => exact ⟨0, Nat.zero_le _, rfl, rfl, rfl⟩
  case round =>
    obtain ⟨k, hk, rfl, rfl, rfl⟩ := hrel
    have hi := inI_le f k
    by_cases hlt : k < n
    · obtain ⟨b, off, rfl, hb, hc⟩ := HR.out.get hlt
      have c1 := hc k hlt
      have i0 : (0 : Int) ≤ (k : Int) := by omega
      have i1 : (k : Int) < (n : Int) := by omega
      clear hc
      by_cases hm : f k = 0
      · have e1 : (f k != 0) = false := by simp [hm]
        have HM := Lib.hid (show inI f (k + 1) = inI f k by simp [inI, hm])
        clear hm
        go_wp2
        go_roundw
        case rel => exact ⟨k + 1, by omega, by go_num, by rw [HM.out], trivial⟩
        case measure => simp [intOf]; omega
      · have e1 : (f k != 0) = true := by simp [hm]
        have HM := Lib.hid (show inI f (k + 1) = inI f k + 1 by simp [inI, hm])
        clear hm
        go_wp2
        go_roundw
        case rel => exact ⟨k + 1, by omega, by go_num, by rw [HM.out]; go_num, trivial⟩
        case measure => simp [intOf]; omega
    · obtain rfl : k = n := by omega
      go_wp2
      go_ret
      exact ⟨rfl, rfl⟩

set_option maxHeartbeats 1000000 in
theorem rin_any (a : Option Addr) (n cap : Nat) (f : Nat → Int) (w : World) (h : RowAt .u64 w a n cap f) :
    Calls Try.prog 12 #[.slice a n cap] w fun e w' => e = .returned (.int .i64 (inI f n : Nat)) ∧ w = w' := by
  have hn := h.1
  have HR := Lib.hid h
  clear h
  go_enter Try.func12, Try.ntmps12
  go_wp2
  go_loopw [3, 10] (fun c i wr => ∃ k m : Nat, k ≤ n ∧ i = .int .i64 k ∧ m = n - k + inI f k ∧ c = .int .i64 m ∧ wr = w) (fun _ i _ => n - (intOf i).toNat)
  case atStart => exact ⟨0, n, Nat.zero_le _, rfl, by simp [inI], rfl, rfl⟩
  case round =>
    obtain ⟨k, m, hk, rfl, hm0, rfl, rfl⟩ := hrel
    have hi := inI_le f k
    have hm1 : m ≤ n := by omega
    have HM0 := Lib.hid hm0
    clear hm0
    by_cases hlt : k < n
    · obtain ⟨b, off, rfl, hb, hc⟩ := HR.out.get hlt
      have c1 := hc k hlt
      have i0 : (0 : Int) ≤ (k : Int) := by omega
      have i1 : (k : Int) < (n : Int) := by omega
      have m0 : 1 ≤ m := by have := HM0.out; omega
      clear hc
      by_cases hm : f k = 0
      · have e1 : (f k == 0) = true := by simp [hm]
        have HM := Lib.hid (show inI f (k + 1) = inI f k by simp [inI, hm])
        clear hm
        go_wp2
        go_roundw
        case rel => exact ⟨k + 1, m - 1, by omega, by go_num, by rw [HM.out]; have := HM0.out; omega, by rw [show ((m - 1 : Nat) : Int) = (m : Int) - 1 by omega], trivial⟩
        case measure => simp [intOf]; omega
      · have e1 : (f k == 0) = false := by simp [hm]
        have HM := Lib.hid (show inI f (k + 1) = inI f k + 1 by simp [inI, hm])
        clear hm
        go_wp2
        go_roundw
        case rel => exact ⟨k + 1, m, by omega, by go_num, by rw [HM.out]; have := HM0.out; omega, rfl, trivial⟩
        case measure => simp [intOf]; omega
    · obtain rfl : k = n := by omega
      have HE := Lib.hid (show m = inI f k by have := HM0.out; omega)
      go_wp2
      go_ret
      exact ⟨ret_int (by rw [HE.out]), rfl⟩
end Go.Proofs.Ytiadkhdcnipfbaa
