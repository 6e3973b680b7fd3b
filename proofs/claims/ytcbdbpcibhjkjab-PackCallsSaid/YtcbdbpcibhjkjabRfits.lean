/- The contract of the reference's Fits over the seat's program. -/
import Derived.Test.YtcbdbpcibhjkjabCall
namespace Go.Proofs.Ytcbdbpcibhjkjab
open Go.ChangeShapes Go.WideShapes Go.ChangeAt Go.RowKit Go.Joins

def Scal (kind arg value : Int) (n : Nat) : Prop := 1 ≤ kind ∧ kind ≤ 9 ∧ 0 ≤ arg ∧ arg ≤ 65535 ∧ 0 ≤ value ∧ value ≤ 4294967295 ∧ n ≤ 3

theorem rfits_scal (kind arg value : Int) (d : Bool) (a : Option Addr) (n cap : Nat) (w : World) (h : ¬ Scal kind arg value n) :
    Calls Try.prog 26 #[.agg #[.int .i64 kind, .int .i64 arg, .int .i64 value, .bool d, .slice a n cap]] w fun e w' => e = .returned (.bool false) ∧ Below w.heap.size w w' := by
  have H := Lib.hid h
  clear h
  go_enter Try.func26, Try.ntmps26
  go_wp2
  all_goals first
    | exact (H.out ⟨by omega, by omega, by omega, by omega, by omega, by omega, by omega⟩).elim
    | (go_ret; exact ⟨rfl, (Below.refl _ _).alloc (Nat.le_refl _) _⟩)

set_option maxHeartbeats 3200000 in
theorem rfits_all (kind arg value : Int) (d : Bool) (b off cap n : Nat) (f : Nat → C3) (w : World) (h : Scal kind arg value n) (hb : b < w.heap.size) (hr : Row3 w b off n f) (hk : ∀ i, i < n → caseB (f i) = true) :
    Calls Try.prog 26 #[.agg #[.int .i64 kind, .int .i64 arg, .int .i64 value, .bool d, .slice (some ⟨b, off, none⟩) n cap]] w fun e w' => e = .returned (.bool true) ∧ Below w.heap.size w w' := by
  obtain ⟨h1, h2, h3, h4, h5, h6, h7⟩ := h
  have HR := Lib.hid hr
  have HK := Lib.hid hk
  have t1 : decide (kind < 1) = false := by simp; omega
  have t2 : decide (9 < kind) = false := by simp; omega
  have t3 : decide (arg < 0) = false := by simp; omega
  have t4 : decide (65535 < arg) = false := by simp; omega
  have t5 : decide (value < 0) = false := by simp; omega
  have t6 : decide (4294967295 < value) = false := by simp; omega
  have t7 : decide ((3 : Int) < (n : Int)) = false := by simp; omega
  have t8 : (n : Int) ≤ 3 := by omega
  clear hr hk
  go_enter Try.func26, Try.ntmps26
  go_wp2
  go_loopw [42] (fun i wr => ∃ k : Nat, k ≤ n ∧ i = .int .i64 k ∧ Below w.heap.size w wr) (fun i _ => n - (intOf i).toNat)
  case atStart => exact ⟨0, Nat.zero_le _, rfl, (Below.refl _ _).alloc (Nat.le_refl _) _⟩
  case round =>
    obtain ⟨k, hk, rfl, hw⟩ := hrel
    by_cases hlt : k < n
    · obtain ⟨c1, c2, c3⟩ := HR.out.below hb hw k hlt
      have i0 : (0 : Int) ≤ (k : Int) := by omega
      have i1 : (k : Int) < (n : Int) := by omega
      have hz := (caseB_iff _).1 (HK.out k hlt)
      obtain ⟨x1, x2, x3, hx⟩ : ∃ x1 x2 x3, f k = (x1, x2, x3) := ⟨_, _, _, rfl⟩
      rw [hx] at c1 c2 c3 hz
      dsimp only at c1 c2 c3 hz
      clear hx
      have u1 : decide (x1 < 1) = false := by simp; omega
      have u2 : decide (2 < x1) = false := by simp; omega
      have u3 : decide (x2 < 0) = false := by simp; omega
      have u4 : decide (65535 < x2) = false := by simp; omega
      have u5 : decide (x3 < 0) = false := by simp; omega
      have u6 : decide (4294967295 < x3) = false := by simp; omega
      have hsz := hw.size
      have HW := Lib.hid hw
      clear hz hw
      go_wp2
      go_roundw
      case rel => exact ⟨k + 1, by omega, by go_num, HW.out.trans ((Below.refl _ _).alloc hsz _)⟩
      case measure => simp [intOf]; omega
    · go_wp2
      go_ret
      exact ⟨rfl, hw⟩
set_option maxHeartbeats 3200000 in
theorem rfits_some (kind arg value : Int) (d : Bool) (b off cap n m : Nat) (f : Nat → C3) (w : World) (h : Scal kind arg value n) (hb : b < w.heap.size) (hr : Row3 w b off n f) (hm : m < n) (hk : ∀ i, i < m → caseB (f i) = true) (hno : caseB (f m) = false) :
    Calls Try.prog 26 #[.agg #[.int .i64 kind, .int .i64 arg, .int .i64 value, .bool d, .slice (some ⟨b, off, none⟩) n cap]] w fun e w' => e = .returned (.bool false) ∧ Below w.heap.size w w' := by
  obtain ⟨h1, h2, h3, h4, h5, h6, h7⟩ := h
  have HR := Lib.hid hr
  have HK := Lib.hid hk
  have HN := Lib.hid hno
  have t1 : decide (kind < 1) = false := by simp; omega
  have t2 : decide (9 < kind) = false := by simp; omega
  have t3 : decide (arg < 0) = false := by simp; omega
  have t4 : decide (65535 < arg) = false := by simp; omega
  have t5 : decide (value < 0) = false := by simp; omega
  have t6 : decide (4294967295 < value) = false := by simp; omega
  have t7 : decide ((3 : Int) < (n : Int)) = false := by simp; omega
  have t8 : (n : Int) ≤ 3 := by omega
  clear hr hk hno
  go_enter Try.func26, Try.ntmps26
  go_wp2
  go_loopw [42] (fun i wr => ∃ k : Nat, k ≤ m ∧ i = .int .i64 k ∧ Below w.heap.size w wr) (fun i _ => n - (intOf i).toNat)
  case atStart => exact ⟨0, Nat.zero_le _, rfl, (Below.refl _ _).alloc (Nat.le_refl _) _⟩
  case round =>
    obtain ⟨k, hk, rfl, hw⟩ := hrel
    have hlt : k < n := by omega
    obtain ⟨c1, c2, c3⟩ := HR.out.below hb hw k hlt
    have i0 : (0 : Int) ≤ (k : Int) := by omega
    have i1 : (k : Int) < (n : Int) := by omega
    have hsz := hw.size
    have HW := Lib.hid hw
    clear hw
    obtain ⟨x1, x2, x3, hx⟩ : ∃ x1 x2 x3, f k = (x1, x2, x3) := ⟨_, _, _, rfl⟩
    by_cases hkm : k < m
    · have hz := (caseB_iff _).1 (HK.out k hkm)
      rw [hx] at c1 c2 c3 hz
      dsimp only at c1 c2 c3 hz
      clear hx
      have u1 : decide (x1 < 1) = false := by simp; omega
      have u2 : decide (2 < x1) = false := by simp; omega
      have u3 : decide (x2 < 0) = false := by simp; omega
      have u4 : decide (65535 < x2) = false := by simp; omega
      have u5 : decide (x3 < 0) = false := by simp; omega
      have u6 : decide (4294967295 < x3) = false := by simp; omega
      clear hz
      go_wp2
      go_roundw
      case rel => exact ⟨k + 1, by omega, by go_num, HW.out.trans ((Below.refl _ _).alloc hsz _)⟩
      case measure => simp [intOf]; omega
    · obtain rfl : m = k := by omega
      have hz := HN.out
      rw [hx] at c1 c2 c3 hz
      dsimp only at c1 c2 c3
      have HZ := Lib.hid (show ¬ ((x1 = 1 ∨ x1 = 2) ∧ (0 ≤ x2 ∧ x2 ≤ 65535) ∧ 0 ≤ x3 ∧ x3 ≤ 4294967295) from fun hh => by
        rw [(caseB_iff (x1, x2, x3)).2 hh] at hz
        cases hz)
      clear hx hz
      go_wp2
      all_goals first
        | exact (HZ.out ⟨by omega, by omega, by omega⟩).elim
        | (go_ret; exact ⟨rfl, HW.out.trans ((Below.refl _ _).alloc hsz _)⟩)
theorem rfits_zero (kind arg value : Int) (d : Bool) (a : Option Addr) (cap : Nat) (w : World) (h : Scal kind arg value 0) :
    Calls Try.prog 26 #[.agg #[.int .i64 kind, .int .i64 arg, .int .i64 value, .bool d, .slice a 0 cap]] w fun e w' => e = .returned (.bool true) ∧ Below w.heap.size w w' := by
  obtain ⟨h1, h2, h3, h4, h5, h6, h7⟩ := h
  have t1 : decide (kind < 1) = false := by simp; omega
  have t2 : decide (9 < kind) = false := by simp; omega
  have t3 : decide (arg < 0) = false := by simp; omega
  have t4 : decide (65535 < arg) = false := by simp; omega
  have t5 : decide (value < 0) = false := by simp; omega
  have t6 : decide (4294967295 < value) = false := by simp; omega
  go_enter Try.func26, Try.ntmps26
  go_wp2
  refine wp_loop_rounds 1 ?_
  rw [rounds_succ]
  go_wp2
  go_ret
  exact ⟨rfl, (Below.refl _ _).alloc (Nat.le_refl _) _⟩

theorem rfits_any (kind arg value : Int) (d : Bool) {v : Value} {cs : List C3} (w : World) (h : CasesAt w v cs) :
    Calls Try.prog 26 #[.agg #[.int .i64 kind, .int .i64 arg, .int .i64 value, .bool d, v]] w fun e w' => e = .returned (.bool (fitsB kind arg value cs)) ∧ Below w.heap.size w w' := by
  by_cases hs : Scal kind arg value cs.length
  · have hiff : fitsB kind arg value cs = cs.all caseB := by
      obtain ⟨h1, h2, h3, h4, h5, h6, h7⟩ := hs
      rw [Bool.eq_iff_iff, fitsB_iff, List.all_eq_true]
      exact ⟨fun hh => hh.2.2.2.2, fun hh => ⟨⟨h1, h2⟩, ⟨h3, h4⟩, ⟨h5, h6⟩, h7, hh⟩⟩
    rw [hiff]
    rcases h with ⟨rfl, a, cap, rfl⟩ | ⟨b, off, cap, rfl, hb, hm, hc⟩
    · exact rfits_zero kind arg value d a cap w hs
    · rcases first_no (fun i => cs.getD i (0, 0, 0)) cs.length with hh | ⟨m, h1, h2, h3⟩
      · have : cs.all caseB = true := by
          rw [List.all_eq_true]
          intro x hx
          obtain ⟨i, hi, rfl⟩ := List.getElem_of_mem hx
          have := hh i hi
          simpa [List.getD_eq_getElem?_getD, List.getElem?_eq_getElem hi] using this
        rw [this]
        exact rfits_all kind arg value d b off cap cs.length _ w hs hb hc hh
      · have : cs.all caseB = false := by
          rw [List.all_eq_false]
          refine ⟨cs[m], List.getElem_mem h1, ?_⟩
          simpa [List.getD_eq_getElem?_getD, List.getElem?_eq_getElem h1] using h3
        rw [this]
        exact rfits_some kind arg value d b off cap cs.length m _ w hs hb hc h1 h2 h3
  · have hno : fitsB kind arg value cs = false := by
      cases hf : fitsB kind arg value cs
      · rfl
      · obtain ⟨h1, h2, h3, h4, _⟩ := (fitsB_iff _ _ _ _).1 hf
        exact (hs ⟨h1.1, h1.2, h2.1, h2.2, h3.1, h3.2, h4⟩).elim
    rw [hno]
    obtain ⟨a, cap, rfl⟩ := h.form
    exact rfits_scal kind arg value d a cs.length cap w hs
end Go.Proofs.Ytcbdbpcibhjkjab
