/- Contracts of ref's and the reference's functions Good, Word, Read, Next, Slot, Handle, Place over the seat's program: each returns what a plain function of its numbers says, and makes new memory alone. -/
import Derived.Test.YtcbdbpcibhjkjaaBase
import Derived.Laws.BitsAllLaws
namespace Go.Proofs.Ytcbdbpcibhjkjaa
open Go.ChangeShapes Go.WideShapes Go.ChangeAt Go.RowKit Go.Joins

def goodB (i t : Int) : Bool := decide (0 ≤ i) && decide (i ≤ 65534) && decide (1 ≤ t) && decide (t ≤ 4294967295)
theorem goodB_iff (i t : Int) : goodB i t = true ↔ 0 ≤ i ∧ i ≤ 65534 ∧ 1 ≤ t ∧ t ≤ 4294967295 := by simp [goodB]; omega

theorem good_any (i t : Int) (w : World) : Calls Try.prog 11 #[.agg #[.int .i64 i, .int .i64 t]] w
    fun e w' => e = .returned (.bool (goodB i t)) ∧ w.alloc (.cells #[.int .i64 i, .int .i64 t] 23) = w' := by
  go_enter Try.func11, Try.ntmps11
  go_wp2
  all_goals
    go_ret
    exact ⟨ret_bool (by simp [goodB]; omega), rfl⟩

theorem rgood_any (i t : Int) (w : World) : Calls Try.prog 12 #[.agg #[.int .i64 i, .int .i64 t]] w
    fun e w' => e = .returned (.bool (goodB i t)) ∧ w.alloc (.cells #[.int .i64 i, .int .i64 t] 23) = w' := by
  go_enter Try.func12, Try.ntmps12
  go_wp2
  all_goals
    go_ret
    exact ⟨ret_bool (by simp [goodB]; omega), rfl⟩

theorem good_yes (i t : Int) (h : goodB i t = true) (w : World) : Calls Try.prog 11 #[.agg #[.int .i64 i, .int .i64 t]] w
    fun e w' => e = .returned (.bool true) ∧ w.alloc (.cells #[.int .i64 i, .int .i64 t] 23) = w' := by rw [← h]; exact good_any i t w
theorem good_no (i t : Int) (h : goodB i t = false) (w : World) : Calls Try.prog 11 #[.agg #[.int .i64 i, .int .i64 t]] w
    fun e w' => e = .returned (.bool false) ∧ w.alloc (.cells #[.int .i64 i, .int .i64 t] 23) = w' := by rw [← h]; exact good_any i t w
theorem rgood_yes (i t : Int) (h : goodB i t = true) (w : World) : Calls Try.prog 12 #[.agg #[.int .i64 i, .int .i64 t]] w
    fun e w' => e = .returned (.bool true) ∧ w.alloc (.cells #[.int .i64 i, .int .i64 t] 23) = w' := by rw [← h]; exact rgood_any i t w
theorem rgood_no (i t : Int) (h : goodB i t = false) (w : World) : Calls Try.prog 12 #[.agg #[.int .i64 i, .int .i64 t]] w
    fun e w' => e = .returned (.bool false) ∧ w.alloc (.cells #[.int .i64 i, .int .i64 t] 23) = w' := by rw [← h]; exact rgood_any i t w

def wordI (i t : Int) : Int := if goodB i t = true then t * 65536 + i + 1 else 0
theorem wordI_yes {i t : Int} (h : goodB i t = true) : wordI i t = t * 65536 + i + 1 := by simp [wordI, h]
theorem wordI_no {i t : Int} (h : goodB i t = false) : wordI i t = 0 := by simp [wordI, h]

theorem word_any (i t : Int) (w : World) : Calls Try.prog 13 #[.agg #[.int .i64 i, .int .i64 t]] w
    fun e w' => e = .returned (.int .u64 (wordI i t)) ∧ (w.alloc (.cells #[.int .i64 i, .int .i64 t] 23)).alloc (.cells #[.int .i64 i, .int .i64 t] 23) = w' := by
  cases h : goodB i t
  · have HL := Lib.hid (wordI_no h)
    have H := Lib.hid h
    clear h
    go_enter Try.func13, Try.ntmps13
    go_wp2_with (go_at_call 11; refine (good_no _ _ H.out _).mono ?_; rintro e w' ⟨rfl, rfl⟩)
    go_ret
    exact ⟨by rw [HL.out]; rfl, rfl⟩
  · have HL := Lib.hid (wordI_yes h)
    have H := Lib.hid h
    obtain ⟨g1, g2, g3, g4⟩ := (goodB_iff _ _).1 h
    clear h
    go_enter Try.func13, Try.ntmps13
    go_wp2_with (go_at_call 11; refine (good_yes _ _ H.out _).mono ?_; rintro e w' ⟨rfl, rfl⟩)
    go_ret
    exact ⟨by rw [HL.out]; rfl, rfl⟩

theorem rword_any (i t : Int) (w : World) : Calls Try.prog 14 #[.agg #[.int .i64 i, .int .i64 t]] w
    fun e w' => e = .returned (.int .u64 (wordI i t)) ∧ (w.alloc (.cells #[.int .i64 i, .int .i64 t] 23)).alloc (.cells #[.int .i64 i, .int .i64 t] 23) = w' := by
  cases h : goodB i t
  · have HL := Lib.hid (wordI_no h)
    have H := Lib.hid h
    clear h
    go_enter Try.func14, Try.ntmps14
    go_wp2_with (go_at_call 12; refine (rgood_no _ _ H.out _).mono ?_; rintro e w' ⟨rfl, rfl⟩)
    go_ret
    exact ⟨by rw [HL.out]; rfl, rfl⟩
  · have HL := Lib.hid (wordI_yes h)
    have H := Lib.hid h
    obtain ⟨g1, g2, g3, g4⟩ := (goodB_iff _ _).1 h
    clear h
    go_enter Try.func14, Try.ntmps14
    go_wp2_with (go_at_call 12; refine (rgood_yes _ _ H.out _).mono ?_; rintro e w' ⟨rfl, rfl⟩)
    go_ret
    exact ⟨by rw [HL.out]; rfl, rfl⟩

def rOk (n : Int) : Bool := goodB (n % 65536 - 1) (n / 65536)
def rI (n : Int) : Int := if rOk n = true then n % 65536 - 1 else 0
def rT (n : Int) : Int := if rOk n = true then n / 65536 else 0

theorem and_low (n : Int) (h0 : 0 ≤ n) (h1 : n ≤ 18446744073709551615) : bits .and .u64 n 65535 = n % 65536 := by
  rw [u64_and n 65535 h0 (by omega) (by omega) (by omega)]
  rw [show (65535 : Int).toNat = 2 ^ 16 - 1 from rfl, Nat.and_two_pow_sub_one_eq_mod]
  omega

theorem read_any (n : Int) (h0 : 0 ≤ n) (h1 : n ≤ 18446744073709551615) (w : World) : Calls Try.prog 9 #[.int .u64 n] w
    fun e w' => e = .returned (.tuple #[.agg #[.int .i64 (rI n), .int .i64 (rT n)], .bool (rOk n)]) ∧ ((w.alloc (.cells #[.int .i64 (rI n), .int .i64 (rT n)] 23)).alloc (.cells #[.int .i64 (n % 65536 - 1), .int .i64 (n / 65536)] 23)).alloc (.cells #[.int .i64 (n % 65536 - 1), .int .i64 (n / 65536)] 23) = w' := by
  have e0 := and_low n h0 h1
  have b1 : 0 ≤ n % 65536 := by omega
  have b2 : n % 65536 < 65536 := by omega
  cases h : rOk n
  · have H1 := Lib.hid (show rI n = 0 by simp [rI, h])
    have H2 := Lib.hid (show rT n = 0 by simp [rT, h])
    have H := Lib.hid (show goodB (n % 65536 - 1) (n / 65536) = false from h)
    have Hok := Lib.hid h
    clear h
    go_enter Try.func9, Try.ntmps9
    go_wp2_with (go_at_call 11; refine (good_no _ _ H.out _).mono ?_; rintro e w' ⟨rfl, rfl⟩)
    refine bodyPost_ret (v := .tuple #[.agg #[.int .i64 0, .int .i64 0], .bool false]) (by simp [results, Try.results9, go_sem]) rfl ⟨?_, ?_⟩
    · rw [H1.out, H2.out]
    · rw [H1.out, H2.out]
  · have H1 := Lib.hid (show rI n = n % 65536 - 1 by simp [rI, h])
    have H2 := Lib.hid (show rT n = n / 65536 by simp [rT, h])
    have H := Lib.hid (show goodB (n % 65536 - 1) (n / 65536) = true from h)
    have Hok := Lib.hid h
    clear h
    go_enter Try.func9, Try.ntmps9
    go_wp2_with (go_at_call 11; refine (good_yes _ _ H.out _).mono ?_; rintro e w' ⟨rfl, rfl⟩)
    refine bodyPost_ret (v := .tuple #[.agg #[.int .i64 (n % 65536 - 1), .int .i64 (n / 65536)], .bool true]) (by simp [results, Try.results9, go_sem]) rfl ⟨?_, ?_⟩
    · rw [H1.out, H2.out]
    · rw [H1.out, H2.out]

theorem rread_any (n : Int) (h0 : 0 ≤ n) (h1 : n ≤ 18446744073709551615) (w : World) : Calls Try.prog 10 #[.int .u64 n] w
    fun e w' => e = .returned (.tuple #[.agg #[.int .i64 (rI n), .int .i64 (rT n)], .bool (rOk n)]) ∧ w.alloc (.cells #[.int .i64 (rI n), .int .i64 (rT n)] 23) = w' := by
  have b1 : 0 ≤ n % 65536 := by omega
  have b2 : n % 65536 < 65536 := by omega
  cases h : rOk n
  · have H1 := Lib.hid (show rI n = 0 by simp [rI, h])
    have H2 := Lib.hid (show rT n = 0 by simp [rT, h])
    have Hg : ¬ (0 ≤ n % 65536 - 1 ∧ n % 65536 - 1 ≤ 65534 ∧ 1 ≤ n / 65536 ∧ n / 65536 ≤ 4294967295) := fun hh => by
      have := (goodB_iff _ _).2 hh
      rw [show goodB (n % 65536 - 1) (n / 65536) = false from h] at this
      exact absurd this (by simp)
    clear h
    go_enter Try.func10, Try.ntmps10
    go_wp2
    all_goals
      refine bodyPost_ret (v := .tuple #[.agg #[.int .i64 0, .int .i64 0], .bool false]) (by simp [results, Try.results10, go_sem]) rfl ⟨?_, ?_⟩
      · rw [H1.out, H2.out]
      · rw [H1.out, H2.out]
  · have H1 := Lib.hid (show rI n = n % 65536 - 1 by simp [rI, h])
    have H2 := Lib.hid (show rT n = n / 65536 by simp [rT, h])
    obtain ⟨g1, g2, g3, g4⟩ := (goodB_iff (n % 65536 - 1) (n / 65536)).1 h
    clear h
    have k1 : (n % 65536 == 0) = false := by simp; omega
    have k2 : (n / 65536 == 0) = false := by simp; omega
    go_enter Try.func10, Try.ntmps10
    go_wp2
    refine bodyPost_ret (v := .tuple #[.agg #[.int .i64 (n % 65536 - 1), .int .i64 (n / 65536)], .bool true]) (by simp [results, Try.results10, go_sem]) rfl ⟨?_, ?_⟩
    · rw [H1.out, H2.out]
    · rw [H1.out, H2.out]
end Go.Proofs.Ytcbdbpcibhjkjaa
