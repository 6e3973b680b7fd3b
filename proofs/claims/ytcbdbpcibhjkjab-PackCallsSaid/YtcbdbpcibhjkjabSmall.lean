/- Contracts of pack's and the reference's functions on results and epochs, over the seat's program. -/
import Derived.Test.YtcbdbpcibhjkjabCases
import Derived.Test.YtcbdbpcibhjkjabBits
namespace Go.Proofs.Ytcbdbpcibhjkjab
open Go.ChangeShapes Go.WideShapes Go.ChangeAt Go.RowKit Go.Joins

def goodR (s c k v : Int) : Bool := inB v 4294967295 && inB k 255 && inB c 15 && inB s 1048575
theorem goodR_iff (s c k v : Int) : goodR s c k v = true ↔ (0 ≤ v ∧ v ≤ 4294967295) ∧ (0 ≤ k ∧ k ≤ 255) ∧ (0 ≤ c ∧ c ≤ 15) ∧ 0 ≤ s ∧ s ≤ 1048575 := by
  simp [goodR, inB_iff, and_assoc]

theorem good_any (s c k v : Int) (w : World) : Calls Try.prog 9 #[.agg #[.int .i64 s, .int .i64 c, .int .i64 k, .int .i64 v]] w
    fun e w' => e = .returned (.bool (goodR s c k v)) ∧ w.alloc (.cells #[.int .i64 s, .int .i64 c, .int .i64 k, .int .i64 v] 24) = w' := by
  go_enter Try.func9, Try.ntmps9
  go_wp2
  all_goals
    go_ret
    exact ⟨ret_bool (by rw [Bool.eq_iff_iff, goodR_iff]; simp; omega), rfl⟩
theorem rgood_any (s c k v : Int) (w : World) : Calls Try.prog 10 #[.agg #[.int .i64 s, .int .i64 c, .int .i64 k, .int .i64 v]] w
    fun e w' => e = .returned (.bool (goodR s c k v)) ∧ w.alloc (.cells #[.int .i64 s, .int .i64 c, .int .i64 k, .int .i64 v] 24) = w' := by
  go_enter Try.func10, Try.ntmps10
  go_wp2
  all_goals
    go_ret
    exact ⟨ret_bool (by rw [Bool.eq_iff_iff, goodR_iff]; simp; omega), rfl⟩
theorem good_eq {x : Bool} (s c k v : Int) (h : goodR s c k v = x) (w : World) : Calls Try.prog 9 #[.agg #[.int .i64 s, .int .i64 c, .int .i64 k, .int .i64 v]] w
    fun e w' => e = .returned (.bool x) ∧ w.alloc (.cells #[.int .i64 s, .int .i64 c, .int .i64 k, .int .i64 v] 24) = w' := by rw [← h]; exact good_any s c k v w
theorem rgood_eq {x : Bool} (s c k v : Int) (h : goodR s c k v = x) (w : World) : Calls Try.prog 10 #[.agg #[.int .i64 s, .int .i64 c, .int .i64 k, .int .i64 v]] w
    fun e w' => e = .returned (.bool x) ∧ w.alloc (.cells #[.int .i64 s, .int .i64 c, .int .i64 k, .int .i64 v] 24) = w' := by rw [← h]; exact rgood_any s c k v w

def resW (s c k v : Int) : Int := if goodR s c k v = true then v + k * 4294967296 + c * 1099511627776 + s * 17592186044416 else 0

theorem result_any (s c k v : Int) (w : World) : Calls Try.prog 11 #[.agg #[.int .i64 s, .int .i64 c, .int .i64 k, .int .i64 v]] w
    fun e w' => e = .returned (.int .u64 (resW s c k v)) ∧ (w.alloc (.cells #[.int .i64 s, .int .i64 c, .int .i64 k, .int .i64 v] 24)).alloc (.cells #[.int .i64 s, .int .i64 c, .int .i64 k, .int .i64 v] 24) = w' := by
  cases h : goodR s c k v
  · have HR := Lib.hid (show resW s c k v = 0 by simp [resW, h])
    have H := Lib.hid h
    clear h
    go_enter Try.func11, Try.ntmps11
    go_wp2_with (go_at_call 9; (with_reducible refine (good_eq s c k v H.out _).mono ?_); rintro e w1 ⟨rfl, rfl⟩)
    go_ret
    exact ⟨by rw [HR.out]; rfl, rfl⟩
  · have HR := Lib.hid (show resW s c k v = v + k * 4294967296 + c * 1099511627776 + s * 17592186044416 by simp [resW, h])
    have H := Lib.hid h
    obtain ⟨⟨v1, v2⟩, ⟨k1, k2⟩, ⟨c1, c2⟩, s1, s2⟩ := (goodR_iff _ _ _ _).1 h
    clear h
    have u1 : bits .or .u64 v (k * 4294967296) = v + k * 4294967296 := bor 32 _ _ 4294967296 rfl (by omega) (by omega) (by omega) (by omega) (by omega) (by omega)
    have u2 : bits .or .u64 (v + k * 4294967296) (c * 1099511627776) = v + k * 4294967296 + c * 1099511627776 := bor 40 _ _ 1099511627776 rfl (by omega) (by omega) (by omega) (by omega) (by omega) (by omega)
    have u3 : bits .or .u64 (v + k * 4294967296 + c * 1099511627776) (s * 17592186044416) = v + k * 4294967296 + c * 1099511627776 + s * 17592186044416 := bor 44 _ _ 17592186044416 rfl (by omega) (by omega) (by omega) (by omega) (by omega) (by omega)
    go_enter Try.func11, Try.ntmps11
    go_wp2_with (go_at_call 9; (with_reducible refine (good_eq s c k v H.out _).mono ?_); rintro e w1 ⟨rfl, rfl⟩)
    go_ret
    exact ⟨by rw [HR.out]; rfl, rfl⟩
theorem rresult_any (s c k v : Int) (w : World) : Calls Try.prog 12 #[.agg #[.int .i64 s, .int .i64 c, .int .i64 k, .int .i64 v]] w
    fun e w' => e = .returned (.int .u64 (resW s c k v)) ∧ (w.alloc (.cells #[.int .i64 s, .int .i64 c, .int .i64 k, .int .i64 v] 24)).alloc (.cells #[.int .i64 s, .int .i64 c, .int .i64 k, .int .i64 v] 24) = w' := by
  cases h : goodR s c k v
  · have HR := Lib.hid (show resW s c k v = 0 by simp [resW, h])
    have H := Lib.hid h
    clear h
    go_enter Try.func12, Try.ntmps12
    go_wp2_with (go_at_call 10; (with_reducible refine (rgood_eq s c k v H.out _).mono ?_); rintro e w1 ⟨rfl, rfl⟩)
    go_ret
    exact ⟨by rw [HR.out]; rfl, rfl⟩
  · have HR := Lib.hid (show resW s c k v = ((s * 16 + c) * 256 + k) * 4294967296 + v by simp [resW, h]; omega)
    have H := Lib.hid h
    obtain ⟨⟨v1, v2⟩, ⟨k1, k2⟩, ⟨c1, c2⟩, s1, s2⟩ := (goodR_iff _ _ _ _).1 h
    clear h
    go_enter Try.func12, Try.ntmps12
    go_wp2_with (go_at_call 10; (with_reducible refine (rgood_eq s c k v H.out _).mono ?_); rintro e w1 ⟨rfl, rfl⟩)
    go_ret
    exact ⟨by rw [HR.out]; rfl, rfl⟩

/-- A word's parts. -/
def qS (n : Int) : Int := n / 17592186044416
def qC (n : Int) : Int := n / 1099511627776 % 16
def qK (n : Int) : Int := n / 4294967296 % 256
def qV (n : Int) : Int := n % 4294967296
theorem q_bounds (n : Int) (h0 : 0 ≤ n) (h1 : n ≤ 18446744073709551615) : (0 ≤ qV n ∧ qV n ≤ 4294967295) ∧ (0 ≤ qK n ∧ qK n ≤ 255) ∧ (0 ≤ qC n ∧ qC n ≤ 15) ∧ 0 ≤ qS n ∧ qS n ≤ 1048575 := by
  unfold qV qK qC qS; omega

theorem readResult_any (n : Int) (h0 : 0 ≤ n) (h1 : n ≤ 18446744073709551615) (w : World) : Calls Try.prog 14 #[.int .u64 n] w
    fun e w' => e = .returned (.agg #[.int .i64 (qS n), .int .i64 (qC n), .int .i64 (qK n), .int .i64 (qV n)]) ∧ w.alloc (.cells #[.int .i64 (qS n), .int .i64 (qC n), .int .i64 (qK n), .int .i64 (qV n)] 24) = w' := by
  have e1 : bits .and .u64 (n / 1099511627776) 15 = n / 1099511627776 % 16 := band 4 _ 15 rfl (by omega) (by omega) (by omega) (by omega)
  have e2 : bits .and .u64 (n / 4294967296) 255 = n / 4294967296 % 256 := band 8 _ 255 rfl (by omega) (by omega) (by omega) (by omega)
  have e3 : bits .and .u64 n 4294967295 = n % 4294967296 := band 32 _ 4294967295 rfl (by omega) (by omega) (by omega) (by omega)
  have b1 : 0 ≤ n / 17592186044416 := by omega
  have b2 : n / 17592186044416 ≤ 1048575 := by omega
  have b3 : 0 ≤ n / 1099511627776 % 16 := by omega
  have b4 : n / 1099511627776 % 16 ≤ 15 := by omega
  have b5 : 0 ≤ n / 4294967296 % 256 := by omega
  have b6 : n / 4294967296 % 256 ≤ 255 := by omega
  have b7 : 0 ≤ n % 4294967296 := by omega
  have b8 : n % 4294967296 ≤ 4294967295 := by omega
  go_enter Try.func14, Try.ntmps14
  go_wp2
  exact bodyPost_ret (v := .agg #[.int .i64 (n / 17592186044416), .int .i64 (n / 1099511627776 % 16), .int .i64 (n / 4294967296 % 256), .int .i64 (n % 4294967296)]) (by simp [results, Try.results14, go_sem]) rfl ⟨rfl, rfl⟩
theorem rreadResult_any (n : Int) (h0 : 0 ≤ n) (h1 : n ≤ 18446744073709551615) (w : World) : Calls Try.prog 15 #[.int .u64 n] w
    fun e w' => e = .returned (.agg #[.int .i64 (qS n), .int .i64 (qC n), .int .i64 (qK n), .int .i64 (qV n)]) ∧ (w.alloc (.cells #[.int .i64 (qS n), .int .i64 (qC n), .int .i64 (qK n), .int .i64 (qV n)] 24)).alloc (.cells #[.int .i64 (qS n), .int .i64 (qC n), .int .i64 (qK n), .int .i64 (qV n)] 24) = w' := by
  have HS := Lib.hid (show qS n = n / 4294967296 / 256 / 16 by unfold qS; omega)
  have HC := Lib.hid (show qC n = n / 4294967296 / 256 % 16 by unfold qC; omega)
  have b1 : 0 ≤ n / 4294967296 / 256 / 16 := by omega
  have b2 : n / 4294967296 / 256 / 16 ≤ 1048575 := by omega
  have b3 : 0 ≤ n / 4294967296 / 256 % 16 := by omega
  have b4 : n / 4294967296 / 256 % 16 ≤ 15 := by omega
  have b5 : 0 ≤ n / 4294967296 % 256 := by omega
  have b6 : n / 4294967296 % 256 ≤ 255 := by omega
  have b7 : 0 ≤ n % 4294967296 := by omega
  have b8 : n % 4294967296 ≤ 4294967295 := by omega
  have b9 : 0 ≤ n / 4294967296 := by omega
  have b10 : 0 ≤ n / 4294967296 / 256 := by omega
  go_enter Try.func15, Try.ntmps15
  go_wp2
  refine bodyPost_ret (v := .agg #[.int .i64 (n / 4294967296 / 256 / 16), .int .i64 (n / 4294967296 / 256 % 16), .int .i64 (n / 4294967296 % 256), .int .i64 (n % 4294967296)]) (by simp [results, Try.results15, go_sem]) rfl ⟨?_, ?_⟩
  · rw [HS.out, HC.out]; rfl
  · rw [HS.out, HC.out]; rfl

theorem res_same (s c k v : Int) (w : World) : Calls Try.prog 13 #[.agg #[.int .i64 s, .int .i64 c, .int .i64 k, .int .i64 v], .agg #[.int .i64 s, .int .i64 c, .int .i64 k, .int .i64 v]] w
    fun e w' => e = .returned (.bool true) ∧ (w.alloc (.cells #[.int .i64 s, .int .i64 c, .int .i64 k, .int .i64 v] 24)).alloc (.cells #[.int .i64 s, .int .i64 c, .int .i64 k, .int .i64 v] 24) = w' := by
  go_enter Try.func13, Try.ntmps13
  go_wp2
  go_ret
  exact ⟨rfl, rfl⟩

def finB (k : Int) : Bool := k != 14
theorem final_any (s c k v : Int) (w : World) : Calls Try.prog 17 #[.agg #[.int .i64 s, .int .i64 c, .int .i64 k, .int .i64 v]] w
    fun e w' => e = .returned (.bool (finB k)) ∧ w.alloc (.cells #[.int .i64 s, .int .i64 c, .int .i64 k, .int .i64 v] 24) = w' := by
  go_enter Try.func17, Try.ntmps17
  go_wp2
  go_ret
  exact ⟨rfl, rfl⟩
theorem rfinal_any (s c k v : Int) (w : World) : Calls Try.prog 18 #[.agg #[.int .i64 s, .int .i64 c, .int .i64 k, .int .i64 v]] w
    fun e w' => e = .returned (.bool (finB k)) ∧ w.alloc (.cells #[.int .i64 s, .int .i64 c, .int .i64 k, .int .i64 v] 24) = w' := by
  go_enter Try.func18, Try.ntmps18
  go_wp2
  go_ret
  exact ⟨rfl, rfl⟩
end Go.Proofs.Ytcbdbpcibhjkjab
