/- Contracts of Rank, Behind, Epoch, Lets and the reference's, over the seat's program. -/
import Derived.Test.YtcbdbpcibhjkjabSmall
namespace Go.Proofs.Ytcbdbpcibhjkjab
open Go.ChangeShapes Go.WideShapes Go.ChangeAt Go.RowKit Go.Joins

def rankI (s k : Int) : Int := if finB k = true then wrap64 (wrap64 (2 * s) + 1) else wrap64 (2 * s)
theorem final_eq {x : Bool} (s c k v : Int) (h : finB k = x) (w : World) : Calls Try.prog 17 #[.agg #[.int .i64 s, .int .i64 c, .int .i64 k, .int .i64 v]] w
    fun e w' => e = .returned (.bool x) ∧ w.alloc (.cells #[.int .i64 s, .int .i64 c, .int .i64 k, .int .i64 v] 24) = w' := by rw [← h]; exact final_any s c k v w
theorem rfinal_eq {x : Bool} (s c k v : Int) (h : finB k = x) (w : World) : Calls Try.prog 18 #[.agg #[.int .i64 s, .int .i64 c, .int .i64 k, .int .i64 v]] w
    fun e w' => e = .returned (.bool x) ∧ w.alloc (.cells #[.int .i64 s, .int .i64 c, .int .i64 k, .int .i64 v] 24) = w' := by rw [← h]; exact rfinal_any s c k v w
theorem rank_any (s c k v : Int) (w : World) : Calls Try.prog 19 #[.agg #[.int .i64 s, .int .i64 c, .int .i64 k, .int .i64 v]] w
    fun e w' => e = .returned (.int .i64 (rankI s k)) ∧ (w.alloc (.cells #[.int .i64 s, .int .i64 c, .int .i64 k, .int .i64 v] 24)).alloc (.cells #[.int .i64 s, .int .i64 c, .int .i64 k, .int .i64 v] 24) = w' := by
  cases h : finB k
  · have HR := Lib.hid (show rankI s k = wrap64 (2 * s) by simp [rankI, h])
    have H := Lib.hid h
    clear h
    go_enter Try.func19, Try.ntmps19
    go_wp2_with (go_at_call 17; (with_reducible refine (final_eq s c k v H.out _).mono ?_); rintro e w1 ⟨rfl, rfl⟩)
    go_ret
    exact ⟨by rw [HR.out]; rfl, rfl⟩
  · have HR := Lib.hid (show rankI s k = wrap64 (wrap64 (2 * s) + 1) by simp [rankI, h])
    have H := Lib.hid h
    clear h
    go_enter Try.func19, Try.ntmps19
    go_wp2_with (go_at_call 17; (with_reducible refine (final_eq s c k v H.out _).mono ?_); rintro e w1 ⟨rfl, rfl⟩)
    go_ret
    exact ⟨by rw [HR.out]; rfl, rfl⟩
theorem rrank_any (s c k v : Int) (w : World) : Calls Try.prog 20 #[.agg #[.int .i64 s, .int .i64 c, .int .i64 k, .int .i64 v]] w
    fun e w' => e = .returned (.int .i64 (rankI s k)) ∧ (w.alloc (.cells #[.int .i64 s, .int .i64 c, .int .i64 k, .int .i64 v] 24)).alloc (.cells #[.int .i64 s, .int .i64 c, .int .i64 k, .int .i64 v] 24) = w' := by
  cases h : finB k
  · have HR := Lib.hid (show rankI s k = wrap64 (s + s) by simp [rankI, h]; rw [show 2 * s = s + s by omega])
    have H := Lib.hid h
    clear h
    go_enter Try.func20, Try.ntmps20
    go_wp2_with (go_at_call 18; (with_reducible refine (rfinal_eq s c k v H.out _).mono ?_); rintro e w1 ⟨rfl, rfl⟩)
    go_ret
    exact ⟨by rw [HR.out]; rfl, rfl⟩
  · have HR := Lib.hid (show rankI s k = wrap64 (wrap64 (s + s) + 1) by simp [rankI, h]; rw [show 2 * s = s + s by omega])
    have H := Lib.hid h
    clear h
    go_enter Try.func20, Try.ntmps20
    go_wp2_with (go_at_call 18; (with_reducible refine (rfinal_eq s c k v H.out _).mono ?_); rintro e w1 ⟨rfl, rfl⟩)
    go_ret
    exact ⟨by rw [HR.out]; rfl, rfl⟩

def epI (g : Int) : Int := (2 * g + 1) % 18446744073709551616
theorem ep1 (g : Int) : IntKind.u64.wrap (wrap64 (wrap64 (2 * g) + 1)) = epI g := by rw [IntKind.wrap_u64]; unfold wrap64 epI; omega
theorem ep2 (g : Int) : IntKind.u64.wrap (IntKind.u64.wrap (IntKind.u64.wrap g * 2) + 1) = epI g := by simp only [IntKind.wrap_u64]; unfold epI; omega
theorem epoch_any (g : Int) (w : World) : Calls Try.prog 31 #[.int .i64 g] w fun e w' => e = .returned (.int .u64 (epI g)) ∧ w = w' := by
  go_enter Try.func31, Try.ntmps31
  go_wp2
  go_ret
  exact ⟨by rw [← ep1]; rfl, rfl⟩
theorem repoch_any (g : Int) (w : World) : Calls Try.prog 32 #[.int .i64 g] w fun e w' => e = .returned (.int .u64 (epI g)) ∧ w = w' := by
  go_enter Try.func32, Try.ntmps32
  go_wp2
  go_ret
  exact ⟨by rw [← ep2]; rfl, rfl⟩
def letsB (n g : Int) : Bool := n == 0 || n == epI g
theorem lets_any (n g : Int) (w : World) : Calls Try.prog 33 #[.int .u64 n, .int .i64 g] w fun e w' => e = .returned (.bool (letsB n g)) ∧ w = w' := by
  by_cases h : n = 0
  · subst h
    go_enter Try.func33, Try.ntmps33
    go_wp2
    go_ret
    exact ⟨rfl, rfl⟩
  · have h1 : (n == 0) = false := by simp [h]
    have HL := Lib.hid (show letsB n g = (n == epI g) by simp [letsB, h1])
    clear h
    go_enter Try.func33, Try.ntmps33
    go_wp2_with (go_at_call 31; (with_reducible refine (epoch_any g _).mono ?_); rintro e w1 ⟨rfl, rfl⟩)
    go_ret
    exact ⟨ret_bool HL.out, rfl⟩
theorem rlets_any (n g : Int) (w : World) : Calls Try.prog 34 #[.int .u64 n, .int .i64 g] w fun e w' => e = .returned (.bool (letsB n g)) ∧ w = w' := by
  by_cases h : n = 0
  · subst h
    go_enter Try.func34, Try.ntmps34
    go_wp2
    go_ret
    exact ⟨rfl, rfl⟩
  · have h1 : (n == 0) = false := by simp [h]
    have HL := Lib.hid (show letsB n g = (n == epI g) by simp [letsB, h1])
    clear h
    go_enter Try.func34, Try.ntmps34
    go_wp2_with (go_at_call 32; (with_reducible refine (repoch_any g _).mono ?_); rintro e w1 ⟨rfl, rfl⟩)
    go_ret
    exact ⟨ret_bool HL.out, rfl⟩

/-- How far a word's result is. -/
def rk (n : Int) : Int := 2 * qS n + (if finB (qK n) = true then 1 else 0)
def behB (a b : Int) : Bool := decide (rk a < rk b)
theorem rank_q (n : Int) (h0 : 0 ≤ n) (h1 : n ≤ 18446744073709551615) (w : World) : Calls Try.prog 19 #[.agg #[.int .i64 (qS n), .int .i64 (qC n), .int .i64 (qK n), .int .i64 (qV n)]] w
    fun e w' => e = .returned (.int .i64 (rk n)) ∧ (w.alloc (.cells #[.int .i64 (qS n), .int .i64 (qC n), .int .i64 (qK n), .int .i64 (qV n)] 24)).alloc (.cells #[.int .i64 (qS n), .int .i64 (qC n), .int .i64 (qK n), .int .i64 (qV n)] 24) = w' := by
  have := rank_any (qS n) (qC n) (qK n) (qV n) w
  have b := q_bounds n h0 h1
  rw [show rankI (qS n) (qK n) = rk n by unfold rankI rk; split <;> (unfold wrap64; omega)] at this
  exact this
theorem behind_any (a b : Int) (a0 : 0 ≤ a) (a1 : a ≤ 18446744073709551615) (b0 : 0 ≤ b) (b1 : b ≤ 18446744073709551615) (w : World) : Calls Try.prog 21 #[.int .u64 a, .int .u64 b] w fun e w' => e = .returned (.bool (behB a b)) ∧ Below w.heap.size w w' := by
  go_enter Try.func21, Try.ntmps21
  go_wp2_with (first
    | (go_at_call 14; (with_reducible refine (readResult_any a a0 a1 _).mono ?_); rintro e w1 ⟨rfl, rfl⟩)
    | (go_at_call 19; (with_reducible refine (rank_q a a0 a1 _).mono ?_); rintro e w1 ⟨rfl, rfl⟩)
    | (go_at_call 14; (with_reducible refine (readResult_any b b0 b1 _).mono ?_); rintro e w1 ⟨rfl, rfl⟩)
    | (go_at_call 19; (with_reducible refine (rank_q b b0 b1 _).mono ?_); rintro e w1 ⟨rfl, rfl⟩))
  go_ret
  exact ⟨rfl, by repeat' (first | with_reducible exact Below.refl _ _ | with_reducible refine Below.alloc ?_ ?_ _ | (simp; done) | (simp; omega) | omega)⟩
theorem behB_form (a b : Int) : behB a b = (decide (qS a < qS b) || (qS a == qS b && (!finB (qK a) && finB (qK b)))) := by
  unfold behB rk
  rw [Bool.eq_iff_iff]
  cases finB (qK a) <;> cases finB (qK b) <;> simp <;> omega
end Go.Proofs.Ytcbdbpcibhjkjab
