/- Contracts of ref.Slot, Place, Handle and the reference's Place, Handle over the seat's program. -/
import Derived.Test.YtcbdbpcibhjkjaaRead
namespace Go.Proofs.Ytcbdbpcibhjkjaa
open Go.ChangeShapes Go.WideShapes Go.ChangeAt Go.RowKit Go.Joins

theorem slot_any (i t : Int) (w : World) : Calls Try.prog 18 #[.agg #[.int .i64 i, .int .i64 t]] w
    fun e w' => e = .returned (.agg #[.int .i64 i, .int .i64 t]) ∧ (w.alloc (.cells #[.int .i64 i, .int .i64 t] 23)).alloc (.cells #[.int .i64 i, .int .i64 t] 31) = w' := by
  go_enter Try.func18, Try.ntmps18
  go_wp2
  refine bodyPost_ret (v := .agg #[.int .i64 i, .int .i64 t]) (by simp [results, Try.results18, go_sem]) rfl ⟨rfl, rfl⟩

def hI (p g : Int) : Int := if 0 ≤ p ∧ p < 8 ∧ 1 ≤ g ∧ g ≤ 4095 then g * 8 + p else 0

theorem handle_any (p g : Int) (w : World) : Calls Try.prog 23 #[.int .i64 p, .int .i64 g] w
    fun e w' => e = .returned (.int .i64 (hI p g)) ∧ w = w' := by
  by_cases h : 0 ≤ p ∧ p < 8 ∧ 1 ≤ g ∧ g ≤ 4095
  · have H1 := Lib.hid (show hI p g = g * 8 + p by simp [hI, h])
    obtain ⟨h1, h2, h3, h4⟩ := h
    have k1 : decide (p < 0) = false := by simp; omega
    have k2 : decide (8 ≤ p) = false := by simp; omega
    have k3 : decide (g < 1) = false := by simp; omega
    have k4 : decide (4095 < g) = false := by simp; omega
    go_enter Try.func23, Try.ntmps23
    go_wp2
    go_ret
    exact ⟨by rw [H1.out]; rfl, rfl⟩
  · have H1 := Lib.hid (show hI p g = 0 by simp only [hI, h, if_false])
    have H := Lib.hid h
    clear h
    go_enter Try.func23, Try.ntmps23
    go_wp2
    all_goals go_ret
    all_goals first | exact ⟨by rw [H1.out]; rfl, rfl⟩ | exact absurd ⟨by omega, by omega, by omega, by omega⟩ H.out

theorem rhandle_any (p g : Int) (w : World) : Calls Try.prog 24 #[.int .i64 p, .int .i64 g] w
    fun e w' => e = .returned (.int .i64 (hI p g)) ∧ w = w' := by
  by_cases h : 0 ≤ p ∧ p < 8 ∧ 1 ≤ g ∧ g ≤ 4095
  · have H1 := Lib.hid (show hI p g = 8 * g + p by simp [hI, h]; omega)
    obtain ⟨h1, h2, h3, h4⟩ := h
    have k1 : decide (p < 0) = false := by simp; omega
    have k2 : decide (7 < p) = false := by simp; omega
    have k3 : decide (g < 1) = false := by simp; omega
    have k4 : decide (4095 < g) = false := by simp; omega
    go_enter Try.func24, Try.ntmps24
    go_wp2
    go_ret
    exact ⟨by rw [H1.out]; rfl, rfl⟩
  · have H1 := Lib.hid (show hI p g = 0 by simp only [hI, h, if_false])
    have H := Lib.hid h
    clear h
    go_enter Try.func24, Try.ntmps24
    go_wp2
    all_goals go_ret
    all_goals first | exact ⟨by rw [H1.out]; rfl, rfl⟩ | exact absurd ⟨by omega, by omega, by omega, by omega⟩ H.out

def pOk (h : Int) : Bool := decide (8 ≤ h ∧ h ≤ 32767)
def pP (h : Int) : Int := if pOk h = true then h % 8 else 0
def pG (h : Int) : Int := if pOk h = true then h / 8 else 0

theorem tdiv8_neg (h : Int) (h0 : h < 0) : h.tdiv 8 < 1 := by
  obtain ⟨k, rfl⟩ : ∃ k : Int, h = -k := ⟨-h, by omega⟩
  rw [Int.neg_tdiv, Int.tdiv_eq_ediv_of_nonneg (by omega)]
  omega

theorem place_any (h : Int) (lo : -9223372036854775808 ≤ h) (hi : h ≤ 9223372036854775807) (w : World) : Calls Try.prog 21 #[.int .i64 h] w
    fun e w' => e = .returned (.tuple #[.int .i64 (pP h), .int .i64 (pG h), .bool (pOk h)]) ∧ w = w' := by
  cases k : pOk h
  · have H1 := Lib.hid (show pP h = 0 by simp [pP, k])
    have H2 := Lib.hid (show pG h = 0 by simp [pG, k])
    have H := Lib.hid (show ¬ (8 ≤ h ∧ h ≤ 32767) by simpa [pOk] using k)
    clear k
    by_cases h0 : h < 0
    · have kd : decide (h.tdiv 8 < 1) = true := by simpa using tdiv8_neg h h0
      go_enter Try.func21, Try.ntmps21
      go_wp2
      all_goals go_ret3
      all_goals exact ⟨by rw [H1.out, H2.out]; rfl, rfl⟩
    · have h0' : 0 ≤ h := by omega
      clear h0
      by_cases h1 : h < 8
      · have k1 : decide (h / 8 < 1) = true := by simp; omega
        go_enter Try.func21, Try.ntmps21
        go_wp2
        all_goals go_ret3
        all_goals exact ⟨by rw [H1.out, H2.out]; rfl, rfl⟩
      · have h1' : 8 ≤ h := by omega
        have k1 : decide (h / 8 < 1) = false := by simp; omega
        have k2 : decide (4095 < h / 8) = true := by simp; have := H.out; omega
        clear h1
        go_enter Try.func21, Try.ntmps21
        go_wp2
        all_goals go_ret3
        all_goals exact ⟨by rw [H1.out, H2.out]; rfl, rfl⟩
  · have H1 := Lib.hid (show pP h = h % 8 by simp [pP, k])
    have H2 := Lib.hid (show pG h = h / 8 by simp [pG, k])
    have k' : 8 ≤ h ∧ h ≤ 32767 := by simpa [pOk] using k
    obtain ⟨h1, h2⟩ := k'
    clear k
    have k1 : decide (h / 8 < 1) = false := by simp; omega
    have k2 : decide (4095 < h / 8) = false := by simp; omega
    go_enter Try.func21, Try.ntmps21
    go_wp2
    go_ret3
    exact ⟨by rw [H1.out, H2.out]; rfl, rfl⟩

theorem rplace_any (h : Int) (w : World) : Calls Try.prog 22 #[.int .i64 h] w
    fun e w' => e = .returned (.tuple #[.int .i64 (pP h), .int .i64 (pG h), .bool (pOk h)]) ∧ w = w' := by
  cases k : pOk h
  · have H1 := Lib.hid (show pP h = 0 by simp [pP, k])
    have H2 := Lib.hid (show pG h = 0 by simp [pG, k])
    have H := Lib.hid (show ¬ (8 ≤ h ∧ h ≤ 32767) by simpa [pOk] using k)
    clear k
    by_cases h0 : h < 8
    · go_enter Try.func22, Try.ntmps22
      go_wp2
      all_goals go_ret3
      all_goals exact ⟨by rw [H1.out, H2.out]; rfl, rfl⟩
    · have k1 : decide (h < 8) = false := by simp; omega
      have k2 : decide (32767 < h) = true := by simp; have := H.out; omega
      go_enter Try.func22, Try.ntmps22
      go_wp2
      all_goals go_ret3
      all_goals exact ⟨by rw [H1.out, H2.out]; rfl, rfl⟩
  · have k' : 8 ≤ h ∧ h ≤ 32767 := by simpa [pOk] using k
    have H1 := Lib.hid (show pP h = h - h / 8 * 8 by simp [pP, k]; omega)
    have H2 := Lib.hid (show pG h = h / 8 by simp [pG, k])
    obtain ⟨h1, h2⟩ := k'
    clear k
    have k1 : decide (h < 8) = false := by simp; omega
    have k2 : decide (32767 < h) = false := by simp; omega
    go_enter Try.func22, Try.ntmps22
    go_wp2
    go_ret3
    exact ⟨by rw [H1.out, H2.out]; rfl, rfl⟩
end Go.Proofs.Ytcbdbpcibhjkjaa
