/- The walks of RefBack and RefHandles over the seat's program: for every input they return true, and make new memory alone. -/
import Derived.Test.YtcbdbpcibhjkjaaNewW
namespace Go.Proofs.Ytcbdbpcibhjkjaa
open Go.ChangeShapes Go.WideShapes Go.ChangeAt Go.RowKit Go.Joins

theorem read_no {n : Int} (h : rOk n = false) (h0 : 0 ≤ n) (h1 : n ≤ 18446744073709551615) (w : World) : Calls Try.prog 9 #[.int .u64 n] w
    fun e w' => e = .returned (.tuple #[.agg #[.int .i64 0, .int .i64 0], .bool false]) ∧ ((w.alloc (.cells #[.int .i64 0, .int .i64 0] 23)).alloc (.cells #[.int .i64 (n % 65536 - 1), .int .i64 (n / 65536)] 23)).alloc (.cells #[.int .i64 (n % 65536 - 1), .int .i64 (n / 65536)] 23) = w' := by
  have := read_any n h0 h1 w
  rw [show rI n = 0 by simp [rI, h], show rT n = 0 by simp [rT, h], h] at this
  exact this
theorem read_yes {n : Int} (h : rOk n = true) (h0 : 0 ≤ n) (h1 : n ≤ 18446744073709551615) (w : World) : Calls Try.prog 9 #[.int .u64 n] w
    fun e w' => e = .returned (.tuple #[.agg #[.int .i64 (n % 65536 - 1), .int .i64 (n / 65536)], .bool true]) ∧ ((w.alloc (.cells #[.int .i64 (n % 65536 - 1), .int .i64 (n / 65536)] 23)).alloc (.cells #[.int .i64 (n % 65536 - 1), .int .i64 (n / 65536)] 23)).alloc (.cells #[.int .i64 (n % 65536 - 1), .int .i64 (n / 65536)] 23) = w' := by
  have := read_any n h0 h1 w
  rw [show rI n = n % 65536 - 1 by simp [rI, h], show rT n = n / 65536 by simp [rT, h], h] at this
  exact this

theorem word_read {n : Int} (h : rOk n = true) : wordI (n % 65536 - 1) (n / 65536) = n := by
  rw [wordI_yes h]; omega
theorem wordI_lo (i t : Int) : 0 ≤ wordI i t := by
  cases h : goodB i t
  · rw [wordI_no h]; omega
  · rw [wordI_yes h]; have := (goodB_iff _ _).1 h; omega
theorem wordI_hi (i t : Int) : wordI i t ≤ 18446744073709551615 := by
  cases h : goodB i t
  · rw [wordI_no h]; omega
  · rw [wordI_yes h]; have := (goodB_iff _ _).1 h; omega
theorem rOk_word (i t : Int) : rOk (wordI i t) = goodB i t := by
  cases h : goodB i t
  · rw [wordI_no h]; rfl
  · rw [wordI_yes h]
    have g := (goodB_iff _ _).1 h
    unfold rOk
    rw [show (t * 65536 + i + 1) % 65536 - 1 = i by omega, show (t * 65536 + i + 1) / 65536 = t by omega, h]

theorem word_back {n : Int} (h : rOk n = true) (w : World) : Calls Try.prog 13 #[.agg #[.int .i64 (n % 65536 - 1), .int .i64 (n / 65536)]] w
    fun e w' => e = .returned (.int .u64 n) ∧ (w.alloc (.cells #[.int .i64 (n % 65536 - 1), .int .i64 (n / 65536)] 23)).alloc (.cells #[.int .i64 (n % 65536 - 1), .int .i64 (n / 65536)] 23) = w' := by
  have := word_any (n % 65536 - 1) (n / 65536) w
  rw [word_read h] at this
  exact this
theorem read_word_no {i t : Int} (h : goodB i t = false) (w : World) : Calls Try.prog 9 #[.int .u64 (wordI i t)] w
    fun e w' => e = .returned (.tuple #[.agg #[.int .i64 0, .int .i64 0], .bool false]) ∧ ((w.alloc (.cells #[.int .i64 0, .int .i64 0] 23)).alloc (.cells #[.int .i64 (-1), .int .i64 0] 23)).alloc (.cells #[.int .i64 (-1), .int .i64 0] 23) = w' := by
  have := read_no ((rOk_word i t).trans h) (wordI_lo i t) (wordI_hi i t) w
  rw [wordI_no h] at this ⊢
  exact this
theorem read_word_yes {i t : Int} (h : goodB i t = true) (w : World) : Calls Try.prog 9 #[.int .u64 (wordI i t)] w
    fun e w' => e = .returned (.tuple #[.agg #[.int .i64 i, .int .i64 t], .bool true]) ∧ ((w.alloc (.cells #[.int .i64 i, .int .i64 t] 23)).alloc (.cells #[.int .i64 i, .int .i64 t] 23)).alloc (.cells #[.int .i64 i, .int .i64 t] 23) = w' := by
  have := read_yes ((rOk_word i t).trans h) (wordI_lo i t) (wordI_hi i t) w
  have g := (goodB_iff _ _).1 h
  rw [wordI_yes h] at this ⊢
  rw [show (t * 65536 + i + 1) % 65536 - 1 = i by omega, show (t * 65536 + i + 1) / 65536 = t by omega] at this
  exact this

set_option maxHeartbeats 1600000 in
theorem back_walk (i t n : Int) (_ : -9223372036854775808 ≤ i) (_ : i ≤ 9223372036854775807) (_ : -9223372036854775808 ≤ t) (_ : t ≤ 9223372036854775807) (h0 : 0 ≤ n) (h1 : n ≤ 18446744073709551615) (w : World) : Calls Try.prog 4 #[.agg #[.int .i64 i, .int .i64 t], .int .u64 n] w
    fun e w' => e = .returned (.bool true) ∧ Below w.heap.size w w' := by
  cases hr : rOk n
  · have HR := Lib.hid hr
    clear hr
    cases h : goodB i t
    · have H := Lib.hid h
      clear h
      go_enter Try.func4, Try.ntmps4
      go_wp2_with (first
        | (go_at_call 9; (with_reducible refine (read_no HR.out h0 h1 _).mono ?_); rintro e w1 ⟨rfl, rfl⟩)
        | (go_at_call 9; (with_reducible refine (read_word_no H.out _).mono ?_); rintro e w1 ⟨rfl, rfl⟩)
        | (go_at_call 13; (with_reducible refine (word_any i t _).mono ?_); rintro e w1 ⟨rfl, rfl⟩)
        | (go_at_call 11; (with_reducible refine (good_no _ _ H.out _).mono ?_); rintro e w1 ⟨rfl, rfl⟩)
        | (go_at_call 15; (with_reducible refine (awake_any _).mono ?_); rintro e w2 ⟨rfl, hb2⟩))
      go_ret
      refine ⟨rfl, Below.trans ?_ (hb2.mono (by first | (simp; done) | (simp; omega)))⟩
      repeat (first | exact Below.refl _ _ | refine Below.alloc ?_ (by first | (simp; done) | (simp; omega)) _)
    · have H := Lib.hid h
      clear h
      go_enter Try.func4, Try.ntmps4
      go_wp2_with (first
        | (go_at_call 9; (with_reducible refine (read_no HR.out h0 h1 _).mono ?_); rintro e w1 ⟨rfl, rfl⟩)
        | (go_at_call 9; (with_reducible refine (read_word_yes H.out _).mono ?_); rintro e w1 ⟨rfl, rfl⟩)
        | (go_at_call 13; (with_reducible refine (word_any i t _).mono ?_); rintro e w1 ⟨rfl, rfl⟩)
        | (go_at_call 11; (with_reducible refine (good_yes _ _ H.out _).mono ?_); rintro e w1 ⟨rfl, rfl⟩)
        | (go_at_call 15; (with_reducible refine (awake_any _).mono ?_); rintro e w2 ⟨rfl, hb2⟩))
      go_ret
      refine ⟨rfl, Below.trans ?_ (hb2.mono (by first | (simp; done) | (simp; omega)))⟩
      repeat (first | exact Below.refl _ _ | refine Below.alloc ?_ (by first | (simp; done) | (simp; omega)) _)
  · have HR := Lib.hid hr
    clear hr
    cases h : goodB i t
    · have H := Lib.hid h
      clear h
      go_enter Try.func4, Try.ntmps4
      go_wp2_with (first
        | (go_at_call 9; (with_reducible refine (read_yes HR.out h0 h1 _).mono ?_); rintro e w1 ⟨rfl, rfl⟩)
        | (go_at_call 9; (with_reducible refine (read_word_no H.out _).mono ?_); rintro e w1 ⟨rfl, rfl⟩)
        | (go_at_call 13; (with_reducible refine (word_back HR.out _).mono ?_); rintro e w1 ⟨rfl, rfl⟩)
        | (go_at_call 13; (with_reducible refine (word_any i t _).mono ?_); rintro e w1 ⟨rfl, rfl⟩)
        | (go_at_call 11; (with_reducible refine (good_no _ _ H.out _).mono ?_); rintro e w1 ⟨rfl, rfl⟩)
        | (go_at_call 15; (with_reducible refine (awake_any _).mono ?_); rintro e w2 ⟨rfl, hb2⟩))
      go_ret
      refine ⟨rfl, Below.trans ?_ (hb2.mono (by first | (simp; done) | (simp; omega)))⟩
      repeat (first | exact Below.refl _ _ | refine Below.alloc ?_ (by first | (simp; done) | (simp; omega)) _)
    · have H := Lib.hid h
      clear h
      go_enter Try.func4, Try.ntmps4
      go_wp2_with (first
        | (go_at_call 9; (with_reducible refine (read_yes HR.out h0 h1 _).mono ?_); rintro e w1 ⟨rfl, rfl⟩)
        | (go_at_call 9; (with_reducible refine (read_word_yes H.out _).mono ?_); rintro e w1 ⟨rfl, rfl⟩)
        | (go_at_call 13; (with_reducible refine (word_back HR.out _).mono ?_); rintro e w1 ⟨rfl, rfl⟩)
        | (go_at_call 13; (with_reducible refine (word_any i t _).mono ?_); rintro e w1 ⟨rfl, rfl⟩)
        | (go_at_call 11; (with_reducible refine (good_yes _ _ H.out _).mono ?_); rintro e w1 ⟨rfl, rfl⟩)
        | (go_at_call 15; (with_reducible refine (awake_any _).mono ?_); rintro e w2 ⟨rfl, hb2⟩))
      go_ret
      refine ⟨rfl, Below.trans ?_ (hb2.mono (by first | (simp; done) | (simp; omega)))⟩
      repeat (first | exact Below.refl _ _ | refine Below.alloc ?_ (by first | (simp; done) | (simp; omega)) _)

theorem hI_lo (p g : Int) : 0 ≤ hI p g := by unfold hI; split <;> omega
theorem hI_hi (p g : Int) : hI p g ≤ 32767 := by unfold hI; split <;> omega
theorem h_back {h : Int} (k : pOk h = true) : hI (h % 8) (h / 8) = h := by
  have k' : 8 ≤ h ∧ h ≤ 32767 := by simpa [pOk] using k
  rw [hI, if_pos (by omega)]; omega
theorem pOk_hI {p g : Int} (k : pOk (hI p g) = true) : hI p g % 8 = p ∧ hI p g / 8 = g := by
  have k' : 8 ≤ hI p g ∧ hI p g ≤ 32767 := by simpa [pOk] using k
  unfold hI at k' ⊢
  split at k' <;> rename_i hh
  · rw [if_pos hh]; omega
  · omega

theorem place_no {h : Int} (k : pOk h = false) (lo : -9223372036854775808 ≤ h) (hi : h ≤ 9223372036854775807) (w : World) : Calls Try.prog 21 #[.int .i64 h] w
    fun e w' => e = .returned (.tuple #[.int .i64 0, .int .i64 0, .bool false]) ∧ w = w' := by
  have := place_any h lo hi w
  rw [show pP h = 0 by simp [pP, k], show pG h = 0 by simp [pG, k], k] at this
  exact this
theorem place_yes {h : Int} (k : pOk h = true) (lo : -9223372036854775808 ≤ h) (hi : h ≤ 9223372036854775807) (w : World) : Calls Try.prog 21 #[.int .i64 h] w
    fun e w' => e = .returned (.tuple #[.int .i64 (h % 8), .int .i64 (h / 8), .bool true]) ∧ w = w' := by
  have := place_any h lo hi w
  rw [show pP h = h % 8 by simp [pP, k], show pG h = h / 8 by simp [pG, k], k] at this
  exact this
theorem rplace_no {h : Int} (k : pOk h = false) (w : World) : Calls Try.prog 22 #[.int .i64 h] w
    fun e w' => e = .returned (.tuple #[.int .i64 0, .int .i64 0, .bool false]) ∧ w = w' := by
  have := rplace_any h w
  rw [show pP h = 0 by simp [pP, k], show pG h = 0 by simp [pG, k], k] at this
  exact this
theorem rplace_yes {h : Int} (k : pOk h = true) (w : World) : Calls Try.prog 22 #[.int .i64 h] w
    fun e w' => e = .returned (.tuple #[.int .i64 (h % 8), .int .i64 (h / 8), .bool true]) ∧ w = w' := by
  have := rplace_any h w
  rw [show pP h = h % 8 by simp [pP, k], show pG h = h / 8 by simp [pG, k], k] at this
  exact this
theorem place_own_yes {p g : Int} (k : pOk (hI p g) = true) (w : World) : Calls Try.prog 21 #[.int .i64 (hI p g)] w
    fun e w' => e = .returned (.tuple #[.int .i64 p, .int .i64 g, .bool true]) ∧ w = w' := by
  have := place_yes k (by have := hI_lo p g; omega) (by have := hI_hi p g; omega) w
  rw [(pOk_hI k).1, (pOk_hI k).2] at this
  exact this
theorem place_own_no {p g : Int} (k : pOk (hI p g) = false) (w : World) : Calls Try.prog 21 #[.int .i64 (hI p g)] w
    fun e w' => e = .returned (.tuple #[.int .i64 0, .int .i64 0, .bool false]) ∧ w = w' :=
  place_no k (by have := hI_lo p g; omega) (by have := hI_hi p g; omega) w
theorem handle_back {h : Int} (k : pOk h = true) (w : World) : Calls Try.prog 23 #[.int .i64 (h % 8), .int .i64 (h / 8)] w
    fun e w' => e = .returned (.int .i64 h) ∧ w = w' := by
  have := handle_any (h % 8) (h / 8) w
  rw [h_back k] at this
  exact this

set_option maxHeartbeats 1600000 in
theorem handles_walk (p g h : Int) (_ : -9223372036854775808 ≤ p) (_ : p ≤ 9223372036854775807) (_ : -9223372036854775808 ≤ g) (_ : g ≤ 9223372036854775807) (lo : -9223372036854775808 ≤ h) (hi : h ≤ 9223372036854775807) (w : World) : Calls Try.prog 8 #[.int .i64 p, .int .i64 g, .int .i64 h] w
    fun e w' => e = .returned (.bool true) ∧ Below w.heap.size w w' := by
  cases k : pOk h
  · have K := Lib.hid k
    clear k
    cases j : pOk (hI p g)
    · have J := Lib.hid j
      clear j
      go_enter Try.func8, Try.ntmps8
      go_wp2_with (first
        | (go_at_call 21; (with_reducible refine (place_no K.out lo hi _).mono ?_); rintro e w1 ⟨rfl, rfl⟩)
        | (go_at_call 21; (with_reducible refine (place_own_no J.out _).mono ?_); rintro e w1 ⟨rfl, rfl⟩)
        | (go_at_call 22; (with_reducible refine (rplace_no K.out _).mono ?_); rintro e w1 ⟨rfl, rfl⟩)
        | (go_at_call 23; (with_reducible refine (handle_any p g _).mono ?_); rintro e w1 ⟨rfl, rfl⟩)
        | (go_at_call 24; (with_reducible refine (rhandle_any p g _).mono ?_); rintro e w1 ⟨rfl, rfl⟩)
        | (go_at_call 15; (with_reducible refine (awake_any _).mono ?_); rintro e w2 ⟨rfl, hb2⟩))
      go_ret
      exact ⟨rfl, hb2⟩
    · have J := Lib.hid j
      clear j
      go_enter Try.func8, Try.ntmps8
      go_wp2_with (first
        | (go_at_call 21; (with_reducible refine (place_no K.out lo hi _).mono ?_); rintro e w1 ⟨rfl, rfl⟩)
        | (go_at_call 21; (with_reducible refine (place_own_yes J.out _).mono ?_); rintro e w1 ⟨rfl, rfl⟩)
        | (go_at_call 22; (with_reducible refine (rplace_no K.out _).mono ?_); rintro e w1 ⟨rfl, rfl⟩)
        | (go_at_call 23; (with_reducible refine (handle_any p g _).mono ?_); rintro e w1 ⟨rfl, rfl⟩)
        | (go_at_call 24; (with_reducible refine (rhandle_any p g _).mono ?_); rintro e w1 ⟨rfl, rfl⟩)
        | (go_at_call 15; (with_reducible refine (awake_any _).mono ?_); rintro e w2 ⟨rfl, hb2⟩))
      go_ret
      exact ⟨rfl, hb2⟩
  · have K := Lib.hid k
    clear k
    cases j : pOk (hI p g)
    · have J := Lib.hid j
      clear j
      go_enter Try.func8, Try.ntmps8
      go_wp2_with (first
        | (go_at_call 21; (with_reducible refine (place_yes K.out lo hi _).mono ?_); rintro e w1 ⟨rfl, rfl⟩)
        | (go_at_call 21; (with_reducible refine (place_own_no J.out _).mono ?_); rintro e w1 ⟨rfl, rfl⟩)
        | (go_at_call 22; (with_reducible refine (rplace_yes K.out _).mono ?_); rintro e w1 ⟨rfl, rfl⟩)
        | (go_at_call 23; (with_reducible refine (handle_back K.out _).mono ?_); rintro e w1 ⟨rfl, rfl⟩)
        | (go_at_call 23; (with_reducible refine (handle_any p g _).mono ?_); rintro e w1 ⟨rfl, rfl⟩)
        | (go_at_call 24; (with_reducible refine (rhandle_any p g _).mono ?_); rintro e w1 ⟨rfl, rfl⟩)
        | (go_at_call 15; (with_reducible refine (awake_any _).mono ?_); rintro e w2 ⟨rfl, hb2⟩))
      go_ret
      exact ⟨rfl, hb2⟩
    · have J := Lib.hid j
      clear j
      go_enter Try.func8, Try.ntmps8
      go_wp2_with (first
        | (go_at_call 21; (with_reducible refine (place_yes K.out lo hi _).mono ?_); rintro e w1 ⟨rfl, rfl⟩)
        | (go_at_call 21; (with_reducible refine (place_own_yes J.out _).mono ?_); rintro e w1 ⟨rfl, rfl⟩)
        | (go_at_call 22; (with_reducible refine (rplace_yes K.out _).mono ?_); rintro e w1 ⟨rfl, rfl⟩)
        | (go_at_call 23; (with_reducible refine (handle_back K.out _).mono ?_); rintro e w1 ⟨rfl, rfl⟩)
        | (go_at_call 23; (with_reducible refine (handle_any p g _).mono ?_); rintro e w1 ⟨rfl, rfl⟩)
        | (go_at_call 24; (with_reducible refine (rhandle_any p g _).mono ?_); rintro e w1 ⟨rfl, rfl⟩)
        | (go_at_call 15; (with_reducible refine (awake_any _).mono ?_); rintro e w2 ⟨rfl, hb2⟩))
      go_ret
      exact ⟨rfl, hb2⟩
end Go.Proofs.Ytcbdbpcibhjkjaa
