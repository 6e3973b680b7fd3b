/- The walk of EpochTells over the seat's program: for every input it returns true, and makes new memory alone. -/
import Derived.Test.YtiadkhdcnipfbaaEpAwake
import Derived.Test.YtiadkhdcnipfbaaInts
namespace Go.Proofs.Ytiadkhdcnipfbaa
open Go.ChangeShapes Go.WideShapes Go.ChangeAt Go.RowKit Go.Joins

set_option maxRecDepth 100000 in
set_option maxHeartbeats 3200000 in
theorem tells_walk (a : Option Addr) (n cap : Nat) (f : Nat → Int) (me g : Int) (w : World) (h : RowAt .u64 w a n cap f) (hf : ∀ i, i < n → 0 ≤ f i ∧ f i ≤ 18446744073709551615) (_ : -9223372036854775808 ≤ me) (_ : me ≤ 9223372036854775807) (_ : -9223372036854775808 ≤ g) (_ : g ≤ 9223372036854775807) :
    Calls Try.prog 3 #[.slice a n cap, .int .i64 me, .int .i64 g] w fun e w' => e = .returned (.bool true) ∧ Below w.heap.size w w' := by
  have HR := Lib.hid h
  have HF := Lib.hid (show ∀ i, i < n → 0 ≤ f i ∧ f i < 18446744073709551616 from fun i hi => ⟨(hf i hi).1, by have := (hf i hi).2; omega⟩)
  obtain ⟨L, hL⟩ : ∃ L, leastS f n = L := ⟨_, rfl⟩
  obtain ⟨x, y⟩ := L
  obtain ⟨A, hA⟩ : ∃ A, allB n f me g = A := ⟨_, rfl⟩
  obtain ⟨I, hI⟩ : ∃ I, inI f n = I := ⟨_, rfl⟩
  have H7 := Lib.hid (fun W (h : RowAt .u64 W a n cap f) => show Calls Try.prog 7 #[.slice a n cap] W fun e w' => e = .returned (.tuple #[.int .i64 x, .bool y]) ∧ W = w' by
    have := least_any a n cap f W HF.out h
    rw [hL] at this; exact this)
  have H8 := Lib.hid (fun W (h : RowAt .u64 W a n cap f) => show Calls Try.prog 8 #[.slice a n cap] W fun e w' => e = .returned (.tuple #[.int .i64 x, .bool y]) ∧ W = w' by
    have := rleast_any a n cap f W HF.out h
    rw [hL] at this; exact this)
  have H9 := Lib.hid (fun W h => all_eq a n cap f me g hA W h)
  have H10 := Lib.hid (fun W h => rall_eq a n cap f me g hA W h)
  have H11 := Lib.hid (fun W (h : RowAt .u64 W a n cap f) => show Calls Try.prog 11 #[.slice a n cap] W fun e w' => e = .returned (.int .i64 (I : Nat)) ∧ W = w' by
    have := in_any a n cap f W h
    rw [hI] at this; exact this)
  have H12 := Lib.hid (fun W (h : RowAt .u64 W a n cap f) => show Calls Try.prog 12 #[.slice a n cap] W fun e w' => e = .returned (.int .i64 (I : Nat)) ∧ W = w' by
    have := rin_any a n cap f W h
    rw [hI] at this; exact this)
  clear h hf hL hA hI
  go_enter Try.func3, Try.ntmps3
  go_wp2_with (first
    | (go_at_call 7; (with_reducible refine (H7.out _ HR.out).mono ?_); rintro e w2 ⟨rfl, rfl⟩)
    | (go_at_call 8; (with_reducible refine (H8.out _ HR.out).mono ?_); rintro e w2 ⟨rfl, rfl⟩)
    | (go_at_call 9; (with_reducible refine (H9.out _ HR.out).mono ?_); rintro e w2 ⟨rfl, rfl⟩)
    | (go_at_call 10; (with_reducible refine (H10.out _ HR.out).mono ?_); rintro e w2 ⟨rfl, hd⟩; have HB := Lib.hid hd.below; have HR2 := Lib.hid (HR.out.below hd.below); clear hd)
    | (go_at_call 11; (with_reducible refine (H11.out _ HR2.out).mono ?_); rintro e w3 ⟨rfl, rfl⟩)
    | (go_at_call 12; (with_reducible refine (H12.out _ HR2.out).mono ?_); rintro e w3 ⟨rfl, rfl⟩)
    | (go_at_call 14; (with_reducible refine (late_any a n cap f g _ HR2.out).mono ?_); rintro e w4 ⟨a4, cap4, rfl, ho4, hb4⟩; have HO4 := Lib.hid ho4; have HR4 := Lib.hid (HR2.out.below hb4); have HB4 := Lib.hid (HB.out.trans (hb4.mono HB.out.size)); clear ho4 hb4)
    | (go_at_call 15; (with_reducible refine (rlate_any a n cap f g _ HR4.out).mono ?_); rintro e w5 ⟨a5, cap5, rfl, ho5, hb5⟩; have HO5 := Lib.hid ho5; have HO45 := Lib.hid (HO4.out.below hb5); have HB5 := Lib.hid (HB4.out.trans (hb5.mono HB4.out.size)); clear ho5 hb5)
    | (go_at_call 13; (with_reducible refine (ints_yes _ _ _ _ _ _ _ _ HO45.out.row HO5.out.row (fun _ _ => rfl)).mono ?_); rintro e w6 ⟨rfl, hd⟩; have HB6 := Lib.hid (HB5.out.trans (hd.below.mono HB5.out.size)); clear hd)
    | (go_at_call 16; (with_reducible refine (awake_any _).mono ?_); rintro e w7 ⟨rfl, hb7⟩; have HB7 := Lib.hid (HB6.out.trans (hb7.mono HB6.out.size)); clear hb7))
  go_ret
  exact ⟨rfl, HB7.out⟩
end Go.Proofs.Ytiadkhdcnipfbaa
