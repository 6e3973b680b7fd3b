/- The walk of MemAdds over the seat's program: for every input it returns true, and makes new memory alone. -/
import Derived.Test.YtalkibpebfhoeaaSwapsW
import Derived.Test.YtalkibpebfhoeaaAdd
import Derived.Test.YtalkibpebfhoeaaOpen
namespace Go.Proofs.Ytalkibpebfhoeaa
open Go.ChangeShapes Go.WideShapes Go.ChangeAt Go.RowKit Go.Joins
attribute [local go_sem ↓] Go.wp_at_zero Go.wp_at_succ

theorem add_any (B p bw : Nat) (lv : Value) (cnt f : Nat → Int) (t x y : Int) (hy : IntKind.u64.wrap (x + 1) = y) (hx : f 0 = x) (w : World) (hB : B ≤ w.heap.size) (h : MObj w B p bw 1 lv cnt false f) :
    Calls Try.prog 11 #[.pointer (some ⟨p, 0, none⟩), .int .i64 t, .int .i64 0, .int .u64 1] w fun e w' => e = .returned (.tuple #[.int .u64 x, .int .i64 0]) ∧ ∃ c g, g 0 = y ∧ MObj w' B p bw 1 lv c false g ∧ Below B w w' := by
  have hu : upd f 0 (IntKind.u64.wrap (x + 1)) 0 = y := hy
  by_cases h0 : t < 0
  · exact (add_low B p bw 1 0 lv cnt f x 1 t h0 (by omega) hx w hB h).mono fun _ _ ⟨a, b, c⟩ => ⟨a, _, _, hu, b, c⟩
  · by_cases h1 : 64 ≤ t
    · exact (add_high B p bw 1 0 lv cnt f x 1 t h1 (by omega) hx w hB h).mono fun _ _ ⟨a, b, c⟩ => ⟨a, _, _, hu, b, c⟩
    · obtain ⟨k, rfl⟩ : ∃ k : Nat, t = k := ⟨t.toNat, by omega⟩
      exact (add_in B p bw 1 0 lv cnt f x 1 k (by omega) (by omega) hx w hB h).mono fun _ _ ⟨a, b, c⟩ => ⟨a, _, _, hu, b, c⟩

/-- The word behind so many additions of one. -/
def sumI (x : Int) (k : Nat) : Int := IntKind.u64.wrap (x + k)
theorem sumI_zero (x : Int) (h0 : 0 ≤ x) (h1 : x < 18446744073709551616) : sumI x 0 = x := by unfold sumI; rw [IntKind.wrap_u64]; omega
theorem sumI_succ (x : Int) (k : Nat) : IntKind.u64.wrap (sumI x k + 1) = sumI x (k + 1) := by unfold sumI; simp only [IntKind.wrap_u64]; omega

/-- What holds at the head of each round. -/
def AddsRel (B p bw : Nat) (fr : Int) (f : Nat → Int) (a : Option Addr) (n k : Nat) (w wr : World) : Prop :=
  ∃ lv c g, g 0 = sumI fr k ∧ MObj wr B p bw 1 lv c false g ∧ Below B w wr ∧ RowAt .i64 wr a n f ∧ B ≤ wr.heap.size

set_option maxRecDepth 100000 in
set_option maxHeartbeats 6400000 in
theorem adds_short (fr : Int) (h0 : 0 ≤ fr) (h1 : fr < 18446744073709551616) (a : Option Addr) (n cap : Nat) (f : Nat → Int) (hn : n ≤ 200) (w : World) (h : RowAt .i64 w a n f) :
    Calls Try.prog 4 #[.int .u64 fr, .slice a n cap] w fun e w' => e = .returned (.bool true) ∧ Below w.heap.size w w' := by
  have HS0 := Lib.hid (sumI_zero fr h0 h1)
  have HR := Lib.hid h
  have n1 : (n : Int) ≤ 200 := by omega
  clear h h0 h1
  go_enter Try.func4, Try.ntmps4
  go_wp2_with (first
    | (go_at_call 6; (with_reducible refine (new_one _).mono ?_); rintro e w1 ⟨p, rfl, hM, hb⟩; have HM := Lib.hid hM; have HB := Lib.hid hb; have hz := hb.size; clear hM hb)
    | (go_at_call 7; (with_reducible refine (poke_one w.heap.size p w.heap.size _ _ _ fr _ w1.heap.size _ (HM.out.alloc _) (by go_simp)).mono ?_); rintro e w2 ⟨rfl, hM2, hb2⟩; have HM2 := Lib.hid hM2; have HB2 := Lib.hid ((Below.alloc HB.out hz _).trans hb2); have HZ2 := Lib.hid (HB2.out.size); clear hM2 hb2))
  go_loopw [21] (fun i wr => ∃ k : Nat, k ≤ n ∧ i = .int .i64 k ∧ AddsRel w.heap.size p w.heap.size fr f a n k w wr) (fun i _ => n - (intOf i).toNat)
  case atStart => exact ⟨0, Nat.zero_le _, rfl, _, _, _, by rw [HS0.out]; rfl, HM2.out, HB2.out, HR.out.below HB2.out, HZ2.out⟩
  case round =>
    obtain ⟨k, hk, rfl, lv, c, g, hg, hM3, hb3, hr3, hz3⟩ := hrel
    have HG := Lib.hid hg
    have HM3 := Lib.hid hM3
    have HB3 := Lib.hid hb3
    have HR3 := Lib.hid hr3
    clear hg hM3 hb3 hr3
    by_cases hlt : k < n
    · obtain ⟨b, off, rfl, hb, hc⟩ := HR3.out.get hlt
      have c1 := hc k hlt
      have i0 : (0 : Int) ≤ (k : Int) := by omega
      have i1 : (k : Int) < (n : Int) := by omega
      have e1 : (sumI fr k != IntKind.u64.wrap (fr + k)) = false := by simp [sumI]
      clear hc
      go_wp2_with (go_at_call 11; (with_reducible refine (add_any w.heap.size p w.heap.size lv c g (f k) (sumI fr k) (sumI fr (k + 1)) (sumI_succ fr k) HG.out wr hz3 HM3.out).mono ?_); rintro e w4 ⟨rfl, c4, g4, hg4, hM4, hb4⟩; have HG4 := Lib.hid hg4; have HM4 := Lib.hid hM4; have HB4 := Lib.hid hb4; clear hg4 hM4 hb4)
      go_roundw
      case rel => exact ⟨k + 1, by omega, by go_num, lv, c4, g4, HG4.out, HM4.out, HB3.out.trans HB4.out, HR.out.below (HB3.out.trans HB4.out), Nat.le_trans hz3 HB4.out.size⟩
      case measure => simp [intOf]; omega
    · obtain rfl : k = n := by omega
      have e1 : (sumI fr k == IntKind.u64.wrap (fr + k)) = true := by simp [sumI]
      go_wp2_with (first
        | (go_at_call 9; go_loud (refine (peek_one _ p _ _ _ _ _ (sumI fr k) HG.out _ HM3.out).mono ?_); rintro e w5 ⟨rfl, rfl⟩)
        | (go_at_call 10; (with_reducible refine (awake_any _).mono ?_); rintro e w6 ⟨rfl, hb6⟩; have HB6 := Lib.hid (HB3.out.trans (hb6.mono hz3)); clear hb6))
      go_ret
      exact ⟨rfl, HB6.out⟩

set_option maxHeartbeats 1600000 in
theorem adds_long (fr : Int) (a : Option Addr) (n cap : Nat) (hn : 200 < n) (w : World) :
    Calls Try.prog 4 #[.int .u64 fr, .slice a n cap] w fun e w' => e = .returned (.bool true) ∧ Below w.heap.size w w' := by
  have n1 : 200 < (n : Int) := by omega
  go_enter Try.func4, Try.ntmps4
  go_wp2_with (go_at_call 10; (with_reducible refine (awake_any _).mono ?_); rintro e w6 ⟨rfl, hb6⟩)
  go_ret
  exact ⟨rfl, hb6⟩

theorem adds_walk (fr : Int) (a : Option Addr) (n cap : Nat) (f : Nat → Int) (w : World) (h0 : 0 ≤ fr) (h1 : fr ≤ 18446744073709551615) (_ : n * 8 ≤ 140737488351232) (h : RowAt .i64 w a n f) :
    Calls Try.prog 4 #[.int .u64 fr, .slice a n cap] w fun e w' => e = .returned (.bool true) ∧ Below w.heap.size w w' := by
  by_cases hn : n ≤ 200
  · exact adds_short fr h0 (by omega) a n cap f hn w h
  · exact adds_long fr a n cap (by omega) w
end Go.Proofs.Ytalkibpebfhoeaa
