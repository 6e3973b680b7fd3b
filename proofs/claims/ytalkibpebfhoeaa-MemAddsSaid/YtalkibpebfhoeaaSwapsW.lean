/- The walk of MemSwaps over the seat's program: for every input it returns true, and makes new memory alone. -/
import Derived.Test.YtalkibpebfhoeaaPoke
import Derived.Test.YtalkibpebfhoeaaSwap
import Derived.Test.YtalkibpebfhoeaaAwake
namespace Go.Proofs.Ytalkibpebfhoeaa
open Go.ChangeShapes Go.WideShapes Go.ChangeAt Go.RowKit Go.Joins
attribute [local go_sem ↓] Go.wp_at_zero Go.wp_at_succ

theorem new_one (w : World) : Calls Try.prog 6 #[.int .i64 1] w fun e w' => ∃ p, e = .returned (.pointer (some ⟨p, 0, none⟩)) ∧ MObj w' w.heap.size p w.heap.size 1 (.slice none 0 0) (fun _ => 0) false (fun _ => 0) ∧ Below w.heap.size w w' := new_some 1 (by omega) (by omega) w
theorem swap_same_any (B p bw : Nat) (lv : Value) (cnt f : Nat → Int) (t x y : Int) (hx : f 0 = x) (w : World) (hB : B ≤ w.heap.size) (h : MObj w B p bw 1 lv cnt false f) :
    Calls Try.prog 8 #[.pointer (some ⟨p, 0, none⟩), .int .i64 t, .int .i64 0, .int .u64 x, .int .u64 y] w fun e w' => e = .returned (.tuple #[.bool true, .int .i64 0]) ∧ ∃ c, MObj w' B p bw 1 lv c false (upd f 0 y) ∧ Below B w w' := by
  by_cases h0 : t < 0
  · exact (swap_same_low B p bw 1 0 lv cnt f x y t h0 (by omega) hx w hB h).mono fun _ _ ⟨a, b, c⟩ => ⟨a, _, b, c⟩
  · by_cases h1 : 64 ≤ t
    · exact (swap_same_high B p bw 1 0 lv cnt f x y t h1 (by omega) hx w hB h).mono fun _ _ ⟨a, b, c⟩ => ⟨a, _, b, c⟩
    · obtain ⟨k, rfl⟩ : ∃ k : Nat, t = k := ⟨t.toNat, by omega⟩
      exact (swap_same_in B p bw 1 0 lv cnt f x y k (by omega) (by omega) hx w hB h).mono fun _ _ ⟨a, b, c⟩ => ⟨a, _, b, c⟩
theorem swap_other_any (B p bw : Nat) (lv : Value) (cnt f : Nat → Int) (t x y want : Int) (hne : x ≠ want) (hx : f 0 = x) (w : World) (hB : B ≤ w.heap.size) (h : MObj w B p bw 1 lv cnt false f) :
    Calls Try.prog 8 #[.pointer (some ⟨p, 0, none⟩), .int .i64 t, .int .i64 0, .int .u64 want, .int .u64 y] w fun e w' => e = .returned (.tuple #[.bool false, .int .i64 0]) ∧ ∃ c, MObj w' B p bw 1 lv c false (upd f 0 x) ∧ Below B w w' := by
  by_cases h0 : t < 0
  · exact (swap_other_low B p bw 1 0 lv cnt f x y want hne t h0 (by omega) hx w hB h).mono fun _ _ ⟨a, b, c⟩ => ⟨a, _, b, c⟩
  · by_cases h1 : 64 ≤ t
    · exact (swap_other_high B p bw 1 0 lv cnt f x y want hne t h1 (by omega) hx w hB h).mono fun _ _ ⟨a, b, c⟩ => ⟨a, _, b, c⟩
    · obtain ⟨k, rfl⟩ : ∃ k : Nat, t = k := ⟨t.toNat, by omega⟩
      exact (swap_other_in B p bw 1 0 lv cnt f x y want hne k (by omega) (by omega) hx w hB h).mono fun _ _ ⟨a, b, c⟩ => ⟨a, _, b, c⟩
theorem peek_one (B p bw : Nat) (lv : Value) (cnt f : Nat → Int) (keep : Bool) (x : Int) (hx : f 0 = x) (w : World) (h : MObj w B p bw 1 lv cnt keep f) :
    Calls Try.prog 9 #[.pointer (some ⟨p, 0, none⟩), .int .i64 0] w fun e w' => e = .returned (.int .u64 x) ∧ w = w' :=
  peek_yes p bw 1 0 x (by omega) (by omega) w h.words (by rw [← hx]; exact h.row 0 (by omega))

set_option maxRecDepth 100000 in
set_option maxHeartbeats 6400000 in
theorem swaps_yes (fr b t u : Int) (w : World) : Calls Try.prog 3 #[.int .u64 fr, .int .u64 fr, .int .u64 b, .int .i64 t, .int .i64 u] w fun e w' => e = .returned (.bool true) ∧ Below w.heap.size w w' := by
  go_enter Try.func3, Try.ntmps3
  go_wp2_with (first
    | (go_at_call 6; (with_reducible refine (new_one _).mono ?_); rintro e w1 ⟨p, rfl, hM, hb⟩; have HM := Lib.hid hM; have HB := Lib.hid hb; have hz := hb.size; clear hM hb)
    | (go_at_call 7; (with_reducible refine (poke_one w.heap.size p w.heap.size _ _ _ fr _ w1.heap.size _ (HM.out.alloc _) (by go_simp)).mono ?_); rintro e w2 ⟨rfl, hM2, hb2⟩; have HM2 := Lib.hid hM2; have HF2 := Lib.hid (show upd (fun _ => (0 : Int)) 0 fr 0 = fr from rfl); have HB2 := Lib.hid ((Below.alloc HB.out hz _).trans hb2); have HZ2 := Lib.hid (HB2.out.size); clear hM2 hb2)
    | (go_at_call 8; (with_reducible refine (swap_same_any w.heap.size p w.heap.size _ _ _ u fr b HF3.out w3 HZ3.out HM3.out).mono ?_); rintro e w4 ⟨rfl, c4, hM4, hb4⟩; have HM4 := Lib.hid hM4; have HF4 := Lib.hid (show upd (upd (upd (fun _ => (0 : Int)) 0 fr) 0 fr) 0 b 0 = b from rfl); have HB4 := Lib.hid (HB3.out.trans hb4); clear hM4 hb4)
    | (go_at_call 8; (with_reducible refine (swap_same_any w.heap.size p w.heap.size _ _ _ t fr fr HF2.out w2 HZ2.out HM2.out).mono ?_); rintro e w3 ⟨rfl, c3, hM3, hb3⟩; have HM3 := Lib.hid hM3; have HF3 := Lib.hid (show upd (upd (fun _ => (0 : Int)) 0 fr) 0 fr 0 = fr from rfl); have HB3 := Lib.hid (HB2.out.trans hb3); have HZ3 := Lib.hid (HB3.out.size); clear hM3 hb3)
    | (go_at_call 9; go_loud (refine (peek_one _ p _ _ _ _ _ b HF4.out _ HM4.out).mono ?_); rintro e w5 ⟨rfl, rfl⟩)
    | (go_at_call 10; (with_reducible refine (awake_any _).mono ?_); rintro e w6 ⟨rfl, hb6⟩; have HB6 := Lib.hid (HB4.out.trans (hb6.mono HB4.out.size)); clear hb6))
  go_ret
  exact ⟨rfl, HB6.out⟩

set_option maxRecDepth 100000 in
set_option maxHeartbeats 6400000 in
theorem swaps_no (fr b t u : Int) (a : Int) (hne : a ≠ fr) (w : World) : Calls Try.prog 3 #[.int .u64 fr, .int .u64 a, .int .u64 b, .int .i64 t, .int .i64 u] w fun e w' => e = .returned (.bool true) ∧ Below w.heap.size w w' := by
  have HNE := Lib.hid hne
  have e1 : (a == fr) = false := by simp [hne]
  clear hne
  go_enter Try.func3, Try.ntmps3
  go_wp2_with (first
    | (go_at_call 6; (with_reducible refine (new_one _).mono ?_); rintro e w1 ⟨p, rfl, hM, hb⟩; have HM := Lib.hid hM; have HB := Lib.hid hb; have hz := hb.size; clear hM hb)
    | (go_at_call 7; (with_reducible refine (poke_one w.heap.size p w.heap.size _ _ _ fr _ w1.heap.size _ (HM.out.alloc _) (by go_simp)).mono ?_); rintro e w2 ⟨rfl, hM2, hb2⟩; have HM2 := Lib.hid hM2; have HF2 := Lib.hid (show upd (fun _ => (0 : Int)) 0 fr 0 = fr from rfl); have HB2 := Lib.hid ((Below.alloc HB.out hz _).trans hb2); have HZ2 := Lib.hid (HB2.out.size); clear hM2 hb2)
    | (go_at_call 8; (with_reducible refine (swap_other_any w.heap.size p w.heap.size _ _ _ u a b fr HNE.out HF3.out w3 HZ3.out HM3.out).mono ?_); rintro e w4 ⟨rfl, c4, hM4, hb4⟩; have HM4 := Lib.hid hM4; have HF4 := Lib.hid (show upd (upd (upd (fun _ => (0 : Int)) 0 fr) 0 a) 0 a 0 = a from rfl); have HB4 := Lib.hid (HB3.out.trans hb4); clear hM4 hb4)
    | (go_at_call 8; (with_reducible refine (swap_same_any w.heap.size p w.heap.size _ _ _ t fr a HF2.out w2 HZ2.out HM2.out).mono ?_); rintro e w3 ⟨rfl, c3, hM3, hb3⟩; have HM3 := Lib.hid hM3; have HF3 := Lib.hid (show upd (upd (fun _ => (0 : Int)) 0 fr) 0 a 0 = a from rfl); have HB3 := Lib.hid (HB2.out.trans hb3); have HZ3 := Lib.hid (HB3.out.size); clear hM3 hb3)
    | (go_at_call 9; go_loud (refine (peek_one _ p _ _ _ _ _ a HF4.out _ HM4.out).mono ?_); rintro e w5 ⟨rfl, rfl⟩)
    | (go_at_call 10; (with_reducible refine (awake_any _).mono ?_); rintro e w6 ⟨rfl, hb6⟩; have HB6 := Lib.hid (HB4.out.trans (hb6.mono HB4.out.size)); clear hb6))
  go_ret
  exact ⟨rfl, HB6.out⟩

theorem swaps_walk (fr a b t u : Int) (w : World) : Calls Try.prog 3 #[.int .u64 fr, .int .u64 a, .int .u64 b, .int .i64 t, .int .i64 u] w fun e w' => e = .returned (.bool true) ∧ Below w.heap.size w w' := by
  by_cases h : a = fr
  · subst h; exact swaps_yes a b t u w
  · exact swaps_no fr b t u a h w
theorem swaps_walk0 (fr a b t u : Int) {p1 p2 p3 p4 p5 p6 p7 p8 p9 p10 : Prop} (_ : p1) (_ : p2) (_ : p3) (_ : p4) (_ : p5) (_ : p6) (_ : p7) (_ : p8) (_ : p9) (_ : p10) (w : World) : Calls Try.prog 3 #[.int .u64 fr, .int .u64 a, .int .u64 b, .int .i64 t, .int .i64 u] w fun e w' => e = .returned (.bool true) ∧ Below w.heap.size w w' := swaps_walk fr a b t u w
end Go.Proofs.Ytalkibpebfhoeaa
