/- Contracts of Add over the seat's program, where nothing is noted. -/
import Derived.Test.YtalkibpebfhoeaaAccA
namespace Go.Proofs.Ytalkibpebfhoeaa
open Go.ChangeShapes Go.WideShapes Go.ChangeAt Go.RowKit Go.Joins
attribute [local go_sem ↓] Go.wp_at_zero Go.wp_at_succ

set_option maxHeartbeats 1600000 in
theorem add_in (B p bw n i : Nat) (lv : Value) (cnt f : Nat → Int) (x y : Int) (k : Nat) (hk : k < 64) (hi : i < n) (hx : f i = x) (w : World) (hB : B ≤ w.heap.size) (h : MObj w B p bw n lv cnt false f) :
    Calls Try.prog 11 #[.pointer (some ⟨p, 0, none⟩), .int .i64 (k : Int), .int .i64 i, .int .u64 y] w fun e w' =>
      e = .returned (.tuple #[.int .u64 x, .int .i64 0]) ∧ MObj w' B p bw n lv (upd cnt k (wrap64 (cnt k + 1))) false (upd f i (IntKind.u64.wrap (x + y))) ∧ Below B w w' := by
  have HA := Lib.hid (acc24_in B p bw n i lv cnt f x 4 0 (IntKind.u64.wrap (x + y)) true w.heap.size k hk hi hx (w.alloc (.cells #[.int .u64 y] 22)) (by simp; omega) (h.alloc _)
    (fun W hW => add_f w.heap.size y x W (by rw [hW _ _ (by simp)]; go_simp)))
  have hB0 := hB
  clear h
  go_enter Try.func11, Try.ntmps11
  go_wp2_with (go_at_call 21; (with_reducible refine HA.out.mono ?_); rintro e w1 ⟨rfl, hM, hb⟩; have HM := Lib.hid hM; have HBb := Lib.hid hb; clear hM hb)
  go_ret2
  exact ⟨rfl, HM.out.alloc _, Below.alloc (Below.trans (Below.alloc (Below.refl _ _) hB0 _) HBb.out) (Nat.le_trans HM.out.hp.1 (Nat.le_of_lt HM.out.hp.2)) _⟩

set_option maxHeartbeats 1600000 in
theorem add_low (B p bw n i : Nat) (lv : Value) (cnt f : Nat → Int) (x y : Int) (t : Int) (ht : t < 0) (hi : i < n) (hx : f i = x) (w : World) (hB : B ≤ w.heap.size) (h : MObj w B p bw n lv cnt false f) :
    Calls Try.prog 11 #[.pointer (some ⟨p, 0, none⟩), .int .i64 t, .int .i64 i, .int .u64 y] w fun e w' =>
      e = .returned (.tuple #[.int .u64 x, .int .i64 0]) ∧ MObj w' B p bw n lv cnt false (upd f i (IntKind.u64.wrap (x + y))) ∧ Below B w w' := by
  have HA := Lib.hid (acc24_low B p bw n i lv cnt f x 4 0 (IntKind.u64.wrap (x + y)) true w.heap.size t ht hi hx (w.alloc (.cells #[.int .u64 y] 22)) (by simp; omega) (h.alloc _)
    (fun W hW => add_f w.heap.size y x W (by rw [hW _ _ (by simp)]; go_simp)))
  have hB0 := hB
  clear h
  go_enter Try.func11, Try.ntmps11
  go_wp2_with (go_at_call 21; (with_reducible refine HA.out.mono ?_); rintro e w1 ⟨rfl, hM, hb⟩; have HM := Lib.hid hM; have HBb := Lib.hid hb; clear hM hb)
  go_ret2
  exact ⟨rfl, HM.out.alloc _, Below.alloc (Below.trans (Below.alloc (Below.refl _ _) hB0 _) HBb.out) (Nat.le_trans HM.out.hp.1 (Nat.le_of_lt HM.out.hp.2)) _⟩

set_option maxHeartbeats 1600000 in
theorem add_high (B p bw n i : Nat) (lv : Value) (cnt f : Nat → Int) (x y : Int) (t : Int) (ht : 64 ≤ t) (hi : i < n) (hx : f i = x) (w : World) (hB : B ≤ w.heap.size) (h : MObj w B p bw n lv cnt false f) :
    Calls Try.prog 11 #[.pointer (some ⟨p, 0, none⟩), .int .i64 t, .int .i64 i, .int .u64 y] w fun e w' =>
      e = .returned (.tuple #[.int .u64 x, .int .i64 0]) ∧ MObj w' B p bw n lv cnt false (upd f i (IntKind.u64.wrap (x + y))) ∧ Below B w w' := by
  have HA := Lib.hid (acc24_high B p bw n i lv cnt f x 4 0 (IntKind.u64.wrap (x + y)) true w.heap.size t ht hi hx (w.alloc (.cells #[.int .u64 y] 22)) (by simp; omega) (h.alloc _)
    (fun W hW => add_f w.heap.size y x W (by rw [hW _ _ (by simp)]; go_simp)))
  have hB0 := hB
  clear h
  go_enter Try.func11, Try.ntmps11
  go_wp2_with (go_at_call 21; (with_reducible refine HA.out.mono ?_); rintro e w1 ⟨rfl, hM, hb⟩; have HM := Lib.hid hM; have HBb := Lib.hid hb; clear hM hb)
  go_ret2
  exact ⟨rfl, HM.out.alloc _, Below.alloc (Below.trans (Below.alloc (Below.refl _ _) hB0 _) HBb.out) (Nat.le_trans HM.out.hp.1 (Nat.le_of_lt HM.out.hp.2)) _⟩
end Go.Proofs.Ytalkibpebfhoeaa
