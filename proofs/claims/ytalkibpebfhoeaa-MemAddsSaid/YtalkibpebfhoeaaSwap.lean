/- Contracts of Swap over the seat's program, where nothing is noted. -/
import Derived.Test.YtalkibpebfhoeaaAccS
namespace Go.Proofs.Ytalkibpebfhoeaa
open Go.ChangeShapes Go.WideShapes Go.ChangeAt Go.RowKit Go.Joins
attribute [local go_sem ↓] Go.wp_at_zero Go.wp_at_succ

set_option maxHeartbeats 1600000 in
theorem swap_same_in (B p bw n i : Nat) (lv : Value) (cnt f : Nat → Int) (x y : Int) (k : Nat) (hk : k < 64) (hi : i < n) (hx : f i = x) (w : World) (hB : B ≤ w.heap.size) (h : MObj w B p bw n lv cnt false f) :
    Calls Try.prog 8 #[.pointer (some ⟨p, 0, none⟩), .int .i64 (k : Int), .int .i64 i, .int .u64 x, .int .u64 y] w fun e w' =>
      e = .returned (.tuple #[.bool true, .int .i64 0]) ∧ MObj w' B p bw n lv (upd cnt k (wrap64 (cnt k + 1))) false (upd f i y) ∧ Below B w w' := by
  have HA := Lib.hid (acc22_in B p bw n i lv cnt f x 3 x y true w.heap.size (w.heap.size + 1) k hk hi hx ((w.alloc (.cells #[.int .u64 x] 22)).alloc (.cells #[.int .u64 y] 22)) (by simp; omega) ((h.alloc _).alloc _)
    (fun W hW => swap_same w.heap.size (w.heap.size + 1) x y W (by rw [hW _ _ (by simp; omega)]; go_simp) (by rw [hW _ _ (by simp)]; go_simp)))
  have hB0 := hB
  clear h
  go_enter Try.func8, Try.ntmps8
  go_wp2_with (go_at_call 21; (with_reducible refine HA.out.mono ?_); rintro e w1 ⟨rfl, hM, hb⟩; have HM := Lib.hid hM; have HBb := Lib.hid hb; clear hM hb)
  go_ret2
  exact ⟨rfl, HM.out.alloc _, Below.alloc (Below.trans (Below.alloc (Below.alloc (Below.refl _ _) hB0 _) (by simp; omega) _) HBb.out) (Nat.le_trans HM.out.hp.1 (Nat.le_of_lt HM.out.hp.2)) _⟩

set_option maxHeartbeats 1600000 in
theorem swap_other_in (B p bw n i : Nat) (lv : Value) (cnt f : Nat → Int) (x y : Int) (want : Int) (hne : x ≠ want) (k : Nat) (hk : k < 64) (hi : i < n) (hx : f i = x) (w : World) (hB : B ≤ w.heap.size) (h : MObj w B p bw n lv cnt false f) :
    Calls Try.prog 8 #[.pointer (some ⟨p, 0, none⟩), .int .i64 (k : Int), .int .i64 i, .int .u64 want, .int .u64 y] w fun e w' =>
      e = .returned (.tuple #[.bool false, .int .i64 0]) ∧ MObj w' B p bw n lv (upd cnt k (wrap64 (cnt k + 1))) false (upd f i x) ∧ Below B w w' := by
  have HA := Lib.hid (acc22_in B p bw n i lv cnt f x 3 want x false w.heap.size (w.heap.size + 1) k hk hi hx ((w.alloc (.cells #[.int .u64 want] 22)).alloc (.cells #[.int .u64 y] 22)) (by simp; omega) ((h.alloc _).alloc _)
    (fun W hW => swap_other w.heap.size (w.heap.size + 1) want y x hne W (by rw [hW _ _ (by simp; omega)]; go_simp) (by rw [hW _ _ (by simp)]; go_simp)))
  have hB0 := hB
  clear h
  go_enter Try.func8, Try.ntmps8
  go_wp2_with (go_at_call 21; (with_reducible refine HA.out.mono ?_); rintro e w1 ⟨rfl, hM, hb⟩; have HM := Lib.hid hM; have HBb := Lib.hid hb; clear hM hb)
  go_ret2
  exact ⟨rfl, HM.out.alloc _, Below.alloc (Below.trans (Below.alloc (Below.alloc (Below.refl _ _) hB0 _) (by simp; omega) _) HBb.out) (Nat.le_trans HM.out.hp.1 (Nat.le_of_lt HM.out.hp.2)) _⟩

set_option maxHeartbeats 1600000 in
theorem swap_same_low (B p bw n i : Nat) (lv : Value) (cnt f : Nat → Int) (x y : Int) (t : Int) (ht : t < 0) (hi : i < n) (hx : f i = x) (w : World) (hB : B ≤ w.heap.size) (h : MObj w B p bw n lv cnt false f) :
    Calls Try.prog 8 #[.pointer (some ⟨p, 0, none⟩), .int .i64 t, .int .i64 i, .int .u64 x, .int .u64 y] w fun e w' =>
      e = .returned (.tuple #[.bool true, .int .i64 0]) ∧ MObj w' B p bw n lv cnt false (upd f i y) ∧ Below B w w' := by
  have HA := Lib.hid (acc22_low B p bw n i lv cnt f x 3 x y true w.heap.size (w.heap.size + 1) t ht hi hx ((w.alloc (.cells #[.int .u64 x] 22)).alloc (.cells #[.int .u64 y] 22)) (by simp; omega) ((h.alloc _).alloc _)
    (fun W hW => swap_same w.heap.size (w.heap.size + 1) x y W (by rw [hW _ _ (by simp; omega)]; go_simp) (by rw [hW _ _ (by simp)]; go_simp)))
  have hB0 := hB
  clear h
  go_enter Try.func8, Try.ntmps8
  go_wp2_with (go_at_call 21; (with_reducible refine HA.out.mono ?_); rintro e w1 ⟨rfl, hM, hb⟩; have HM := Lib.hid hM; have HBb := Lib.hid hb; clear hM hb)
  go_ret2
  exact ⟨rfl, HM.out.alloc _, Below.alloc (Below.trans (Below.alloc (Below.alloc (Below.refl _ _) hB0 _) (by simp; omega) _) HBb.out) (Nat.le_trans HM.out.hp.1 (Nat.le_of_lt HM.out.hp.2)) _⟩

set_option maxHeartbeats 1600000 in
theorem swap_other_low (B p bw n i : Nat) (lv : Value) (cnt f : Nat → Int) (x y : Int) (want : Int) (hne : x ≠ want) (t : Int) (ht : t < 0) (hi : i < n) (hx : f i = x) (w : World) (hB : B ≤ w.heap.size) (h : MObj w B p bw n lv cnt false f) :
    Calls Try.prog 8 #[.pointer (some ⟨p, 0, none⟩), .int .i64 t, .int .i64 i, .int .u64 want, .int .u64 y] w fun e w' =>
      e = .returned (.tuple #[.bool false, .int .i64 0]) ∧ MObj w' B p bw n lv cnt false (upd f i x) ∧ Below B w w' := by
  have HA := Lib.hid (acc22_low B p bw n i lv cnt f x 3 want x false w.heap.size (w.heap.size + 1) t ht hi hx ((w.alloc (.cells #[.int .u64 want] 22)).alloc (.cells #[.int .u64 y] 22)) (by simp; omega) ((h.alloc _).alloc _)
    (fun W hW => swap_other w.heap.size (w.heap.size + 1) want y x hne W (by rw [hW _ _ (by simp; omega)]; go_simp) (by rw [hW _ _ (by simp)]; go_simp)))
  have hB0 := hB
  clear h
  go_enter Try.func8, Try.ntmps8
  go_wp2_with (go_at_call 21; (with_reducible refine HA.out.mono ?_); rintro e w1 ⟨rfl, hM, hb⟩; have HM := Lib.hid hM; have HBb := Lib.hid hb; clear hM hb)
  go_ret2
  exact ⟨rfl, HM.out.alloc _, Below.alloc (Below.trans (Below.alloc (Below.alloc (Below.refl _ _) hB0 _) (by simp; omega) _) HBb.out) (Nat.le_trans HM.out.hp.1 (Nat.le_of_lt HM.out.hp.2)) _⟩

set_option maxHeartbeats 1600000 in
theorem swap_same_high (B p bw n i : Nat) (lv : Value) (cnt f : Nat → Int) (x y : Int) (t : Int) (ht : 64 ≤ t) (hi : i < n) (hx : f i = x) (w : World) (hB : B ≤ w.heap.size) (h : MObj w B p bw n lv cnt false f) :
    Calls Try.prog 8 #[.pointer (some ⟨p, 0, none⟩), .int .i64 t, .int .i64 i, .int .u64 x, .int .u64 y] w fun e w' =>
      e = .returned (.tuple #[.bool true, .int .i64 0]) ∧ MObj w' B p bw n lv cnt false (upd f i y) ∧ Below B w w' := by
  have HA := Lib.hid (acc22_high B p bw n i lv cnt f x 3 x y true w.heap.size (w.heap.size + 1) t ht hi hx ((w.alloc (.cells #[.int .u64 x] 22)).alloc (.cells #[.int .u64 y] 22)) (by simp; omega) ((h.alloc _).alloc _)
    (fun W hW => swap_same w.heap.size (w.heap.size + 1) x y W (by rw [hW _ _ (by simp; omega)]; go_simp) (by rw [hW _ _ (by simp)]; go_simp)))
  have hB0 := hB
  clear h
  go_enter Try.func8, Try.ntmps8
  go_wp2_with (go_at_call 21; (with_reducible refine HA.out.mono ?_); rintro e w1 ⟨rfl, hM, hb⟩; have HM := Lib.hid hM; have HBb := Lib.hid hb; clear hM hb)
  go_ret2
  exact ⟨rfl, HM.out.alloc _, Below.alloc (Below.trans (Below.alloc (Below.alloc (Below.refl _ _) hB0 _) (by simp; omega) _) HBb.out) (Nat.le_trans HM.out.hp.1 (Nat.le_of_lt HM.out.hp.2)) _⟩

set_option maxHeartbeats 1600000 in
theorem swap_other_high (B p bw n i : Nat) (lv : Value) (cnt f : Nat → Int) (x y : Int) (want : Int) (hne : x ≠ want) (t : Int) (ht : 64 ≤ t) (hi : i < n) (hx : f i = x) (w : World) (hB : B ≤ w.heap.size) (h : MObj w B p bw n lv cnt false f) :
    Calls Try.prog 8 #[.pointer (some ⟨p, 0, none⟩), .int .i64 t, .int .i64 i, .int .u64 want, .int .u64 y] w fun e w' =>
      e = .returned (.tuple #[.bool false, .int .i64 0]) ∧ MObj w' B p bw n lv cnt false (upd f i x) ∧ Below B w w' := by
  have HA := Lib.hid (acc22_high B p bw n i lv cnt f x 3 want x false w.heap.size (w.heap.size + 1) t ht hi hx ((w.alloc (.cells #[.int .u64 want] 22)).alloc (.cells #[.int .u64 y] 22)) (by simp; omega) ((h.alloc _).alloc _)
    (fun W hW => swap_other w.heap.size (w.heap.size + 1) want y x hne W (by rw [hW _ _ (by simp; omega)]; go_simp) (by rw [hW _ _ (by simp)]; go_simp)))
  have hB0 := hB
  clear h
  go_enter Try.func8, Try.ntmps8
  go_wp2_with (go_at_call 21; (with_reducible refine HA.out.mono ?_); rintro e w1 ⟨rfl, hM, hb⟩; have HM := Lib.hid hM; have HBb := Lib.hid hb; clear hM hb)
  go_ret2
  exact ⟨rfl, HM.out.alloc _, Below.alloc (Below.trans (Below.alloc (Below.alloc (Below.refl _ _) hB0 _) (by simp; omega) _) HBb.out) (Nat.le_trans HM.out.hp.1 (Nat.le_of_lt HM.out.hp.2)) _⟩
end Go.Proofs.Ytalkibpebfhoeaa
