/- Contracts of Add, Store and Swap over the seat's program, where the access is noted, and of Keep, Count and Load at an address that is not there. -/
import Derived.Test.YtalkibpebfhoeaaNoteB
namespace Go.Proofs.Ytalkibpebfhoeaa
open Go.ChangeShapes Go.WideShapes Go.ChangeAt Go.RowKit Go.Joins
attribute [local go_sem ↓] Go.wp_at_zero Go.wp_at_succ

theorem NotePost.out {w : World} {B BL p bw n m : Nat} {xs : List Value} {cnt f : Nat → Int} {av : Value} {e : Ending} {w' : World} (h : NotePost w B BL p bw n m xs cnt f av e w') :
    e = .returned (.tuple #[av, .int .i64 0]) ∧ ∃ lv, MObj w' B p bw n lv cnt true f ∧ w'.ownsRow BL 52 7 lv m xs ∧ Below B w w' := h

set_option maxHeartbeats 1600000 in
theorem addN (B BL p bw n i m : Nat) (xs : List Value) (hm : m < 1000) (lv : Value) (cnt f : Nat → Int) (x : Int) (y : Int) (k : Nat) (hk : k < 64) (hi : i < n) (hx : f i = x) (w : World) (hB : B ≤ w.heap.size) (h : MObj w B p bw n lv cnt true f) (hown : w.ownsRow BL 52 7 lv m xs) (hL : p < BL ∧ bw < BL ∧ BL ≤ w.heap.size) :
    Calls Try.prog 11 #[.pointer (some ⟨p, 0, none⟩), .int .i64 (k : Int), .int .i64 i, .int .u64 y] w fun e w' =>
      e = .returned (.tuple #[.int .u64 x, .int .i64 0]) ∧ ∃ lv', MObj w' B p bw n lv' (upd cnt k (wrap64 (cnt k + 1))) true (upd f i (IntKind.u64.wrap (x + y))) ∧ w'.ownsRow BL 52 7 lv' (m + 1) (xs ++ [.int .i64 k, .int .i64 4, .int .i64 i, .int .u64 0, .int .u64 x, .int .u64 (IntKind.u64.wrap (x + y)), .bool true]) ∧ Below B w w' := by
  have HA := Lib.hid (note24_in B BL p bw n i m xs hm lv cnt f x 4 0 (IntKind.u64.wrap (x + y)) true w.heap.size k hk hi hx (w.alloc (.cells #[.int .u64 y] 22)) (by simp; omega) (h.alloc _) (hown.alloc _) ⟨hL.1, hL.2.1, by simp; omega⟩
    (fun W hW => add_f w.heap.size y x W (by rw [hW _ _ (by simp)]; go_simp)))
  have hB0 := hB
  clear h hown
  go_enter Try.func11, Try.ntmps11
  go_wp2_with (go_at_call 21; (with_reducible refine HA.out.mono ?_); intro e w1 hN; obtain ⟨rfl, lv', hM, ho, hb⟩ := hN.out; have HM := Lib.hid hM; have HO := Lib.hid ho; have HBb := Lib.hid hb; clear hN hM hb ho)
  go_ret2
  exact ⟨rfl, lv', HM.out.alloc _, HO.out.alloc _, Below.alloc (Below.trans (Below.alloc (Below.refl _ _) hB0 _) HBb.out) (Nat.le_trans HM.out.hp.1 (Nat.le_of_lt HM.out.hp.2)) _⟩

set_option maxHeartbeats 1600000 in
theorem storeN (B BL p bw n i m : Nat) (xs : List Value) (hm : m < 1000) (lv : Value) (cnt f : Nat → Int) (x : Int) (y : Int) (k : Nat) (hk : k < 64) (hi : i < n) (hx : f i = x) (w : World) (hB : B ≤ w.heap.size) (h : MObj w B p bw n lv cnt true f) (hown : w.ownsRow BL 52 7 lv m xs) (hL : p < BL ∧ bw < BL ∧ BL ≤ w.heap.size) :
    Calls Try.prog 14 #[.pointer (some ⟨p, 0, none⟩), .int .i64 (k : Int), .int .i64 i, .int .u64 y] w fun e w' =>
      e = .returned (.int .i64 0) ∧ ∃ lv', MObj w' B p bw n lv' (upd cnt k (wrap64 (cnt k + 1))) true (upd f i y) ∧ w'.ownsRow BL 52 7 lv' (m + 1) (xs ++ [.int .i64 k, .int .i64 2, .int .i64 i, .int .u64 0, .int .u64 x, .int .u64 y, .bool true]) ∧ Below B w w' := by
  have HA := Lib.hid (note26_in B BL p bw n i m xs hm lv cnt f x 2 0 y true w.heap.size k hk hi hx (w.alloc (.cells #[.int .u64 y] 22)) (by simp; omega) (h.alloc _) (hown.alloc _) ⟨hL.1, hL.2.1, by simp; omega⟩
    (fun W hW => store_f w.heap.size y x W (by rw [hW _ _ (by simp)]; go_simp)))
  have hB0 := hB
  clear h hown
  go_enter Try.func14, Try.ntmps14
  go_wp2_with (go_at_call 21; (with_reducible refine HA.out.mono ?_); intro e w1 hN; obtain ⟨rfl, lv', hM, ho, hb⟩ := hN.out; have HM := Lib.hid hM; have HO := Lib.hid ho; have HBb := Lib.hid hb; clear hN hM hb ho)
  go_ret
  exact ⟨rfl, lv', HM.out.alloc _, HO.out.alloc _, Below.alloc (Below.trans (Below.alloc (Below.refl _ _) hB0 _) HBb.out) (Nat.le_trans HM.out.hp.1 (Nat.le_of_lt HM.out.hp.2)) _⟩

set_option maxHeartbeats 1600000 in
theorem swapN (B BL p bw n i m : Nat) (xs : List Value) (hm : m < 1000) (lv : Value) (cnt f : Nat → Int) (x : Int) (y : Int) (k : Nat) (hk : k < 64) (hi : i < n) (hx : f i = x) (w : World) (hB : B ≤ w.heap.size) (h : MObj w B p bw n lv cnt true f) (hown : w.ownsRow BL 52 7 lv m xs) (hL : p < BL ∧ bw < BL ∧ BL ≤ w.heap.size) :
    Calls Try.prog 8 #[.pointer (some ⟨p, 0, none⟩), .int .i64 (k : Int), .int .i64 i, .int .u64 x, .int .u64 y] w fun e w' =>
      e = .returned (.tuple #[.bool true, .int .i64 0]) ∧ ∃ lv', MObj w' B p bw n lv' (upd cnt k (wrap64 (cnt k + 1))) true (upd f i y) ∧ w'.ownsRow BL 52 7 lv' (m + 1) (xs ++ [.int .i64 k, .int .i64 3, .int .i64 i, .int .u64 x, .int .u64 x, .int .u64 y, .bool true]) ∧ Below B w w' := by
  have HA := Lib.hid (note22_in B BL p bw n i m xs hm lv cnt f x 3 x y true w.heap.size (w.heap.size + 1) k hk hi hx ((w.alloc (.cells #[.int .u64 x] 22)).alloc (.cells #[.int .u64 y] 22)) (by simp; omega) ((h.alloc _).alloc _) ((hown.alloc _).alloc _) ⟨hL.1, hL.2.1, by simp; omega⟩
    (fun W hW => swap_same w.heap.size (w.heap.size + 1) x y W (by rw [hW _ _ (by simp; omega)]; go_simp) (by rw [hW _ _ (by simp)]; go_simp)))
  have hB0 := hB
  clear h hown
  go_enter Try.func8, Try.ntmps8
  go_wp2_with (go_at_call 21; (with_reducible refine HA.out.mono ?_); intro e w1 hN; obtain ⟨rfl, lv', hM, ho, hb⟩ := hN.out; have HM := Lib.hid hM; have HO := Lib.hid ho; have HBb := Lib.hid hb; clear hN hM hb ho)
  go_ret2
  exact ⟨rfl, lv', HM.out.alloc _, HO.out.alloc _, Below.alloc (Below.trans (Below.alloc (Below.alloc (Below.refl _ _) hB0 _) (by simp; omega) _) HBb.out) (Nat.le_trans HM.out.hp.1 (Nat.le_of_lt HM.out.hp.2)) _⟩

set_option maxHeartbeats 1600000 in
theorem keep_on (B p bw n : Nat) (lv : Value) (cnt f : Nat → Int) (w : World) (h : MObj w B p bw n lv cnt false f) :
    Calls Try.prog 13 #[.pointer (some ⟨p, 0, none⟩), .bool true] w fun e w' => e = .returned (.tuple #[]) ∧ w.setCell ⟨p, 66, none⟩ (.bool true) = w' := by
  have c0 := h.words
  have ck := h.keep
  have fk := h.free 66 (by omega)
  have p1 := h.hp.2
  have HM := Lib.hid (made_yes p bw n h.hn.1 w c0)
  clear h
  go_enter Try.func13, Try.ntmps13
  go_wp2_with (go_at_call 20; (with_reducible refine HM.out.mono ?_); rintro e w1 ⟨rfl, rfl⟩)
  go_end0
  exact ⟨rfl, rfl⟩
set_option maxHeartbeats 1600000 in
theorem count_in (B p bw n k : Nat) (hk : k < 64) (lv : Value) (cnt f : Nat → Int) (keep : Bool) (w : World) (h : MObj w B p bw n lv cnt keep f) :
    Calls Try.prog 18 #[.pointer (some ⟨p, 0, none⟩), .int .i64 (k : Int)] w fun e w' => e = .returned (.int .i64 (cnt k)) ∧ w = w' := by
  have c0 := h.words
  have cc := h.count k hk
  have HM := Lib.hid (made_yes p bw n h.hn.1 w c0)
  have k0 : (0 : Int) ≤ (k : Int) := by omega
  have k1 : (k : Int) < 64 := by omega
  have k2 : decide ((k : Int) < 0) = false := by simp
  have k3 : decide (64 ≤ (k : Int)) = false := by simp; omega
  clear h
  go_enter Try.func18, Try.ntmps18
  go_wp2_with (go_at_call 20; (with_reducible refine HM.out.mono ?_); rintro e w1 ⟨rfl, rfl⟩)
  go_ret
  exact ⟨rfl, rfl⟩
end Go.Proofs.Ytalkibpebfhoeaa
