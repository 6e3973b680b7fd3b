/- The document's example for layer 3 over the seat's program: it answers true, in new memory alone. -/
import Derived.Test.YtalkibpebfhoeaaClone
import Derived.Test.YtalkibpebfhoeaaNewC
import Derived.Deep.RegionWith
namespace Go.Proofs.Ytalkibpebfhoeaa
open Go.ChangeShapes Go.WideShapes Go.ChangeAt Go.RowKit Go.Joins
attribute [local go_sem ↓] Go.wp_at_zero Go.wp_at_succ

theorem below_grown {w w' : World} (h : Below w.heap.size w w') (row : Option Nat) : w.grownBy w' row := ⟨h.os, h.tape, h.output, h.size, fun k hk _ => h.block k hk⟩
theorem new_two (w : World) : Calls Try.prog 6 #[.int .i64 2] w fun e w' => ∃ p, e = .returned (.pointer (some ⟨p, 0, none⟩)) ∧ MObj w' w.heap.size p w.heap.size 2 (.slice none 0 0) (fun _ => 0) false (fun _ => 0) ∧ Below w.heap.size w w' := new_some 2 (by omega) (by omega) w

set_option maxRecDepth 100000 in
set_option maxHeartbeats 6400000 in
theorem awake_any (w : World) : Calls Try.prog 10 #[] w fun e w' => e = .returned (.bool true) ∧ Below w.heap.size w w' := by
  go_enter Try.func10, Try.ntmps10
  go_wp2_with (first
    | (go_at_call 6; (with_reducible refine (new_two _).mono ?_); rintro e w1 ⟨p, rfl, hM, hb⟩; have HM := Lib.hid hM; have HB := Lib.hid hb; have hp := hM.hp.2; have hbw := hM.hbw.2; clear hM hb)
    | (go_at_call 13; (with_reducible refine (keep_on _ p _ _ _ _ _ _ HM.out).mono ?_); rintro e w2 ⟨rfl, hw2⟩; have HM2 := Lib.hid (hw2 ▸ HM.out.setKeep true); have HB2 := Lib.hid (hw2 ▸ (Below.setCell HB.out HM.out.hp.1 (.bool true) : Below w.heap.size w (w1.setCell ⟨p, 66, none⟩ (.bool true)))); have hz2 : w.heap.size ≤ w2.heap.size := HB2.out.size; clear hw2)
    | (go_at_call 14; (refine (storeN w.heap.size w2.heap.size p w.heap.size 2 0 0 [] (by omega) _ _ _ 0 7 1 (by omega) (by omega) (by rfl) w2 hz2 HM2.out (World.ownsRow_nil _ _ _ _) ⟨HM2.out.hp.2, HM2.out.hbw.2, Nat.le_refl _⟩).mono ?_; rintro e w3 ⟨rfl, lv3, hM3, ho3, hb3⟩; have HM3 := Lib.hid hM3; have HO3 := Lib.hid ho3; have HB3 := Lib.hid (HB2.out.trans hb3); have hz3 := hb3.size; clear hM3 ho3 hb3))
    | (go_at_call 8; (refine (swapN w.heap.size w2.heap.size p w.heap.size 2 0 1 _ (by omega) _ _ _ 7 9 2 (by omega) (by omega) (by rfl) w3 (Nat.le_trans hz2 hz3) HM3.out HO3.out ⟨HM2.out.hp.2, HM2.out.hbw.2, hz3⟩).mono ?_; rintro e w4 ⟨rfl, lv4, hM4, ho4, hb4⟩; have HM4 := Lib.hid hM4; have HO4 := Lib.hid ho4; have HB4 := Lib.hid (HB3.out.trans hb4); have hz4 := Nat.le_trans hz3 hb4.size; clear hM4 ho4 hb4))
    | (go_at_call 11; (refine (addN w.heap.size w2.heap.size p w.heap.size 2 0 2 _ (by omega) _ _ _ 9 1 1 (by omega) (by omega) (by rfl) w4 (Nat.le_trans hz2 hz4) HM4.out HO4.out ⟨HM2.out.hp.2, HM2.out.hbw.2, hz4⟩).mono ?_; rintro e w5 ⟨rfl, lv5, hM5, ho5, hb5⟩; have HM5 := Lib.hid hM5; have HO5 := Lib.hid ho5; have HB5 := Lib.hid (HB4.out.trans hb5); have hz5 := Nat.le_trans hz4 hb5.size; clear hM5 ho5 hb5))
    | (go_at_call 12; (refine (load_far p w.heap.size 2 1 2 (by omega) (by omega) w5 HM5.out.words HM5.out.hp.2).mono ?_; rintro e w6 ⟨rfl, hb6⟩; have HM6 := Lib.hid (HM5.out.below hb6); have HO6 := Lib.hid (HO5.out.kept (below_grown hb6 none) (by cases hv : lv5.ownBlock <;> simp)); have HB6 := Lib.hid (HB5.out.trans (hb6.mono (Nat.le_trans hz2 hz5))); have hz6 := Nat.le_trans hz5 hb6.size; clear hb6))
    | (go_at_call 9; (refine (show Calls Try.prog 9 #[.pointer (some ⟨p, 0, none⟩), .int .i64 0] w6 (fun e w' => e = .returned (.int .u64 10) ∧ w6 = w') from peek_yes p w.heap.size 2 0 10 (by omega) (by omega) w6 HM6.out.words (HM6.out.row 0 (by omega))).mono ?_; rintro e w7 ⟨rfl, rfl⟩))
    | (go_at_call 18; (obtain ⟨c6, hc6, f6, hM6⟩ : ∃ c : Nat → Int, c 1 = 2 ∧ ∃ f, MObj w6 w.heap.size p w.heap.size 2 lv5 c true f := ⟨_, (by simp [upd, wrap64]), _, HM6.out⟩; have hcc := count_in _ p _ _ 1 (by omega) _ _ _ _ w6 hM6; rw [hc6] at hcc; clear hc6 hM6; refine hcc.mono ?_; clear hcc; rintro e w8 ⟨rfl, rfl⟩))
    | (go_at_call 17; (refine (log_len _ _ p _ _ _ _ (by omega) (by omega) _ _ _ _ w6 HM6.out HO6.out (by simp [Value.oneCell'])).mono ?_; rintro e w9 ⟨la, lc, rfl, hb9⟩; have HB9 := Lib.hid (HB6.out.trans (hb9.mono (Nat.le_trans hz2 hz6))); clear hb9)))
  go_ret
  exact ⟨rfl, HB9.out⟩
end Go.Proofs.Ytalkibpebfhoeaa
