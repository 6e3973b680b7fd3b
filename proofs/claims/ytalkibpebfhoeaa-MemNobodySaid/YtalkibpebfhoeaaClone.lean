/- The contract of Clone of notes over the seat's program. -/
import Derived.Test.YtalkibpebfhoeaaLoad
import Derived.ArgAppend
namespace Go.Proofs.Ytalkibpebfhoeaa
open Go.ChangeShapes Go.WideShapes Go.ChangeAt Go.RowKit Go.Joins
attribute [local go_sem ↓] Go.wp_at_zero Go.wp_at_succ
theorem Try.eql37 (w : World) (a : Option Addr) (l c : Nat) : (binOp .eql 37 (.slice a l c) (.slice none 0 0)).run Try.prog w = .ok (.bool a.isNone) w := by
  simp only [binOp]
  simp [run_equal_slice_nil w 37 52 a l c Try.underlying37]
attribute [local go_sem] Try.eql37

set_option maxHeartbeats 3200000 in
theorem clone_notes (BL m : Nat) (xs : List Value) (hm : 0 < m) (h1 : m < 1000) (lv : Value) (w : World) (h : w.ownsRow BL 52 7 lv m xs) (ho : ∀ u ∈ xs, u.oneCell' = true) :
    Calls Try.prog 28 #[lv] w fun e w' => ∃ a c, e = .returned (.slice a m c) ∧ Below w.heap.size w w' := by
  obtain ⟨g, cap, rfl, hg, hgl⟩ := h.form hm
  obtain ⟨i0, hi0, hz0, hz1, hz2⟩ := info_parts Try.info52
  have HI := Lib.hid (And.intro hi0 (And.intro hz0 (And.intro hz1 hz2)))
  have HW := Lib.hid h
  have HOC := Lib.hid ho
  have HC := Lib.hid (h.cells rfl)
  have c1 : (0 : Int) ≤ (cap : Int) := by omega
  have c2 : (0 : Int) ≤ (m : Int) := by omega
  clear hi0 hz0 hz1 hz2 h ho
  go_enter Try.func28, Try.ntmps28
  go_wp2_with (at_builtin; refine wpList_append_lies _ rfl _ _ _ rfl w.heap.size 52 i0 _ 7 56 Try.underlying37 HI.out.1 HI.out.2.1 HI.out.2.2.1 HI.out.2.2.2 rfl (by omega) (.slice (some ⟨w.heap.size, 0, none⟩) 0 0) 0 [] rfl (World.ownsRow_lit w #[] 0 (Nat.le_refl _) (by unfold maxLen; omega) rfl) ⟨g, 0, none⟩ m cap xs rfl HW.out.1 ((HW.out.alloc _).cells rfl) HOC.out hm (by unfold maxLen; omega) (by omega) (by simp) _ rfl ?_; intro gg cap' w1 hown1 hgrow hat hlt')
  go_ret
  refine ⟨⟨_, _, rfl⟩, Below.grown ((Below.refl _ _).alloc (Nat.le_refl _) _) hgrow (by simp) (fun j hj => ?_)⟩
  injection hj with e
  exact Nat.le_of_eq e
set_option maxHeartbeats 1600000 in
theorem log_len (B BL p bw n m : Nat) (xs : List Value) (hm : 0 < m) (h1 : m < 1000) (lv : Value) (cnt f : Nat → Int) (keep : Bool) (w : World) (h : MObj w B p bw n lv cnt keep f) (hown : w.ownsRow BL 52 7 lv m xs) (ho : ∀ u ∈ xs, u.oneCell' = true) :
    Calls Try.prog 17 #[.pointer (some ⟨p, 0, none⟩)] w fun e w' => ∃ a c, e = .returned (.slice a m c) ∧ Below w.heap.size w w' := by
  have c0 := h.words
  have cl := h.log
  have HM := Lib.hid (made_yes p bw n h.hn.1 w c0)
  have HC := Lib.hid (clone_notes BL m xs hm h1 lv w hown ho)
  obtain ⟨g, cap, rfl, _, _⟩ := hown.form hm
  clear h hown ho
  go_enter Try.func17, Try.ntmps17
  go_wp2_with (first | (go_at_call 20; (with_reducible refine HM.out.mono ?_); rintro e w1 ⟨rfl, rfl⟩) | (go_at_call 28; (with_reducible refine HC.out.mono ?_); rintro e w1 ⟨a, c, rfl, hb⟩; have HB := Lib.hid hb; clear hb))
  go_ret
  exact ⟨_, _, rfl, HB.out⟩
end Go.Proofs.Ytalkibpebfhoeaa
