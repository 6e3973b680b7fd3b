/- What the library's stable sort does: rotate, over the seat's program. -/
import Derived.Test.YtihpjfhibhpciaaSoA
namespace Go.Proofs.Ytihpjfhibhpciaa
open Go.ChangeShapes Go.WideShapes Go.ChangeAt Go.RowKit Go.Joins

/-- What lies from 's' to 'm', and from 'm' to 'e', the other way round. -/
def rot (f : Nat → Int) (s m e : Nat) : Nat → Int := fun k => if s ≤ k ∧ k < s + (e - m) then f (k - s + m) else if s + (e - m) ≤ k ∧ k < e then f (k - (e - m)) else f k
theorem rot_more {f : Nat → Int} {m i j x : Nat} (h1 : j < i) (h2 : i ≤ m) : rot (swpR f (m - i) m j) (m - (i - j)) m (m + j) x = rot f (m - i) m (m + j) x := by
  unfold rot swpR
  repeat' split
  all_goals first | rfl | (exfalso; omega) | (congr 1; omega)
theorem rot_less {f : Nat → Int} {m i j x : Nat} (h1 : i < j) (h2 : i ≤ m) : rot (swpR f (m - i) (m + j - i) i) (m - i) m (m + (j - i)) x = rot f (m - i) m (m + j) x := by
  unfold rot swpR
  repeat' split
  all_goals first | rfl | (exfalso; omega) | (congr 1; omega)
theorem rot_last {f : Nat → Int} {m i x : Nat} (h2 : i ≤ m) : swpR f (m - i) m i x = rot f (m - i) m (m + i) x := by
  unfold rot swpR
  repeat' split
  all_goals first | rfl | (exfalso; omega) | (congr 1; omega)

set_option maxRecDepth 100000 in
set_option maxHeartbeats 3200000 in
theorem rotate_any (p g n cap a m b : Nat) (f : Nat → Int) (w0 w : World) (s : SortAt w0 w g n cap f) (h1 : a < m) (h2 : m < b) (h3 : b ≤ n) :
    Calls Try.prog 119 #[.slice (some ⟨g, 0, none⟩) n cap, .int .i64 a, .int .i64 m, .int .i64 b, .func (.func 65) #[] #[.pointer (some ⟨p, 0, none⟩)]] w (SortRet w0 g n cap (rot f a m b)) := by
  have hn := s.1.1
  have HS := Lib.hid s
  clear s
  go_enter Try.func119, Try.ntmps119
  go_wp2
  go_loopw [10, 11] (fun si sj wr => ∃ (i j : Nat) (h : Nat → Int), si = .int .i64 i ∧ sj = .int .i64 j ∧ 0 < i ∧ 0 < j ∧ i ≤ m - a ∧ j ≤ b - m ∧ SortAt w0 wr g n cap h ∧ ∀ x, rot h (m - i) m (m + j) x = rot f a m b x) (fun si sj _ => (intOf si).toNat + (intOf sj).toNat)
  case atStart => exact ⟨m - a, b - m, f, by go_num, by go_num, by omega, by omega, Nat.le_refl _, Nat.le_refl _, HS.out, fun x => by rw [show m - (m - a) = a by omega, show m + (b - m) = b by omega]⟩
  case round =>
    obtain ⟨i, j, h, rfl, rfl, hi, hj, him, hjb, hs, hx⟩ := hrel
    have HX := Lib.hid hx
    have HR := Lib.hid hs
    have e1 : ((m : Int) - (i : Int)) = ((m - i : Nat) : Int) := by omega
    clear hs hx
    by_cases e : i = j
    · subst e
      have HC := Lib.hid (show Calls Try.prog 120 #[.slice (some ⟨g, 0, none⟩) n cap, .int .i64 ((m : Int) - (i : Int)), .int .i64 m, .int .i64 i, .func (.func 65) #[] #[.pointer (some ⟨p, 0, none⟩)]] wr (SortRet w0 g n cap (rot f a m b)) by
        rw [e1]
        exact (swapRange_any p g n cap (m - i) m i h w0 wr HR.out (by omega) (by omega)).mono fun e w' hr => ⟨hr.1, hr.2.same fun x _ => (rot_last (by omega)).trans (HX.out x)⟩)
      clear e1
      go_wp2_with (go_at_call 120; (with_reducible refine HC.out.mono ?_); rintro e w1 ⟨rfl, hb⟩; have HS1 := Lib.hid hb; clear hb)
      go_end0
      exact ⟨rfl, HS1.out⟩
    · by_cases l : j < i
      · have l' : (j : Int) < (i : Int) := by omega
        have ne : (i : Int) ≠ (j : Int) := by omega
        have HC := Lib.hid (show Calls Try.prog 120 #[.slice (some ⟨g, 0, none⟩) n cap, .int .i64 ((m : Int) - (i : Int)), .int .i64 m, .int .i64 j, .func (.func 65) #[] #[.pointer (some ⟨p, 0, none⟩)]] wr (SortRet w0 g n cap (swpR h (m - i) m j)) by
          rw [e1]
          exact swapRange_any p g n cap (m - i) m j h w0 wr HR.out (by omega) (by omega))
        clear e1
        go_wp2_with (go_at_call 120; (with_reducible refine HC.out.mono ?_); rintro e w1 ⟨rfl, hb⟩; have HS1 := Lib.hid hb; clear hb)
        go_roundw
        case rel => exact ⟨i - j, j, _, by go_num, rfl, by omega, hj, by omega, hjb, HS1.out, fun x => (rot_more l (by omega)).trans (HX.out x)⟩
        case measure => simp [intOf]; omega
      · have l' : ¬ (j : Int) < (i : Int) := by omega
        have ne : (i : Int) ≠ (j : Int) := by omega
        have e2 : ((m : Int) + (j : Int) - (i : Int)) = ((m + j - i : Nat) : Int) := by omega
        have HC := Lib.hid (show Calls Try.prog 120 #[.slice (some ⟨g, 0, none⟩) n cap, .int .i64 ((m : Int) - (i : Int)), .int .i64 ((m : Int) + (j : Int) - (i : Int)), .int .i64 i, .func (.func 65) #[] #[.pointer (some ⟨p, 0, none⟩)]] wr (SortRet w0 g n cap (swpR h (m - i) (m + j - i) i)) by
          rw [e1, e2]
          exact swapRange_any p g n cap (m - i) (m + j - i) i h w0 wr HR.out (by omega) (by omega))
        clear e1 e2
        go_wp2_with (go_at_call 120; (with_reducible refine HC.out.mono ?_); rintro e w1 ⟨rfl, hb⟩; have HS1 := Lib.hid hb; clear hb)
        go_roundw
        case rel => exact ⟨i, j - i, _, rfl, by go_num, hi, by omega, him, by omega, HS1.out, fun x => (rot_less (by omega) (by omega)).trans (HX.out x)⟩
        case measure => simp [intOf]; omega
end Go.Proofs.Ytihpjfhibhpciaa
