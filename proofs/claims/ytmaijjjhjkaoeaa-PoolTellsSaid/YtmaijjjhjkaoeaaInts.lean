/- Contracts of Ints where both rows are the same, over the seat's program. -/
import Derived.Test.YtmaijjjhjkaoeaaOwn
namespace Go.Proofs.Ytmaijjjhjkaoeaa
open Go.ChangeShapes Go.WideShapes Go.ChangeAt Go.RowKit Go.Joins

set_option maxHeartbeats 1000000 in
theorem ints_yes (a a' : Option Addr) (n cap cap' : Nat) (f g : Nat → Int) (w : World) (h : RowAt .i64 w a n cap f) (h' : RowAt .i64 w a' n cap' g) (he : ∀ i, i < n → f i = g i) :
    Calls Try.prog 27 #[.slice a n cap, .slice a' n cap'] w fun e w' => e = .returned (.bool true) ∧ SomeDraws w w' := by
  have hn := h.1
  have HC := Lib.hid h
  have HC' := Lib.hid h'
  have HE := Lib.hid he
  clear h h' he
  go_enter Try.func27, Try.ntmps27
  go_wp2
  go_loopw [13] (fun i wr => ∃ k : Nat, k ≤ n ∧ i = .int .i64 k ∧ RowAt .i64 wr a n cap f ∧ RowAt .i64 wr a' n cap' g ∧ SomeDraws w wr) (fun i _ => n - (intOf i).toNat)
  case atStart => exact ⟨0, Nat.zero_le _, rfl, HC.out, HC'.out, 0, rfl⟩
  case round =>
    obtain ⟨k, hk, rfl, h, h', hq⟩ := hrel
    have HR := Lib.hid h
    have HR' := Lib.hid h'
    have HQ := Lib.hid hq
    clear h h' hq
    by_cases hlt : k < n
    · obtain ⟨b, off, rfl, _, hc⟩ := HR.out.get hlt
      obtain ⟨b', off', rfl, _, hc'⟩ := HR'.out.get hlt
      have c1 := hc k hlt
      have c2 := hc' k hlt
      rw [← HE.out k hlt] at c2
      have i0 : (0 : Int) ≤ (k : Int) := by omega
      have i1 : (k : Int) < (n : Int) := by omega
      have e1 : (f k != f k) = false := by simp
      clear hc hc'
      go_wp2
      go_quiet (fail)
      go_wp2
      go_roundw
      case rel => exact ⟨k + 1, by omega, by go_num, HR.out.drewN _, HR'.out.drewN _, HQ.out.drew _⟩
      case measure => simp [intOf]; omega
    · go_wp2
      go_ret
      exact ⟨rfl, HQ.out⟩
end Go.Proofs.Ytmaijjjhjkaoeaa
