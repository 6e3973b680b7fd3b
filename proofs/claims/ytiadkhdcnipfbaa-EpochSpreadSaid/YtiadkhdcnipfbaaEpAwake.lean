/- The document's example for layer 7 over the seat's program: it answers true, in new memory alone. -/
import Derived.Test.YtiadkhdcnipfbaaEpD
namespace Go.Proofs.Ytiadkhdcnipfbaa
open Go.ChangeShapes Go.WideShapes Go.ChangeAt Go.RowKit Go.Joins

def exF : Nat → Int := withF (fun _ => 0) 1 (epI 4)
theorem exF_least : leastS exF 3 = (4, true) := by decide +kernel
theorem exF_in : inI exF 3 = 1 := by decide +kernel
theorem exF_all04 : allB 3 exF 0 4 = true := by decide +kernel
theorem exF_all05 : allB 3 exF 0 5 = false := by decide +kernel
theorem exF_all15 : allB 3 exF 1 5 = true := by decide +kernel
theorem exF_next : nextI 3 exF 0 4 = 5 := by decide +kernel
theorem ex_start (w : World) : RowAt .u64 (w.alloc (.cells #[.int .u64 0, .int .u64 0, .int .u64 0] 35)) (some ⟨w.heap.size, 0, none⟩) 3 3 (fun _ => 0) := by
  refine ⟨by omega, (fun h => by cases h), fun _ => ⟨w.heap.size, 0, rfl, by simp, fun i hi => ?_⟩⟩
  rw [Nat.zero_add, cell_of_row _ _ _ _ 35 (0, 0) (heap_alloc_new w _)]
  match i, hi with
  | 0, _ => rfl
  | 1, _ => rfl
  | 2, _ => rfl

set_option maxRecDepth 100000 in
set_option maxHeartbeats 3200000 in
theorem awake_any (w : World) : Calls Try.prog 16 #[] w fun e w' => e = .returned (.bool true) ∧ Below w.heap.size w w' := by
  have HS := Lib.hid (ex_start w)
  have HL := Lib.hid (fun (a : Option Addr) (cap : Nat) (W : World) (h : RowAt .u64 W a 3 cap exF) => show Calls Try.prog 7 #[.slice a 3 cap] W fun e w' => e = .returned (.tuple #[.int .i64 4, .bool true]) ∧ W = w' by
    have := least_any a 3 cap exF W (fun i hi => by match i, hi with | 0, _ => decide +kernel | 1, _ => decide +kernel | 2, _ => decide +kernel) h
    rw [exF_least] at this
    exact this)
  have HI := Lib.hid (fun (a : Option Addr) (cap : Nat) (W : World) (h : RowAt .u64 W a 3 cap exF) => show Calls Try.prog 11 #[.slice a 3 cap] W fun e w' => e = .returned (.int .i64 1) ∧ W = w' by
    have := in_any a 3 cap exF W h
    rw [exF_in] at this
    exact this)
  have HN := Lib.hid (fun (a : Option Addr) (cap : Nat) (W : World) (h : RowAt .u64 W a 3 cap exF) => show Calls Try.prog 22 #[.slice a 3 cap, .int .i64 0, .int .i64 4] W fun e w' => e = .returned (.int .i64 5) ∧ W = w' by
    have := next_any a 3 cap exF 0 4 W h
    rw [exF_next] at this
    exact this)
  go_enter Try.func16, Try.ntmps16
  go_wp2_with (first
    | (go_at_call 17; (with_reducible refine (enter_any _ 3 3 _ 1 4 _ HS.out).mono ?_); rintro e w1 ⟨a1, cap1, rfl, ho, hb⟩; obtain ⟨b1, rfl, hbb, hc⟩ := ho.get (show 0 < 3 by omega); have c1 : w1.cell? ⟨b1, 1, none⟩ = some (.int .u64 9) := (hc 1 (by omega)).1; have HR := Lib.hid (show RowAt .u64 w1 (some ⟨b1, 0, none⟩) 3 cap1 exF from ho.row); have HB := Lib.hid (Below.trans ((Below.refl w.heap.size w).alloc (Nat.le_refl _) (.cells #[.int .u64 0, .int .u64 0, .int .u64 0] 35)) (hb.mono (by simp))); clear ho hb hc)
    | (go_at_call 7; (with_reducible refine (HL.out _ _ _ HR.out).mono ?_); rintro e w2 ⟨rfl, rfl⟩)
    | (go_at_call 11; (with_reducible refine (HI.out _ _ _ HR.out).mono ?_); rintro e w2 ⟨rfl, rfl⟩)
    | (go_at_call 9; (with_reducible refine (all_eq _ 3 _ exF 0 4 exF_all04 _ HR.out).mono ?_); rintro e w2 ⟨rfl, rfl⟩)
    | (go_at_call 9; (with_reducible refine (all_eq _ 3 _ exF 0 5 exF_all05 _ HR.out).mono ?_); rintro e w2 ⟨rfl, rfl⟩)
    | (go_at_call 9; (with_reducible refine (all_eq _ 3 _ exF 1 5 exF_all15 _ HR.out).mono ?_); rintro e w2 ⟨rfl, rfl⟩)
    | (go_at_call 22; (with_reducible refine (HN.out _ _ _ HR.out).mono ?_); rintro e w2 ⟨rfl, rfl⟩))
  go_ret
  exact ⟨rfl, HB.out⟩
end Go.Proofs.Ytiadkhdcnipfbaa
