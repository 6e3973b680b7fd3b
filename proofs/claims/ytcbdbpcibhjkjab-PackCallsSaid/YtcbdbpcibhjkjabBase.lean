/- Contracts of slices.Equal and of Words over the seat's program: two rows of words are the same just if their words are. -/
import Derived.Test.YtcbdbpcibhjkjabRows
import Derived.WalkKit
import Derived.ProofKit
import Derived.OpenShut
import Derived.Lib.Hide
import Derived.Lib.SmallJoins
import Derived.BigQuiet
import Derived.Deep.QuietTactic
import Derived.LoopTactic
import Derived.WalkSpells
import Derived.WalkLawsBesides
import Derived.Deep.RegionHeld3
namespace Go.Proofs.Ytcbdbpcibhjkjab
open Go.ChangeShapes Go.WideShapes Go.ChangeAt Go.RowKit Go.Joins

theorem ret_bool {x y : Bool} (h : y = x) : Ending.returned (.bool x) = Ending.returned (.bool y) := by rw [h]
theorem bcell {W w1 : World} (hb : Below W.heap.size W w1) : (∀ b o, b < W.heap.size → w1.cell? ⟨b, o, none⟩ = W.cell? ⟨b, o, none⟩) ∧ (∀ b o, b < W.heap.size → w1.frozen? ⟨b, o, none⟩ = W.frozen? ⟨b, o, none⟩) :=
  ⟨fun b o h => hb.cell (p := ⟨b, o, none⟩) h, fun b o h => hb.frozen (p := ⟨b, o, none⟩) h⟩
theorem below_drewN {B : Nat} {a w : World} (h : Below B a w) (n : Nat) : Below B a (w.drewN n) := ⟨h.os, h.tape, h.output, h.size, h.block⟩

def Same (n : Nat) (f g : Nat → Int) : Prop := ∀ i, i < n → f i = g i
instance (n : Nat) (f g : Nat → Int) : Decidable (Same n f g) := by unfold Same; infer_instance
def SomeDraws (w w' : World) : Prop := ∃ k, w' = w.drewN k

set_option maxHeartbeats 1000000 in
theorem equal_loop (b off cap b' off' cap' n : Nat) (f g : Nat → Int) (w : World) (hn : n ≤ 9223372036854775807)
    (hc : ∀ i, i < n → w.cell? ⟨b, off + i, none⟩ = some (.int .u64 (f i))) (hc' : ∀ i, i < n → w.cell? ⟨b', off' + i, none⟩ = some (.int .u64 (g i))) :
    Calls Try.prog 37 #[.slice (some ⟨b, off, none⟩) n cap, .slice (some ⟨b', off', none⟩) n cap'] w fun e w' => e = .returned (.bool (decide (Same n f g))) ∧ SomeDraws w w' := by
  have HC := Lib.hid hc
  have HC' := Lib.hid hc'
  clear hc hc'
  go_enter Try.func37, Try.ntmps37
  go_wp2
  go_loopw [13] (fun i wr => ∃ k : Nat, k ≤ n ∧ i = .int .i64 k ∧ (∀ j, j < k → f j = g j) ∧ ∃ q, wr = w.drewN q) (fun i _ => n - (intOf i).toNat)
  case atStart => exact ⟨0, Nat.zero_le _, rfl, fun j hj => absurd hj (by omega), 0, rfl⟩
  case round =>
    obtain ⟨k, hk, rfl, hs, q, rfl⟩ := hrel
    have HS := Lib.hid hs
    clear hs
    by_cases hlt : k < n
    · have c1 := HC.out k hlt
      have c2 := HC'.out k hlt
      have i0 : (0 : Int) ≤ (k : Int) := by omega
      have i1 : (k : Int) < (n : Int) := by omega
      by_cases he : f k = g k
      · have HE := Lib.hid he
        have e1 : (f k != g k) = false := by simp [he]
        clear he
        go_wp2
        go_quiet (fail)
        go_wp2
        go_roundw
        case rel => exact ⟨k + 1, by omega, by go_num, fun j hj => by
          rcases Nat.lt_succ_iff_lt_or_eq.1 hj with h | h
          · exact HS.out j h
          · rw [h]; exact HE.out, _, rfl⟩
        case measure => simp [intOf]; omega
      · have HF := Lib.hid (show ¬ Same n f g from fun h => he (h k hlt))
        have e1 : (f k != g k) = true := by simp [he]
        clear he
        go_wp2
        go_quiet (fail)
        go_wp2
        go_ret
        exact ⟨ret_bool (by simp [HF.out]), ⟨_, World.drewN_drewN _ _ _⟩⟩
    · have HF := Lib.hid (show Same n f g from fun i hi => HS.out i (by omega))
      go_wp2
      go_ret
      exact ⟨ret_bool (by simp [HF.out]), ⟨_, rfl⟩⟩

theorem equal_zero (a a' : Option Addr) (cap cap' : Nat) (w : World) :
    Calls Try.prog 37 #[.slice a 0 cap, .slice a' 0 cap'] w fun e w' => e = .returned (.bool true) ∧ w = w' := by
  go_enter Try.func37, Try.ntmps37
  go_wp2
  refine wp_loop_rounds 1 ?_
  rw [rounds_succ]
  go_wp2
  go_ret
  exact ⟨rfl, rfl⟩
theorem equal_len (a a' : Option Addr) (n m cap cap' : Nat) (w : World) (h : n ≠ m) :
    Calls Try.prog 37 #[.slice a n cap, .slice a' m cap'] w fun e w' => e = .returned (.bool false) ∧ w = w' := by
  have h1 : ((n : Int) != (m : Int)) = true := by simp; omega
  go_enter Try.func37, Try.ntmps37
  go_wp2
  go_ret
  exact ⟨rfl, rfl⟩

set_option maxHeartbeats 1000000 in
theorem words_loop (b off cap b' off' cap' n : Nat) (f g : Nat → Int) (w : World) (hn : n ≤ 9223372036854775807)
    (hc : ∀ i, i < n → w.cell? ⟨b, off + i, none⟩ = some (.int .u64 (f i))) (hc' : ∀ i, i < n → w.cell? ⟨b', off' + i, none⟩ = some (.int .u64 (g i))) :
    Calls Try.prog 27 #[.slice (some ⟨b, off, none⟩) n cap, .slice (some ⟨b', off', none⟩) n cap'] w fun e w' => e = .returned (.bool (decide (Same n f g))) ∧ SomeDraws w w' := by
  have HC := Lib.hid hc
  have HC' := Lib.hid hc'
  clear hc hc'
  go_enter Try.func27, Try.ntmps27
  go_wp2
  go_loopw [13] (fun i wr => ∃ k : Nat, k ≤ n ∧ i = .int .i64 k ∧ (∀ j, j < k → f j = g j) ∧ ∃ q, wr = w.drewN q) (fun i _ => n - (intOf i).toNat)
  case atStart => exact ⟨0, Nat.zero_le _, rfl, fun j hj => absurd hj (by omega), 0, rfl⟩
  case round =>
    obtain ⟨k, hk, rfl, hs, q, rfl⟩ := hrel
    have HS := Lib.hid hs
    clear hs
    by_cases hlt : k < n
    · have c1 := HC.out k hlt
      have c2 := HC'.out k hlt
      have i0 : (0 : Int) ≤ (k : Int) := by omega
      have i1 : (k : Int) < (n : Int) := by omega
      by_cases he : f k = g k
      · have HE := Lib.hid he
        have e1 : (f k != g k) = false := by simp [he]
        clear he
        go_wp2
        go_quiet (fail)
        go_wp2
        go_roundw
        case rel => exact ⟨k + 1, by omega, by go_num, fun j hj => by
          rcases Nat.lt_succ_iff_lt_or_eq.1 hj with h | h
          · exact HS.out j h
          · rw [h]; exact HE.out, _, rfl⟩
        case measure => simp [intOf]; omega
      · have HF := Lib.hid (show ¬ Same n f g from fun h => he (h k hlt))
        have e1 : (f k != g k) = true := by simp [he]
        clear he
        go_wp2
        go_quiet (fail)
        go_wp2
        go_ret
        exact ⟨ret_bool (by simp [HF.out]), ⟨_, World.drewN_drewN _ _ _⟩⟩
    · have HF := Lib.hid (show Same n f g from fun i hi => HS.out i (by omega))
      go_wp2
      go_ret
      exact ⟨ret_bool (by simp [HF.out]), ⟨_, rfl⟩⟩

theorem words_zero (a a' : Option Addr) (cap cap' : Nat) (w : World) :
    Calls Try.prog 27 #[.slice a 0 cap, .slice a' 0 cap'] w fun e w' => e = .returned (.bool true) ∧ w = w' := by
  go_enter Try.func27, Try.ntmps27
  go_wp2
  refine wp_loop_rounds 1 ?_
  rw [rounds_succ]
  go_wp2
  go_ret
  exact ⟨rfl, rfl⟩
theorem words_len (a a' : Option Addr) (n m cap cap' : Nat) (w : World) (h : n ≠ m) :
    Calls Try.prog 27 #[.slice a n cap, .slice a' m cap'] w fun e w' => e = .returned (.bool false) ∧ w = w' := by
  have h1 : ((n : Int) != (m : Int)) = true := by simp; omega
  go_enter Try.func27, Try.ntmps27
  go_wp2
  go_ret
  exact ⟨rfl, rfl⟩

/-- 'v' is a row of the words 'xs'. -/
def WordsAt (w : World) (v : Value) (xs : List Int) : Prop :=
  (xs = [] ∧ ∃ a cap, v = .slice a 0 cap) ∨
  ∃ b off cap, v = .slice (some ⟨b, off, none⟩) xs.length cap ∧ b < w.heap.size ∧ (xs.length ≤ 9223372036854775807 ∧ xs.length ≤ cap) ∧ ∀ i, i < xs.length → w.cell? ⟨b, off + i, none⟩ = some (.int .u64 (xs.getD i 0))

theorem same_iff {xs ys : List Int} (hl : xs.length = ys.length) : Same xs.length (fun i => xs.getD i 0) (fun i => ys.getD i 0) ↔ xs = ys := by
  refine ⟨fun h => List.ext_getElem hl fun i h1 h2 => ?_, fun h => by subst h; exact fun _ _ => rfl⟩
  have := h i h1
  simpa [List.getD_eq_getElem?_getD, List.getElem?_eq_getElem h1, List.getElem?_eq_getElem h2] using this

theorem equal_any {v v' : Value} {xs ys : List Int} (w : World) (h : WordsAt w v xs) (h' : WordsAt w v' ys) :
    Calls Try.prog 37 #[v, v'] w fun e w' => e = .returned (.bool (decide (xs = ys))) ∧ SomeDraws w w' := by
  by_cases hl : xs.length = ys.length
  · rcases h with ⟨rfl, a, cap, rfl⟩ | ⟨b, off, cap, rfl, hb, hm, hc⟩
    · obtain rfl : ys = [] := by simpa using hl.symm
      rcases h' with ⟨_, a', cap', rfl⟩ | ⟨b', off', cap', rfl, _, _, _⟩
      · exact (equal_zero _ _ _ _ w).mono fun _ _ ⟨he, hw⟩ => ⟨by rw [he]; rfl, 0, by rw [← hw]; rfl⟩
      · exact (equal_zero _ _ _ _ w).mono fun _ _ ⟨he, hw⟩ => ⟨by rw [he]; rfl, 0, by rw [← hw]; rfl⟩
    · rcases h' with ⟨rfl, a', cap', rfl⟩ | ⟨b', off', cap', rfl, _, _, hc'⟩
      · obtain rfl : xs = [] := by simpa using hl
        exact (equal_zero _ _ _ _ w).mono fun _ _ ⟨he, hw⟩ => ⟨by rw [he]; rfl, 0, by rw [← hw]; rfl⟩
      · rw [← hl] at hc' ⊢
        refine (equal_loop b off cap b' off' cap' xs.length (fun i => xs.getD i 0) (fun i => ys.getD i 0) w hm.1 hc hc').mono fun _ _ ⟨he, hw⟩ => ⟨?_, hw⟩
        rw [he, show decide (Same xs.length (fun i => xs.getD i 0) (fun i => ys.getD i 0)) = decide (xs = ys) from decide_eq_decide.2 (same_iff hl)]
  · rcases h with ⟨rfl, a, cap, rfl⟩ | ⟨b, off, cap, rfl, hb, hm, hc⟩ <;> rcases h' with ⟨rfl, a', cap', rfl⟩ | ⟨b', off', cap', rfl, _, _, hc'⟩
    · exact absurd rfl hl
    · exact (equal_len _ _ _ _ _ _ w hl).mono fun _ _ ⟨he, hw⟩ => ⟨by rw [he, decide_eq_false (fun e => hl (by rw [e]))], 0, by rw [← hw]; rfl⟩
    · exact (equal_len _ _ _ _ _ _ w hl).mono fun _ _ ⟨he, hw⟩ => ⟨by rw [he, decide_eq_false (fun e => hl (by rw [e]))], 0, by rw [← hw]; rfl⟩
    · exact (equal_len _ _ _ _ _ _ w hl).mono fun _ _ ⟨he, hw⟩ => ⟨by rw [he, decide_eq_false (fun e => hl (by rw [e]))], 0, by rw [← hw]; rfl⟩

theorem words_any {v v' : Value} {xs ys : List Int} (w : World) (h : WordsAt w v xs) (h' : WordsAt w v' ys) :
    Calls Try.prog 27 #[v, v'] w fun e w' => e = .returned (.bool (decide (xs = ys))) ∧ SomeDraws w w' := by
  by_cases hl : xs.length = ys.length
  · rcases h with ⟨rfl, a, cap, rfl⟩ | ⟨b, off, cap, rfl, hb, hm, hc⟩
    · obtain rfl : ys = [] := by simpa using hl.symm
      rcases h' with ⟨_, a', cap', rfl⟩ | ⟨b', off', cap', rfl, _, _, _⟩
      · exact (words_zero _ _ _ _ w).mono fun _ _ ⟨he, hw⟩ => ⟨by rw [he]; rfl, 0, by rw [← hw]; rfl⟩
      · exact (words_zero _ _ _ _ w).mono fun _ _ ⟨he, hw⟩ => ⟨by rw [he]; rfl, 0, by rw [← hw]; rfl⟩
    · rcases h' with ⟨rfl, a', cap', rfl⟩ | ⟨b', off', cap', rfl, _, _, hc'⟩
      · obtain rfl : xs = [] := by simpa using hl
        exact (words_zero _ _ _ _ w).mono fun _ _ ⟨he, hw⟩ => ⟨by rw [he]; rfl, 0, by rw [← hw]; rfl⟩
      · rw [← hl] at hc' ⊢
        refine (words_loop b off cap b' off' cap' xs.length (fun i => xs.getD i 0) (fun i => ys.getD i 0) w hm.1 hc hc').mono fun _ _ ⟨he, hw⟩ => ⟨?_, hw⟩
        rw [he, show decide (Same xs.length (fun i => xs.getD i 0) (fun i => ys.getD i 0)) = decide (xs = ys) from decide_eq_decide.2 (same_iff hl)]
  · rcases h with ⟨rfl, a, cap, rfl⟩ | ⟨b, off, cap, rfl, hb, hm, hc⟩ <;> rcases h' with ⟨rfl, a', cap', rfl⟩ | ⟨b', off', cap', rfl, _, _, hc'⟩
    · exact absurd rfl hl
    · exact (words_len _ _ _ _ _ _ w hl).mono fun _ _ ⟨he, hw⟩ => ⟨by rw [he, decide_eq_false (fun e => hl (by rw [e]))], 0, by rw [← hw]; rfl⟩
    · exact (words_len _ _ _ _ _ _ w hl).mono fun _ _ ⟨he, hw⟩ => ⟨by rw [he, decide_eq_false (fun e => hl (by rw [e]))], 0, by rw [← hw]; rfl⟩
    · exact (words_len _ _ _ _ _ _ w hl).mono fun _ _ ⟨he, hw⟩ => ⟨by rw [he, decide_eq_false (fun e => hl (by rw [e]))], 0, by rw [← hw]; rfl⟩

end Go.Proofs.Ytcbdbpcibhjkjab
