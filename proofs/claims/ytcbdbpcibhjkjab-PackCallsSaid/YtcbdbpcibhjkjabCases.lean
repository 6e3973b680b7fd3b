/- Contracts of Cases, and of within, fitsCase, Fits over the seat's program. -/
import Derived.Test.YtcbdbpcibhjkjabBase
namespace Go.Proofs.Ytcbdbpcibhjkjab
open Go.ChangeShapes Go.WideShapes Go.ChangeAt Go.RowKit Go.Joins

abbrev C3 := Int × Int × Int
/-- 'v' is a row of the cases 'cs'. -/
def CasesAt (w : World) (v : Value) (cs : List C3) : Prop :=
  (cs = [] ∧ ∃ a cap, v = .slice a 0 cap) ∨
  ∃ b off cap, v = .slice (some ⟨b, off, none⟩) cs.length cap ∧ b < w.heap.size ∧ cs.length ≤ 9223372036854775807 ∧ ∀ i, i < cs.length →
    w.cell? ⟨b, off + i * 3, none⟩ = some (.int .i64 (cs.getD i (0, 0, 0)).1) ∧ w.cell? ⟨b, off + i * 3 + 1, none⟩ = some (.int .i64 (cs.getD i (0, 0, 0)).2.1) ∧ w.cell? ⟨b, off + i * 3 + 2, none⟩ = some (.int .i64 (cs.getD i (0, 0, 0)).2.2)

def Same3 (n : Nat) (f g : Nat → C3) : Prop := ∀ i, i < n → f i = g i
instance (n : Nat) (f g : Nat → C3) : Decidable (Same3 n f g) := by unfold Same3; infer_instance

set_option maxHeartbeats 2000000 in
theorem cases_loop (b off cap b' off' cap' n : Nat) (f g : Nat → C3) (w : World) (hn : n ≤ 9223372036854775807)
    (hc : ∀ i, i < n → w.cell? ⟨b, off + i * 3, none⟩ = some (.int .i64 (f i).1) ∧ w.cell? ⟨b, off + i * 3 + 1, none⟩ = some (.int .i64 (f i).2.1) ∧ w.cell? ⟨b, off + i * 3 + 2, none⟩ = some (.int .i64 (f i).2.2))
    (hc' : ∀ i, i < n → w.cell? ⟨b', off' + i * 3, none⟩ = some (.int .i64 (g i).1) ∧ w.cell? ⟨b', off' + i * 3 + 1, none⟩ = some (.int .i64 (g i).2.1) ∧ w.cell? ⟨b', off' + i * 3 + 2, none⟩ = some (.int .i64 (g i).2.2)) :
    Calls Try.prog 42 #[.slice (some ⟨b, off, none⟩) n cap, .slice (some ⟨b', off', none⟩) n cap'] w fun e w' => e = .returned (.bool (decide (Same3 n f g))) ∧ SomeDraws w w' := by
  have HC := Lib.hid hc
  have HC' := Lib.hid hc'
  clear hc hc'
  go_enter Try.func42, Try.ntmps42
  go_wp2
  go_loopw [13] (fun i wr => ∃ k : Nat, k ≤ n ∧ i = .int .i64 k ∧ (∀ j, j < k → f j = g j) ∧ ∃ q, wr = w.drewN q) (fun i _ => n - (intOf i).toNat)
  case atStart => exact ⟨0, Nat.zero_le _, rfl, fun j hj => absurd hj (by omega), 0, rfl⟩
  case round =>
    obtain ⟨k, hk, rfl, hs, q, rfl⟩ := hrel
    have HS := Lib.hid hs
    clear hs
    by_cases hlt : k < n
    · obtain ⟨c1, c2, c3⟩ := HC.out k hlt
      obtain ⟨d1, d2, d3⟩ := HC'.out k hlt
      have i0 : (0 : Int) ≤ (k : Int) := by omega
      have i1 : (k : Int) < (n : Int) := by omega
      obtain ⟨x1, x2, x3, hx⟩ : ∃ x1 x2 x3, f k = (x1, x2, x3) := ⟨_, _, _, rfl⟩
      obtain ⟨y1, y2, y3, hy⟩ : ∃ y1 y2 y3, g k = (y1, y2, y3) := ⟨_, _, _, rfl⟩
      rw [hx] at c1 c2 c3
      rw [hy] at d1 d2 d3
      dsimp only at c1 c2 c3 d1 d2 d3
      have HX := Lib.hid hx
      have HY := Lib.hid hy
      clear hx hy
      by_cases h1 : x1 = y1
      · subst h1
        by_cases h2 : x2 = y2
        · subst h2
          by_cases h3 : x3 = y3
          · subst h3
            go_wp2
            go_quiet (fail)
            go_wp2
            go_roundw
            case rel => exact ⟨k + 1, by omega, by go_num, fun j hj => by
              rcases Nat.lt_succ_iff_lt_or_eq.1 hj with h | h
              · exact HS.out j h
              · rw [h, HX.out, HY.out], _, rfl⟩
            case measure => simp [intOf]; omega
          · have HF := Lib.hid (show ¬ Same3 n f g from fun h => h3 (by have := h k hlt; rw [HX.out, HY.out] at this; simpa using this))
            have e3 : (x3 == y3) = false := by simp [h3]
            clear h3
            go_wp2
            go_quiet (fail)
            go_wp2
            go_ret
            exact ⟨ret_bool (by simp [HF.out]), ⟨_, World.drewN_drewN _ _ _⟩⟩
        · have HF := Lib.hid (show ¬ Same3 n f g from fun h => h2 (by have := h k hlt; rw [HX.out, HY.out] at this; exact (Prod.mk.inj (Prod.mk.inj this).2).1))
          have e2 : (x2 == y2) = false := by simp [h2]
          clear h2
          go_wp2
          go_quiet (fail)
          go_wp2
          go_ret
          exact ⟨ret_bool (by simp [HF.out]), ⟨_, World.drewN_drewN _ _ _⟩⟩
      · have HF := Lib.hid (show ¬ Same3 n f g from fun h => h1 (by have := h k hlt; rw [HX.out, HY.out] at this; exact (Prod.mk.inj this).1))
        have e1 : (x1 == y1) = false := by simp [h1]
        clear h1
        go_wp2
        go_quiet (fail)
        go_wp2
        go_ret
        exact ⟨ret_bool (by simp [HF.out]), ⟨_, World.drewN_drewN _ _ _⟩⟩
    · have HF := Lib.hid (show Same3 n f g from fun i hi => HS.out i (by omega))
      go_wp2
      go_ret
      exact ⟨ret_bool (by simp [HF.out]), ⟨_, rfl⟩⟩

theorem cases_zero (a a' : Option Addr) (cap cap' : Nat) (w : World) :
    Calls Try.prog 42 #[.slice a 0 cap, .slice a' 0 cap'] w fun e w' => e = .returned (.bool true) ∧ w = w' := by
  go_enter Try.func42, Try.ntmps42
  go_wp2
  refine wp_loop_rounds 1 ?_
  rw [rounds_succ]
  go_wp2
  go_ret
  exact ⟨rfl, rfl⟩
theorem cases_len (a a' : Option Addr) (n m cap cap' : Nat) (w : World) (h : n ≠ m) :
    Calls Try.prog 42 #[.slice a n cap, .slice a' m cap'] w fun e w' => e = .returned (.bool false) ∧ w = w' := by
  have h1 : ((n : Int) != (m : Int)) = true := by simp; omega
  go_enter Try.func42, Try.ntmps42
  go_wp2
  go_ret
  exact ⟨rfl, rfl⟩

theorem same3_iff {xs ys : List C3} (hl : xs.length = ys.length) : Same3 xs.length (fun i => xs.getD i (0, 0, 0)) (fun i => ys.getD i (0, 0, 0)) ↔ xs = ys := by
  refine ⟨fun h => List.ext_getElem hl fun i h1 h2 => ?_, fun h => by subst h; exact fun _ _ => rfl⟩
  have := h i h1
  simpa [List.getD_eq_getElem?_getD, List.getElem?_eq_getElem h1, List.getElem?_eq_getElem h2] using this

theorem cases_any {v v' : Value} {xs ys : List C3} (w : World) (h : CasesAt w v xs) (h' : CasesAt w v' ys) :
    Calls Try.prog 42 #[v, v'] w fun e w' => e = .returned (.bool (decide (xs = ys))) ∧ SomeDraws w w' := by
  by_cases hl : xs.length = ys.length
  · rcases h with ⟨rfl, a, cap, rfl⟩ | ⟨b, off, cap, rfl, hb, hm, hc⟩
    · obtain rfl : ys = [] := by simpa using hl.symm
      rcases h' with ⟨_, a', cap', rfl⟩ | ⟨b', off', cap', rfl, _, _, _⟩
      · exact (cases_zero _ _ _ _ w).mono fun _ _ ⟨he, hw⟩ => ⟨by rw [he]; rfl, 0, by rw [← hw]; rfl⟩
      · exact (cases_zero _ _ _ _ w).mono fun _ _ ⟨he, hw⟩ => ⟨by rw [he]; rfl, 0, by rw [← hw]; rfl⟩
    · rcases h' with ⟨rfl, a', cap', rfl⟩ | ⟨b', off', cap', rfl, _, _, hc'⟩
      · obtain rfl : xs = [] := by simpa using hl
        exact (cases_zero _ _ _ _ w).mono fun _ _ ⟨he, hw⟩ => ⟨by rw [he]; rfl, 0, by rw [← hw]; rfl⟩
      · rw [← hl] at hc' ⊢
        refine (cases_loop b off cap b' off' cap' xs.length (fun i => xs.getD i (0, 0, 0)) (fun i => ys.getD i (0, 0, 0)) w hm hc hc').mono fun _ _ ⟨he, hw⟩ => ⟨?_, hw⟩
        rw [he, show decide (Same3 xs.length (fun i => xs.getD i (0, 0, 0)) (fun i => ys.getD i (0, 0, 0))) = decide (xs = ys) from decide_eq_decide.2 (same3_iff hl)]
  · rcases h with ⟨rfl, a, cap, rfl⟩ | ⟨b, off, cap, rfl, hb, hm, hc⟩ <;> rcases h' with ⟨rfl, a', cap', rfl⟩ | ⟨b', off', cap', rfl, _, _, hc'⟩
    · exact absurd rfl hl
    · exact (cases_len _ _ _ _ _ _ w hl).mono fun _ _ ⟨he, hw⟩ => ⟨by rw [he, decide_eq_false (fun e => hl (by rw [e]))], 0, by rw [← hw]; rfl⟩
    · exact (cases_len _ _ _ _ _ _ w hl).mono fun _ _ ⟨he, hw⟩ => ⟨by rw [he, decide_eq_false (fun e => hl (by rw [e]))], 0, by rw [← hw]; rfl⟩
    · exact (cases_len _ _ _ _ _ _ w hl).mono fun _ _ ⟨he, hw⟩ => ⟨by rw [he, decide_eq_false (fun e => hl (by rw [e]))], 0, by rw [← hw]; rfl⟩

def inB (n last : Int) : Bool := decide (0 ≤ n) && decide (n ≤ last)
theorem inB_iff (n last : Int) : inB n last = true ↔ 0 ≤ n ∧ n ≤ last := by simp [inB]
def caseB (c : C3) : Bool := (c.1 == 1 || c.1 == 2) && inB c.2.1 65535 && inB c.2.2 4294967295
theorem caseB_iff (c : C3) : caseB c = true ↔ (c.1 = 1 ∨ c.1 = 2) ∧ (0 ≤ c.2.1 ∧ c.2.1 ≤ 65535) ∧ 0 ≤ c.2.2 ∧ c.2.2 ≤ 4294967295 := by
  simp [caseB, inB_iff]; omega

theorem within_any (n last : Int) (w : World) : Calls Try.prog 35 #[.int .i64 n, .int .i64 last] w fun e w' => e = .returned (.bool (inB n last)) ∧ w = w' := by
  go_enter Try.func35, Try.ntmps35
  go_wp2
  all_goals
    go_ret
    exact ⟨ret_bool (by simp [inB]; omega), rfl⟩
theorem within_eq {x : Bool} (n last : Int) (h : inB n last = x) (w : World) : Calls Try.prog 35 #[.int .i64 n, .int .i64 last] w fun e w' => e = .returned (.bool x) ∧ w = w' := by
  rw [← h]; exact within_any n last w

theorem fitsCase_yes (d h v : Int) (k : caseB (d, h, v) = true) (w : World) : Calls Try.prog 41 #[.agg #[.int .i64 d, .int .i64 h, .int .i64 v]] w
    fun e w' => e = .returned (.bool true) ∧ w.alloc (.cells #[.int .i64 d, .int .i64 h, .int .i64 v] 52) = w' := by
  obtain ⟨k1, k2, k3⟩ := (caseB_iff _).1 k
  dsimp only at k1 k2 k3
  have H2 := Lib.hid ((inB_iff h 65535).2 k2)
  have H3 := Lib.hid ((inB_iff v 4294967295).2 k3)
  clear k k2 k3
  rcases k1 with rfl | rfl
  · go_enter Try.func41, Try.ntmps41
    go_wp2_with (first
      | (go_at_call 35; (with_reducible refine (within_eq h 65535 H2.out _).mono ?_); rintro e w1 ⟨rfl, rfl⟩)
      | (go_at_call 35; (with_reducible refine (within_eq v 4294967295 H3.out _).mono ?_); rintro e w1 ⟨rfl, rfl⟩))
    go_ret
    exact ⟨rfl, rfl⟩
  · go_enter Try.func41, Try.ntmps41
    go_wp2_with (first
      | (go_at_call 35; (with_reducible refine (within_eq h 65535 H2.out _).mono ?_); rintro e w1 ⟨rfl, rfl⟩)
      | (go_at_call 35; (with_reducible refine (within_eq v 4294967295 H3.out _).mono ?_); rintro e w1 ⟨rfl, rfl⟩))
    go_ret
    exact ⟨rfl, rfl⟩
theorem fitsCase_no (d h v : Int) (k : caseB (d, h, v) = false) (w : World) : Calls Try.prog 41 #[.agg #[.int .i64 d, .int .i64 h, .int .i64 v]] w
    fun e w' => e = .returned (.bool false) ∧ w.alloc (.cells #[.int .i64 d, .int .i64 h, .int .i64 v] 52) = w' := by
  have K := Lib.hid k
  clear k
  by_cases d1 : d = 1
  · subst d1
    cases h2 : inB h 65535
    · have H2 := Lib.hid h2
      clear h2
      go_enter Try.func41, Try.ntmps41
      go_wp2_with (go_at_call 35; (with_reducible refine (within_eq h 65535 H2.out _).mono ?_); rintro e w1 ⟨rfl, rfl⟩)
      go_ret
      exact ⟨rfl, rfl⟩
    · have H2 := Lib.hid h2
      have H3 := Lib.hid (show inB v 4294967295 = false by have := K.out; simpa [caseB, h2] using this)
      clear h2
      go_enter Try.func41, Try.ntmps41
      go_wp2_with (first
        | (go_at_call 35; (with_reducible refine (within_eq h 65535 H2.out _).mono ?_); rintro e w1 ⟨rfl, rfl⟩)
        | (go_at_call 35; (with_reducible refine (within_eq v 4294967295 H3.out _).mono ?_); rintro e w1 ⟨rfl, rfl⟩))
      go_ret
      exact ⟨rfl, rfl⟩
  · have e1 : (d == 1) = false := by simp [d1]
    by_cases d2 : d = 2
    · subst d2
      clear d1
      cases h2 : inB h 65535
      · have H2 := Lib.hid h2
        clear h2
        go_enter Try.func41, Try.ntmps41
        go_wp2_with (go_at_call 35; (with_reducible refine (within_eq h 65535 H2.out _).mono ?_); rintro e w1 ⟨rfl, rfl⟩)
        go_ret
        exact ⟨rfl, rfl⟩
      · have H2 := Lib.hid h2
        have H3 := Lib.hid (show inB v 4294967295 = false by have := K.out; simpa [caseB, h2] using this)
        clear h2
        go_enter Try.func41, Try.ntmps41
        go_wp2_with (first
          | (go_at_call 35; (with_reducible refine (within_eq h 65535 H2.out _).mono ?_); rintro e w1 ⟨rfl, rfl⟩)
          | (go_at_call 35; (with_reducible refine (within_eq v 4294967295 H3.out _).mono ?_); rintro e w1 ⟨rfl, rfl⟩))
        go_ret
        exact ⟨rfl, rfl⟩
    · have e2 : (d == 2) = false := by simp [d2]
      clear d1 d2
      go_enter Try.func41, Try.ntmps41
      go_wp2
      go_ret
      exact ⟨rfl, rfl⟩
theorem notFits_any (c : C3) (w : World) : Calls Try.prog 40 #[.agg #[.int .i64 c.1, .int .i64 c.2.1, .int .i64 c.2.2]] w
    fun e w' => e = .returned (.bool (!caseB c)) ∧ Below w.heap.size w w' := by
  obtain ⟨d, h, v⟩ := c
  dsimp only
  cases k : caseB (d, h, v)
  · have K := Lib.hid k
    clear k
    go_enter Try.func40, Try.ntmps40
    go_wp2_with (go_at_call 41; (with_reducible refine (fitsCase_no d h v K.out _).mono ?_); rintro e w1 ⟨rfl, rfl⟩)
    go_ret
    exact ⟨rfl, ((Below.refl _ _).alloc (Nat.le_refl _) _).alloc (by simp) _⟩
  · have K := Lib.hid k
    clear k
    go_enter Try.func40, Try.ntmps40
    go_wp2_with (go_at_call 41; (with_reducible refine (fitsCase_yes d h v K.out _).mono ?_); rintro e w1 ⟨rfl, rfl⟩)
    go_ret
    exact ⟨rfl, ((Below.refl _ _).alloc (Nat.le_refl _) _).alloc (by simp) _⟩
end Go.Proofs.Ytcbdbpcibhjkjab
