/- Contracts of IndexFunc, ContainsFunc and Fits over the seat's program. -/
import Derived.Test.YtcbdbpcibhjkjabCases
namespace Go.Proofs.Ytcbdbpcibhjkjab
open Go.ChangeShapes Go.WideShapes Go.ChangeAt Go.RowKit Go.Joins

def Row3 (w : World) (b off n : Nat) (f : Nat → C3) : Prop := ∀ i, i < n →
    w.cell? ⟨b, off + i * 3, none⟩ = some (.int .i64 (f i).1) ∧ w.cell? ⟨b, off + i * 3 + 1, none⟩ = some (.int .i64 (f i).2.1) ∧ w.cell? ⟨b, off + i * 3 + 2, none⟩ = some (.int .i64 (f i).2.2)
theorem Row3.below {w w' : World} {b off n : Nat} {f : Nat → C3} (h : Row3 w b off n f) (hb : b < w.heap.size) (hw : Below w.heap.size w w') : Row3 w' b off n f := fun i hi => by
  obtain ⟨h1, h2, h3⟩ := h i hi
  obtain ⟨hc, _⟩ := bcell hw
  exact ⟨by rw [hc _ _ hb]; exact h1, by rw [hc _ _ hb]; exact h2, by rw [hc _ _ hb]; exact h3⟩

theorem notFits_yes (x y z : Int) (k : caseB (x, y, z) = true) (w : World) : Calls Try.prog 40 #[.agg #[.int .i64 x, .int .i64 y, .int .i64 z]] w
    fun e w' => e = .returned (.bool false) ∧ Below w.heap.size w w' := by
  have := notFits_any (x, y, z) w
  rw [k] at this
  exact this
theorem notFits_no (x y z : Int) (k : caseB (x, y, z) = false) (w : World) : Calls Try.prog 40 #[.agg #[.int .i64 x, .int .i64 y, .int .i64 z]] w
    fun e w' => e = .returned (.bool true) ∧ Below w.heap.size w w' := by
  have := notFits_any (x, y, z) w
  rw [k] at this
  exact this

set_option maxHeartbeats 1000000 in
theorem index_all (b off cap n : Nat) (f : Nat → C3) (w : World) (hn : n ≤ 9223372036854775807) (hb : b < w.heap.size) (hr : Row3 w b off n f) (hk : ∀ i, i < n → caseB (f i) = true) :
    Calls Try.prog 43 #[.slice (some ⟨b, off, none⟩) n cap, .func (.func 40) #[] #[]] w fun e w' => e = .returned (.int .i64 (-1)) ∧ Below w.heap.size w w' := by
  have HR := Lib.hid hr
  have HK := Lib.hid hk
  clear hr hk
  go_enter Try.func43, Try.ntmps43
  go_wp2
  go_loopw [8] (fun i wr => ∃ k : Nat, k ≤ n ∧ i = .int .i64 k ∧ Below w.heap.size w wr) (fun i _ => n - (intOf i).toNat)
  case atStart => exact ⟨0, Nat.zero_le _, rfl, Below.refl _ _⟩
  case round =>
    obtain ⟨k, hk, rfl, hw⟩ := hrel
    by_cases hlt : k < n
    · obtain ⟨c1, c2, c3⟩ := HR.out.below hb hw k hlt
      have i0 : (0 : Int) ≤ (k : Int) := by omega
      have i1 : (k : Int) < (n : Int) := by omega
      have hz := HK.out k hlt
      obtain ⟨x1, x2, x3, hx⟩ : ∃ x1 x2 x3, f k = (x1, x2, x3) := ⟨_, _, _, rfl⟩
      rw [hx] at c1 c2 c3 hz
      dsimp only at c1 c2 c3
      clear hx
      have HZ := Lib.hid hz
      clear hz
      go_wp2_with (go_at_call 40; (with_reducible refine (notFits_yes x1 x2 x3 HZ.out _).mono ?_); rintro e w1 ⟨rfl, hb1⟩)
      go_roundw
      case rel => exact ⟨k + 1, by omega, by go_num, hw.trans (hb1.mono hw.size)⟩
      case measure => simp [intOf]; omega
    · go_wp2
      go_ret
      exact ⟨rfl, hw⟩
set_option maxHeartbeats 1000000 in
theorem index_some (b off cap n m : Nat) (f : Nat → C3) (w : World) (hn : n ≤ 9223372036854775807) (hb : b < w.heap.size) (hr : Row3 w b off n f) (hm : m < n) (hk : ∀ i, i < m → caseB (f i) = true) (hno : caseB (f m) = false) :
    Calls Try.prog 43 #[.slice (some ⟨b, off, none⟩) n cap, .func (.func 40) #[] #[]] w fun e w' => e = .returned (.int .i64 m) ∧ Below w.heap.size w w' := by
  have HR := Lib.hid hr
  have HK := Lib.hid hk
  have HN := Lib.hid hno
  clear hr hk hno
  go_enter Try.func43, Try.ntmps43
  go_wp2
  go_loopw [8] (fun i wr => ∃ k : Nat, k ≤ m ∧ i = .int .i64 k ∧ Below w.heap.size w wr) (fun i _ => n - (intOf i).toNat)
  case atStart => exact ⟨0, Nat.zero_le _, rfl, Below.refl _ _⟩
  case round =>
    obtain ⟨k, hk, rfl, hw⟩ := hrel
    have hlt : k < n := by omega
    obtain ⟨c1, c2, c3⟩ := HR.out.below hb hw k hlt
    have i0 : (0 : Int) ≤ (k : Int) := by omega
    have i1 : (k : Int) < (n : Int) := by omega
    by_cases hkm : k < m
    · have hz := HK.out k hkm
      obtain ⟨x1, x2, x3, hx⟩ : ∃ x1 x2 x3, f k = (x1, x2, x3) := ⟨_, _, _, rfl⟩
      rw [hx] at c1 c2 c3 hz
      dsimp only at c1 c2 c3
      clear hx
      have HZ := Lib.hid hz
      clear hz
      go_wp2_with (go_at_call 40; (with_reducible refine (notFits_yes x1 x2 x3 HZ.out _).mono ?_); rintro e w1 ⟨rfl, hb1⟩)
      go_roundw
      case rel => exact ⟨k + 1, by omega, by go_num, hw.trans (hb1.mono hw.size)⟩
      case measure => simp [intOf]; omega
    · obtain rfl : m = k := by omega
      have hz := HN.out
      obtain ⟨x1, x2, x3, hx⟩ : ∃ x1 x2 x3, f m = (x1, x2, x3) := ⟨_, _, _, rfl⟩
      rw [hx] at c1 c2 c3 hz
      dsimp only at c1 c2 c3
      clear hx
      have HZ := Lib.hid hz
      clear hz
      go_wp2_with (go_at_call 40; (with_reducible refine (notFits_no x1 x2 x3 HZ.out _).mono ?_); rintro e w1 ⟨rfl, hb1⟩)
      go_ret
      exact ⟨rfl, hw.trans (hb1.mono hw.size)⟩
theorem index_zero (a : Option Addr) (cap : Nat) (w : World) :
    Calls Try.prog 43 #[.slice a 0 cap, .func (.func 40) #[] #[]] w fun e w' => e = .returned (.int .i64 (-1)) ∧ w = w' := by
  go_enter Try.func43, Try.ntmps43
  go_wp2
  refine wp_loop_rounds 1 ?_
  rw [rounds_succ]
  go_wp2
  go_ret
  exact ⟨rfl, rfl⟩

theorem first_no (f : Nat → C3) : ∀ n, (∀ i, i < n → caseB (f i) = true) ∨ ∃ m, m < n ∧ (∀ i, i < m → caseB (f i) = true) ∧ caseB (f m) = false
  | 0 => .inl fun i hi => absurd hi (by omega)
  | n + 1 => by
    rcases first_no f n with h | ⟨m, h1, h2, h3⟩
    · cases k : caseB (f n)
      · exact .inr ⟨n, by omega, h, k⟩
      · exact .inl fun i hi => by
          rcases Nat.lt_succ_iff_lt_or_eq.1 hi with h' | h'
          · exact h i h'
          · rw [h']; exact k
    · exact .inr ⟨m, by omega, h2, h3⟩

/-- Where IndexFunc stops. -/
theorem index_any {v : Value} {cs : List C3} (w : World) (h : CasesAt w v cs) :
    ∃ r : Int, -1 ≤ r ∧ r ≤ 9223372036854775807 ∧ (decide (0 ≤ r) = !cs.all caseB) ∧ Calls Try.prog 43 #[v, .func (.func 40) #[] #[]] w fun e w' => e = .returned (.int .i64 r) ∧ Below w.heap.size w w' := by
  rcases h with ⟨rfl, a, cap, rfl⟩ | ⟨b, off, cap, rfl, hb, hm, hc⟩
  · exact ⟨-1, by omega, by omega, rfl, (index_zero _ _ w).mono fun _ _ ⟨he, hw⟩ => ⟨he, by rw [← hw]; exact Below.refl _ _⟩⟩
  · rcases first_no (fun i => cs.getD i (0, 0, 0)) cs.length with h | ⟨m, h1, h2, h3⟩
    · refine ⟨-1, by omega, by omega, ?_, index_all b off cap cs.length _ w hm hb hc h⟩
      have : cs.all caseB = true := by
        rw [List.all_eq_true]
        intro x hx
        obtain ⟨i, hi, rfl⟩ := List.getElem_of_mem hx
        have := h i hi
        simpa [List.getD_eq_getElem?_getD, List.getElem?_eq_getElem hi] using this
      rw [this]; rfl
    · refine ⟨m, by omega, by omega, ?_, index_some b off cap cs.length m _ w hm hb hc h1 h2 h3⟩
      have : cs.all caseB = false := by
        rw [List.all_eq_false]
        refine ⟨cs[m], List.getElem_mem h1, ?_⟩
        simpa [List.getD_eq_getElem?_getD, List.getElem?_eq_getElem h1] using h3
      rw [this]; simp

theorem contains_any {v : Value} {cs : List C3} (w : World) (h : CasesAt w v cs) :
    Calls Try.prog 39 #[v, .func (.func 40) #[] #[]] w fun e w' => e = .returned (.bool (!cs.all caseB)) ∧ Below w.heap.size w w' := by
  obtain ⟨r, r0, r1, hr, hcall⟩ := index_any w h
  have HR := Lib.hid hr
  have HC := Lib.hid hcall
  clear hr hcall
  go_enter Try.func39, Try.ntmps39
  go_wp2_with (go_at_call 43; (with_reducible refine HC.out.mono ?_); rintro e w1 ⟨rfl, hb1⟩)
  go_ret
  exact ⟨ret_bool HR.out.symm, hb1⟩

def fitsB (kind arg value : Int) (cs : List C3) : Bool :=
  decide (1 ≤ kind) && decide (kind ≤ 9) && inB arg 65535 && inB value 4294967295 && decide (cs.length ≤ 3) && cs.all caseB
end Go.Proofs.Ytcbdbpcibhjkjab
