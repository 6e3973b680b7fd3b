/- Has, the tests of the laws of the seat, and tells asked by them, over the seat's program. -/
import Derived.Test.YtmaijjjhjkaoeaaPlT
namespace Go.Proofs.Ytmaijjjhjkaoeaa
open Go.ChangeShapes Go.WideShapes Go.ChangeAt Go.RowKit Go.Joins
attribute [local go_sem] Try.neq_nil

/-- Is a number in a row? -/
def hasB (f : Nat → Int) (n : Nat) (x : Int) : Bool := (List.range n).any fun i => f i == x
theorem hasB_yes {f : Nat → Int} {n k : Nat} {x : Int} (hk : k < n) (h : f k = x) : hasB f n x = true := by
  unfold hasB
  rw [List.any_eq_true]
  exact ⟨k, by simpa using hk, by simpa using h⟩
theorem hasB_no {f : Nat → Int} {n : Nat} {x : Int} (h : ∀ i, i < n → f i ≠ x) : hasB f n x = false := by
  unfold hasB
  rw [List.any_eq_false]
  intro i hi
  simpa using h i (by simpa using hi)
set_option maxHeartbeats 1000000 in
theorem has_any (a : Option Addr) (n cap : Nat) (f : Nat → Int) (x : Int) (w : World) (h : RowAt .i64 w a n cap f) :
    Calls Try.prog 19 #[.slice a n cap, .int .i64 x] w fun e w' => e = .returned (.bool (hasB f n x)) ∧ w = w' := by
  have hn := h.1
  have HC := Lib.hid h
  have HY := Lib.hid (fun k (hk : k < n) (h : f k = x) => hasB_yes hk h)
  have HN := Lib.hid (fun (h : ∀ i, i < n → f i ≠ x) => hasB_no h)
  generalize hasB f n x = r at *
  clear h
  go_enter Try.func19, Try.ntmps19
  go_wp2
  go_loop [9] (fun i => ∃ k : Nat, k ≤ n ∧ i = .int .i64 k ∧ (∀ i, i < k → f i ≠ x)) (fun i => n - (intOf i).toNat)
  case atStart => exact ⟨0, Nat.zero_le _, rfl, fun i hi => absurd hi (by omega)⟩
  case round =>
    obtain ⟨k, hk, rfl, hE⟩ := hrel
    have HE := Lib.hid hE
    clear hE
    by_cases hlt : k < n
    · obtain ⟨b, off, rfl, _, hc⟩ := HC.out.get hlt
      have x0 := hc k hlt
      have i0 : (0 : Int) ≤ (k : Int) := by omega
      have i1 : (k : Int) < (n : Int) := by omega
      clear hc
      by_cases he : f k = x
      · have e1 : (f k == x) = true := by simpa using he
        have HR := Lib.hid (HY.out k hlt he)
        clear he
        go_wp2
        go_ret
        exact ⟨ret_bool HR.out, rfl⟩
      · have e1 : (f k == x) = false := by simpa using he
        have HA := Lib.hid (show ∀ i, i < k + 1 → f i ≠ x from fun i hi => by
          rcases Nat.lt_or_ge i k with h | h
          · exact HE.out i h
          · obtain rfl : i = k := by omega
            exact he)
        clear he
        go_wp2
        go_round
        case rel => exact ⟨k + 1, by omega, by go_num, HA.out⟩
        case measure => simp [intOf]; omega
    · obtain rfl : k = n := by omega
      go_wp2
      go_ret
      exact ⟨ret_bool (HN.out HE.out), rfl⟩

theorem test1_any (c : Nat) (x y z : Int) (a : Option Addr) (n cap : Nat) (f : Nat → Int) (w : World) (hc : c < w.heap.size) (h0 : w.cell? ⟨c, 0, none⟩ = some (.slice a n cap)) (h : RowAt .i64 w a n cap f) :
    Calls Try.prog 21 #[.agg #[.int .i64 x, .int .i64 y, .int .i64 z], .pointer (some ⟨c, 0, none⟩)] w fun e w' => e = .returned (.bool (hasB f n z)) ∧ Below w.heap.size w w' := by
  have HR := Lib.hid (h.alloc (.cells #[.int .i64 x, .int .i64 y, .int .i64 z] 40))
  clear h
  go_enter Try.func21, Try.ntmps21
  go_wp2_with (go_at_call 19; (with_reducible refine (has_any _ _ _ _ _ _ HR.out).mono ?_); rintro e w1 ⟨rfl, rfl⟩)
  go_ret
  exact ⟨rfl, (Below.refl _ _).alloc (Nat.le_refl _) _⟩
theorem test2_any (c : Nat) (x y z k : Int) (w : World) (hc : c < w.heap.size) (h0 : w.cell? ⟨c, 0, none⟩ = some (.int .i64 k)) :
    Calls Try.prog 31 #[.agg #[.int .i64 x, .int .i64 y, .int .i64 z], .pointer (some ⟨c, 0, none⟩)] w fun e w' => e = .returned (.bool (decide (z ≤ k))) ∧ Below w.heap.size w w' := by
  go_enter Try.func31, Try.ntmps31
  go_wp2
  go_ret
  exact ⟨rfl, (Below.refl _ _).alloc (Nat.le_refl _) _⟩

set_option maxRecDepth 100000 in
set_option maxHeartbeats 1600000 in
theorem tells_one (c : Addr) (b : Bool) (x y z : Int) (w : World) (HQ0 : Calls Try.prog 21 #[.agg #[.int .i64 x, .int .i64 y, .int .i64 z], .pointer (some c)] ((w.alloc (.cells #[.int .i64 x, .int .i64 y, .int .i64 z] 40)).alloc (.cells #[.bool false] 4)) fun e w' => e = .returned (.bool b) ∧ Below ((w.alloc (.cells #[.int .i64 x, .int .i64 y, .int .i64 z] 40)).alloc (.cells #[.bool false] 4)).heap.size ((w.alloc (.cells #[.int .i64 x, .int .i64 y, .int .i64 z] 40)).alloc (.cells #[.bool false] 4)) w') :
    Calls Try.prog 39 #[.func (.func 21) #[] #[.pointer (some c)], .agg #[.int .i64 x, .int .i64 y, .int .i64 z]] w fun e w' => e = .returned (.bool b) ∧ Below w.heap.size w w' := by
  have hmf : ∀ (fn : Fn) (first cap : Array Value) (w : World), (Instr.makeFunc fn first cap).run Try.prog w = .ok (.func fn first cap) w := fun _ _ _ _ => rfl
  have HA := Lib.hid (show Below w.heap.size w ((w.alloc (.cells #[.int .i64 x, .int .i64 y, .int .i64 z] 40)).alloc (.cells #[.bool false] 4)) from ((Below.refl _ _).alloc (Nat.le_refl _) _).alloc (by simp) _)
  have HQ := Lib.hid HQ0
  clear HQ0
  have c0 : ((w.alloc (.cells #[.int .i64 x, .int .i64 y, .int .i64 z] 40)).alloc (.cells #[.bool false] 4)).cell? ⟨w.heap.size + 1, 0, none⟩ = some (.bool false) := by go_simp
  have cf : ((w.alloc (.cells #[.int .i64 x, .int .i64 y, .int .i64 z] 40)).alloc (.cells #[.bool false] 4)).frozen? ⟨w.heap.size + 1, 0, none⟩ = false := by go_simp
  have HC0 := Lib.hid c0
  have HCF := Lib.hid cf
  clear c0 cf
  go_enter_defers Try.func39, Try.ntmps39
  go_wp2_with (go_at_call 21; (with_reducible refine HQ.out.mono ?_); rintro e w1 ⟨rfl, hb⟩; have HB := Lib.hid (HA.out.trans (hb.mono HA.out.size)); have hz := size2 hb; have c1 := ((bcell hb).1 _ _ (by simp)).trans HC0.out; have cf1 := ((bcell hb).2 _ _ (by simp)).trans HCF.out; clear hb)
  refine leaves_cons (f := 46) (args := #[.pointer (some ⟨w.heap.size + 1, 0, none⟩)]) (by simp) (by simp [go_sem]) ?_
  refine (tells_idle ⟨w.heap.size + 1, 0, none⟩ _).mono ?_
  rintro e u' w'' ⟨rfl, rfl, rfl⟩
  simp [Leaves, settle, results, Try.results39, go_sem, c1]
  exact HB.out.setCell (by simp) _


set_option maxRecDepth 100000 in
set_option maxHeartbeats 1600000 in
theorem tells_two (c : Addr) (b : Bool) (x y z : Int) (w : World) (HQ0 : Calls Try.prog 31 #[.agg #[.int .i64 x, .int .i64 y, .int .i64 z], .pointer (some c)] ((w.alloc (.cells #[.int .i64 x, .int .i64 y, .int .i64 z] 40)).alloc (.cells #[.bool false] 4)) fun e w' => e = .returned (.bool b) ∧ Below ((w.alloc (.cells #[.int .i64 x, .int .i64 y, .int .i64 z] 40)).alloc (.cells #[.bool false] 4)).heap.size ((w.alloc (.cells #[.int .i64 x, .int .i64 y, .int .i64 z] 40)).alloc (.cells #[.bool false] 4)) w') :
    Calls Try.prog 39 #[.func (.func 31) #[] #[.pointer (some c)], .agg #[.int .i64 x, .int .i64 y, .int .i64 z]] w fun e w' => e = .returned (.bool b) ∧ Below w.heap.size w w' := by
  have hmf : ∀ (fn : Fn) (first cap : Array Value) (w : World), (Instr.makeFunc fn first cap).run Try.prog w = .ok (.func fn first cap) w := fun _ _ _ _ => rfl
  have HA := Lib.hid (show Below w.heap.size w ((w.alloc (.cells #[.int .i64 x, .int .i64 y, .int .i64 z] 40)).alloc (.cells #[.bool false] 4)) from ((Below.refl _ _).alloc (Nat.le_refl _) _).alloc (by simp) _)
  have HQ := Lib.hid HQ0
  clear HQ0
  have c0 : ((w.alloc (.cells #[.int .i64 x, .int .i64 y, .int .i64 z] 40)).alloc (.cells #[.bool false] 4)).cell? ⟨w.heap.size + 1, 0, none⟩ = some (.bool false) := by go_simp
  have cf : ((w.alloc (.cells #[.int .i64 x, .int .i64 y, .int .i64 z] 40)).alloc (.cells #[.bool false] 4)).frozen? ⟨w.heap.size + 1, 0, none⟩ = false := by go_simp
  have HC0 := Lib.hid c0
  have HCF := Lib.hid cf
  clear c0 cf
  go_enter_defers Try.func39, Try.ntmps39
  go_wp2_with (go_at_call 31; (with_reducible refine HQ.out.mono ?_); rintro e w1 ⟨rfl, hb⟩; have HB := Lib.hid (HA.out.trans (hb.mono HA.out.size)); have hz := size2 hb; have c1 := ((bcell hb).1 _ _ (by simp)).trans HC0.out; have cf1 := ((bcell hb).2 _ _ (by simp)).trans HCF.out; clear hb)
  refine leaves_cons (f := 46) (args := #[.pointer (some ⟨w.heap.size + 1, 0, none⟩)]) (by simp) (by simp [go_sem]) ?_
  refine (tells_idle ⟨w.heap.size + 1, 0, none⟩ _).mono ?_
  rintro e u' w'' ⟨rfl, rfl, rfl⟩
  simp [Leaves, settle, results, Try.results39, go_sem, c1]
  exact HB.out.setCell (by simp) _

end Go.Proofs.Ytmaijjjhjkaoeaa
