/- What the library's stable sort does: swapRange, over the seat's program. -/
import Derived.Test.YtihpjfhibhpciaaWtO
namespace Go.Proofs.Ytihpjfhibhpciaa
open Go.ChangeShapes Go.WideShapes Go.ChangeAt Go.RowKit Go.Joins

/-- A row of the call's own, that is sorted in its place: what a sort's part returns. -/
def SortAt (w0 w : World) (g n cap : Nat) (f : Nat → Int) : Prop := OwnAt .i64 w w0.heap.size (some ⟨g, 0, none⟩) n cap f ∧ Below w0.heap.size w0 w
def SortRet (w0 : World) (g n cap : Nat) (f : Nat → Int) (e : Ending) (w' : World) : Prop := e = .returned (.tuple #[]) ∧ SortAt w0 w' g n cap f
/-- Two numbers that change places. -/
def swp (f : Nat → Int) (i j : Nat) : Nat → Int := fun k => if k = i then f j else if k = j then f i else f k
/-- 'm' numbers from 'a' and from 'b' on that change places. -/
def swpR (f : Nat → Int) (a b m : Nat) : Nat → Int := fun k => if a ≤ k ∧ k < a + m then f (k - a + b) else if b ≤ k ∧ k < b + m then f (k - b + a) else f k
theorem swpR_zero (f : Nat → Int) (a b : Nat) : swpR f a b 0 = f := by
  funext k
  unfold swpR
  rw [if_neg (by omega), if_neg (by omega)]
theorem swpR_succ (f : Nat → Int) (a b m : Nat) (h : a + (m + 1) ≤ b) : swp (swpR f a b m) (a + m) (b + m) = swpR f a b (m + 1) := by
  funext k
  unfold swp swpR
  by_cases h1 : k = a + m
  · subst h1
    rw [if_pos rfl, if_neg (by omega), if_neg (by omega), if_pos (by omega)]
    congr 1
    omega
  · rw [if_neg h1]
    by_cases h2 : k = b + m
    · subst h2
      rw [if_pos rfl, if_neg (by omega), if_neg (by omega), if_neg (by omega), if_pos (by omega)]
      congr 1
      omega
    · rw [if_neg h2]
      by_cases h3 : a ≤ k ∧ k < a + m
      · rw [if_pos h3, if_pos (by omega)]
      · by_cases h4 : b ≤ k ∧ k < b + m
        · rw [if_neg h3, if_pos h4, if_neg (show ¬ (a ≤ k ∧ k < a + (m + 1)) by omega), if_pos (show b ≤ k ∧ k < b + (m + 1) by omega)]
        · rw [if_neg h3, if_neg h4, if_neg (show ¬ (a ≤ k ∧ k < a + (m + 1)) by omega), if_neg (show ¬ (b ≤ k ∧ k < b + (m + 1)) by omega)]
section
variable {w0 w w' : World} {g n cap : Nat} {f h : Nat → Int}
theorem SortAt.own (s : SortAt w0 w g n cap f) : OwnAt .i64 w w0.heap.size (some ⟨g, 0, none⟩) n cap f := s.1
theorem SortAt.bel (s : SortAt w0 w g n cap f) : Below w0.heap.size w0 w := s.2
theorem SortAt.below (s : SortAt w0 w g n cap f) (hb : Below w.heap.size w w') : SortAt w0 w' g n cap f := ⟨s.1.below hb, s.2.trans (hb.mono s.2.size)⟩
theorem SortAt.same (s : SortAt w0 w g n cap f) (hf : ∀ i, i < n → f i = h i) : SortAt w0 w g n cap h := ⟨s.1.same hf, s.2⟩
theorem SortAt.lt (s : SortAt w0 w g n cap f) {k : Nat} (hk : k < n) : w0.heap.size ≤ g ∧ g < w.heap.size := by
  obtain ⟨b, hb, hs, _⟩ := s.1.get hk
  injection hb with hb
  injection hb with hb _ _
  subst hb
  exact hs
theorem SortAt.cell (s : SortAt w0 w g n cap f) {k : Nat} (hk : k < n) : w.cell? ⟨g, k, none⟩ = some (.int .i64 (f k)) := by
  obtain ⟨b, hb, _, hc⟩ := s.1.get hk
  injection hb with hb
  injection hb with hb _ _
  subst hb
  exact (hc k hk).1
theorem SortAt.soft (s : SortAt w0 w g n cap f) {k : Nat} (hk : k < n) : w.frozen? ⟨g, k, none⟩ = false := by
  obtain ⟨b, hb, _, hc⟩ := s.1.get hk
  injection hb with hb
  injection hb with hb _ _
  subst hb
  exact (hc k hk).2
theorem SortAt.swap (s : SortAt w0 w g n cap f) {i j : Nat} (hi : i < n) (hj : j < n) : SortAt w0 ((w.setCell ⟨g, i, none⟩ (.int .i64 (f j))).setCell ⟨g, j, none⟩ (.int .i64 (f i))) g n cap (swp f i j) := by
  have hlt := s.lt hi
  refine ⟨((s.1.set i hi (f j)).set j hj (f i)).same (fun k hk => ?_), (s.2.setCell (by simp; omega) _).setCell (by simp; omega) _⟩
  unfold updI swp
  by_cases e1 : k = j
  · subst e1
    rw [if_pos rfl]
    by_cases e2 : k = i
    · rw [if_pos e2, e2]
    · rw [if_neg e2, if_pos rfl]
  · rw [if_neg e1]
    by_cases e2 : k = i
    · rw [if_pos e2, if_pos e2]
    · rw [if_neg e2, if_neg e2, if_neg e1]
end

set_option maxRecDepth 100000 in
set_option maxHeartbeats 3200000 in
theorem swapRange_any (p g n cap a b m : Nat) (f : Nat → Int) (w0 w : World) (s : SortAt w0 w g n cap f) (h1 : a + m ≤ b) (h2 : b + m ≤ n) :
    Calls Try.prog 120 #[.slice (some ⟨g, 0, none⟩) n cap, .int .i64 a, .int .i64 b, .int .i64 m, .func (.func 65) #[] #[.pointer (some ⟨p, 0, none⟩)]] w (SortRet w0 g n cap (swpR f a b m)) := by
  have hn := s.1.1
  have HS := Lib.hid s
  clear s
  go_enter Try.func120, Try.ntmps120
  go_wp2
  go_loopw [10] (fun i wr => ∃ k : Nat, k ≤ m ∧ i = .int .i64 k ∧ SortAt w0 wr g n cap (swpR f a b k)) (fun i _ => m - (intOf i).toNat)
  case atStart => exact ⟨0, Nat.zero_le _, rfl, by rw [swpR_zero]; exact HS.out⟩
  case round =>
    obtain ⟨k, hk, rfl, hs⟩ := hrel
    have HR := Lib.hid hs
    clear hs
    by_cases hlt : k < m
    · have x0 := HR.out.cell (k := a + k) (by omega)
      have x1 := HR.out.cell (k := b + k) (by omega)
      have y0 := HR.out.soft (k := a + k) (by omega)
      have y1 := HR.out.soft (k := b + k) (by omega)
      have i0 : (0 : Int) ≤ (a : Int) + (k : Int) := by omega
      have i1 : (a : Int) + (k : Int) < (n : Int) := by omega
      have j0 : (0 : Int) ≤ (b : Int) + (k : Int) := by omega
      have j1 : (b : Int) + (k : Int) < (n : Int) := by omega
      have ne1 : a + k ≠ b + k := by omega
      have HN := Lib.hid (fun q : Nat => (HR.out.below (below_drewN (Below.refl wr.heap.size wr) q)).swap (i := a + k) (j := b + k) (by omega) (by omega))
      go_wp2
      go_region
      all_goals go_wp2
      go_roundw
      case rel => exact ⟨k + 1, by omega, by go_num, by rw [← swpR_succ f a b k (by omega)]; exact HN.out _⟩
      case measure => simp [intOf]; omega
    · obtain rfl : k = m := by omega
      go_wp2
      go_end0
      exact ⟨rfl, HR.out⟩
end Go.Proofs.Ytihpjfhibhpciaa
