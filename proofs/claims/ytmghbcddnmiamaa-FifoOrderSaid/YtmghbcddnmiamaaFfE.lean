/- Boxes of cells and of results. -/
import Derived.Test.YtmghbcddnmiamaaFfD
import Derived.Deep.Cut
import Derived.Deep.RegionHeld3
namespace Go.Proofs.Ytmghbcddnmiamaa
open Go.ChangeShapes Go.WideShapes Go.ChangeAt Go.RowKit Go.Joins

theorem cell_set_ne {w : World} {p q i j : Nat} {x : Value} (h : p ≠ q ∨ i ≠ j) : (w.setCell ⟨p, i, none⟩ x).cell? ⟨q, j, none⟩ = w.cell? ⟨q, j, none⟩ :=
  World.cell?_setCell_other _ _ _ _ (fun e => by
    injection e with e1 e2
    rcases h with h | h
    · exact h e1
    · exact h e2)
/-- Three cells that may be written. -/
def Box3 (w : World) (p : Nat) (a b c : Value) : Prop :=
  w.cell? ⟨p, 0, none⟩ = some a ∧ w.cell? ⟨p, 1, none⟩ = some b ∧ w.cell? ⟨p, 2, none⟩ = some c ∧ ∀ i, w.frozen? ⟨p, i, none⟩ = false
def store3 (w : World) (p : Nat) (a b c : Value) : World := ((w.setCell ⟨p, 0, none⟩ a).setCell ⟨p, 1, none⟩ b).setCell ⟨p, 2, none⟩ c
/-- Four cells that may be written. -/
def Box4 (w : World) (p : Nat) (a b c d : Value) : Prop :=
  w.cell? ⟨p, 0, none⟩ = some a ∧ w.cell? ⟨p, 1, none⟩ = some b ∧ w.cell? ⟨p, 2, none⟩ = some c ∧ w.cell? ⟨p, 3, none⟩ = some d ∧ ∀ i, w.frozen? ⟨p, i, none⟩ = false
section
variable {w w' : World} {p q : Nat} {a b c d a' b' c' d' : Value}
theorem Box3.below (h : Box3 w p a b c) (hp : p < w.heap.size) (hb : Below w.heap.size w w') : Box3 w' p a b c := by
  obtain ⟨h0, h1, h2, hf⟩ := h
  obtain ⟨hc, hg⟩ := bcell hb
  exact ⟨(hc _ _ hp).trans h0, (hc _ _ hp).trans h1, (hc _ _ hp).trans h2, fun i => (hg _ _ hp).trans (hf i)⟩
theorem Box3.grown (h : Box3 w p a b c) {r : Option Nat} (hg : w.grownBy w' r) (hp : p < w.heap.size) (hr : some p ≠ r) : Box3 w' p a b c := by
  obtain ⟨h0, h1, h2, hf⟩ := h
  exact ⟨(hg.cell_far ⟨p, 0, none⟩ hp hr).trans h0, (hg.cell_far ⟨p, 1, none⟩ hp hr).trans h1, (hg.cell_far ⟨p, 2, none⟩ hp hr).trans h2, fun i => (hg.frozen_far ⟨p, i, none⟩ hp hr).trans (hf i)⟩
theorem Box3.store (h : Box3 w p a b c) (a' b' c' : Value) : Box3 (store3 w p a' b' c') p a' b' c' := by
  obtain ⟨h0, h1, h2, hf⟩ := h
  unfold store3
  refine ⟨?_, ?_, ?_, fun i => by simpa using hf i⟩
  · rw [cell_set_ne (.inr (by decide)), cell_set_ne (.inr (by decide))]
    exact World.cell?_setCell_same _ _ _ h0
  · rw [cell_set_ne (.inr (by decide))]
    exact World.cell?_setCell_same _ _ _ (by rw [cell_set_ne (.inr (by decide))]; exact h1)
  · exact World.cell?_setCell_same _ _ _ (by rw [cell_set_ne (.inr (by decide)), cell_set_ne (.inr (by decide))]; exact h2)
theorem Box3.set1 (h : Box3 w p a b c) (x : Value) : Box3 (w.setCell ⟨p, 1, none⟩ x) p a x c := by
  obtain ⟨h0, h1, h2, hf⟩ := h
  exact ⟨by rw [cell_set_ne (.inr (by decide))]; exact h0, World.cell?_setCell_same _ _ _ h1, by rw [cell_set_ne (.inr (by decide))]; exact h2, fun i => by simpa using hf i⟩
theorem Box3.set_far (h : Box3 w q a b c) {i : Nat} {x : Value} (hne : p ≠ q) : Box3 (w.setCell ⟨p, i, none⟩ x) q a b c := by
  obtain ⟨h0, h1, h2, hf⟩ := h
  exact ⟨by rw [cell_set_ne (.inl hne)]; exact h0, by rw [cell_set_ne (.inl hne)]; exact h1, by rw [cell_set_ne (.inl hne)]; exact h2, fun i => by simpa using hf i⟩
theorem Box3.new (w : World) (t : TypeId) : Box3 (w.alloc (.cells #[a, b, c] t)) w.heap.size a b c := by
  refine ⟨?_, ?_, ?_, fun i => frozen_of_row _ _ _ _ t (heap_alloc_new w _)⟩ <;> (rw [cell_of_row _ _ _ _ t (0, 0) (heap_alloc_new w _)]; rfl)
theorem Box3.new_drew (w : World) (t : TypeId) : Box3 (w.alloc (.cells #[a, b, c] t)).drew w.heap.size a b c := Box3.new w t
theorem Box3.alloc (h : Box3 w p a b c) (hp : p < w.heap.size) (o : Go.Obj) : Box3 (w.alloc o) p a b c := h.below hp ((Below.refl _ _).alloc (Nat.le_refl _) _)
theorem Box4.below (h : Box4 w p a b c d) (hp : p < w.heap.size) (hb : Below w.heap.size w w') : Box4 w' p a b c d := by
  obtain ⟨h0, h1, h2, h3, hf⟩ := h
  obtain ⟨hc, hg⟩ := bcell hb
  exact ⟨(hc _ _ hp).trans h0, (hc _ _ hp).trans h1, (hc _ _ hp).trans h2, (hc _ _ hp).trans h3, fun i => (hg _ _ hp).trans (hf i)⟩
theorem Box4.grown (h : Box4 w p a b c d) {r : Option Nat} (hg : w.grownBy w' r) (hp : p < w.heap.size) (hr : some p ≠ r) : Box4 w' p a b c d := by
  obtain ⟨h0, h1, h2, h3, hf⟩ := h
  exact ⟨(hg.cell_far ⟨p, 0, none⟩ hp hr).trans h0, (hg.cell_far ⟨p, 1, none⟩ hp hr).trans h1, (hg.cell_far ⟨p, 2, none⟩ hp hr).trans h2, (hg.cell_far ⟨p, 3, none⟩ hp hr).trans h3, fun i => (hg.frozen_far ⟨p, i, none⟩ hp hr).trans (hf i)⟩
theorem Box4.new (w : World) (t : TypeId) : Box4 (w.alloc (.cells #[a, b, c, d] t)) w.heap.size a b c d := by
  refine ⟨?_, ?_, ?_, ?_, fun i => frozen_of_row _ _ _ _ t (heap_alloc_new w _)⟩ <;> (rw [cell_of_row _ _ _ _ t (0, 0) (heap_alloc_new w _)]; rfl)
theorem Box4.set3 (h : Box4 w p a b c d) (x : Value) : Box4 (w.setCell ⟨p, 3, none⟩ x) p a b c x := by
  obtain ⟨h0, h1, h2, h3, hf⟩ := h
  exact ⟨by rw [cell_set_ne (.inr (by decide))]; exact h0, by rw [cell_set_ne (.inr (by decide))]; exact h1, by rw [cell_set_ne (.inr (by decide))]; exact h2, World.cell?_setCell_same _ _ _ h3, fun i => by simpa using hf i⟩
theorem Box4.set2 (h : Box4 w p a b c d) (x : Value) : Box4 (w.setCell ⟨p, 2, none⟩ x) p a b x d := by
  obtain ⟨h0, h1, h2, h3, hf⟩ := h
  exact ⟨by rw [cell_set_ne (.inr (by decide))]; exact h0, by rw [cell_set_ne (.inr (by decide))]; exact h1, World.cell?_setCell_same _ _ _ h2, by rw [cell_set_ne (.inr (by decide))]; exact h3, fun i => by simpa using hf i⟩
theorem Box4.set_far (h : Box4 w q a b c d) {i : Nat} {x : Value} (hne : p ≠ q) : Box4 (w.setCell ⟨p, i, none⟩ x) q a b c d := by
  obtain ⟨h0, h1, h2, h3, hf⟩ := h
  exact ⟨by rw [cell_set_ne (.inl hne)]; exact h0, by rw [cell_set_ne (.inl hne)]; exact h1, by rw [cell_set_ne (.inl hne)]; exact h2, by rw [cell_set_ne (.inl hne)]; exact h3, fun i => by simpa using hf i⟩
theorem store3_size : (store3 w p a b c).heap.size = w.heap.size := by simp [store3]
theorem store3_below {B : Nat} {o : World} (h : Below B o w) (hp : B ≤ p) : Below B o (store3 w p a b c) := ((h.setCell hp _).setCell hp _).setCell hp _
end
/-- A row of the call's own is kept by a store into another block. -/
theorem own_set {w : World} {B E s n : Nat} {v : Value} {xs : List Value} (h : w.ownsRow B E s v n xs) {p i : Nat} {x : Value} (hne : v.ownBlock ≠ some p) : (w.setCell ⟨p, i, none⟩ x).ownsRow B E s v n xs := by
  rcases h.2 with ⟨rfl, rfl⟩ | ⟨g, cap, cur, rfl, hb, hg, r⟩
  · have h1 := h.1
    refine ⟨h1, .inl ⟨rfl, rfl⟩⟩
  · refine ⟨h.1, .inr ⟨g, cap, cur, rfl, hb, ?_, r⟩⟩
    rw [Below.heap_setCell _ _ _ _ (fun e => hne (by simp only [Value.ownBlock] at *; rw [e]))]
    exact hg
theorem own_store3 {w : World} {B E s n : Nat} {v : Value} {xs : List Value} (h : w.ownsRow B E s v n xs) {p : Nat} {a b c : Value} (hne : v.ownBlock ≠ some p) : (store3 w p a b c).ownsRow B E s v n xs :=
  own_set (own_set (own_set h hne) hne) hne
end Go.Proofs.Ytmghbcddnmiamaa
