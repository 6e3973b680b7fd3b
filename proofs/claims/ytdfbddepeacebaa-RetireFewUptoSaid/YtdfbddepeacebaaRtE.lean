/- Boxes that hold a pool; the contracts of Leave and of the reference's, over the seat's program. -/
import Derived.Test.YtdfbddepeacebaaPlC
import Derived.Deep.Cut
namespace Go.Proofs.Ytdfbddepeacebaa
open Go.ChangeShapes Go.WideShapes Go.ChangeAt Go.RowKit Go.Joins

theorem size1 {w w1 : World} {o : Go.Obj} (hb : Below (w.alloc o).heap.size (w.alloc o) w1) : w.heap.size < w1.heap.size := by
  have h := hb.size
  simp at h
  omega
theorem size2 {w w1 : World} {o p : Go.Obj} (hb : Below ((w.alloc o).alloc p).heap.size ((w.alloc o).alloc p) w1) : w.heap.size + 1 < w1.heap.size := by
  have h := hb.size
  simp at h
  omega
/-- Five cells that hold a pool, and may be written. -/
def Box (w : World) (p : Nat) (a b c d e : Value) : Prop :=
  w.cell? ⟨p, 0, none⟩ = some a ∧ w.cell? ⟨p, 1, none⟩ = some b ∧ w.cell? ⟨p, 2, none⟩ = some c ∧ w.cell? ⟨p, 3, none⟩ = some d ∧ w.cell? ⟨p, 4, none⟩ = some e ∧ ∀ i, w.frozen? ⟨p, i, none⟩ = false
/-- Five stores, one behind the other. -/
def store5 (w : World) (p : Nat) (a b c d e : Value) : World := ((((w.setCell ⟨p, 0, none⟩ a).setCell ⟨p, 1, none⟩ b).setCell ⟨p, 2, none⟩ c).setCell ⟨p, 3, none⟩ d).setCell ⟨p, 4, none⟩ e
section
variable {w w' : World} {p q : Nat} {a b c d e a' b' c' d' e' : Value}
theorem Box.below (h : Box w p a b c d e) (hp : p < w.heap.size) (hb : Below w.heap.size w w') : Box w' p a b c d e := by
  obtain ⟨h0, h1, h2, h3, h4, hf⟩ := h
  obtain ⟨hc, hg⟩ := bcell hb
  exact ⟨(hc _ _ hp).trans h0, (hc _ _ hp).trans h1, (hc _ _ hp).trans h2, (hc _ _ hp).trans h3, (hc _ _ hp).trans h4, fun i => (hg _ _ hp).trans (hf i)⟩
theorem cell_set_ne {w : World} {p q i j : Nat} {x : Value} (h : p ≠ q ∨ i ≠ j) : (w.setCell ⟨p, i, none⟩ x).cell? ⟨q, j, none⟩ = w.cell? ⟨q, j, none⟩ :=
  World.cell?_setCell_other _ _ _ _ (fun e => by
    injection e with e1 e2
    rcases h with h | h
    · exact h e1
    · exact h e2)
theorem Box.store (h : Box w p a b c d e) (a' b' c' d' e' : Value) : Box (store5 w p a' b' c' d' e') p a' b' c' d' e' := by
  obtain ⟨h0, h1, h2, h3, h4, hf⟩ := h
  unfold store5
  refine ⟨?_, ?_, ?_, ?_, ?_, fun i => by simpa using hf i⟩
  · rw [cell_set_ne (.inr (by decide)), cell_set_ne (.inr (by decide)), cell_set_ne (.inr (by decide)), cell_set_ne (.inr (by decide))]
    exact World.cell?_setCell_same _ _ _ h0
  · rw [cell_set_ne (.inr (by decide)), cell_set_ne (.inr (by decide)), cell_set_ne (.inr (by decide))]
    exact World.cell?_setCell_same _ _ _ (by rw [cell_set_ne (.inr (by decide))]; exact h1)
  · rw [cell_set_ne (.inr (by decide)), cell_set_ne (.inr (by decide))]
    exact World.cell?_setCell_same _ _ _ (by rw [cell_set_ne (.inr (by decide)), cell_set_ne (.inr (by decide))]; exact h2)
  · rw [cell_set_ne (.inr (by decide))]
    exact World.cell?_setCell_same _ _ _ (by rw [cell_set_ne (.inr (by decide)), cell_set_ne (.inr (by decide)), cell_set_ne (.inr (by decide))]; exact h3)
  · exact World.cell?_setCell_same _ _ _ (by rw [cell_set_ne (.inr (by decide)), cell_set_ne (.inr (by decide)), cell_set_ne (.inr (by decide)), cell_set_ne (.inr (by decide))]; exact h4)
theorem Box.set_far (h : Box w q a b c d e) {i : Nat} {x : Value} (hne : p ≠ q) : Box (w.setCell ⟨p, i, none⟩ x) q a b c d e := by
  obtain ⟨h0, h1, h2, h3, h4, hf⟩ := h
  exact ⟨by rw [cell_set_ne (.inl hne)]; exact h0, by rw [cell_set_ne (.inl hne)]; exact h1, by rw [cell_set_ne (.inl hne)]; exact h2, by rw [cell_set_ne (.inl hne)]; exact h3, by rw [cell_set_ne (.inl hne)]; exact h4, fun i => by simpa using hf i⟩
theorem Box.far (h : Box w q a b c d e) (hne : p ≠ q) : Box (store5 w p a' b' c' d' e') q a b c d e := (((((h.set_far hne).set_far hne).set_far hne).set_far hne).set_far hne)
theorem Box.new (w : World) (t : TypeId) : Box (w.alloc (.cells #[a, b, c, d, e] t)) w.heap.size a b c d e := by
  refine ⟨?_, ?_, ?_, ?_, ?_, fun i => frozen_of_row _ _ _ _ t (heap_alloc_new w _)⟩ <;> (rw [cell_of_row _ _ _ _ t (0, 0) (heap_alloc_new w _)]; rfl)
theorem store5_size : (store5 w p a b c d e).heap.size = w.heap.size := by simp [store5]
theorem store5_below {B : Nat} {o : World} (h : Below B o w) (hp : B ≤ p) : Below B o (store5 w p a b c d e) := ((((h.setCell hp _).setCell hp _).setCell hp _).setCell hp _).setCell hp _
theorem store5_own {B E s n : Nat} {v : Value} {xs : List Value} (h : w.ownsRow B E s v n xs) (hp : p < B) : (store5 w p a b c d e).ownsRow B E s v n xs :=
  ownsRow_setCell_below (ownsRow_setCell_below (ownsRow_setCell_below (ownsRow_setCell_below (ownsRow_setCell_below h hp _) hp _) hp _) hp _) hp _
end
/-- A pool whose node is somebody else's. -/
def PV.leave (P : PV) : PV := ⟨0, 0, P.nf, P.ff, P.no, P.fo, P.s⟩

end Go.Proofs.Ytdfbddepeacebaa
