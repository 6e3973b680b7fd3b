/- Contracts of New and of the reference's, over the seat's program. -/
import Derived.Test.YtdfbddepeacebaaRtF
namespace Go.Proofs.Ytdfbddepeacebaa
open Go.ChangeShapes Go.WideShapes Go.ChangeAt Go.RowKit Go.Joins

theorem Box.set2 {w : World} {p : Nat} {a b c d e : Value} (h : Box w p a b c d e) (x : Value) : Box (w.setCell ⟨p, 2, none⟩ x) p a b x d e := by
  obtain ⟨h0, h1, h2, h3, h4, hf⟩ := h
  exact ⟨by rw [cell_set_ne (.inr (by decide))]; exact h0, by rw [cell_set_ne (.inr (by decide))]; exact h1, World.cell?_setCell_same _ _ _ h2, by rw [cell_set_ne (.inr (by decide))]; exact h3, by rw [cell_set_ne (.inr (by decide))]; exact h4, fun i => by simpa using hf i⟩
theorem own_nil {v : Value} : v.ownBlock = none ∨ v.ownBlock ≠ (Value.slice none 0 0).ownBlock := by
  cases hv : v.ownBlock with
  | none => exact .inl rfl
  | some k => exact .inr (fun e => by cases e)
end Go.Proofs.Ytdfbddepeacebaa
