/- The contract of Take over the seat's program. -/
import Derived.Test.YtdfbddepeacebaaRtH
import Derived.Test.YtdfbddepeacebaaRtN
import Derived.Deep.LoopGhost
namespace Go.Proofs.Ytdfbddepeacebaa
open Go.ChangeShapes Go.WideShapes Go.ChangeAt Go.RowKit Go.Joins

theorem Box.set0 {w : World} {p : Nat} {a b c d e : Value} (h : Box w p a b c d e) (x : Value) : Box (w.setCell ⟨p, 0, none⟩ x) p x b c d e := by
  obtain ⟨h0, h1, h2, h3, h4, hf⟩ := h
  exact ⟨World.cell?_setCell_same _ _ _ h0, by rw [cell_set_ne (.inr (by decide))]; exact h1, by rw [cell_set_ne (.inr (by decide))]; exact h2, by rw [cell_set_ne (.inr (by decide))]; exact h3, by rw [cell_set_ne (.inr (by decide))]; exact h4, fun i => by simpa using hf i⟩
theorem Box.set1 {w : World} {p : Nat} {a b c d e : Value} (h : Box w p a b c d e) (x : Value) : Box (w.setCell ⟨p, 1, none⟩ x) p a x c d e := by
  obtain ⟨h0, h1, h2, h3, h4, hf⟩ := h
  exact ⟨by rw [cell_set_ne (.inr (by decide))]; exact h0, World.cell?_setCell_same _ _ _ h1, by rw [cell_set_ne (.inr (by decide))]; exact h2, by rw [cell_set_ne (.inr (by decide))]; exact h3, by rw [cell_set_ne (.inr (by decide))]; exact h4, fun i => by simpa using hf i⟩
theorem Box.set4 {w : World} {p : Nat} {a b c d e : Value} (h : Box w p a b c d e) (x : Value) : Box (w.setCell ⟨p, 4, none⟩ x) p a b c d x := by
  obtain ⟨h0, h1, h2, h3, h4, hf⟩ := h
  exact ⟨by rw [cell_set_ne (.inr (by decide))]; exact h0, by rw [cell_set_ne (.inr (by decide))]; exact h1, by rw [cell_set_ne (.inr (by decide))]; exact h2, by rw [cell_set_ne (.inr (by decide))]; exact h3, World.cell?_setCell_same _ _ _ h4, fun i => by simpa using hf i⟩
theorem Box.alloc {w : World} {p : Nat} {a b c d e : Value} (h : Box w p a b c d e) (hp : p < w.heap.size) (o : Go.Obj) : Box (w.alloc o) p a b c d e := h.below hp ((Below.refl _ _).alloc (Nat.le_refl _) _)
theorem RowS.alloc {s : Nat} {w : World} {a : Option Addr} {n cap : Nat} {f : Nat → Nat → Int} (h : RowS s w a n cap f) (o : Go.Obj) : RowS s (w.alloc o) a n cap f := h.below ((Below.refl _ _).alloc (Nat.le_refl _) _)
theorem set_size {w : World} {a : Addr} {x : Value} : (w.setCell a x).heap.size = w.heap.size := by simp
def InR (n : Nat) (ff : Nat → Nat → Int) : Prop := ∀ i, i < n → -9223372036854775808 ≤ ff i 1
theorem InR.next {n : Nat} {ff : Nat → Nat → Int} (h : InR (n + 1) ff) : InR n (fun i j => ff (i + 1) j) := fun i hi => h (i + 1) (by omega)

/-- The row lies in block 'B' or behind it. -/
def Far (a : Option Addr) (B : Nat) : Prop := ∀ b off, a = some ⟨b, off, none⟩ → B ≤ b
theorem Far.shift {b off k B : Nat} (h : Far (some ⟨b, off, none⟩) B) : Far (some ⟨b, off + k, none⟩) B := by
  intro b' off' e
  injection e with e
  injection e with e1 e2 _
  exact e1 ▸ h b off rfl
theorem Far.mono {a : Option Addr} {B B' : Nat} (h : Far a B) (hb : B' ≤ B) : Far a B' := fun b off e => Nat.le_trans hb (h b off e)
theorem own_far {w : World} {B E s n cap : Nat} {a : Option Addr} {xs : List Value} (h : w.ownsRow B E s (.slice a n cap) n xs) : Far a B := by
  intro b off e
  subst e
  exact (h.lt b rfl).1
theorem RowS.set_far {s : Nat} {w : World} {a : Option Addr} {n cap p i B : Nat} {f : Nat → Nat → Int} {x : Value} (h : RowS s w a n cap f) (hf : Far a B) (hp : p < B) : RowS s (w.setCell ⟨p, i, none⟩ x) a n cap f := by
  refine ⟨h.1, h.2.1, h.2.2.1, fun h0 => ?_⟩
  obtain ⟨b, off, ha, hb, hc⟩ := h.2.2.2 h0
  have := hf b off ha
  exact ⟨b, off, ha, by simpa using hb, fun i j hi hj => by rw [cell_set_ne (.inl (by omega))]; exact hc i j hi hj⟩
theorem RowS.store5 {s : Nat} {w : World} {a : Option Addr} {n cap p B : Nat} {f : Nat → Nat → Int} {x0 x1 x2 x3 x4 : Value} (h : RowS s w a n cap f) (hf : Far a B) (hp : p < B) : RowS s (store5 w p x0 x1 x2 x3 x4) a n cap f :=
  ((((h.set_far hf hp).set_far hf hp).set_far hf hp).set_far hf hp).set_far hf hp
end Go.Proofs.Ytdfbddepeacebaa
