/- Contracts of Away and of the reference's, over the seat's program. -/
import Derived.Test.YtdfbddepeacebaaRtE
import Derived.OneCell
namespace Go.Proofs.Ytdfbddepeacebaa
open Go.ChangeShapes Go.WideShapes Go.ChangeAt Go.RowKit Go.Joins

theorem size3 {w w1 : World} {o p q : Go.Obj} (hb : Below (((w.alloc o).alloc p).alloc q).heap.size (((w.alloc o).alloc p).alloc q) w1) : w.heap.size + 2 < w1.heap.size := by
  have h := hb.size
  simp at h
  omega
theorem Box.grown {w w' : World} {q : Nat} {a b c d e : Value} {row : Option Nat} (h : Box w q a b c d e) (hg : w.grownBy w' row) (hq : q < w.heap.size) (hne : some q ≠ row) : Box w' q a b c d e := by
  obtain ⟨h0, h1, h2, h3, h4, hf⟩ := h
  have hc : ∀ i, w'.cell? ⟨q, i, none⟩ = w.cell? ⟨q, i, none⟩ := fun i => hg.cell_far ⟨q, i, none⟩ hq hne
  exact ⟨(hc 0).trans h0, (hc 1).trans h1, (hc 2).trans h2, (hc 3).trans h3, (hc 4).trans h4, fun i => (hg.frozen_far ⟨q, i, none⟩ hq hne).trans (hf i)⟩
/-- A pool into which a node is put away. -/
def PV.away (P : PV) (ri rt st : Int) : PV := ⟨P.i, P.t, P.nf, P.ff, P.no + 1, fun i j => if i = P.no then (if j = 0 then ri else if j = 1 then rt else st) else P.fo i j, P.s⟩
theorem flat_away (fo : Nat → Nat → Int) (n : Nat) (ri rt st : Int) : flatL 3 (fun i j => if i = n then (if j = 0 then ri else if j = 1 then rt else st) else fo i j) (n + 1) = flatL 3 fo n ++ [.int .i64 ri, .int .i64 rt, .int .i64 st] := by
  rw [flat3_succ, flatL_same (g := fo) (fun i j hi _ => by rw [if_neg (by omega)])]
  simp
theorem own_app {w : World} {B E s n : Nat} {v v' : Value} {xs : List Value} {gg : Nat} {cap' m : Nat} (h : w.ownsRow B E s v n xs) (hN : v.ownBlock = none ∨ v.ownBlock ≠ v'.ownBlock) (hat : v'.ownBlock = some gg ∨ gg = w.heap.size + 1) : v.ownBlock = none ∨ v.ownBlock ≠ (Value.slice (some ⟨gg, 0, none⟩) m cap').ownBlock := by
  cases hv : v.ownBlock with
  | none => exact .inl rfl
  | some k =>
    right
    have hk := (h.lt k hv).2
    rw [hv] at hN
    intro e
    have e : k = gg := by simpa [Value.ownBlock] using e
    rcases hat with h1 | h1
    · rcases hN with h2 | h2
      · cases h2
      · exact h2 (by rw [h1, e])
    · omega

theorem own_away {w : World} {B gg cap' : Nat} {P : PV} {ri rt st : Int} (h : w.ownsRow B 44 3 (.slice (some ⟨gg, 0, none⟩) (P.no + 1) cap') (P.no + 1) (flatL 3 P.fo P.no ++ [.int .i64 ri, .int .i64 rt, .int .i64 st])) :
    w.ownsRow B 44 3 (.slice (some ⟨gg, 0, none⟩) (P.no + 1) cap') (P.away ri rt st).no (flatL 3 (P.away ri rt st).fo (P.away ri rt st).no) := by
  show w.ownsRow B 44 3 _ (P.no + 1) (flatL 3 (fun i j => if i = P.no then (if j = 0 then ri else if j = 1 then rt else st) else P.fo i j) (P.no + 1))
  rw [flat_away]
  exact h
theorem size_grown {w w' : World} {o : Go.Obj} {row : Option Nat} (h : (w.alloc o).grownBy w' row) : w.heap.size + 1 ≤ w'.heap.size := by
  have := h.size
  simp at this
  omega
theorem set_below_own {w : World} {B p i E s n : Nat} {v x : Value} {xs : List Value} (h : w.ownsRow B E s v n xs) (hp : p < B) : (w.setCell ⟨p, i, none⟩ x).ownsRow B E s v n xs := ownsRow_setCell_below h hp _

theorem own_not_q {ov : Value} {gg n q m cap' : Nat} (hat : ov.ownBlock = some gg ∨ gg = n + 1) (hq : ov.ownBlock ≠ some q) (hn : q < n) : (Value.slice (some ⟨gg, 0, none⟩) m cap').ownBlock ≠ some q := by
  intro e
  have e : gg = q := by simpa [Value.ownBlock] using e
  rcases hat with h | h
  · exact hq (by rw [h, e])
  · omega

end Go.Proofs.Ytdfbddepeacebaa
