/- What is appended, one number a time, to a row of the call's own. -/
import Derived.Test.YtmaijjjhjkaoeaaOwn
namespace Go.Proofs.Ytmaijjjhjkaoeaa
open Go.ChangeShapes Go.WideShapes Go.ChangeAt Go.RowKit Go.Joins

/-- A row of the call's own, of 'n' numbers. -/
def RetNums (K : IntKind) (E B n : Nat) (f : Nat → Int) (w : World) (e : Ending) (w' : World) : Prop := ∃ v, e = .returned v ∧ w'.ownsRow B E 1 v n (rowL K f n) ∧ Below B w w'
theorem rowL_same {K : IntKind} {f g : Nat → Int} {n : Nat} (h : ∀ i, i < n → f i = g i) : rowL K f n = rowL K g n := by
  unfold rowL
  apply List.map_congr_left
  intro i hi
  rw [h i (by simpa using hi)]
/-- 'append' of one number that lies in a new block. -/
theorem app_one {K : IntKind} {ops : Array Oper} {rest : List Oper} {o : Oper} {a : Act} {Q : Exit → Act → World → Prop} {W : World} (B E T : Nat) (hgd : o.guard = none) (s x : Operand)
    (ho : o.op = .call { callee := .builtin .append, args := #[s, x], argTypes := #[T, T] }) (hT : Try.prog.underlying T = some (.slice E)) (hE : (Try.prog.info? E).map (fun i => (i.zero, i.size, i.bytes)) = some (some (.int K 0), 1, 8))
    (v : Value) (n : Nat) (f : Nat → Int) (X : Int) (hX : X = f n) (hs : a.eval s = v) (hown : W.ownsRow B E 1 v n (rowL K f n)) (H : Nat) (hH : W.heap.size = H) (hx : a.eval x = .slice (some ⟨H, 0, none⟩) 1 1)
    (hn : (n + 1) * 8 ≤ 140737488355328) (hB : B ≤ W.heap.size)
    (h : ∀ g cap w', w'.ownsRow B E 1 (.slice (some ⟨g, 0, none⟩) (n + 1) cap) (n + 1) (rowL K f (n + 1)) → W.grownBy w' v.ownBlock → (v.ownBlock = some g ∨ W.heap.size ≤ g) → W.heap.size < w'.heap.size → wpList Try.prog ops Q rest (a.put o.dst (.slice (some ⟨g, 0, none⟩) (n + 1) cap)) w') :
    wpList Try.prog ops Q (o :: rest) a (W.alloc (.cells #[.int K X] E)) := by
  subst hH
  obtain ⟨i, hi, hz, hz1, hz2⟩ := info_parts hE
  refine wpList_append_lies _ hgd s x T ho B E i _ 1 8 hT hi hz hz1 hz2 rfl (by omega) v n (rowL K f n) hs (hown.alloc _) ⟨W.heap.size, 0, none⟩ 1 1 [.int K X] hx rfl (World.news_of_block (cs := #[.int K X]) (t := E) (fr := (0, 0)) (heap_alloc_new W _)) (by simp [Value.oneCell']) (by omega) (by unfold maxLen; omega) hn (by simp; omega) (W.heap.size + 1) (by simp) ?_
  intro g cap w' ho' hg hat hl
  have hg4 : W.grownBy w' v.ownBlock := (World.grownBy_alloc W _ _).trans hg
  have hsz := hg.size
  simp at hsz
  exact h g cap w' (by rw [rowL_succ, ← hX]; exact ho') hg4 (hat.imp id (fun h => by omega)) (by omega)
end Go.Proofs.Ytmaijjjhjkaoeaa
