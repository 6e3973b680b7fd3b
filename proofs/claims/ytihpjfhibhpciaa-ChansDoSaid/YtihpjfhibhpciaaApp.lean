/- What is appended, one number a time, to a row of the call's own. -/
import Derived.Test.YtihpjfhibhpciaaOwn
namespace Go.Proofs.Ytihpjfhibhpciaa
open Go.ChangeShapes Go.WideShapes Go.ChangeAt Go.RowKit Go.Joins

/-- A row of the call's own, of 'n' numbers. -/
def RetNums (K : IntKind) (E B n : Nat) (f : Nat → Int) (w : World) (e : Ending) (w' : World) : Prop := ∃ v, e = .returned v ∧ w'.ownsRow B E 1 v n (rowL K f n) ∧ Below B w w'
theorem rowL_same {K : IntKind} {f g : Nat → Int} {n : Nat} (h : ∀ i, i < n → f i = g i) : rowL K f n = rowL K g n := by
  unfold rowL
  apply List.map_congr_left
  intro i hi
  rw [h i (by simpa using hi)]
/-- 'append' of one number that lies in a new block. -/
theorem app_one {K : IntKind} {ops : Array Oper} {rest : List Oper} {o : Oper} {a : Act} {Q : Exit → Act → World → Prop} {W : World} (B E T : Nat) (hgd : o.guard = none) (s x : Operand)
    (ho : o.op = .call { callee := .builtin .append, args := #[s, x], argTypes := #[T, T] }) (hT : Try.prog.underlying T = some (.slice E)) (hE : (Try.prog.info? E).map (fun i => (i.zero, i.size, i.bytes)) = some (some (.int K 0), 1, 8))
    (v : Value) (n : Nat) (f : Nat → Int) (X : Int) (hX : X = f n) (hs : a.eval s = v) (hown : W.ownsRow B E 1 v n (rowL K f n)) (H : Nat) (hH : W.heap.size = H) (hx : a.eval x = .slice (some ⟨H, 0, none⟩) 1 1)
    (hn : (n + 1) * 8 ≤ 140737488355328) (hB : B ≤ W.heap.size)
    (h : ∀ g cap w', w'.ownsRow B E 1 (.slice (some ⟨g, 0, none⟩) (n + 1) cap) (n + 1) (rowL K f (n + 1)) → W.grownBy w' v.ownBlock → (v.ownBlock = some g ∨ W.heap.size ≤ g) → W.heap.size < w'.heap.size → wpList Try.prog ops Q rest (a.put o.dst (.slice (some ⟨g, 0, none⟩) (n + 1) cap)) w') :
    wpList Try.prog ops Q (o :: rest) a (W.alloc (.cells #[.int K X] E)) := by
  subst hH
  obtain ⟨i, hi, hz, hz1, hz2⟩ := info_parts hE
  refine wpList_append_lies _ hgd s x T ho B E i _ 1 8 hT hi hz hz1 hz2 rfl (by omega) v n (rowL K f n) hs (hown.alloc _) ⟨W.heap.size, 0, none⟩ 1 1 [.int K X] hx rfl (World.news_of_block (cs := #[.int K X]) (t := E) (fr := (0, 0)) (heap_alloc_new W _)) (by simp [Value.oneCell']) (by omega) (by unfold maxLen; omega) hn (by simp; omega) (W.heap.size + 1) (by simp) ?_
  intro g cap w' ho' hg hat hl
  have hg4 : W.grownBy w' v.ownBlock := (World.grownBy_alloc W _ _).trans hg
  have hsz := hg.size
  simp at hsz
  exact h g cap w' (by rw [rowL_succ, ← hX]; exact ho') hg4 (hat.imp id (fun h => by omega)) (by omega)
/-- 'append' of one element that lies in a new block. -/
theorem app_cells {ops : Array Oper} {rest : List Oper} {o : Oper} {a : Act} {Q : Exit → Act → World → Prop} {W : World} (B E T : Nat) (hgd : o.guard = none) (s x : Operand)
    (ho : o.op = .call { callee := .builtin .append, args := #[s, x], argTypes := #[T, T] }) (hT : Try.prog.underlying T = some (.slice E)) (z : Value) (m bytes : Nat) (hE : (Try.prog.info? E).map (fun i => (i.zero, i.size, i.bytes)) = some (some z, m, bytes)) (hz0 : z.cells.size = m) (hm : 0 < m)
    (v : Value) (n : Nat) (xs : List Value) (cs : Array Value) (hcs : cs.toList.length = 1 * m) (h1 : ∀ u ∈ cs.toList, u.oneCell' = true) (hs : a.eval s = v) (hown : W.ownsRow B E m v n xs) (H : Nat) (hH : W.heap.size = H) (hx : a.eval x = .slice (some ⟨H, 0, none⟩) 1 1)
    (hn : (n + 1) * bytes ≤ 140737488355328) (hn' : n + 1 ≤ maxLen) (hB : B ≤ W.heap.size)
    (h : ∀ g cap w', w'.ownsRow B E m (.slice (some ⟨g, 0, none⟩) (n + 1) cap) (n + 1) (xs ++ cs.toList) → W.grownBy w' v.ownBlock → (v.ownBlock = some g ∨ W.heap.size ≤ g) → W.heap.size < w'.heap.size → wpList Try.prog ops Q rest (a.put o.dst (.slice (some ⟨g, 0, none⟩) (n + 1) cap)) w') :
    wpList Try.prog ops Q (o :: rest) a (W.alloc (.cells cs E)) := by
  subst hH
  obtain ⟨i, hi, hz, hz1, hz2⟩ := info_parts hE
  refine wpList_append_lies _ hgd s x T ho B E i _ m bytes hT hi hz hz1 hz2 hz0 hm v n xs hs (hown.alloc _) ⟨W.heap.size, 0, none⟩ 1 1 cs.toList hx hcs (World.news_of_block (cs := cs) (t := E) (fr := (0, 0)) (heap_alloc_new W _)) h1 (by omega) hn' hn (by simp; omega) (W.heap.size + 1) (by simp) ?_
  intro g cap w' ho' hg hat hl
  have hg4 : W.grownBy w' v.ownBlock := (World.grownBy_alloc W _ _).trans hg
  have hsz := hg.size
  simp at hsz
  exact h g cap w' ho' hg4 (hat.imp id (fun h => by omega)) (by omega)
/-- A row of bools that lies in memory. -/
def RowB (w : World) (a : Option Addr) (n cap : Nat) (g : Nat → Bool) : Prop :=
  n ≤ 140737488355328 ∧ (a = none → n = 0 ∧ cap = 0) ∧ (0 < n → ∃ b off, a = some ⟨b, off, none⟩ ∧ b < w.heap.size ∧ ∀ i, i < n → w.cell? ⟨b, off + i, none⟩ = some (.bool (g i)))
def rowB (g : Nat → Bool) (n : Nat) : List Value := (List.range n).map fun i => Value.bool (g i)
theorem rowB_succ {g : Nat → Bool} {n : Nat} : rowB g (n + 1) = rowB g n ++ [.bool (g n)] := by simp [rowB, List.range_succ]
theorem rowB_get {g : Nat → Bool} {n i : Nat} (h : i < n) : (rowB g n)[i]? = some (.bool (g i)) := by simp [rowB, List.getElem?_map, List.getElem?_range h]
section
variable {w w' : World} {a : Option Addr} {n cap : Nat} {g : Nat → Bool}
theorem RowB.below (h : RowB w a n cap g) (hw : Below w.heap.size w w') : RowB w' a n cap g := by
  refine ⟨h.1, h.2.1, fun h0 => ?_⟩
  obtain ⟨b, off, ha, hb, hi⟩ := h.2.2 h0
  exact ⟨b, off, ha, Nat.lt_of_lt_of_le hb hw.size, fun i h => by rw [(bcell hw).1 _ _ hb]; exact hi i h⟩
theorem RowB.get (h : RowB w a n cap g) {k : Nat} (hk : k < n) : ∃ b off, a = some ⟨b, off, none⟩ ∧ b < w.heap.size ∧ ∀ i, i < n → w.cell? ⟨b, off + i, none⟩ = some (.bool (g i)) := h.2.2 (by omega)
theorem RowB.of {E B : Nat} {v : Value} (hl : n ≤ 140737488355328) (h : w.ownsRow B E 1 v n (rowB g n)) : ∃ a cap, v = .slice a n cap ∧ RowB w a n cap g := by
  have h' := h
  rcases h.2 with ⟨rfl, rfl⟩ | ⟨q, cap, cur, rfl, hb, hg, hnc, _, _, _⟩
  · exact ⟨none, 0, rfl, by omega, fun _ => ⟨rfl, rfl⟩, fun h0 => absurd h0 (by omega)⟩
  · refine ⟨some ⟨q, 0, none⟩, cap, rfl, hl, (fun h => by cases h), fun _ => ⟨q, 0, rfl, (Array.getElem?_eq_some_iff.1 hg).1, fun i hi => ?_⟩⟩
    rw [Nat.zero_add, h'.cellAt i (by omega), rowB_get hi]
end
end Go.Proofs.Ytihpjfhibhpciaa
