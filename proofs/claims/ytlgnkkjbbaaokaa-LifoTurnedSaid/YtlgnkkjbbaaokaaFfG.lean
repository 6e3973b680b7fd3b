/- 'append' of whatever row to an empty slice without room: a copy. -/
import Derived.Test.YtlgnkkjbbaaokaaFfE
import Derived.ArgAppend
namespace Go.Proofs.Ytlgnkkjbbaaokaa
open Go.ChangeShapes Go.WideShapes Go.ChangeAt Go.RowKit Go.Joins

/-- A row in new memory, or an empty slice without room. -/
def OwnE (P : Nat → Prop) (w : World) (E s : Nat) (v : Value) (n : Nat) (xs : List Value) : Prop :=
  (n = 0 ∧ ∃ q, v = .slice (some ⟨q, 0, none⟩) 0 0) ∨ ∃ B, w.ownsRow B E s v n xs ∧ ∀ b, v.ownBlock = some b → P b
section
variable {P Q : Nat → Prop} {w w' : World} {E s n : Nat} {v : Value} {xs : List Value}
theorem OwnE.imp (h : OwnE P w E s v n xs) (hPQ : ∀ b, b < w.heap.size → P b → Q b) : OwnE Q w E s v n xs := by
  rcases h with h | ⟨B, h, hp⟩
  · exact .inl h
  · exact .inr ⟨B, h, fun b hb => hPQ b (h.lt b hb).2 (hp b hb)⟩
theorem OwnE.grown (h : OwnE P w E s v n xs) {r : Option Nat} (hg : w.grownBy w' r) (hr : ∀ b, P b → some b ≠ r) : OwnE P w' E s v n xs := by
  rcases h with h | ⟨B, h, hp⟩
  · exact .inl h
  · refine .inr ⟨B, h.kept hg ?_, hp⟩
    cases hv : v.ownBlock with
    | none => exact .inl rfl
    | some b => exact .inr (hr b (hp b hv))
theorem OwnE.below (h : OwnE P w E s v n xs) (hb : Below w.heap.size w w') : OwnE P w' E s v n xs := h.grown (below_grownBy hb none) (by simp)
theorem OwnE.set (h : OwnE P w E s v n xs) {p i : Nat} {x : Value} (hne : ¬ P p) : OwnE P (w.setCell ⟨p, i, none⟩ x) E s v n xs := by
  rcases h with h | ⟨B, h, hp⟩
  · exact .inl h
  · exact .inr ⟨B, own_set h (fun e => hne (hp p e)), hp⟩
theorem OwnE.rowI {f : Nat → Int} (hl : n * 8 ≤ 140737488355328) (h : OwnE P w E 1 v n (rowL .i64 f n)) : ∃ a cap, v = .slice a n cap ∧ RowP P w a n cap f := by
  rcases h with ⟨rfl, q, rfl⟩ | ⟨B, h, hp⟩
  · exact ⟨_, _, rfl, by omega, (fun h => by cases h), by omega, fun h => absurd h (by omega)⟩
  · obtain ⟨a, cap, rfl, hr⟩ := RowP.of hl h
    exact ⟨a, cap, rfl, hr.imp fun b _ e => hp b e⟩
theorem OwnE.rowS {f : Nat → Nat → Int} (hl : n * (s * 8) ≤ 140737488355328) (h : OwnE P w E s v n (flatL s f n)) : ∃ a cap, v = .slice a n cap ∧ RowS s w a n cap f := by
  rcases h with ⟨rfl, q, rfl⟩ | ⟨B, h, hp⟩
  · exact ⟨_, _, rfl, RowS.none_left rfl⟩
  · exact RowS.of hl h
theorem OwnE.form (h : OwnE P w E s v n xs) : ∃ a cap, v = .slice a n cap := by
  rcases h with ⟨rfl, q, rfl⟩ | ⟨B, h, hp⟩
  · exact ⟨_, _, rfl⟩
  · exact own_form h
end
theorem run_copy {w : World} (T ty : TypeId) (E : TypeId) (z : Value) (size bytes : Nat) (hT : Try.prog.underlying T = some (.slice E)) (hE : (Try.prog.info? E).map (fun i => (i.zero, i.size, i.bytes)) = some (some z, size, bytes)) (hz0 : z.cells.size = size) (hsz : 0 < size)
    (q : Nat) (ao : Option Addr) (m c : Nat) (news : List Value) (hl : news.length = m * size) (hnone : ao = none → m = 0 ∧ c = 0) (hnews : ∀ ad, ao = some ad → ∀ j u, news[j]? = some u → w.cell? (ad.add j) = some u) (b1 : m ≤ maxLen) (b2 : m * bytes ≤ 140737488355328) :
    ∃ l' c' w', (Builtin.append_ #[T, T] ty #[.slice (some ⟨q, 0, none⟩) 0 0, .slice ao m c]).run Try.prog w = .ok (.slice l' m c') w' ∧ OwnE (fun b => w.heap.size ≤ b) w' E size (.slice l' m c') m news ∧ w.grownBy w' none := by
  obtain ⟨i, hi, hz, hz1, hz2⟩ := info_parts hE
  cases ao with
  | none =>
    obtain ⟨rfl, rfl⟩ := hnone rfl
    refine ⟨some ⟨q, 0, none⟩, 0, w, ?_, .inl ⟨rfl, q, rfl⟩, World.grownBy.refl _ _⟩
    simp [Builtin.append_, run_underlying hT, sizeOf, typeInfo, hi, Builtin.lenOf, Builtin.firstCells, storeCells]
  | some ad =>
    rcases Nat.eq_zero_or_pos m with rfl | hm
    · obtain rfl : news = [] := List.eq_nil_of_length_eq_zero (by simpa using hl)
      refine ⟨some ⟨q, 0, none⟩, 0, w, ?_, .inl ⟨rfl, q, rfl⟩, World.grownBy.refl _ _⟩
      have := run_append_room_cells (P := Try.prog) (w := w) T ty E i hT hi q 0 0 0 ad 0 c [] (by simp) (by simp) (by simp) (by omega) (by simp) (by simp)
      simpa [World.setCells] using this
    · obtain ⟨v', w', hr, ho, hg⟩ := run_append_arg_grows (P := Try.prog) (w := w) T ty E i z size bytes hT hi hz hz1 hz2 hz0 hsz ⟨q, 0, none⟩ 0 0 [] (by simp) (by simp) ad m c news hl (hnews ad rfl) (by omega) (by omega) (by rw [Nat.zero_add]; exact b2)
      rw [Nat.zero_add, List.nil_append] at ho
      obtain ⟨l', c', rfl⟩ := own_form ho
      exact ⟨l', c', w', hr, .inr ⟨_, ho, fun b hb => (ho.lt b hb).1⟩, hg⟩
/-- .. as a step of a region that draws its order. -/
theorem step_copy {ops : Array Oper} {o : Oper} {a : Act} {w : World} {K : Act → World → Prop} {Q : Exit → Act → World → Prop} {E' : Prop} (hgd : o.guard = none) (s x : Operand) (T : TypeId)
    (ho : o.op = .call { callee := .builtin .append, args := #[s, x], argTypes := #[T, T] })
    (E : TypeId) (z : Value) (size bytes : Nat) (hT : Try.prog.underlying T = some (.slice E)) (hE : (Try.prog.info? E).map (fun i => (i.zero, i.size, i.bytes)) = some (some z, size, bytes)) (hz0 : z.cells.size = size) (hsz : 0 < size)
    (q : Nat) (hs : a.eval s = .slice (some ⟨q, 0, none⟩) 0 0) (ao : Option Addr) (m c : Nat) (news : List Value) (hx : a.eval x = .slice ao m c) (hl : news.length = m * size) (hnone : ao = none → m = 0 ∧ c = 0) (hnews : ∀ ad, ao = some ad → ∀ j u, news[j]? = some u → w.cell? (ad.add j) = some u) (b1 : m ≤ maxLen) (b2 : m * bytes ≤ 140737488355328)
    (h : ∀ l' c' w', OwnE (fun b => w.heap.size ≤ b) w' E size (.slice l' m c') m news → w.grownBy w' none → K (a.put o.dst (.slice l' m c')) w') :
    if Region.wanted o (yielded ops a.tmps) = true then Oper.wp Try.prog o a w K Q else E' := by
  have hw : Region.wanted o (yielded ops a.tmps) = true := by simp [Region.wanted, hgd]
  rw [if_pos hw]
  obtain ⟨l', c', w', hr, h1, h2⟩ := run_copy (w := w) T o.type E z size bytes hT hE hz0 hsz q ao m c news hl hnone hnews b1 b2
  unfold Oper.wp
  simp [execOp, ho, resolve, invoke, builtin, hs, hx, hr, Result.andThen]
  exact h l' c' w' h1 h2
/-- .. at the list of a plain region's operations. -/
theorem list_copy {ops : Array Oper} {rest : List Oper} {o : Oper} {a : Act} {w : World} {Q : Exit → Act → World → Prop} (hgd : o.guard = none) (s x : Operand) (T : TypeId)
    (ho : o.op = .call { callee := .builtin .append, args := #[s, x], argTypes := #[T, T] })
    (E : TypeId) (z : Value) (size bytes : Nat) (hT : Try.prog.underlying T = some (.slice E)) (hE : (Try.prog.info? E).map (fun i => (i.zero, i.size, i.bytes)) = some (some z, size, bytes)) (hz0 : z.cells.size = size) (hsz : 0 < size)
    (q : Nat) (hs : a.eval s = .slice (some ⟨q, 0, none⟩) 0 0) (ao : Option Addr) (m c : Nat) (news : List Value) (hx : a.eval x = .slice ao m c) (hl : news.length = m * size) (hnone : ao = none → m = 0 ∧ c = 0) (hnews : ∀ ad, ao = some ad → ∀ j u, news[j]? = some u → w.cell? (ad.add j) = some u) (b1 : m ≤ maxLen) (b2 : m * bytes ≤ 140737488355328)
    (h : ∀ l' c' w', OwnE (fun b => w.heap.size ≤ b) w' E size (.slice l' m c') m news → w.grownBy w' none → wpList Try.prog ops Q rest (a.put o.dst (.slice l' m c')) w') : wpList Try.prog ops Q (o :: rest) a w := by
  refine wpList_plain hgd fun K hK' => ?_
  obtain ⟨l', c', w', hr, h1, h2⟩ := run_copy (w := w) T o.type E z size bytes hT hE hz0 hsz q ao m c news hl hnone hnews b1 b2
  unfold Oper.wp
  simp [execOp, ho, resolve, invoke, builtin, hs, hx, hr, Result.andThen]
  exact hK' _ _ (h l' c' w' h1 h2)
end Go.Proofs.Ytlgnkkjbbaaokaa
