/- Rows of integers of the call's own: copies, and what is stored into them. -/
import Derived.Test.YtihpjfhibhpciaaOpen
import Derived.Deep.AppendLies
import Derived.Deep.Onto
namespace Go.Proofs.Ytihpjfhibhpciaa
open Go.ChangeShapes Go.WideShapes Go.ChangeAt Go.RowKit Go.Joins

def rowL (K : IntKind) (f : Nat → Int) (n : Nat) : List Value := (List.range n).map fun i => Value.int K (f i)
section
variable {K : IntKind} {f g : Nat → Int} {n : Nat}
theorem rowL_len : (rowL K f n).length = n := by simp [rowL]
theorem rowL_get {i : Nat} (h : i < n) : (rowL K f n)[i]? = some (.int K (f i)) := by simp [rowL, List.getElem?_map, List.getElem?_range h]
theorem rowL_zero : rowL K f 0 = [] := rfl
theorem rowL_succ : rowL K f (n + 1) = rowL K f n ++ [.int K (f n)] := by simp [rowL, List.range_succ]
theorem rowL_zeros (m : Nat) : rowL K (fun _ => 0) m = List.replicate m (.int K 0) := by
  apply List.ext_getElem?
  intro i
  by_cases h : i < m
  · rw [rowL_get h, List.getElem?_replicate, if_pos h]
  · rw [List.getElem?_eq_none (by rw [rowL_len]; omega), List.getElem?_eq_none (by simp; omega)]
theorem rowL_one : ∀ u ∈ rowL K f n, u.oneCell' = true := by
  intro u hu
  simp only [rowL, List.mem_map] at hu
  obtain ⟨_, _, rfl⟩ := hu
  rfl
theorem rowL_at {w : World} {b off : Nat} (hc : ∀ i, i < n → w.cell? ⟨b, off + i, none⟩ = some (.int K (f i))) : ∀ j u, (rowL K f n)[j]? = some u → w.cell? ((⟨b, off, none⟩ : Addr).add j) = some u := by
  intro j u hu
  have hj : j < n := by have := (List.getElem?_eq_some_iff.1 hu).1; simpa [rowL_len] using this
  rw [rowL_get hj] at hu
  rw [Addr.add_lit, hc j hj, hu]
end

/-- A row that lies in memory from block 'B' on, and may be written. -/
def OwnAt (K : IntKind) (w : World) (B : Nat) (a : Option Addr) (n cap : Nat) (f : Nat → Int) : Prop :=
  n * 8 ≤ 140737488351232 ∧ (a = none → n = 0 ∧ cap = 0) ∧ (0 < n → ∃ b, a = some ⟨b, 0, none⟩ ∧ (B ≤ b ∧ b < w.heap.size) ∧ ∀ i, i < n → w.cell? ⟨b, i, none⟩ = some (.int K (f i)) ∧ w.frozen? ⟨b, i, none⟩ = false)
def updI (f : Nat → Int) (i : Nat) (x : Int) : Nat → Int := fun j => if j = i then x else f j
section
variable {K : IntKind} {w w' : World} {B : Nat} {a : Option Addr} {n cap : Nat} {f g : Nat → Int}
theorem OwnAt.below (h : OwnAt K w B a n cap f) (hw : Below w.heap.size w w') : OwnAt K w' B a n cap f := by
  refine ⟨h.1, h.2.1, fun h0 => ?_⟩
  obtain ⟨b, ha, hb, hi⟩ := h.2.2 h0
  exact ⟨b, ha, ⟨hb.1, Nat.lt_of_lt_of_le hb.2 hw.size⟩, fun i h => by rw [(bcell hw).1 _ _ hb.2, (bcell hw).2 _ _ hb.2]; exact hi i h⟩
theorem OwnAt.row (h : OwnAt K w B a n cap f) : RowAt K w a n cap f := by
  refine ⟨h.1, h.2.1, fun h0 => ?_⟩
  obtain ⟨b, ha, hb, hi⟩ := h.2.2 h0
  exact ⟨b, 0, ha, hb.2, fun i h => by rw [Nat.zero_add]; exact (hi i h).1⟩
theorem OwnAt.mono (h : OwnAt K w B a n cap f) {B' : Nat} (hB : B' ≤ B) : OwnAt K w B' a n cap f := by
  refine ⟨h.1, h.2.1, fun h0 => ?_⟩
  obtain ⟨b, ha, hb, hi⟩ := h.2.2 h0
  exact ⟨b, ha, ⟨Nat.le_trans hB hb.1, hb.2⟩, hi⟩
theorem OwnAt.same (h : OwnAt K w B a n cap f) (hg : ∀ i, i < n → f i = g i) : OwnAt K w B a n cap g := by
  refine ⟨h.1, h.2.1, fun h0 => ?_⟩
  obtain ⟨b, ha, hb, hi⟩ := h.2.2 h0
  exact ⟨b, ha, hb, fun i h => by rw [← hg i h]; exact hi i h⟩
theorem RowAt.same (h : RowAt K w a n cap f) (hg : ∀ i, i < n → f i = g i) : RowAt K w a n cap g := by
  refine ⟨h.1, h.2.1, fun h0 => ?_⟩
  obtain ⟨b, off, ha, hb, hi⟩ := h.2.2 h0
  exact ⟨b, off, ha, hb, fun i h => by rw [← hg i h]; exact hi i h⟩
theorem OwnAt.nil (h : n = 0) (hc : cap = 0) : OwnAt K w B none n cap f := ⟨by omega, fun _ => ⟨h, hc⟩, fun h0 => absurd h0 (by omega)⟩
theorem OwnAt.of {E : TypeId} {v : Value} (hl : n * 8 ≤ 140737488351232) (h : w.ownsRow B E 1 v n (rowL K f n)) : ∃ a cap, v = .slice a n cap ∧ OwnAt K w B a n cap f := by
  have h' := h
  rcases h.2 with ⟨rfl, rfl⟩ | ⟨g, cap, cur, rfl, hb, hg, hnc, _, _, _⟩
  · exact ⟨none, 0, rfl, OwnAt.nil rfl rfl⟩
  · refine ⟨some ⟨g, 0, none⟩, cap, rfl, hl, (fun h => by cases h), fun _ => ⟨g, rfl, ⟨hb, (Array.getElem?_eq_some_iff.1 hg).1⟩, fun i hi => ⟨?_, h'.frozenAt i⟩⟩⟩
    rw [h'.cellAt i (by omega), rowL_get hi]
theorem OwnAt.set {b : Nat} (h : OwnAt K w B (some ⟨b, 0, none⟩) n cap f) (i : Nat) (hi : i < n) (x : Int) : OwnAt K (w.setCell ⟨b, i, none⟩ (.int K x)) B (some ⟨b, 0, none⟩) n cap (updI f i x) := by
  refine ⟨h.1, h.2.1, fun h0 => ?_⟩
  obtain ⟨b', ha, hb, hc⟩ := h.2.2 h0
  injection ha with ha
  injection ha with ha _ _
  subst ha
  refine ⟨b, rfl, ⟨hb.1, by simpa using hb.2⟩, fun j hj => ⟨?_, by simpa using (hc j hj).2⟩⟩
  unfold updI
  by_cases e : j = i
  · subst e
    rw [if_pos rfl]
    exact World.cell?_setCell_same _ _ _ (hc j hj).1
  · rw [if_neg e, World.cell?_setCell_other _ _ _ _ (fun e2 => e (by injection e2 with _ e3; exact e3.symm))]
    exact (hc j hj).1
theorem OwnAt.get (h : OwnAt K w B a n cap f) {k : Nat} (hk : k < n) : ∃ b, a = some ⟨b, 0, none⟩ ∧ (B ≤ b ∧ b < w.heap.size) ∧ ∀ i, i < n → w.cell? ⟨b, i, none⟩ = some (.int K (f i)) ∧ w.frozen? ⟨b, i, none⟩ = false := h.2.2 (by omega)
end

/-- What is returned is a row of the call's own. -/
def RetOwn (K : IntKind) (B n : Nat) (f : Nat → Int) (w : World) (e : Ending) (w' : World) : Prop := ∃ a cap, e = .returned (.slice a n cap) ∧ OwnAt K w' B a n cap f ∧ Below B w w'

/-- 'append' of whatever row, a nil one too, to a row of the call's own. -/
theorem wpList_append_src {P : Program} (w : World) {ops : Array Oper} {rest : List Oper} {o : Oper} {a : Act} {Q : Exit → Act → World → Prop} (hgd : o.guard = none) (s x : Operand) (t : TypeId)
    (ho : o.op = .call { callee := .builtin .append, args := #[s, x], argTypes := #[t, t] })
    (base : Nat) (e : TypeId) (i : TypeInfo) (z : Value) (size bytes : Nat) (ht : P.underlying t = some (.slice e)) (hi : P.info? e = some i) (hz : i.zero = some z)
    (hsize : i.size = size) (hby : i.bytes = bytes) (hzs : z.cells.size = size) (hsz : 0 < size)
    (v : Value) (n : Nat) (xs : List Value) (hs : a.eval s = v) (hown : w.ownsRow base e size v n xs)
    (ao : Option Addr) (m c : Nat) (news : List Value) (hx : a.eval x = .slice ao m c) (hl : news.length = m * size) (hnone : ao = none → m = 0 ∧ c = 0) (hnews : ∀ ad, ao = some ad → ∀ j u, news[j]? = some u → w.cell? (ad.add j) = some u) (h1 : ∀ u ∈ news, u.oneCell' = true)
    (h63 : n + m ≤ maxLen) (hbytes : (n + m) * bytes ≤ 140737488355328) (hbase : base ≤ w.heap.size)
    (h : ∀ v' w', w'.ownsRow base e size v' (n + m) (xs ++ news) → w.grownBy w' v.ownBlock → wpList P ops Q rest (a.put o.dst v') w') : wpList P ops Q (o :: rest) a w := by
  cases ao with
  | some ad => exact wpList_append_own w hgd s x t ho base e i z size bytes ht hi hz hsize hby hzs hsz v n xs hs hown ad m c news hx hl (hnews ad rfl) h1 h63 hbytes hbase fun v' w' h2 h3 _ => h v' w' h2 h3
  | none =>
    obtain ⟨rfl, rfl⟩ := hnone rfl
    obtain rfl : news = [] := List.eq_nil_of_length_eq_zero (by simpa using hl)
    refine wpList_plain hgd fun K hK' => ?_
    have hrun := run_append_owned_none (P := P) w base t o.type e i size ht hi v n xs hown
    unfold Oper.wp
    simp [execOp, ho, resolve, invoke, builtin, hs, hx, hrun, Result.andThen]
    exact hK' _ _ (h v w (by simpa using hown) (World.grownBy.refl _ _))

end Go.Proofs.Ytihpjfhibhpciaa
