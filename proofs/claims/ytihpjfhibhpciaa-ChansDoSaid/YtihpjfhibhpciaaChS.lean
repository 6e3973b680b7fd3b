/- The reference's Do: what it holds, over the seat's program. -/
import Derived.Test.YtihpjfhibhpciaaChQ
import Derived.Test.YtihpjfhibhpciaaChR
namespace Go.Proofs.Ytihpjfhibhpciaa
open Go.ChangeShapes Go.WideShapes Go.ChangeAt Go.RowKit Go.Joins

/-- The reference's answer lies in eleven cells. -/
def G11 (w : World) (p : Nat) (C : CH) (bv L : Value) (code val : Int) (td : Value) : Prop :=
  w.cell? ⟨p, 0, none⟩ = some (.int .i64 C.gen) ∧ w.cell? ⟨p, 1, none⟩ = some (.int .i64 C.cap) ∧ w.cell? ⟨p, 2, none⟩ = some (.bool C.used) ∧ w.cell? ⟨p, 3, none⟩ = some (.bool C.closed) ∧ w.cell? ⟨p, 4, none⟩ = some (bv) ∧ w.cell? ⟨p, 5, none⟩ = some (L) ∧ w.cell? ⟨p, 6, none⟩ = some (.int .i64 0) ∧ w.cell? ⟨p, 7, none⟩ = some (.int .i64 0) ∧ w.cell? ⟨p, 8, none⟩ = some (.int .i64 code) ∧ w.cell? ⟨p, 9, none⟩ = some (.int .i64 val) ∧ w.cell? ⟨p, 10, none⟩ = some (td) ∧ ∀ i, w.frozen? ⟨p, i, none⟩ = false
def store11 (w : World) (p : Nat) (x0 x1 x2 x3 x4 x5 x6 x7 x8 x9 x10 : Value) : World := ((((((((((w.setCell ⟨p, 0, none⟩ x0).setCell ⟨p, 1, none⟩ x1).setCell ⟨p, 2, none⟩ x2).setCell ⟨p, 3, none⟩ x3).setCell ⟨p, 4, none⟩ x4).setCell ⟨p, 5, none⟩ x5).setCell ⟨p, 6, none⟩ x6).setCell ⟨p, 7, none⟩ x7).setCell ⟨p, 8, none⟩ x8).setCell ⟨p, 9, none⟩ x9).setCell ⟨p, 10, none⟩ x10
section
variable {w w' : World} {p q : Nat} {C : CH} {bv L td : Value} {code val : Int}
theorem G11.like (h : G11 w p C bv L code val td) (hp : ∀ o, w'.cell? ⟨p, o, none⟩ = w.cell? ⟨p, o, none⟩ ∧ w'.frozen? ⟨p, o, none⟩ = w.frozen? ⟨p, o, none⟩) : G11 w' p C bv L code val td := by
  obtain ⟨h0, h1, h2, h3, h4, h5, h6, h7, h8, h9, h10, hf⟩ := h
  exact ⟨(hp 0).1.trans h0, (hp 1).1.trans h1, (hp 2).1.trans h2, (hp 3).1.trans h3, (hp 4).1.trans h4, (hp 5).1.trans h5, (hp 6).1.trans h6, (hp 7).1.trans h7, (hp 8).1.trans h8, (hp 9).1.trans h9, (hp 10).1.trans h10, fun i => (hp i).2.trans (hf i)⟩
theorem G11.below (h : G11 w p C bv L code val td) (hp : p < w.heap.size) (hb : Below w.heap.size w w') : G11 w' p C bv L code val td := h.like fun _ => ⟨(bcell hb).1 _ _ hp, (bcell hb).2 _ _ hp⟩
theorem G11.far (h : G11 w q C bv L code val td) {i : Nat} {x : Value} (hne : p ≠ q) : G11 (w.setCell ⟨p, i, none⟩ x) q C bv L code val td := h.like fun _ => ⟨cell_set_ne (.inl hne), by simp⟩
theorem G11.set4 (h : G11 w p C bv L code val td) (y : Value) : G11 (w.setCell ⟨p, 4, none⟩ (y)) p C y L code val td := by
  obtain ⟨h0, h1, h2, h3, h4, h5, h6, h7, h8, h9, h10, hf⟩ := h
  exact ⟨by rw [cell_set_ne (.inr (by decide))]; exact h0, by rw [cell_set_ne (.inr (by decide))]; exact h1, by rw [cell_set_ne (.inr (by decide))]; exact h2, by rw [cell_set_ne (.inr (by decide))]; exact h3, World.cell?_setCell_same _ _ _ h4, by rw [cell_set_ne (.inr (by decide))]; exact h5, by rw [cell_set_ne (.inr (by decide))]; exact h6, by rw [cell_set_ne (.inr (by decide))]; exact h7, by rw [cell_set_ne (.inr (by decide))]; exact h8, by rw [cell_set_ne (.inr (by decide))]; exact h9, by rw [cell_set_ne (.inr (by decide))]; exact h10, fun i => by simpa using hf i⟩
theorem G11.set5 (h : G11 w p C bv L code val td) (y : Value) : G11 (w.setCell ⟨p, 5, none⟩ (y)) p C bv y code val td := by
  obtain ⟨h0, h1, h2, h3, h4, h5, h6, h7, h8, h9, h10, hf⟩ := h
  exact ⟨by rw [cell_set_ne (.inr (by decide))]; exact h0, by rw [cell_set_ne (.inr (by decide))]; exact h1, by rw [cell_set_ne (.inr (by decide))]; exact h2, by rw [cell_set_ne (.inr (by decide))]; exact h3, by rw [cell_set_ne (.inr (by decide))]; exact h4, World.cell?_setCell_same _ _ _ h5, by rw [cell_set_ne (.inr (by decide))]; exact h6, by rw [cell_set_ne (.inr (by decide))]; exact h7, by rw [cell_set_ne (.inr (by decide))]; exact h8, by rw [cell_set_ne (.inr (by decide))]; exact h9, by rw [cell_set_ne (.inr (by decide))]; exact h10, fun i => by simpa using hf i⟩
theorem G11.set8 (h : G11 w p C bv L code val td) (y : Int) : G11 (w.setCell ⟨p, 8, none⟩ (.int .i64 y)) p C bv L y val td := by
  obtain ⟨h0, h1, h2, h3, h4, h5, h6, h7, h8, h9, h10, hf⟩ := h
  exact ⟨by rw [cell_set_ne (.inr (by decide))]; exact h0, by rw [cell_set_ne (.inr (by decide))]; exact h1, by rw [cell_set_ne (.inr (by decide))]; exact h2, by rw [cell_set_ne (.inr (by decide))]; exact h3, by rw [cell_set_ne (.inr (by decide))]; exact h4, by rw [cell_set_ne (.inr (by decide))]; exact h5, by rw [cell_set_ne (.inr (by decide))]; exact h6, by rw [cell_set_ne (.inr (by decide))]; exact h7, World.cell?_setCell_same _ _ _ h8, by rw [cell_set_ne (.inr (by decide))]; exact h9, by rw [cell_set_ne (.inr (by decide))]; exact h10, fun i => by simpa using hf i⟩
theorem G11.set9 (h : G11 w p C bv L code val td) (y : Int) : G11 (w.setCell ⟨p, 9, none⟩ (.int .i64 y)) p C bv L code y td := by
  obtain ⟨h0, h1, h2, h3, h4, h5, h6, h7, h8, h9, h10, hf⟩ := h
  exact ⟨by rw [cell_set_ne (.inr (by decide))]; exact h0, by rw [cell_set_ne (.inr (by decide))]; exact h1, by rw [cell_set_ne (.inr (by decide))]; exact h2, by rw [cell_set_ne (.inr (by decide))]; exact h3, by rw [cell_set_ne (.inr (by decide))]; exact h4, by rw [cell_set_ne (.inr (by decide))]; exact h5, by rw [cell_set_ne (.inr (by decide))]; exact h6, by rw [cell_set_ne (.inr (by decide))]; exact h7, by rw [cell_set_ne (.inr (by decide))]; exact h8, World.cell?_setCell_same _ _ _ h9, by rw [cell_set_ne (.inr (by decide))]; exact h10, fun i => by simpa using hf i⟩
theorem G11.set10 (h : G11 w p C bv L code val td) (y : Value) : G11 (w.setCell ⟨p, 10, none⟩ (y)) p C bv L code val y := by
  obtain ⟨h0, h1, h2, h3, h4, h5, h6, h7, h8, h9, h10, hf⟩ := h
  exact ⟨by rw [cell_set_ne (.inr (by decide))]; exact h0, by rw [cell_set_ne (.inr (by decide))]; exact h1, by rw [cell_set_ne (.inr (by decide))]; exact h2, by rw [cell_set_ne (.inr (by decide))]; exact h3, by rw [cell_set_ne (.inr (by decide))]; exact h4, by rw [cell_set_ne (.inr (by decide))]; exact h5, by rw [cell_set_ne (.inr (by decide))]; exact h6, by rw [cell_set_ne (.inr (by decide))]; exact h7, by rw [cell_set_ne (.inr (by decide))]; exact h8, by rw [cell_set_ne (.inr (by decide))]; exact h9, World.cell?_setCell_same _ _ _ h10, fun i => by simpa using hf i⟩
theorem G11.new (w : World) (C : CH) (bv L : Value) (t : TypeId) : G11 (w.alloc (.cells #[.int .i64 C.gen, .int .i64 C.cap, .bool C.used, .bool C.closed, bv, L, .int .i64 0, .int .i64 0, .int .i64 0, .int .i64 0, .slice none 0 0] t)) w.heap.size C bv L 0 0 (.slice none 0 0) := by
  refine ⟨?_, ?_, ?_, ?_, ?_, ?_, ?_, ?_, ?_, ?_, ?_, fun i => frozen_of_row _ _ _ _ t (heap_alloc_new w _)⟩ <;> (rw [cell_of_row _ _ _ _ t (0, 0) (heap_alloc_new w _)]; rfl)
theorem agree_store11 {B : Nat} {x0 x1 x2 x3 x4 x5 x6 x7 x8 x9 x10 : Value} (hp : p < B) : Agree B w (store11 w p x0 x1 x2 x3 x4 x5 x6 x7 x8 x9 x10) := ((((((((((Agree.set hp).trans (Agree.set hp)).trans (Agree.set hp)).trans (Agree.set hp)).trans (Agree.set hp)).trans (Agree.set hp)).trans (Agree.set hp)).trans (Agree.set hp)).trans (Agree.set hp)).trans (Agree.set hp)).trans (Agree.set hp)
theorem below_store11 {B : Nat} {o : World} {x0 x1 x2 x3 x4 x5 x6 x7 x8 x9 x10 : Value} (h : Below B o w) (hp : B ≤ p) : Below B o (store11 w p x0 x1 x2 x3 x4 x5 x6 x7 x8 x9 x10) := ((((((((((h.setCell hp _).setCell hp _).setCell hp _).setCell hp _).setCell hp _).setCell hp _).setCell hp _).setCell hp _).setCell hp _).setCell hp _).setCell hp _
theorem Agree.set_new {B o : Nat} {x : Value} {w2 : World} (h : Agree B w2 w) (hp : w2.heap.size ≤ p) : Agree B w2 (w.setCell ⟨p, o, none⟩ x) := ⟨by simpa using h.1, fun q o' h1 h2 => by
  have := h.2 q o' h1 h2
  exact ⟨by rw [cell_set_ne (.inl (by omega))]; exact this.1, by simpa using this.2⟩⟩
end
/-- A row that reads so in each world that agrees. -/
def FarZ (B : Nat) (w : World) (a : Option Addr) (n cap : Nat) (f : Nat → Int) : Prop := ∀ w', Agree B w w' → RowZ w' a n cap f
theorem OwnP.farZ {P : Nat → Prop} {B n : Nat} {w : World} {a : Option Addr} {cap : Nat} {f : Nat → Int} (hn : n * 8 ≤ 140737488355328) (h : OwnP P w 3 1 (.slice a n cap) n (rowL .i64 f n)) (hP : ∀ b, P b → B ≤ b) : FarZ B w a n cap f := fun w' hw => by
  rcases h with ⟨rfl, q, e⟩ | ⟨B', h, hp⟩
  · simp only [Value.slice.injEq] at e
    obtain ⟨rfl, _, rfl⟩ := e
    exact ⟨by omega, (fun h => by cases h), fun h => absurd h (by omega)⟩
  · obtain ⟨h1, h2, h3⟩ := own_rowZ hn h
    refine ⟨h1, h2, fun h0 => ?_⟩
    obtain ⟨b, off, hab, hb, hcl⟩ := h3 h0
    have := hP b (hp b (by rw [hab]; rfl))
    exact ⟨b, off, hab, Nat.lt_of_lt_of_le hb hw.1, fun i hi => (hw.2 b _ (by omega) hb).1.trans (hcl i hi)⟩
theorem Agree.grownr {U : Nat} {w w' : World} {r : Option Nat} (hg : w.grownBy w' r) (hr : ∀ b, r = some b → b < U) : Agree U w w' := ⟨hg.size, fun q o hq hl => by
  have ne : some q ≠ r := fun e => by have := hr q e.symm; omega
  exact ⟨hg.cell_far ⟨q, o, none⟩ hl ne, hg.frozen_far ⟨q, o, none⟩ hl ne⟩⟩
/-- One number more behind a row. -/
theorem push_one {ops : Array Oper} {rest : List Oper} {o : Oper} {a : Act} {Q : Exit → Act → World → Prop} {W : World} (P : Nat → Prop) (hgd : o.guard = none) (s x : Operand)
    (ho : o.op = .call { callee := .builtin .append, args := #[s, x], argTypes := #[36, 36] })
    (v : Value) (n : Nat) (f : Nat → Int) (X : Int) (hX : X = f n) (hs : a.eval s = v) (hown : OwnP P W 3 1 v n (rowL .i64 f n)) (H : Nat) (hH : W.heap.size = H) (hx : a.eval x = .slice (some ⟨H, 0, none⟩) 1 1)
    (hn : (n + 1) * 8 ≤ 140737488355328)
    (h : ∀ g cap w' r, OwnP (fun b => P b ∨ W.heap.size ≤ b) w' 3 1 (.slice (some ⟨g, 0, none⟩) (n + 1) cap) (n + 1) (rowL .i64 f (n + 1)) → W.grownBy w' r → (∀ b, r = some b → P b) → wpList Try.prog ops Q rest (a.put o.dst (.slice (some ⟨g, 0, none⟩) (n + 1) cap)) w') :
    wpList Try.prog ops Q (o :: rest) a (W.alloc (.cells #[.int .i64 X] 3)) := by
  rcases hown with ⟨rfl, q, rfl⟩ | ⟨B, h0, hp⟩
  · refine nlist_copy hgd s x 36 ho 3 (.int .i64 0) 1 8 Try.underlying36 Try.info_int rfl (by decide) q hs (some ⟨H, 0, none⟩) 1 1 [.int .i64 X] hx rfl (fun e => by cases e) (fun ad e j u hu => ?_) (by unfold maxLen; omega) (by omega) ?_
    · injection e with e
      subst e hH
      exact World.news_of_block (cs := #[.int .i64 X]) (t := 3) (fr := (0, 0)) (heap_alloc_new W _) j u hu
    · intro l' c' w' ho' hg
      rcases ho' with ⟨h1, _⟩ | ⟨B, ho', hp'⟩
      · exact absurd h1 (by decide)
      · have ho2 := ho'
        rcases ho'.2 with ⟨_, h2⟩ | ⟨g, cap, cur, hv, _⟩
        · exact absurd h2 (by decide)
        · simp only [Value.slice.injEq] at hv
          obtain ⟨rfl, _, rfl⟩ := hv
          refine h g c' w' none (.inr ⟨B, ?_, fun b hb => .inr ?_⟩) ((World.grownBy_alloc W _ none).trans hg) (fun b e => by cases e)
          · rw [show rowL .i64 f (0 + 1) = [.int .i64 X] by simp [rowL, hX]]
            exact ho2
          · have := hp' b hb
            simp at this
            omega
  · have hb : ∀ b, v.ownBlock = some b → b < W.heap.size := fun b e => (h0.lt b e).2
    refine app_one (min B W.heap.size) 3 36 hgd s x ho Try.underlying36 Try.info_int v n f X hX hs (ownsRow_le h0 (Nat.min_le_left _ _)) H hH hx hn (Nat.min_le_right _ _) ?_
    intro g cap w' ho' hg hat _
    refine h g cap w' v.ownBlock (.inr ⟨_, ho', fun b e => ?_⟩) hg hp
    obtain rfl : g = b := by injection e
    rcases hat with e | e
    · exact .inl (hp _ e)
    · exact .inr e
/-- What the reference's Do, behind its copies, has. -/
structure RAt (W v w2 : World) (C : CH) (ca : Option Addr) (cc U D : Nat) (ba : Option Addr) (bc : Nat) (L : Value) : Prop where
  chan : Box v W.heap.size (.int .i64 C.gen) (.int .i64 C.cap) (.bool C.used) (.bool C.closed) (.slice ca C.n cc)
  ret : ∃ C0 : CH, G11 v (W.heap.size + 1) C0 (.slice none 0 0) (.slice none 0 0) 0 0 (.slice none 0 0)
  got : G11 v D C (.slice ba C.n bc) L 0 0 (.slice none 0 0)
  row : OwnP (fun b => W.heap.size + 2 ≤ b ∧ b < U) v 3 1 (.slice ba C.n bc) C.n (rowL .i64 C.f C.n)
  agr : Agree U w2 v
  bel : Below W.heap.size W v
  lt : W.heap.size + 2 ≤ D ∧ D < v.heap.size ∧ w2.heap.size = D ∧ W.heap.size + 2 ≤ U ∧ U ≤ D
theorem RAt.below {W v v' w2 : World} {C : CH} {ca ba : Option Addr} {cc U D bc : Nat} {L : Value} (h : RAt W v w2 C ca cc U D ba bc L) (hb : Below v.heap.size v v') : RAt W v' w2 C ca cc U D ba bc L :=
  ⟨h.chan.below (by have := h.lt; omega) hb, h.ret.imp fun _ g => g.below (by have := h.lt; omega) hb, h.got.below h.lt.2.1 hb, h.row.below hb, h.agr.trans (Agree.of hb), h.bel.trans (hb.mono h.bel.size), h.lt.1, Nat.lt_of_lt_of_le h.lt.2.1 hb.size, h.lt.2.2⟩
/-- What it has at its end. -/
structure RFin (W v : World) (C' : CH) (V' : Nat → WV) (n D : Nat) (code rv : Int) (m : Nat) (T : Nat → Nat → Int) (ba : Option Addr) (bc : Nat) (ra : Option Addr) (rc : Nat) (ta : Option Addr) (tc : Nat) : Prop where
  ret : ∃ C0 : CH, G11 v (W.heap.size + 1) C0 (.slice none 0 0) (.slice none 0 0) 0 0 (.slice none 0 0)
  got : G11 v D C' (.slice ba C'.n bc) (.slice ra n rc) code rv (.slice ta m tc)
  row : FarZ (W.heap.size + 2) v ba C'.n bc C'.f
  wts : FarW (W.heap.size + 2) v ra n rc V'
  told : FarT (W.heap.size + 2) v ta m tc T
  bel : Below W.heap.size W v
  lt : W.heap.size + 2 ≤ D ∧ D < v.heap.size
/-- What the reference's Do comes to. -/
def RDoRet (C : CH) (V : Nat → WV) (n : Nat) (hd dir x : Int) (w : World) (e : Ending) (w' : World) : Prop :=
  ∃ C' V' code rv m T ba bc ra rc ta tc, DoIs C V n hd dir x C' V' code rv m T ∧ e = .returned (.agg #[.int .i64 C'.gen, .int .i64 C'.cap, .bool C'.used, .bool C'.closed, .slice ba C'.n bc, .slice ra n rc, .int .i64 0, .int .i64 0, .int .i64 code, .int .i64 rv, .slice ta m tc]) ∧ RowZ w' ba C'.n bc C'.f ∧ WaitsAt w' ra n rc V' ∧ RowS 5 w' ta m tc T ∧ Below w.heap.size w w'
end Go.Proofs.Ytihpjfhibhpciaa
