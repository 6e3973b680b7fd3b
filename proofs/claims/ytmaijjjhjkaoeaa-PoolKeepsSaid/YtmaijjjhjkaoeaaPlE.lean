/- Boxes that hold a pool; the contracts of Leave and of the reference's, over the seat's program. -/
import Derived.Test.YtmaijjjhjkaoeaaPlC
import Derived.Deep.Cut
namespace Go.Proofs.Ytmaijjjhjkaoeaa
open Go.ChangeShapes Go.WideShapes Go.ChangeAt Go.RowKit Go.Joins

theorem size1 {w w1 : World} {o : Go.Obj} (hb : Below (w.alloc o).heap.size (w.alloc o) w1) : w.heap.size < w1.heap.size := by
  have h := hb.size
  simp at h
  omega
theorem size2 {w w1 : World} {o p : Go.Obj} (hb : Below ((w.alloc o).alloc p).heap.size ((w.alloc o).alloc p) w1) : w.heap.size + 1 < w1.heap.size := by
  have h := hb.size
  simp at h
  omega
/-- Five cells that hold a pool, and may be written. -/
def Box (w : World) (p : Nat) (a b c d e : Value) : Prop :=
  w.cell? ⟨p, 0, none⟩ = some a ∧ w.cell? ⟨p, 1, none⟩ = some b ∧ w.cell? ⟨p, 2, none⟩ = some c ∧ w.cell? ⟨p, 3, none⟩ = some d ∧ w.cell? ⟨p, 4, none⟩ = some e ∧ ∀ i, w.frozen? ⟨p, i, none⟩ = false
/-- Five stores, one behind the other. -/
def store5 (w : World) (p : Nat) (a b c d e : Value) : World := ((((w.setCell ⟨p, 0, none⟩ a).setCell ⟨p, 1, none⟩ b).setCell ⟨p, 2, none⟩ c).setCell ⟨p, 3, none⟩ d).setCell ⟨p, 4, none⟩ e
section
variable {w w' : World} {p q : Nat} {a b c d e a' b' c' d' e' : Value}
theorem Box.below (h : Box w p a b c d e) (hp : p < w.heap.size) (hb : Below w.heap.size w w') : Box w' p a b c d e := by
  obtain ⟨h0, h1, h2, h3, h4, hf⟩ := h
  obtain ⟨hc, hg⟩ := bcell hb
  exact ⟨(hc _ _ hp).trans h0, (hc _ _ hp).trans h1, (hc _ _ hp).trans h2, (hc _ _ hp).trans h3, (hc _ _ hp).trans h4, fun i => (hg _ _ hp).trans (hf i)⟩
theorem cell_set_ne {w : World} {p q i j : Nat} {x : Value} (h : p ≠ q ∨ i ≠ j) : (w.setCell ⟨p, i, none⟩ x).cell? ⟨q, j, none⟩ = w.cell? ⟨q, j, none⟩ :=
  World.cell?_setCell_other _ _ _ _ (fun e => by
    injection e with e1 e2
    rcases h with h | h
    · exact h e1
    · exact h e2)
theorem Box.store (h : Box w p a b c d e) (a' b' c' d' e' : Value) : Box (store5 w p a' b' c' d' e') p a' b' c' d' e' := by
  obtain ⟨h0, h1, h2, h3, h4, hf⟩ := h
  unfold store5
  refine ⟨?_, ?_, ?_, ?_, ?_, fun i => by simpa using hf i⟩
  · rw [cell_set_ne (.inr (by decide)), cell_set_ne (.inr (by decide)), cell_set_ne (.inr (by decide)), cell_set_ne (.inr (by decide))]
    exact World.cell?_setCell_same _ _ _ h0
  · rw [cell_set_ne (.inr (by decide)), cell_set_ne (.inr (by decide)), cell_set_ne (.inr (by decide))]
    exact World.cell?_setCell_same _ _ _ (by rw [cell_set_ne (.inr (by decide))]; exact h1)
  · rw [cell_set_ne (.inr (by decide)), cell_set_ne (.inr (by decide))]
    exact World.cell?_setCell_same _ _ _ (by rw [cell_set_ne (.inr (by decide)), cell_set_ne (.inr (by decide))]; exact h2)
  · rw [cell_set_ne (.inr (by decide))]
    exact World.cell?_setCell_same _ _ _ (by rw [cell_set_ne (.inr (by decide)), cell_set_ne (.inr (by decide)), cell_set_ne (.inr (by decide))]; exact h3)
  · exact World.cell?_setCell_same _ _ _ (by rw [cell_set_ne (.inr (by decide)), cell_set_ne (.inr (by decide)), cell_set_ne (.inr (by decide)), cell_set_ne (.inr (by decide))]; exact h4)
theorem Box.set_far (h : Box w q a b c d e) {i : Nat} {x : Value} (hne : p ≠ q) : Box (w.setCell ⟨p, i, none⟩ x) q a b c d e := by
  obtain ⟨h0, h1, h2, h3, h4, hf⟩ := h
  exact ⟨by rw [cell_set_ne (.inl hne)]; exact h0, by rw [cell_set_ne (.inl hne)]; exact h1, by rw [cell_set_ne (.inl hne)]; exact h2, by rw [cell_set_ne (.inl hne)]; exact h3, by rw [cell_set_ne (.inl hne)]; exact h4, fun i => by simpa using hf i⟩
theorem Box.far (h : Box w q a b c d e) (hne : p ≠ q) : Box (store5 w p a' b' c' d' e') q a b c d e := (((((h.set_far hne).set_far hne).set_far hne).set_far hne).set_far hne)
theorem Box.new (w : World) (t : TypeId) : Box (w.alloc (.cells #[a, b, c, d, e] t)) w.heap.size a b c d e := by
  refine ⟨?_, ?_, ?_, ?_, ?_, fun i => frozen_of_row _ _ _ _ t (heap_alloc_new w _)⟩ <;> (rw [cell_of_row _ _ _ _ t (0, 0) (heap_alloc_new w _)]; rfl)
theorem store5_size : (store5 w p a b c d e).heap.size = w.heap.size := by simp [store5]
theorem store5_below {B : Nat} {o : World} (h : Below B o w) (hp : B ≤ p) : Below B o (store5 w p a b c d e) := ((((h.setCell hp _).setCell hp _).setCell hp _).setCell hp _).setCell hp _
theorem store5_own {B E s n : Nat} {v : Value} {xs : List Value} (h : w.ownsRow B E s v n xs) (hp : p < B) : (store5 w p a b c d e).ownsRow B E s v n xs :=
  ownsRow_setCell_below (ownsRow_setCell_below (ownsRow_setCell_below (ownsRow_setCell_below (ownsRow_setCell_below h hp _) hp _) hp _) hp _) hp _
end
/-- A pool whose node is somebody else's. -/
def PV.leave (P : PV) : PV := ⟨0, 0, P.nf, P.ff, P.no, P.fo, P.s⟩

set_option maxRecDepth 100000 in
set_option maxHeartbeats 3200000 in
theorem leave_any (v : Value) (P : PV) (w : World) (h : PoolAt w v P) : Calls Try.prog 15 #[v] w (RetPool w.heap.size P.leave w) := by
  have HP := Lib.hid (fun W hb => (h.below hb : PoolAt W v P))
  obtain ⟨fa, fc, oa, oc, rfl, _, _⟩ := h
  obtain ⟨pi, pt, nf, ff, no, fo, ps⟩ := P
  dsimp only at HP ⊢
  have HB0 := Lib.hid (show Below w.heap.size w ((w.alloc (.cells #[.int .i64 pi, .int .i64 pt, .slice fa nf fc, .slice oa no oc, .int .i64 ps] 27)).alloc (.cells #[.int .i64 0, .int .i64 0, .slice none 0 0, .slice none 0 0, .int .i64 0] 27)) from ((Below.refl _ _).alloc (Nat.le_refl _) _).alloc (by simp) _)
  have HX := Lib.hid (show Box ((w.alloc (.cells #[.int .i64 pi, .int .i64 pt, .slice fa nf fc, .slice oa no oc, .int .i64 ps] 27)).alloc (.cells #[.int .i64 0, .int .i64 0, .slice none 0 0, .slice none 0 0, .int .i64 0] 27)) w.heap.size (.int .i64 pi) (.int .i64 pt) (.slice fa nf fc) (.slice oa no oc) (.int .i64 ps) from (Box.new w _).below (by simp) ((Below.refl _ _).alloc (Nat.le_refl _) _))
  have HY := Lib.hid (show Box ((w.alloc (.cells #[.int .i64 pi, .int .i64 pt, .slice fa nf fc, .slice oa no oc, .int .i64 ps] 27)).alloc (.cells #[.int .i64 0, .int .i64 0, .slice none 0 0, .slice none 0 0, .int .i64 0] 27)) (w.heap.size + 1) (.int .i64 0) (.int .i64 0) (.slice none 0 0) (.slice none 0 0) (.int .i64 0) from by have := Box.new (a := .int .i64 0) (b := .int .i64 0) (c := .slice none 0 0) (d := .slice none 0 0) (e := .int .i64 0) (w.alloc (.cells #[.int .i64 pi, .int .i64 pt, .slice fa nf fc, .slice oa no oc, .int .i64 ps] 27)) 27; simpa using this)
  go_enter Try.func15, Try.ntmps15
  go_wp2_with fail
  refine (fresh_any _ _ _ (HP.out _ HB0.out)).mono ?_
  rintro e w1 ⟨fv, ov, rfl, ho, hb⟩
  obtain ⟨af, cf, rfl⟩ := own_form ho.1
  obtain ⟨ao, co, rfl⟩ := own_form ho.2.1
  have HO := Lib.hid ho
  have hz := size2 hb
  have hz0 := Nat.lt_of_succ_lt hz
  have HB := Lib.hid (HB0.out.trans (hb.mono HB0.out.size))
  have HX1 := Lib.hid (HX.out.below (by simp; omega) hb)
  have HY1 := Lib.hid (HY.out.below (by simp) hb)
  obtain ⟨c0, c1, c2, c3, c4, cf⟩ := HX1.out
  have cf0 := cf 0
  have cf1 := cf 1
  have cf2 := cf 2
  have cf3 := cf 3
  have cf4 := cf 4
  clear cf
  clear ho hb HX HY HB0
  dsimp only at HO ⊢
  go_upto_region 2 with (fail)
  refine abstract_code (fun u => Box u w.heap.size (.int .i64 pi) (.int .i64 pt) (.slice af nf cf) (.slice ao no co) (.int .i64 ps) ∧ Box u (w.heap.size + 1) (.int .i64 0) (.int .i64 0) (.slice none 0 0) (.slice none 0 0) (.int .i64 0) ∧ PoolOwn (w.heap.size + 2) u (.slice af nf cf) (.slice ao no co) ⟨pi, pt, nf, ff, no, fo, ps⟩ ∧ Below w.heap.size w u ∧ w.heap.size + 1 < u.heap.size) ⟨HX1.out.store _ _ _ _ _, HY1.out.far (by omega), ⟨store5_own (HO.out.1.mono (by simp)) (by omega), store5_own (HO.out.2.1.mono (by simp)) (by omega), HO.out.2.2⟩, store5_below HB.out (Nat.le_refl _), by simpa [store5_size] using hz⟩ ?_
  rintro u ⟨hx, hy, ho, hb, hu⟩
  have HO2 := Lib.hid ho
  have HB2 := Lib.hid hb
  clear c0 c1 c2 c3 c4 cf0 cf1 cf2 cf3 cf4 HX1 HY1 HB HO hz hz0 ho hb
  obtain ⟨c0, c1, c2, c3, c4, cf⟩ := hx
  have cf0 := cf 0
  have cf1 := cf 1
  have cf2 := cf 2
  have cf3 := cf 3
  have cf4 := cf 4
  clear cf
  obtain ⟨d0, d1, d2, d3, d4, df⟩ := hy
  have df0 := df 0
  have df1 := df 1
  have df2 := df 2
  have df3 := df 3
  have df4 := df 4
  clear df
  go_wp2_with fail
  refine bodyPost_ret (v := .agg #[.int .i64 0, .int .i64 0, .slice af nf cf, .slice ao no co, .int .i64 ps]) ?_ rfl ⟨_, _, rfl, ⟨?_, ?_, HO2.out.2.2⟩, ?_⟩
  · simp only [results, Try.results15]; go_simp
  · refine World.ownsRow.mono (base := w.heap.size + 2) ?_ (by omega)
    (repeat' (with_reducible refine ownsRow_setCell_below ?_ ?_ _)) <;> first | exact HO2.out.1 | (simp; done) | (simp; omega)
  · refine World.ownsRow.mono (base := w.heap.size + 2) ?_ (by omega)
    (repeat' (with_reducible refine ownsRow_setCell_below ?_ ?_ _)) <;> first | exact HO2.out.2.1 | (simp; done) | (simp; omega)
  · (repeat' (with_reducible refine Below.setCell ?_ ?_ _)) <;> first | exact HB2.out | (simp; done) | (simp; omega)

set_option maxRecDepth 100000 in
set_option maxHeartbeats 3200000 in
theorem rleave_any (v : Value) (P : PV) (w : World) (h : PoolAt w v P) : Calls Try.prog 16 #[v] w (RetPool w.heap.size P.leave w) := by
  have HP := Lib.hid (fun W hb => (h.below hb : PoolAt W v P))
  obtain ⟨fa, fc, oa, oc, rfl, _, _⟩ := h
  obtain ⟨pi, pt, nf, ff, no, fo, ps⟩ := P
  dsimp only at HP ⊢
  have HB0 := Lib.hid (show Below w.heap.size w ((w.alloc (.cells #[.int .i64 pi, .int .i64 pt, .slice fa nf fc, .slice oa no oc, .int .i64 ps] 27)).alloc (.cells #[.int .i64 0, .int .i64 0, .slice none 0 0, .slice none 0 0, .int .i64 0] 27)) from ((Below.refl _ _).alloc (Nat.le_refl _) _).alloc (by simp) _)
  have HY := Lib.hid (show Box ((w.alloc (.cells #[.int .i64 pi, .int .i64 pt, .slice fa nf fc, .slice oa no oc, .int .i64 ps] 27)).alloc (.cells #[.int .i64 0, .int .i64 0, .slice none 0 0, .slice none 0 0, .int .i64 0] 27)) (w.heap.size + 1) (.int .i64 0) (.int .i64 0) (.slice none 0 0) (.slice none 0 0) (.int .i64 0) from by have := Box.new (a := .int .i64 0) (b := .int .i64 0) (c := .slice none 0 0) (d := .slice none 0 0) (e := .int .i64 0) (w.alloc (.cells #[.int .i64 pi, .int .i64 pt, .slice fa nf fc, .slice oa no oc, .int .i64 ps] 27)) 27; simpa using this)
  go_enter Try.func16, Try.ntmps16
  go_wp2_with fail
  refine (rcopy_any _ _ _ (HP.out _ HB0.out)).mono ?_
  rintro e w1 ⟨fv, ov, rfl, ho, hb⟩
  obtain ⟨af, cf, rfl⟩ := own_form ho.1
  obtain ⟨ao, co, rfl⟩ := own_form ho.2.1
  have HO := Lib.hid ho
  have hz := size2 hb
  have hz0 := Nat.lt_of_succ_lt hz
  have HB := Lib.hid (HB0.out.trans (hb.mono HB0.out.size))
  have HY1 := Lib.hid (HY.out.below (by simp) hb)
  obtain ⟨d0, d1, d2, d3, d4, df⟩ := HY1.out
  have df0 := df 0
  have df1 := df 1
  have df2 := df 2
  have df3 := df 3
  have df4 := df 4
  clear df
  clear ho hb HY HB0
  dsimp only at HO ⊢
  go_wp2_with fail
  refine bodyPost_ret (v := .agg #[.int .i64 0, .int .i64 0, .slice af nf cf, .slice ao no co, .int .i64 ps]) ?_ rfl ⟨_, _, rfl, ⟨?_, ?_, HO.out.2.2⟩, ?_⟩
  · simp only [results, Try.results16]; go_simp
  · exact (World.ownsRow.mono (store5_own (HO.out.1.mono (show w.heap.size + 2 ≤ _ by simp)) (by omega)) (by omega)).alloc _
  · exact (World.ownsRow.mono (store5_own (HO.out.2.1.mono (show w.heap.size + 2 ≤ _ by simp)) (by omega)) (by omega)).alloc _
  · exact (store5_below HB.out (by omega)).alloc (Nat.le_trans HB.out.size (Nat.le_of_eq store5_size.symm)) _
end Go.Proofs.Ytmaijjjhjkaoeaa
