/- The contract of Take over the seat's program. -/
import Derived.Test.YtmaijjjhjkaoeaaPlH
import Derived.Test.YtmaijjjhjkaoeaaPlN
import Derived.Deep.LoopGhost
namespace Go.Proofs.Ytmaijjjhjkaoeaa
open Go.ChangeShapes Go.WideShapes Go.ChangeAt Go.RowKit Go.Joins

/-- What is taken of a pool that has so many free nodes. -/
def PV.takeN (tags : Int) : Nat → PV → PV × Bool
  | 0, P => (P, P.t != 0)
  | n + 1, P => if P.t ≠ 0 then (P, true) else if nOk (P.ff 0 0) (P.ff 0 1) tags = true then (⟨P.ff 0 0, P.ff 0 1 + 1, n, fun i j => P.ff (i + 1) j, P.no, P.fo, P.s⟩, true)
      else PV.takeN tags n ⟨P.i, P.t, n, fun i j => P.ff (i + 1) j, P.no, P.fo, wrap64 (P.s + 1)⟩
def PV.take (P : PV) (tags : Int) : PV × Bool := PV.takeN tags P.nf P
theorem take_own {P : PV} {tags : Int} (h : P.t ≠ 0) : P.take tags = (P, true) := by
  unfold PV.take
  cases hn : P.nf with
  | zero => simp [PV.takeN, h]
  | succ n => simp [PV.takeN, h]
theorem take_zero {pi : Int} {ff fo : Nat → Nat → Int} {no : Nat} {ps tags : Int} : PV.take ⟨pi, 0, 0, ff, no, fo, ps⟩ tags = (⟨pi, 0, 0, ff, no, fo, ps⟩, false) := rfl
theorem take_yes {pi : Int} {n : Nat} {ff fo : Nat → Nat → Int} {no : Nat} {ps tags : Int} (h : nOk (ff 0 0) (ff 0 1) tags = true) : PV.take ⟨pi, 0, n + 1, ff, no, fo, ps⟩ tags = (⟨ff 0 0, ff 0 1 + 1, n, fun i j => ff (i + 1) j, no, fo, ps⟩, true) := by
  simp [PV.take, PV.takeN, h]
theorem take_no {pi : Int} {n : Nat} {ff fo : Nat → Nat → Int} {no : Nat} {ps tags : Int} (h : nOk (ff 0 0) (ff 0 1) tags = false) : PV.take ⟨pi, 0, n + 1, ff, no, fo, ps⟩ tags = PV.take ⟨pi, 0, n, fun i j => ff (i + 1) j, no, fo, wrap64 (ps + 1)⟩ tags := by
  simp [PV.take, PV.takeN, h]
theorem Box.set0 {w : World} {p : Nat} {a b c d e : Value} (h : Box w p a b c d e) (x : Value) : Box (w.setCell ⟨p, 0, none⟩ x) p x b c d e := by
  obtain ⟨h0, h1, h2, h3, h4, hf⟩ := h
  exact ⟨World.cell?_setCell_same _ _ _ h0, by rw [cell_set_ne (.inr (by decide))]; exact h1, by rw [cell_set_ne (.inr (by decide))]; exact h2, by rw [cell_set_ne (.inr (by decide))]; exact h3, by rw [cell_set_ne (.inr (by decide))]; exact h4, fun i => by simpa using hf i⟩
theorem Box.set1 {w : World} {p : Nat} {a b c d e : Value} (h : Box w p a b c d e) (x : Value) : Box (w.setCell ⟨p, 1, none⟩ x) p a x c d e := by
  obtain ⟨h0, h1, h2, h3, h4, hf⟩ := h
  exact ⟨by rw [cell_set_ne (.inr (by decide))]; exact h0, World.cell?_setCell_same _ _ _ h1, by rw [cell_set_ne (.inr (by decide))]; exact h2, by rw [cell_set_ne (.inr (by decide))]; exact h3, by rw [cell_set_ne (.inr (by decide))]; exact h4, fun i => by simpa using hf i⟩
theorem Box.set4 {w : World} {p : Nat} {a b c d e : Value} (h : Box w p a b c d e) (x : Value) : Box (w.setCell ⟨p, 4, none⟩ x) p a b c d x := by
  obtain ⟨h0, h1, h2, h3, h4, hf⟩ := h
  exact ⟨by rw [cell_set_ne (.inr (by decide))]; exact h0, by rw [cell_set_ne (.inr (by decide))]; exact h1, by rw [cell_set_ne (.inr (by decide))]; exact h2, by rw [cell_set_ne (.inr (by decide))]; exact h3, World.cell?_setCell_same _ _ _ h4, fun i => by simpa using hf i⟩
theorem Box.alloc {w : World} {p : Nat} {a b c d e : Value} (h : Box w p a b c d e) (hp : p < w.heap.size) (o : Go.Obj) : Box (w.alloc o) p a b c d e := h.below hp ((Below.refl _ _).alloc (Nat.le_refl _) _)
theorem RowS.alloc {s : Nat} {w : World} {a : Option Addr} {n cap : Nat} {f : Nat → Nat → Int} (h : RowS s w a n cap f) (o : Go.Obj) : RowS s (w.alloc o) a n cap f := h.below ((Below.refl _ _).alloc (Nat.le_refl _) _)
theorem set_size {w : World} {a : Addr} {x : Value} : (w.setCell a x).heap.size = w.heap.size := by simp
def InR (n : Nat) (ff : Nat → Nat → Int) : Prop := ∀ i, i < n → -9223372036854775808 ≤ ff i 1
theorem InR.next {n : Nat} {ff : Nat → Nat → Int} (h : InR (n + 1) ff) : InR n (fun i j => ff (i + 1) j) := fun i hi => h (i + 1) (by omega)

/-- The row lies in block 'B' or behind it. -/
def Far (a : Option Addr) (B : Nat) : Prop := ∀ b off, a = some ⟨b, off, none⟩ → B ≤ b
theorem Far.shift {b off k B : Nat} (h : Far (some ⟨b, off, none⟩) B) : Far (some ⟨b, off + k, none⟩) B := by
  intro b' off' e
  injection e with e
  injection e with e1 e2 _
  exact e1 ▸ h b off rfl
theorem Far.mono {a : Option Addr} {B B' : Nat} (h : Far a B) (hb : B' ≤ B) : Far a B' := fun b off e => Nat.le_trans hb (h b off e)
theorem own_far {w : World} {B E s n cap : Nat} {a : Option Addr} {xs : List Value} (h : w.ownsRow B E s (.slice a n cap) n xs) : Far a B := by
  intro b off e
  subst e
  exact (h.lt b rfl).1
theorem RowS.set_far {s : Nat} {w : World} {a : Option Addr} {n cap p i B : Nat} {f : Nat → Nat → Int} {x : Value} (h : RowS s w a n cap f) (hf : Far a B) (hp : p < B) : RowS s (w.setCell ⟨p, i, none⟩ x) a n cap f := by
  refine ⟨h.1, h.2.1, h.2.2.1, fun h0 => ?_⟩
  obtain ⟨b, off, ha, hb, hc⟩ := h.2.2.2 h0
  have := hf b off ha
  exact ⟨b, off, ha, by simpa using hb, fun i j hi hj => by rw [cell_set_ne (.inl (by omega))]; exact hc i j hi hj⟩
theorem RowS.store5 {s : Nat} {w : World} {a : Option Addr} {n cap p B : Nat} {f : Nat → Nat → Int} {x0 x1 x2 x3 x4 : Value} (h : RowS s w a n cap f) (hf : Far a B) (hp : p < B) : RowS s (store5 w p x0 x1 x2 x3 x4) a n cap f :=
  ((((h.set_far hf hp).set_far hf hp).set_far hf hp).set_far hf hp).set_far hf hp
/-- What holds at the head of each round. -/
def TakeRel (R : PV × Bool) (tags : Int) (w : World) (gk : Nat) (u : World) : Prop :=
  ∃ pi pt nf ff no fo ps fa fc oa oc, gk = nf + 1 ∧ PV.take ⟨pi, pt, nf, ff, no, fo, ps⟩ tags = R ∧ Box u w.heap.size (.int .i64 pi) (.int .i64 pt) (.slice fa nf fc) (.slice oa no oc) (.int .i64 ps) ∧ Box u (w.heap.size + 1) (.int .i64 0) (.int .i64 0) (.slice none 0 0) (.slice none 0 0) (.int .i64 0) ∧ RowS 2 u fa nf fc ff ∧ RowS 3 u oa no oc fo ∧ Far fa (w.heap.size + 2) ∧ Far oa (w.heap.size + 2) ∧ InR nf ff ∧ Below w.heap.size w u ∧ w.heap.size + 1 < u.heap.size
def RetTake (R : PV × Bool) (w : World) (e : Ending) (w' : World) : Prop := ∃ v, e = .returned (.tuple #[v, .bool R.2]) ∧ PoolAt w' v R.1 ∧ Below w.heap.size w w'
/-- The same, where the rows are new, too. -/
def RetTakeF (R : PV × Bool) (w : World) (e : Ending) (w' : World) : Prop := ∃ fa fc oa oc, e = .returned (.tuple #[.agg #[.int .i64 R.1.i, .int .i64 R.1.t, .slice fa R.1.nf fc, .slice oa R.1.no oc, .int .i64 R.1.s], .bool R.2]) ∧ (RowS 2 w' fa R.1.nf fc R.1.ff ∧ RowS 3 w' oa R.1.no oc R.1.fo) ∧ (Far fa w.heap.size ∧ Far oa w.heap.size) ∧ Below w.heap.size w w'

set_option maxRecDepth 100000 in
set_option maxHeartbeats 3200000 in
theorem take_far (v : Value) (P : PV) (tags : Int) (hl : tags ≤ 9223372036854775807) (w : World) (h : PoolAt w v P) (hr : InR P.nf P.ff) : Calls Try.prog 9 #[v, .int .i64 tags] w (RetTakeF (P.take tags) w) := by
  have HP := Lib.hid (fun W hb => (h.below hb : PoolAt W v P))
  have hn1 : P.nf * 16 ≤ 140737488355328 ∧ P.no * 24 ≤ 140737488355328 := by
    obtain ⟨_, _, _, _, _, h1, h2⟩ := h
    have := h1.1
    have := h2.1
    omega
  obtain ⟨fa, fc, oa, oc, rfl, _, _⟩ := h
  obtain ⟨R, hR⟩ : ∃ R, P.take tags = R := ⟨_, rfl⟩
  obtain ⟨pi, pt, nf, ff, no, fo, ps⟩ := P
  dsimp only at HP hr hn1 hR ⊢
  rw [hR]
  have HRE := Lib.hid hR
  have HIN := Lib.hid hr
  have HNN := Lib.hid hn1
  clear hR hr hn1
  have HB0 := Lib.hid (show Below w.heap.size w ((w.alloc (.cells #[.int .i64 pi, .int .i64 pt, .slice fa nf fc, .slice oa no oc, .int .i64 ps] 27)).alloc (.cells #[.int .i64 0, .int .i64 0, .slice none 0 0, .slice none 0 0, .int .i64 0] 27)) from ((Below.refl _ _).alloc (Nat.le_refl _) _).alloc (by simp) _)
  have HX := Lib.hid (show Box ((w.alloc (.cells #[.int .i64 pi, .int .i64 pt, .slice fa nf fc, .slice oa no oc, .int .i64 ps] 27)).alloc (.cells #[.int .i64 0, .int .i64 0, .slice none 0 0, .slice none 0 0, .int .i64 0] 27)) w.heap.size (.int .i64 pi) (.int .i64 pt) (.slice fa nf fc) (.slice oa no oc) (.int .i64 ps) from (Box.new w _).below (by simp) ((Below.refl _ _).alloc (Nat.le_refl _) _))
  have HY := Lib.hid (show Box ((w.alloc (.cells #[.int .i64 pi, .int .i64 pt, .slice fa nf fc, .slice oa no oc, .int .i64 ps] 27)).alloc (.cells #[.int .i64 0, .int .i64 0, .slice none 0 0, .slice none 0 0, .int .i64 0] 27)) (w.heap.size + 1) (.int .i64 0) (.int .i64 0) (.slice none 0 0) (.slice none 0 0) (.int .i64 0) from by have := Box.new (a := .int .i64 0) (b := .int .i64 0) (c := .slice none 0 0) (d := .slice none 0 0) (e := .int .i64 0) (w.alloc (.cells #[.int .i64 pi, .int .i64 pt, .slice fa nf fc, .slice oa no oc, .int .i64 ps] 27)) 27; simpa using this)
  go_enter Try.func9, Try.ntmps9
  go_wp2_with fail
  refine (fresh_any _ _ _ (HP.out _ HB0.out)).mono ?_
  rintro e w1 ⟨fv, ov, rfl, ho, hb⟩
  obtain ⟨af, cf, rfl, hf1⟩ := RowS.of (by have := HNN.out.1; omega) ho.1
  obtain ⟨ao, co, rfl, ho1⟩ := RowS.of (by have := HNN.out.2; omega) ho.2.1
  have hz := size2 hb
  have HFF := Lib.hid (show Far af (w.heap.size + 2) from own_far (ho.1.mono (by simp)))
  have HFO := Lib.hid (show Far ao (w.heap.size + 2) from own_far (ho.2.1.mono (by simp)))
  have HF := Lib.hid hf1
  have HO := Lib.hid ho1
  have HB := Lib.hid (HB0.out.trans (hb.mono HB0.out.size))
  have HX1 := Lib.hid (HX.out.below (by simp; omega) hb)
  have HY1 := Lib.hid (HY.out.below (by simp) hb)
  obtain ⟨c0, c1, c2, c3, c4, cf⟩ := HX1.out
  have cf0 := cf 0
  have cf1 := cf 1
  have cf2 := cf 2
  have cf3 := cf 3
  have cf4 := cf 4
  clear cf
  clear ho hb HX HY HB0 hf1 ho1
  dsimp only at HF HO ⊢
  go_wp2_with fail
  go_loopg [] (nf + 1) (fun gk wr => TakeRel R tags w gk wr)
  case atStart =>
    exact ⟨pi, pt, nf, ff, no, fo, ps, af, cf, ao, co, rfl, HRE.out, HX1.out.store _ _ _ _ _, HY1.out.far (by omega), HF.out.store5 HFF.out (by omega), HO.out.store5 HFO.out (by omega), HFF.out, HFO.out, HIN.out, store5_below HB.out (Nat.le_refl _), by simpa [store5_size] using hz⟩
  case round =>
    obtain ⟨pi, pt, nf, ff, no, fo, ps, fa, fc, oa, oc, rfl, hR, hx, hy, hf, ho, hff, hfo, hin, hb, rz⟩ := hrel
    have HX := Lib.hid hx
    have HY := Lib.hid hy
    have HF := Lib.hid hf
    have HO := Lib.hid ho
    have HFF := Lib.hid hff
    have HFO := Lib.hid hfo
    have HIN := Lib.hid hin
    have HB := Lib.hid hb
    have HRE := Lib.hid hR
    have pz : w.heap.size < wr.heap.size := by omega
    have hnf := hf.1
    clear hR hy hf ho hff hfo hin hb
    obtain ⟨c0, c1, c2, c3, c4, cf⟩ := hx
    have cf0 := cf 0
    have cf1 := cf 1
    have cf2 := cf 2
    have cf3 := cf 3
    have cf4 := cf 4
    clear cf
    by_cases ht : pt = 0
    · subst ht
      have e1 : ((0 : Int) != 0) = false := rfl
      cases nf with
      | zero =>
        go_wp2_with (go_at_call 35; (with_reducible refine (owns_eq pi 0 e1 fa oa 0 fc no oc ps _).mono ?_); rintro e w1 ⟨rfl, hb⟩; have HX1 := Lib.hid (HX.out.below pz hb); have HY1 := Lib.hid (HY.out.below rz hb); have HF1 := Lib.hid (HF.out.below hb); have HO1 := Lib.hid (HO.out.below hb); have HB1 := Lib.hid (HB.out.trans (hb.mono HB.out.size)); have pz1 := Nat.lt_of_lt_of_le pz hb.size; have rz1 := Nat.lt_of_lt_of_le rz hb.size; clear hb c0 c1 c2 c3 c4 cf0 cf1 cf2 cf3 cf4; obtain ⟨c0, c1, c2, c3, c4, cf⟩ := HX1.out; have cf0 := cf 0; have cf1 := cf 1; have cf2 := cf 2; have cf3 := cf 3; have cf4 := cf 4; clear cf)
        go_region_held3 (fun W => W.cell? ⟨w.heap.size, 0, none⟩ = some (.int .i64 pi) ∧ W.cell? ⟨w.heap.size, 1, none⟩ = some (.int .i64 0) ∧ W.cell? ⟨w.heap.size, 2, none⟩ = some (.slice fa 0 fc) ∧ W.cell? ⟨w.heap.size, 3, none⟩ = some (.slice oa no oc) ∧ W.cell? ⟨w.heap.size, 4, none⟩ = some (.int .i64 ps))
          (first | with_reducible exact ⟨c0, c1, c2, c3, c4⟩ | (go_simp; done) | go_keep)
          ((go_at_call 35; (with_reducible refine (owns_eq pi 0 e1 fa oa 0 fc no oc ps _).mono ?_); rintro e w2 ⟨rfl, hb⟩; have HB2 := Lib.hid (show Below w1.heap.size w1 w2 from below_next (by with_reducible refine Below.drew ?_; with_reducible exact Below.refl _ _) hb); have c0 := ((bcell HB2.out).1 _ _ pz1).trans c0; have c1 := ((bcell HB2.out).1 _ _ pz1).trans c1; have c2 := ((bcell HB2.out).1 _ _ pz1).trans c2; have c3 := ((bcell HB2.out).1 _ _ pz1).trans c3; have c4 := ((bcell HB2.out).1 _ _ pz1).trans c4; have HY2 := Lib.hid (HY1.out.below rz1 HB2.out); obtain ⟨d0, d1, d2, d3, d4, df⟩ := HY2.out; have df0 := df 0; have df1 := df 1; have df2 := df 2; have df3 := df 3; have df4 := df 4; clear df; clear hb))
        all_goals go_wp2_with fail
        refine bodyPost_ret (v := .tuple #[.agg #[.int .i64 pi, .int .i64 0, .slice fa 0 fc, .slice oa no oc, .int .i64 ps], .bool false]) ?_ rfl ?_
        · simp only [results, Try.results9]; go_simp
        · rw [show R = (⟨pi, 0, 0, ff, no, fo, ps⟩, false) from HRE.out.symm.trans take_zero]
          exact ⟨fa, fc, oa, oc, rfl, ⟨(HF1.out.below HB2.out).store5 HFF.out (by omega), (HO1.out.below HB2.out).store5 HFO.out (by omega)⟩, ⟨HFF.out.mono (by omega), HFO.out.mono (by omega)⟩, store5_below (HB1.out.trans (HB2.out.mono HB1.out.size)) (by omega)⟩
      | succ n =>
        obtain ⟨b, off, rfl, hbb, hc⟩ := HF.out.get (show 0 < n + 1 by omega)
        have hx0 : wr.cell? ⟨b, off, none⟩ = some (.int .i64 (ff 0 0)) := by simpa using hc 0 0 (by omega) (by omega)
        have hx1 : wr.cell? ⟨b, off + 1, none⟩ = some (.int .i64 (ff 0 1)) := by simpa using hc 0 1 (by omega) (by omega)
        have hfc := HF.out.2.2.1
        have hlo := HIN.out 0 (by omega)
        clear hc
        by_cases hf1 : fc = 1
        · subst hf1
          obtain rfl : n = 0 := by omega
          have HS := Lib.hid (fun W (h : RowS 2 W (some ⟨b, off, none⟩) 1 1 ff) => show RowS 2 W (some ⟨b, off, none⟩) 0 0 (fun i j => ff (i + 1) j) from RowS.none_left rfl)
          have HFS := Lib.hid HFF.out
          cases hok : nOk (ff 0 0) (ff 0 1) tags
          · have HRN := Lib.hid (show PV.take ⟨pi, 0, 0, fun i j => ff (i + 1) j, no, fo, wrap64 (ps + 1)⟩ tags = R from (take_no hok).symm.trans HRE.out)
            have HOK := Lib.hid hok
            clear hok
            go_wp2_with (first
              | (go_at_call 35; (with_reducible refine (owns_eq pi 0 e1 (some ⟨b, off, none⟩) oa 1 1 no oc ps _).mono ?_); rintro e w1 ⟨rfl, hb⟩; have HX1 := Lib.hid (HX.out.below pz hb); have HY1 := Lib.hid (HY.out.below rz hb); have HF1 := Lib.hid (HF.out.below hb); have HO1 := Lib.hid (HO.out.below hb); have HB1 := Lib.hid (HB.out.trans (hb.mono HB.out.size)); have pz1 := Nat.lt_of_lt_of_le pz hb.size; have rz1 := Nat.lt_of_lt_of_le rz hb.size; have x0 := ((bcell hb).1 _ _ hbb).trans hx0; have x1 := ((bcell hb).1 _ _ hbb).trans hx1; clear hb c0 c1 c2 c3 c4 cf0 cf1 cf2 cf3 cf4; obtain ⟨c0, c1, c2, c3, c4, cf⟩ := HX1.out; have cf0 := cf 0; have cf1 := cf 1; have cf2 := cf 2; have cf3 := cf 3; have cf4 := cf 4; clear cf)
              | (go_at_call 36; (with_reducible refine (next_no HOK.out hlo hl _).mono ?_); rintro e w2 ⟨rfl, hb⟩; have hpz : w.heap.size < (w1.setCell ⟨w.heap.size, 2, none⟩ (.slice (some ⟨b, off, none⟩) 0 0)).heap.size := Nat.lt_of_lt_of_le pz1 (Nat.le_of_eq set_size.symm); have hrz : w.heap.size + 1 < (w1.setCell ⟨w.heap.size, 2, none⟩ (.slice (some ⟨b, off, none⟩) 0 0)).heap.size := Nat.lt_of_lt_of_le rz1 (Nat.le_of_eq set_size.symm); have hA := (Below.refl (w1.setCell ⟨w.heap.size, 2, none⟩ (.slice (some ⟨b, off, none⟩) 0 0)).heap.size _).alloc (Nat.le_refl _) (.cells #[.int .i64 (ff 0 0), .int .i64 (ff 0 1)] 57); have hA2 := below_next hA hb; have HX2 := Lib.hid ((HX1.out.set2 (.slice (some ⟨b, off, none⟩) 0 0)).below hpz hA2); have HY2 := Lib.hid ((HY1.out.set_far (i := 2) (x := .slice (some ⟨b, off, none⟩) 0 0) (Nat.ne_of_lt (Nat.lt_succ_self w.heap.size))).below hrz hA2); have HF2 := Lib.hid (((HS.out _ HF1.out).set_far (i := 2) (x := .slice (some ⟨b, off, none⟩) 0 0) HFS.out (show w.heap.size < w.heap.size + 2 by omega)).below hA2); have HO2 := Lib.hid ((HO1.out.set_far (i := 2) (x := .slice (some ⟨b, off, none⟩) 0 0) HFO.out (show w.heap.size < w.heap.size + 2 by omega)).below hA2); have HB2 := Lib.hid ((HB1.out.setCell (Nat.le_refl _) (.slice (some ⟨b, off, none⟩) 0 0)).trans (hA2.mono (Nat.le_of_lt hpz))); have pz2 := Nat.lt_of_lt_of_le hpz hA2.size; have rz2 := Nat.lt_of_lt_of_le hrz hA2.size; clear hb hA hA2 hpz hrz c0 c1 c2 c3 c4 cf0 cf1 cf2 cf3 cf4 x0 x1; obtain ⟨c0, c1, c2, c3, c4, cf⟩ := HX2.out; have cf0 := cf 0; have cf1 := cf 1; have cf2 := cf 2; have cf3 := cf 3; have cf4 := cf 4; clear cf))
            go_roundg (0 + 1)
            case measure => omega
            case rel => exact ⟨pi, 0, 0, fun i j => ff (i + 1) j, no, fo, wrap64 (ps + 1), some ⟨b, off, none⟩, 0, oa, oc, rfl, HRN.out, (HX2.out.set4 _).alloc (by simpa using pz2) _, (HY2.out.set_far (by omega)).alloc (by simpa using rz2) _, (HF2.out.set_far HFS.out (by omega)).alloc _, (HO2.out.set_far HFO.out (by omega)).alloc _, HFS.out, HFO.out, HIN.out.next, (HB2.out.setCell (Nat.le_refl _) _).alloc (by simp; omega) _, by simp; omega⟩
          · have HRN := Lib.hid (show PV.take ⟨ff 0 0, ff 0 1 + 1, 0, fun i j => ff (i + 1) j, no, fo, ps⟩ tags = R from (take_own (show ff 0 1 + 1 ≠ 0 by have := (nOk_iff _ _ _).1 hok; omega)).trans ((take_yes hok).symm.trans HRE.out))
            have HOK := Lib.hid hok
            clear hok
            go_wp2_with (first
              | (go_at_call 35; (with_reducible refine (owns_eq pi 0 e1 (some ⟨b, off, none⟩) oa 1 1 no oc ps _).mono ?_); rintro e w1 ⟨rfl, hb⟩; have HX1 := Lib.hid (HX.out.below pz hb); have HY1 := Lib.hid (HY.out.below rz hb); have HF1 := Lib.hid (HF.out.below hb); have HO1 := Lib.hid (HO.out.below hb); have HB1 := Lib.hid (HB.out.trans (hb.mono HB.out.size)); have pz1 := Nat.lt_of_lt_of_le pz hb.size; have rz1 := Nat.lt_of_lt_of_le rz hb.size; have x0 := ((bcell hb).1 _ _ hbb).trans hx0; have x1 := ((bcell hb).1 _ _ hbb).trans hx1; clear hb c0 c1 c2 c3 c4 cf0 cf1 cf2 cf3 cf4; obtain ⟨c0, c1, c2, c3, c4, cf⟩ := HX1.out; have cf0 := cf 0; have cf1 := cf 1; have cf2 := cf 2; have cf3 := cf 3; have cf4 := cf 4; clear cf)
              | (go_at_call 36; (with_reducible refine (next_yes HOK.out hlo hl _).mono ?_); rintro e w2 ⟨rfl, hb⟩; have hpz : w.heap.size < (w1.setCell ⟨w.heap.size, 2, none⟩ (.slice (some ⟨b, off, none⟩) 0 0)).heap.size := Nat.lt_of_lt_of_le pz1 (Nat.le_of_eq set_size.symm); have hrz : w.heap.size + 1 < (w1.setCell ⟨w.heap.size, 2, none⟩ (.slice (some ⟨b, off, none⟩) 0 0)).heap.size := Nat.lt_of_lt_of_le rz1 (Nat.le_of_eq set_size.symm); have hA := (Below.refl (w1.setCell ⟨w.heap.size, 2, none⟩ (.slice (some ⟨b, off, none⟩) 0 0)).heap.size _).alloc (Nat.le_refl _) (.cells #[.int .i64 (ff 0 0), .int .i64 (ff 0 1)] 57); have hA2 := below_next hA hb; have HX2 := Lib.hid ((HX1.out.set2 (.slice (some ⟨b, off, none⟩) 0 0)).below hpz hA2); have HY2 := Lib.hid ((HY1.out.set_far (i := 2) (x := .slice (some ⟨b, off, none⟩) 0 0) (Nat.ne_of_lt (Nat.lt_succ_self w.heap.size))).below hrz hA2); have HF2 := Lib.hid (((HS.out _ HF1.out).set_far (i := 2) (x := .slice (some ⟨b, off, none⟩) 0 0) HFS.out (show w.heap.size < w.heap.size + 2 by omega)).below hA2); have HO2 := Lib.hid ((HO1.out.set_far (i := 2) (x := .slice (some ⟨b, off, none⟩) 0 0) HFO.out (show w.heap.size < w.heap.size + 2 by omega)).below hA2); have HB2 := Lib.hid ((HB1.out.setCell (Nat.le_refl _) (.slice (some ⟨b, off, none⟩) 0 0)).trans (hA2.mono (Nat.le_of_lt hpz))); have pz2 := Nat.lt_of_lt_of_le hpz hA2.size; have rz2 := Nat.lt_of_lt_of_le hrz hA2.size; clear hb hA hA2 hpz hrz c0 c1 c2 c3 c4 cf0 cf1 cf2 cf3 cf4 x0 x1; obtain ⟨c0, c1, c2, c3, c4, cf⟩ := HX2.out; have cf0 := cf 0; have cf1 := cf 1; have cf2 := cf 2; have cf3 := cf 3; have cf4 := cf 4; clear cf))
            go_roundg (0 + 1)
            case measure => omega
            case rel => exact ⟨ff 0 0, ff 0 1 + 1, 0, fun i j => ff (i + 1) j, no, fo, ps, some ⟨b, off, none⟩, 0, oa, oc, rfl, HRN.out, ((HX2.out.set0 _).set1 _).alloc (by simpa using pz2) _, ((HY2.out.set_far (by omega)).set_far (by omega)).alloc (by simpa using rz2) _, ((HF2.out.set_far HFS.out (by omega)).set_far HFS.out (by omega)).alloc _, ((HO2.out.set_far HFO.out (by omega)).set_far HFO.out (by omega)).alloc _, HFS.out, HFO.out, HIN.out.next, ((HB2.out.setCell (Nat.le_refl _) _).setCell (Nat.le_refl _) _).alloc (by simp; omega) _, by simp; omega⟩
        · have j1 : (1 : Int) < (fc : Int) := by omega
          have j2 : (0 : Int) < (n : Int) + 1 := by omega
          have HS := Lib.hid (fun W (h : RowS 2 W (some ⟨b, off, none⟩) (n + 1) fc ff) => h.shift)
          have HFS := Lib.hid (HFF.out.shift (k := 2))
          cases hok : nOk (ff 0 0) (ff 0 1) tags
          · have HRN := Lib.hid (show PV.take ⟨pi, 0, n, fun i j => ff (i + 1) j, no, fo, wrap64 (ps + 1)⟩ tags = R from (take_no hok).symm.trans HRE.out)
            have HOK := Lib.hid hok
            clear hok
            go_wp2_with (first
              | (go_at_call 35; (with_reducible refine (owns_eq pi 0 e1 (some ⟨b, off, none⟩) oa (n + 1) fc no oc ps _).mono ?_); rintro e w1 ⟨rfl, hb⟩; have HX1 := Lib.hid (HX.out.below pz hb); have HY1 := Lib.hid (HY.out.below rz hb); have HF1 := Lib.hid (HF.out.below hb); have HO1 := Lib.hid (HO.out.below hb); have HB1 := Lib.hid (HB.out.trans (hb.mono HB.out.size)); have pz1 := Nat.lt_of_lt_of_le pz hb.size; have rz1 := Nat.lt_of_lt_of_le rz hb.size; have x0 := ((bcell hb).1 _ _ hbb).trans hx0; have x1 := ((bcell hb).1 _ _ hbb).trans hx1; clear hb c0 c1 c2 c3 c4 cf0 cf1 cf2 cf3 cf4; obtain ⟨c0, c1, c2, c3, c4, cf⟩ := HX1.out; have cf0 := cf 0; have cf1 := cf 1; have cf2 := cf 2; have cf3 := cf 3; have cf4 := cf 4; clear cf)
              | (go_at_call 36; (with_reducible refine (next_no HOK.out hlo hl _).mono ?_); rintro e w2 ⟨rfl, hb⟩; have hpz : w.heap.size < (w1.setCell ⟨w.heap.size, 2, none⟩ (.slice (some ⟨b, (off + 2), none⟩) n (fc - 1))).heap.size := Nat.lt_of_lt_of_le pz1 (Nat.le_of_eq set_size.symm); have hrz : w.heap.size + 1 < (w1.setCell ⟨w.heap.size, 2, none⟩ (.slice (some ⟨b, (off + 2), none⟩) n (fc - 1))).heap.size := Nat.lt_of_lt_of_le rz1 (Nat.le_of_eq set_size.symm); have hA := (Below.refl (w1.setCell ⟨w.heap.size, 2, none⟩ (.slice (some ⟨b, (off + 2), none⟩) n (fc - 1))).heap.size _).alloc (Nat.le_refl _) (.cells #[.int .i64 (ff 0 0), .int .i64 (ff 0 1)] 57); have hA2 := below_next hA hb; have HX2 := Lib.hid ((HX1.out.set2 (.slice (some ⟨b, (off + 2), none⟩) n (fc - 1))).below hpz hA2); have HY2 := Lib.hid ((HY1.out.set_far (i := 2) (x := .slice (some ⟨b, (off + 2), none⟩) n (fc - 1)) (Nat.ne_of_lt (Nat.lt_succ_self w.heap.size))).below hrz hA2); have HF2 := Lib.hid (((HS.out _ HF1.out).set_far (i := 2) (x := .slice (some ⟨b, (off + 2), none⟩) n (fc - 1)) HFS.out (show w.heap.size < w.heap.size + 2 by omega)).below hA2); have HO2 := Lib.hid ((HO1.out.set_far (i := 2) (x := .slice (some ⟨b, (off + 2), none⟩) n (fc - 1)) HFO.out (show w.heap.size < w.heap.size + 2 by omega)).below hA2); have HB2 := Lib.hid ((HB1.out.setCell (Nat.le_refl _) (.slice (some ⟨b, (off + 2), none⟩) n (fc - 1))).trans (hA2.mono (Nat.le_of_lt hpz))); have pz2 := Nat.lt_of_lt_of_le hpz hA2.size; have rz2 := Nat.lt_of_lt_of_le hrz hA2.size; clear hb hA hA2 hpz hrz c0 c1 c2 c3 c4 cf0 cf1 cf2 cf3 cf4 x0 x1; obtain ⟨c0, c1, c2, c3, c4, cf⟩ := HX2.out; have cf0 := cf 0; have cf1 := cf 1; have cf2 := cf 2; have cf3 := cf 3; have cf4 := cf 4; clear cf))
            go_roundg (n + 1)
            case measure => omega
            case rel => exact ⟨pi, 0, n, fun i j => ff (i + 1) j, no, fo, wrap64 (ps + 1), some ⟨b, (off + 2), none⟩, (fc - 1), oa, oc, rfl, HRN.out, (HX2.out.set4 _).alloc (by simpa using pz2) _, (HY2.out.set_far (by omega)).alloc (by simpa using rz2) _, (HF2.out.set_far HFS.out (by omega)).alloc _, (HO2.out.set_far HFO.out (by omega)).alloc _, HFS.out, HFO.out, HIN.out.next, (HB2.out.setCell (Nat.le_refl _) _).alloc (by simp; omega) _, by simp; omega⟩
          · have HRN := Lib.hid (show PV.take ⟨ff 0 0, ff 0 1 + 1, n, fun i j => ff (i + 1) j, no, fo, ps⟩ tags = R from (take_own (show ff 0 1 + 1 ≠ 0 by have := (nOk_iff _ _ _).1 hok; omega)).trans ((take_yes hok).symm.trans HRE.out))
            have HOK := Lib.hid hok
            clear hok
            go_wp2_with (first
              | (go_at_call 35; (with_reducible refine (owns_eq pi 0 e1 (some ⟨b, off, none⟩) oa (n + 1) fc no oc ps _).mono ?_); rintro e w1 ⟨rfl, hb⟩; have HX1 := Lib.hid (HX.out.below pz hb); have HY1 := Lib.hid (HY.out.below rz hb); have HF1 := Lib.hid (HF.out.below hb); have HO1 := Lib.hid (HO.out.below hb); have HB1 := Lib.hid (HB.out.trans (hb.mono HB.out.size)); have pz1 := Nat.lt_of_lt_of_le pz hb.size; have rz1 := Nat.lt_of_lt_of_le rz hb.size; have x0 := ((bcell hb).1 _ _ hbb).trans hx0; have x1 := ((bcell hb).1 _ _ hbb).trans hx1; clear hb c0 c1 c2 c3 c4 cf0 cf1 cf2 cf3 cf4; obtain ⟨c0, c1, c2, c3, c4, cf⟩ := HX1.out; have cf0 := cf 0; have cf1 := cf 1; have cf2 := cf 2; have cf3 := cf 3; have cf4 := cf 4; clear cf)
              | (go_at_call 36; (with_reducible refine (next_yes HOK.out hlo hl _).mono ?_); rintro e w2 ⟨rfl, hb⟩; have hpz : w.heap.size < (w1.setCell ⟨w.heap.size, 2, none⟩ (.slice (some ⟨b, (off + 2), none⟩) n (fc - 1))).heap.size := Nat.lt_of_lt_of_le pz1 (Nat.le_of_eq set_size.symm); have hrz : w.heap.size + 1 < (w1.setCell ⟨w.heap.size, 2, none⟩ (.slice (some ⟨b, (off + 2), none⟩) n (fc - 1))).heap.size := Nat.lt_of_lt_of_le rz1 (Nat.le_of_eq set_size.symm); have hA := (Below.refl (w1.setCell ⟨w.heap.size, 2, none⟩ (.slice (some ⟨b, (off + 2), none⟩) n (fc - 1))).heap.size _).alloc (Nat.le_refl _) (.cells #[.int .i64 (ff 0 0), .int .i64 (ff 0 1)] 57); have hA2 := below_next hA hb; have HX2 := Lib.hid ((HX1.out.set2 (.slice (some ⟨b, (off + 2), none⟩) n (fc - 1))).below hpz hA2); have HY2 := Lib.hid ((HY1.out.set_far (i := 2) (x := .slice (some ⟨b, (off + 2), none⟩) n (fc - 1)) (Nat.ne_of_lt (Nat.lt_succ_self w.heap.size))).below hrz hA2); have HF2 := Lib.hid (((HS.out _ HF1.out).set_far (i := 2) (x := .slice (some ⟨b, (off + 2), none⟩) n (fc - 1)) HFS.out (show w.heap.size < w.heap.size + 2 by omega)).below hA2); have HO2 := Lib.hid ((HO1.out.set_far (i := 2) (x := .slice (some ⟨b, (off + 2), none⟩) n (fc - 1)) HFO.out (show w.heap.size < w.heap.size + 2 by omega)).below hA2); have HB2 := Lib.hid ((HB1.out.setCell (Nat.le_refl _) (.slice (some ⟨b, (off + 2), none⟩) n (fc - 1))).trans (hA2.mono (Nat.le_of_lt hpz))); have pz2 := Nat.lt_of_lt_of_le hpz hA2.size; have rz2 := Nat.lt_of_lt_of_le hrz hA2.size; clear hb hA hA2 hpz hrz c0 c1 c2 c3 c4 cf0 cf1 cf2 cf3 cf4 x0 x1; obtain ⟨c0, c1, c2, c3, c4, cf⟩ := HX2.out; have cf0 := cf 0; have cf1 := cf 1; have cf2 := cf 2; have cf3 := cf 3; have cf4 := cf 4; clear cf))
            go_roundg (n + 1)
            case measure => omega
            case rel => exact ⟨ff 0 0, ff 0 1 + 1, n, fun i j => ff (i + 1) j, no, fo, ps, some ⟨b, (off + 2), none⟩, (fc - 1), oa, oc, rfl, HRN.out, ((HX2.out.set0 _).set1 _).alloc (by simpa using pz2) _, ((HY2.out.set_far (by omega)).set_far (by omega)).alloc (by simpa using rz2) _, ((HF2.out.set_far HFS.out (by omega)).set_far HFS.out (by omega)).alloc _, ((HO2.out.set_far HFO.out (by omega)).set_far HFO.out (by omega)).alloc _, HFS.out, HFO.out, HIN.out.next, ((HB2.out.setCell (Nat.le_refl _) _).setCell (Nat.le_refl _) _).alloc (by simp; omega) _, by simp; omega⟩
    · have e1 : (pt != 0) = true := by simp [ht]
      have HT := Lib.hid ht
      clear ht
      go_wp2_with (go_at_call 35; (with_reducible refine (owns_eq pi pt e1 fa oa nf fc no oc ps _).mono ?_); rintro e w1 ⟨rfl, hb⟩; have HX1 := Lib.hid (HX.out.below pz hb); have HY1 := Lib.hid (HY.out.below rz hb); have HF1 := Lib.hid (HF.out.below hb); have HO1 := Lib.hid (HO.out.below hb); have HB1 := Lib.hid (HB.out.trans (hb.mono HB.out.size)); have pz1 := Nat.lt_of_lt_of_le pz hb.size; have rz1 := Nat.lt_of_lt_of_le rz hb.size; clear hb c0 c1 c2 c3 c4 cf0 cf1 cf2 cf3 cf4; obtain ⟨c0, c1, c2, c3, c4, cf⟩ := HX1.out; have cf0 := cf 0; have cf1 := cf 1; have cf2 := cf 2; have cf3 := cf 3; have cf4 := cf 4; clear cf)
      go_region_held3 (fun W => W.cell? ⟨w.heap.size, 0, none⟩ = some (.int .i64 pi) ∧ W.cell? ⟨w.heap.size, 1, none⟩ = some (.int .i64 pt) ∧ W.cell? ⟨w.heap.size, 2, none⟩ = some (.slice fa nf fc) ∧ W.cell? ⟨w.heap.size, 3, none⟩ = some (.slice oa no oc) ∧ W.cell? ⟨w.heap.size, 4, none⟩ = some (.int .i64 ps))
        (first | with_reducible exact ⟨c0, c1, c2, c3, c4⟩ | (go_simp; done) | go_keep)
        ((go_at_call 35; (with_reducible refine (owns_eq pi pt e1 fa oa nf fc no oc ps _).mono ?_); rintro e w2 ⟨rfl, hb⟩; have HB2 := Lib.hid (show Below w1.heap.size w1 w2 from below_next (by with_reducible refine Below.drew ?_; with_reducible exact Below.refl _ _) hb); have c0 := ((bcell HB2.out).1 _ _ pz1).trans c0; have c1 := ((bcell HB2.out).1 _ _ pz1).trans c1; have c2 := ((bcell HB2.out).1 _ _ pz1).trans c2; have c3 := ((bcell HB2.out).1 _ _ pz1).trans c3; have c4 := ((bcell HB2.out).1 _ _ pz1).trans c4; have HY2 := Lib.hid (HY1.out.below rz1 HB2.out); obtain ⟨d0, d1, d2, d3, d4, df⟩ := HY2.out; have df0 := df 0; have df1 := df 1; have df2 := df 2; have df3 := df 3; have df4 := df 4; clear df; clear hb))
      all_goals go_wp2_with fail
      refine bodyPost_ret (v := .tuple #[.agg #[.int .i64 pi, .int .i64 pt, .slice fa nf fc, .slice oa no oc, .int .i64 ps], .bool true]) ?_ rfl ?_
      · simp only [results, Try.results9]; go_simp
      · rw [show R = (⟨pi, pt, nf, ff, no, fo, ps⟩, true) from HRE.out.symm.trans (take_own HT.out)]
        exact ⟨fa, fc, oa, oc, rfl, ⟨(HF1.out.below HB2.out).store5 HFF.out (by omega), (HO1.out.below HB2.out).store5 HFO.out (by omega)⟩, ⟨HFF.out.mono (by omega), HFO.out.mono (by omega)⟩, store5_below (HB1.out.trans (HB2.out.mono HB1.out.size)) (by omega)⟩
theorem take_any (v : Value) (P : PV) (tags : Int) (hl : tags ≤ 9223372036854775807) (w : World) (h : PoolAt w v P) (hr : InR P.nf P.ff) : Calls Try.prog 9 #[v, .int .i64 tags] w (RetTake (P.take tags) w) :=
  (take_far v P tags hl w h hr).mono fun _ _ ⟨fa, fc, oa, oc, he, hr, _, hb⟩ => ⟨_, he, ⟨fa, fc, oa, oc, rfl, hr.1, hr.2⟩, hb⟩
end Go.Proofs.Ytmaijjjhjkaoeaa
