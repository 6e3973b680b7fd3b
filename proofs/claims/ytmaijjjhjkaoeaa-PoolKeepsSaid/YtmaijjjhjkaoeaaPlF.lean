/- Contracts of Away and of the reference's, over the seat's program. -/
import Derived.Test.YtmaijjjhjkaoeaaPlE
import Derived.OneCell
namespace Go.Proofs.Ytmaijjjhjkaoeaa
open Go.ChangeShapes Go.WideShapes Go.ChangeAt Go.RowKit Go.Joins

theorem size3 {w w1 : World} {o p q : Go.Obj} (hb : Below (((w.alloc o).alloc p).alloc q).heap.size (((w.alloc o).alloc p).alloc q) w1) : w.heap.size + 2 < w1.heap.size := by
  have h := hb.size
  simp at h
  omega
theorem Box.grown {w w' : World} {q : Nat} {a b c d e : Value} {row : Option Nat} (h : Box w q a b c d e) (hg : w.grownBy w' row) (hq : q < w.heap.size) (hne : some q ≠ row) : Box w' q a b c d e := by
  obtain ⟨h0, h1, h2, h3, h4, hf⟩ := h
  have hc : ∀ i, w'.cell? ⟨q, i, none⟩ = w.cell? ⟨q, i, none⟩ := fun i => hg.cell_far ⟨q, i, none⟩ hq hne
  exact ⟨(hc 0).trans h0, (hc 1).trans h1, (hc 2).trans h2, (hc 3).trans h3, (hc 4).trans h4, fun i => (hg.frozen_far ⟨q, i, none⟩ hq hne).trans (hf i)⟩
/-- A pool into which a node is put away. -/
def PV.away (P : PV) (ri rt st : Int) : PV := ⟨P.i, P.t, P.nf, P.ff, P.no + 1, fun i j => if i = P.no then (if j = 0 then ri else if j = 1 then rt else st) else P.fo i j, P.s⟩
theorem flat_away (fo : Nat → Nat → Int) (n : Nat) (ri rt st : Int) : flatL 3 (fun i j => if i = n then (if j = 0 then ri else if j = 1 then rt else st) else fo i j) (n + 1) = flatL 3 fo n ++ [.int .i64 ri, .int .i64 rt, .int .i64 st] := by
  rw [flat3_succ, flatL_same (g := fo) (fun i j hi _ => by rw [if_neg (by omega)])]
  simp
theorem own_app {w : World} {B E s n : Nat} {v v' : Value} {xs : List Value} {gg : Nat} {cap' m : Nat} (h : w.ownsRow B E s v n xs) (hN : v.ownBlock = none ∨ v.ownBlock ≠ v'.ownBlock) (hat : v'.ownBlock = some gg ∨ gg = w.heap.size + 1) : v.ownBlock = none ∨ v.ownBlock ≠ (Value.slice (some ⟨gg, 0, none⟩) m cap').ownBlock := by
  cases hv : v.ownBlock with
  | none => exact .inl rfl
  | some k =>
    right
    have hk := (h.lt k hv).2
    rw [hv] at hN
    intro e
    have e : k = gg := by simpa [Value.ownBlock] using e
    rcases hat with h1 | h1
    · rcases hN with h2 | h2
      · cases h2
      · exact h2 (by rw [h1, e])
    · omega

theorem own_away {w : World} {B gg cap' : Nat} {P : PV} {ri rt st : Int} (h : w.ownsRow B 40 3 (.slice (some ⟨gg, 0, none⟩) (P.no + 1) cap') (P.no + 1) (flatL 3 P.fo P.no ++ [.int .i64 ri, .int .i64 rt, .int .i64 st])) :
    w.ownsRow B 40 3 (.slice (some ⟨gg, 0, none⟩) (P.no + 1) cap') (P.away ri rt st).no (flatL 3 (P.away ri rt st).fo (P.away ri rt st).no) := by
  show w.ownsRow B 40 3 _ (P.no + 1) (flatL 3 (fun i j => if i = P.no then (if j = 0 then ri else if j = 1 then rt else st) else P.fo i j) (P.no + 1))
  rw [flat_away]
  exact h
theorem size_grown {w w' : World} {o : Go.Obj} {row : Option Nat} (h : (w.alloc o).grownBy w' row) : w.heap.size + 1 ≤ w'.heap.size := by
  have := h.size
  simp at this
  omega
theorem set_below_own {w : World} {B p i E s n : Nat} {v x : Value} {xs : List Value} (h : w.ownsRow B E s v n xs) (hp : p < B) : (w.setCell ⟨p, i, none⟩ x).ownsRow B E s v n xs := ownsRow_setCell_below h hp _

set_option maxRecDepth 100000 in
set_option maxHeartbeats 1600000 in
theorem away_any (v : Value) (P : PV) (ri rt st : Int) (w : World) (h : PoolAt w v P) (hno : P.no * 24 ≤ 140737488351232) : Calls Try.prog 17 #[v, .agg #[.int .i64 ri, .int .i64 rt], .int .i64 st] w (RetPool w.heap.size (P.away ri rt st) w) := by
  obtain ⟨i0, hi0, hz0, hz1, hz2⟩ := info_parts Try.info_old
  have HI := Lib.hid (And.intro hi0 (And.intro hz0 (And.intro hz1 hz2)))
  clear hi0 hz0 hz1 hz2
  have HP := Lib.hid (fun W hb => (h.below hb : PoolAt W v P))
  obtain ⟨fa, fc, oa, oc, rfl, _, _⟩ := h
  obtain ⟨pi, pt, nf, ff, no, fo, ps⟩ := P
  dsimp only at HP hno ⊢
  have HB0 := Lib.hid (show Below w.heap.size w (((w.alloc (.cells #[.int .i64 pi, .int .i64 pt, .slice fa nf fc, .slice oa no oc, .int .i64 ps] 27)).alloc (.cells #[.int .i64 ri, .int .i64 rt] 23)).alloc (.cells #[.int .i64 0, .int .i64 0, .slice none 0 0, .slice none 0 0, .int .i64 0] 27)) from (((Below.refl _ _).alloc (Nat.le_refl _) _).alloc (by simp) _).alloc (by simp; omega) _)
  have HX := Lib.hid (show Box (((w.alloc (.cells #[.int .i64 pi, .int .i64 pt, .slice fa nf fc, .slice oa no oc, .int .i64 ps] 27)).alloc (.cells #[.int .i64 ri, .int .i64 rt] 23)).alloc (.cells #[.int .i64 0, .int .i64 0, .slice none 0 0, .slice none 0 0, .int .i64 0] 27)) w.heap.size (.int .i64 pi) (.int .i64 pt) (.slice fa nf fc) (.slice oa no oc) (.int .i64 ps) from (Box.new w _).below (by simp) (((Below.refl _ _).alloc (Nat.le_refl _) _).alloc (by simp) _))
  have HY := Lib.hid (show Box (((w.alloc (.cells #[.int .i64 pi, .int .i64 pt, .slice fa nf fc, .slice oa no oc, .int .i64 ps] 27)).alloc (.cells #[.int .i64 ri, .int .i64 rt] 23)).alloc (.cells #[.int .i64 0, .int .i64 0, .slice none 0 0, .slice none 0 0, .int .i64 0] 27)) (w.heap.size + 2) (.int .i64 0) (.int .i64 0) (.slice none 0 0) (.slice none 0 0) (.int .i64 0) from by have := Box.new (a := .int .i64 0) (b := .int .i64 0) (c := .slice none 0 0) (d := .slice none 0 0) (e := .int .i64 0) ((w.alloc (.cells #[.int .i64 pi, .int .i64 pt, .slice fa nf fc, .slice oa no oc, .int .i64 ps] 27)).alloc (.cells #[.int .i64 ri, .int .i64 rt] 23)) 27; simpa using this)
  have HR := Lib.hid (show (((w.alloc (.cells #[.int .i64 pi, .int .i64 pt, .slice fa nf fc, .slice oa no oc, .int .i64 ps] 27)).alloc (.cells #[.int .i64 ri, .int .i64 rt] 23)).alloc (.cells #[.int .i64 0, .int .i64 0, .slice none 0 0, .slice none 0 0, .int .i64 0] 27)).cell? ⟨w.heap.size + 1, 0, none⟩ = some (.int .i64 ri) ∧ (((w.alloc (.cells #[.int .i64 pi, .int .i64 pt, .slice fa nf fc, .slice oa no oc, .int .i64 ps] 27)).alloc (.cells #[.int .i64 ri, .int .i64 rt] 23)).alloc (.cells #[.int .i64 0, .int .i64 0, .slice none 0 0, .slice none 0 0, .int .i64 0] 27)).cell? ⟨w.heap.size + 1, 1, none⟩ = some (.int .i64 rt) from ⟨by go_simp, by go_simp⟩)
  go_enter Try.func17, Try.ntmps17
  go_wp2_with fail
  refine (fresh_any _ _ _ (HP.out _ HB0.out)).mono ?_
  rintro e w1 ⟨fv, ov, rfl, ho, hb⟩
  obtain ⟨af, cf, rfl⟩ := own_form ho.1
  obtain ⟨ao, co, rfl⟩ := own_form ho.2.1
  have HO := Lib.hid ho
  have hz := size3 hb
  have HB := Lib.hid (HB0.out.trans (hb.mono HB0.out.size))
  have HX1 := Lib.hid (HX.out.below (by simp; omega) hb)
  have HY1 := Lib.hid (HY.out.below (by simp) hb)
  have HR1 := Lib.hid (show w1.cell? ⟨w.heap.size + 1, 0, none⟩ = some (.int .i64 ri) ∧ w1.cell? ⟨w.heap.size + 1, 1, none⟩ = some (.int .i64 rt) from ⟨((bcell hb).1 _ _ (by simp)).trans HR.out.1, ((bcell hb).1 _ _ (by simp)).trans HR.out.2⟩)
  obtain ⟨c0, c1, c2, c3, c4, cf⟩ := HX1.out
  have cf0 := cf 0
  have cf1 := cf 1
  have cf2 := cf 2
  have cf3 := cf 3
  have cf4 := cf 4
  clear cf
  clear ho hb HX HY HB0 HR
  dsimp only at HO ⊢
  go_upto_region 2 with (fail)
  refine abstract_code (fun u => Box u w.heap.size (.int .i64 pi) (.int .i64 pt) (.slice af nf cf) (.slice ao no co) (.int .i64 ps) ∧ Box u (w.heap.size + 2) (.int .i64 0) (.int .i64 0) (.slice none 0 0) (.slice none 0 0) (.int .i64 0) ∧ (u.cell? ⟨w.heap.size + 1, 0, none⟩ = some (.int .i64 ri) ∧ u.cell? ⟨w.heap.size + 1, 1, none⟩ = some (.int .i64 rt)) ∧ PoolOwn (w.heap.size + 3) u (.slice af nf cf) (.slice ao no co) ⟨pi, pt, nf, ff, no, fo, ps⟩ ∧ Below w.heap.size w u ∧ w.heap.size + 2 < u.heap.size) ⟨HX1.out.store _ _ _ _ _, HY1.out.far (by omega), ⟨(by first | (go_simp; done) | (go_simp; exact HR1.out.1)), (by first | (go_simp; done) | (go_simp; exact HR1.out.2))⟩, ⟨store5_own (HO.out.1.mono (by simp)) (by omega), store5_own (HO.out.2.1.mono (by simp)) (by omega), HO.out.2.2⟩, store5_below HB.out (Nat.le_refl _), by simpa [store5_size] using hz⟩ ?_
  rintro u ⟨hx, hy, ⟨r0, r1⟩, ho, hb, hu⟩
  have HO2 := Lib.hid ho
  have HB2 := Lib.hid hb
  have HX2 := Lib.hid hx
  have HY2 := Lib.hid hy
  clear c0 c1 c2 c3 c4 cf0 cf1 cf2 cf3 cf4 HX1 HY1 HB HO HR1 hz ho hb
  obtain ⟨c0, c1, c2, c3, c4, cf⟩ := hx
  have cf0 := cf 0
  have cf1 := cf 1
  have cf2 := cf 2
  have cf3 := cf 3
  have cf4 := cf 4
  clear cf
  have u0 : w.heap.size < u.heap.size := by omega
  have u1 : w.heap.size + 1 < u.heap.size := by omega
  go_wp2_with (at_builtin; go_loud (refine wpList_append_lies _ rfl _ _ _ rfl (w.heap.size + 3) 40 i0 _ 3 24 Try.underlying25 HI.out.1 HI.out.2.1 HI.out.2.2.1 HI.out.2.2.2 rfl (by omega) (.slice ao no co) no (flatL 3 fo no) rfl (HO2.out.2.1.alloc _) ⟨u.heap.size, 0, none⟩ 1 1 [.int .i64 ri, .int .i64 rt, .int .i64 st] rfl rfl (World.news_of_block (cs := #[.int .i64 ri, .int .i64 rt, .int .i64 st]) (t := 40) (fr := (0, 0)) (heap_alloc_new u _)) (by simp [Value.oneCell']) (by omega) (by unfold maxLen; omega) (by omega) (by simp; omega) (u.heap.size + 1) (by simp) ?_; intro gg cap' w2 hown2 hgrow hat hlt'; have hne : ∀ q, q < w.heap.size + 3 → some q ≠ (Value.slice ao no co).ownBlock := fun q hq e => absurd (HO2.out.2.1.lt q e.symm).1 (by omega); have HX3 := Lib.hid ((HX2.out.below u0 ((Below.refl _ _).alloc (Nat.le_refl _) _)).grown hgrow (by simp; omega) (hne _ (by omega))); have HY3 := Lib.hid ((HY2.out.below (by omega) ((Below.refl _ _).alloc (Nat.le_refl _) _)).grown hgrow (by simp; omega) (hne _ (by omega))); have HO3 := Lib.hid (show PoolOwn (w.heap.size + 3) w2 (.slice af nf cf) (.slice (some ⟨gg, 0, none⟩) (no + 1) cap') (PV.away ⟨pi, pt, nf, ff, no, fo, ps⟩ ri rt st) from ⟨(HO2.out.1.alloc _).kept hgrow HO2.out.2.2, own_away (P := ⟨pi, pt, nf, ff, no, fo, ps⟩) hown2, own_app HO2.out.1 HO2.out.2.2 hat⟩); have HB3 := Lib.hid (Below.grown (HB2.out.alloc (Nat.le_of_lt u0) _) hgrow (by simp; omega) (fun j hj => Nat.le_trans (Nat.le_add_right _ 3) (HO2.out.2.1.lt j hj).1)); have hw2 := size_grown hgrow; clear hne c0 c1 c2 c3 c4 cf0 cf1 cf2 cf3 cf4 r0 r1 hown2 hgrow hat; obtain ⟨c0, c1, c2, c3, c4, cf⟩ := HX3.out; have cf0 := cf 0; have cf1 := cf 1; have cf2 := cf 2; have cf3 := cf 3; have cf4 := cf 4; obtain ⟨d0, d1, d2, d3, d4, df⟩ := HY3.out; have df0 := df 0; have df1 := df 1; have df2 := df 2; have df3 := df 3; have df4 := df 4; clear cf df))
  refine bodyPost_ret (v := .agg #[.int .i64 pi, .int .i64 pt, .slice af nf cf, .slice (some ⟨gg, 0, none⟩) (no + 1) cap', .int .i64 ps]) ?_ rfl ⟨_, _, rfl, ⟨?_, ?_, HO3.out.2.2⟩, ?_⟩
  · simp only [results, Try.results17]; go_simp
  · exact World.ownsRow.mono (store5_own (set_below_own HO3.out.1 (by omega)) (by omega)) (by omega)
  · exact World.ownsRow.mono (store5_own (set_below_own HO3.out.2.1 (by omega)) (by omega)) (by omega)
  · exact store5_below (HB3.out.setCell (Nat.le_refl _) _) (by omega)

theorem own_not_q {ov : Value} {gg n q m cap' : Nat} (hat : ov.ownBlock = some gg ∨ gg = n + 1) (hq : ov.ownBlock ≠ some q) (hn : q < n) : (Value.slice (some ⟨gg, 0, none⟩) m cap').ownBlock ≠ some q := by
  intro e
  have e : gg = q := by simpa [Value.ownBlock] using e
  rcases hat with h | h
  · exact hq (by rw [h, e])
  · omega

set_option maxRecDepth 100000 in
set_option maxHeartbeats 1600000 in
theorem raway_any (v : Value) (P : PV) (ri rt st : Int) (w : World) (h : PoolAt w v P) (hno : P.no * 24 ≤ 140737488351232) : Calls Try.prog 18 #[v, .agg #[.int .i64 ri, .int .i64 rt], .int .i64 st] w (RetPool w.heap.size (P.away ri rt st) w) := by
  obtain ⟨i0, hi0, hz0, hz1, hz2⟩ := info_parts Try.info_old
  have HI := Lib.hid (And.intro hi0 (And.intro hz0 (And.intro hz1 hz2)))
  clear hi0 hz0 hz1 hz2
  have HP := Lib.hid (fun W hb => (h.below hb : PoolAt W v P))
  obtain ⟨fa, fc, oa, oc, rfl, _, _⟩ := h
  obtain ⟨pi, pt, nf, ff, no, fo, ps⟩ := P
  dsimp only at HP hno ⊢
  have HB0 := Lib.hid (show Below w.heap.size w (((w.alloc (.cells #[.int .i64 pi, .int .i64 pt, .slice fa nf fc, .slice oa no oc, .int .i64 ps] 27)).alloc (.cells #[.int .i64 ri, .int .i64 rt] 23)).alloc (.cells #[.int .i64 0, .int .i64 0, .slice none 0 0, .slice none 0 0, .int .i64 0] 27)) from (((Below.refl _ _).alloc (Nat.le_refl _) _).alloc (by simp) _).alloc (by simp; omega) _)
  have HY := Lib.hid (show Box (((w.alloc (.cells #[.int .i64 pi, .int .i64 pt, .slice fa nf fc, .slice oa no oc, .int .i64 ps] 27)).alloc (.cells #[.int .i64 ri, .int .i64 rt] 23)).alloc (.cells #[.int .i64 0, .int .i64 0, .slice none 0 0, .slice none 0 0, .int .i64 0] 27)) (w.heap.size + 2) (.int .i64 0) (.int .i64 0) (.slice none 0 0) (.slice none 0 0) (.int .i64 0) from by have := Box.new (a := .int .i64 0) (b := .int .i64 0) (c := .slice none 0 0) (d := .slice none 0 0) (e := .int .i64 0) ((w.alloc (.cells #[.int .i64 pi, .int .i64 pt, .slice fa nf fc, .slice oa no oc, .int .i64 ps] 27)).alloc (.cells #[.int .i64 ri, .int .i64 rt] 23)) 27; simpa using this)
  have HR := Lib.hid (show (((w.alloc (.cells #[.int .i64 pi, .int .i64 pt, .slice fa nf fc, .slice oa no oc, .int .i64 ps] 27)).alloc (.cells #[.int .i64 ri, .int .i64 rt] 23)).alloc (.cells #[.int .i64 0, .int .i64 0, .slice none 0 0, .slice none 0 0, .int .i64 0] 27)).cell? ⟨w.heap.size + 1, 0, none⟩ = some (.int .i64 ri) ∧ (((w.alloc (.cells #[.int .i64 pi, .int .i64 pt, .slice fa nf fc, .slice oa no oc, .int .i64 ps] 27)).alloc (.cells #[.int .i64 ri, .int .i64 rt] 23)).alloc (.cells #[.int .i64 0, .int .i64 0, .slice none 0 0, .slice none 0 0, .int .i64 0] 27)).cell? ⟨w.heap.size + 1, 1, none⟩ = some (.int .i64 rt) from ⟨by go_simp, by go_simp⟩)
  go_enter Try.func18, Try.ntmps18
  go_wp2_with fail
  refine (rcopy_any _ _ _ (HP.out _ HB0.out)).mono ?_
  rintro e w1 ⟨fv, ov, rfl, ho, hb⟩
  obtain ⟨af, cf, rfl⟩ := own_form ho.1
  obtain ⟨ao, co, rfl⟩ := own_form ho.2.1
  have HO := Lib.hid ho
  have hz := size3 hb
  have HB := Lib.hid (HB0.out.trans (hb.mono HB0.out.size))
  have HY1 := Lib.hid (HY.out.below (by simp) hb)
  have HR1 := Lib.hid (show w1.cell? ⟨w.heap.size + 1, 0, none⟩ = some (.int .i64 ri) ∧ w1.cell? ⟨w.heap.size + 1, 1, none⟩ = some (.int .i64 rt) from ⟨((bcell hb).1 _ _ (by simp)).trans HR.out.1, ((bcell hb).1 _ _ (by simp)).trans HR.out.2⟩)
  have HQ := Lib.hid (show (Value.slice af nf cf).ownBlock ≠ some w1.heap.size ∧ (Value.slice ao no co).ownBlock ≠ some w1.heap.size from ⟨fun e => absurd (ho.1.lt _ e).2 (by omega), fun e => absurd (ho.2.1.lt _ e).2 (by omega)⟩)
  clear ho hb HY HB0 HR
  dsimp only at HO ⊢
  go_upto_region 2 with (fail)
  have hA : Below w1.heap.size w1 (w1.alloc (.cells #[.int .i64 pi, .int .i64 pt, .slice af nf cf, .slice ao no co, .int .i64 ps] 27)) := (Below.refl _ _).alloc (Nat.le_refl _) _
  refine abstract_code (fun u => Box u w1.heap.size (.int .i64 pi) (.int .i64 pt) (.slice af nf cf) (.slice ao no co) (.int .i64 ps) ∧ Box u (w.heap.size + 2) (.int .i64 0) (.int .i64 0) (.slice none 0 0) (.slice none 0 0) (.int .i64 0) ∧ (u.cell? ⟨w.heap.size + 1, 0, none⟩ = some (.int .i64 ri) ∧ u.cell? ⟨w.heap.size + 1, 1, none⟩ = some (.int .i64 rt)) ∧ PoolOwn (w.heap.size + 3) u (.slice af nf cf) (.slice ao no co) ⟨pi, pt, nf, ff, no, fo, ps⟩ ∧ Below w.heap.size w u ∧ w1.heap.size < u.heap.size) ⟨Box.new w1 _, HY1.out.below (by omega) hA, ⟨((bcell hA).1 _ _ (by omega)).trans HR1.out.1, ((bcell hA).1 _ _ (by omega)).trans HR1.out.2⟩, ⟨(HO.out.1.mono (by simp)).alloc _, (HO.out.2.1.mono (by simp)).alloc _, HO.out.2.2⟩, HB.out.alloc (by omega) _, by simp⟩ ?_
  rintro u ⟨hx, hy, ⟨r0, r1⟩, ho, hb, qz⟩
  have HO2 := Lib.hid ho
  have HB2 := Lib.hid hb
  have HX2 := Lib.hid hx
  have HY2 := Lib.hid hy
  clear HY1 HB HO HR1 ho hb hA
  generalize w1.heap.size = q at *
  obtain ⟨c0, c1, c2, c3, c4, cf⟩ := hx
  have cf0 := cf 0
  have cf1 := cf 1
  have cf2 := cf 2
  have cf3 := cf 3
  have cf4 := cf 4
  clear cf
  have u0 : w.heap.size < u.heap.size := by omega
  have u1 : w.heap.size + 1 < u.heap.size := by omega
  go_wp2_with (at_builtin; go_loud (refine wpList_append_lies _ rfl _ _ _ rfl (w.heap.size + 3) 40 i0 _ 3 24 Try.underlying25 HI.out.1 HI.out.2.1 HI.out.2.2.1 HI.out.2.2.2 rfl (by omega) (.slice ao no co) no (flatL 3 fo no) rfl (HO2.out.2.1.alloc _) ⟨u.heap.size, 0, none⟩ 1 1 [.int .i64 ri, .int .i64 rt, .int .i64 st] rfl rfl (World.news_of_block (cs := #[.int .i64 ri, .int .i64 rt, .int .i64 st]) (t := 40) (fr := (0, 0)) (heap_alloc_new u _)) (by simp [Value.oneCell']) (by omega) (by unfold maxLen; omega) (by omega) (by simp; omega) (u.heap.size + 1) (by simp) ?_; intro gg cap' w2 hown2 hgrow hat hlt'; have hne : ∀ q, q < w.heap.size + 3 → some q ≠ (Value.slice ao no co).ownBlock := fun q hq e => absurd (HO2.out.2.1.lt q e.symm).1 (by omega); have HX3 := Lib.hid ((HX2.out.below qz ((Below.refl _ _).alloc (Nat.le_refl _) _)).grown hgrow (by simp; omega) (fun e => HQ.out.2 e.symm)); have HY3 := Lib.hid ((HY2.out.below (by omega) ((Below.refl _ _).alloc (Nat.le_refl _) _)).grown hgrow (by simp; omega) (hne _ (by omega))); have HO3 := Lib.hid (show PoolOwn (w.heap.size + 3) w2 (.slice af nf cf) (.slice (some ⟨gg, 0, none⟩) (no + 1) cap') (PV.away ⟨pi, pt, nf, ff, no, fo, ps⟩ ri rt st) from ⟨(HO2.out.1.alloc _).kept hgrow HO2.out.2.2, own_away (P := ⟨pi, pt, nf, ff, no, fo, ps⟩) hown2, own_app HO2.out.1 HO2.out.2.2 hat⟩); have HB3 := Lib.hid (Below.grown (HB2.out.alloc (Nat.le_of_lt u0) _) hgrow (by simp; omega) (fun j hj => Nat.le_trans (Nat.le_add_right _ 3) (HO2.out.2.1.lt j hj).1)); have hw2 := size_grown hgrow; have HG := Lib.hid (own_not_q (m := no + 1) (cap' := cap') hat HQ.out.2 qz); clear hne c0 c1 c2 c3 c4 cf0 cf1 cf2 cf3 cf4 r0 r1 hown2 hgrow hat; obtain ⟨c0, c1, c2, c3, c4, cf⟩ := HX3.out; have cf0 := cf 0; have cf1 := cf 1; have cf2 := cf 2; have cf3 := cf 3; have cf4 := cf 4; obtain ⟨d0, d1, d2, d3, d4, df⟩ := HY3.out; have df0 := df 0; have df1 := df 1; have df2 := df 2; have df3 := df 3; have df4 := df 4; clear cf df))
  refine bodyPost_ret (v := .agg #[.int .i64 pi, .int .i64 pt, .slice af nf cf, .slice (some ⟨gg, 0, none⟩) (no + 1) cap', .int .i64 ps]) ?_ rfl ⟨_, _, rfl, ⟨?_, ?_, HO3.out.2.2⟩, ?_⟩
  · simp only [results, Try.results18]; go_simp
  · exact World.ownsRow.mono (store5_own (ownsRow_setCell_other HO3.out.1 HQ.out.1 _) (by omega)) (by omega)
  · exact World.ownsRow.mono (store5_own (ownsRow_setCell_other HO3.out.2.1 HG.out _) (by omega)) (by omega)
  · exact store5_below (HB3.out.setCell (show w.heap.size ≤ q by omega) _) (by omega)
end Go.Proofs.Ytmaijjjhjkaoeaa
