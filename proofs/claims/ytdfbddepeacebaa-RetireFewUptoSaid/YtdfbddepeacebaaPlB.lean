/- Pools: how they read, and what makes them anew: fresh, and the reference's Copy. -/
import Derived.Test.YtdfbddepeacebaaPlA
import Derived.Deep.RegionWith
import Derived.Deep.RegionHeld3
namespace Go.Proofs.Ytdfbddepeacebaa
open Go.ChangeShapes Go.WideShapes Go.ChangeAt Go.RowKit Go.Joins

theorem abstract_code {P : Program} {c : Code} {Q : Exit → Act → World → Prop} {a : Act} {W : World} (A : World → Prop) (hA : A W) (h : ∀ W', A W' → Code.wp P c Q a W') : Code.wp P c Q a W := h W hA
theorem below_grownBy {w w' : World} (h : Below w.heap.size w w') (row : Option Nat) : w.grownBy w' row := ⟨h.os, h.tape, h.output, h.size, fun k hk _ => h.block k hk⟩
theorem own_below {w w' : World} {B E s n : Nat} {v : Value} {xs : List Value} (h : w.ownsRow B E s v n xs) (hb : Below w.heap.size w w') : w'.ownsRow B E s v n xs :=
  h.kept (below_grownBy hb none) (by cases hv : v.ownBlock <;> simp)
theorem below_next {a W w3 : World} (h : Below a.heap.size a W) (hb : Below W.heap.size W w3) : Below a.heap.size a w3 := h.trans (hb.mono h.size)
theorem own_form {w : World} {B E s n : Nat} {v : Value} {xs : List Value} (h : w.ownsRow B E s v n xs) : ∃ a cap, v = .slice a n cap := by
  rcases h.2 with ⟨rfl, rfl⟩ | ⟨g, cap, cur, rfl, _⟩
  · exact ⟨_, _, rfl⟩
  · exact ⟨_, _, rfl⟩
theorem own_ne_symm {x y : Option Nat} (h : x = none ∨ x ≠ y) : y = none ∨ y ≠ x := by
  rcases h with rfl | h
  · cases y
    · exact .inl rfl
    · exact .inr (fun e => by cases e)
  · exact .inr (fun e => h e.symm)
theorem own_ne {w w' : World} {B E E' s s' n n' : Nat} {v v' : Value} {xs ys : List Value} (h : w.ownsRow B E s v n xs) (h' : w'.ownsRow w.heap.size E' s' v' n' ys) : v.ownBlock = none ∨ v.ownBlock ≠ v'.ownBlock := by
  cases hv : v.ownBlock with
  | none => exact .inl rfl
  | some g =>
    right
    intro e
    have h1 := (h.lt g hv).2
    have h2 := (h'.lt g e.symm).1
    omega

/-- A pool. -/
structure PV where
  i : Int
  t : Int
  nf : Nat
  ff : Nat → Nat → Int
  no : Nat
  fo : Nat → Nat → Int
  s : Int
/-- 'v' reads as a pool. -/
def PoolAt (w : World) (v : Value) (P : PV) : Prop :=
  ∃ fa fc oa oc, v = .agg #[.int .i64 P.i, .int .i64 P.t, .slice fa P.nf fc, .slice oa P.no oc, .int .i64 P.s] ∧ RowS 2 w fa P.nf fc P.ff ∧ RowS 3 w oa P.no oc P.fo
theorem PoolAt.below {w w' : World} {v : Value} {P : PV} (h : PoolAt w v P) (hb : Below w.heap.size w w') : PoolAt w' v P := by
  obtain ⟨fa, fc, oa, oc, hv, h1, h2⟩ := h
  exact ⟨fa, fc, oa, oc, hv, h1.below hb, h2.below hb⟩
/-- 'fv' and 'ov' are a pool's rows, of the call's own, in blocks of their own. -/
def PoolOwn (B : Nat) (w : World) (fv ov : Value) (P : PV) : Prop :=
  w.ownsRow B 46 2 fv P.nf (flatL 2 P.ff P.nf) ∧ w.ownsRow B 44 3 ov P.no (flatL 3 P.fo P.no) ∧ (fv.ownBlock = none ∨ fv.ownBlock ≠ ov.ownBlock)
def RetPool (B : Nat) (P : PV) (w : World) (e : Ending) (w' : World) : Prop :=
  ∃ fv ov, e = .returned (.agg #[.int .i64 P.i, .int .i64 P.t, fv, ov, .int .i64 P.s]) ∧ PoolOwn B w' fv ov P ∧ Below B w w'
theorem PoolOwn.at {B : Nat} {w : World} {fv ov : Value} {P : PV} (h : PoolOwn B w fv ov P) (h1 : P.nf * 16 ≤ 140737488355328) (h2 : P.no * 24 ≤ 140737488355328) : PoolAt w (.agg #[.int .i64 P.i, .int .i64 P.t, fv, ov, .int .i64 P.s]) P := by
  obtain ⟨fa, fc, rfl, hf⟩ := RowS.of (by omega) h.1
  obtain ⟨oa, oc, rfl, ho⟩ := RowS.of (by omega) h.2.1
  exact ⟨fa, fc, oa, oc, rfl, hf, ho⟩

set_option maxRecDepth 100000 in
set_option maxHeartbeats 6400000 in
theorem fresh_any (v : Value) (P : PV) (w : World) (h : PoolAt w v P) : Calls Try.prog 35 #[v] w (RetPool w.heap.size P w) := by
  obtain ⟨fa, fc, oa, oc, rfl, hf, ho⟩ := h
  have HF := Lib.hid hf
  have HO := Lib.hid ho
  clear hf ho
  obtain ⟨pi, pt, nf, ff, no, fo, ps⟩ := P
  dsimp only at HF HO ⊢
  go_enter Try.func35, Try.ntmps35
  go_wp2
  refine abstract_code (fun u => (u.cell? ⟨w.heap.size, 0, none⟩ = some (.int .i64 pi) ∧ u.cell? ⟨w.heap.size, 1, none⟩ = some (.int .i64 pt) ∧ u.cell? ⟨w.heap.size, 2, none⟩ = some (.slice fa nf fc) ∧ u.cell? ⟨w.heap.size, 3, none⟩ = some (.slice oa no oc) ∧ u.cell? ⟨w.heap.size, 4, none⟩ = some (.int .i64 ps)) ∧ (u.frozen? ⟨w.heap.size, 2, none⟩ = false ∧ u.frozen? ⟨w.heap.size, 3, none⟩ = false) ∧ ((u.cell? ⟨w.heap.size + 1, 0, none⟩ = some (.int .i64 0) ∧ u.cell? ⟨w.heap.size + 1, 1, none⟩ = some (.int .i64 0) ∧ u.cell? ⟨w.heap.size + 1, 2, none⟩ = some (.slice none 0 0) ∧ u.cell? ⟨w.heap.size + 1, 3, none⟩ = some (.slice none 0 0) ∧ u.cell? ⟨w.heap.size + 1, 4, none⟩ = some (.int .i64 0)) ∧ (∀ i, u.frozen? ⟨w.heap.size + 1, i, none⟩ = false)) ∧ RowS 2 u fa nf fc ff ∧ RowS 3 u oa no oc fo ∧ Below w.heap.size w u ∧ w.heap.size + 2 ≤ u.heap.size) ?_ ?_
  · have hB : Below w.heap.size w ((w.alloc (.cells #[.int .i64 pi, .int .i64 pt, .slice fa nf fc, .slice oa no oc, .int .i64 ps] 27)).alloc (.cells #[.int .i64 0, .int .i64 0, .slice none 0 0, .slice none 0 0, .int .i64 0] 27)) := ((Below.refl _ _).alloc (Nat.le_refl _) _).alloc (by simp) _
    refine ⟨⟨by go_simp, by go_simp, by go_simp, by go_simp, by go_simp⟩, ⟨by go_simp, by go_simp⟩, ⟨⟨by go_simp, by go_simp, by go_simp, by go_simp, by go_simp⟩, fun i => by go_simp⟩, HF.out.below hB, HO.out.below hB, hB, by simp⟩
  rintro u ⟨⟨q0, q1, q2, q3, q4⟩, ⟨f2, f3⟩, ⟨⟨r0, r1, r2, r3, r4⟩, rf⟩, hf, ho, hB, hz⟩
  have HFU := Lib.hid hf
  have HOU := Lib.hid ho
  have HBU := Lib.hid hB
  have RF := Lib.hid rf
  have pz : w.heap.size < u.heap.size := by omega
  have rz : w.heap.size + 1 < u.heap.size := by omega
  clear hf ho hB rf
  generalize w.heap.size = p at *
  go_region_with (first
    | (go_at_call 43; (with_reducible refine (clone_slot_any fa nf fc ff _ (HFU.out.below ?_)).mono ?_); (first | with_reducible exact HB1.out | with_reducible exact HB2.out | with_reducible exact Below.refl _ _ | (with_reducible refine Below.drew ?_; with_reducible exact Below.refl _ _)); rintro e w1 ⟨fv, rfl, ho1, hb1⟩; obtain ⟨af, cf, rfl⟩ := own_form ho1; have HB1 := Lib.hid (show Below u.heap.size u w1 from below_next (by (first | with_reducible exact HB1.out | with_reducible exact HB2.out | with_reducible exact Below.refl _ _ | (with_reducible refine Below.drew ?_; with_reducible exact Below.refl _ _))) hb1); (first | (have HN := Lib.hid (own_ne_symm (own_ne HOO.out ho1)); have HOO := Lib.hid (own_below HOO.out hb1)) | skip); have HOF := Lib.hid ho1; have hz1 := HB1.out.size; have a0 := ((bcell HB1.out).1 _ _ pz).trans q0; have a1 := ((bcell HB1.out).1 _ _ pz).trans q1; have a2 := ((bcell HB1.out).1 _ _ pz).trans q2; have a3 := ((bcell HB1.out).1 _ _ pz).trans q3; have a4 := ((bcell HB1.out).1 _ _ pz).trans q4; have a5 := ((bcell HB1.out).2 _ _ pz).trans f2; have a6 := ((bcell HB1.out).2 _ _ pz).trans f3; have a10 := ((bcell HB1.out).1 _ _ rz).trans r0; have a11 := ((bcell HB1.out).1 _ _ rz).trans r1; have a12 := ((bcell HB1.out).1 _ _ rz).trans r2; have a13 := ((bcell HB1.out).1 _ _ rz).trans r3; have a14 := ((bcell HB1.out).1 _ _ rz).trans r4; have a20 := ((bcell HB1.out).2 (p + 1) 0 rz).trans (RF.out 0); have a21 := ((bcell HB1.out).2 (p + 1) 1 rz).trans (RF.out 1); have a22 := ((bcell HB1.out).2 (p + 1) 2 rz).trans (RF.out 2); have a23 := ((bcell HB1.out).2 (p + 1) 3 rz).trans (RF.out 3); have a24 := ((bcell HB1.out).2 (p + 1) 4 rz).trans (RF.out 4); clear ho1 hb1)
    | (go_at_call 44; (with_reducible refine (clone_old_any oa no oc fo _ (HOU.out.below ?_)).mono ?_); (first | with_reducible exact HB1.out | with_reducible exact HB2.out | with_reducible exact Below.refl _ _ | (with_reducible refine Below.drew ?_; with_reducible exact Below.refl _ _)); rintro e w2 ⟨ov, rfl, ho2, hb2⟩; obtain ⟨ao, co, rfl⟩ := own_form ho2; have HB2 := Lib.hid (show Below u.heap.size u w2 from below_next (by (first | with_reducible exact HB1.out | with_reducible exact HB2.out | with_reducible exact Below.refl _ _ | (with_reducible refine Below.drew ?_; with_reducible exact Below.refl _ _))) hb2); (first | (have HN := Lib.hid (own_ne HOF.out ho2); have HOF := Lib.hid (own_below HOF.out hb2)) | skip); have HOO := Lib.hid ho2; have hz2 := HB2.out.size; have b0 := ((bcell HB2.out).1 _ _ pz).trans q0; have b1 := ((bcell HB2.out).1 _ _ pz).trans q1; have b2 := ((bcell HB2.out).1 _ _ pz).trans q2; have b3 := ((bcell HB2.out).1 _ _ pz).trans q3; have b4 := ((bcell HB2.out).1 _ _ pz).trans q4; have b5 := ((bcell HB2.out).2 _ _ pz).trans f2; have b6 := ((bcell HB2.out).2 _ _ pz).trans f3; have b10 := ((bcell HB2.out).1 _ _ rz).trans r0; have b11 := ((bcell HB2.out).1 _ _ rz).trans r1; have b12 := ((bcell HB2.out).1 _ _ rz).trans r2; have b13 := ((bcell HB2.out).1 _ _ rz).trans r3; have b14 := ((bcell HB2.out).1 _ _ rz).trans r4; have b20 := ((bcell HB2.out).2 (p + 1) 0 rz).trans (RF.out 0); have b21 := ((bcell HB2.out).2 (p + 1) 1 rz).trans (RF.out 1); have b22 := ((bcell HB2.out).2 (p + 1) 2 rz).trans (RF.out 2); have b23 := ((bcell HB2.out).2 (p + 1) 3 rz).trans (RF.out 3); have b24 := ((bcell HB2.out).2 (p + 1) 4 rz).trans (RF.out 4); clear ho2 hb2))
  all_goals go_wp2
  all_goals refine bodyPost_ret (v := .agg #[.int .i64 pi, .int .i64 pt, .slice af nf cf, .slice ao no co, .int .i64 ps]) ?_ rfl ⟨_, _, rfl, ⟨?_, ?_, HN.out⟩, ?_⟩
  all_goals first
    | (simp only [results, Try.results35]; go_simp; done)
    | (refine World.ownsRow.mono (base := u.heap.size) ?_ (by omega); refine ownsRow_setCell_below (ownsRow_setCell_below (ownsRow_setCell_below (ownsRow_setCell_below (ownsRow_setCell_below (ownsRow_setCell_below (ownsRow_setCell_below ?_ ?_ _) ?_ _) ?_ _) ?_ _) ?_ _) ?_ _) ?_ _ <;> first | (simp; done) | exact pz | exact rz | exact HOF.out.mono (by simp; done) | exact HOF.out.mono hz1 | exact HOF.out.mono hz2 | exact HOO.out.mono (by simp; done) | exact HOO.out.mono hz2 | exact HOO.out.mono hz1)
    | (refine Below.setCell (Below.setCell (Below.setCell (Below.setCell (Below.setCell (Below.setCell (Below.setCell (HBU.out.trans ?_) ?_ _) ?_ _) ?_ _) ?_ _) ?_ _) ?_ _) ?_ _ <;> first | exact HB2.out.mono (by omega) | exact HB1.out.mono (by omega) | (simp; done) | (simp; omega))
end Go.Proofs.Ytdfbddepeacebaa
