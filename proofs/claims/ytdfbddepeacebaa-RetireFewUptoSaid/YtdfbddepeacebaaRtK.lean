/- The contract of Back, asked by whatever test, over the seat's program. -/
import Derived.Test.YtdfbddepeacebaaRtJ
import Derived.Deep.RegionLaw
namespace Go.Proofs.Ytdfbddepeacebaa
open Go.ChangeShapes Go.WideShapes Go.ChangeAt Go.RowKit Go.Joins

/-- A pool with one free node more. -/
def PV.push (P : PV) (x y : Int) : PV := ⟨P.i, P.t, P.nf + 1, fun i j => if i = P.nf then (if j = 0 then x else y) else P.ff i j, P.no, P.fo, P.s⟩
/-- A pool behind so many nodes that were put away, of which those that are marked come back. -/
def PV.back (P : PV) (g : Nat → Bool) : Nat → PV
  | 0 => ⟨P.i, P.t, P.nf, P.ff, 0, fun _ _ => 0, P.s⟩
  | k + 1 => if g k = true then (PV.back P g k).push (P.fo k 0) (P.fo k 1) else (PV.back P g k).away (P.fo k 0) (P.fo k 1) (P.fo k 2)
theorem back_same (P : PV) (g : Nat → Bool) (k : Nat) : (P.back g k).i = P.i ∧ (P.back g k).t = P.t ∧ (P.back g k).s = P.s := by
  induction k with
  | zero => exact ⟨rfl, rfl, rfl⟩
  | succ k ih =>
    simp only [PV.back]
    split
    · exact ih
    · exact ih
theorem back_count (P : PV) (g : Nat → Bool) (k : Nat) : (P.back g k).nf + (P.back g k).no = P.nf + k := by
  induction k with
  | zero => rfl
  | succ k ih =>
    simp only [PV.back]
    split
    · show (P.back g k).nf + 1 + (P.back g k).no = _
      omega
    · show (P.back g k).nf + ((P.back g k).no + 1) = _
      omega
theorem back_no (P : PV) (g : Nat → Bool) (k : Nat) : (P.back g k).no ≤ k := by
  induction k with
  | zero => exact Nat.le_refl _
  | succ k ih =>
    simp only [PV.back]
    split
    · show (P.back g k).no ≤ _
      omega
    · show (P.back g k).no + 1 ≤ _
      omega
theorem flat_push (ff : Nat → Nat → Int) (n : Nat) (x y : Int) : flatL 2 (fun i j => if i = n then (if j = 0 then x else y) else ff i j) (n + 1) = flatL 2 ff n ++ [.int .i64 x, .int .i64 y] := by
  rw [flat2_succ, flatL_same (g := ff) (fun i j hi _ => by rw [if_neg (by omega)])]
  simp
theorem own_push {w : World} {B gg cap' : Nat} {P : PV} {x y : Int} (h : w.ownsRow B 46 2 (.slice (some ⟨gg, 0, none⟩) (P.nf + 1) cap') (P.nf + 1) (flatL 2 P.ff P.nf ++ [.int .i64 x, .int .i64 y])) :
    w.ownsRow B 46 2 (.slice (some ⟨gg, 0, none⟩) (P.nf + 1) cap') (P.push x y).nf (flatL 2 (P.push x y).ff (P.push x y).nf) := by
  show w.ownsRow B 46 2 _ (P.nf + 1) (flatL 2 (fun i j => if i = P.nf then (if j = 0 then x else y) else P.ff i j) (P.nf + 1))
  rw [flat_push]
  exact h
def Dist (v v' : Value) : Prop := v.ownBlock = none ∨ v.ownBlock ≠ v'.ownBlock
theorem Dist.symm {v v' : Value} (h : Dist v v') : Dist v' v := own_ne_symm h
theorem Dist.app {w : World} {B E s n : Nat} {v v' : Value} {xs : List Value} {gg cap' m : Nat} (h : w.ownsRow B E s v n xs) (hN : Dist v v') (hat : v'.ownBlock = some gg ∨ w.heap.size ≤ gg) : Dist v (.slice (some ⟨gg, 0, none⟩) m cap') := by
  unfold Dist
  cases hv : v.ownBlock with
  | none => exact .inl rfl
  | some k =>
    right
    have hk := (h.lt k hv).2
    unfold Dist at hN
    rw [hv] at hN
    intro e
    have e : k = gg := by simpa [Value.ownBlock] using e
    rcases hat with h1 | h1
    · rcases hN with h2 | h2
      · cases h2
      · exact h2 (by rw [h1, e])
    · omega
theorem heap_new3 (w : World) (a b c : Go.Obj) : (((w.alloc a).alloc b).alloc c).heap[w.heap.size + 1 + 1]? = some c := by
  have := heap_alloc_new ((w.alloc a).alloc b) c
  simpa using this
theorem grown3 (w : World) (a b c : Go.Obj) (row : Option Nat) : w.grownBy (((w.alloc a).alloc b).alloc c).drew row := by
  have h : w.grownBy (((w.alloc a).alloc b).alloc c) row := (World.grownBy_alloc w a row).trans ((World.grownBy_alloc _ b row).trans (World.grownBy_alloc _ c row))
  exact ⟨h.os, h.tape, h.output, h.size, h.block⟩

/-- What holds at the head of each round. -/
def BackRel (P : PV) (g : Nat → Bool) (oa : Option Addr) (oc k : Nat) (w : World) (lv : Value) (u : World) : Prop :=
  ∃ fa fc, Box u w.heap.size (.int .i64 P.i) (.int .i64 P.t) (.slice fa (P.back g k).nf fc) (.slice oa P.no oc) (.int .i64 P.s) ∧ Box u (w.heap.size + 1) (.int .i64 0) (.int .i64 0) (.slice none 0 0) (.slice none 0 0) (.int .i64 0) ∧
    u.ownsRow (w.heap.size + 2) 46 2 (.slice fa (P.back g k).nf fc) (P.back g k).nf (flatL 2 (P.back g k).ff (P.back g k).nf) ∧ u.ownsRow (w.heap.size + 2) 44 3 (.slice oa P.no oc) P.no (flatL 3 P.fo P.no) ∧
    u.ownsRow (w.heap.size + 2) 44 3 lv (P.back g k).no (flatL 3 (P.back g k).fo (P.back g k).no) ∧ Dist (.slice fa (P.back g k).nf fc) (.slice oa P.no oc) ∧ Dist lv (.slice oa P.no oc) ∧ Dist (.slice fa (P.back g k).nf fc) lv ∧ Below w.heap.size w u ∧ w.heap.size + 1 < u.heap.size
def RetBack (P : PV) (m : Int) (w : World) (e : Ending) (w' : World) : Prop :=
  ∃ fv ov, e = .returned (.tuple #[.agg #[.int .i64 P.i, .int .i64 P.t, fv, ov, .int .i64 P.s], .int .i64 m]) ∧ PoolOwn w.heap.size w' fv ov P ∧ Below w.heap.size w w'

set_option maxRecDepth 100000 in
set_option maxHeartbeats 6400000 in
theorem back_any (v tv : Value) (P : PV) (g : Nat → Bool) (hsum : (P.nf + P.no) * 16 ≤ 140737488355328) (w : World) (h : PoolAt w v P)
    (hT : ∀ k W, k < P.no → Below w.heap.size w W → Calls Try.prog 36 #[tv, .agg #[.int .i64 (P.fo k 0), .int .i64 (P.fo k 1), .int .i64 (P.fo k 2)]] W fun e w' => e = .returned (.bool (g k)) ∧ Below W.heap.size W w') :
    Calls Try.prog 26 #[v, tv] w (RetBack (P.back g P.no) ((P.no : Int) - (P.back g P.no).no) w) := by
  obtain ⟨t1, hi0, hz0, hz1, hz2⟩ := info_parts Try.info_slot
  have HI1 := Lib.hid (And.intro hi0 (And.intro hz0 (And.intro hz1 hz2)))
  clear hi0 hz0 hz1 hz2
  obtain ⟨t2, hi0, hz0, hz1, hz2⟩ := info_parts Try.info_old
  have HI2 := Lib.hid (And.intro hi0 (And.intro hz0 (And.intro hz1 hz2)))
  clear hi0 hz0 hz1 hz2
  have HT := Lib.hid hT
  have HP := Lib.hid (fun W hb => (h.below hb : PoolAt W v P))
  have hno : P.no * 24 ≤ 140737488355328 := by
    obtain ⟨_, _, _, _, _, _, h2⟩ := h
    have := h2.1
    omega
  obtain ⟨fa, fc, oa, oc, rfl, _, _⟩ := h
  have HB0 := Lib.hid (show Below w.heap.size w ((w.alloc (.cells #[.int .i64 P.i, .int .i64 P.t, .slice fa P.nf fc, .slice oa P.no oc, .int .i64 P.s] 27)).alloc (.cells #[.int .i64 0, .int .i64 0, .slice none 0 0, .slice none 0 0, .int .i64 0] 27)) from ((Below.refl _ _).alloc (Nat.le_refl _) _).alloc (by simp) _)
  have HX := Lib.hid (show Box ((w.alloc (.cells #[.int .i64 P.i, .int .i64 P.t, .slice fa P.nf fc, .slice oa P.no oc, .int .i64 P.s] 27)).alloc (.cells #[.int .i64 0, .int .i64 0, .slice none 0 0, .slice none 0 0, .int .i64 0] 27)) w.heap.size (.int .i64 P.i) (.int .i64 P.t) (.slice fa P.nf fc) (.slice oa P.no oc) (.int .i64 P.s) from (Box.new w _).below (by simp) ((Below.refl _ _).alloc (Nat.le_refl _) _))
  have HY := Lib.hid (show Box ((w.alloc (.cells #[.int .i64 P.i, .int .i64 P.t, .slice fa P.nf fc, .slice oa P.no oc, .int .i64 P.s] 27)).alloc (.cells #[.int .i64 0, .int .i64 0, .slice none 0 0, .slice none 0 0, .int .i64 0] 27)) (w.heap.size + 1) (.int .i64 0) (.int .i64 0) (.slice none 0 0) (.slice none 0 0) (.int .i64 0) from by have := Box.new (a := .int .i64 0) (b := .int .i64 0) (c := .slice none 0 0) (d := .slice none 0 0) (e := .int .i64 0) (w.alloc (.cells #[.int .i64 P.i, .int .i64 P.t, .slice fa P.nf fc, .slice oa P.no oc, .int .i64 P.s] 27)) 27; simpa using this)
  clear hT
  go_enter Try.func26, Try.ntmps26
  go_wp2_with fail
  refine (fresh_any _ P _ (HP.out _ HB0.out)).mono ?_
  rintro e w1 ⟨fv, ov, rfl, ho, hb⟩
  obtain ⟨af, cf, rfl⟩ := own_form ho.1
  obtain ⟨ao, co, rfl⟩ := own_form ho.2.1
  have HO := Lib.hid ho
  have hz := size2 hb
  have HB := Lib.hid (HB0.out.trans (hb.mono HB0.out.size))
  have HX1 := Lib.hid (HX.out.below (by simp; omega) hb)
  have HY1 := Lib.hid (HY.out.below (by simp) hb)
  obtain ⟨c0, c1, c2, c3, c4, cf⟩ := HX1.out
  have cf0 := cf 0
  have cf1 := cf 1
  have cf2 := cf 2
  have cf3 := cf 3
  have cf4 := cf 4
  clear cf
  clear ho hb HX HY HB0
  go_wp2_with fail
  go_loopw [6, 15] (fun lv i wr => ∃ k : Nat, k ≤ P.no ∧ i = .int .i64 k ∧ BackRel P g ao co k w lv wr) (fun _ i _ => P.no - (intOf i).toNat)
  case atStart =>
    exact ⟨0, Nat.zero_le _, rfl, af, cf, HX1.out.store _ _ _ _ _, HY1.out.far (by omega), store5_own (HO.out.1.mono (by simp)) (by omega), store5_own (HO.out.2.1.mono (by simp)) (by omega), World.ownsRow_nil _ _ _ _, HO.out.2.2, .inl rfl, own_nil, store5_below HB.out (Nat.le_refl _), by simpa [store5_size] using hz⟩
  case round =>
    obtain ⟨k, hk, rfl, fa', fc', hx, hy, hof, hoo, hol, d1, d2, d3, hb, hz2⟩ := hrel
    have HXk := Lib.hid hx
    have HYk := Lib.hid hy
    have HOF := Lib.hid hof
    have HOO := Lib.hid hoo
    have HOL := Lib.hid hol
    have HD := Lib.hid (And.intro d1 (And.intro d2 d3))
    have HBk := Lib.hid hb
    have HSC := Lib.hid (back_count P g k)
    clear hy hof hoo hol d1 d2 d3 hb
    obtain ⟨c0, c1, c2, c3, c4, cf⟩ := hx
    have cf0 := cf 0
    have cf1 := cf 1
    have cf2 := cf 2
    have cf3 := cf 3
    have cf4 := cf 4
    clear cf
    have u0 : w.heap.size < wr.heap.size := by omega
    rcases Nat.lt_or_ge k P.no with hkn | hkn
    · have hk1 : (k : Int) < P.no := by omega
      obtain ⟨oa', oc', hov, HOR⟩ := RowS.of (by omega) HOO.out
      cases hov
      obtain ⟨blk, off, rfl, hbb, hcc⟩ := HOR.get hkn
      have x0 : wr.cell? ⟨blk, off + k * 3, none⟩ = some (.int .i64 (P.fo k 0)) := by simpa using hcc k 0 hkn (by omega)
      have x1 := hcc k 1 hkn (by omega)
      have x2 := hcc k 2 hkn (by omega)
      clear hcc
      go_wp2_with fail
      refine (HT.out k _ hkn (HBk.out.alloc (Nat.le_of_lt u0) _)).mono ?_
      rintro e w3 ⟨rfl, hb3⟩
      have HB3 := Lib.hid ((HBk.out.alloc (Nat.le_of_lt u0) (.cells #[.int .i64 (P.fo k 0), .int .i64 (P.fo k 1), .int .i64 (P.fo k 2)] 44)).trans (hb3.mono (by simp; omega)))
      have e0 : w3.cell? ⟨wr.heap.size, 0, none⟩ = some (.int .i64 (P.fo k 0)) := ((bcell hb3).1 _ _ (by simp)).trans (by go_simp)
      have e1 : w3.cell? ⟨wr.heap.size, 1, none⟩ = some (.int .i64 (P.fo k 1)) := ((bcell hb3).1 _ _ (by simp)).trans (by go_simp)
      have e2 : w3.cell? ⟨wr.heap.size, 2, none⟩ = some (.int .i64 (P.fo k 2)) := ((bcell hb3).1 _ _ (by simp)).trans (by go_simp)
      have HX3 := Lib.hid ((HXk.out.below u0 ((Below.refl _ _).alloc (Nat.le_refl _) (.cells #[.int .i64 (P.fo k 0), .int .i64 (P.fo k 1), .int .i64 (P.fo k 2)] 44))).below (by simp; omega) hb3)
      have HY3 := Lib.hid ((HYk.out.below hz2 ((Below.refl _ _).alloc (Nat.le_refl _) (.cells #[.int .i64 (P.fo k 0), .int .i64 (P.fo k 1), .int .i64 (P.fo k 2)] 44))).below (by simp; omega) hb3)
      have HOF3 := Lib.hid (own_below (HOF.out.alloc _) hb3)
      have HOO3 := Lib.hid (own_below (HOO.out.alloc _) hb3)
      have HOL3 := Lib.hid (own_below (HOL.out.alloc _) hb3)
      have hz3 := size1 hb3
      have hn1 : (P.back g k).nf + (P.back g k).no = P.nf + k := HSC.out
      have hn2 := back_no P g k
      have HG := Lib.hid (show P.back g (k + 1) = if g k = true then (P.back g k).push (P.fo k 0) (P.fo k 1) else (P.back g k).away (P.fo k 0) (P.fo k 1) (P.fo k 2) from rfl)
      clear c0 c1 c2 c3 c4 cf0 cf1 cf2 cf3 cf4 x0 x1 x2 hb3 HXk HYk HOF HOO HOL HBk HSC HX1 HY1 HO HB HP HT hbb
      generalize P.back g k = Q at *
      have u3 : w.heap.size < w3.heap.size := by omega
      have v3 : w.heap.size + 1 < w3.heap.size := by omega
      generalize wr.heap.size = q at *
      obtain ⟨c0, c1, c2, c3, c4, cf⟩ := HX3.out
      have cf0 := cf 0
      have cf1 := cf 1
      have cf2 := cf 2
      have cf3 := cf 3
      have cf4 := cf 4
      clear cf
      obtain ⟨d1, d2, d3⟩ := HD.out
      have D1 := Lib.hid d1
      have D2 := Lib.hid d2
      have D3 := Lib.hid d3
      clear d1 d2 d3
      cases hg : g k
      · have HG2 := Lib.hid (HG.out.trans (if_neg (by simp [hg])))
        obtain ⟨la, lc, rfl⟩ := own_form HOL3.out
        go_wp2_with (at_builtin; go_loud (refine wpList_append_lies _ rfl _ _ _ rfl (w.heap.size + 2) 44 t2 _ 3 24 Try.underlying25 HI2.out.1 HI2.out.2.1 HI2.out.2.2.1 HI2.out.2.2.2 rfl (by omega) (.slice la Q.no lc) Q.no (flatL 3 Q.fo Q.no) rfl (HOL3.out.alloc _) ⟨w3.heap.size, 0, none⟩ 1 1 [.int .i64 (P.fo k 0), .int .i64 (P.fo k 1), .int .i64 (P.fo k 2)] rfl rfl (World.news_of_block (cs := #[.int .i64 (P.fo k 0), .int .i64 (P.fo k 1), .int .i64 (P.fo k 2)]) (t := 44) (fr := (0, 0)) (heap_alloc_new w3 _)) (by simp [Value.oneCell']) (by omega) (by unfold maxLen; omega) (by omega) (by simp; omega) (w3.heap.size + 1) (by simp) ?_; intro gg cap' w4 hown hgrow hat hlt'; have hg4 : w3.grownBy w4 _ := (World.grownBy_alloc w3 _ _).trans hgrow; have hat' : (Value.slice la Q.no lc).ownBlock = some gg ∨ w3.heap.size ≤ gg := hat.imp id (fun h => by omega); have HX4 := Lib.hid (HX3.out.grown hg4 u3 (fun e => absurd (HOL3.out.lt _ e.symm).1 (by omega))); have HY4 := Lib.hid (HY3.out.grown hg4 v3 (fun e => absurd (HOL3.out.lt _ e.symm).1 (by omega))); have HOF4 := Lib.hid (HOF3.out.kept hg4 D3.out); have HOO4 := Lib.hid (HOO3.out.kept hg4 D2.out.symm); have HOL4 := Lib.hid (own_away hown); have D24 := Lib.hid (Dist.app HOO3.out D2.out.symm hat' (m := Q.no + 1) (cap' := cap')).symm; have D34 := Lib.hid (Dist.app HOF3.out D3.out hat' (m := Q.no + 1) (cap' := cap')); have HB4 := Lib.hid (Below.grown HB3.out hg4 (by omega) (fun j hj => Nat.le_trans (Nat.le_add_right _ 2) (HOL3.out.lt j hj).1)); have hsz := hg4.size; clear hown hgrow hat hat' hg4 c0 c1 c2 c3 c4 cf0 cf1 cf2 cf3 cf4 e0 e1 e2))
        go_roundw
        case rel => exact ⟨k + 1, by omega, by go_num, fa', fc', by rw [HG2.out]; exact HX4.out, HY4.out, by rw [HG2.out]; exact HOF4.out, HOO4.out, by rw [HG2.out]; exact HOL4.out, by rw [HG2.out]; exact D1.out, D24.out, by rw [HG2.out]; exact D34.out, HB4.out, by omega⟩
        case measure => simp [intOf]; omega
      · have HG2 := Lib.hid (HG.out.trans (if_pos hg))
        have ca : ∀ o p r, (((w3.alloc o).alloc p).alloc r).cell? ⟨w.heap.size, 2, none⟩ = some (.slice fa' Q.nf fc') := fun o p r => ((((World.grownBy_alloc w3 o none).trans ((World.grownBy_alloc _ p none).trans (World.grownBy_alloc _ r none))) : w3.grownBy _ none).cell_far _ u3 (by simp)).trans c2
        have cb : ∀ o p, ((w3.alloc o).alloc p).cell? ⟨w.heap.size, 2, none⟩ = some (.slice fa' Q.nf fc') := fun o p => (((World.grownBy_alloc w3 o none).trans (World.grownBy_alloc _ p none)  : w3.grownBy _ none).cell_far _ u3 (by simp)).trans c2
        go_wp2_with fail
        go_region_law (first
          | (refine step_append_lies _ (by rfl) _ _ _ (by rfl) (w.heap.size + 2) 46 t1 _ 2 16 Try.underlying24 HI1.out.1 HI1.out.2.1 HI1.out.2.2.1 HI1.out.2.2.2 rfl (by omega) (.slice fa' Q.nf fc') Q.nf (flatL 2 Q.ff Q.nf) (by rfl) ((((HOF3.out.alloc _).alloc _).alloc _).drew) ⟨w3.heap.size + 1 + 1, 0, none⟩ 1 1 [.int .i64 (P.fo k 0), .int .i64 (P.fo k 1)] (by rfl) (by rfl) (World.news_of_block (cs := #[.int .i64 (P.fo k 0), .int .i64 (P.fo k 1)]) (t := 46) (fr := (0, 0)) (heap_new3 w3 _ _ _)) (by simp [Value.oneCell']) (by omega) (by unfold maxLen; omega) (by omega) (by simp; omega) (w3.heap.size + 1 + 1 + 1) (by simp) ?_; intro gg cap' w4 hown hgrow hat hlt'; have hg4 : w3.grownBy w4 _ := (grown3 w3 _ _ _ _).trans hgrow; have hat' : (Value.slice fa' Q.nf fc').ownBlock = some gg ∨ w3.heap.size ≤ gg := hat.imp id (fun h => by omega); have HX4 := Lib.hid (HX3.out.grown hg4 u3 (fun e => absurd (HOF3.out.lt _ e.symm).1 (by omega))); have HY4 := Lib.hid (HY3.out.grown hg4 v3 (fun e => absurd (HOF3.out.lt _ e.symm).1 (by omega))); have HOF4 := Lib.hid (own_push hown); have HOO4 := Lib.hid (HOO3.out.kept hg4 D1.out.symm); have HOL4 := Lib.hid (HOL3.out.kept hg4 D3.out.symm); have D14 := Lib.hid (Dist.app HOO3.out D1.out.symm hat' (m := Q.nf + 1) (cap' := cap')).symm; have D34 := Lib.hid (Dist.app HOL3.out D3.out.symm hat' (m := Q.nf + 1) (cap' := cap')).symm; have HB4 := Lib.hid (Below.grown HB3.out hg4 (by omega) (fun j hj => Nat.le_trans (Nat.le_add_right _ 2) (HOF3.out.lt j hj).1)); have hsz := hg4.size; clear ca cb hown hgrow hat hat' hg4 c0 c1 c2 c3 c4 cf0 cf1 cf2 cf3 cf4 e0 e1 e2; obtain ⟨c0, c1, c2, c3, c4, cf⟩ := HX4.out; have cf2 := cf 2; clear cf)
          | (go_simp; go_at_call 37; (with_reducible refine (slot_any _ _ _).mono ?_); rintro e w4 ⟨rfl, rfl⟩))
        all_goals go_wp2_with fail
        all_goals (go_roundw; (case rel => exact ⟨k + 1, by omega, by go_num, some ⟨gg, 0, none⟩, cap', by rw [HG2.out]; exact HX4.out.set2 _, HY4.out.set_far (by omega), by rw [HG2.out]; exact set_below_own HOF4.out (by omega), set_below_own HOO4.out (by omega), by rw [HG2.out]; exact set_below_own HOL4.out (by omega), by rw [HG2.out]; exact D14.out, D2.out, by rw [HG2.out]; exact D34.out, HB4.out.setCell (Nat.le_refl _) _, by simp; omega⟩); (case measure => simp [intOf]; omega))
    · obtain rfl : k = P.no := by omega
      obtain ⟨d0, d1, d2, d3, d4, df⟩ := HYk.out
      have df0 := df 0
      have df1 := df 1
      have df2 := df 2
      have df3 := df 3
      have df4 := df 4
      clear df
      obtain ⟨la, lc, rfl⟩ := own_form HOL.out
      go_wp2_with fail
      have hn2 := back_no P g P.no
      have hw : wrap64 ((P.no : Int) - ((P.back g P.no).no : Int)) = (P.no : Int) - (P.back g P.no).no := (by unfold wrap64; omega)
      rw [hw]
      obtain ⟨hs1, hs2, hs3⟩ := back_same P g P.no
      refine bodyPost_ret (v := .tuple #[.agg #[.int .i64 P.i, .int .i64 P.t, .slice fa' (P.back g P.no).nf fc', .slice la (P.back g P.no).no lc, .int .i64 P.s], .int .i64 ((P.no : Int) - (P.back g P.no).no)]) ?_ rfl ⟨_, _, by rw [hs1, hs2, hs3], ⟨?_, ?_, HD.out.2.2⟩, ?_⟩
      · simp only [results, Try.results26]; go_simp
      · exact World.ownsRow.mono (store5_own (set_below_own HOF.out (by omega)) (by omega)) (by omega)
      · exact World.ownsRow.mono (store5_own (set_below_own HOL.out (by omega)) (by omega)) (by omega)
      · exact store5_below (HBk.out.setCell (Nat.le_refl _) _) (by omega)
end Go.Proofs.Ytdfbddepeacebaa
