/- The contract of the reference's Back, over the seat's program. -/
import Derived.Test.YtdfbddepeacebaaRtR
import Derived.Test.YtdfbddepeacebaaApp
namespace Go.Proofs.Ytdfbddepeacebaa
open Go.ChangeShapes Go.WideShapes Go.ChangeAt Go.RowKit Go.Joins

theorem not_q {w : World} {ov : Value} {gg q m cap' : Nat} (hat : ov.ownBlock = some gg ∨ w.heap.size ≤ gg) (hq : ov.ownBlock ≠ some q) (hn : q < w.heap.size) : (Value.slice (some ⟨gg, 0, none⟩) m cap').ownBlock ≠ some q := by
  intro e
  have e : gg = q := by simpa [Value.ownBlock] using e
  rcases hat with h | h
  · exact hq (by rw [h, e])
  · omega
theorem Box.set3 {w : World} {p : Nat} {a b c d e : Value} (h : Box w p a b c d e) (x : Value) : Box (w.setCell ⟨p, 3, none⟩ x) p a b c x e := by
  obtain ⟨h0, h1, h2, h3, h4, hf⟩ := h
  exact ⟨by rw [cell_set_ne (.inr (by decide))]; exact h0, by rw [cell_set_ne (.inr (by decide))]; exact h1, by rw [cell_set_ne (.inr (by decide))]; exact h2, World.cell?_setCell_same _ _ _ h3, by rw [cell_set_ne (.inr (by decide))]; exact h4, fun i => by simpa using hf i⟩
theorem cnt_away {k : Nat} {Q : PV} {a b c : Int} : Value.int .i64 ((k : Int) - (Q.no : Int)) = .int .i64 (((k + 1 : Nat) : Int) - ((Q.away a b c).no : Int)) := by
  congr 1
  show _ = ((k + 1 : Nat) : Int) - ((Q.no + 1 : Nat) : Int)
  omega
theorem cnt_push {k : Nat} {Q : PV} {a b : Int} : Value.int .i64 ((k : Int) - (Q.no : Int) + 1) = .int .i64 (((k + 1 : Nat) : Int) - ((Q.push a b).no : Int)) := by
  congr 1
  show _ = ((k + 1 : Nat) : Int) - ((Q.no : Nat) : Int)
  omega
/-- What holds at the head of each round. -/
def RBackRel (P : PV) (g : Nat → Bool) (q k : Nat) (w : World) (u : World) : Prop :=
  ∃ fa fc la lc, Box u q (.int .i64 P.i) (.int .i64 P.t) (.slice fa (P.back g k).nf fc) (.slice la (P.back g k).no lc) (.int .i64 P.s) ∧ Box u (w.heap.size + 1) (.int .i64 0) (.int .i64 0) (.slice none 0 0) (.slice none 0 0) (.int .i64 0) ∧
    u.ownsRow (w.heap.size + 2) 46 2 (.slice fa (P.back g k).nf fc) (P.back g k).nf (flatL 2 (P.back g k).ff (P.back g k).nf) ∧ u.ownsRow (w.heap.size + 2) 44 3 (.slice la (P.back g k).no lc) (P.back g k).no (flatL 3 (P.back g k).fo (P.back g k).no) ∧
    Dist (.slice fa (P.back g k).nf fc) (.slice la (P.back g k).no lc) ∧ (Value.slice fa (P.back g k).nf fc).ownBlock ≠ some q ∧ (Value.slice la (P.back g k).no lc).ownBlock ≠ some q ∧ Below w.heap.size w u ∧ q < u.heap.size

set_option maxRecDepth 100000 in
set_option maxHeartbeats 6400000 in
theorem rback_any (v : Value) (P : PV) (g : Nat → Bool) (ma : Option Addr) (mc : Nat) (hsum : (P.nf + P.no) * 16 ≤ 140737488355328) (w : World) (h : PoolAt w v P) (hM : RowB w ma P.no mc g) :
    Calls Try.prog 28 #[v, .slice ma P.no mc] w (RetBack (P.back g P.no) ((P.no : Int) - (P.back g P.no).no) w) := by
  have HP := Lib.hid (fun W hb => (h.below hb : PoolAt W v P))
  have hno : P.no * 24 ≤ 140737488355328 := by
    obtain ⟨_, _, _, _, _, _, h2⟩ := h
    have := h2.1
    omega
  have HM := Lib.hid hM
  obtain ⟨fa, fc, oa, oc, rfl, _, ho⟩ := h
  have HRO := Lib.hid ho
  clear hM ho
  have HB0 := Lib.hid (show Below w.heap.size w ((w.alloc (.cells #[.int .i64 P.i, .int .i64 P.t, .slice fa P.nf fc, .slice oa P.no oc, .int .i64 P.s] 27)).alloc (.cells #[.int .i64 0, .int .i64 0, .slice none 0 0, .slice none 0 0, .int .i64 0] 27)) from ((Below.refl _ _).alloc (Nat.le_refl _) _).alloc (by simp) _)
  have HX := Lib.hid (show Box ((w.alloc (.cells #[.int .i64 P.i, .int .i64 P.t, .slice fa P.nf fc, .slice oa P.no oc, .int .i64 P.s] 27)).alloc (.cells #[.int .i64 0, .int .i64 0, .slice none 0 0, .slice none 0 0, .int .i64 0] 27)) w.heap.size (.int .i64 P.i) (.int .i64 P.t) (.slice fa P.nf fc) (.slice oa P.no oc) (.int .i64 P.s) from (Box.new w _).below (by simp) ((Below.refl _ _).alloc (Nat.le_refl _) _))
  have HY := Lib.hid (show Box ((w.alloc (.cells #[.int .i64 P.i, .int .i64 P.t, .slice fa P.nf fc, .slice oa P.no oc, .int .i64 P.s] 27)).alloc (.cells #[.int .i64 0, .int .i64 0, .slice none 0 0, .slice none 0 0, .int .i64 0] 27)) (w.heap.size + 1) (.int .i64 0) (.int .i64 0) (.slice none 0 0) (.slice none 0 0) (.int .i64 0) from by have := Box.new (a := .int .i64 0) (b := .int .i64 0) (c := .slice none 0 0) (d := .slice none 0 0) (e := .int .i64 0) (w.alloc (.cells #[.int .i64 P.i, .int .i64 P.t, .slice fa P.nf fc, .slice oa P.no oc, .int .i64 P.s] 27)) 27; simpa using this)
  go_enter Try.func28, Try.ntmps28
  go_wp2_with fail
  refine (rcopy_any _ P _ (HP.out _ HB0.out)).mono ?_
  rintro e w1 ⟨fv, ov, rfl, ho, hb⟩
  obtain ⟨af, cf, rfl⟩ := own_form ho.1
  obtain ⟨ao, co, rfl⟩ := own_form ho.2.1
  have hz := size2 hb
  have HO := Lib.hid ho.1
  have HB := Lib.hid (HB0.out.trans (hb.mono HB0.out.size))
  have hx := HX.out.below (by simp; omega) hb
  have hy := HY.out.below (by simp) hb
  have HQF := Lib.hid (show (Value.slice af P.nf cf).ownBlock ≠ some w1.heap.size from fun e => absurd (ho.1.lt _ e).2 (by omega))
  clear ho hb HX HY HB0
  go_upto_region 2 with (fail)
  have hA : Below w1.heap.size w1 (w1.alloc (.cells #[.int .i64 P.i, .int .i64 P.t, .slice af P.nf cf, .slice ao P.no co, .int .i64 P.s] 27)) := (Below.refl _ _).alloc (Nat.le_refl _) _
  refine abstract_code (fun u => Box u w.heap.size (.int .i64 P.i) (.int .i64 P.t) (.slice fa P.nf fc) (.slice oa P.no oc) (.int .i64 P.s) ∧ Box u (w.heap.size + 1) (.int .i64 0) (.int .i64 0) (.slice none 0 0) (.slice none 0 0) (.int .i64 0) ∧ Box u w1.heap.size (.int .i64 P.i) (.int .i64 P.t) (.slice af P.nf cf) (.slice ao P.no co) (.int .i64 P.s) ∧ u.ownsRow (w.heap.size + 2) 46 2 (.slice af P.nf cf) P.nf (flatL 2 P.ff P.nf) ∧ Below w.heap.size w u ∧ w1.heap.size < u.heap.size) ⟨hx.below (by omega) hA, hy.below (by omega) hA, Box.new w1 _, (HO.out.mono (by simp)).alloc _, HB.out.trans (hA.mono HB.out.size), by simp⟩ ?_
  clear hA hx hy HO HB
  rintro u ⟨hx, hy, hq, ho, hb, zq⟩
  have HX := Lib.hid hx
  have HY := Lib.hid hy
  have HQ := Lib.hid hq
  have HO := Lib.hid ho
  have HB := Lib.hid hb
  clear hx hy ho hb
  generalize w1.heap.size = q at *
  obtain ⟨d0, d1, d2, d3, d4, df⟩ := hq
  have df0 := df 0
  have df1 := df 1
  have df2 := df 2
  have df3 := df 3
  have df4 := df 4
  clear df
  obtain ⟨c0, c1, c2, c3, c4, cf⟩ := HX.out
  clear cf
  have c3' : ∀ x, (u.setCell ⟨q, 3, none⟩ x).cell? ⟨w.heap.size, 3, none⟩ = some (.slice oa P.no oc) := fun x => (cell_set_ne (.inl (by omega))).trans c3
  go_wp2_with fail
  go_loopw [7, 16] (fun n i wr => ∃ k : Nat, k ≤ P.no ∧ i = .int .i64 k ∧ n = .int .i64 ((k : Int) - (P.back g k).no) ∧ RBackRel P g q k w wr) (fun _ i _ => P.no - (intOf i).toNat)
  case atStart =>
    exact ⟨0, Nat.zero_le _, rfl, rfl, af, cf, none, 0, HQ.out.set3 _, HY.out.set_far (by omega), ownsRow_setCell_other HO.out HQF.out _, World.ownsRow_nil _ _ _ _, own_nil, HQF.out, (fun h => by cases h), HB.out.setCell (show w.heap.size ≤ q by omega) _, by simpa using zq⟩
  case round =>
    clear c0 c1 c2 c3 c4 c3' d0 d1 d2 d3 d4 df0 df1 df2 df3 df4 HX HY HQ HO HQF HB
    obtain ⟨k, hk, rfl, rfl, fa', fc', la', lc', hx, hy, hof, hol, d1, qf, ql, hb, zr⟩ := hrel
    have HXk := Lib.hid hx
    have HYk := Lib.hid hy
    have HOF := Lib.hid hof
    have HOL := Lib.hid hol
    have D1 := Lib.hid d1
    have QF := Lib.hid qf
    have QL := Lib.hid ql
    have HBk := Lib.hid hb
    have hn1 : (P.back g k).nf + (P.back g k).no = P.nf + k := back_count P g k
    have hn2 := back_no P g k
    have HG := Lib.hid (show P.back g (k + 1) = if g k = true then (P.back g k).push (P.fo k 0) (P.fo k 1) else (P.back g k).away (P.fo k 0) (P.fo k 1) (P.fo k 2) from rfl)
    have y1 : w.heap.size + 1 < wr.heap.size := by omega
    clear hy hof hol d1 qf ql hb
    obtain ⟨c0, c1, c2, c3, c4, cf⟩ := hx
    have cf0 := cf 0
    have cf1 := cf 1
    have cf2 := cf 2
    have cf3 := cf 3
    have cf4 := cf 4
    clear cf
    rcases Nat.lt_or_ge k P.no with hkn | hkn
    · have hk1 : (k : Int) < P.no := by omega
      have i0 : (0 : Int) ≤ (k : Int) := by omega
      obtain ⟨blk, off, hab, _, hcc⟩ := (HRO.out.below HBk.out).get hkn
      subst hab
      have x0 : wr.cell? ⟨blk, off + k * 3, none⟩ = some (.int .i64 (P.fo k 0)) := by simpa using hcc k 0 hkn (by omega)
      have x1 := hcc k 1 hkn (by omega)
      have x2 := hcc k 2 hkn (by omega)
      obtain ⟨mb, mo, hmb, _, hmm⟩ := (HM.out.below HBk.out).get hkn
      subst hmb
      have m0 := hmm k hkn
      have hcnt : (P.back g (k + 1)).no ≤ k + 1 := back_no P g (k + 1)
      clear hcc hmm
      generalize P.back g k = Q at *
      cases hg : g k
      · rw [hg] at m0
        have HG2 := Lib.hid (HG.out.trans (if_neg (by simp [hg])))
        clear hg hcnt
        go_wp2_with (at_builtin; go_loud (refine app_cells (w.heap.size + 2) 44 25 rfl _ _ rfl Try.underlying25 _ 3 24 Try.info_old rfl (by omega) (.slice la' Q.no lc') Q.no (flatL 3 Q.fo Q.no) #[.int .i64 (P.fo k 0), .int .i64 (P.fo k 1), .int .i64 (P.fo k 2)] rfl (by simp [Value.oneCell']) rfl (HOL.out.alloc _) (wr.heap.size + 1) (by simp) rfl (by omega) (by unfold maxLen; omega) (by simp; omega) ?_; intro gg cap' w4 hown hgrow hat hlt'; have hg4 : wr.grownBy w4 _ := (World.grownBy_alloc wr (.cells #[.int .i64 (P.fo k 0), .int .i64 (P.fo k 1), .int .i64 (P.fo k 2)] 44) _).trans hgrow; have hat' : (Value.slice la' Q.no lc').ownBlock = some gg ∨ wr.heap.size ≤ gg := hat.imp id (fun h => by simp at h; omega); have HX4 := Lib.hid (HXk.out.grown hg4 zr (fun e => QL.out e.symm)); have HY4 := Lib.hid (HYk.out.grown hg4 y1 (fun e => absurd (HOL.out.lt _ e.symm).1 (by omega))); have HHOL4 := Lib.hid (own_away hown); have HHOF4 := Lib.hid (HOF.out.kept hg4 D1.out); have D4 := Lib.hid (Dist.app HOF.out D1.out hat' (m := Q.no + 1) (cap' := cap')); have Q4 := Lib.hid (not_q (m := Q.no + 1) (cap' := cap') hat' QL.out zr); have HB4 := Lib.hid (Below.grown HBk.out hg4 (by omega) (fun j hj => Nat.le_trans (Nat.le_add_right _ 2) (HOL.out.lt j hj).1)); have hsz := hg4.size; clear hown hgrow hat hat' hg4 hlt' c0 c1 c2 c3 c4 cf0 cf1 cf2 cf3 cf4 x0 x1 x2 m0; obtain ⟨c0, c1, c2, c3, c4, cf⟩ := HX4.out; have cf2 := cf 2; have cf3 := cf 3; clear cf))
        go_roundw
        case rel => exact ⟨k + 1, by omega, by go_num, by rw [HG2.out]; exact cnt_away, fa', fc', some ⟨gg, 0, none⟩, cap', by rw [HG2.out]; exact HX4.out.set3 _, HY4.out.set_far (by omega), by rw [HG2.out]; exact ownsRow_setCell_other HHOF4.out QF.out _, by rw [HG2.out]; exact ownsRow_setCell_other HHOL4.out Q4.out _, by rw [HG2.out]; exact D4.out, by rw [HG2.out]; exact QF.out, by rw [HG2.out]; exact Q4.out, HB4.out.setCell (show w.heap.size ≤ q by omega) _, by simp; omega⟩
        case measure => simp [intOf]; omega
      · rw [hg] at m0
        have HG2 := Lib.hid (HG.out.trans (if_pos hg))
        clear hg hcnt
        go_wp2_with (at_builtin; go_loud (refine app_cells (w.heap.size + 2) 46 24 rfl _ _ rfl Try.underlying24 (.agg #[.int .i64 0, .int .i64 0]) 2 16 Try.info_slot rfl (by omega) (.slice fa' Q.nf fc') Q.nf (flatL 2 Q.ff Q.nf) #[.int .i64 (P.fo k 0), .int .i64 (P.fo k 1)] rfl (by simp [Value.oneCell']) rfl (HOF.out.alloc _) (wr.heap.size + 1) (by simp) rfl (by omega) (by unfold maxLen; omega) (by simp; omega) ?_; intro gg cap' w4 hown hgrow hat hlt'; have hg4 : wr.grownBy w4 _ := (World.grownBy_alloc wr (.cells #[.int .i64 (P.fo k 0), .int .i64 (P.fo k 1), .int .i64 (P.fo k 2)] 44) _).trans hgrow; have hat' : (Value.slice fa' Q.nf fc').ownBlock = some gg ∨ wr.heap.size ≤ gg := hat.imp id (fun h => by simp at h; omega); have HX4 := Lib.hid (HXk.out.grown hg4 zr (fun e => QF.out e.symm)); have HY4 := Lib.hid (HYk.out.grown hg4 y1 (fun e => absurd (HOF.out.lt _ e.symm).1 (by omega))); have HHOF4 := Lib.hid (own_push hown); have HHOL4 := Lib.hid (HOL.out.kept hg4 D1.out.symm); have D4 := Lib.hid (Dist.app HOL.out D1.out.symm hat' (m := Q.nf + 1) (cap' := cap')); have Q4 := Lib.hid (not_q (m := Q.nf + 1) (cap' := cap') hat' QF.out zr); have HB4 := Lib.hid (Below.grown HBk.out hg4 (by omega) (fun j hj => Nat.le_trans (Nat.le_add_right _ 2) (HOF.out.lt j hj).1)); have hsz := hg4.size; clear hown hgrow hat hat' hg4 hlt' c0 c1 c2 c3 c4 cf0 cf1 cf2 cf3 cf4 x0 x1 x2 m0; obtain ⟨c0, c1, c2, c3, c4, cf⟩ := HX4.out; have cf2 := cf 2; have cf3 := cf 3; clear cf))
        go_roundw
        case rel => exact ⟨k + 1, by omega, by go_num, by rw [HG2.out]; exact cnt_push, some ⟨gg, 0, none⟩, cap', la', lc', by rw [HG2.out]; exact HX4.out.set2 _, HY4.out.set_far (by omega), by rw [HG2.out]; exact ownsRow_setCell_other HHOF4.out Q4.out _, by rw [HG2.out]; exact ownsRow_setCell_other HHOL4.out QL.out _, by rw [HG2.out]; exact D4.out.symm, by rw [HG2.out]; exact Q4.out, by rw [HG2.out]; exact QL.out, HB4.out.setCell (show w.heap.size ≤ q by omega) _, by simp; omega⟩
        case measure => simp [intOf]; omega
    · obtain rfl : k = P.no := by omega
      obtain ⟨d0, d1, d2, d3, d4, df⟩ := HYk.out
      have df0 := df 0
      have df1 := df 1
      have df2 := df 2
      have df3 := df 3
      have df4 := df 4
      clear df
      go_wp2_with fail
      obtain ⟨hs1, hs2, hs3⟩ := back_same P g P.no
      refine bodyPost_ret (v := .tuple #[.agg #[.int .i64 P.i, .int .i64 P.t, .slice fa' (P.back g P.no).nf fc', .slice la' (P.back g P.no).no lc', .int .i64 P.s], .int .i64 ((P.no : Int) - (P.back g P.no).no)]) ?_ rfl ⟨_, _, by rw [hs1, hs2, hs3], ⟨?_, ?_, D1.out⟩, ?_⟩
      · simp only [results, Try.results28]; go_simp
      · exact World.ownsRow.mono (store5_own HOF.out (by omega)) (by omega)
      · exact World.ownsRow.mono (store5_own HOL.out (by omega)) (by omega)
      · exact store5_below HBk.out (by omega)
end Go.Proofs.Ytdfbddepeacebaa
