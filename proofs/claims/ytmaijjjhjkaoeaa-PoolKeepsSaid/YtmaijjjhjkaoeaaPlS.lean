/- The contracts of plain.Pool of whatever two pools, and of Same, over the seat's program. -/
import Derived.Test.YtmaijjjhjkaoeaaPlR
namespace Go.Proofs.Ytmaijjjhjkaoeaa
open Go.ChangeShapes Go.WideShapes Go.ChangeAt Go.RowKit Go.Joins

/-- Two pools are the same. -/
def PV.same (P Q : PV) : Prop := (P.i = Q.i ∧ P.t = Q.t) ∧ P.s = Q.s ∧ SameRows 2 P.nf Q.nf P.ff Q.ff ∧ SameRows 3 P.no Q.no P.fo Q.fo
theorem same_refl (P : PV) : P.same P := ⟨⟨rfl, rfl⟩, rfl, ⟨rfl, fun _ _ _ _ => rfl⟩, rfl, fun _ _ _ _ => rfl⟩
def Two5 (w : World) (fa : Option Addr) (fc : Nat) (oa : Option Addr) (oc : Nat) (ga : Option Addr) (gc : Nat) (ha : Option Addr) (hc : Nat) (pi pt : Int) (nf no : Nat) (ps : Int) (u : World) : Prop :=
  Box u w.heap.size (.int .i64 pi) (.int .i64 pt) (.slice fa nf fc) (.slice oa no oc) (.int .i64 ps) ∧ Box u (w.heap.size + 1) (.int .i64 pi) (.int .i64 pt) (.slice ga nf gc) (.slice ha no hc) (.int .i64 ps) ∧ Below w.heap.size w u

set_option maxRecDepth 100000 in
set_option maxHeartbeats 6400000 in
theorem pool_eq (v v' : Value) (P Q : PV) (w : World) (h : PoolAt w v P) (h' : PoolAt w v' Q) : Calls Try.prog 11 #[v, v'] w (RetEq (P.same Q) w) := by
  obtain ⟨fa, fc, oa, oc, rfl, hf, ho⟩ := h
  obtain ⟨ga, gc, ha, hc0, rfl, hg, hh⟩ := h'
  obtain ⟨pi, pt, nf, ff, no, fo, ps⟩ := P
  obtain ⟨qi, qt, mf, fg, mo, go, qs⟩ := Q
  dsimp only at hf ho hg hh ⊢
  have hn1 := hf.1
  have hn2 := ho.1
  have hn3 := hg.1
  have hn4 := hh.1
  have HF := Lib.hid hf
  have HG := Lib.hid hg
  have HO := Lib.hid ho
  have HH := Lib.hid hh
  clear hf ho hg hh
  have HX := Lib.hid (show Box ((w.alloc (.cells #[.int .i64 pi, .int .i64 pt, .slice fa nf fc, .slice oa no oc, .int .i64 ps] 27)).alloc (.cells #[.int .i64 qi, .int .i64 qt, .slice ga mf gc, .slice ha mo hc0, .int .i64 qs] 27)) w.heap.size (.int .i64 pi) (.int .i64 pt) (.slice fa nf fc) (.slice oa no oc) (.int .i64 ps) from (Box.new w _).below (by simp) ((Below.refl _ _).alloc (Nat.le_refl _) _))
  have HY := Lib.hid (show Box ((w.alloc (.cells #[.int .i64 pi, .int .i64 pt, .slice fa nf fc, .slice oa no oc, .int .i64 ps] 27)).alloc (.cells #[.int .i64 qi, .int .i64 qt, .slice ga mf gc, .slice ha mo hc0, .int .i64 qs] 27)) (w.heap.size + 1) (.int .i64 qi) (.int .i64 qt) (.slice ga mf gc) (.slice ha mo hc0) (.int .i64 qs) from by have := Box.new (a := .int .i64 qi) (b := .int .i64 qt) (c := .slice ga mf gc) (d := .slice ha mo hc0) (e := .int .i64 qs) (w.alloc (.cells #[.int .i64 pi, .int .i64 pt, .slice fa nf fc, .slice oa no oc, .int .i64 ps] 27)) 27; simpa using this)
  have HB := Lib.hid (show Below w.heap.size w ((w.alloc (.cells #[.int .i64 pi, .int .i64 pt, .slice fa nf fc, .slice oa no oc, .int .i64 ps] 27)).alloc (.cells #[.int .i64 qi, .int .i64 qt, .slice ga mf gc, .slice ha mo hc0, .int .i64 qs] 27)) from ((Below.refl _ _).alloc (Nat.le_refl _) _).alloc (by simp) _)
  by_cases ei : pi = qi
  · subst ei
    by_cases et : pt = qt
    · subst et
      by_cases es : ps = qs
      · subst es
        by_cases en : nf = mf
        · subst en
          by_cases em : no = mo
          · subst em
            clear hn3 hn4
            go_enter Try.func11, Try.ntmps11
            go_wp2
            go_loopw [40] (fun i wr => ∃ k : Nat, k ≤ nf ∧ i = .int .i64 k ∧ Two5 w fa fc oa oc ga gc ha hc0 pi pt nf no ps wr ∧ (∀ i, i < k → ∀ j, j < 2 → ff i j = fg i j)) (fun i _ => nf - (intOf i).toNat)
            case atStart => exact ⟨0, Nat.zero_le _, rfl, ⟨HX.out, HY.out, HB.out⟩, fun i hi => absurd hi (by omega)⟩
            case round =>
              obtain ⟨k, hk, rfl, ⟨hx, hy, hb⟩, he0⟩ := hrel
              have HXr := Lib.hid hx
              have HYr := Lib.hid hy
              have HBr := Lib.hid hb
              have HE2 := Lib.hid he0
              have q1 := hx.2.2.1
              have q2 := hy.2.2.1
              have HR := Lib.hid (HF.out.below hb)
              have HR' := Lib.hid (HG.out.below hb)
              clear hx hy hb he0
              by_cases hlt : k < nf
              · obtain ⟨b, off, hab, _, hc⟩ := HR.out.get hlt
                subst hab
                obtain ⟨b', off', hab', _, hc'⟩ := HR'.out.get hlt
                subst hab'
                have x0 : wr.cell? ⟨b, off + k * 2, none⟩ = some (.int .i64 (ff k 0)) := hc k 0 hlt (by omega)
                have y0 : wr.cell? ⟨b', off' + k * 2, none⟩ = some (.int .i64 (fg k 0)) := hc' k 0 hlt (by omega)
                have x1 : wr.cell? ⟨b, off + k * 2 + 1, none⟩ = some (.int .i64 (ff k 1)) := hc k 1 hlt (by omega)
                have y1 : wr.cell? ⟨b', off' + k * 2 + 1, none⟩ = some (.int .i64 (fg k 1)) := hc' k 1 hlt (by omega)
                have i0 : (0 : Int) ≤ (k : Int) := by omega
                have i1 : (k : Int) < (nf : Int) := by omega
                clear hc hc'
                by_cases e0 : ff k 0 = fg k 0
                · by_cases e1 : ff k 1 = fg k 1
                  · have HA := Lib.hid (show ∀ i, i < k + 1 → ∀ j, j < 2 → ff i j = fg i j from fun i hi j hj => by
                      rcases Nat.lt_or_ge i k with h | h
                      · exact HE2.out i h j hj
                      · obtain rfl : i = k := by omega
                        match j, hj with
                        | 0, _ => exact e0
                        | 1, _ => exact e1)
                    rw [← e0] at y0
                    rw [← e1] at y1
                    clear e0 e1
                    go_wp2
                    go_quiet (fail)
                    go_wp2
                    go_roundw
                    case rel => exact ⟨k + 1, by omega, by go_num, ⟨HXr.out.drewN _, HYr.out.drewN _, below_drewN HBr.out _⟩, HA.out⟩
                    case measure => simp [intOf]; omega
                  · have HN := Lib.hid (show ¬ PV.same ⟨pi, pt, nf, ff, no, fo, ps⟩ ⟨pi, pt, nf, fg, no, go, ps⟩ from fun h => e1 (h.2.2.1.2 k hlt 1 (by omega)))
                    rw [← e0] at y0
                    have n1 : (ff k 1 == fg k 1) = false := by simpa using e1
                    clear e0 e1
                    go_wp2
                    go_quiet (fail)
                    go_wp2
                    go_ret
                    exact ⟨false, rfl, ⟨(fun h => absurd h (by decide)), (fun h => absurd h HN.out)⟩, below_drewN HBr.out _⟩
                · have HN := Lib.hid (show ¬ PV.same ⟨pi, pt, nf, ff, no, fo, ps⟩ ⟨pi, pt, nf, fg, no, go, ps⟩ from fun h => e0 (h.2.2.1.2 k hlt 0 (by omega)))
                  have n0 : (ff k 0 == fg k 0) = false := by simpa using e0
                  clear e0
                  go_wp2
                  go_quiet (fail)
                  go_wp2
                  go_ret
                  exact ⟨false, rfl, ⟨(fun h => absurd h (by decide)), (fun h => absurd h HN.out)⟩, below_drewN HBr.out _⟩
              · obtain rfl : k = nf := by omega
                clear q1 q2 HR HR'
                have q3 := HXr.out.2.2.2.1
                go_wp2
                go_loopw [58] (fun i wr => ∃ kk : Nat, kk ≤ no ∧ i = .int .i64 kk ∧ Two5 w fa fc oa oc ga gc ha hc0 pi pt k no ps wr ∧ (∀ i, i < kk → ∀ j, j < 3 → fo i j = go i j)) (fun i _ => no - (intOf i).toNat)
                case atStart => exact ⟨0, Nat.zero_le _, rfl, ⟨HXr.out, HYr.out, HBr.out⟩, fun i hi => absurd hi (by omega)⟩
                case round =>
                  clear HXr HYr HBr hk
                  obtain ⟨kk, hk, rfl, ⟨hx, hy, hb⟩, he0⟩ := hrel
                  have HXr := Lib.hid hx
                  have HYr := Lib.hid hy
                  have HBr := Lib.hid hb
                  have HE3 := Lib.hid he0
                  have q1 := hx.2.2.2.1
                  have q2 := hy.2.2.2.1
                  have HR := Lib.hid (HO.out.below hb)
                  have HR' := Lib.hid (HH.out.below hb)
                  clear q3 hx hy hb he0
                  by_cases hlt : kk < no
                  · obtain ⟨b, off, hab, _, hc⟩ := HR.out.get hlt
                    subst hab
                    obtain ⟨b', off', hab', _, hc'⟩ := HR'.out.get hlt
                    subst hab'
                    have x0 : wr.cell? ⟨b, off + kk * 3, none⟩ = some (.int .i64 (fo kk 0)) := hc kk 0 hlt (by omega)
                    have y0 : wr.cell? ⟨b', off' + kk * 3, none⟩ = some (.int .i64 (go kk 0)) := hc' kk 0 hlt (by omega)
                    have x1 : wr.cell? ⟨b, off + kk * 3 + 1, none⟩ = some (.int .i64 (fo kk 1)) := hc kk 1 hlt (by omega)
                    have y1 : wr.cell? ⟨b', off' + kk * 3 + 1, none⟩ = some (.int .i64 (go kk 1)) := hc' kk 1 hlt (by omega)
                    have x2 : wr.cell? ⟨b, off + kk * 3 + 2, none⟩ = some (.int .i64 (fo kk 2)) := hc kk 2 hlt (by omega)
                    have y2 : wr.cell? ⟨b', off' + kk * 3 + 2, none⟩ = some (.int .i64 (go kk 2)) := hc' kk 2 hlt (by omega)
                    have i0 : (0 : Int) ≤ (kk : Int) := by omega
                    have i1 : (kk : Int) < (no : Int) := by omega
                    clear hc hc'
                    by_cases e0 : fo kk 0 = go kk 0
                    · by_cases e1 : fo kk 1 = go kk 1
                      · by_cases e2 : fo kk 2 = go kk 2
                        · have HA := Lib.hid (show ∀ i, i < kk + 1 → ∀ j, j < 3 → fo i j = go i j from fun i hi j hj => by
                            rcases Nat.lt_or_ge i kk with h | h
                            · exact HE3.out i h j hj
                            · obtain rfl : i = kk := by omega
                              match j, hj with
                              | 0, _ => exact e0
                              | 1, _ => exact e1
                              | 2, _ => exact e2)
                          rw [← e0] at y0
                          rw [← e1] at y1
                          rw [← e2] at y2
                          clear e0 e1 e2
                          go_wp2
                          go_quiet (fail)
                          go_wp2
                          go_roundw
                          case rel => exact ⟨kk + 1, by omega, by go_num, ⟨HXr.out.drewN _, HYr.out.drewN _, below_drewN HBr.out _⟩, HA.out⟩
                          case measure => simp [intOf]; omega
                        · have HN := Lib.hid (show ¬ PV.same ⟨pi, pt, k, ff, no, fo, ps⟩ ⟨pi, pt, k, fg, no, go, ps⟩ from fun h => e2 (h.2.2.2.2 kk hlt 2 (by omega)))
                          rw [← e0] at y0
                          rw [← e1] at y1
                          have n2 : (fo kk 2 == go kk 2) = false := by simpa using e2
                          clear e0 e1 e2
                          go_wp2
                          go_quiet (fail)
                          go_wp2
                          go_ret
                          exact ⟨false, rfl, ⟨(fun h => absurd h (by decide)), (fun h => absurd h HN.out)⟩, below_drewN HBr.out _⟩
                      · have HN := Lib.hid (show ¬ PV.same ⟨pi, pt, k, ff, no, fo, ps⟩ ⟨pi, pt, k, fg, no, go, ps⟩ from fun h => e1 (h.2.2.2.2 kk hlt 1 (by omega)))
                        rw [← e0] at y0
                        have n1 : (fo kk 1 == go kk 1) = false := by simpa using e1
                        clear e0 e1
                        go_wp2
                        go_quiet (fail)
                        go_wp2
                        go_ret
                        exact ⟨false, rfl, ⟨(fun h => absurd h (by decide)), (fun h => absurd h HN.out)⟩, below_drewN HBr.out _⟩
                    · have HN := Lib.hid (show ¬ PV.same ⟨pi, pt, k, ff, no, fo, ps⟩ ⟨pi, pt, k, fg, no, go, ps⟩ from fun h => e0 (h.2.2.2.2 kk hlt 0 (by omega)))
                      have n0 : (fo kk 0 == go kk 0) = false := by simpa using e0
                      clear e0
                      go_wp2
                      go_quiet (fail)
                      go_wp2
                      go_ret
                      exact ⟨false, rfl, ⟨(fun h => absurd h (by decide)), (fun h => absurd h HN.out)⟩, below_drewN HBr.out _⟩
                  · obtain rfl : kk = no := by omega
                    clear q1 q2
                    go_wp2
                    go_ret
                    exact ⟨true, rfl, ⟨fun _ => ⟨⟨rfl, rfl⟩, rfl, ⟨rfl, HE2.out⟩, rfl, HE3.out⟩, fun _ => rfl⟩, HBr.out⟩
          · have HN := Lib.hid (show ¬ PV.same ⟨pi, pt, nf, ff, no, fo, ps⟩ ⟨pi, pt, nf, fg, mo, go, ps⟩ from fun h => em h.2.2.2.1)
            have nm : ((no : Int) != (mo : Int)) = true := by simp; omega
            clear em
            go_enter Try.func11, Try.ntmps11
            go_wp2
            go_ret
            exact ⟨false, rfl, ⟨(fun h => absurd h (by decide)), (fun h => absurd h HN.out)⟩, HB.out⟩
        · have HN := Lib.hid (show ¬ PV.same ⟨pi, pt, nf, ff, no, fo, ps⟩ ⟨pi, pt, mf, fg, mo, go, ps⟩ from fun h => en h.2.2.1.1)
          have nn : ((nf : Int) != (mf : Int)) = true := by simp; omega
          clear en
          go_enter Try.func11, Try.ntmps11
          go_wp2
          go_ret
          exact ⟨false, rfl, ⟨(fun h => absurd h (by decide)), (fun h => absurd h HN.out)⟩, HB.out⟩
      · have HN := Lib.hid (show ¬ PV.same ⟨pi, pt, nf, ff, no, fo, ps⟩ ⟨pi, pt, mf, fg, mo, go, qs⟩ from fun h => es h.2.1)
        have ns : (ps != qs) = true := by simp; omega
        clear es
        go_enter Try.func11, Try.ntmps11
        go_wp2
        go_ret
        exact ⟨false, rfl, ⟨(fun h => absurd h (by decide)), (fun h => absurd h HN.out)⟩, HB.out⟩
    · have HN := Lib.hid (show ¬ PV.same ⟨pi, pt, nf, ff, no, fo, ps⟩ ⟨pi, qt, mf, fg, mo, go, qs⟩ from fun h => et h.1.2)
      have nt : (pt == qt) = false := by simp; omega
      clear et
      go_enter Try.func11, Try.ntmps11
      go_wp2
      go_ret
      exact ⟨false, rfl, ⟨(fun h => absurd h (by decide)), (fun h => absurd h HN.out)⟩, HB.out⟩
  · have HN := Lib.hid (show ¬ PV.same ⟨pi, pt, nf, ff, no, fo, ps⟩ ⟨qi, qt, mf, fg, mo, go, qs⟩ from fun h => ei h.1.1)
    have ni : (pi == qi) = false := by simp; omega
    clear ei
    go_enter Try.func11, Try.ntmps11
    go_wp2
    go_ret
    exact ⟨false, rfl, ⟨(fun h => absurd h (by decide)), (fun h => absurd h HN.out)⟩, HB.out⟩

set_option maxRecDepth 100000 in
set_option maxHeartbeats 6400000 in
theorem same_any (v v' : Value) (P Q : PV) (w : World) (h : PoolAt w v P) (h' : PoolAt w v' Q) : Calls Try.prog 30 #[v, v'] w (RetEq (P.same Q) w) := by
  obtain ⟨fa, fc, oa, oc, rfl, hf, ho⟩ := h
  obtain ⟨ga, gc, ha, hc0, rfl, hg, hh⟩ := h'
  obtain ⟨pi, pt, nf, ff, no, fo, ps⟩ := P
  obtain ⟨qi, qt, mf, fg, mo, go, qs⟩ := Q
  dsimp only at hf ho hg hh ⊢
  have HB := Lib.hid (show Below w.heap.size w ((w.alloc (.cells #[.int .i64 pi, .int .i64 pt, .slice fa nf fc, .slice oa no oc, .int .i64 ps] 27)).alloc (.cells #[.int .i64 qi, .int .i64 qt, .slice ga mf gc, .slice ha mo hc0, .int .i64 qs] 27)) from ((Below.refl _ _).alloc (Nat.le_refl _) _).alloc (by simp) _)
  have HX := Lib.hid (show Box ((w.alloc (.cells #[.int .i64 pi, .int .i64 pt, .slice fa nf fc, .slice oa no oc, .int .i64 ps] 27)).alloc (.cells #[.int .i64 qi, .int .i64 qt, .slice ga mf gc, .slice ha mo hc0, .int .i64 qs] 27)) w.heap.size (.int .i64 pi) (.int .i64 pt) (.slice fa nf fc) (.slice oa no oc) (.int .i64 ps) from (Box.new w _).below (by simp) ((Below.refl _ _).alloc (Nat.le_refl _) _))
  have HY := Lib.hid (show Box ((w.alloc (.cells #[.int .i64 pi, .int .i64 pt, .slice fa nf fc, .slice oa no oc, .int .i64 ps] 27)).alloc (.cells #[.int .i64 qi, .int .i64 qt, .slice ga mf gc, .slice ha mo hc0, .int .i64 qs] 27)) (w.heap.size + 1) (.int .i64 qi) (.int .i64 qt) (.slice ga mf gc) (.slice ha mo hc0) (.int .i64 qs) from by have := Box.new (a := .int .i64 qi) (b := .int .i64 qt) (c := .slice ga mf gc) (d := .slice ha mo hc0) (e := .int .i64 qs) (w.alloc (.cells #[.int .i64 pi, .int .i64 pt, .slice fa nf fc, .slice oa no oc, .int .i64 ps] 27)) 27; simpa using this)
  have HF := Lib.hid (hf.below HB.out)
  have HG := Lib.hid (hg.below HB.out)
  have HO := Lib.hid (ho.below HB.out)
  have HH := Lib.hid (hh.below HB.out)
  clear hf ho hg hh
  by_cases ei : pi = qi
  · subst ei
    by_cases et : pt = qt
    · subst et
      by_cases es : ps = qs
      · subst es
        
        
        have HI := Lib.hid (show PV.same ⟨pi, pt, nf, ff, no, fo, ps⟩ ⟨pi, pt, mf, fg, mo, go, ps⟩ ↔ SameRows 2 nf mf ff fg ∧ SameRows 3 no mo fo go  from ⟨fun h => h.2.2, fun h => ⟨⟨rfl, rfl⟩, rfl, h⟩⟩)
        go_enter Try.func30, Try.ntmps30
        go_wp2_with (first
          | (go_at_call 41; (with_reducible refine (equal_slot _ _ _ _ _ _ _ _ _ HF.out HG.out).mono ?_); rintro e w1 ⟨b1, rfl, hb1, hb⟩; have HX1 := Lib.hid (HX.out.below (by simp; omega) hb); have HY1 := Lib.hid (HY.out.below (by simp) hb); have HO1 := Lib.hid (HO.out.below hb); have HH1 := Lib.hid (HH.out.below hb); have HB1 := Lib.hid (HB.out.trans (hb.mono HB.out.size)); have z1 := size2 hb; have z0 := Nat.lt_of_succ_lt z1; have HE1 := Lib.hid hb1; obtain ⟨c0, c1, c2, c3, c4, cf⟩ := HX1.out; obtain ⟨d0, d1, d2, d3, d4, df⟩ := HY1.out; clear cf df hb hb1)
          | (go_at_call 42; (with_reducible refine (equal_old _ _ _ _ _ _ _ _ _ HO1.out HH1.out).mono ?_); rintro e w2 ⟨b2, rfl, hb2, hb⟩; have HX2 := Lib.hid (HX1.out.below z0 hb); have HY2 := Lib.hid (HY1.out.below z1 hb); have HB2 := Lib.hid (HB1.out.trans (hb.mono HB1.out.size)); have HE2 := Lib.hid hb2; clear c0 c1 c2 c3 c4 d0 d1 d2 d3 d4; obtain ⟨c0, c1, c2, c3, c4, cf⟩ := HX2.out; obtain ⟨d0, d1, d2, d3, d4, df⟩ := HY2.out; clear cf df hb hb2))
        · go_ret
          refine ⟨_, rfl, ?_, HB2.out⟩
          have k1 : b1 = true := by assumption
          have k2 : b2 = true := by assumption
          rw [HI.out, ← HE1.out, ← HE2.out, k1, k2]
          decide
        · go_ret
          refine ⟨_, rfl, ?_, HB2.out⟩
          have k1 : b1 = true := by assumption
          have k2 : ¬ b2 = true := by assumption
          rw [HI.out, ← HE1.out, ← HE2.out]
          simp [k2]
        · go_ret
          refine ⟨_, rfl, ?_, HB1.out⟩
          have k1 : ¬ b1 = true := by assumption
          rw [HI.out, ← HE1.out]
          simp [k1]
      · have ns : (ps == qs) = false := by simpa using es
        have NS := Lib.hid es
        clear es
        have HI := Lib.hid (show PV.same ⟨pi, pt, nf, ff, no, fo, ps⟩ ⟨pi, pt, mf, fg, mo, go, qs⟩ ↔ SameRows 2 nf mf ff fg ∧ SameRows 3 no mo fo go ∧ False from ⟨fun h => absurd h.2.1 NS.out, fun h => h.2.2.elim⟩)
        go_enter Try.func30, Try.ntmps30
        go_wp2_with (first
          | (go_at_call 41; (with_reducible refine (equal_slot _ _ _ _ _ _ _ _ _ HF.out HG.out).mono ?_); rintro e w1 ⟨b1, rfl, hb1, hb⟩; have HX1 := Lib.hid (HX.out.below (by simp; omega) hb); have HY1 := Lib.hid (HY.out.below (by simp) hb); have HO1 := Lib.hid (HO.out.below hb); have HH1 := Lib.hid (HH.out.below hb); have HB1 := Lib.hid (HB.out.trans (hb.mono HB.out.size)); have z1 := size2 hb; have z0 := Nat.lt_of_succ_lt z1; have HE1 := Lib.hid hb1; obtain ⟨c0, c1, c2, c3, c4, cf⟩ := HX1.out; obtain ⟨d0, d1, d2, d3, d4, df⟩ := HY1.out; clear cf df hb hb1)
          | (go_at_call 42; (with_reducible refine (equal_old _ _ _ _ _ _ _ _ _ HO1.out HH1.out).mono ?_); rintro e w2 ⟨b2, rfl, hb2, hb⟩; have HX2 := Lib.hid (HX1.out.below z0 hb); have HY2 := Lib.hid (HY1.out.below z1 hb); have HB2 := Lib.hid (HB1.out.trans (hb.mono HB1.out.size)); have HE2 := Lib.hid hb2; clear c0 c1 c2 c3 c4 d0 d1 d2 d3 d4; obtain ⟨c0, c1, c2, c3, c4, cf⟩ := HX2.out; obtain ⟨d0, d1, d2, d3, d4, df⟩ := HY2.out; clear cf df hb hb2))
        · go_ret
          refine ⟨_, rfl, ?_, HB2.out⟩
          have k1 : b1 = true := by assumption
          have k2 : b2 = true := by assumption
          rw [HI.out, ← HE1.out, ← HE2.out, k1, k2]
          decide
        · go_ret
          refine ⟨_, rfl, ?_, HB2.out⟩
          have k1 : b1 = true := by assumption
          have k2 : ¬ b2 = true := by assumption
          rw [HI.out, ← HE1.out, ← HE2.out]
          simp [k2]
        · go_ret
          refine ⟨_, rfl, ?_, HB1.out⟩
          have k1 : ¬ b1 = true := by assumption
          rw [HI.out, ← HE1.out]
          simp [k1]
    · have HN := Lib.hid (show ¬ PV.same ⟨pi, pt, nf, ff, no, fo, ps⟩ ⟨pi, qt, mf, fg, mo, go, qs⟩ from fun h => et h.1.2)
      have nt : (pt == qt) = false := by simpa using et
      clear et
      go_enter Try.func30, Try.ntmps30
      go_wp2
      go_ret
      exact ⟨false, rfl, ⟨(fun h => absurd h (by decide)), (fun h => absurd h HN.out)⟩, HB.out⟩
  · have HN := Lib.hid (show ¬ PV.same ⟨pi, pt, nf, ff, no, fo, ps⟩ ⟨qi, qt, mf, fg, mo, go, qs⟩ from fun h => ei h.1.1)
    have ni : (pi == qi) = false := by simpa using ei
    clear ei
    go_enter Try.func30, Try.ntmps30
    go_wp2
    go_ret
    exact ⟨false, rfl, ⟨(fun h => absurd h (by decide)), (fun h => absurd h HN.out)⟩, HB.out⟩
end Go.Proofs.Ytmaijjjhjkaoeaa
