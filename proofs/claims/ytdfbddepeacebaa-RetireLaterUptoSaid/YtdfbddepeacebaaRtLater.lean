/- RetireLater over the seat's program: it answers true where what comes back has room. -/
import Derived.Test.YtdfbddepeacebaaRtCnt
import Derived.Test.YtdfbddepeacebaaRtW
import Derived.Deep.DeepCutAuto
namespace Go.Proofs.Ytdfbddepeacebaa
open Go.ChangeShapes Go.WideShapes Go.ChangeAt Go.RowKit Go.Joins

set_option maxRecDepth 100000 in
set_option maxHeartbeats 12800000 in
theorem later_walk (v : Value) (P : PV) (st g0 h0 : Int) (w : World) (hp : PoolAt w v P) (hw : P.wide) (hsum : (P.nf + P.no) * 16 ≤ 140737488355328) (hst : st ≤ 9223372036854775807) (hg0 : g0 ≤ 9223372036854775807) (hh0 : h0 ≤ 9223372036854775807) : Calls Try.prog 7 #[v, .int .i64 st, .int .i64 g0, .int .i64 h0] w fun e w' => e = .returned (.bool true) ∧ Below w.heap.size w w' := by
  have HP := Lib.hid (fun W hb => (hp.below hb : PoolAt W v P))
  obtain ⟨g, h, hgh, hg, hh, hcase⟩ : ∃ g h : Int, g ≤ h ∧ g ≤ 9223372036854775807 ∧ h ≤ 9223372036854775807 ∧ ((g0 = h ∧ h0 = g ∧ h0 < g0) ∨ (g0 = g ∧ h0 = h ∧ ¬ h0 < g0)) := by
    by_cases hc : h0 < g0
    · exact ⟨h0, g0, by omega, by omega, by omega, .inl ⟨rfl, rfl, hc⟩⟩
    · exact ⟨g0, h0, by omega, by omega, by omega, .inr ⟨rfl, rfl, hc⟩⟩
  have hfo : ∀ k, k < P.no → P.fo k 2 ≤ 9223372036854775807 := fun k hk => (hw.2 k 2 hk (by omega)).2
  have HS := Lib.hid hsum
  have hno : P.no * 24 ≤ 140737488355328 := by
    obtain ⟨_, _, _, _, _, _, hr⟩ := hp
    have h3 := hr.1
    omega
  obtain ⟨X, hX⟩ : ∃ X, P.byE g = X := ⟨_, rfl⟩
  obtain ⟨Y, hY⟩ : ∃ Y, P.byE h = Y := ⟨_, rfl⟩
  obtain ⟨Z, hZ⟩ : ∃ Z, X.byE h = Z := ⟨_, rfl⟩
  have sX : X.nf + X.no = P.nf + P.no := hX ▸ byE_sum P g
  have sY : Y.nf + Y.no = P.nf + P.no := hY ▸ byE_sum P h
  have sZ : Z.nf + Z.no = X.nf + X.no := hZ ▸ byE_sum X h
  have nX : X.no ≤ P.no := hX ▸ byE_no P g
  have nY : Y.no ≤ P.no := hY ▸ byE_no P h
  have nZ : Z.no ≤ X.no := hZ ▸ byE_no X h
  have HRB := Lib.hid (show (X.nf * 16 ≤ 140737488355328 ∧ X.no * 24 ≤ 140737488355328) ∧ (Y.nf * 16 ≤ 140737488355328 ∧ Y.no * 24 ≤ 140737488355328) ∧ (Z.nf * 16 ≤ 140737488355328 ∧ Z.no * 24 ≤ 140737488355328) by omega)
  have l1 : (Y.no : Int) ≤ (X.no : Int) := by have := byE_le P hgh; rw [hX, hY] at this; omega
  have HZY := Lib.hid (show Z.no = Y.no by rw [← hZ, ← hX, ← hY]; exact byE_twice P hgh)
  have HZC := Lib.hid (show Z.count = P.count by rw [← hZ, byE_count, ← hX, byE_count])
  have HEX := Lib.hid (fun W (hp : PoolAt W v P) => show Calls Try.prog 8 #[v, .int .i64 g] W (RetBack X ((P.no : Int) - X.no) W) from hX ▸ byE_any v P g hg hfo HS.out W hp)
  have HEY := Lib.hid (fun W (hp : PoolAt W v P) => show Calls Try.prog 8 #[v, .int .i64 h] W (RetBack Y ((P.no : Int) - Y.no) W) from hY ▸ byE_any v P h hh hfo HS.out W hp)
  have HEZ := Lib.hid (fun W v (hp : PoolAt W v X) => show Calls Try.prog 8 #[v, .int .i64 h] W (RetBack Z ((X.no : Int) - Z.no) W) from hZ ▸ byE_any v X h hh (hX ▸ byE_hi P g hfo) (by have := HS.out; omega) W hp)
  have HPG := Lib.hid (fun W => past_any st g hst hg W)
  have HPH := Lib.hid (fun W => past_any st h hst hh W)
  have HMO := Lib.hid (fun (hp : pastB st g = true) => past_mono hp hgh)
  obtain ⟨fa, fc, oa, oc, rfl, _, _⟩ := hp
  clear hw hsum hX hY hZ hno sX sY sZ nX nY nZ hfo hg0 hh0 hgh hg hh hst
  have HB0 := Lib.hid (show Below w.heap.size w (w.alloc (.cells #[.int .i64 P.i, .int .i64 P.t, .slice fa P.nf fc, .slice oa P.no oc, .int .i64 P.s] 27)) from (Below.refl _ _).alloc (Nat.le_refl _) _)
  have HX := Lib.hid (show Box (w.alloc (.cells #[.int .i64 P.i, .int .i64 P.t, .slice fa P.nf fc, .slice oa P.no oc, .int .i64 P.s] 27)) w.heap.size (.int .i64 P.i) (.int .i64 P.t) (.slice fa P.nf fc) (.slice oa P.no oc) (.int .i64 P.s) from Box.new w _)
  go_enter Try.func7, Try.ntmps7
  go_upto_if 17 with (fail)
  go_cut [2, 3] (fun s2 s3 wx => s2 = .int .i64 g ∧ s3 = .int .i64 h ∧ wx = w.alloc (.cells #[.int .i64 P.i, .int .i64 P.t, .slice fa P.nf fc, .slice oa P.no oc, .int .i64 P.s] 27))
  case first =>
    rcases hcase with ⟨rfl, rfl, hc⟩ | ⟨rfl, rfl, hc⟩
    · go_wp2_with fail
      all_goals go_meet
      all_goals exact ⟨rfl, rfl, rfl⟩
    · go_wp2_with fail
      all_goals go_meet
      all_goals exact ⟨rfl, rfl, rfl⟩
  case rest =>
    obtain ⟨rfl, rfl, rfl⟩ := hcut
    clear hcase
    go_wp2_with (first
      | (go_at_call 8; (with_reducible refine (HEX.out _ (HP.out _ HB0.out)).mono ?_); rintro e w2 ⟨f2, o2, rfl, ho, hb⟩; have hv2 := ho.at HRB.out.1.1 HRB.out.1.2; (obtain ⟨a2, k2, rfl⟩ := own_form ho.1); (obtain ⟨b2, l2, rfl⟩ := own_form ho.2.1); have HV2 := Lib.hid hv2; have HX2 := Lib.hid (HX.out.below (by simp) hb); have HB2 := Lib.hid (HB0.out.trans (hb.mono (by simp))); have z2 := size1 hb; clear hb ho hv2; (obtain ⟨c0, c1, c2, c3, c4, cc⟩ := HX2.out); clear cc; have HA2 := Lib.hid (show Below w2.heap.size w2 (w2.alloc (.cells #[.int .i64 X.i, .int .i64 X.t, .slice a2 X.nf k2, .slice b2 X.no l2, .int .i64 X.s] 27)) from (Below.refl _ _).alloc (Nat.le_refl _) _))
      | (go_at_call 8; (with_reducible refine (HEY.out _ (HP.out _ (HB2.out.trans (HA2.out.mono HB2.out.size)))).mono ?_); rintro e w3 ⟨f3, o3, rfl, ho, hb⟩; have hv3 := ho.at HRB.out.2.1.1 HRB.out.2.1.2; (obtain ⟨a3, k3, rfl⟩ := own_form ho.1); (obtain ⟨b3, l3, rfl⟩ := own_form ho.2.1); have HV3 := Lib.hid hv3; have HL3 := Lib.hid (show Below w2.heap.size w2 w3 from below_next HA2.out hb); have HV23 := Lib.hid (HV2.out.below HL3.out); have HX3 := Lib.hid (HX2.out.below z2 HL3.out); have HY3 := Lib.hid ((Box.new (a := .int .i64 X.i) (b := .int .i64 X.t) (c := .slice a2 X.nf k2) (d := .slice b2 X.no l2) (e := .int .i64 X.s) w2 27).below (by simp) hb); have HB3 := Lib.hid (HB2.out.trans (HL3.out.mono HB2.out.size)); have z23 := size1 hb; clear hb ho hv3 c0 c1 c2 c3 c4; (obtain ⟨c0, c1, c2, c3, c4, cc⟩ := HY3.out); clear cc; have HA3 := Lib.hid (show Below w3.heap.size w3 (w3.alloc (.cells #[.int .i64 Y.i, .int .i64 Y.t, .slice a3 Y.nf k3, .slice b3 Y.no l3, .int .i64 Y.s] 27)) from (Below.refl _ _).alloc (Nat.le_refl _) _))
      | (go_at_call 8; (with_reducible refine (HEZ.out _ _ (HV23.out.below HA3.out)).mono ?_); rintro e w4 ⟨f4, o4, rfl, ho, hb⟩; have hv4 := ho.at HRB.out.2.2.1 HRB.out.2.2.2; (obtain ⟨a4, k4, rfl⟩ := own_form ho.1); (obtain ⟨b4, l4, rfl⟩ := own_form ho.2.1); have HL4 := Lib.hid (show Below w3.heap.size w3 w4 from below_next HA3.out hb); have HA4 := Lib.hid (show Below w4.heap.size w4 (w4.alloc (.cells #[.int .i64 Z.i, .int .i64 Z.t, .slice a4 Z.nf k4, .slice b4 Z.no l4, .int .i64 Z.s] 27)) from (Below.refl _ _).alloc (Nat.le_refl _) _); have HV4 := Lib.hid (hv4.below HA4.out); have z3 : w.heap.size < w3.heap.size := Nat.lt_of_lt_of_le z2 HL3.out.size; have z34 := size1 hb; have HX4 := Lib.hid ((HX3.out.below z3 HL4.out).below (by omega) HA4.out); have HY4 := Lib.hid ((HY3.out.below z23 HL4.out).below (by omega) HA4.out); have HZ4 := Lib.hid (((Box.new (a := .int .i64 Y.i) (b := .int .i64 Y.t) (c := .slice a3 Y.nf k3) (d := .slice b3 Y.no l3) (e := .int .i64 Y.s) w3 27).below (by simp) hb).below z34 HA4.out); have HB4 := Lib.hid ((HB3.out.trans (HL4.out.mono HB3.out.size)).trans (HA4.out.mono (by omega))); clear hb ho hv4 c0 c1 c2 c3 c4))
    go_upto_region 6 with (fail)
    have HQ4 := Lib.hid (Box.new (a := .int .i64 Z.i) (b := .int .i64 Z.t) (c := .slice a4 Z.nf k4) (d := .slice b4 Z.no l4) (e := .int .i64 Z.s) w4 27)
    refine abstract_code (fun u => ((Box u w.heap.size (.int .i64 P.i) (.int .i64 P.t) (.slice fa P.nf fc) (.slice oa P.no oc) (.int .i64 P.s) ∧ Box u w2.heap.size (.int .i64 X.i) (.int .i64 X.t) (.slice a2 X.nf k2) (.slice b2 X.no l2) (.int .i64 X.s)) ∧ Box u w3.heap.size (.int .i64 Y.i) (.int .i64 Y.t) (.slice a3 Y.nf k3) (.slice b3 Y.no l3) (.int .i64 Y.s) ∧ Box u w4.heap.size (.int .i64 Z.i) (.int .i64 Z.t) (.slice a4 Z.nf k4) (.slice b4 Z.no l4) (.int .i64 Z.s)) ∧ PoolAt u (.agg #[.int .i64 Z.i, .int .i64 Z.t, .slice a4 Z.nf k4, .slice b4 Z.no l4, .int .i64 Z.s]) Z ∧ Below w.heap.size w u ∧ w.heap.size < w2.heap.size ∧ w2.heap.size < w3.heap.size ∧ w3.heap.size < w4.heap.size ∧ w4.heap.size < u.heap.size) ⟨⟨⟨HX4.out, HY4.out⟩, HZ4.out, HQ4.out⟩, HV4.out, HB4.out, z2, z23, z34, by simp⟩ ?_
    clear HX4 HY4 HZ4 HQ4 HV4 HB4 z2 z23 z34 z3 HL4 HA4 HL3 HX3 HY3 HB3 HA3 HV23 HV3 HX2 HV2 HB2 HA2 HX HB0 HEX HEY HEZ HRB
    rintro u ⟨⟨⟨hx, hy⟩, hz, hq⟩, hv, hb, y0, y2, y3, z4⟩
    have HVZ := Lib.hid (fun W (hb : Below u.heap.size u W) => hv.below hb)
    have HU0 := Lib.hid hb
    have z0 : w.heap.size < u.heap.size := by omega
    have z2 : w2.heap.size < u.heap.size := by omega
    have z3 : w3.heap.size < u.heap.size := by omega
    clear hv hb y0 y2 y3
    generalize w2.heap.size = q2 at *
    generalize w3.heap.size = q3 at *
    generalize w4.heap.size = q4 at *
    obtain ⟨c0, c1, c2, c3, c4, cf⟩ := hx
    obtain ⟨c5, c6, c7, c8, c9, df⟩ := hy
    obtain ⟨c10, c11, c12, c13, c14, ef⟩ := hz
    obtain ⟨c15, c16, c17, c18, c19, gf⟩ := hq
    clear cf df ef gf
    have e1 : ((Z.no : Int) == (Y.no : Int)) = true := by rw [HZY.out]; simp
    have e2 : ((Z.count : Int) == (P.count : Int)) = true := by rw [HZC.out]; simp
    cases hpg : pastB st g
    · rw [hpg] at HPG
      clear HMO hpg
      refine wp_region_noPanic ?_
      refine wp_region_held_drew (S := (fun W => W.cell? ⟨w.heap.size, 0, none⟩ = some (.int .i64 P.i) ∧ W.cell? ⟨w.heap.size, 1, none⟩ = some (.int .i64 P.t) ∧ W.cell? ⟨w.heap.size, 2, none⟩ = some (.slice fa P.nf fc) ∧ W.cell? ⟨w.heap.size, 3, none⟩ = some (.slice oa P.no oc) ∧ W.cell? ⟨w.heap.size, 4, none⟩ = some (.int .i64 P.s) ∧ W.cell? ⟨q2, 0, none⟩ = some (.int .i64 X.i) ∧ W.cell? ⟨q2, 1, none⟩ = some (.int .i64 X.t) ∧ W.cell? ⟨q2, 2, none⟩ = some (.slice a2 X.nf k2) ∧ W.cell? ⟨q2, 3, none⟩ = some (.slice b2 X.no l2) ∧ W.cell? ⟨q2, 4, none⟩ = some (.int .i64 X.s) ∧ W.cell? ⟨q3, 0, none⟩ = some (.int .i64 Y.i) ∧ W.cell? ⟨q3, 1, none⟩ = some (.int .i64 Y.t) ∧ W.cell? ⟨q3, 2, none⟩ = some (.slice a3 Y.nf k3) ∧ W.cell? ⟨q3, 3, none⟩ = some (.slice b3 Y.no l3) ∧ W.cell? ⟨q3, 4, none⟩ = some (.int .i64 Y.s) ∧ W.cell? ⟨q4, 0, none⟩ = some (.int .i64 Z.i) ∧ W.cell? ⟨q4, 1, none⟩ = some (.int .i64 Z.t) ∧ W.cell? ⟨q4, 2, none⟩ = some (.slice a4 Z.nf k4) ∧ W.cell? ⟨q4, 3, none⟩ = some (.slice b4 Z.no l4) ∧ W.cell? ⟨q4, 4, none⟩ = some (.int .i64 Z.s))) (by kernel_rfl) ?_ (fun hHeld => ?_)
      · (try dsimp only); (first | with_reducible exact ⟨c0, c1, c2, c3, c4, c5, c6, c7, c8, c9, c10, c11, c12, c13, c14, c15, c16, c17, c18, c19⟩ | (go_simp; done) | go_keep)
      refine wpAnyH_take (i := 0) (oi := ?o0) (v := ?v0) ?h0 (by kernel_rfl) (by kernel_rfl) (by kernel_rfl) (fun _ _ _ h => h) ?y0 hHeld ?r0
      case h0 => simp only [List.getElem?_toArray, List.getElem?_cons_zero]; rfl
      case y0 => (refine Or.inl ⟨by rfl, fun w hSw => ?_⟩; (try dsimp only at hSw); go_simp; try with_reducible rfl)
      try simp only [Act.put, List.setIfInBounds_toArray, List.set_cons_zero, List.set_cons_succ]
      refine wpAnyH_take (i := 1) (oi := ?o1) (v := ?v1) ?h1 (by kernel_rfl) (by kernel_rfl) (by kernel_rfl) (fun _ _ _ h => h) ?y1 hHeld ?r1
      case h1 => simp only [List.getElem?_toArray, List.getElem?_cons_zero, List.getElem?_cons_succ]; rfl
      case y1 => (refine Or.inl ⟨by rfl, fun w hSw => ?_⟩; (try dsimp only at hSw); go_simp; try with_reducible rfl)
      try simp only [Act.put, List.setIfInBounds_toArray, List.set_cons_zero, List.set_cons_succ]
      refine wpAnyH_ready (rs := [2]) (by kernel_rfl) (by simp) ?_
      refine AllReadyH.cons (o := ?o2) ?h2 (fun K hK => ?_) AllReadyH.nil
      case h2 => simp only [List.getElem?_toArray, List.getElem?_cons_zero, List.getElem?_cons_succ]; rfl
      go_simp
      (first
        | (go_at_call 11; (with_reducible refine (HPG.out _).mono ?_); rintro e w5 ⟨rfl, rfl⟩)
        | (go_at_call 25; (with_reducible refine (rcount_any _ Z _ (HVZ.out _ ?_)).mono ?_); (any_goals (first | (with_reducible refine Below.drew ?_; with_reducible exact Below.refl _ _) | with_reducible exact Below.refl _ _)); rintro e w7 ⟨rfl, hb⟩; have HB7 := Lib.hid (show Below u.heap.size u w7 from below_next (by with_reducible refine Below.drew ?_; with_reducible exact Below.refl _ _) hb); have c0 := ((bcell HB7.out).1 _ _ z0).trans c0; have c1 := ((bcell HB7.out).1 _ _ z0).trans c1; have c2 := ((bcell HB7.out).1 _ _ z0).trans c2; have c3 := ((bcell HB7.out).1 _ _ z0).trans c3; have c4 := ((bcell HB7.out).1 _ _ z0).trans c4; have c5 := ((bcell HB7.out).1 _ _ z2).trans c5; have c6 := ((bcell HB7.out).1 _ _ z2).trans c6; have c7 := ((bcell HB7.out).1 _ _ z2).trans c7; have c8 := ((bcell HB7.out).1 _ _ z2).trans c8; have c9 := ((bcell HB7.out).1 _ _ z2).trans c9; have c10 := ((bcell HB7.out).1 _ _ z3).trans c10; have c11 := ((bcell HB7.out).1 _ _ z3).trans c11; have c12 := ((bcell HB7.out).1 _ _ z3).trans c12; have c13 := ((bcell HB7.out).1 _ _ z3).trans c13; have c14 := ((bcell HB7.out).1 _ _ z3).trans c14; have c15 := ((bcell HB7.out).1 _ _ z4).trans c15; have c16 := ((bcell HB7.out).1 _ _ z4).trans c16; have c17 := ((bcell HB7.out).1 _ _ z4).trans c17; have c18 := ((bcell HB7.out).1 _ _ z4).trans c18; have c19 := ((bcell HB7.out).1 _ _ z4).trans c19; have z0 := Nat.lt_of_lt_of_le z0 HB7.out.size; have z2 := Nat.lt_of_lt_of_le z2 HB7.out.size; have z3 := Nat.lt_of_lt_of_le z3 HB7.out.size; have z4 := Nat.lt_of_lt_of_le z4 HB7.out.size; have HU7 := Lib.hid (HU0.out.trans (HB7.out.mono HU0.out.size)); clear hb)
        | (go_at_call 25; (with_reducible refine (rcount_any _ P _ (HP.out _ HU7.out)).mono ?_); rintro e w8 ⟨rfl, hb⟩; have HB8 := Lib.hid (show Below w7.heap.size w7 w8 from hb); have c0 := ((bcell HB8.out).1 _ _ z0).trans c0; have c1 := ((bcell HB8.out).1 _ _ z0).trans c1; have c2 := ((bcell HB8.out).1 _ _ z0).trans c2; have c3 := ((bcell HB8.out).1 _ _ z0).trans c3; have c4 := ((bcell HB8.out).1 _ _ z0).trans c4; have c5 := ((bcell HB8.out).1 _ _ z2).trans c5; have c6 := ((bcell HB8.out).1 _ _ z2).trans c6; have c7 := ((bcell HB8.out).1 _ _ z2).trans c7; have c8 := ((bcell HB8.out).1 _ _ z2).trans c8; have c9 := ((bcell HB8.out).1 _ _ z2).trans c9; have c10 := ((bcell HB8.out).1 _ _ z3).trans c10; have c11 := ((bcell HB8.out).1 _ _ z3).trans c11; have c12 := ((bcell HB8.out).1 _ _ z3).trans c12; have c13 := ((bcell HB8.out).1 _ _ z3).trans c13; have c14 := ((bcell HB8.out).1 _ _ z3).trans c14; have c15 := ((bcell HB8.out).1 _ _ z4).trans c15; have c16 := ((bcell HB8.out).1 _ _ z4).trans c16; have c17 := ((bcell HB8.out).1 _ _ z4).trans c17; have c18 := ((bcell HB8.out).1 _ _ z4).trans c18; have c19 := ((bcell HB8.out).1 _ _ z4).trans c19; have z0 := Nat.lt_of_lt_of_le z0 HB8.out.size; have z2 := Nat.lt_of_lt_of_le z2 HB8.out.size; have z3 := Nat.lt_of_lt_of_le z3 HB8.out.size; have z4 := Nat.lt_of_lt_of_le z4 HB8.out.size; have HU8 := Lib.hid (HU7.out.trans (HB8.out.mono HU7.out.size)); clear hb)
        | (go_at_call 13; (with_reducible refine (awake_any _).mono ?_); rintro e w9 ⟨rfl, hb⟩; have HB9 := Lib.hid (show Below w8.heap.size w8 w9 from hb); have c0 := ((bcell HB9.out).1 _ _ z0).trans c0; have c1 := ((bcell HB9.out).1 _ _ z0).trans c1; have c2 := ((bcell HB9.out).1 _ _ z0).trans c2; have c3 := ((bcell HB9.out).1 _ _ z0).trans c3; have c4 := ((bcell HB9.out).1 _ _ z0).trans c4; have c5 := ((bcell HB9.out).1 _ _ z2).trans c5; have c6 := ((bcell HB9.out).1 _ _ z2).trans c6; have c7 := ((bcell HB9.out).1 _ _ z2).trans c7; have c8 := ((bcell HB9.out).1 _ _ z2).trans c8; have c9 := ((bcell HB9.out).1 _ _ z2).trans c9; have c10 := ((bcell HB9.out).1 _ _ z3).trans c10; have c11 := ((bcell HB9.out).1 _ _ z3).trans c11; have c12 := ((bcell HB9.out).1 _ _ z3).trans c12; have c13 := ((bcell HB9.out).1 _ _ z3).trans c13; have c14 := ((bcell HB9.out).1 _ _ z3).trans c14; have c15 := ((bcell HB9.out).1 _ _ z4).trans c15; have c16 := ((bcell HB9.out).1 _ _ z4).trans c16; have c17 := ((bcell HB9.out).1 _ _ z4).trans c17; have c18 := ((bcell HB9.out).1 _ _ z4).trans c18; have c19 := ((bcell HB9.out).1 _ _ z4).trans c19; have z0 := Nat.lt_of_lt_of_le z0 HB9.out.size; have z2 := Nat.lt_of_lt_of_le z2 HB9.out.size; have z3 := Nat.lt_of_lt_of_le z3 HB9.out.size; have z4 := Nat.lt_of_lt_of_le z4 HB9.out.size; have HU9 := Lib.hid (HU8.out.trans (HB9.out.mono HU8.out.size)); clear hb))
      refine hK.out _ _ ?_ (fun hHeld' => ?_)
      · (try dsimp only); (first | with_reducible exact ⟨c0, c1, c2, c3, c4, c5, c6, c7, c8, c9, c10, c11, c12, c13, c14, c15, c16, c17, c18, c19⟩ | (go_simp; done) | go_keep)
      clear hK K hHeld
      have hHeld := hHeld'
      clear hHeld'
      try simp only [Act.put, List.setIfInBounds_toArray, List.set_cons_zero, List.set_cons_succ]
      refine wpAnyH_take (i := 3) (oi := ?o3) (v := ?v3) ?h3 (by kernel_rfl) (by kernel_rfl) (by kernel_rfl) (fun _ _ _ h => h) ?y3 hHeld ?r3
      case h3 => simp only [List.getElem?_toArray, List.getElem?_cons_zero, List.getElem?_cons_succ]; rfl
      case y3 => (refine Or.inl ⟨by rfl, fun w hSw => ?_⟩; (try dsimp only at hSw); go_simp; try with_reducible rfl)
      try simp only [Act.put, List.setIfInBounds_toArray, List.set_cons_zero, List.set_cons_succ]
      refine wpAnyH_take (i := 4) (oi := ?o4) (v := ?v4) ?h4 (by kernel_rfl) (by kernel_rfl) (by kernel_rfl) (fun _ _ _ h => h) ?y4 hHeld ?r4
      case h4 => simp only [List.getElem?_toArray, List.getElem?_cons_zero, List.getElem?_cons_succ]; rfl
      case y4 => (refine Or.inl ⟨by rfl, fun w hSw => ?_⟩; (try dsimp only at hSw); go_simp; try with_reducible rfl)
      try simp only [Act.put, List.setIfInBounds_toArray, List.set_cons_zero, List.set_cons_succ]
      refine wpAnyH_take (i := 5) (oi := ?o5) (v := undef) ?h5 (by kernel_rfl) (by kernel_rfl) (by kernel_rfl) (fun _ _ _ h => h) ?y5 hHeld ?r5
      case h5 => simp only [List.getElem?_toArray, List.getElem?_cons_zero, List.getElem?_cons_succ]; rfl
      case y5 => exact Or.inr ⟨by rfl, rfl⟩
      try simp only [Act.put, List.setIfInBounds_toArray, List.set_cons_zero, List.set_cons_succ]
      refine wpAnyH_take (i := 6) (oi := ?o6) (v := undef) ?h6 (by kernel_rfl) (by kernel_rfl) (by kernel_rfl) (fun _ _ _ h => h) ?y6 hHeld ?r6
      case h6 => simp only [List.getElem?_toArray, List.getElem?_cons_zero, List.getElem?_cons_succ]; rfl
      case y6 => exact Or.inr ⟨by rfl, rfl⟩
      try simp only [Act.put, List.setIfInBounds_toArray, List.set_cons_zero, List.set_cons_succ]
      refine wpAnyH_take (i := 7) (oi := ?o7) (v := undef) ?h7 (by kernel_rfl) (by kernel_rfl) (by kernel_rfl) (fun _ _ _ h => h) ?y7 hHeld ?r7
      case h7 => simp only [List.getElem?_toArray, List.getElem?_cons_zero, List.getElem?_cons_succ]; rfl
      case y7 => exact Or.inr ⟨by rfl, rfl⟩
      try simp only [Act.put, List.setIfInBounds_toArray, List.set_cons_zero, List.set_cons_succ]
      refine wpAnyH_take (i := 8) (oi := ?o8) (v := ?v8) ?h8 (by kernel_rfl) (by kernel_rfl) (by kernel_rfl) (fun _ _ _ h => h) ?y8 hHeld ?r8
      case h8 => simp only [List.getElem?_toArray, List.getElem?_cons_zero, List.getElem?_cons_succ]; rfl
      case y8 => (refine Or.inl ⟨by rfl, fun w hSw => ?_⟩; (try dsimp only at hSw); go_simp; try with_reducible rfl)
      try simp only [Act.put, List.setIfInBounds_toArray, List.set_cons_zero, List.set_cons_succ]
      refine wpAnyH_take (i := 9) (oi := ?o9) (v := ?v9) ?h9 (by kernel_rfl) (by kernel_rfl) (by kernel_rfl) (fun _ _ _ h => h) ?y9 hHeld ?r9
      case h9 => simp only [List.getElem?_toArray, List.getElem?_cons_zero, List.getElem?_cons_succ]; rfl
      case y9 => (refine Or.inl ⟨by rfl, fun w hSw => ?_⟩; (try dsimp only at hSw); go_simp; try with_reducible rfl)
      try simp only [Act.put, List.setIfInBounds_toArray, List.set_cons_zero, List.set_cons_succ]
      refine wpAnyH_take (i := 10) (oi := ?o10) (v := ?v10) ?h10 (by kernel_rfl) (by kernel_rfl) (by kernel_rfl) (fun _ _ _ h => h) ?y10 hHeld ?r10
      case h10 => simp only [List.getElem?_toArray, List.getElem?_cons_zero, List.getElem?_cons_succ]; rfl
      case y10 => (refine Or.inl ⟨by rfl, fun w hSw => ?_⟩; (try dsimp only at hSw); go_simp; try with_reducible rfl)
      try simp only [Act.put, List.setIfInBounds_toArray, List.set_cons_zero, List.set_cons_succ]
      refine wpAnyH_take (i := 11) (oi := ?o11) (v := ?v11) ?h11 (by kernel_rfl) (by kernel_rfl) (by kernel_rfl) (fun _ _ _ h => h) ?y11 hHeld ?r11
      case h11 => simp only [List.getElem?_toArray, List.getElem?_cons_zero, List.getElem?_cons_succ]; rfl
      case y11 => (refine Or.inl ⟨by rfl, fun w hSw => ?_⟩; (try dsimp only at hSw); go_simp; try with_reducible rfl)
      try simp only [Act.put, List.setIfInBounds_toArray, List.set_cons_zero, List.set_cons_succ]
      refine wpAnyH_take (i := 12) (oi := ?o12) (v := ?v12) ?h12 (by kernel_rfl) (by kernel_rfl) (by kernel_rfl) (fun _ _ _ h => h) ?y12 hHeld ?r12
      case h12 => simp only [List.getElem?_toArray, List.getElem?_cons_zero, List.getElem?_cons_succ]; rfl
      case y12 => (refine Or.inl ⟨by rfl, fun w hSw => ?_⟩; (try dsimp only at hSw); go_simp; try with_reducible rfl)
      try simp only [Act.put, List.setIfInBounds_toArray, List.set_cons_zero, List.set_cons_succ]
      refine wpAnyH_take (i := 13) (oi := ?o13) (v := ?v13) ?h13 (by kernel_rfl) (by kernel_rfl) (by kernel_rfl) (fun _ _ _ h => h) ?y13 hHeld ?r13
      case h13 => simp only [List.getElem?_toArray, List.getElem?_cons_zero, List.getElem?_cons_succ]; rfl
      case y13 => (refine Or.inl ⟨by rfl, fun w hSw => ?_⟩; (try dsimp only at hSw); go_simp; try with_reducible rfl)
      try simp only [Act.put, List.setIfInBounds_toArray, List.set_cons_zero, List.set_cons_succ]
      refine wpAnyH_take (i := 14) (oi := ?o14) (v := ?v14) ?h14 (by kernel_rfl) (by kernel_rfl) (by kernel_rfl) (fun _ _ _ h => h) ?y14 hHeld ?r14
      case h14 => simp only [List.getElem?_toArray, List.getElem?_cons_zero, List.getElem?_cons_succ]; rfl
      case y14 => (refine Or.inl ⟨by rfl, fun w hSw => ?_⟩; (try dsimp only at hSw); go_simp; try with_reducible rfl)
      try simp only [Act.put, List.setIfInBounds_toArray, List.set_cons_zero, List.set_cons_succ]
      refine wpAnyH_take (i := 15) (oi := ?o15) (v := ?v15) ?h15 (by kernel_rfl) (by kernel_rfl) (by kernel_rfl) (fun _ _ _ h => h) ?y15 hHeld ?r15
      case h15 => simp only [List.getElem?_toArray, List.getElem?_cons_zero, List.getElem?_cons_succ]; rfl
      case y15 => (refine Or.inl ⟨by rfl, fun w hSw => ?_⟩; (try dsimp only at hSw); go_simp; try with_reducible rfl)
      try simp only [Act.put, List.setIfInBounds_toArray, List.set_cons_zero, List.set_cons_succ]
      refine wpAnyH_take (i := 16) (oi := ?o16) (v := ?v16) ?h16 (by kernel_rfl) (by kernel_rfl) (by kernel_rfl) (fun _ _ _ h => h) ?y16 hHeld ?r16
      case h16 => simp only [List.getElem?_toArray, List.getElem?_cons_zero, List.getElem?_cons_succ]; rfl
      case y16 => (refine Or.inl ⟨by rfl, fun w hSw => ?_⟩; (try dsimp only at hSw); go_simp; try with_reducible rfl)
      try simp only [Act.put, List.setIfInBounds_toArray, List.set_cons_zero, List.set_cons_succ]
      refine wpAnyH_take (i := 17) (oi := ?o17) (v := ?v17) ?h17 (by kernel_rfl) (by kernel_rfl) (by kernel_rfl) (fun _ _ _ h => h) ?y17 hHeld ?r17
      case h17 => simp only [List.getElem?_toArray, List.getElem?_cons_zero, List.getElem?_cons_succ]; rfl
      case y17 => (refine Or.inl ⟨by rfl, fun w hSw => ?_⟩; (try dsimp only at hSw); go_simp; try with_reducible rfl)
      try simp only [Act.put, List.setIfInBounds_toArray, List.set_cons_zero, List.set_cons_succ]
      refine wpAnyH_take (i := 18) (oi := ?o18) (v := ?v18) ?h18 (by kernel_rfl) (by kernel_rfl) (by kernel_rfl) (fun _ _ _ h => h) ?y18 hHeld ?r18
      case h18 => simp only [List.getElem?_toArray, List.getElem?_cons_zero, List.getElem?_cons_succ]; rfl
      case y18 => (refine Or.inl ⟨by rfl, fun w hSw => ?_⟩; (try dsimp only at hSw); go_simp; try with_reducible rfl)
      try simp only [Act.put, List.setIfInBounds_toArray, List.set_cons_zero, List.set_cons_succ]
      refine wpAnyH_take (i := 19) (oi := ?o19) (v := ?v19) ?h19 (by kernel_rfl) (by kernel_rfl) (by kernel_rfl) (fun _ _ _ h => h) ?y19 hHeld ?r19
      case h19 => simp only [List.getElem?_toArray, List.getElem?_cons_zero, List.getElem?_cons_succ]; rfl
      case y19 => (refine Or.inl ⟨by rfl, fun w hSw => ?_⟩; (try dsimp only at hSw); go_simp; try with_reducible rfl)
      try simp only [Act.put, List.setIfInBounds_toArray, List.set_cons_zero, List.set_cons_succ]
      refine wpAnyH_take (i := 20) (oi := ?o20) (v := ?v20) ?h20 (by kernel_rfl) (by kernel_rfl) (by kernel_rfl) (fun _ _ _ h => h) ?y20 hHeld ?r20
      case h20 => simp only [List.getElem?_toArray, List.getElem?_cons_zero, List.getElem?_cons_succ]; rfl
      case y20 => (refine Or.inl ⟨by rfl, fun w hSw => ?_⟩; (try dsimp only at hSw); go_simp; try with_reducible rfl)
      try simp only [Act.put, List.setIfInBounds_toArray, List.set_cons_zero, List.set_cons_succ]
      refine wpAnyH_take (i := 21) (oi := ?o21) (v := ?v21) ?h21 (by kernel_rfl) (by kernel_rfl) (by kernel_rfl) (fun _ _ _ h => h) ?y21 hHeld ?r21
      case h21 => simp only [List.getElem?_toArray, List.getElem?_cons_zero, List.getElem?_cons_succ]; rfl
      case y21 => (refine Or.inl ⟨by rfl, fun w hSw => ?_⟩; (try dsimp only at hSw); go_simp; try with_reducible rfl)
      try simp only [Act.put, List.setIfInBounds_toArray, List.set_cons_zero, List.set_cons_succ]
      refine wpAnyH_take (i := 22) (oi := ?o22) (v := ?v22) ?h22 (by kernel_rfl) (by kernel_rfl) (by kernel_rfl) (fun _ _ _ h => h) ?y22 hHeld ?r22
      case h22 => simp only [List.getElem?_toArray, List.getElem?_cons_zero, List.getElem?_cons_succ]; rfl
      case y22 => (refine Or.inl ⟨by rfl, fun w hSw => ?_⟩; (try dsimp only at hSw); go_simp; try with_reducible rfl)
      try simp only [Act.put, List.setIfInBounds_toArray, List.set_cons_zero, List.set_cons_succ]
      refine wpAnyH_take (i := 23) (oi := ?o23) (v := ?v23) ?h23 (by kernel_rfl) (by kernel_rfl) (by kernel_rfl) (fun _ _ _ h => h) ?y23 hHeld ?r23
      case h23 => simp only [List.getElem?_toArray, List.getElem?_cons_zero, List.getElem?_cons_succ]; rfl
      case y23 => (refine Or.inl ⟨by rfl, fun w hSw => ?_⟩; (try dsimp only at hSw); go_simp; try with_reducible rfl)
      try simp only [Act.put, List.setIfInBounds_toArray, List.set_cons_zero, List.set_cons_succ]
      refine wpAnyH_take (i := 24) (oi := ?o24) (v := ?v24) ?h24 (by kernel_rfl) (by kernel_rfl) (by kernel_rfl) (fun _ _ _ h => h) ?y24 hHeld ?r24
      case h24 => simp only [List.getElem?_toArray, List.getElem?_cons_zero, List.getElem?_cons_succ]; rfl
      case y24 => (refine Or.inl ⟨by rfl, fun w hSw => ?_⟩; (try dsimp only at hSw); go_simp; try with_reducible rfl)
      try simp only [Act.put, List.setIfInBounds_toArray, List.set_cons_zero, List.set_cons_succ]
      refine wpAnyH_take (i := 25) (oi := ?o25) (v := ?v25) ?h25 (by kernel_rfl) (by kernel_rfl) (by kernel_rfl) (fun _ _ _ h => h) ?y25 hHeld ?r25
      case h25 => simp only [List.getElem?_toArray, List.getElem?_cons_zero, List.getElem?_cons_succ]; rfl
      case y25 => (refine Or.inl ⟨by rfl, fun w hSw => ?_⟩; (try dsimp only at hSw); go_simp; try with_reducible rfl)
      try simp only [Act.put, List.setIfInBounds_toArray, List.set_cons_zero, List.set_cons_succ]
      refine wpAnyH_take (i := 26) (oi := ?o26) (v := ?v26) ?h26 (by kernel_rfl) (by kernel_rfl) (by kernel_rfl) (fun _ _ _ h => h) ?y26 hHeld ?r26
      case h26 => simp only [List.getElem?_toArray, List.getElem?_cons_zero, List.getElem?_cons_succ]; rfl
      case y26 => (refine Or.inl ⟨by rfl, fun w hSw => ?_⟩; (try dsimp only at hSw); go_simp; try with_reducible rfl)
      try simp only [Act.put, List.setIfInBounds_toArray, List.set_cons_zero, List.set_cons_succ]
      refine wpAnyH_take (i := 27) (oi := ?o27) (v := ?v27) ?h27 (by kernel_rfl) (by kernel_rfl) (by kernel_rfl) (fun _ _ _ h => h) ?y27 hHeld ?r27
      case h27 => simp only [List.getElem?_toArray, List.getElem?_cons_zero, List.getElem?_cons_succ]; rfl
      case y27 => (refine Or.inl ⟨by rfl, fun w hSw => ?_⟩; (try dsimp only at hSw); go_simp; try with_reducible rfl)
      try simp only [Act.put, List.setIfInBounds_toArray, List.set_cons_zero, List.set_cons_succ]
      refine wpAnyH_take (i := 28) (oi := ?o28) (v := ?v28) ?h28 (by kernel_rfl) (by kernel_rfl) (by kernel_rfl) (fun _ _ _ h => h) ?y28 hHeld ?r28
      case h28 => simp only [List.getElem?_toArray, List.getElem?_cons_zero, List.getElem?_cons_succ]; rfl
      case y28 => (refine Or.inl ⟨by rfl, fun w hSw => ?_⟩; (try dsimp only at hSw); go_simp; try with_reducible rfl)
      try simp only [Act.put, List.setIfInBounds_toArray, List.set_cons_zero, List.set_cons_succ]
      refine wpAnyH_take (i := 30) (oi := ?o29) (v := ?v29) ?h29 (by kernel_rfl) (by kernel_rfl) (by kernel_rfl) (fun _ _ _ h => h) ?y29 hHeld ?r29
      case h29 => simp only [List.getElem?_toArray, List.getElem?_cons_zero, List.getElem?_cons_succ]; rfl
      case y29 => (refine Or.inl ⟨by rfl, fun w hSw => ?_⟩; (try dsimp only at hSw); go_simp; try with_reducible rfl)
      try simp only [Act.put, List.setIfInBounds_toArray, List.set_cons_zero, List.set_cons_succ]
      refine wpAnyH_ready (rs := [29]) (by kernel_rfl) (by simp) ?_
      refine AllReadyH.cons (o := ?o30) ?h30 (fun K hK => ?_) AllReadyH.nil
      case h30 => simp only [List.getElem?_toArray, List.getElem?_cons_zero, List.getElem?_cons_succ]; rfl
      go_simp
      (first
        | (go_at_call 11; (with_reducible refine (HPG.out _).mono ?_); rintro e w5 ⟨rfl, rfl⟩)
        | (go_at_call 25; (with_reducible refine (rcount_any _ Z _ (HVZ.out _ ?_)).mono ?_); (any_goals (first | (with_reducible refine Below.drew ?_; with_reducible exact Below.refl _ _) | with_reducible exact Below.refl _ _)); rintro e w7 ⟨rfl, hb⟩; have HB7 := Lib.hid (show Below u.heap.size u w7 from below_next (by with_reducible refine Below.drew ?_; with_reducible exact Below.refl _ _) hb); have c0 := ((bcell HB7.out).1 _ _ z0).trans c0; have c1 := ((bcell HB7.out).1 _ _ z0).trans c1; have c2 := ((bcell HB7.out).1 _ _ z0).trans c2; have c3 := ((bcell HB7.out).1 _ _ z0).trans c3; have c4 := ((bcell HB7.out).1 _ _ z0).trans c4; have c5 := ((bcell HB7.out).1 _ _ z2).trans c5; have c6 := ((bcell HB7.out).1 _ _ z2).trans c6; have c7 := ((bcell HB7.out).1 _ _ z2).trans c7; have c8 := ((bcell HB7.out).1 _ _ z2).trans c8; have c9 := ((bcell HB7.out).1 _ _ z2).trans c9; have c10 := ((bcell HB7.out).1 _ _ z3).trans c10; have c11 := ((bcell HB7.out).1 _ _ z3).trans c11; have c12 := ((bcell HB7.out).1 _ _ z3).trans c12; have c13 := ((bcell HB7.out).1 _ _ z3).trans c13; have c14 := ((bcell HB7.out).1 _ _ z3).trans c14; have c15 := ((bcell HB7.out).1 _ _ z4).trans c15; have c16 := ((bcell HB7.out).1 _ _ z4).trans c16; have c17 := ((bcell HB7.out).1 _ _ z4).trans c17; have c18 := ((bcell HB7.out).1 _ _ z4).trans c18; have c19 := ((bcell HB7.out).1 _ _ z4).trans c19; have z0 := Nat.lt_of_lt_of_le z0 HB7.out.size; have z2 := Nat.lt_of_lt_of_le z2 HB7.out.size; have z3 := Nat.lt_of_lt_of_le z3 HB7.out.size; have z4 := Nat.lt_of_lt_of_le z4 HB7.out.size; have HU7 := Lib.hid (HU0.out.trans (HB7.out.mono HU0.out.size)); clear hb)
        | (go_at_call 25; (with_reducible refine (rcount_any _ P _ (HP.out _ HU7.out)).mono ?_); rintro e w8 ⟨rfl, hb⟩; have HB8 := Lib.hid (show Below w7.heap.size w7 w8 from hb); have c0 := ((bcell HB8.out).1 _ _ z0).trans c0; have c1 := ((bcell HB8.out).1 _ _ z0).trans c1; have c2 := ((bcell HB8.out).1 _ _ z0).trans c2; have c3 := ((bcell HB8.out).1 _ _ z0).trans c3; have c4 := ((bcell HB8.out).1 _ _ z0).trans c4; have c5 := ((bcell HB8.out).1 _ _ z2).trans c5; have c6 := ((bcell HB8.out).1 _ _ z2).trans c6; have c7 := ((bcell HB8.out).1 _ _ z2).trans c7; have c8 := ((bcell HB8.out).1 _ _ z2).trans c8; have c9 := ((bcell HB8.out).1 _ _ z2).trans c9; have c10 := ((bcell HB8.out).1 _ _ z3).trans c10; have c11 := ((bcell HB8.out).1 _ _ z3).trans c11; have c12 := ((bcell HB8.out).1 _ _ z3).trans c12; have c13 := ((bcell HB8.out).1 _ _ z3).trans c13; have c14 := ((bcell HB8.out).1 _ _ z3).trans c14; have c15 := ((bcell HB8.out).1 _ _ z4).trans c15; have c16 := ((bcell HB8.out).1 _ _ z4).trans c16; have c17 := ((bcell HB8.out).1 _ _ z4).trans c17; have c18 := ((bcell HB8.out).1 _ _ z4).trans c18; have c19 := ((bcell HB8.out).1 _ _ z4).trans c19; have z0 := Nat.lt_of_lt_of_le z0 HB8.out.size; have z2 := Nat.lt_of_lt_of_le z2 HB8.out.size; have z3 := Nat.lt_of_lt_of_le z3 HB8.out.size; have z4 := Nat.lt_of_lt_of_le z4 HB8.out.size; have HU8 := Lib.hid (HU7.out.trans (HB8.out.mono HU7.out.size)); clear hb)
        | (go_at_call 13; (with_reducible refine (awake_any _).mono ?_); rintro e w9 ⟨rfl, hb⟩; have HB9 := Lib.hid (show Below w8.heap.size w8 w9 from hb); have c0 := ((bcell HB9.out).1 _ _ z0).trans c0; have c1 := ((bcell HB9.out).1 _ _ z0).trans c1; have c2 := ((bcell HB9.out).1 _ _ z0).trans c2; have c3 := ((bcell HB9.out).1 _ _ z0).trans c3; have c4 := ((bcell HB9.out).1 _ _ z0).trans c4; have c5 := ((bcell HB9.out).1 _ _ z2).trans c5; have c6 := ((bcell HB9.out).1 _ _ z2).trans c6; have c7 := ((bcell HB9.out).1 _ _ z2).trans c7; have c8 := ((bcell HB9.out).1 _ _ z2).trans c8; have c9 := ((bcell HB9.out).1 _ _ z2).trans c9; have c10 := ((bcell HB9.out).1 _ _ z3).trans c10; have c11 := ((bcell HB9.out).1 _ _ z3).trans c11; have c12 := ((bcell HB9.out).1 _ _ z3).trans c12; have c13 := ((bcell HB9.out).1 _ _ z3).trans c13; have c14 := ((bcell HB9.out).1 _ _ z3).trans c14; have c15 := ((bcell HB9.out).1 _ _ z4).trans c15; have c16 := ((bcell HB9.out).1 _ _ z4).trans c16; have c17 := ((bcell HB9.out).1 _ _ z4).trans c17; have c18 := ((bcell HB9.out).1 _ _ z4).trans c18; have c19 := ((bcell HB9.out).1 _ _ z4).trans c19; have z0 := Nat.lt_of_lt_of_le z0 HB9.out.size; have z2 := Nat.lt_of_lt_of_le z2 HB9.out.size; have z3 := Nat.lt_of_lt_of_le z3 HB9.out.size; have z4 := Nat.lt_of_lt_of_le z4 HB9.out.size; have HU9 := Lib.hid (HU8.out.trans (HB9.out.mono HU8.out.size)); clear hb))
      refine hK.out _ _ ?_ (fun hHeld' => ?_)
      · (try dsimp only); (first | with_reducible exact ⟨c0, c1, c2, c3, c4, c5, c6, c7, c8, c9, c10, c11, c12, c13, c14, c15, c16, c17, c18, c19⟩ | (go_simp; done) | go_keep)
      clear hK K hHeld
      have hHeld := hHeld'
      clear hHeld'
      try simp only [Act.put, List.setIfInBounds_toArray, List.set_cons_zero, List.set_cons_succ]
      refine wpAnyH_ready (rs := [31]) (by kernel_rfl) (by simp) ?_
      refine AllReadyH.cons (o := ?o31) ?h31 (fun K hK => ?_) AllReadyH.nil
      case h31 => simp only [List.getElem?_toArray, List.getElem?_cons_zero, List.getElem?_cons_succ]; rfl
      go_simp
      (first
        | (go_at_call 11; (with_reducible refine (HPG.out _).mono ?_); rintro e w5 ⟨rfl, rfl⟩)
        | (go_at_call 25; (with_reducible refine (rcount_any _ Z _ (HVZ.out _ ?_)).mono ?_); (any_goals (first | (with_reducible refine Below.drew ?_; with_reducible exact Below.refl _ _) | with_reducible exact Below.refl _ _)); rintro e w7 ⟨rfl, hb⟩; have HB7 := Lib.hid (show Below u.heap.size u w7 from below_next (by with_reducible refine Below.drew ?_; with_reducible exact Below.refl _ _) hb); have c0 := ((bcell HB7.out).1 _ _ z0).trans c0; have c1 := ((bcell HB7.out).1 _ _ z0).trans c1; have c2 := ((bcell HB7.out).1 _ _ z0).trans c2; have c3 := ((bcell HB7.out).1 _ _ z0).trans c3; have c4 := ((bcell HB7.out).1 _ _ z0).trans c4; have c5 := ((bcell HB7.out).1 _ _ z2).trans c5; have c6 := ((bcell HB7.out).1 _ _ z2).trans c6; have c7 := ((bcell HB7.out).1 _ _ z2).trans c7; have c8 := ((bcell HB7.out).1 _ _ z2).trans c8; have c9 := ((bcell HB7.out).1 _ _ z2).trans c9; have c10 := ((bcell HB7.out).1 _ _ z3).trans c10; have c11 := ((bcell HB7.out).1 _ _ z3).trans c11; have c12 := ((bcell HB7.out).1 _ _ z3).trans c12; have c13 := ((bcell HB7.out).1 _ _ z3).trans c13; have c14 := ((bcell HB7.out).1 _ _ z3).trans c14; have c15 := ((bcell HB7.out).1 _ _ z4).trans c15; have c16 := ((bcell HB7.out).1 _ _ z4).trans c16; have c17 := ((bcell HB7.out).1 _ _ z4).trans c17; have c18 := ((bcell HB7.out).1 _ _ z4).trans c18; have c19 := ((bcell HB7.out).1 _ _ z4).trans c19; have z0 := Nat.lt_of_lt_of_le z0 HB7.out.size; have z2 := Nat.lt_of_lt_of_le z2 HB7.out.size; have z3 := Nat.lt_of_lt_of_le z3 HB7.out.size; have z4 := Nat.lt_of_lt_of_le z4 HB7.out.size; have HU7 := Lib.hid (HU0.out.trans (HB7.out.mono HU0.out.size)); clear hb)
        | (go_at_call 25; (with_reducible refine (rcount_any _ P _ (HP.out _ HU7.out)).mono ?_); rintro e w8 ⟨rfl, hb⟩; have HB8 := Lib.hid (show Below w7.heap.size w7 w8 from hb); have c0 := ((bcell HB8.out).1 _ _ z0).trans c0; have c1 := ((bcell HB8.out).1 _ _ z0).trans c1; have c2 := ((bcell HB8.out).1 _ _ z0).trans c2; have c3 := ((bcell HB8.out).1 _ _ z0).trans c3; have c4 := ((bcell HB8.out).1 _ _ z0).trans c4; have c5 := ((bcell HB8.out).1 _ _ z2).trans c5; have c6 := ((bcell HB8.out).1 _ _ z2).trans c6; have c7 := ((bcell HB8.out).1 _ _ z2).trans c7; have c8 := ((bcell HB8.out).1 _ _ z2).trans c8; have c9 := ((bcell HB8.out).1 _ _ z2).trans c9; have c10 := ((bcell HB8.out).1 _ _ z3).trans c10; have c11 := ((bcell HB8.out).1 _ _ z3).trans c11; have c12 := ((bcell HB8.out).1 _ _ z3).trans c12; have c13 := ((bcell HB8.out).1 _ _ z3).trans c13; have c14 := ((bcell HB8.out).1 _ _ z3).trans c14; have c15 := ((bcell HB8.out).1 _ _ z4).trans c15; have c16 := ((bcell HB8.out).1 _ _ z4).trans c16; have c17 := ((bcell HB8.out).1 _ _ z4).trans c17; have c18 := ((bcell HB8.out).1 _ _ z4).trans c18; have c19 := ((bcell HB8.out).1 _ _ z4).trans c19; have z0 := Nat.lt_of_lt_of_le z0 HB8.out.size; have z2 := Nat.lt_of_lt_of_le z2 HB8.out.size; have z3 := Nat.lt_of_lt_of_le z3 HB8.out.size; have z4 := Nat.lt_of_lt_of_le z4 HB8.out.size; have HU8 := Lib.hid (HU7.out.trans (HB8.out.mono HU7.out.size)); clear hb)
        | (go_at_call 13; (with_reducible refine (awake_any _).mono ?_); rintro e w9 ⟨rfl, hb⟩; have HB9 := Lib.hid (show Below w8.heap.size w8 w9 from hb); have c0 := ((bcell HB9.out).1 _ _ z0).trans c0; have c1 := ((bcell HB9.out).1 _ _ z0).trans c1; have c2 := ((bcell HB9.out).1 _ _ z0).trans c2; have c3 := ((bcell HB9.out).1 _ _ z0).trans c3; have c4 := ((bcell HB9.out).1 _ _ z0).trans c4; have c5 := ((bcell HB9.out).1 _ _ z2).trans c5; have c6 := ((bcell HB9.out).1 _ _ z2).trans c6; have c7 := ((bcell HB9.out).1 _ _ z2).trans c7; have c8 := ((bcell HB9.out).1 _ _ z2).trans c8; have c9 := ((bcell HB9.out).1 _ _ z2).trans c9; have c10 := ((bcell HB9.out).1 _ _ z3).trans c10; have c11 := ((bcell HB9.out).1 _ _ z3).trans c11; have c12 := ((bcell HB9.out).1 _ _ z3).trans c12; have c13 := ((bcell HB9.out).1 _ _ z3).trans c13; have c14 := ((bcell HB9.out).1 _ _ z3).trans c14; have c15 := ((bcell HB9.out).1 _ _ z4).trans c15; have c16 := ((bcell HB9.out).1 _ _ z4).trans c16; have c17 := ((bcell HB9.out).1 _ _ z4).trans c17; have c18 := ((bcell HB9.out).1 _ _ z4).trans c18; have c19 := ((bcell HB9.out).1 _ _ z4).trans c19; have z0 := Nat.lt_of_lt_of_le z0 HB9.out.size; have z2 := Nat.lt_of_lt_of_le z2 HB9.out.size; have z3 := Nat.lt_of_lt_of_le z3 HB9.out.size; have z4 := Nat.lt_of_lt_of_le z4 HB9.out.size; have HU9 := Lib.hid (HU8.out.trans (HB9.out.mono HU8.out.size)); clear hb))
      refine hK.out _ _ ?_ (fun hHeld' => ?_)
      · (try dsimp only); (first | with_reducible exact ⟨c0, c1, c2, c3, c4, c5, c6, c7, c8, c9, c10, c11, c12, c13, c14, c15, c16, c17, c18, c19⟩ | (go_simp; done) | go_keep)
      clear hK K hHeld
      have hHeld := hHeld'
      clear hHeld'
      try simp only [Act.put, List.setIfInBounds_toArray, List.set_cons_zero, List.set_cons_succ]
      refine wpAnyH_take (i := 32) (oi := ?o32) (v := ?v32) ?h32 (by kernel_rfl) (by kernel_rfl) (by kernel_rfl) (fun _ _ _ h => h) ?y32 hHeld ?r32
      case h32 => simp only [List.getElem?_toArray, List.getElem?_cons_zero, List.getElem?_cons_succ]; rfl
      case y32 => (refine Or.inl ⟨by rfl, fun w hSw => ?_⟩; (try dsimp only at hSw); go_simp; try with_reducible rfl)
      try simp only [Act.put, List.setIfInBounds_toArray, List.set_cons_zero, List.set_cons_succ]
      refine wpAnyH_take (i := 33) (oi := ?o33) (v := ?v33) ?h33 (by kernel_rfl) (by kernel_rfl) (by kernel_rfl) (fun _ _ _ h => h) ?y33 hHeld ?r33
      case h33 => simp only [List.getElem?_toArray, List.getElem?_cons_zero, List.getElem?_cons_succ]; rfl
      case y33 => (refine Or.inl ⟨by rfl, fun w hSw => ?_⟩; (try dsimp only at hSw); go_simp; try with_reducible rfl)
      try simp only [Act.put, List.setIfInBounds_toArray, List.set_cons_zero, List.set_cons_succ]
      refine wpAnyH_take (i := 34) (oi := ?o34) (v := ?v34) ?h34 (by kernel_rfl) (by kernel_rfl) (by kernel_rfl) (fun _ _ _ h => h) ?y34 hHeld ?r34
      case h34 => simp only [List.getElem?_toArray, List.getElem?_cons_zero, List.getElem?_cons_succ]; rfl
      case y34 => (refine Or.inl ⟨by rfl, fun w hSw => ?_⟩; (try dsimp only at hSw); go_simp; try with_reducible rfl)
      try simp only [Act.put, List.setIfInBounds_toArray, List.set_cons_zero, List.set_cons_succ]
      refine wpAnyH_ready (rs := [35]) (by kernel_rfl) (by simp) ?_
      refine AllReadyH.cons (o := ?o35) ?h35 (fun K hK => ?_) AllReadyH.nil
      case h35 => simp only [List.getElem?_toArray, List.getElem?_cons_zero, List.getElem?_cons_succ]; rfl
      go_simp
      (first
        | (go_at_call 11; (with_reducible refine (HPG.out _).mono ?_); rintro e w5 ⟨rfl, rfl⟩)
        | (go_at_call 25; (with_reducible refine (rcount_any _ Z _ (HVZ.out _ ?_)).mono ?_); (any_goals (first | (with_reducible refine Below.drew ?_; with_reducible exact Below.refl _ _) | with_reducible exact Below.refl _ _)); rintro e w7 ⟨rfl, hb⟩; have HB7 := Lib.hid (show Below u.heap.size u w7 from below_next (by with_reducible refine Below.drew ?_; with_reducible exact Below.refl _ _) hb); have c0 := ((bcell HB7.out).1 _ _ z0).trans c0; have c1 := ((bcell HB7.out).1 _ _ z0).trans c1; have c2 := ((bcell HB7.out).1 _ _ z0).trans c2; have c3 := ((bcell HB7.out).1 _ _ z0).trans c3; have c4 := ((bcell HB7.out).1 _ _ z0).trans c4; have c5 := ((bcell HB7.out).1 _ _ z2).trans c5; have c6 := ((bcell HB7.out).1 _ _ z2).trans c6; have c7 := ((bcell HB7.out).1 _ _ z2).trans c7; have c8 := ((bcell HB7.out).1 _ _ z2).trans c8; have c9 := ((bcell HB7.out).1 _ _ z2).trans c9; have c10 := ((bcell HB7.out).1 _ _ z3).trans c10; have c11 := ((bcell HB7.out).1 _ _ z3).trans c11; have c12 := ((bcell HB7.out).1 _ _ z3).trans c12; have c13 := ((bcell HB7.out).1 _ _ z3).trans c13; have c14 := ((bcell HB7.out).1 _ _ z3).trans c14; have c15 := ((bcell HB7.out).1 _ _ z4).trans c15; have c16 := ((bcell HB7.out).1 _ _ z4).trans c16; have c17 := ((bcell HB7.out).1 _ _ z4).trans c17; have c18 := ((bcell HB7.out).1 _ _ z4).trans c18; have c19 := ((bcell HB7.out).1 _ _ z4).trans c19; have z0 := Nat.lt_of_lt_of_le z0 HB7.out.size; have z2 := Nat.lt_of_lt_of_le z2 HB7.out.size; have z3 := Nat.lt_of_lt_of_le z3 HB7.out.size; have z4 := Nat.lt_of_lt_of_le z4 HB7.out.size; have HU7 := Lib.hid (HU0.out.trans (HB7.out.mono HU0.out.size)); clear hb)
        | (go_at_call 25; (with_reducible refine (rcount_any _ P _ (HP.out _ HU7.out)).mono ?_); rintro e w8 ⟨rfl, hb⟩; have HB8 := Lib.hid (show Below w7.heap.size w7 w8 from hb); have c0 := ((bcell HB8.out).1 _ _ z0).trans c0; have c1 := ((bcell HB8.out).1 _ _ z0).trans c1; have c2 := ((bcell HB8.out).1 _ _ z0).trans c2; have c3 := ((bcell HB8.out).1 _ _ z0).trans c3; have c4 := ((bcell HB8.out).1 _ _ z0).trans c4; have c5 := ((bcell HB8.out).1 _ _ z2).trans c5; have c6 := ((bcell HB8.out).1 _ _ z2).trans c6; have c7 := ((bcell HB8.out).1 _ _ z2).trans c7; have c8 := ((bcell HB8.out).1 _ _ z2).trans c8; have c9 := ((bcell HB8.out).1 _ _ z2).trans c9; have c10 := ((bcell HB8.out).1 _ _ z3).trans c10; have c11 := ((bcell HB8.out).1 _ _ z3).trans c11; have c12 := ((bcell HB8.out).1 _ _ z3).trans c12; have c13 := ((bcell HB8.out).1 _ _ z3).trans c13; have c14 := ((bcell HB8.out).1 _ _ z3).trans c14; have c15 := ((bcell HB8.out).1 _ _ z4).trans c15; have c16 := ((bcell HB8.out).1 _ _ z4).trans c16; have c17 := ((bcell HB8.out).1 _ _ z4).trans c17; have c18 := ((bcell HB8.out).1 _ _ z4).trans c18; have c19 := ((bcell HB8.out).1 _ _ z4).trans c19; have z0 := Nat.lt_of_lt_of_le z0 HB8.out.size; have z2 := Nat.lt_of_lt_of_le z2 HB8.out.size; have z3 := Nat.lt_of_lt_of_le z3 HB8.out.size; have z4 := Nat.lt_of_lt_of_le z4 HB8.out.size; have HU8 := Lib.hid (HU7.out.trans (HB8.out.mono HU7.out.size)); clear hb)
        | (go_at_call 13; (with_reducible refine (awake_any _).mono ?_); rintro e w9 ⟨rfl, hb⟩; have HB9 := Lib.hid (show Below w8.heap.size w8 w9 from hb); have c0 := ((bcell HB9.out).1 _ _ z0).trans c0; have c1 := ((bcell HB9.out).1 _ _ z0).trans c1; have c2 := ((bcell HB9.out).1 _ _ z0).trans c2; have c3 := ((bcell HB9.out).1 _ _ z0).trans c3; have c4 := ((bcell HB9.out).1 _ _ z0).trans c4; have c5 := ((bcell HB9.out).1 _ _ z2).trans c5; have c6 := ((bcell HB9.out).1 _ _ z2).trans c6; have c7 := ((bcell HB9.out).1 _ _ z2).trans c7; have c8 := ((bcell HB9.out).1 _ _ z2).trans c8; have c9 := ((bcell HB9.out).1 _ _ z2).trans c9; have c10 := ((bcell HB9.out).1 _ _ z3).trans c10; have c11 := ((bcell HB9.out).1 _ _ z3).trans c11; have c12 := ((bcell HB9.out).1 _ _ z3).trans c12; have c13 := ((bcell HB9.out).1 _ _ z3).trans c13; have c14 := ((bcell HB9.out).1 _ _ z3).trans c14; have c15 := ((bcell HB9.out).1 _ _ z4).trans c15; have c16 := ((bcell HB9.out).1 _ _ z4).trans c16; have c17 := ((bcell HB9.out).1 _ _ z4).trans c17; have c18 := ((bcell HB9.out).1 _ _ z4).trans c18; have c19 := ((bcell HB9.out).1 _ _ z4).trans c19; have z0 := Nat.lt_of_lt_of_le z0 HB9.out.size; have z2 := Nat.lt_of_lt_of_le z2 HB9.out.size; have z3 := Nat.lt_of_lt_of_le z3 HB9.out.size; have z4 := Nat.lt_of_lt_of_le z4 HB9.out.size; have HU9 := Lib.hid (HU8.out.trans (HB9.out.mono HU8.out.size)); clear hb))
      refine hK.out _ _ ?_ (fun hHeld' => ?_)
      · (try dsimp only); (first | with_reducible exact ⟨c0, c1, c2, c3, c4, c5, c6, c7, c8, c9, c10, c11, c12, c13, c14, c15, c16, c17, c18, c19⟩ | (go_simp; done) | go_keep)
      clear hK K hHeld
      have hHeld := hHeld'
      clear hHeld'
      try simp only [Act.put, List.setIfInBounds_toArray, List.set_cons_zero, List.set_cons_succ]
      refine wpAnyH_take (i := 36) (oi := ?o36) (v := ?v36) ?h36 (by kernel_rfl) (by kernel_rfl) (by kernel_rfl) (fun _ _ _ h => h) ?y36 hHeld ?r36
      case h36 => simp only [List.getElem?_toArray, List.getElem?_cons_zero, List.getElem?_cons_succ]; rfl
      case y36 => (refine Or.inl ⟨by rfl, fun w hSw => ?_⟩; (try dsimp only at hSw); go_simp; try with_reducible rfl)
      try simp only [Act.put, List.setIfInBounds_toArray, List.set_cons_zero, List.set_cons_succ]
      refine wpAnyH_take (i := 37) (oi := ?o37) (v := ?v37) ?h37 (by kernel_rfl) (by kernel_rfl) (by kernel_rfl) (fun _ _ _ h => h) ?y37 hHeld ?r37
      case h37 => simp only [List.getElem?_toArray, List.getElem?_cons_zero, List.getElem?_cons_succ]; rfl
      case y37 => (refine Or.inl ⟨by rfl, fun w hSw => ?_⟩; (try dsimp only at hSw); go_simp; try with_reducible rfl)
      try simp only [Act.put, List.setIfInBounds_toArray, List.set_cons_zero, List.set_cons_succ]
      refine wpAnyH_done (by kernel_rfl) ?_ _
      refine NoPanic.normal ?_
      all_goals go_wp2_with fail
      all_goals go_ret
      all_goals exact ⟨rfl, HU9.out⟩
    · have hph := HMO.out hpg
      rw [hpg] at HPG
      rw [hph] at HPH
      clear HMO hpg hph
      go_region_held3 (fun W => W.cell? ⟨w.heap.size, 0, none⟩ = some (.int .i64 P.i) ∧ W.cell? ⟨w.heap.size, 1, none⟩ = some (.int .i64 P.t) ∧ W.cell? ⟨w.heap.size, 2, none⟩ = some (.slice fa P.nf fc) ∧ W.cell? ⟨w.heap.size, 3, none⟩ = some (.slice oa P.no oc) ∧ W.cell? ⟨w.heap.size, 4, none⟩ = some (.int .i64 P.s) ∧ W.cell? ⟨q2, 0, none⟩ = some (.int .i64 X.i) ∧ W.cell? ⟨q2, 1, none⟩ = some (.int .i64 X.t) ∧ W.cell? ⟨q2, 2, none⟩ = some (.slice a2 X.nf k2) ∧ W.cell? ⟨q2, 3, none⟩ = some (.slice b2 X.no l2) ∧ W.cell? ⟨q2, 4, none⟩ = some (.int .i64 X.s) ∧ W.cell? ⟨q3, 0, none⟩ = some (.int .i64 Y.i) ∧ W.cell? ⟨q3, 1, none⟩ = some (.int .i64 Y.t) ∧ W.cell? ⟨q3, 2, none⟩ = some (.slice a3 Y.nf k3) ∧ W.cell? ⟨q3, 3, none⟩ = some (.slice b3 Y.no l3) ∧ W.cell? ⟨q3, 4, none⟩ = some (.int .i64 Y.s) ∧ W.cell? ⟨q4, 0, none⟩ = some (.int .i64 Z.i) ∧ W.cell? ⟨q4, 1, none⟩ = some (.int .i64 Z.t) ∧ W.cell? ⟨q4, 2, none⟩ = some (.slice a4 Z.nf k4) ∧ W.cell? ⟨q4, 3, none⟩ = some (.slice b4 Z.no l4) ∧ W.cell? ⟨q4, 4, none⟩ = some (.int .i64 Z.s))
    (first | with_reducible exact ⟨c0, c1, c2, c3, c4, c5, c6, c7, c8, c9, c10, c11, c12, c13, c14, c15, c16, c17, c18, c19⟩ | (go_simp; done) | go_keep)
    (first
      | (go_at_call 11; (with_reducible refine (HPG.out _).mono ?_); rintro e w5 ⟨rfl, rfl⟩)
      | (go_at_call 11; (with_reducible refine (HPH.out _).mono ?_); rintro e w6 ⟨rfl, rfl⟩)
      | (go_at_call 25; (with_reducible refine (rcount_any _ Z _ (HVZ.out _ ?_)).mono ?_); (any_goals (first | (with_reducible refine Below.drew ?_; with_reducible exact Below.refl _ _) | with_reducible exact Below.refl _ _)); rintro e w7 ⟨rfl, hb⟩; have HB7 := Lib.hid (show Below u.heap.size u w7 from below_next (by with_reducible refine Below.drew ?_; with_reducible exact Below.refl _ _) hb); have c0 := ((bcell HB7.out).1 _ _ z0).trans c0; have c1 := ((bcell HB7.out).1 _ _ z0).trans c1; have c2 := ((bcell HB7.out).1 _ _ z0).trans c2; have c3 := ((bcell HB7.out).1 _ _ z0).trans c3; have c4 := ((bcell HB7.out).1 _ _ z0).trans c4; have c5 := ((bcell HB7.out).1 _ _ z2).trans c5; have c6 := ((bcell HB7.out).1 _ _ z2).trans c6; have c7 := ((bcell HB7.out).1 _ _ z2).trans c7; have c8 := ((bcell HB7.out).1 _ _ z2).trans c8; have c9 := ((bcell HB7.out).1 _ _ z2).trans c9; have c10 := ((bcell HB7.out).1 _ _ z3).trans c10; have c11 := ((bcell HB7.out).1 _ _ z3).trans c11; have c12 := ((bcell HB7.out).1 _ _ z3).trans c12; have c13 := ((bcell HB7.out).1 _ _ z3).trans c13; have c14 := ((bcell HB7.out).1 _ _ z3).trans c14; have c15 := ((bcell HB7.out).1 _ _ z4).trans c15; have c16 := ((bcell HB7.out).1 _ _ z4).trans c16; have c17 := ((bcell HB7.out).1 _ _ z4).trans c17; have c18 := ((bcell HB7.out).1 _ _ z4).trans c18; have c19 := ((bcell HB7.out).1 _ _ z4).trans c19; have z0 := Nat.lt_of_lt_of_le z0 HB7.out.size; have z2 := Nat.lt_of_lt_of_le z2 HB7.out.size; have z3 := Nat.lt_of_lt_of_le z3 HB7.out.size; have z4 := Nat.lt_of_lt_of_le z4 HB7.out.size; have HU7 := Lib.hid (HU0.out.trans (HB7.out.mono HU0.out.size)); clear hb)
      | (go_at_call 25; (with_reducible refine (rcount_any _ P _ (HP.out _ HU7.out)).mono ?_); rintro e w8 ⟨rfl, hb⟩; have HB8 := Lib.hid (show Below w7.heap.size w7 w8 from hb); have c0 := ((bcell HB8.out).1 _ _ z0).trans c0; have c1 := ((bcell HB8.out).1 _ _ z0).trans c1; have c2 := ((bcell HB8.out).1 _ _ z0).trans c2; have c3 := ((bcell HB8.out).1 _ _ z0).trans c3; have c4 := ((bcell HB8.out).1 _ _ z0).trans c4; have c5 := ((bcell HB8.out).1 _ _ z2).trans c5; have c6 := ((bcell HB8.out).1 _ _ z2).trans c6; have c7 := ((bcell HB8.out).1 _ _ z2).trans c7; have c8 := ((bcell HB8.out).1 _ _ z2).trans c8; have c9 := ((bcell HB8.out).1 _ _ z2).trans c9; have c10 := ((bcell HB8.out).1 _ _ z3).trans c10; have c11 := ((bcell HB8.out).1 _ _ z3).trans c11; have c12 := ((bcell HB8.out).1 _ _ z3).trans c12; have c13 := ((bcell HB8.out).1 _ _ z3).trans c13; have c14 := ((bcell HB8.out).1 _ _ z3).trans c14; have c15 := ((bcell HB8.out).1 _ _ z4).trans c15; have c16 := ((bcell HB8.out).1 _ _ z4).trans c16; have c17 := ((bcell HB8.out).1 _ _ z4).trans c17; have c18 := ((bcell HB8.out).1 _ _ z4).trans c18; have c19 := ((bcell HB8.out).1 _ _ z4).trans c19; have z0 := Nat.lt_of_lt_of_le z0 HB8.out.size; have z2 := Nat.lt_of_lt_of_le z2 HB8.out.size; have z3 := Nat.lt_of_lt_of_le z3 HB8.out.size; have z4 := Nat.lt_of_lt_of_le z4 HB8.out.size; have HU8 := Lib.hid (HU7.out.trans (HB8.out.mono HU7.out.size)); clear hb)
      | (go_at_call 13; (with_reducible refine (awake_any _).mono ?_); rintro e w9 ⟨rfl, hb⟩; have HB9 := Lib.hid (show Below w8.heap.size w8 w9 from hb); have c0 := ((bcell HB9.out).1 _ _ z0).trans c0; have c1 := ((bcell HB9.out).1 _ _ z0).trans c1; have c2 := ((bcell HB9.out).1 _ _ z0).trans c2; have c3 := ((bcell HB9.out).1 _ _ z0).trans c3; have c4 := ((bcell HB9.out).1 _ _ z0).trans c4; have c5 := ((bcell HB9.out).1 _ _ z2).trans c5; have c6 := ((bcell HB9.out).1 _ _ z2).trans c6; have c7 := ((bcell HB9.out).1 _ _ z2).trans c7; have c8 := ((bcell HB9.out).1 _ _ z2).trans c8; have c9 := ((bcell HB9.out).1 _ _ z2).trans c9; have c10 := ((bcell HB9.out).1 _ _ z3).trans c10; have c11 := ((bcell HB9.out).1 _ _ z3).trans c11; have c12 := ((bcell HB9.out).1 _ _ z3).trans c12; have c13 := ((bcell HB9.out).1 _ _ z3).trans c13; have c14 := ((bcell HB9.out).1 _ _ z3).trans c14; have c15 := ((bcell HB9.out).1 _ _ z4).trans c15; have c16 := ((bcell HB9.out).1 _ _ z4).trans c16; have c17 := ((bcell HB9.out).1 _ _ z4).trans c17; have c18 := ((bcell HB9.out).1 _ _ z4).trans c18; have c19 := ((bcell HB9.out).1 _ _ z4).trans c19; have z0 := Nat.lt_of_lt_of_le z0 HB9.out.size; have z2 := Nat.lt_of_lt_of_le z2 HB9.out.size; have z3 := Nat.lt_of_lt_of_le z3 HB9.out.size; have z4 := Nat.lt_of_lt_of_le z4 HB9.out.size; have HU9 := Lib.hid (HU8.out.trans (HB9.out.mono HU8.out.size)); clear hb))
      all_goals go_wp2_with fail
      all_goals go_ret
      all_goals exact ⟨rfl, HU9.out⟩
end Go.Proofs.Ytdfbddepeacebaa
