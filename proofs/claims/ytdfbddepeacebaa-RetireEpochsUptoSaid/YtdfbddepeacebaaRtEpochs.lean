/- RetireEpochs over the seat's program: it answers true where what comes back has room. -/
import Derived.Test.YtdfbddepeacebaaRtW
namespace Go.Proofs.Ytdfbddepeacebaa
open Go.ChangeShapes Go.WideShapes Go.ChangeAt Go.RowKit Go.Joins

set_option maxRecDepth 100000 in
set_option maxHeartbeats 6400000 in
theorem epochs_walk (v : Value) (P : PV) (st g : Int) (w : World) (h : PoolAt w v P) (hw : P.wide) (hsum : (P.nf + P.no) * 16 ≤ 140737488355328) (hst : st ≤ 9223372036854775807) (hg : g ≤ 9223372036854775807) : Calls Try.prog 3 #[v, .int .i64 st, .int .i64 g] w fun e w' => e = .returned (.bool true) ∧ Below w.heap.size w w' := by
  have HP := Lib.hid (fun W hb => (h.below hb : PoolAt W v P))
  have HW := Lib.hid (show ∀ k, k < P.no → P.fo k 2 ≤ 9223372036854775807 from fun k hk => (hw.2 k 2 hk (by omega)).2)
  have HS := Lib.hid hsum
  obtain ⟨R, hR⟩ : ∃ R, P.byE g = R := ⟨_, rfl⟩
  have HRB := Lib.hid (show R.nf * 16 ≤ 140737488355328 ∧ R.no * 24 ≤ 140737488355328 by
    have h1 := back_count P (fun k => pastB (P.fo k 2) g) P.no
    have h2 := back_no P (fun k => pastB (P.fo k 2) g) P.no
    obtain ⟨_, _, _, _, _, _, hr⟩ := h
    have h3 := hr.1
    rw [show P.back (fun k => pastB (P.fo k 2) g) P.no = R from hR] at h1 h2
    omega)
  have HE := Lib.hid (fun W (hp : PoolAt W v P) => show Calls Try.prog 8 #[v, .int .i64 g] W (RetBack R ((P.no : Int) - R.no) W) from hR ▸ byE_any v P g hg HW.out HS.out W hp)
  have HR := Lib.hid (fun W (hp : PoolAt W v P) => show Calls Try.prog 9 #[v, .int .i64 g] W (RetBack R ((P.no : Int) - R.no) W) from hR ▸ rbyE_any v P g hg HW.out HS.out W hp)
  obtain ⟨fa, fc, oa, oc, rfl, _, _⟩ := h
  clear hw hsum hR
  have HB0 := Lib.hid (show Below w.heap.size w (w.alloc (.cells #[.int .i64 P.i, .int .i64 P.t, .slice fa P.nf fc, .slice oa P.no oc, .int .i64 P.s] 27)) from (Below.refl _ _).alloc (Nat.le_refl _) _)
  have HX := Lib.hid (show Box (w.alloc (.cells #[.int .i64 P.i, .int .i64 P.t, .slice fa P.nf fc, .slice oa P.no oc, .int .i64 P.s] 27)) w.heap.size (.int .i64 P.i) (.int .i64 P.t) (.slice fa P.nf fc) (.slice oa P.no oc) (.int .i64 P.s) from Box.new w _)
  go_enter Try.func3, Try.ntmps3
  go_wp2_with (first
    | (go_at_call 8; (with_reducible refine (HE.out _ (HP.out _ HB0.out)).mono ?_); rintro e w2 ⟨f2, o2, rfl, ho, hb⟩; have hv2 := ho.at HRB.out.1 HRB.out.2; (obtain ⟨a2, k2, rfl⟩ := own_form ho.1); (obtain ⟨b2, l2, rfl⟩ := own_form ho.2.1); have HV2 := Lib.hid hv2; have HX2 := Lib.hid (HX.out.below (by simp) hb); have HB2 := Lib.hid (HB0.out.trans (hb.mono (by simp))); have z2 := size1 hb; clear hb ho hv2; (obtain ⟨c0, c1, c2, c3, c4, cc⟩ := HX2.out); clear cc; have HA2 := Lib.hid (show Below w2.heap.size w2 (w2.alloc (.cells #[.int .i64 R.i, .int .i64 R.t, .slice a2 R.nf k2, .slice b2 R.no l2, .int .i64 R.s] 27)) from (Below.refl _ _).alloc (Nat.le_refl _) _))
    | (go_at_call 9; (with_reducible refine (HR.out _ (HP.out _ (HB2.out.trans (HA2.out.mono HB2.out.size)))).mono ?_); rintro e w3 ⟨f3, o3, rfl, ho, hb⟩; have hv3 := ho.at HRB.out.1 HRB.out.2; (obtain ⟨a3, k3, rfl⟩ := own_form ho.1); (obtain ⟨b3, l3, rfl⟩ := own_form ho.2.1); have HA3 := Lib.hid (show Below w3.heap.size w3 (w3.alloc (.cells #[.int .i64 R.i, .int .i64 R.t, .slice a3 R.nf k3, .slice b3 R.no l3, .int .i64 R.s] 27)) from (Below.refl _ _).alloc (Nat.le_refl _) _); have HV3 := Lib.hid (hv3.below HA3.out); have HV23 := Lib.hid (((HV2.out.below HA2.out).below hb).below HA3.out); have HB3 := Lib.hid ((HB2.out.trans (HA2.out.mono HB2.out.size)).trans (hb.mono (by have := HB2.out.size; simp; omega))); have HB4 := Lib.hid (HB3.out.trans (HA3.out.mono HB3.out.size)); have z23 := size1 hb; have hy := (Box.new (a := .int .i64 R.i) (b := .int .i64 R.t) (c := .slice a2 R.nf k2) (d := .slice b2 R.no l2) (e := .int .i64 R.s) w2 27).below (by simp) hb; clear hb ho hv3 c0 c1 c2 c3 c4; (obtain ⟨c0, c1, c2, c3, c4, cc⟩ := hy); clear cc)
    | (go_at_call 10; (with_reducible refine (pool_yes _ _ R _ HV23.out HV3.out).mono ?_); rintro e w5 ⟨rfl, hb⟩; have HB5 := Lib.hid (HB4.out.trans (hb.mono HB4.out.size)); clear hb c0 c1 c2 c3 c4)
    | (go_at_call 11; (with_reducible refine (past_any _ _ hst hg _).mono ?_); rintro e w6 ⟨rfl, rfl⟩)
    | (go_at_call 12; (with_reducible refine (rpast_any _ _ hst hg _).mono ?_); rintro e w6 ⟨rfl, rfl⟩)
    | (go_at_call 13; (with_reducible refine (awake_any _).mono ?_); rintro e w7 ⟨rfl, hb⟩; have HB7 := Lib.hid (HB5.out.trans (hb.mono HB5.out.size)); clear hb))
  go_ret
  exact ⟨rfl, HB7.out⟩
end Go.Proofs.Ytdfbddepeacebaa
