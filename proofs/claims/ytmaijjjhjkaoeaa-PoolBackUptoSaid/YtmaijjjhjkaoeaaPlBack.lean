/- PoolBack over the seat's program: it answers true where what comes back has room. -/
import Derived.Test.YtmaijjjhjkaoeaaPlU
namespace Go.Proofs.Ytmaijjjhjkaoeaa
open Go.ChangeShapes Go.WideShapes Go.ChangeAt Go.RowKit Go.Joins

theorem Try.info_bool : (Try.prog.info? 4).map (fun i => (i.zero, i.size, i.bytes)) = some (some (.bool false), 1, 1) := by kernel_rfl
def MarkRel (P : PV) (G : Nat → Bool) (fa : Option Addr) (fc : Nat) (oa : Option Addr) (oc : Nat) (ma : Option Addr) (mn mc : Nat) (w : World) (k : Nat) (lv : Value) (u : World) : Prop :=
  ∃ la lc, lv = .slice la k lc ∧ Box u w.heap.size (.int .i64 P.i) (.int .i64 P.t) (.slice fa P.nf fc) (.slice oa P.no oc) (.int .i64 P.s) ∧ u.cell? ⟨w.heap.size + 1, 0, none⟩ = some (.slice ma mn mc) ∧ u.ownsRow (w.heap.size + 2) 4 1 (.slice la k lc) k (rowB G k) ∧ Below w.heap.size w u ∧ w.heap.size + 1 < u.heap.size
theorem own_mark {w : World} {B n : Nat} {G : Nat → Bool} {v : Value} (h : w.ownsRow B 4 1 v (n + 1) (rowB G n ++ [.bool (G n)])) : w.ownsRow B 4 1 v (n + 1) (rowB G (n + 1)) := by
  rw [rowB_succ]
  exact h
set_option maxRecDepth 100000 in
set_option maxHeartbeats 6400000 in
theorem back_walk (v : Value) (P : PV) (ma : Option Addr) (mn mc : Nat) (f : Nat → Int) (w : World) (h : PoolAt w v P) (hm : RowAt .i64 w ma mn mc f) (hsum : (P.nf + P.no) * 16 ≤ 140737488355328) : Calls Try.prog 5 #[v, .slice ma mn mc] w fun e w' => e = .returned (.bool true) ∧ Below w.heap.size w w' := by
  have HP := Lib.hid (fun W hb => (h.below hb : PoolAt W v P))
  have HM := Lib.hid (fun W hb => (hm.below hb : RowAt .i64 W ma mn mc f))
  have HS := Lib.hid hsum
  obtain ⟨G, hG⟩ : ∃ G : Nat → Bool, (fun i => hasB f mn (P.fo i 2)) = G := ⟨_, rfl⟩
  have HGK := Lib.hid (fun k => show hasB f mn (P.fo k 2) = G k by rw [← hG])
  obtain ⟨fa, fc, oa, oc, rfl, hf, ho⟩ := h
  have hn2 := ho.1
  have HO := Lib.hid ho
  have HBD := Lib.hid (show P.nf * 16 ≤ 140737488355328 ∧ P.no * 24 ≤ 140737488355328 from ⟨by omega, by omega⟩)
  clear hf ho hm hG hsum
  have hmf : ∀ (fn : Fn) (first cap : Array Value) (w : World), (Instr.makeFunc fn first cap).run Try.prog w = .ok (.func fn first cap) w := fun _ _ _ _ => rfl
  have HB0 := Lib.hid (show Below w.heap.size w ((w.alloc (.cells #[.int .i64 P.i, .int .i64 P.t, .slice fa P.nf fc, .slice oa P.no oc, .int .i64 P.s] 27)).alloc (.cells #[.slice ma mn mc] 37)) from ((Below.refl _ _).alloc (Nat.le_refl _) _).alloc (by simp) _)
  have HX := Lib.hid (show Box ((w.alloc (.cells #[.int .i64 P.i, .int .i64 P.t, .slice fa P.nf fc, .slice oa P.no oc, .int .i64 P.s] 27)).alloc (.cells #[.slice ma mn mc] 37)) w.heap.size (.int .i64 P.i) (.int .i64 P.t) (.slice fa P.nf fc) (.slice oa P.no oc) (.int .i64 P.s) from (Box.new w _).below (by simp) ((Below.refl _ _).alloc (Nat.le_refl _) _))
  have HC := Lib.hid (show ((w.alloc (.cells #[.int .i64 P.i, .int .i64 P.t, .slice fa P.nf fc, .slice oa P.no oc, .int .i64 P.s] 27)).alloc (.cells #[.slice ma mn mc] 37)).cell? ⟨w.heap.size + 1, 0, none⟩ = some (.slice ma mn mc) by go_simp)
  go_enter Try.func5, Try.ntmps5
  obtain ⟨c0, c1, c2, c3, c4, cf⟩ := HX.out
  clear cf
  go_wp2_with fail
  go_loopw [5, 15] (fun lv i wr => ∃ k : Nat, k ≤ P.no ∧ i = .int .i64 k ∧ MarkRel P G fa fc oa oc ma mn mc w k lv wr) (fun _ i _ => P.no - (intOf i).toNat)
  case atStart => exact ⟨0, Nat.zero_le _, rfl, none, 0, rfl, HX.out, HC.out, World.ownsRow_nil _ _ _ _, HB0.out, by simp⟩
  case round =>
    clear c0 c1 c2 c3 c4 HX HC HB0
    obtain ⟨k, hk, rfl, la, lc, rfl, hx, hm, how, hb, hz⟩ := hrel
    have HXk := Lib.hid hx
    have HCk := Lib.hid hm
    have HOk := Lib.hid how
    have HBk := Lib.hid hb
    have z0 : w.heap.size < wr.heap.size := by omega
    have q0 := hm
    obtain ⟨c0, c1, c2, c3, c4, cf⟩ := hx
    clear cf how hb hm
    rcases Nat.lt_or_ge k P.no with hlt | hge
    · obtain ⟨b, off, hab, _, hcc⟩ := (HO.out.below HBk.out).get hlt
      subst hab
      have x0 : wr.cell? ⟨b, off + k * 3, none⟩ = some (.int .i64 (P.fo k 0)) := by simpa using hcc k 0 hlt (by omega)
      have x1 := hcc k 1 hlt (by omega)
      have x2 := hcc k 2 hlt (by omega)
      have i0 : (0 : Int) ≤ (k : Int) := by omega
      have i1 : (k : Int) < (P.no : Int) := by omega
      have HMk := Lib.hid (HM.out _ (HBk.out.alloc (Nat.le_of_lt z0) (.cells #[.int .i64 (P.fo k 0), .int .i64 (P.fo k 1), .int .i64 (P.fo k 2)] 40)))
      clear hcc
      go_wp2_with (first
        | (go_at_call 19; (with_reducible refine (has_any _ _ _ _ _ _ HMk.out).mono ?_); rintro e w2 ⟨rfl, rfl⟩; rw [HGK.out k])
        | (at_builtin; go_loud (refine app_cells (w.heap.size + 2) 4 38 rfl _ _ rfl Try.underlying38 _ 1 1 Try.info_bool rfl (by omega) (.slice la k lc) k (rowB G k) #[.bool (G k)] rfl (by simp [Value.oneCell']) rfl (HOk.out.alloc _) (wr.heap.size + 1) (by simp) rfl (by omega) (by unfold maxLen; omega) (by simp; omega) ?_; intro gg cap' w4 hown hgrow hat hlt'; have hg4 : wr.grownBy w4 _ := (World.grownBy_alloc wr (.cells #[.int .i64 (P.fo k 0), .int .i64 (P.fo k 1), .int .i64 (P.fo k 2)] 40) _).trans hgrow; have HX4 := Lib.hid (HXk.out.grown hg4 z0 (fun e => absurd (HOk.out.lt _ e.symm).1 (by omega))); have HC4 := Lib.hid ((hg4.cell_far ⟨w.heap.size + 1, 0, none⟩ hz (fun e => absurd (HOk.out.lt _ e.symm).1 (by simp))).trans HCk.out); have HO4 := Lib.hid (own_mark hown); have HB4 := Lib.hid (Below.grown HBk.out hg4 (by omega) (fun j hj => Nat.le_trans (Nat.le_add_right _ 2) (HOk.out.lt j hj).1)); have hsz := hg4.size; clear hown hgrow hat hg4 hlt' c0 c1 c2 c3 c4 q0 x0 x1 x2; obtain ⟨c0, c1, c2, c3, c4, cf⟩ := HX4.out; clear cf)))
      go_roundw
      case rel => exact ⟨k + 1, by omega, by go_num, some ⟨gg, 0, none⟩, cap', rfl, HX4.out, HC4.out, HO4.out, HB4.out, by omega⟩
      case measure => simp [intOf]; omega
    · obtain rfl : k = P.no := by omega
      obtain ⟨ra, rc, hv, hr⟩ := RowB.of (by omega) HOk.out
      cases hv
      have HRB := Lib.hid hr
      clear hr
      have HT := Lib.hid (show ∀ k W, k < P.no → Below wr.heap.size wr W → Calls Try.prog 39 #[.func (.func 21) #[] #[.pointer (some ⟨w.heap.size + 1, 0, none⟩)], .agg #[.int .i64 (P.fo k 0), .int .i64 (P.fo k 1), .int .i64 (P.fo k 2)]] W fun e w' => e = .returned (.bool (G k)) ∧ Below W.heap.size W w' from fun k W _ hW => by
        rw [← HGK.out k]
        have hA : Below W.heap.size W (((W.alloc (.cells #[.int .i64 (P.fo k 0), .int .i64 (P.fo k 1), .int .i64 (P.fo k 2)] 40)).alloc (.cells #[.bool false] 4))) := ((Below.refl _ _).alloc (Nat.le_refl _) _).alloc (by simp) _
        have hWA : Below wr.heap.size wr _ := hW.trans (hA.mono hW.size)
        refine tells_one _ _ _ _ _ W (test1_any _ _ _ _ ma mn mc f _ (by have := hWA.size; omega) ?_ (HM.out _ (HBk.out.trans (hWA.mono HBk.out.size))))
        exact ((bcell hWA).1 _ _ hz).trans HCk.out)
      clear HO
      obtain ⟨R, hR⟩ : ∃ R, P.back G P.no = R := ⟨_, rfl⟩
      obtain ⟨M, hM⟩ : ∃ M : Int, (P.no : Int) - ((P.back G P.no).no : Int) = M := ⟨_, rfl⟩
      have HRB2 := Lib.hid (show R.nf * 16 ≤ 140737488355328 ∧ R.no * 24 ≤ 140737488355328 by
        have h1 := back_count P G P.no
        have h2 := back_no P G P.no
        have h3 := HS.out
        rw [hR] at h1 h2
        omega)
      have HBACK := Lib.hid (fun W (hW : Below wr.heap.size wr W) (hp : PoolAt W (.agg #[.int .i64 P.i, .int .i64 P.t, .slice fa P.nf fc, .slice oa P.no oc, .int .i64 P.s]) P) => show Calls Try.prog 20 #[.agg #[.int .i64 P.i, .int .i64 P.t, .slice fa P.nf fc, .slice oa P.no oc, .int .i64 P.s], .func (.func 21) #[] #[.pointer (some ⟨w.heap.size + 1, 0, none⟩)]] W (RetBack R M W) from by
        rw [← hR, ← hM]
        exact back_any _ _ P G HS.out W hp (fun k W' hk hb => HT.out k W' hk (hW.trans (hb.mono hW.size))))
      have HRBACK := Lib.hid (fun W (hp : PoolAt W (.agg #[.int .i64 P.i, .int .i64 P.t, .slice fa P.nf fc, .slice oa P.no oc, .int .i64 P.s]) P) (hl : RowB W la P.no lc G) => show Calls Try.prog 22 #[.agg #[.int .i64 P.i, .int .i64 P.t, .slice fa P.nf fc, .slice oa P.no oc, .int .i64 P.s], .slice la P.no lc] W (RetBack R M W) from by
        rw [← hR, ← hM]
        exact rback_any _ P G la lc HS.out W hp hl)
      clear HT hR hM HGK
      go_wp2_with (first
        | (go_at_call 20; (with_reducible refine (HBACK.out _ (Below.refl _ _) (HP.out _ HBk.out)).mono ?_); rintro e w2 ⟨f2, o2, rfl, ho, hb⟩; have hv2 := ho.at HRB2.out.1 HRB2.out.2; (obtain ⟨a2, k2, rfl⟩ := own_form ho.1); (obtain ⟨b2, l2, rfl⟩ := own_form ho.2.1); have HV2 := Lib.hid hv2; have HX2 := Lib.hid (HXk.out.below z0 hb); have HL2 := Lib.hid (HRB.out.below hb); have HB2 := Lib.hid (HBk.out.trans (hb.mono HBk.out.size)); have z2 := Nat.lt_of_lt_of_le z0 hb.size; clear hb ho hv2 c0 c1 c2 c3 c4 q0; obtain ⟨c0, c1, c2, c3, c4, cc⟩ := HX2.out; clear cc; have HA2 := Lib.hid (show Below w2.heap.size w2 (w2.alloc (.cells #[.int .i64 R.i, .int .i64 R.t, .slice a2 R.nf k2, .slice b2 R.no l2, .int .i64 R.s] 27)) from (Below.refl _ _).alloc (Nat.le_refl _) _))
        | (go_at_call 22; (with_reducible refine (HRBACK.out _ (HP.out _ (HB2.out.trans (HA2.out.mono HB2.out.size))) (HL2.out.below HA2.out)).mono ?_); rintro e w3 ⟨f3, o3, rfl, ho, hb⟩; have hv3 := ho.at HRB2.out.1 HRB2.out.2; (obtain ⟨a3, k3, rfl⟩ := own_form ho.1); (obtain ⟨b3, l3, rfl⟩ := own_form ho.2.1); have HA3 := Lib.hid (show Below w3.heap.size w3 (w3.alloc (.cells #[.int .i64 R.i, .int .i64 R.t, .slice a3 R.nf k3, .slice b3 R.no l3, .int .i64 R.s] 27)) from (Below.refl _ _).alloc (Nat.le_refl _) _); have HV3 := Lib.hid (hv3.below HA3.out); have HV23 := Lib.hid (((HV2.out.below HA2.out).below hb).below HA3.out); have HB3 := Lib.hid ((HB2.out.trans (HA2.out.mono HB2.out.size)).trans (hb.mono (by have := HB2.out.size; simp; omega))); have HB4 := Lib.hid (HB3.out.trans (HA3.out.mono HB3.out.size)); have z23 := size1 hb; have hy := (Box.new (a := .int .i64 R.i) (b := .int .i64 R.t) (c := .slice a2 R.nf k2) (d := .slice b2 R.no l2) (e := .int .i64 R.s) w2 27).below (by simp) hb; clear hb ho hv3 c0 c1 c2 c3 c4; obtain ⟨c0, c1, c2, c3, c4, cc⟩ := hy; clear cc)
        | (go_at_call 11; (with_reducible refine (pool_yes _ _ R _ HV23.out HV3.out).mono ?_); rintro e w5 ⟨rfl, hb⟩; have HB5 := Lib.hid (HB4.out.trans (hb.mono HB4.out.size)); clear hb c0 c1 c2 c3 c4)
        | (go_at_call 14; (with_reducible refine (awake_any _).mono ?_); rintro e w6 ⟨rfl, hb⟩; have HB6 := Lib.hid (HB5.out.trans (hb.mono HB5.out.size)); clear hb))
      go_ret
      exact ⟨rfl, HB6.out⟩
end Go.Proofs.Ytmaijjjhjkaoeaa
