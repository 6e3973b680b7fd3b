/- Past, ByEpoch and the reference's, over the seat's program. -/
import Derived.Test.YtdfbddepeacebaaRtT
namespace Go.Proofs.Ytdfbddepeacebaa
open Go.ChangeShapes Go.WideShapes Go.ChangeAt Go.RowKit Go.Joins
attribute [local go_sem] Try.neq_nil

theorem Try.info_bool : (Try.prog.info? 4).map (fun i => (i.zero, i.size, i.bytes)) = some (some (.bool false), 1, 1) := by kernel_rfl
theorem own_mark {w : World} {B n : Nat} {G : Nat → Bool} {v : Value} (h : w.ownsRow B 4 1 v (n + 1) (rowB G n ++ [.bool (G n)])) : w.ownsRow B 4 1 v (n + 1) (rowB G (n + 1)) := by
  rw [rowB_succ]
  exact h
/-- Is what was put away at one epoch past at another one? -/
def pastB (st g : Int) : Bool := decide (0 ≤ st) && decide (2 ≤ g) && decide (st ≤ g - 2)

theorem past_any (st g : Int) (h1 : st ≤ 9223372036854775807) (h2 : g ≤ 9223372036854775807) (w : World) : Calls Try.prog 11 #[.int .i64 st, .int .i64 g] w fun e w' => e = .returned (.bool (pastB st g)) ∧ w = w' := by
  go_enter Try.func11, Try.ntmps11
  by_cases a : 0 ≤ st
  · by_cases b : 0 ≤ g
    · go_wp2
      all_goals go_ret
      all_goals exact ⟨ret_bool (by rw [Bool.eq_iff_iff]; simp [pastB]; omega), rfl⟩
    · go_wp2
      all_goals go_ret
      all_goals exact ⟨ret_bool (by rw [Bool.eq_iff_iff]; simp [pastB]; omega), rfl⟩
  · go_wp2
    all_goals go_ret
    all_goals exact ⟨ret_bool (by rw [Bool.eq_iff_iff]; simp [pastB]; omega), rfl⟩

theorem rpast_any (st g : Int) (h1 : st ≤ 9223372036854775807) (h2 : g ≤ 9223372036854775807) (w : World) : Calls Try.prog 12 #[.int .i64 st, .int .i64 g] w fun e w' => e = .returned (.bool (pastB st g)) ∧ w = w' := by
  go_enter Try.func12, Try.ntmps12
  by_cases a : 0 ≤ st
  · by_cases b : 2 ≤ g
    · go_wp2
      all_goals go_ret
      all_goals exact ⟨ret_bool (by rw [Bool.eq_iff_iff]; simp [pastB]; omega), rfl⟩
    · go_wp2
      all_goals go_ret
      all_goals exact ⟨ret_bool (by rw [Bool.eq_iff_iff]; simp [pastB]; omega), rfl⟩
  · go_wp2
    all_goals go_ret
    all_goals exact ⟨ret_bool (by rw [Bool.eq_iff_iff]; simp [pastB]; omega), rfl⟩
theorem testE_any (c : Nat) (x y z g : Int) (hz : z ≤ 9223372036854775807) (hg : g ≤ 9223372036854775807) (w : World) (hc : c < w.heap.size) (h0 : w.cell? ⟨c, 0, none⟩ = some (.int .i64 g)) :
    Calls Try.prog 27 #[.agg #[.int .i64 x, .int .i64 y, .int .i64 z], .pointer (some ⟨c, 0, none⟩)] w fun e w' => e = .returned (.bool (pastB z g)) ∧ Below w.heap.size w w' := by
  go_enter Try.func27, Try.ntmps27
  go_wp2_with (go_at_call 11; (with_reducible refine (past_any _ _ hz hg _).mono ?_); rintro e w1 ⟨rfl, rfl⟩)
  go_ret
  exact ⟨rfl, (Below.refl _ _).alloc (Nat.le_refl _) _⟩

set_option maxRecDepth 100000 in
set_option maxHeartbeats 1600000 in
theorem tells_epoch (c : Addr) (b : Bool) (x y z : Int) (w : World) (HQ0 : Calls Try.prog 27 #[.agg #[.int .i64 x, .int .i64 y, .int .i64 z], .pointer (some c)] ((w.alloc (.cells #[.int .i64 x, .int .i64 y, .int .i64 z] 44)).alloc (.cells #[.bool false] 4)) fun e w' => e = .returned (.bool b) ∧ Below ((w.alloc (.cells #[.int .i64 x, .int .i64 y, .int .i64 z] 44)).alloc (.cells #[.bool false] 4)).heap.size ((w.alloc (.cells #[.int .i64 x, .int .i64 y, .int .i64 z] 44)).alloc (.cells #[.bool false] 4)) w') :
    Calls Try.prog 36 #[.func (.func 27) #[] #[.pointer (some c)], .agg #[.int .i64 x, .int .i64 y, .int .i64 z]] w fun e w' => e = .returned (.bool b) ∧ Below w.heap.size w w' := by
  have hmf : ∀ (fn : Fn) (first cap : Array Value) (w : World), (Instr.makeFunc fn first cap).run Try.prog w = .ok (.func fn first cap) w := fun _ _ _ _ => rfl
  have HA := Lib.hid (show Below w.heap.size w ((w.alloc (.cells #[.int .i64 x, .int .i64 y, .int .i64 z] 44)).alloc (.cells #[.bool false] 4)) from ((Below.refl _ _).alloc (Nat.le_refl _) _).alloc (by simp) _)
  have HQ := Lib.hid HQ0
  clear HQ0
  have c0 : ((w.alloc (.cells #[.int .i64 x, .int .i64 y, .int .i64 z] 44)).alloc (.cells #[.bool false] 4)).cell? ⟨w.heap.size + 1, 0, none⟩ = some (.bool false) := by go_simp
  have cf : ((w.alloc (.cells #[.int .i64 x, .int .i64 y, .int .i64 z] 44)).alloc (.cells #[.bool false] 4)).frozen? ⟨w.heap.size + 1, 0, none⟩ = false := by go_simp
  have HC0 := Lib.hid c0
  have HCF := Lib.hid cf
  clear c0 cf
  go_enter_defers Try.func36, Try.ntmps36
  go_wp2_with (go_at_call 27; (with_reducible refine HQ.out.mono ?_); rintro e w1 ⟨rfl, hb⟩; have HB := Lib.hid (HA.out.trans (hb.mono HA.out.size)); have hz := size2 hb; have c1 := ((bcell hb).1 _ _ (by simp)).trans HC0.out; have cf1 := ((bcell hb).2 _ _ (by simp)).trans HCF.out; clear hb)
  refine leaves_cons (f := 45) (args := #[.pointer (some ⟨w.heap.size + 1, 0, none⟩)]) (by simp) (by simp [go_sem]) ?_
  refine (tells_idle ⟨w.heap.size + 1, 0, none⟩ _).mono ?_
  rintro e u' w'' ⟨rfl, rfl, rfl⟩
  simp [Leaves, settle, results, Try.results36, go_sem, c1]
  exact HB.out.setCell (by simp) _

/-- A pool behind a look by epochs. -/
def PV.byE (P : PV) (g : Int) : PV := P.back (fun k => pastB (P.fo k 2) g) P.no
set_option maxRecDepth 100000 in
set_option maxHeartbeats 3200000 in
theorem byE_any (v : Value) (P : PV) (g : Int) (hg : g ≤ 9223372036854775807) (hw : ∀ k, k < P.no → P.fo k 2 ≤ 9223372036854775807) (hsum : (P.nf + P.no) * 16 ≤ 140737488355328) (w : World) (h : PoolAt w v P) :
    Calls Try.prog 8 #[v, .int .i64 g] w (RetBack (P.byE g) ((P.no : Int) - (P.byE g).no) w) := by
  have hmf : ∀ (fn : Fn) (first cap : Array Value) (w : World), (Instr.makeFunc fn first cap).run Try.prog w = .ok (.func fn first cap) w := fun _ _ _ _ => rfl
  have HP := Lib.hid (fun W hb => (h.below hb : PoolAt W v P))
  have HW := Lib.hid hw
  have HS := Lib.hid hsum
  obtain ⟨fa, fc, oa, oc, rfl, _, _⟩ := h
  have HB0 := Lib.hid (show Below w.heap.size w (((w.alloc (.cells #[.int .i64 P.i, .int .i64 P.t, .slice fa P.nf fc, .slice oa P.no oc, .int .i64 P.s] 27)).alloc (.cells #[.int .i64 g] 3)).alloc (.cells #[.int .i64 0, .int .i64 0, .slice none 0 0, .slice none 0 0, .int .i64 0] 27)) from (((Below.refl _ _).alloc (Nat.le_refl _) _).alloc (by simp) _).alloc (by simp; omega) _)
  have HY := Lib.hid (show Box (((w.alloc (.cells #[.int .i64 P.i, .int .i64 P.t, .slice fa P.nf fc, .slice oa P.no oc, .int .i64 P.s] 27)).alloc (.cells #[.int .i64 g] 3)).alloc (.cells #[.int .i64 0, .int .i64 0, .slice none 0 0, .slice none 0 0, .int .i64 0] 27)) (w.heap.size + 2) (.int .i64 0) (.int .i64 0) (.slice none 0 0) (.slice none 0 0) (.int .i64 0) from by have := Box.new (a := .int .i64 0) (b := .int .i64 0) (c := .slice none 0 0) (d := .slice none 0 0) (e := .int .i64 0) ((w.alloc (.cells #[.int .i64 P.i, .int .i64 P.t, .slice fa P.nf fc, .slice oa P.no oc, .int .i64 P.s] 27)).alloc (.cells #[.int .i64 g] 3)) 27; simpa using this)
  have HC := Lib.hid (show (((w.alloc (.cells #[.int .i64 P.i, .int .i64 P.t, .slice fa P.nf fc, .slice oa P.no oc, .int .i64 P.s] 27)).alloc (.cells #[.int .i64 g] 3)).alloc (.cells #[.int .i64 0, .int .i64 0, .slice none 0 0, .slice none 0 0, .int .i64 0] 27)).cell? ⟨w.heap.size + 1, 0, none⟩ = some (.int .i64 g) by go_simp)
  have HBACK := Lib.hid (show Calls Try.prog 26 #[.agg #[.int .i64 P.i, .int .i64 P.t, .slice fa P.nf fc, .slice oa P.no oc, .int .i64 P.s], .func (.func 27) #[] #[.pointer (some ⟨w.heap.size + 1, 0, none⟩)]] (((w.alloc (.cells #[.int .i64 P.i, .int .i64 P.t, .slice fa P.nf fc, .slice oa P.no oc, .int .i64 P.s] 27)).alloc (.cells #[.int .i64 g] 3)).alloc (.cells #[.int .i64 0, .int .i64 0, .slice none 0 0, .slice none 0 0, .int .i64 0] 27)) (RetBack (P.byE g) ((P.no : Int) - (P.byE g).no) (((w.alloc (.cells #[.int .i64 P.i, .int .i64 P.t, .slice fa P.nf fc, .slice oa P.no oc, .int .i64 P.s] 27)).alloc (.cells #[.int .i64 g] 3)).alloc (.cells #[.int .i64 0, .int .i64 0, .slice none 0 0, .slice none 0 0, .int .i64 0] 27))) from
    back_any _ _ P (fun k => pastB (P.fo k 2) g) HS.out _ (HP.out _ HB0.out) (fun k W hk hW => by
      have hA : Below W.heap.size W ((W.alloc (.cells #[.int .i64 (P.fo k 0), .int .i64 (P.fo k 1), .int .i64 (P.fo k 2)] 44)).alloc (.cells #[.bool false] 4)) := ((Below.refl _ _).alloc (Nat.le_refl _) _).alloc (by simp) _
      have hWA : Below (((w.alloc (.cells #[.int .i64 P.i, .int .i64 P.t, .slice fa P.nf fc, .slice oa P.no oc, .int .i64 P.s] 27)).alloc (.cells #[.int .i64 g] 3)).alloc (.cells #[.int .i64 0, .int .i64 0, .slice none 0 0, .slice none 0 0, .int .i64 0] 27)).heap.size (((w.alloc (.cells #[.int .i64 P.i, .int .i64 P.t, .slice fa P.nf fc, .slice oa P.no oc, .int .i64 P.s] 27)).alloc (.cells #[.int .i64 g] 3)).alloc (.cells #[.int .i64 0, .int .i64 0, .slice none 0 0, .slice none 0 0, .int .i64 0] 27)) _ := hW.trans (hA.mono hW.size)
      have hz := hWA.size
      refine tells_epoch _ _ _ _ _ W (testE_any _ _ _ _ g (HW.out k hk) hg _ (by first | (simp at hz ⊢; done) | (simp at hz ⊢; omega)) (((bcell hWA).1 _ _ (by first | (simp; done) | (simp; omega))).trans HC.out)))
  )
  generalize P.byE g = R at *
  clear HP HW HS hw hsum
  go_enter Try.func8, Try.ntmps8
  go_wp2_with (go_at_call 26; go_loud ((with_reducible refine HBACK.out.mono ?_); rintro e w2 ⟨f2, o2, rfl, ho, hb⟩); (obtain ⟨a2, k2, rfl⟩ := own_form ho.1); (obtain ⟨b2, l2, rfl⟩ := own_form ho.2.1); have HO2 := Lib.hid ho; have HY2 := Lib.hid (HY.out.below (by first | (simp; done) | (simp; omega)) hb); have HB2 := Lib.hid (HB0.out.trans (hb.mono HB0.out.size)); have hz := size3 hb; clear hb ho; (obtain ⟨d0, d1, d2, d3, d4, df⟩ := HY2.out); have df0 := df 0; have df1 := df 1; have df2 := df 2; have df3 := df 3; have df4 := df 4; clear df)
  refine bodyPost_ret (v := .tuple #[.agg #[.int .i64 R.i, .int .i64 R.t, .slice a2 R.nf k2, .slice b2 R.no l2, .int .i64 R.s], .int .i64 ((P.no : Int) - R.no)]) ?_ rfl ⟨_, _, rfl, ⟨?_, ?_, HO2.out.2.2⟩, ?_⟩
  · simp only [results, Try.results8]; go_simp
  · exact World.ownsRow.mono (store5_own (HO2.out.1.mono (show w.heap.size + 3 ≤ _ by simp)) (by omega)) (by omega)
  · exact World.ownsRow.mono (store5_own (HO2.out.2.1.mono (show w.heap.size + 3 ≤ _ by simp)) (by omega)) (by omega)
  · exact store5_below HB2.out (by omega)
def EMarkRel (P : PV) (G : Nat → Bool) (fa : Option Addr) (fc : Nat) (oa : Option Addr) (oc : Nat) (w : World) (k : Nat) (lv : Value) (u : World) : Prop :=
  ∃ la lc, lv = .slice la k lc ∧ Box u w.heap.size (.int .i64 P.i) (.int .i64 P.t) (.slice fa P.nf fc) (.slice oa P.no oc) (.int .i64 P.s) ∧ Box u (w.heap.size + 1) (.int .i64 0) (.int .i64 0) (.slice none 0 0) (.slice none 0 0) (.int .i64 0) ∧ u.ownsRow (w.heap.size + 2) 4 1 (.slice la k lc) k (rowB G k) ∧ Below w.heap.size w u ∧ w.heap.size + 1 < u.heap.size

set_option maxRecDepth 100000 in
set_option maxHeartbeats 6400000 in
theorem rbyE_any (v : Value) (P : PV) (g : Int) (hg : g ≤ 9223372036854775807) (hw : ∀ k, k < P.no → P.fo k 2 ≤ 9223372036854775807) (hsum : (P.nf + P.no) * 16 ≤ 140737488355328) (w : World) (h : PoolAt w v P) :
    Calls Try.prog 9 #[v, .int .i64 g] w (RetBack (P.byE g) ((P.no : Int) - (P.byE g).no) w) := by
  have HP := Lib.hid (fun W hb => (h.below hb : PoolAt W v P))
  have HS := Lib.hid hsum
  have HW := Lib.hid hw
  obtain ⟨G, hG⟩ : ∃ G : Nat → Bool, (fun k => pastB (P.fo k 2) g) = G := ⟨_, rfl⟩
  have HGK := Lib.hid (fun k => show (fun k => pastB (P.fo k 2) g) k = G k by rw [hG])
  have HRD := Lib.hid (show P.byE g = P.back G P.no from by rw [← hG]; rfl)
  obtain ⟨fa, fc, oa, oc, rfl, hf, ho⟩ := h
  have hn2 := ho.1
  have HO := Lib.hid ho
  clear hf ho hG hsum
  have HB0 := Lib.hid (show Below w.heap.size w ((w.alloc (.cells #[.int .i64 P.i, .int .i64 P.t, .slice fa P.nf fc, .slice oa P.no oc, .int .i64 P.s] 27)).alloc (.cells #[.int .i64 0, .int .i64 0, .slice none 0 0, .slice none 0 0, .int .i64 0] 27)) from ((Below.refl _ _).alloc (Nat.le_refl _) _).alloc (by simp) _)
  have HX := Lib.hid (show Box ((w.alloc (.cells #[.int .i64 P.i, .int .i64 P.t, .slice fa P.nf fc, .slice oa P.no oc, .int .i64 P.s] 27)).alloc (.cells #[.int .i64 0, .int .i64 0, .slice none 0 0, .slice none 0 0, .int .i64 0] 27)) w.heap.size (.int .i64 P.i) (.int .i64 P.t) (.slice fa P.nf fc) (.slice oa P.no oc) (.int .i64 P.s) from (Box.new w _).below (by simp) ((Below.refl _ _).alloc (Nat.le_refl _) _))
  have HY := Lib.hid (show Box ((w.alloc (.cells #[.int .i64 P.i, .int .i64 P.t, .slice fa P.nf fc, .slice oa P.no oc, .int .i64 P.s] 27)).alloc (.cells #[.int .i64 0, .int .i64 0, .slice none 0 0, .slice none 0 0, .int .i64 0] 27)) (w.heap.size + 1) (.int .i64 0) (.int .i64 0) (.slice none 0 0) (.slice none 0 0) (.int .i64 0) from by have := Box.new (a := .int .i64 0) (b := .int .i64 0) (c := .slice none 0 0) (d := .slice none 0 0) (e := .int .i64 0) (w.alloc (.cells #[.int .i64 P.i, .int .i64 P.t, .slice fa P.nf fc, .slice oa P.no oc, .int .i64 P.s] 27)) 27; simpa using this)
  obtain ⟨R, hR⟩ : ∃ R, P.back G P.no = R := ⟨_, rfl⟩
  rw [HRD.out, hR]
  have HRR := Lib.hid hR
  clear hR HRD
  go_enter Try.func9, Try.ntmps9
  obtain ⟨c0, c1, c2, c3, c4, cf⟩ := HX.out
  clear cf
  go_wp2_with fail
  go_loopw [6, 12] (fun lv i wr => ∃ k : Nat, k ≤ P.no ∧ i = .int .i64 k ∧ EMarkRel P G fa fc oa oc w k lv wr) (fun _ i _ => P.no - (intOf i).toNat)
  case atStart => exact ⟨0, Nat.zero_le _, rfl, none, 0, rfl, HX.out, HY.out, World.ownsRow_nil _ _ _ _, HB0.out, by simp⟩
  case round =>
    clear c0 c1 c2 c3 c4 HX HY HB0
    obtain ⟨k, hk, rfl, la, lc, rfl, hx, hy, how, hb, hz⟩ := hrel
    have HXk := Lib.hid hx
    have HYk := Lib.hid hy
    have HOk := Lib.hid how
    have HBk := Lib.hid hb
    have z0 : w.heap.size < wr.heap.size := by omega
    obtain ⟨c0, c1, c2, c3, c4, cf⟩ := hx
    clear cf how hb hy
    rcases Nat.lt_or_ge k P.no with hlt | hge
    · obtain ⟨b, off, hab, _, hcc⟩ := (HO.out.below HBk.out).get hlt
      subst hab
      have x0 : wr.cell? ⟨b, off + k * 3, none⟩ = some (.int .i64 (P.fo k 0)) := by simpa using hcc k 0 hlt (by omega)
      have x1 := hcc k 1 hlt (by omega)
      have x2 := hcc k 2 hlt (by omega)
      have i0 : (0 : Int) ≤ (k : Int) := by omega
      have i1 : (k : Int) < (P.no : Int) := by omega
      have hzk := HW.out k hlt
      clear hcc
      go_wp2_with (first
        | (go_at_call 12; (with_reducible refine (rpast_any _ _ hzk hg _).mono ?_); rintro e w2 ⟨rfl, rfl⟩; rw [HGK.out k])
        | (at_builtin; go_loud (refine app_cells (w.heap.size + 2) 4 53 rfl _ _ rfl Try.underlying53 _ 1 1 Try.info_bool rfl (by omega) (.slice la k lc) k (rowB G k) #[.bool (G k)] rfl (by simp [Value.oneCell']) rfl (HOk.out.alloc _) (wr.heap.size + 1) (by simp) rfl (by omega) (by unfold maxLen; omega) (by simp; omega) ?_; intro gg cap' w4 hown hgrow hat hlt'; have hg4 : wr.grownBy w4 _ := (World.grownBy_alloc wr (.cells #[.int .i64 (P.fo k 0), .int .i64 (P.fo k 1), .int .i64 (P.fo k 2)] 44) _).trans hgrow; have HX4 := Lib.hid (HXk.out.grown hg4 z0 (fun e => absurd (HOk.out.lt _ e.symm).1 (by omega))); have HY4 := Lib.hid (HYk.out.grown hg4 hz (fun e => absurd (HOk.out.lt _ e.symm).1 (by omega))); have HO4 := Lib.hid (own_mark hown); have HB4 := Lib.hid (Below.grown HBk.out hg4 (by omega) (fun j hj => Nat.le_trans (Nat.le_add_right _ 2) (HOk.out.lt j hj).1)); have hsz := hg4.size; clear hown hgrow hat hg4 hlt' c0 c1 c2 c3 c4 x0 x1 x2; obtain ⟨c0, c1, c2, c3, c4, cf⟩ := HX4.out; clear cf)))
      go_roundw
      case rel => exact ⟨k + 1, by omega, by go_num, some ⟨gg, 0, none⟩, cap', rfl, HX4.out, HY4.out, HO4.out, HB4.out, by omega⟩
      case measure => simp [intOf]; omega
    · obtain rfl : k = P.no := by omega
      obtain ⟨ra, rc, hv, hr⟩ := RowB.of (by omega) HOk.out
      cases hv
      have HRBACK := Lib.hid (show Calls Try.prog 28 #[.agg #[.int .i64 P.i, .int .i64 P.t, .slice fa P.nf fc, .slice oa P.no oc, .int .i64 P.s], .slice la P.no lc] wr (RetBack R ((P.no : Int) - R.no) wr) from HRR.out ▸ rback_any _ P G la lc HS.out wr (HP.out _ HBk.out) hr)
      clear hr HO HGK
      go_wp2_with (go_at_call 28; (with_reducible refine HRBACK.out.mono ?_); rintro e w2 ⟨f2, o2, rfl, ho, hb⟩; (obtain ⟨a2, k2, rfl⟩ := own_form ho.1); (obtain ⟨b2, l2, rfl⟩ := own_form ho.2.1); have HO2 := Lib.hid ho; have HY2 := Lib.hid (HYk.out.below hz hb); have HB2 := Lib.hid (HBk.out.trans (hb.mono HBk.out.size)); have hz2 := hb.size; clear hb ho c0 c1 c2 c3 c4; (obtain ⟨d0, d1, d2, d3, d4, df⟩ := HY2.out); have df0 := df 0; have df1 := df 1; have df2 := df 2; have df3 := df 3; have df4 := df 4; clear df)
      refine bodyPost_ret (v := .tuple #[.agg #[.int .i64 R.i, .int .i64 R.t, .slice a2 R.nf k2, .slice b2 R.no l2, .int .i64 R.s], .int .i64 ((P.no : Int) - R.no)]) ?_ rfl ⟨_, _, rfl, ⟨?_, ?_, HO2.out.2.2⟩, ?_⟩
      · simp only [results, Try.results9]; go_simp
      · exact World.ownsRow.mono (store5_own (HO2.out.1.mono (show w.heap.size + 2 ≤ _ by omega)) (by omega)) (by omega)
      · exact World.ownsRow.mono (store5_own (HO2.out.2.1.mono (show w.heap.size + 2 ≤ _ by omega)) (by omega)) (by omega)
      · exact store5_below HB2.out (by omega)
end Go.Proofs.Ytdfbddepeacebaa
