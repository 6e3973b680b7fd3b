/- PoolKeeps over the seat's program: it answers true. -/
import Derived.Test.YtmaijjjhjkaoeaaPlV
import Derived.Deep.DeepCutAuto
import Derived.IntWalk
import Derived.Deep.CutRange
namespace Go.Proofs.Ytmaijjjhjkaoeaa
open Go.ChangeShapes Go.WideShapes Go.ChangeAt Go.RowKit Go.Joins

/-- The pool in its box. -/
def KeepAt (N : Nat) (q : Nat) (w u : World) : Prop :=
  ∃ P fa fc oa oc, PV.fine N P ∧ Box u q (.int .i64 P.i) (.int .i64 P.t) (.slice fa P.nf fc) (.slice oa P.no oc) (.int .i64 P.s) ∧ RowS 2 u fa P.nf fc P.ff ∧ RowS 3 u oa P.no oc P.fo ∧ Below w.heap.size w u ∧ q < u.heap.size
def KeepX (N q d : Nat) (x : Int) (w u : World) : Prop := KeepAt N q w u ∧ u.cell? ⟨d, 0, none⟩ = some (.int .i64 x) ∧ d < u.heap.size
theorem store5_cell {w : World} {p d i : Nat} {a b c x e : Value} (h : p ≠ d) : (store5 w p a b c x e).cell? ⟨d, i, none⟩ = w.cell? ⟨d, i, none⟩ := by
  unfold store5
  rw [cell_set_ne (.inl h), cell_set_ne (.inl h), cell_set_ne (.inl h), cell_set_ne (.inl h), cell_set_ne (.inl h)]
set_option maxRecDepth 100000 in
set_option maxHeartbeats 12800000 in
theorem keeps_walk (fr n tags : Int) (la : Option Addr) (ln lc : Nat) (f : Nat → Int) (w : World) (_ : -9223372036854775808 ≤ fr) (_ : fr ≤ 9223372036854775807) (_ : -9223372036854775808 ≤ n) (_ : n ≤ 9223372036854775807) (_ : -9223372036854775808 ≤ tags) (htg : tags ≤ 9223372036854775807) (h : RowAt .i64 w la ln lc f) : Calls Try.prog 7 #[.int .i64 fr, .int .i64 n, .int .i64 tags, .slice la ln lc] w fun e w' => e = .returned (.bool true) ∧ Below w.heap.size w w' := by
  have hln := h.1
  have HL := Lib.hid (fun W hb => (h.below hb : RowAt .i64 W la ln lc f))
  have hmf : ∀ (fn : Fn) (first cap : Array Value) (w : World), (Instr.makeFunc fn first cap).run Try.prog w = .ok (.func fn first cap) w := fun _ _ _ _ => rfl
  clear h
  by_cases hbig : 200 < ln
  · go_enter Try.func7, Try.ntmps7
    go_wp2_with (go_at_call 14; (with_reducible refine (awake_any _).mono ?_); rintro e w6 ⟨rfl, hb⟩; have HB6 := Lib.hid hb; clear hb)
    go_ret
    exact ⟨rfl, HB6.out⟩
  have hln2 : ln ≤ 200 := by omega
  clear hbig hln
  have HF0 := Lib.hid (fine_new fr n)
  obtain ⟨N, hN⟩ : ∃ N : Nat, newN n = N := ⟨_, rfl⟩
  have hN64 : N ≤ 64 := hN ▸ newN_le n
  have HNN := Lib.hid (show (PV.new fr n).nf * 16 ≤ 140737488355328 ∧ (PV.new fr n).no * 24 ≤ 140737488355328 from ⟨by show newN n * 16 ≤ _; have := newN_le n; omega, by show 0 * 24 ≤ _; omega⟩)
  have HNC := Lib.hid (show (PV.new fr n).count = N by show 0 + newN n + 0 = N; omega)
  rw [hN] at HF0
  obtain ⟨P0, hP0⟩ : ∃ P0, PV.new fr n = P0 := ⟨_, rfl⟩
  rw [hP0] at HF0 HNN HNC
  have HNEW := Lib.hid (fun W => show Calls Try.prog 12 #[.int .i64 fr, .int .i64 n] W (RetPool W.heap.size P0 W) from hP0 ▸ new_any fr n W)
  clear hP0 hN
  go_enter Try.func7, Try.ntmps7
  go_wp2_with (first
    | (go_at_call 12; (with_reducible refine (HNEW.out _).mono ?_); rintro e w1 ⟨f1, o1, rfl, ho, hb⟩; have hv1 := ho.at HNN.out.1 HNN.out.2; (obtain ⟨fa, fc, rfl⟩ := own_form ho.1); (obtain ⟨oa, oc, rfl⟩ := own_form ho.2.1); have HV1 := Lib.hid hv1; have HB1 := Lib.hid hb; clear hb ho hv1; have HA1 := Lib.hid (show Below w1.heap.size w1 (w1.alloc (.cells #[.int .i64 P0.i, .int .i64 P0.t, .slice fa P0.nf fc, .slice oa P0.no oc, .int .i64 P0.s] 27)) from (Below.refl _ _).alloc (Nat.le_refl _) _))
    | (go_at_call 23; (with_reducible refine (count_any _ P0 _ (HV1.out.below HA1.out)).mono ?_); rintro e w2 ⟨rfl, hb⟩; rw [HNC.out]; have HX2 := Lib.hid ((Box.new (a := .int .i64 P0.i) (b := .int .i64 P0.t) (c := .slice fa P0.nf fc) (d := .slice oa P0.no oc) (e := .int .i64 P0.s) w1 27).below (by simp) hb); have HV2 := Lib.hid ((HV1.out.below HA1.out).below hb); have HB2 := Lib.hid ((HB1.out.trans (HA1.out.mono HB1.out.size)).trans (hb.mono (by have := HB1.out.size; simp; omega))); have z2 := size1 hb; clear hb))
  have HK0 := Lib.hid (show KeepAt N w1.heap.size w w2 by
    obtain ⟨_, _, _, _, hv, hr1, hr2⟩ := HV2.out
    simp only [Value.agg.injEq] at hv
    have e1 := congrArg (fun x => x[2]?) hv
    have e2 := congrArg (fun x => x[3]?) hv
    simp at e1 e2
    obtain ⟨rfl, rfl⟩ := e1
    obtain ⟨rfl, rfl⟩ := e2
    exact ⟨P0, fa, fc, oa, oc, HF0.out, HX2.out, hr1, hr2, HB2.out, z2⟩)
  have HZ1 := Lib.hid (show w.heap.size ≤ w1.heap.size from HB1.out.size)
  clear HX2 HV2 HB2 HA1 HV1 HB1 HF0 HNN HNC HNEW z2
  generalize w1.heap.size = q at *
  have HQW := HZ1
  clear HZ1
  go_loopw [27] (fun i wr => ∃ k : Nat, k ≤ ln ∧ i = .int .i64 k ∧ KeepAt N q w wr) (fun i _ => ln - (intOf i).toNat)
  case atStart => exact ⟨0, Nat.zero_le _, rfl, HK0.out⟩
  case round =>
    obtain ⟨k, hk, rfl, P, fa', fc', oa', oc', hfine, hx, hrf, hro, hb, hz⟩ := hrel
    clear HK0
    have HFI := Lib.hid hfine
    have HXk := Lib.hid hx
    have HRF := Lib.hid hrf
    have HRO := Lib.hid hro
    have HBk := Lib.hid hb
    clear hfine hrf hro hb
    rcases Nat.lt_or_ge k ln with hlt | hge
    · obtain ⟨lb, lo, hab, _, hcc⟩ := (HL.out _ HBk.out).get hlt
      subst hab
      have l0 := hcc k hlt
      have i0 : (0 : Int) ≤ (k : Int) := by omega
      have i1 : (k : Int) < (ln : Int) := by omega
      clear hcc
      obtain ⟨x, hxx⟩ : ∃ x : Int, f k = x := ⟨_, rfl⟩
      rw [hxx] at l0
      clear hxx
      obtain ⟨c0, c1, c2, c3, c4, cf⟩ := hx
      clear cf
      have HAW := Lib.hid (show Below wr.heap.size wr (wr.alloc (.cells #[.int .i64 x] 3)) from (Below.refl _ _).alloc (Nat.le_refl _) _)
      have HIN := Lib.hid HFI.out.free
      have HTK := Lib.hid (fine_take HFI.out tags)
      obtain ⟨R, hR⟩ : ∃ R, P.take tags = R := ⟨_, rfl⟩
      rw [hR] at HTK
      have HTAKE := Lib.hid (fun W (h : RowS 2 W fa' P.nf fc' P.ff) (h' : RowS 3 W oa' P.no oc' P.fo) => show Calls Try.prog 9 #[.agg #[.int .i64 P.i, .int .i64 P.t, .slice fa' P.nf fc', .slice oa' P.no oc', .int .i64 P.s], .int .i64 tags] W (RetTakeF R W) from hR ▸ take_far _ P tags htg W ⟨_, _, _, _, rfl, h, h'⟩ HIN.out)
      clear hR
      obtain ⟨Q, ok⟩ := R
      dsimp only at HTK HTAKE
      have HFQ := Lib.hid HTK.out.1
      have HOK := Lib.hid HTK.out.2
      clear HTK
      go_wp2_with (go_at_call 9; (with_reducible refine (HTAKE.out _ (HRF.out.below HAW.out) (HRO.out.below HAW.out)).mono ?_); rintro e w3 ⟨fb, fd, ob, od, rfl, hr, hfar, hb⟩; have HR3 := Lib.hid hr; have HFAR := Lib.hid hfar; have HX3 := Lib.hid ((HXk.out.below hz HAW.out).below (by simp; omega) hb); have HB3 := Lib.hid ((HBk.out.trans (HAW.out.mono HBk.out.size)).trans (hb.mono (by have := HBk.out.size; simp; omega))); have k3 : w3.cell? ⟨wr.heap.size, 0, none⟩ = some (.int .i64 x) := ((bcell hb).1 _ _ (by simp)).trans (by go_simp); have z3 := size1 hb; clear hr hfar hb c0 c1 c2 c3 c4 l0)
      go_upto_region 9 with (fail)
      have hA3 : Below w3.heap.size w3 (w3.alloc (.cells #[.int .i64 Q.i, .int .i64 Q.t, .slice fb Q.nf fd, .slice ob Q.no od, .int .i64 Q.s] 27)) := (Below.refl _ _).alloc (Nat.le_refl _) _
      refine abstract_code (fun u => Box u q (.int .i64 P.i) (.int .i64 P.t) (.slice fa' P.nf fc') (.slice oa' P.no oc') (.int .i64 P.s) ∧ Box u w3.heap.size (.int .i64 Q.i) (.int .i64 Q.t) (.slice fb Q.nf fd) (.slice ob Q.no od) (.int .i64 Q.s) ∧ u.cell? ⟨wr.heap.size, 0, none⟩ = some (.int .i64 x) ∧ (RowS 2 u fb Q.nf fd Q.ff ∧ RowS 3 u ob Q.no od Q.fo) ∧ (Far fb (q + 1) ∧ Far ob (q + 1)) ∧ Below w.heap.size w u ∧ q < wr.heap.size ∧ wr.heap.size < w3.heap.size ∧ w3.heap.size < u.heap.size) ⟨HX3.out.below (by omega) hA3, Box.new w3 _, ((bcell hA3).1 _ _ z3).trans k3, ⟨HR3.out.1.below hA3, HR3.out.2.below hA3⟩, ⟨HFAR.out.1.mono (by simp; omega), HFAR.out.2.mono (by simp; omega)⟩, HB3.out.trans (hA3.mono HB3.out.size), hz, z3, by simp⟩ ?_
      clear hA3 HX3 HR3 HFAR HB3 k3 z3 HAW HTAKE HIN HXk HRF HRO HBk HFI hz
      rintro u ⟨hx, hy, k0, hr, hfar, hb, zd, zq, zu⟩
      have HX := Lib.hid hx
      have HY := Lib.hid hy
      have HR := Lib.hid hr
      have HFAR := Lib.hid hfar
      have HB := Lib.hid hb
      generalize wr.heap.size = d at *
      generalize w3.heap.size = qq at *
      clear hr hfar hb
      obtain ⟨c0, c1, c2, c3, c4, cf⟩ := hx
      obtain ⟨d0, d1, d2, d3, d4, df⟩ := hy
      clear cf df
      have HVQ := Lib.hid (fun W (hb : Below u.heap.size u W) => show PoolAt W (.agg #[.int .i64 Q.i, .int .i64 Q.t, .slice fb Q.nf fd, .slice ob Q.no od, .int .i64 Q.s]) Q from ⟨_, _, _, _, rfl, HR.out.1.below hb, HR.out.2.below hb⟩)
      have HFW := Lib.hid (fine_few HFQ.out)
      have HSM := Lib.hid (show (Q.count : Int) + Q.s = N from HFQ.out.sum)
      have e2 : IntKind.i64.wrap ((Q.count : Int) + Q.s) = (N : Int) := by rw [HSM.out]; exact IntWalk.i64_in _ (by omega)
      cases ok
      · obtain ⟨ht0, hnf⟩ := HOK.out
        have ht1 : Q.t = 0 := by simpa using ht0.symm
        have HW := Lib.hid (why_no ht1 (hnf rfl))
        have e3 : (Q.why == 0) = false := by simpa using HW.out
        have e1 : (Q.t != 0) = false := ht0.symm
        clear ht0 hnf ht1
        go_region_held3 (fun W => W.cell? ⟨qq, 0, none⟩ = some (.int .i64 Q.i) ∧ W.cell? ⟨qq, 1, none⟩ = some (.int .i64 Q.t) ∧ W.cell? ⟨qq, 2, none⟩ = some (.slice fb Q.nf fd) ∧ W.cell? ⟨qq, 3, none⟩ = some (.slice ob Q.no od) ∧ W.cell? ⟨qq, 4, none⟩ = some (.int .i64 Q.s))
          (first | with_reducible exact ⟨d0, d1, d2, d3, d4⟩ | (go_simp; done) | go_keep)
          (first
            | (go_at_call 23; (with_reducible refine (count_any _ Q _ (HVQ.out _ ?_)).mono ?_); (first | (with_reducible refine Below.drew ?_; with_reducible exact Below.refl _ _) | with_reducible exact Below.refl _ _); rintro e w4 ⟨rfl, hb⟩; have HB4 := Lib.hid (show Below u.heap.size u w4 from below_next (by with_reducible refine Below.drew ?_; with_reducible exact Below.refl _ _) hb); have d0 := ((bcell HB4.out).1 _ _ zu).trans d0; have d1 := ((bcell HB4.out).1 _ _ zu).trans d1; have d2 := ((bcell HB4.out).1 _ _ zu).trans d2; have d3 := ((bcell HB4.out).1 _ _ zu).trans d3; have d4 := ((bcell HB4.out).1 _ _ zu).trans d4; have zu := Nat.lt_of_lt_of_le zu HB4.out.size; clear hb)
            | (go_at_call 25; (with_reducible refine (why_any _ Q _ (HVQ.out _ HB4.out)).mono ?_); rintro e w5 ⟨rfl, hb⟩; have HB5 := Lib.hid (show Below w4.heap.size w4 w5 from hb); have d0 := ((bcell HB5.out).1 _ _ zu).trans d0; have d1 := ((bcell HB5.out).1 _ _ zu).trans d1; have d2 := ((bcell HB5.out).1 _ _ zu).trans d2; have d3 := ((bcell HB5.out).1 _ _ zu).trans d3; have d4 := ((bcell HB5.out).1 _ _ zu).trans d4; have zu := Nat.lt_of_lt_of_le zu HB5.out.size; clear hb))
        go_upto_region 11 with (fail)
        have HU5 := Lib.hid (show Below u.heap.size u w5 from HB4.out.trans (HB5.out.mono HB4.out.size))
        have HX5 := Lib.hid (HX.out.below (by omega) HU5.out)
        have HY5 := Lib.hid (HY.out.below (by omega) HU5.out)
        have k5 := ((bcell HU5.out).1 _ _ (show d < u.heap.size by omega)).trans k0
        have HR5 := Lib.hid (And.intro (HR.out.1.below HU5.out) (HR.out.2.below HU5.out))
        have HB5' := Lib.hid (HB.out.trans (HU5.out.mono HB.out.size))
        have z5 := HU5.out.size
        obtain ⟨c0, c1, c2, c3, c4, cf⟩ := HX5.out
        have cf0 := cf 0
        have cf1 := cf 1
        have cf2 := cf 2
        have cf3 := cf 3
        have cf4 := cf 4
        clear cf k0
        go_upto_region 12 with (fail)
        refine abstract_code (fun u => Box u q (.int .i64 Q.i) (.int .i64 Q.t) (.slice fb Q.nf fd) (.slice ob Q.no od) (.int .i64 Q.s) ∧ Box u qq (.int .i64 Q.i) (.int .i64 Q.t) (.slice fb Q.nf fd) (.slice ob Q.no od) (.int .i64 Q.s) ∧ u.cell? ⟨d, 0, none⟩ = some (.int .i64 x) ∧ (RowS 2 u fb Q.nf fd Q.ff ∧ RowS 3 u ob Q.no od Q.fo) ∧ Below w.heap.size w u ∧ qq < u.heap.size) ⟨HX5.out.store _ _ _ _ _, HY5.out.far (by omega), (store5_cell (by omega)).trans k5, ⟨HR5.out.1.store5 HFAR.out.1 (Nat.lt_succ_self q), HR5.out.2.store5 HFAR.out.2 (Nat.lt_succ_self q)⟩, store5_below HB5'.out HQW.out, by simp; omega⟩ ?_
        clear c0 c1 c2 c3 c4 cf0 cf1 cf2 cf3 cf4 d0 d1 d2 d3 d4 HX5 HY5 k5 HR5 HB5' z5 HU5 HB4 HB5 HX HY HR HB HVQ e1 e3 e2 HSM
        rintro u1 ⟨hx, hy, k0, hr, hb, zu1⟩
        have HX1 := Lib.hid hx
        have HY1 := Lib.hid hy
        have HR1 := Lib.hid hr
        have HB1 := Lib.hid hb
        obtain ⟨d0, d1, d2, d3, d4, df⟩ := hy
        clear df hr hb hx
        go_upto_region 13 with (fail)
        have hA1 : Below u1.heap.size u1 (u1.alloc (.cells #[.int .i64 Q.i, .int .i64 Q.t] 23)) := (Below.refl _ _).alloc (Nat.le_refl _) _
        refine abstract_code (fun u => Box u q (.int .i64 Q.i) (.int .i64 Q.t) (.slice fb Q.nf fd) (.slice ob Q.no od) (.int .i64 Q.s) ∧ Box u qq (.int .i64 Q.i) (.int .i64 Q.t) (.slice fb Q.nf fd) (.slice ob Q.no od) (.int .i64 Q.s) ∧ u.cell? ⟨d, 0, none⟩ = some (.int .i64 x) ∧ (u.cell? ⟨u1.heap.size, 0, none⟩ = some (.int .i64 Q.i) ∧ u.cell? ⟨u1.heap.size, 1, none⟩ = some (.int .i64 Q.t)) ∧ (RowS 2 u fb Q.nf fd Q.ff ∧ RowS 3 u ob Q.no od Q.fo) ∧ Below w.heap.size w u ∧ qq < u1.heap.size ∧ u1.heap.size < u.heap.size) ⟨HX1.out.below (by omega) hA1, HY1.out.below (by omega) hA1, ((bcell hA1).1 _ _ (by omega)).trans k0, ⟨by go_simp, by go_simp⟩, ⟨HR1.out.1.below hA1, HR1.out.2.below hA1⟩, HB1.out.trans (hA1.mono HB1.out.size), zu1, by simp⟩ ?_
        clear d0 d1 d2 d3 d4 HX1 HY1 HR1 HB1 hA1 k0
        rintro u2 ⟨hx, hy, k0, ⟨r0, r1⟩, hr, hb, ze', ze⟩
        have HX2 := Lib.hid hx
        have HR2 := Lib.hid hr
        have HB2 := Lib.hid hb
        generalize u1.heap.size = e at *
        obtain ⟨d0, d1, d2, d3, d4, df⟩ := hy
        clear df hr hb hx zu1 zu
        have zu : qq < u2.heap.size := by omega
        have zdu : d < u2.heap.size := by omega
        have zqu : q < u2.heap.size := by omega
        have HVQ2 := Lib.hid (fun W (hb : Below u2.heap.size u2 W) => show PoolAt W (.agg #[.int .i64 Q.i, .int .i64 Q.t, .slice fb Q.nf fd, .slice ob Q.no od, .int .i64 Q.s]) Q from ⟨_, _, _, _, rfl, HR2.out.1.below hb, HR2.out.2.below hb⟩)
        have HQS := Lib.hid (show Q.leave.nf * 16 ≤ 140737488355328 ∧ Q.leave.no * 24 ≤ 140737488355328 ∧ (Q.leave.no + 1) * 24 ≤ 140737488355328 ∧ Q.leave.no * 24 ≤ 140737488351232 by have := HFW.out; show Q.nf * 16 ≤ _ ∧ Q.no * 24 ≤ _ ∧ (Q.no + 1) * 24 ≤ _ ∧ Q.no * 24 ≤ _; omega)
        go_upto_if 68 with (fail)
        go_cut [] from 28 to 91 (fun wx => KeepX N q d x w wx)
        case first =>
          go_wp2_with fail
          go_meet
          case rel => exact ⟨⟨Q, fb, fd, ob, od, HFQ.out, HX2.out, HR2.out.1, HR2.out.2, HB2.out, zqu⟩, k0, zdu⟩
        case rest =>
          clear d0 d1 d2 d3 d4 r0 r1 k0 HX2 HR2 HB2 HVQ2 HQS zu zdu zqu ze ze' HFQ HFAR HOK HFW HW zq 
          obtain ⟨⟨P', ga, gc, ha, hc0, hfine, hx, hrf, hro, hb, hz⟩, k0, zdu⟩ := hcut
          have HFI2 := Lib.hid hfine
          have HX6 := Lib.hid hx
          have HR6 := Lib.hid (And.intro hrf hro)
          have HB6 := Lib.hid hb
          have HVP := Lib.hid (show PoolAt wc (.agg #[.int .i64 P'.i, .int .i64 P'.t, .slice ga P'.nf gc, .slice ha P'.no hc0, .int .i64 P'.s]) P' from ⟨_, _, _, _, rfl, hrf, hro⟩)
          have HFW2 := Lib.hid (fine_few hfine)
          have HK6 := Lib.hid k0
          obtain ⟨c0, c1, c2, c3, c4, cf⟩ := hx
          have cf0 := cf 0
          have cf1 := cf 1
          have cf2 := cf 2
          have cf3 := cf 3
          have cf4 := cf 4
          clear cf hfine hrf hro hb
          have HT := Lib.hid (show ∀ i W, i < P'.no → Below wc.heap.size wc W → Calls Try.prog 39 #[.func (.func 31) #[] #[.pointer (some ⟨d, 0, none⟩)], .agg #[.int .i64 (P'.fo i 0), .int .i64 (P'.fo i 1), .int .i64 (P'.fo i 2)]] W fun e w' => e = .returned (.bool ((fun i => decide (P'.fo i 2 ≤ x)) i)) ∧ Below W.heap.size W w' from fun i W _ hW => by
            have hA : Below W.heap.size W (((W.alloc (.cells #[.int .i64 (P'.fo i 0), .int .i64 (P'.fo i 1), .int .i64 (P'.fo i 2)] 40)).alloc (.cells #[.bool false] 4))) := ((Below.refl _ _).alloc (Nat.le_refl _) _).alloc (by simp) _
            have hWA : Below wc.heap.size wc _ := hW.trans (hA.mono hW.size)
            exact tells_two _ _ _ _ _ W (test2_any _ _ _ _ x _ (by have := hWA.size; omega) (((bcell hWA).1 _ _ zdu).trans HK6.out)))
          have HBK := Lib.hid (show Calls Try.prog 20 #[.agg #[.int .i64 P'.i, .int .i64 P'.t, .slice ga P'.nf gc, .slice ha P'.no hc0, .int .i64 P'.s], .func (.func 31) #[] #[.pointer (some ⟨d, 0, none⟩)]] wc (RetBack (P'.back (fun i => decide (P'.fo i 2 ≤ x)) P'.no) ((P'.no : Int) - (P'.back (fun i => decide (P'.fo i 2 ≤ x)) P'.no).no) wc) from back_any _ _ P' (fun i => decide (P'.fo i 2 ≤ x)) (by have := HFW2.out; omega) wc HVP.out HT.out)
          have HFB := Lib.hid (fine_back HFI2.out (fun i => decide (P'.fo i 2 ≤ x)))
          have HBS := Lib.hid (fine_few HFB.out)
          clear HT
          generalize P'.back (fun i => decide (P'.fo i 2 ≤ x)) P'.no = R at *
          go_upto_if 77 with (fail)
          go_cut [] from 28 to 91 (fun wx => KeepX N q d x w wx)
          case first =>
            go_wp2_with (go_at_call 20; (with_reducible refine HBK.out.mono ?_); rintro e w7 ⟨f7, o7, rfl, ho, hb⟩; have HV7 := Lib.hid (ho.at (by have := HBS.out; omega) (by have := HBS.out; omega)); (obtain ⟨a8, k8, rfl⟩ := own_form ho.1); (obtain ⟨b8, l8, rfl⟩ := own_form ho.2.1); have HF8 := Lib.hid (show Far a8 (q + 1) ∧ Far b8 (q + 1) from ⟨(own_far ho.1).mono hz, (own_far ho.2.1).mono hz⟩); have HX8 := Lib.hid (HX6.out.below hz hb); have HB8 := Lib.hid (HB6.out.trans (hb.mono HB6.out.size)); have k8' := ((bcell hb).1 _ _ zdu).trans HK6.out; have z8 := hb.size; clear hb ho k0 c0 c1 c2 c3 c4 cf0 cf1 cf2 cf3 cf4; (obtain ⟨c0, c1, c2, c3, c4, cf⟩ := HX8.out); have cf0 := cf 0; have cf1 := cf 1; have cf2 := cf 2; have cf3 := cf 3; have cf4 := cf 4; clear cf)
            · go_meet
              case rel =>
                obtain ⟨_, _, _, _, hv, hr1, hr2⟩ := HV7.out
                simp only [Value.agg.injEq] at hv
                have e1 := congrArg (fun x => x[2]?) hv
                have e2 := congrArg (fun x => x[3]?) hv
                simp at e1 e2
                obtain ⟨rfl, rfl⟩ := e1
                obtain ⟨rfl, rfl⟩ := e2
                exact ⟨⟨R, _, _, _, _, HFB.out, HX8.out.store _ _ _ _ _, hr1.store5 HF8.out.1 (Nat.lt_succ_self q), hr2.store5 HF8.out.2 (Nat.lt_succ_self q), store5_below HB8.out HQW.out, by simp; omega⟩, (store5_cell (by omega)).trans k8', by simp; omega⟩
            · go_meet
              case rel => exact ⟨⟨P', ga, gc, ha, hc0, HFI2.out, HX6.out, HR6.out.1, HR6.out.2, HB6.out, hz⟩, HK6.out, zdu⟩
          case rest =>
            clear HFI2 HX6 HR6 HB6 HVP HFW2 HK6 HBK HFB HBS c0 c1 c2 c3 c4 cf0 cf1 cf2 cf3 cf4 k0 zdu hz
            obtain ⟨⟨P2, ja, jc, ma, mc, hfine, hx, hrf, hro, hb, hz⟩, _, _⟩ := hcut
            have HFI3 := Lib.hid hfine
            have HX9 := Lib.hid hx
            have HR9 := Lib.hid (And.intro hrf hro)
            have HB9 := Lib.hid hb
            have HFW3 := Lib.hid (fine_few hfine)
            have HSM3 := Lib.hid (show (P2.count : Int) + P2.s = N from hfine.sum)
            have HVP3 := Lib.hid (fun W (hb : Below wc.heap.size wc W) => show PoolAt W (.agg #[.int .i64 P2.i, .int .i64 P2.t, .slice ja P2.nf jc, .slice ma P2.no mc, .int .i64 P2.s]) P2 from ⟨_, _, _, _, rfl, hrf.below hb, hro.below hb⟩)
            have e2 : IntKind.i64.wrap ((P2.count : Int) + P2.s) = (N : Int) := by rw [HSM3.out]; exact IntWalk.i64_in _ (by omega)
            obtain ⟨c0, c1, c2, c3, c4, cf⟩ := hx
            have zqz := hz
            clear cf hfine hrf hro hb
            go_upto_region 17 with (fail)
            go_region_held3 (fun W => W.cell? ⟨q, 0, none⟩ = some (.int .i64 P2.i) ∧ W.cell? ⟨q, 1, none⟩ = some (.int .i64 P2.t) ∧ W.cell? ⟨q, 2, none⟩ = some (.slice ja P2.nf jc) ∧ W.cell? ⟨q, 3, none⟩ = some (.slice ma P2.no mc) ∧ W.cell? ⟨q, 4, none⟩ = some (.int .i64 P2.s))
              (first | with_reducible exact ⟨c0, c1, c2, c3, c4⟩ | (go_simp; done) | go_keep)
              ((go_at_call 23; (with_reducible refine (count_any _ P2 _ (HVP3.out _ ?_)).mono ?_); (first | (with_reducible refine Below.drew ?_; with_reducible exact Below.refl _ _) | with_reducible exact Below.refl _ _); rintro e w10 ⟨rfl, hb⟩; have HB10 := Lib.hid (show Below wc.heap.size wc w10 from below_next (by with_reducible refine Below.drew ?_; with_reducible exact Below.refl _ _) hb); have c0 := ((bcell HB10.out).1 _ _ zqz).trans c0; have c1 := ((bcell HB10.out).1 _ _ zqz).trans c1; have c2 := ((bcell HB10.out).1 _ _ zqz).trans c2; have c3 := ((bcell HB10.out).1 _ _ zqz).trans c3; have c4 := ((bcell HB10.out).1 _ _ zqz).trans c4; have zqz := Nat.lt_of_lt_of_le zqz HB10.out.size; clear hb))
            all_goals go_wp2_with fail
            all_goals go_roundw
            case rel => exact ⟨k + 1, by omega, by go_num, P2, ja, jc, ma, mc, HFI3.out, HX9.out.below hz HB10.out, HR9.out.1.below HB10.out, HR9.out.2.below HB10.out, HB9.out.trans (HB10.out.mono HB9.out.size), zqz⟩
            case measure => simp [intOf]; omega
      · obtain ⟨ht0, _⟩ := HOK.out
        have HT1 := Lib.hid (show Q.t ≠ 0 by simpa using ht0.symm)
        have HW := Lib.hid (why_yes HT1.out)
        have e1 : (Q.t != 0) = true := ht0.symm
        clear ht0
        go_region_held3 (fun W => W.cell? ⟨qq, 0, none⟩ = some (.int .i64 Q.i) ∧ W.cell? ⟨qq, 1, none⟩ = some (.int .i64 Q.t) ∧ W.cell? ⟨qq, 2, none⟩ = some (.slice fb Q.nf fd) ∧ W.cell? ⟨qq, 3, none⟩ = some (.slice ob Q.no od) ∧ W.cell? ⟨qq, 4, none⟩ = some (.int .i64 Q.s))
          (first | with_reducible exact ⟨d0, d1, d2, d3, d4⟩ | (go_simp; done) | go_keep)
          (first
            | (go_at_call 23; (with_reducible refine (count_any _ Q _ (HVQ.out _ ?_)).mono ?_); (first | (with_reducible refine Below.drew ?_; with_reducible exact Below.refl _ _) | with_reducible exact Below.refl _ _); rintro e w4 ⟨rfl, hb⟩; have HB4 := Lib.hid (show Below u.heap.size u w4 from below_next (by with_reducible refine Below.drew ?_; with_reducible exact Below.refl _ _) hb); have d0 := ((bcell HB4.out).1 _ _ zu).trans d0; have d1 := ((bcell HB4.out).1 _ _ zu).trans d1; have d2 := ((bcell HB4.out).1 _ _ zu).trans d2; have d3 := ((bcell HB4.out).1 _ _ zu).trans d3; have d4 := ((bcell HB4.out).1 _ _ zu).trans d4; have zu := Nat.lt_of_lt_of_le zu HB4.out.size; clear hb)
            | (go_at_call 25; (with_reducible refine (why_any _ Q _ (HVQ.out _ HB4.out)).mono ?_); rintro e w5 ⟨rfl, hb⟩; rw [HW.out]; have HB5 := Lib.hid (show Below w4.heap.size w4 w5 from hb); have d0 := ((bcell HB5.out).1 _ _ zu).trans d0; have d1 := ((bcell HB5.out).1 _ _ zu).trans d1; have d2 := ((bcell HB5.out).1 _ _ zu).trans d2; have d3 := ((bcell HB5.out).1 _ _ zu).trans d3; have d4 := ((bcell HB5.out).1 _ _ zu).trans d4; have zu := Nat.lt_of_lt_of_le zu HB5.out.size; clear hb))
        go_upto_region 11 with (fail)
        have HU5 := Lib.hid (show Below u.heap.size u w5 from HB4.out.trans (HB5.out.mono HB4.out.size))
        have HX5 := Lib.hid (HX.out.below (by omega) HU5.out)
        have HY5 := Lib.hid (HY.out.below (by omega) HU5.out)
        have k5 := ((bcell HU5.out).1 _ _ (show d < u.heap.size by omega)).trans k0
        have HR5 := Lib.hid (And.intro (HR.out.1.below HU5.out) (HR.out.2.below HU5.out))
        have HB5' := Lib.hid (HB.out.trans (HU5.out.mono HB.out.size))
        have z5 := HU5.out.size
        obtain ⟨c0, c1, c2, c3, c4, cf⟩ := HX5.out
        have cf0 := cf 0
        have cf1 := cf 1
        have cf2 := cf 2
        have cf3 := cf 3
        have cf4 := cf 4
        clear cf k0
        go_upto_region 12 with (fail)
        refine abstract_code (fun u => Box u q (.int .i64 Q.i) (.int .i64 Q.t) (.slice fb Q.nf fd) (.slice ob Q.no od) (.int .i64 Q.s) ∧ Box u qq (.int .i64 Q.i) (.int .i64 Q.t) (.slice fb Q.nf fd) (.slice ob Q.no od) (.int .i64 Q.s) ∧ u.cell? ⟨d, 0, none⟩ = some (.int .i64 x) ∧ (RowS 2 u fb Q.nf fd Q.ff ∧ RowS 3 u ob Q.no od Q.fo) ∧ Below w.heap.size w u ∧ qq < u.heap.size) ⟨HX5.out.store _ _ _ _ _, HY5.out.far (by omega), (store5_cell (by omega)).trans k5, ⟨HR5.out.1.store5 HFAR.out.1 (Nat.lt_succ_self q), HR5.out.2.store5 HFAR.out.2 (Nat.lt_succ_self q)⟩, store5_below HB5'.out HQW.out, by simp; omega⟩ ?_
        clear c0 c1 c2 c3 c4 cf0 cf1 cf2 cf3 cf4 d0 d1 d2 d3 d4 HX5 HY5 k5 HR5 HB5' z5 HU5 HB4 HB5 HX HY HR HB HVQ e1  e2 HSM
        rintro u1 ⟨hx, hy, k0, hr, hb, zu1⟩
        have HX1 := Lib.hid hx
        have HY1 := Lib.hid hy
        have HR1 := Lib.hid hr
        have HB1 := Lib.hid hb
        obtain ⟨d0, d1, d2, d3, d4, df⟩ := hy
        clear df hr hb hx
        go_upto_region 13 with (fail)
        have hA1 : Below u1.heap.size u1 (u1.alloc (.cells #[.int .i64 Q.i, .int .i64 Q.t] 23)) := (Below.refl _ _).alloc (Nat.le_refl _) _
        refine abstract_code (fun u => Box u q (.int .i64 Q.i) (.int .i64 Q.t) (.slice fb Q.nf fd) (.slice ob Q.no od) (.int .i64 Q.s) ∧ Box u qq (.int .i64 Q.i) (.int .i64 Q.t) (.slice fb Q.nf fd) (.slice ob Q.no od) (.int .i64 Q.s) ∧ u.cell? ⟨d, 0, none⟩ = some (.int .i64 x) ∧ (u.cell? ⟨u1.heap.size, 0, none⟩ = some (.int .i64 Q.i) ∧ u.cell? ⟨u1.heap.size, 1, none⟩ = some (.int .i64 Q.t)) ∧ (RowS 2 u fb Q.nf fd Q.ff ∧ RowS 3 u ob Q.no od Q.fo) ∧ Below w.heap.size w u ∧ qq < u1.heap.size ∧ u1.heap.size < u.heap.size) ⟨HX1.out.below (by omega) hA1, HY1.out.below (by omega) hA1, ((bcell hA1).1 _ _ (by omega)).trans k0, ⟨by go_simp, by go_simp⟩, ⟨HR1.out.1.below hA1, HR1.out.2.below hA1⟩, HB1.out.trans (hA1.mono HB1.out.size), zu1, by simp⟩ ?_
        clear d0 d1 d2 d3 d4 HX1 HY1 HR1 HB1 hA1 k0
        rintro u2 ⟨hx, hy, k0, ⟨r0, r1⟩, hr, hb, ze', ze⟩
        have HX2 := Lib.hid hx
        have HR2 := Lib.hid hr
        have HB2 := Lib.hid hb
        generalize u1.heap.size = e at *
        obtain ⟨d0, d1, d2, d3, d4, df⟩ := hy
        clear df hr hb hx zu1 zu
        have zu : qq < u2.heap.size := by omega
        have zdu : d < u2.heap.size := by omega
        have zqu : q < u2.heap.size := by omega
        have HVQ2 := Lib.hid (fun W (hb : Below u2.heap.size u2 W) => show PoolAt W (.agg #[.int .i64 Q.i, .int .i64 Q.t, .slice fb Q.nf fd, .slice ob Q.no od, .int .i64 Q.s]) Q from ⟨_, _, _, _, rfl, HR2.out.1.below hb, HR2.out.2.below hb⟩)
        have HQS := Lib.hid (show Q.leave.nf * 16 ≤ 140737488355328 ∧ Q.leave.no * 24 ≤ 140737488355328 ∧ (Q.leave.no + 1) * 24 ≤ 140737488355328 ∧ Q.leave.no * 24 ≤ 140737488351232 by have := HFW.out; show Q.nf * 16 ≤ _ ∧ Q.no * 24 ≤ _ ∧ (Q.no + 1) * 24 ≤ _ ∧ Q.no * 24 ≤ _; omega)
        go_upto_if 68 with (fail)
        go_cut [] from 28 to 91 (fun wx => KeepX N q d x w wx)
        case first =>
          go_wp2_with fail
          · go_region_held3 (fun W => W.cell? ⟨qq, 0, none⟩ = some (.int .i64 Q.i) ∧ W.cell? ⟨qq, 1, none⟩ = some (.int .i64 Q.t) ∧ W.cell? ⟨qq, 2, none⟩ = some (.slice fb Q.nf fd) ∧ W.cell? ⟨qq, 3, none⟩ = some (.slice ob Q.no od) ∧ W.cell? ⟨qq, 4, none⟩ = some (.int .i64 Q.s) ∧ W.cell? ⟨e, 0, none⟩ = some (.int .i64 Q.i) ∧ W.cell? ⟨e, 1, none⟩ = some (.int .i64 Q.t) ∧ W.cell? ⟨d, 0, none⟩ = some (.int .i64 x))
            (first | with_reducible exact ⟨d0, d1, d2, d3, d4, r0, r1, k0⟩ | (go_simp; done) | go_keep)
            (first
              | (go_at_call 15; (with_reducible refine (leave_any _ Q _ (HVQ2.out _ ?_)).mono ?_); (first | (with_reducible refine Below.drew ?_; with_reducible exact Below.refl _ _) | with_reducible exact Below.refl _ _); rintro e w7 ⟨f7, o7, rfl, ho, hb⟩; have HB7 := Lib.hid (show Below u2.heap.size u2 w7 from below_next (by with_reducible refine Below.drew ?_; with_reducible exact Below.refl _ _) hb); have d0 := ((bcell HB7.out).1 _ _ zu).trans d0; have d1 := ((bcell HB7.out).1 _ _ zu).trans d1; have d2 := ((bcell HB7.out).1 _ _ zu).trans d2; have d3 := ((bcell HB7.out).1 _ _ zu).trans d3; have d4 := ((bcell HB7.out).1 _ _ zu).trans d4; have r0 := ((bcell HB7.out).1 _ _ ze).trans r0; have r1 := ((bcell HB7.out).1 _ _ ze).trans r1; have k0 := ((bcell HB7.out).1 _ _ zdu).trans k0; have zu := Nat.lt_of_lt_of_le zu HB7.out.size; have ze := Nat.lt_of_lt_of_le ze HB7.out.size; have zdu := Nat.lt_of_lt_of_le zdu HB7.out.size; have HV7 := Lib.hid (ho.at HQS.out.1 HQS.out.2.1); (have HX7 := Lib.hid (HX2.out.below zqu HB7.out)); (have zqu := Nat.lt_of_lt_of_le zqu HB7.out.size); clear hb ho)
              | (go_at_call 17; (with_reducible refine (away_any _ Q.leave Q.i Q.t x _ HV7.out HQS.out.2.2.2).mono ?_); rintro e w8 ⟨f8, o8, rfl, ho, hb⟩; have HB8 := Lib.hid (show Below w7.heap.size w7 w8 from hb); have d0 := ((bcell HB8.out).1 _ _ zu).trans d0; have d1 := ((bcell HB8.out).1 _ _ zu).trans d1; have d2 := ((bcell HB8.out).1 _ _ zu).trans d2; have d3 := ((bcell HB8.out).1 _ _ zu).trans d3; have d4 := ((bcell HB8.out).1 _ _ zu).trans d4; have r0 := ((bcell HB8.out).1 _ _ ze).trans r0; have r1 := ((bcell HB8.out).1 _ _ ze).trans r1; have k0 := ((bcell HB8.out).1 _ _ zdu).trans k0; have zu := Nat.lt_of_lt_of_le zu HB8.out.size; have ze := Nat.lt_of_lt_of_le ze HB8.out.size; have zdu := Nat.lt_of_lt_of_le zdu HB8.out.size; have HV8 := Lib.hid (ho.at HQS.out.1 HQS.out.2.2.1); (obtain ⟨a8, k8, rfl⟩ := own_form ho.1); (obtain ⟨b8, l8, rfl⟩ := own_form ho.2.1); have HF8 := Lib.hid (show Far a8 (q + 1) ∧ Far b8 (q + 1) from ⟨(own_far ho.1).mono zqu, (own_far ho.2.1).mono zqu⟩); (have HX8 := Lib.hid (HX7.out.below zqu HB8.out)); (have zqu := Nat.lt_of_lt_of_le zqu HB8.out.size); clear hb ho; (obtain ⟨c0, c1, c2, c3, c4, cf⟩ := HX8.out); have cf0 := cf 0; have cf1 := cf 1; have cf2 := cf 2; have cf3 := cf 3; have cf4 := cf 4; clear cf))
            all_goals go_wp2_with fail
            all_goals go_meet
            case rel =>
              obtain ⟨_, _, _, _, hv, hr1, hr2⟩ := HV8.out
              simp only [Value.agg.injEq] at hv
              have e1 := congrArg (fun x => x[2]?) hv
              have e2 := congrArg (fun x => x[3]?) hv
              simp at e1 e2
              obtain ⟨rfl, rfl⟩ := e1
              obtain ⟨rfl, rfl⟩ := e2
              exact ⟨⟨Q.leave.away Q.i Q.t x, _, _, _, _, fine_away HFQ.out HT1.out x, HX8.out.store _ _ _ _ _, hr1.store5 HF8.out.1 (Nat.lt_succ_self q), hr2.store5 HF8.out.2 (Nat.lt_succ_self q), store5_below (HB2.out.trans ((HB7.out.trans (HB8.out.mono HB7.out.size)).mono HB2.out.size)) HQW.out, by simp; omega⟩, (store5_cell (by omega)).trans k0, by simp; omega⟩
          · go_meet
            case rel => exact ⟨⟨Q, fb, fd, ob, od, HFQ.out, HX2.out, HR2.out.1, HR2.out.2, HB2.out, zqu⟩, k0, zdu⟩
        case rest =>
          clear d0 d1 d2 d3 d4 r0 r1 k0 HX2 HR2 HB2 HVQ2 HQS zu zdu zqu ze ze' HFQ HFAR HOK HFW HW zq HT1
          obtain ⟨⟨P', ga, gc, ha, hc0, hfine, hx, hrf, hro, hb, hz⟩, k0, zdu⟩ := hcut
          have HFI2 := Lib.hid hfine
          have HX6 := Lib.hid hx
          have HR6 := Lib.hid (And.intro hrf hro)
          have HB6 := Lib.hid hb
          have HVP := Lib.hid (show PoolAt wc (.agg #[.int .i64 P'.i, .int .i64 P'.t, .slice ga P'.nf gc, .slice ha P'.no hc0, .int .i64 P'.s]) P' from ⟨_, _, _, _, rfl, hrf, hro⟩)
          have HFW2 := Lib.hid (fine_few hfine)
          have HK6 := Lib.hid k0
          obtain ⟨c0, c1, c2, c3, c4, cf⟩ := hx
          have cf0 := cf 0
          have cf1 := cf 1
          have cf2 := cf 2
          have cf3 := cf 3
          have cf4 := cf 4
          clear cf hfine hrf hro hb
          have HT := Lib.hid (show ∀ i W, i < P'.no → Below wc.heap.size wc W → Calls Try.prog 39 #[.func (.func 31) #[] #[.pointer (some ⟨d, 0, none⟩)], .agg #[.int .i64 (P'.fo i 0), .int .i64 (P'.fo i 1), .int .i64 (P'.fo i 2)]] W fun e w' => e = .returned (.bool ((fun i => decide (P'.fo i 2 ≤ x)) i)) ∧ Below W.heap.size W w' from fun i W _ hW => by
            have hA : Below W.heap.size W (((W.alloc (.cells #[.int .i64 (P'.fo i 0), .int .i64 (P'.fo i 1), .int .i64 (P'.fo i 2)] 40)).alloc (.cells #[.bool false] 4))) := ((Below.refl _ _).alloc (Nat.le_refl _) _).alloc (by simp) _
            have hWA : Below wc.heap.size wc _ := hW.trans (hA.mono hW.size)
            exact tells_two _ _ _ _ _ W (test2_any _ _ _ _ x _ (by have := hWA.size; omega) (((bcell hWA).1 _ _ zdu).trans HK6.out)))
          have HBK := Lib.hid (show Calls Try.prog 20 #[.agg #[.int .i64 P'.i, .int .i64 P'.t, .slice ga P'.nf gc, .slice ha P'.no hc0, .int .i64 P'.s], .func (.func 31) #[] #[.pointer (some ⟨d, 0, none⟩)]] wc (RetBack (P'.back (fun i => decide (P'.fo i 2 ≤ x)) P'.no) ((P'.no : Int) - (P'.back (fun i => decide (P'.fo i 2 ≤ x)) P'.no).no) wc) from back_any _ _ P' (fun i => decide (P'.fo i 2 ≤ x)) (by have := HFW2.out; omega) wc HVP.out HT.out)
          have HFB := Lib.hid (fine_back HFI2.out (fun i => decide (P'.fo i 2 ≤ x)))
          have HBS := Lib.hid (fine_few HFB.out)
          clear HT
          generalize P'.back (fun i => decide (P'.fo i 2 ≤ x)) P'.no = R at *
          go_upto_if 77 with (fail)
          go_cut [] from 28 to 91 (fun wx => KeepX N q d x w wx)
          case first =>
            go_wp2_with (go_at_call 20; (with_reducible refine HBK.out.mono ?_); rintro e w7 ⟨f7, o7, rfl, ho, hb⟩; have HV7 := Lib.hid (ho.at (by have := HBS.out; omega) (by have := HBS.out; omega)); (obtain ⟨a8, k8, rfl⟩ := own_form ho.1); (obtain ⟨b8, l8, rfl⟩ := own_form ho.2.1); have HF8 := Lib.hid (show Far a8 (q + 1) ∧ Far b8 (q + 1) from ⟨(own_far ho.1).mono hz, (own_far ho.2.1).mono hz⟩); have HX8 := Lib.hid (HX6.out.below hz hb); have HB8 := Lib.hid (HB6.out.trans (hb.mono HB6.out.size)); have k8' := ((bcell hb).1 _ _ zdu).trans HK6.out; have z8 := hb.size; clear hb ho k0 c0 c1 c2 c3 c4 cf0 cf1 cf2 cf3 cf4; (obtain ⟨c0, c1, c2, c3, c4, cf⟩ := HX8.out); have cf0 := cf 0; have cf1 := cf 1; have cf2 := cf 2; have cf3 := cf 3; have cf4 := cf 4; clear cf)
            · go_meet
              case rel =>
                obtain ⟨_, _, _, _, hv, hr1, hr2⟩ := HV7.out
                simp only [Value.agg.injEq] at hv
                have e1 := congrArg (fun x => x[2]?) hv
                have e2 := congrArg (fun x => x[3]?) hv
                simp at e1 e2
                obtain ⟨rfl, rfl⟩ := e1
                obtain ⟨rfl, rfl⟩ := e2
                exact ⟨⟨R, _, _, _, _, HFB.out, HX8.out.store _ _ _ _ _, hr1.store5 HF8.out.1 (Nat.lt_succ_self q), hr2.store5 HF8.out.2 (Nat.lt_succ_self q), store5_below HB8.out HQW.out, by simp; omega⟩, (store5_cell (by omega)).trans k8', by simp; omega⟩
            · go_meet
              case rel => exact ⟨⟨P', ga, gc, ha, hc0, HFI2.out, HX6.out, HR6.out.1, HR6.out.2, HB6.out, hz⟩, HK6.out, zdu⟩
          case rest =>
            clear HFI2 HX6 HR6 HB6 HVP HFW2 HK6 HBK HFB HBS c0 c1 c2 c3 c4 cf0 cf1 cf2 cf3 cf4 k0 zdu hz
            obtain ⟨⟨P2, ja, jc, ma, mc, hfine, hx, hrf, hro, hb, hz⟩, _, _⟩ := hcut
            have HFI3 := Lib.hid hfine
            have HX9 := Lib.hid hx
            have HR9 := Lib.hid (And.intro hrf hro)
            have HB9 := Lib.hid hb
            have HFW3 := Lib.hid (fine_few hfine)
            have HSM3 := Lib.hid (show (P2.count : Int) + P2.s = N from hfine.sum)
            have HVP3 := Lib.hid (fun W (hb : Below wc.heap.size wc W) => show PoolAt W (.agg #[.int .i64 P2.i, .int .i64 P2.t, .slice ja P2.nf jc, .slice ma P2.no mc, .int .i64 P2.s]) P2 from ⟨_, _, _, _, rfl, hrf.below hb, hro.below hb⟩)
            have e2 : IntKind.i64.wrap ((P2.count : Int) + P2.s) = (N : Int) := by rw [HSM3.out]; exact IntWalk.i64_in _ (by omega)
            obtain ⟨c0, c1, c2, c3, c4, cf⟩ := hx
            have zqz := hz
            clear cf hfine hrf hro hb
            go_upto_region 17 with (fail)
            go_region_held3 (fun W => W.cell? ⟨q, 0, none⟩ = some (.int .i64 P2.i) ∧ W.cell? ⟨q, 1, none⟩ = some (.int .i64 P2.t) ∧ W.cell? ⟨q, 2, none⟩ = some (.slice ja P2.nf jc) ∧ W.cell? ⟨q, 3, none⟩ = some (.slice ma P2.no mc) ∧ W.cell? ⟨q, 4, none⟩ = some (.int .i64 P2.s))
              (first | with_reducible exact ⟨c0, c1, c2, c3, c4⟩ | (go_simp; done) | go_keep)
              ((go_at_call 23; (with_reducible refine (count_any _ P2 _ (HVP3.out _ ?_)).mono ?_); (first | (with_reducible refine Below.drew ?_; with_reducible exact Below.refl _ _) | with_reducible exact Below.refl _ _); rintro e w10 ⟨rfl, hb⟩; have HB10 := Lib.hid (show Below wc.heap.size wc w10 from below_next (by with_reducible refine Below.drew ?_; with_reducible exact Below.refl _ _) hb); have c0 := ((bcell HB10.out).1 _ _ zqz).trans c0; have c1 := ((bcell HB10.out).1 _ _ zqz).trans c1; have c2 := ((bcell HB10.out).1 _ _ zqz).trans c2; have c3 := ((bcell HB10.out).1 _ _ zqz).trans c3; have c4 := ((bcell HB10.out).1 _ _ zqz).trans c4; have zqz := Nat.lt_of_lt_of_le zqz HB10.out.size; clear hb))
            all_goals go_wp2_with fail
            all_goals go_roundw
            case rel => exact ⟨k + 1, by omega, by go_num, P2, ja, jc, ma, mc, HFI3.out, HX9.out.below hz HB10.out, HR9.out.1.below HB10.out, HR9.out.2.below HB10.out, HB9.out.trans (HB10.out.mono HB9.out.size), zqz⟩
            case measure => simp [intOf]; omega
    · obtain rfl : k = ln := by omega
      go_wp2_with (go_at_call 14; (with_reducible refine (awake_any _).mono ?_); rintro e w6 ⟨rfl, hb⟩; have HB6 := Lib.hid (HBk.out.trans (hb.mono HBk.out.size)); clear hb)
      go_ret
      exact ⟨rfl, HB6.out⟩
end Go.Proofs.Ytmaijjjhjkaoeaa
