/- The contract of the reference's Take over the seat's program. -/
import Derived.Test.YtmaijjjhjkaoeaaPlM
namespace Go.Proofs.Ytmaijjjhjkaoeaa
open Go.ChangeShapes Go.WideShapes Go.ChangeAt Go.RowKit Go.Joins

theorem RowS.skip {s : Nat} {w : World} {b off n cap k : Nat} {f : Nat → Nat → Int} (h : RowS s w (some ⟨b, off, none⟩) n cap f) (hk : k ≤ n) : RowS s w (some ⟨b, off + k * s, none⟩) (n - k) (cap - k) (fun i j => f (k + i) j) := by
  obtain ⟨h1, h2, h3, h4⟩ := h
  refine ⟨Nat.le_trans (Nat.mul_le_mul_right _ (Nat.sub_le _ _)) h1, (fun h => by cases h), by omega, fun h0 => ?_⟩
  obtain ⟨b', off', ha, hb, hc⟩ := h4 (by omega)
  cases ha
  refine ⟨b, off + k * s, rfl, hb, fun i j hi hj => ?_⟩
  have := hc (k + i) j (by omega) hj
  rw [show off + k * s + i * s + j = off + (k + i) * s + j by rw [Nat.add_mul]; omega]
  exact this
def Apart (a : Option Addr) (p : Nat) : Prop := ∀ b off, a = some ⟨b, off, none⟩ → b ≠ p
theorem RowS.set_apart {s : Nat} {w : World} {a : Option Addr} {n cap p i : Nat} {f : Nat → Nat → Int} {x : Value} (h : RowS s w a n cap f) (hf : Apart a p) : RowS s (w.setCell ⟨p, i, none⟩ x) a n cap f := by
  obtain ⟨h1, h2, h3, h4⟩ := h
  refine ⟨h1, h2, h3, fun h0 => ?_⟩
  obtain ⟨b, off, ha, hb, hc⟩ := h4 h0
  have := hf b off ha
  exact ⟨b, off, ha, by simpa using hb, fun i j hi hj => by rw [cell_set_ne (.inl (by omega))]; exact hc i j hi hj⟩
theorem apart_store5 {s : Nat} {w : World} {a : Option Addr} {n cap p : Nat} {f : Nat → Nat → Int} {x0 x1 x2 x3 x4 : Value} (h : RowS s w a n cap f) (hf : Apart a p) : RowS s (store5 w p x0 x1 x2 x3 x4) a n cap f :=
  ((((h.set_apart hf).set_apart hf).set_apart hf).set_apart hf).set_apart hf
theorem own_apart {w : World} {B E s n cap p : Nat} {a : Option Addr} {xs : List Value} (h : w.ownsRow B E s (.slice a n cap) n xs) (hp : p < B ∨ w.heap.size ≤ p) : Apart a p := by
  intro b off ha
  have h1 := h.lt b (by rw [ha]; simp [Value.ownBlock])
  obtain ⟨h1, h2⟩ := h1
  rcases hp with hp | hp
  · omega
  · omega
theorem meas' {nf k : Nat} (hk : k + 1 ≤ nf) : nf - (intOf (.int .i64 ((k : Int) + 1))).toNat < nf - (intOf (.int .i64 (k : Int))).toNat := by
  simp [intOf]
  omega
theorem meas {nf k : Nat} (hw : wrap64 ((k : Int) + 1) = (k : Int) + 1) (hk : k + 1 ≤ nf) : nf - (intOf (.int .i64 (wrap64 ((k : Int) + 1)))).toNat < nf - (intOf (.int .i64 (k : Int))).toNat := by
  rw [hw]
  exact meas' hk
/-- What holds at the head of each round. -/
def RtRel (pi pt ps : Int) (nf no : Nat) (ff fo : Nat → Nat → Int) (fa oa ao : Option Addr) (fc oc co q : Nat) (R : PV × Bool) (tags : Int) (k : Nat) (w wr : World) : Prop :=
  ∃ n' a' c' ps', nf = k + n' ∧ PV.take ⟨pi, 0, n', fun i j => ff (k + i) j, no, fo, ps'⟩ tags = R ∧ Box wr w.heap.size (.int .i64 pi) (.int .i64 pt) (.slice fa nf fc) (.slice oa no oc) (.int .i64 ps) ∧ Box wr (w.heap.size + 1) (.int .i64 0) (.int .i64 0) (.slice none 0 0) (.slice none 0 0) (.int .i64 0) ∧ Box wr q (.int .i64 pi) (.int .i64 0) (.slice a' n' c') (.slice ao no co) (.int .i64 ps') ∧
    RowS 2 wr a' n' c' (fun i j => ff (k + i) j) ∧ RowS 3 wr ao no co fo ∧ Apart a' (w.heap.size + 1) ∧ Apart a' q ∧ Below w.heap.size w wr ∧ q < wr.heap.size

set_option maxRecDepth 100000 in
set_option maxHeartbeats 6400000 in
theorem rtake_any (v : Value) (P : PV) (tags : Int) (w : World) (h : PoolAt w v P) : Calls Try.prog 10 #[v, .int .i64 tags] w (RetTake (P.take tags) w) := by
  have HP := Lib.hid (fun W hb => (h.below hb : PoolAt W v P))
  obtain ⟨fa, fc, oa, oc, rfl, hf, ho⟩ := h
  obtain ⟨R, hR⟩ : ∃ R, P.take tags = R := ⟨_, rfl⟩
  obtain ⟨pi, pt, nf, ff, no, fo, ps⟩ := P
  dsimp only at HP hR hf ho ⊢
  rw [hR]
  have HRE := Lib.hid hR
  have HF := Lib.hid (fun W hb => (hf.below hb : RowS 2 W fa nf fc ff))
  have HN := Lib.hid (And.intro hf.1 ho.1)
  clear hR hf ho
  have HB0 := Lib.hid (show Below w.heap.size w ((w.alloc (.cells #[.int .i64 pi, .int .i64 pt, .slice fa nf fc, .slice oa no oc, .int .i64 ps] 27)).alloc (.cells #[.int .i64 0, .int .i64 0, .slice none 0 0, .slice none 0 0, .int .i64 0] 27)) from ((Below.refl _ _).alloc (Nat.le_refl _) _).alloc (by simp) _)
  have HX := Lib.hid (show Box ((w.alloc (.cells #[.int .i64 pi, .int .i64 pt, .slice fa nf fc, .slice oa no oc, .int .i64 ps] 27)).alloc (.cells #[.int .i64 0, .int .i64 0, .slice none 0 0, .slice none 0 0, .int .i64 0] 27)) w.heap.size (.int .i64 pi) (.int .i64 pt) (.slice fa nf fc) (.slice oa no oc) (.int .i64 ps) from (Box.new w _).below (by simp) ((Below.refl _ _).alloc (Nat.le_refl _) _))
  have HY := Lib.hid (show Box ((w.alloc (.cells #[.int .i64 pi, .int .i64 pt, .slice fa nf fc, .slice oa no oc, .int .i64 ps] 27)).alloc (.cells #[.int .i64 0, .int .i64 0, .slice none 0 0, .slice none 0 0, .int .i64 0] 27)) (w.heap.size + 1) (.int .i64 0) (.int .i64 0) (.slice none 0 0) (.slice none 0 0) (.int .i64 0) from by have := Box.new (a := .int .i64 0) (b := .int .i64 0) (c := .slice none 0 0) (d := .slice none 0 0) (e := .int .i64 0) (w.alloc (.cells #[.int .i64 pi, .int .i64 pt, .slice fa nf fc, .slice oa no oc, .int .i64 ps] 27)) 27; simpa using this)
  go_enter Try.func10, Try.ntmps10
  go_wp2_with fail
  refine (rcopy_any _ _ _ (HP.out _ HB0.out)).mono ?_
  rintro e w1 ⟨fv, ov, rfl, ho, hb⟩
  obtain ⟨af, cf, rfl⟩ := own_form ho.1
  obtain ⟨ao, co, rfl⟩ := own_form ho.2.1
  have hz := size2 hb
  have HO := Lib.hid ho
  have HB := Lib.hid (HB0.out.trans (hb.mono HB0.out.size))
  have hx := HX.out.below (by simp; omega) hb
  have hy := HY.out.below (by simp) hb
  clear ho hb HX HY HB0
  dsimp only at HO ⊢
  go_upto_region 2 with (fail)
  have hA : Below w1.heap.size w1 (w1.alloc (.cells #[.int .i64 pi, .int .i64 pt, .slice af nf cf, .slice ao no co, .int .i64 ps] 27)) := (Below.refl _ _).alloc (Nat.le_refl _) _
  refine abstract_code (fun u => Box u w.heap.size (.int .i64 pi) (.int .i64 pt) (.slice fa nf fc) (.slice oa no oc) (.int .i64 ps) ∧ Box u (w.heap.size + 1) (.int .i64 0) (.int .i64 0) (.slice none 0 0) (.slice none 0 0) (.int .i64 0) ∧ Box u w1.heap.size (.int .i64 pi) (.int .i64 pt) (.slice af nf cf) (.slice ao no co) (.int .i64 ps) ∧ RowS 2 u af nf cf ff ∧ RowS 3 u ao no co fo ∧ Apart af (w.heap.size + 1) ∧ Apart af w1.heap.size ∧ Apart ao (w.heap.size + 1) ∧ Apart ao w1.heap.size ∧ Below w.heap.size w u ∧ w1.heap.size < u.heap.size) ⟨hx.below (by omega) hA, hy.below (by omega) hA, Box.new w1 _, ?_, ?_, own_apart HO.out.1 (.inl (by simp)), own_apart HO.out.1 (.inr (Nat.le_refl _)), own_apart HO.out.2.1 (.inl (by simp)), own_apart HO.out.2.1 (.inr (Nat.le_refl _)), HB.out.trans (hA.mono HB.out.size), by simp⟩ ?_
  · obtain ⟨x, y, hv, hr⟩ := RowS.of (f := ff) HN.out.1 HO.out.1
    cases hv
    exact hr.below hA
  · obtain ⟨x, y, hv, hr⟩ := RowS.of (f := fo) HN.out.2 HO.out.2.1
    cases hv
    exact hr.below hA
  clear hA hx hy HO HB
  rintro u ⟨hx, hy, hq, hrf, hro, ap1, ap2, ap3, ap4, hb, zq⟩
  have HX := Lib.hid hx
  have HY := Lib.hid hy
  have HQ := Lib.hid hq
  have HRF := Lib.hid hrf
  have HRO := Lib.hid hro
  have HAP := Lib.hid (And.intro ap1 (And.intro ap2 (And.intro ap3 ap4)))
  have HB := Lib.hid hb
  generalize w1.heap.size = q at *
  clear hx hy hrf hro ap1 ap2 ap3 ap4 hb
  obtain ⟨c0, c1, c2, c3, c4, cf⟩ := hq
  have cf0 := cf 0
  have cf1 := cf 1
  have cf2 := cf 2
  have cf3 := cf 3
  have cf4 := cf 4
  clear cf
  by_cases ht : pt = 0
  · subst ht
    obtain ⟨d0, d1, d2, d3, d4, df⟩ := HX.out
    clear df
    go_wp2_with fail
    go_loopw [21] (fun i wr => ∃ k : Nat, k ≤ nf ∧ i = .int .i64 k ∧ RtRel pi 0 ps nf no ff fo fa oa ao fc oc co q R tags k w wr) (fun i _ => nf - (intOf i).toNat)
    case atStart =>
      exact ⟨0, Nat.zero_le _, rfl, nf, af, cf, ps, (Nat.zero_add _).symm, by simpa using HRE.out, HX.out, HY.out, HQ.out, by simpa using HRF.out, HRO.out, HAP.out.1, HAP.out.2.1, HB.out, zq⟩
    case round =>
      obtain ⟨k, hk, rfl, n', a', c', ps', hkn, hR, hx, hy, hq, hrf, hro, ap1, ap2, hb, zr⟩ := hrel
      have HXk := Lib.hid hx
      have HYk := Lib.hid hy
      have HQk := Lib.hid hq
      have HRFk := Lib.hid hrf
      have HROk := Lib.hid hro
      have HAPk := Lib.hid (And.intro ap1 ap2)
      have HBk := Lib.hid hb
      have HREk := Lib.hid hR
      have y0 : w.heap.size < wr.heap.size := by omega
      have y1 : w.heap.size + 1 < wr.heap.size := by omega
      clear c0 c1 c2 c3 c4 cf0 cf1 cf2 cf3 cf4 d0 d1 d2 d3 d4 hrf hro ap1 ap2 hb hR
      obtain ⟨c0, c1, c2, c3, c4, cf⟩ := hq
      have cf0 := cf 0
      have cf1 := cf 1
      have cf2 := cf 2
      have cf3 := cf 3
      have cf4 := cf 4
      clear cf
      obtain ⟨d0, d1, d2, d3, d4, df⟩ := hx
      clear df
      cases n' with
      | zero =>
        obtain rfl : nf = k := by omega
        clear hkn hk
        obtain ⟨g0, g1, g2, g3, g4, gf⟩ := hy
        have gf0 := gf 0
        have gf1 := gf 1
        have gf2 := gf 2
        have gf3 := gf 3
        have gf4 := gf 4
        clear gf
        go_wp2_with fail
        refine bodyPost_ret (v := .tuple #[.agg #[.int .i64 pi, .int .i64 0, .slice a' 0 c', .slice ao no co, .int .i64 ps'], .bool false]) ?_ rfl ?_
        · simp only [results, Try.results10]; go_simp
        · rw [show R = _ from HREk.out.symm.trans take_zero]
          exact ⟨_, rfl, ⟨a', c', ao, co, rfl, apart_store5 HRFk.out HAPk.out.1, apart_store5 HROk.out HAP.out.2.2.1⟩, store5_below HBk.out (by omega)⟩
      | succ m =>
        have hk1 : (k : Int) < nf := by omega
        have hnb := HN.out.1
        have hw : wrap64 ((k : Int) + 1) = (k : Int) + 1 := by unfold wrap64; omega
        have ht1 : ((k : Int) + 1).toNat = k + 1 := by omega
        have j2 : (k : Int) + 1 ≤ nf := by omega
        have j3 : nf - (k + 1) = m := by omega
        have j4 : ¬ ((k : Int) + 1 < 0) := by omega
        have j5 : k + 1 ≤ nf := by omega
        clear hnb
        obtain ⟨b, off, rfl, hbb, hcc⟩ := (HF.out wr HBk.out).get (show k < nf by omega)
        have x0 : wr.cell? ⟨b, off + k * 2, none⟩ = some (.int .i64 (ff k 0)) := by simpa using hcc k 0 (by omega) (by omega)
        have x1 := hcc k 1 (by omega) (by omega)
        have hfc := (HF.out wr HBk.out).2.2.1
        clear hcc
        have HKN := Lib.hid hkn
        clear hkn
        by_cases hfc1 : fc = k + 1
        · subst hfc1
          obtain rfl : m = 0 := by omega
          have HBD := Lib.hid (show 0 * (2 * 8) ≤ 140737488355328 by omega)
          have HSK := Lib.hid (fun W (_ : Below wr.heap.size wr W) => (RowS.none_left rfl : RowS 2 W (some ⟨b, off, none⟩) 0 0 (fun i j => ff (k + 1 + i) j)))
          have HFE := Lib.hid (show (fun i j => ff (k + (i + 1)) j) = fun i j => ff (k + 1 + i) j from by funext i j; rw [show k + (i + 1) = k + 1 + i by omega])
          cases hok : nOk (ff k 0) (ff k 1) tags
          · have HOK := Lib.hid hok
            clear hok
            have HRN := Lib.hid (show PV.take ⟨pi, 0, 0, fun i j => ff (k + 1 + i) j, no, fo, wrap64 (ps' + 1)⟩ tags = R from by
              have h := (take_no (pi := pi) (n := 0) (ff := fun i j => ff (k + i) j) (fo := fo) (no := no) (ps := ps') (tags := tags) HOK.out).symm.trans HREk.out
              rw [← HFE.out]
              exact h)
            go_wp2_with (first
              | (go_at_call 32; (with_reducible refine (rcopy_slot_any _ _ _ (fun i j => ff (k + 1 + i) j) _ (HSK.out _ ((Below.refl _ _).alloc (Nat.le_refl _) _))).mono ?_); rintro e w3 ⟨v3, rfl, ho3, hb3⟩; clear c3; obtain ⟨a3, c3, rfl⟩ := own_form ho3; have hA := (Below.refl wr.heap.size wr).alloc (Nat.le_refl _) (.cells #[.int .i64 (ff k 0), .int .i64 (ff k 1)] 57); have HX3 := Lib.hid ((HXk.out.below y0 hA).below (by simp; omega) hb3); have HY3 := Lib.hid ((HYk.out.below y1 hA).below (by simp; omega) hb3); have HQ3 := Lib.hid ((HQk.out.below zr hA).below (by simp; omega) hb3); have e0 : w3.cell? ⟨wr.heap.size, 0, none⟩ = some (.int .i64 (ff k 0)) := ((bcell hb3).1 _ _ (by simp)).trans (by go_simp); have e1 : w3.cell? ⟨wr.heap.size, 1, none⟩ = some (.int .i64 (ff k 1)) := ((bcell hb3).1 _ _ (by simp)).trans (by go_simp); have HR3 := Lib.hid (show RowS 2 w3 a3 0 c3 (fun i j => ff (k + 1 + i) j) from by (obtain ⟨x, y, hv, hr⟩ := RowS.of (f := fun i j => ff (k + 1 + i) j) HBD.out ho3; cases hv; exact hr)); have AP1 := Lib.hid (own_apart (p := w.heap.size + 1) ho3 (.inl (by simp; omega))); have AP2 := Lib.hid (own_apart (p := q) ho3 (.inl (by simp; omega))); have HRO3 := Lib.hid ((HROk.out.below hA).below hb3); have HB3 := Lib.hid ((HBk.out.alloc (Nat.le_of_lt y0) (.cells #[.int .i64 (ff k 0), .int .i64 (ff k 1)] 57)).trans (hb3.mono (by simp; omega))); have s3 := size1 hb3; clear hb3 ho3 hA c0 c1 c2 c4 cf0 cf1 cf2 cf3 cf4 d0 d1 d2 d3 d4 x0 x1; obtain ⟨c0, c1, c2, c3', c4, cf⟩ := HQ3.out; have cf0 := cf 0; have cf1 := cf 1; have cf2 := cf 2; have cf3 := cf 3; have cf4 := cf 4; clear cf)
              | (go_at_call 37; go_loud ((with_reducible refine (rnext_no HOK.out _).mono ?_); rintro e w4 ⟨rfl, hb4⟩; have HX4 := Lib.hid ((HX3.out.set_far (by omega)).below (by simp; omega) hb4); have HY4 := Lib.hid ((HY3.out.set_far (by omega)).below (by simp; omega) hb4); have HQ4 := Lib.hid ((HQ3.out.set2 _).below (by simp; omega) hb4); have HR4 := Lib.hid ((HR3.out.set_apart AP2.out).below hb4); have HRO4 := Lib.hid ((HRO3.out.set_apart HAP.out.2.2.2).below hb4); have HB4 := Lib.hid ((HB3.out.setCell (show w.heap.size ≤ q by omega) _).trans (hb4.mono (by simp; omega))); have s4 : w3.heap.size ≤ w4.heap.size := (by have := hb4.size; simpa using this); clear hb4 c0 c1 c2 c3' c4 cf0 cf1 cf2 cf3 cf4 e0 e1; have t4 : q < w4.heap.size := (by omega); have t5 : w.heap.size + 1 < w4.heap.size := (by omega); obtain ⟨c0, c1, c2, c3', c4, cf⟩ := HQ4.out; have cf0 := cf 0; have cf1 := cf 1; have cf2 := cf 2; have cf3 := cf 3; have cf4 := cf 4; clear cf; obtain ⟨g0, g1, g2, g3, g4, gf⟩ := HY4.out; have gf0 := gf 0; have gf1 := gf 1; have gf2 := gf 2; have gf3 := gf 3; have gf4 := gf 4; clear gf)))
            go_roundw
            case rel => exact ⟨k + 1, by omega, by go_num, 0, a3, c3, wrap64 (ps' + 1), (by have := HKN.out; omega), HRN.out, (HX4.out.set_far (by omega)).alloc (by simp; omega) _, (HY4.out.set_far (by omega)).alloc (by simp; omega) _, (HQ4.out.set4 _).alloc (by simpa using t4) _, (HR4.out.set_apart AP2.out).alloc _, (HRO4.out.set_apart HAP.out.2.2.2).alloc _, AP1.out, AP2.out, (HB4.out.setCell (show w.heap.size ≤ q by omega) _).alloc (by simp; omega) _, by simp; omega⟩
            case measure => first | with_reducible exact meas hw j5 | with_reducible exact meas' j5
          · have HOK := Lib.hid hok
            clear hok
            have HRY := Lib.hid (show ((⟨ff k 0, ff k 1 + 1, 0, fun i j => ff (k + 1 + i) j, no, fo, ps'⟩, true) : PV × Bool) = R from by
              have h := (take_yes (pi := pi) (n := 0) (ff := fun i j => ff (k + i) j) (fo := fo) (no := no) (ps := ps') (tags := tags) HOK.out).symm.trans HREk.out
              rw [← h, ← HFE.out]
              rfl)
            go_wp2_with (first
              | (go_at_call 32; (with_reducible refine (rcopy_slot_any _ _ _ (fun i j => ff (k + 1 + i) j) _ (HSK.out _ ((Below.refl _ _).alloc (Nat.le_refl _) _))).mono ?_); rintro e w3 ⟨v3, rfl, ho3, hb3⟩; clear c3; obtain ⟨a3, c3, rfl⟩ := own_form ho3; have hA := (Below.refl wr.heap.size wr).alloc (Nat.le_refl _) (.cells #[.int .i64 (ff k 0), .int .i64 (ff k 1)] 57); have HX3 := Lib.hid ((HXk.out.below y0 hA).below (by simp; omega) hb3); have HY3 := Lib.hid ((HYk.out.below y1 hA).below (by simp; omega) hb3); have HQ3 := Lib.hid ((HQk.out.below zr hA).below (by simp; omega) hb3); have e0 : w3.cell? ⟨wr.heap.size, 0, none⟩ = some (.int .i64 (ff k 0)) := ((bcell hb3).1 _ _ (by simp)).trans (by go_simp); have e1 : w3.cell? ⟨wr.heap.size, 1, none⟩ = some (.int .i64 (ff k 1)) := ((bcell hb3).1 _ _ (by simp)).trans (by go_simp); have HR3 := Lib.hid (show RowS 2 w3 a3 0 c3 (fun i j => ff (k + 1 + i) j) from by (obtain ⟨x, y, hv, hr⟩ := RowS.of (f := fun i j => ff (k + 1 + i) j) HBD.out ho3; cases hv; exact hr)); have AP1 := Lib.hid (own_apart (p := w.heap.size + 1) ho3 (.inl (by simp; omega))); have AP2 := Lib.hid (own_apart (p := q) ho3 (.inl (by simp; omega))); have HRO3 := Lib.hid ((HROk.out.below hA).below hb3); have HB3 := Lib.hid ((HBk.out.alloc (Nat.le_of_lt y0) (.cells #[.int .i64 (ff k 0), .int .i64 (ff k 1)] 57)).trans (hb3.mono (by simp; omega))); have s3 := size1 hb3; clear hb3 ho3 hA c0 c1 c2 c4 cf0 cf1 cf2 cf3 cf4 d0 d1 d2 d3 d4 x0 x1; obtain ⟨c0, c1, c2, c3', c4, cf⟩ := HQ3.out; have cf0 := cf 0; have cf1 := cf 1; have cf2 := cf 2; have cf3 := cf 3; have cf4 := cf 4; clear cf)
              | (go_at_call 37; go_loud ((with_reducible refine (rnext_yes HOK.out _).mono ?_); rintro e w4 ⟨rfl, hb4⟩; have HX4 := Lib.hid ((HX3.out.set_far (by omega)).below (by simp; omega) hb4); have HY4 := Lib.hid ((HY3.out.set_far (by omega)).below (by simp; omega) hb4); have HQ4 := Lib.hid ((HQ3.out.set2 _).below (by simp; omega) hb4); have HR4 := Lib.hid ((HR3.out.set_apart AP2.out).below hb4); have HRO4 := Lib.hid ((HRO3.out.set_apart HAP.out.2.2.2).below hb4); have HB4 := Lib.hid ((HB3.out.setCell (show w.heap.size ≤ q by omega) _).trans (hb4.mono (by simp; omega))); have s4 : w3.heap.size ≤ w4.heap.size := (by have := hb4.size; simpa using this); clear hb4 c0 c1 c2 c3' c4 cf0 cf1 cf2 cf3 cf4 e0 e1; have t4 : q < w4.heap.size := (by omega); have t5 : w.heap.size + 1 < w4.heap.size := (by omega); obtain ⟨c0, c1, c2, c3', c4, cf⟩ := HQ4.out; have cf0 := cf 0; have cf1 := cf 1; have cf2 := cf 2; have cf3 := cf 3; have cf4 := cf 4; clear cf; obtain ⟨g0, g1, g2, g3, g4, gf⟩ := HY4.out; have gf0 := gf 0; have gf1 := gf 1; have gf2 := gf 2; have gf3 := gf 3; have gf4 := gf 4; clear gf)))
            refine bodyPost_ret (v := .tuple #[.agg #[.int .i64 (ff k 0), .int .i64 (ff k 1 + 1), .slice a3 0 c3, .slice ao no co, .int .i64 ps'], .bool true]) ?_ rfl ?_
            · simp only [results, Try.results10]; go_simp
            · rw [← HRY.out]
              exact ⟨_, rfl, ⟨a3, c3, ao, co, rfl, (apart_store5 ((HR4.out.set_apart AP2.out).set_apart AP2.out) AP1.out).alloc _, (apart_store5 ((HRO4.out.set_apart HAP.out.2.2.2).set_apart HAP.out.2.2.2) HAP.out.2.2.1).alloc _⟩, (store5_below ((HB4.out.setCell (show w.heap.size ≤ q by omega) _).setCell (show w.heap.size ≤ q by omega) _) (by omega)).alloc (by simp [store5_size]; omega) _⟩
        · have j1 : (k : Int) + 1 < fc := by omega
          have j6 : (k : Int) + 1 ≤ fc := by omega
          have j7 : k + 1 < fc := by omega
          have j8 : ¬ (fc - (k + 1) = 0) := by omega
          have HBD := Lib.hid (show m * (2 * 8) ≤ 140737488355328 by have := HN.out.1; omega)
          have HSK := Lib.hid (fun W (hW : Below wr.heap.size wr W) => (by have h := (HF.out W (HBk.out.trans (hW.mono (Nat.le_of_lt y0)))).skip j5; rw [j3] at h; exact h : RowS 2 W (some ⟨b, off + (k + 1) * 2, none⟩) m (fc - (k + 1)) (fun i j => ff (k + 1 + i) j)))
          have HFE := Lib.hid (show (fun i j => ff (k + (i + 1)) j) = fun i j => ff (k + 1 + i) j from by funext i j; rw [show k + (i + 1) = k + 1 + i by omega])
          cases hok : nOk (ff k 0) (ff k 1) tags
          · have HOK := Lib.hid hok
            clear hok
            have HRN := Lib.hid (show PV.take ⟨pi, 0, m, fun i j => ff (k + 1 + i) j, no, fo, wrap64 (ps' + 1)⟩ tags = R from by
              have h := (take_no (pi := pi) (n := m) (ff := fun i j => ff (k + i) j) (fo := fo) (no := no) (ps := ps') (tags := tags) HOK.out).symm.trans HREk.out
              rw [← HFE.out]
              exact h)
            go_wp2_with (first
              | (go_at_call 32; (with_reducible refine (rcopy_slot_any _ _ _ (fun i j => ff (k + 1 + i) j) _ (HSK.out _ ((Below.refl _ _).alloc (Nat.le_refl _) _))).mono ?_); rintro e w3 ⟨v3, rfl, ho3, hb3⟩; clear c3; obtain ⟨a3, c3, rfl⟩ := own_form ho3; have hA := (Below.refl wr.heap.size wr).alloc (Nat.le_refl _) (.cells #[.int .i64 (ff k 0), .int .i64 (ff k 1)] 57); have HX3 := Lib.hid ((HXk.out.below y0 hA).below (by simp; omega) hb3); have HY3 := Lib.hid ((HYk.out.below y1 hA).below (by simp; omega) hb3); have HQ3 := Lib.hid ((HQk.out.below zr hA).below (by simp; omega) hb3); have e0 : w3.cell? ⟨wr.heap.size, 0, none⟩ = some (.int .i64 (ff k 0)) := ((bcell hb3).1 _ _ (by simp)).trans (by go_simp); have e1 : w3.cell? ⟨wr.heap.size, 1, none⟩ = some (.int .i64 (ff k 1)) := ((bcell hb3).1 _ _ (by simp)).trans (by go_simp); have HR3 := Lib.hid (show RowS 2 w3 a3 m c3 (fun i j => ff (k + 1 + i) j) from by (obtain ⟨x, y, hv, hr⟩ := RowS.of (f := fun i j => ff (k + 1 + i) j) HBD.out ho3; cases hv; exact hr)); have AP1 := Lib.hid (own_apart (p := w.heap.size + 1) ho3 (.inl (by simp; omega))); have AP2 := Lib.hid (own_apart (p := q) ho3 (.inl (by simp; omega))); have HRO3 := Lib.hid ((HROk.out.below hA).below hb3); have HB3 := Lib.hid ((HBk.out.alloc (Nat.le_of_lt y0) (.cells #[.int .i64 (ff k 0), .int .i64 (ff k 1)] 57)).trans (hb3.mono (by simp; omega))); have s3 := size1 hb3; clear hb3 ho3 hA c0 c1 c2 c4 cf0 cf1 cf2 cf3 cf4 d0 d1 d2 d3 d4 x0 x1; obtain ⟨c0, c1, c2, c3', c4, cf⟩ := HQ3.out; have cf0 := cf 0; have cf1 := cf 1; have cf2 := cf 2; have cf3 := cf 3; have cf4 := cf 4; clear cf)
              | (go_at_call 37; go_loud ((with_reducible refine (rnext_no HOK.out _).mono ?_); rintro e w4 ⟨rfl, hb4⟩; have HX4 := Lib.hid ((HX3.out.set_far (by omega)).below (by simp; omega) hb4); have HY4 := Lib.hid ((HY3.out.set_far (by omega)).below (by simp; omega) hb4); have HQ4 := Lib.hid ((HQ3.out.set2 _).below (by simp; omega) hb4); have HR4 := Lib.hid ((HR3.out.set_apart AP2.out).below hb4); have HRO4 := Lib.hid ((HRO3.out.set_apart HAP.out.2.2.2).below hb4); have HB4 := Lib.hid ((HB3.out.setCell (show w.heap.size ≤ q by omega) _).trans (hb4.mono (by simp; omega))); have s4 : w3.heap.size ≤ w4.heap.size := (by have := hb4.size; simpa using this); clear hb4 c0 c1 c2 c3' c4 cf0 cf1 cf2 cf3 cf4 e0 e1; have t4 : q < w4.heap.size := (by omega); have t5 : w.heap.size + 1 < w4.heap.size := (by omega); obtain ⟨c0, c1, c2, c3', c4, cf⟩ := HQ4.out; have cf0 := cf 0; have cf1 := cf 1; have cf2 := cf 2; have cf3 := cf 3; have cf4 := cf 4; clear cf; obtain ⟨g0, g1, g2, g3, g4, gf⟩ := HY4.out; have gf0 := gf 0; have gf1 := gf 1; have gf2 := gf 2; have gf3 := gf 3; have gf4 := gf 4; clear gf)))
            go_roundw
            case rel => exact ⟨k + 1, by omega, by go_num, m, a3, c3, wrap64 (ps' + 1), (by have := HKN.out; omega), HRN.out, (HX4.out.set_far (by omega)).alloc (by simp; omega) _, (HY4.out.set_far (by omega)).alloc (by simp; omega) _, (HQ4.out.set4 _).alloc (by simpa using t4) _, (HR4.out.set_apart AP2.out).alloc _, (HRO4.out.set_apart HAP.out.2.2.2).alloc _, AP1.out, AP2.out, (HB4.out.setCell (show w.heap.size ≤ q by omega) _).alloc (by simp; omega) _, by simp; omega⟩
            case measure => first | with_reducible exact meas hw j5 | with_reducible exact meas' j5
          · have HOK := Lib.hid hok
            clear hok
            have HRY := Lib.hid (show ((⟨ff k 0, ff k 1 + 1, m, fun i j => ff (k + 1 + i) j, no, fo, ps'⟩, true) : PV × Bool) = R from by
              have h := (take_yes (pi := pi) (n := m) (ff := fun i j => ff (k + i) j) (fo := fo) (no := no) (ps := ps') (tags := tags) HOK.out).symm.trans HREk.out
              rw [← h, ← HFE.out]
              rfl)
            go_wp2_with (first
              | (go_at_call 32; (with_reducible refine (rcopy_slot_any _ _ _ (fun i j => ff (k + 1 + i) j) _ (HSK.out _ ((Below.refl _ _).alloc (Nat.le_refl _) _))).mono ?_); rintro e w3 ⟨v3, rfl, ho3, hb3⟩; clear c3; obtain ⟨a3, c3, rfl⟩ := own_form ho3; have hA := (Below.refl wr.heap.size wr).alloc (Nat.le_refl _) (.cells #[.int .i64 (ff k 0), .int .i64 (ff k 1)] 57); have HX3 := Lib.hid ((HXk.out.below y0 hA).below (by simp; omega) hb3); have HY3 := Lib.hid ((HYk.out.below y1 hA).below (by simp; omega) hb3); have HQ3 := Lib.hid ((HQk.out.below zr hA).below (by simp; omega) hb3); have e0 : w3.cell? ⟨wr.heap.size, 0, none⟩ = some (.int .i64 (ff k 0)) := ((bcell hb3).1 _ _ (by simp)).trans (by go_simp); have e1 : w3.cell? ⟨wr.heap.size, 1, none⟩ = some (.int .i64 (ff k 1)) := ((bcell hb3).1 _ _ (by simp)).trans (by go_simp); have HR3 := Lib.hid (show RowS 2 w3 a3 m c3 (fun i j => ff (k + 1 + i) j) from by (obtain ⟨x, y, hv, hr⟩ := RowS.of (f := fun i j => ff (k + 1 + i) j) HBD.out ho3; cases hv; exact hr)); have AP1 := Lib.hid (own_apart (p := w.heap.size + 1) ho3 (.inl (by simp; omega))); have AP2 := Lib.hid (own_apart (p := q) ho3 (.inl (by simp; omega))); have HRO3 := Lib.hid ((HROk.out.below hA).below hb3); have HB3 := Lib.hid ((HBk.out.alloc (Nat.le_of_lt y0) (.cells #[.int .i64 (ff k 0), .int .i64 (ff k 1)] 57)).trans (hb3.mono (by simp; omega))); have s3 := size1 hb3; clear hb3 ho3 hA c0 c1 c2 c4 cf0 cf1 cf2 cf3 cf4 d0 d1 d2 d3 d4 x0 x1; obtain ⟨c0, c1, c2, c3', c4, cf⟩ := HQ3.out; have cf0 := cf 0; have cf1 := cf 1; have cf2 := cf 2; have cf3 := cf 3; have cf4 := cf 4; clear cf)
              | (go_at_call 37; go_loud ((with_reducible refine (rnext_yes HOK.out _).mono ?_); rintro e w4 ⟨rfl, hb4⟩; have HX4 := Lib.hid ((HX3.out.set_far (by omega)).below (by simp; omega) hb4); have HY4 := Lib.hid ((HY3.out.set_far (by omega)).below (by simp; omega) hb4); have HQ4 := Lib.hid ((HQ3.out.set2 _).below (by simp; omega) hb4); have HR4 := Lib.hid ((HR3.out.set_apart AP2.out).below hb4); have HRO4 := Lib.hid ((HRO3.out.set_apart HAP.out.2.2.2).below hb4); have HB4 := Lib.hid ((HB3.out.setCell (show w.heap.size ≤ q by omega) _).trans (hb4.mono (by simp; omega))); have s4 : w3.heap.size ≤ w4.heap.size := (by have := hb4.size; simpa using this); clear hb4 c0 c1 c2 c3' c4 cf0 cf1 cf2 cf3 cf4 e0 e1; have t4 : q < w4.heap.size := (by omega); have t5 : w.heap.size + 1 < w4.heap.size := (by omega); obtain ⟨c0, c1, c2, c3', c4, cf⟩ := HQ4.out; have cf0 := cf 0; have cf1 := cf 1; have cf2 := cf 2; have cf3 := cf 3; have cf4 := cf 4; clear cf; obtain ⟨g0, g1, g2, g3, g4, gf⟩ := HY4.out; have gf0 := gf 0; have gf1 := gf 1; have gf2 := gf 2; have gf3 := gf 3; have gf4 := gf 4; clear gf)))
            refine bodyPost_ret (v := .tuple #[.agg #[.int .i64 (ff k 0), .int .i64 (ff k 1 + 1), .slice a3 m c3, .slice ao no co, .int .i64 ps'], .bool true]) ?_ rfl ?_
            · simp only [results, Try.results10]; go_simp
            · rw [← HRY.out]
              exact ⟨_, rfl, ⟨a3, c3, ao, co, rfl, (apart_store5 ((HR4.out.set_apart AP2.out).set_apart AP2.out) AP1.out).alloc _, (apart_store5 ((HRO4.out.set_apart HAP.out.2.2.2).set_apart HAP.out.2.2.2) HAP.out.2.2.1).alloc _⟩, (store5_below ((HB4.out.setCell (show w.heap.size ≤ q by omega) _).setCell (show w.heap.size ≤ q by omega) _) (by omega)).alloc (by simp [store5_size]; omega) _⟩
  · have e1 : (pt != 0) = true := by simp [ht]
    obtain ⟨g0, g1, g2, g3, g4, gf⟩ := HY.out
    have gf0 := gf 0
    have gf1 := gf 1
    have gf2 := gf 2
    have gf3 := gf 3
    have gf4 := gf 4
    clear gf
    go_wp2_with fail
    refine bodyPost_ret (v := .tuple #[.agg #[.int .i64 pi, .int .i64 pt, .slice af nf cf, .slice ao no co, .int .i64 ps], .bool true]) ?_ rfl ?_
    · simp only [results, Try.results10]; go_simp
    · rw [show R = _ from HRE.out.symm.trans (take_own ht)]
      exact ⟨_, rfl, ⟨af, cf, ao, co, rfl, apart_store5 HRF.out HAP.out.1, apart_store5 HRO.out HAP.out.2.2.1⟩, store5_below HB.out (by omega)⟩
end Go.Proofs.Ytmaijjjhjkaoeaa
