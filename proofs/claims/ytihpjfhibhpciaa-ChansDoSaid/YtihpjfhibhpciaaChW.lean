/- The contract of the reference's Do where a call that waits is met, over the seat's program. -/
import Derived.Test.YtihpjfhibhpciaaChV
namespace Go.Proofs.Ytihpjfhibhpciaa
open Go.ChangeShapes Go.WideShapes Go.ChangeAt Go.RowKit Go.Joins

theorem cell_both {w w' : World} {p o : Nat} {x y : Value} (h : w'.cell? ⟨p, o, none⟩ = w.cell? ⟨p, o, none⟩) (hy : w.cell? ⟨p, o, none⟩ = some y) : (w'.setCell ⟨p, o, none⟩ x).cell? ⟨p, o, none⟩ = (w.setCell ⟨p, o, none⟩ x).cell? ⟨p, o, none⟩ := by
  rw [World.cell?_setCell_same _ _ _ hy, World.cell?_setCell_same _ _ _ (h.trans hy)]
theorem Agree.both {U p o : Nat} {w w' : World} {x y : Value} (h : Agree U w w') (hU : U ≤ p) (hp : p < w.heap.size) (hy : w.cell? ⟨p, o, none⟩ = some y) : Agree U (w.setCell ⟨p, o, none⟩ x) (w'.setCell ⟨p, o, none⟩ x) := by
  refine ⟨by simpa using h.1, fun q o' h1 h2 => ?_⟩
  have h2' : q < w.heap.size := by simpa using h2
  refine ⟨?_, by simpa using (h.2 q o' h1 h2').2⟩
  by_cases e : p = q ∧ o = o'
  · obtain ⟨rfl, rfl⟩ := e
    exact cell_both (h.2 p o hU hp).1 hy
  · have ne : p ≠ q ∨ o ≠ o' := by
      by_cases e1 : p = q
      · exact .inr (fun e2 => e ⟨e1, e2⟩)
      · exact .inl e1
    rw [cell_set_ne ne, cell_set_ne ne]
    exact (h.2 q o' h1 h2').1
section
variable {W v v' wz : World} {C1 : CH} {U D : Nat} {ba : Option Addr} {bc : Nat} {L : Value} {rv : Int} {m : Nat} {T : Nat → Nat → Int} {ta : Option Addr} {tc : Nat}
theorem RMid.set10 (h : RMid W v wz C1 U D ba bc L rv m T ta tc) {m' : Nat} {T' : Nat → Nat → Int} {ta' : Option Addr} {tc' : Nat} (ht : FarT (D + 1) v ta' m' tc' T') : RMid W (v.setCell ⟨D, 10, none⟩ (.slice ta' m' tc')) wz C1 U D ba bc L rv m' T' ta' tc' :=
  ⟨h.ret.imp fun _ g => g.far (by have := h.lt; omega), h.got.set10 _, h.row.set (fun e => by have := h.lt; omega), h.agr.set_new (Nat.le_of_eq h.lt.2.1), ht.agree (Agree.set (by omega)), h.bel.setCell (by have := h.lt; show _ ≤ D; omega) _, by simpa using h.lt.1, h.lt.2.1, h.lt.2.2.1, h.lt.2.2.2⟩
theorem RMid.zero (h : RMid W v wz C1 U D ba bc L rv m T ta tc) {gd o : Nat} {a b c d : Value} (h1 : U ≤ gd) (h2 : gd < D) (hc : ∀ j, j < 4 → ∃ y, wz.cell? ⟨gd, o + j, none⟩ = some y) : RMid W (store4 v gd o a b c d) (store4 wz gd o a b c d) C1 U D ba bc L rv m T ta tc := by
  have hl := h.lt
  obtain ⟨y0, e0⟩ := hc 0 (by omega)
  obtain ⟨y1, e1⟩ := hc 1 (by omega)
  obtain ⟨y2, e2⟩ := hc 2 (by omega)
  obtain ⟨y3, e3⟩ := hc 3 (by omega)
  rw [Nat.add_zero] at e0
  have n1 : gd < D + 1 := by omega
  have nP : ¬ ((W.heap.size + 2 ≤ gd ∧ gd < U) ∨ D < gd) := by omega
  refine ⟨h.ret.imp fun _ g => (((g.far (by omega)).far (by omega)).far (by omega)).far (by omega), (((h.got.far (by omega)).far (by omega)).far (by omega)).far (by omega), (((h.row.set nP).set nP).set nP).set nP, ?_, (((h.told.agree (Agree.set n1)).agree (Agree.set n1)).agree (Agree.set n1)).agree (Agree.set n1), (((h.bel.setCell (by show _ ≤ gd; omega) _).setCell (by show _ ≤ gd; omega) _).setCell (by show _ ≤ gd; omega) _).setCell (by show _ ≤ gd; omega) _, by simpa [store4] using h.lt.1, by simpa [store4] using h.lt.2.1, h.lt.2.2.1, h.lt.2.2.2⟩
  have hw : gd < wz.heap.size := by omega
  exact (((h.agr.both h1 hw e0).both h1 (by simpa using hw) (by rw [cell_set_ne (.inr (by omega))]; exact e1)).both h1 (by simpa using hw) (by rw [cell_set_ne (.inr (by omega)), cell_set_ne (.inr (by omega))]; exact e2)).both h1 (by simpa using hw) (by rw [cell_set_ne (.inr (by omega)), cell_set_ne (.inr (by omega)), cell_set_ne (.inr (by omega))]; exact e3)
theorem RMid.fin {V' : Nat → WV} {n rc : Nat} {ra : Option Addr} (h : RMid W v wz C1 U D ba bc (.slice ra n rc) rv m T ta tc) (hC : C1.n * 8 ≤ 140737488355328) (hw : FarW U wz ra n rc V') : RFin W v C1 V' n D 0 rv m T ba bc ra rc ta tc :=
  ⟨h.ret, h.got, h.row.farZ hC (fun b hb => by have := h.lt; omega), (hw.agree h.agr).mono h.lt.2.2.1, h.told.mono (by have := h.lt; omega), h.bel, by have := h.lt; omega, h.lt.1⟩
end
theorem told_one {V : Nat → WV} {t wh : Nat} {cd val : Int} {w : World} {B g cap : Nat} (h : w.ownsRow B 64 5 (.slice (some ⟨g, 0, none⟩) (0 + 1) cap) (0 + 1) ([] ++ [.int .i64 (t : Int), .int .i64 (V t).sq, .int .i64 (wh : Int), .int .i64 cd, .int .i64 val])) : FarT B w (some ⟨g, 0, none⟩) 1 cap (toldT V (fun _ => (t : Int)) (fun _ => (wh : Int)) cd val) := by
  refine told_far (E := 64) (by omega) ?_ (Nat.le_refl B)
  rw [← told_row (V := V) (K := fun _ => (wh : Int)) (cd := cd) (val := val) (k := 0) (i := t) (f := fun _ => (t : Int)) rfl, flatL_zero]
  exact h
theorem zero_is_set {V : Nat → WV} {t : Nat} : setV V t WV.zero = zeroAt V (fun _ => (t : Int)) 1 := ((zeroAt_succ (V := V) (k := 0) (f := fun _ => (t : Int)) (i := t) rfl).trans (by rw [zeroAt_zero])).symm
theorem wts_zero {V : Nat → WV} {t n gd cap U : Nat} {A : Nat → Option Addr} {K : Nat → Nat} {w : World} (hn : n * 48 ≤ 140737488355328) (ht : t < n) (h : OwnW U w (.slice (some ⟨gd, 0, none⟩) n cap) n (wcell V A K)) (hc : ∀ i, i < n → CaseNew U w (.slice (some ⟨gd, 0, none⟩) n cap) (V i) (A i) (K i)) :
    FarW U (store4 w gd (t * 4) (.bool false) (.int .i64 0) (.int .i64 0) (.slice none 0 0)) (some ⟨gd, 0, none⟩) n cap (zeroAt V (fun _ => (t : Int)) 1) := by
  rw [← zero_is_set]
  refine waits_far hn (h.store4 ht WV.zero none 0) (fun j hj => ?_)
  by_cases e : j = t
  · subst e
    dsimp only [setV]
    rw [if_pos rfl, if_pos rfl, if_pos rfl]
    exact ⟨RowS.nil rfl rfl, fun q hq => by cases hq⟩
  · dsimp only [setV]
    rw [if_neg e, if_neg e, if_neg e]
    exact (hc j hj).store4
set_option maxRecDepth 100000 in
set_option maxHeartbeats 1600000 in
theorem rdo_meet (ca : Option Addr) (cc : Nat) (C : CH) (hd : Int) (a : Option Addr) (n cap : Nat) (V : Nat → WV) (x : Int) (w : World) (hrow : RowAt .i64 w ca C.n cc C.f) (hm : C.n ≤ maxLen) (h : WaitsAt w a n cap V) (hr : Rdy C V n hd 1) (hcl : C.closed = false) (t wh : Nat) (ht : t < n) (hwh : wh < (V t).m) (hf0 : FirstIs V n 2 hd t wh true) :
    Calls Try.prog 32 #[.agg #[.int .i64 C.gen, .int .i64 C.cap, .bool C.used, .bool C.closed, .slice ca C.n cc], .int .i64 hd, .slice a n cap, .int .i64 1, .int .i64 x] w (RDoRet C V n hd 1 x w) := by
  have hn := h.1
  have hC8 := hrow.1
  have HROW := Lib.hid hrow
  have HCA := Lib.hid (show ChanAt w (.agg #[.int .i64 C.gen, .int .i64 C.cap, .bool C.used, .bool C.closed, .slice ca C.n cc]) C from ⟨ca, cc, rfl, hrow⟩)
  have HS := Lib.hid h
  have HB0 := Lib.hid (show Below w.heap.size w ((w.alloc (.cells #[.int .i64 C.gen, .int .i64 C.cap, .bool C.used, .bool C.closed, .slice ca C.n cc] 44)).alloc (.cells #[.int .i64 0, .int .i64 0, .bool false, .bool false, .slice none 0 0, .slice none 0 0, .int .i64 0, .int .i64 0, .int .i64 0, .int .i64 0, .slice none 0 0] 53)) from ((Below.refl _ _).alloc (Nat.le_refl _) _).alloc (by simp) _)
  have HX := Lib.hid ((Box.new (a := .int .i64 C.gen) (b := .int .i64 C.cap) (c := .bool C.used) (d := .bool C.closed) (e := .slice ca C.n cc) w 44).below (by simp) ((Below.refl _ _).alloc (Nat.le_refl _) (.cells #[.int .i64 0, .int .i64 0, .bool false, .bool false, .slice none 0 0, .slice none 0 0, .int .i64 0, .int .i64 0, .int .i64 0, .int .i64 0, .slice none 0 0] 53)))
  have HZ := Lib.hid (G11.new (w.alloc (.cells #[.int .i64 C.gen, .int .i64 C.cap, .bool C.used, .bool C.closed, .slice ca C.n cc] 44)) ⟨0, 0, false, false, 0, fun _ => 0⟩ (.slice none 0 0) (.slice none 0 0) 53)
  have hsz : w.heap.size + 2 = ((w.alloc (.cells #[.int .i64 C.gen, .int .i64 C.cap, .bool C.used, .bool C.closed, .slice ca C.n cc] 44)).alloc (.cells #[.int .i64 0, .int .i64 0, .bool false, .bool false, .slice none 0 0, .slice none 0 0, .int .i64 0, .int .i64 0, .int .i64 0, .int .i64 0, .slice none 0 0] 53)).heap.size := by simp
  rw [World.size_alloc] at HZ
  have HRD := Lib.hid hr
  have HCL0 := Lib.hid hcl
  have HF0 := Lib.hid hf0
  clear hr hcl hf0
  clear h hrow
  go_enter Try.func32, Try.ntmps32
  go_upto_region 1 with (fail)
  revert HB0 HX HZ hsz
  generalize (w.alloc (.cells #[.int .i64 C.gen, .int .i64 C.cap, .bool C.used, .bool C.closed, .slice ca C.n cc] 44)).alloc (.cells #[.int .i64 0, .int .i64 0, .bool false, .bool false, .slice none 0 0, .slice none 0 0, .int .i64 0, .int .i64 0, .int .i64 0, .int .i64 0, .slice none 0 0] 53) = u
  intro HB0 HX HZ hsz
  (obtain ⟨x0, x1, x2, x3, x4, _⟩ := HX.out)
  go_upto_region 2 with (first
    | (go_at_call 30; go_loud ((with_reducible refine (rchan_copy ca cc C u (HROW.out.below HB0.out).z hm).mono ?_); rintro e w1 ⟨⟨ba, bc, rfl, ho⟩, hb⟩; have HO1 := Lib.hid ho; have HX1 := Lib.hid (HX.out.below (by omega) hb); have HZ1 := Lib.hid (HZ.out.below (by omega) hb); have HB1 := Lib.hid (HB0.out.trans (hb.mono HB0.out.size)); have hs1 := hb.size; clear ho hb x0 x1 x2 x3 x4))
    | (go_at_call 14; go_loud ((with_reducible refine (rcopy_any a n cap V _ (HS.out.below HB1.out)).mono ?_); rintro e w2 ⟨vv, A, CC', rfl, hol, hcl, hb⟩; obtain ⟨ra, rc, rfl⟩ := hol.form; have HL := Lib.hid hol; have HCL := Lib.hid hcl; have HO2 := Lib.hid (HO1.out.below hb); have HX2 := Lib.hid (HX1.out.below (by omega) hb); have HZ2 := Lib.hid (HZ1.out.below (by omega) hb); have HB2 := Lib.hid (HB1.out.trans (hb.mono HB1.out.size)); have hs2 := hb.size; have HBX := Lib.hid hb; clear hol hcl hb)))
  have hAA : Below w2.heap.size w2 (w2.alloc (.cells #[.int .i64 C.gen, .int .i64 C.cap, .bool C.used, .bool C.closed, .slice ba C.n bc, .slice ra n rc, .int .i64 0, .int .i64 0, .int .i64 0, .int .i64 0, .slice none 0 0] 53)) := (Below.refl _ _).alloc (Nat.le_refl _) _
  refine abstract_code (fun v => RAt w v w2 C ca cc w1.heap.size w2.heap.size ba bc (.slice ra n rc)) ⟨HX2.out.below (by omega) hAA, ⟨_, HZ2.out.below (by omega) hAA⟩, G11.new w2 C _ _ _, (HO1.out.imp (fun b hb' hb => ⟨Nat.le_trans (by omega) hb, hb'⟩)).below (HBX.out.trans (hAA.mono hs2)), Agree.of hAA, HB2.out.trans (hAA.mono HB2.out.size), by omega, by simp, rfl, by omega, hs2⟩ ?_
  have hD : w.heap.size + 2 ≤ w2.heap.size := by omega
  have hw1 : w.heap.size + 2 ≤ w1.heap.size := by omega
  clear hAA HX HX1 HX2 HZ HZ1 HZ2 HO1 HO2 HBX HB0 HB1 HB2 hs1 hs2 hsz
  intro v hv
  have hlt := hv.lt
  have HA := Lib.hid hv
  (obtain ⟨x0, x1, x2, x3, x4, _⟩ := hv.chan)
  clear hv
  obtain ⟨gd, cap', hvv, hgb, _, hcl4, hfr4⟩ := HL.out.get (by omega)
  simp only [Value.slice.injEq] at hvv
  obtain ⟨rfl, _, rfl⟩ := hvv
  have HC4 := Lib.hid hcl4
  have HF4 := Lib.hid hfr4
  have HGR := Lib.hid hgb
  clear hcl4 hfr4 hgb
  have t0 : (0 : Int) ≤ (t : Int) := by omega
  have t1 : (t : Int) < (n : Int) := by omega
  go_upto_region 5 with (go_at_call 34; go_loud ((with_reducible refine (rready_any _ C a n cap V hd _ _ (HCA.out.below HA.out.bel) (HS.out.below HA.out.bel)).mono ?_); rintro e v3 ⟨⟨y, rfl, hy⟩, hb⟩; obtain rfl : y = true := hy.2 HRD.out; have HA3 := Lib.hid (HA.out.below hb); clear hy hb x0 x1 x2 x3 x4; obtain ⟨x0, x1, x2, x3, x4, _⟩ := HA3.out.chan; have hcl := HCL0.out; rw [hcl] at x3))
  go_upto_region 6 with (go_at_call 22; go_loud ((with_reducible refine (rfirst_any _ _ _ _ _ _ _ (HS.out.below HA3.out.bel)).mono ?_); rintro e v4 ⟨⟨t', wh', ok, rfl, hf⟩, hb⟩; obtain ⟨rfl, rfl, rfl⟩ := first_unique HF0.out hf; have HA4 := Lib.hid (HA3.out.below hb); clear hf hb x0 x1 x2 x3 x4; obtain ⟨x0, x1, x2, x3, x4, _⟩ := HA4.out.chan; rw [hcl] at x3))
  go_upto_region 11 with (fail)
  clear hcl x0 x1 x2 x3 x4
  have HM := Lib.hid HA4.out.mid
  have HFW := Lib.hid (wts_zero hn ht HL.out HCL.out)
  clear HA HA3 HA4 HL HCL hlt
  have hlm := HM.out.lt
  have hDl : w2.heap.size < v4.heap.size := hlm.1
  (obtain ⟨d0, d1, d2, d3, d4, d5, d6, d7, d8, d9, d10, df⟩ := HM.out.got)
  have df4 := df 4
  have df5 := df 5
  have df8 := df 8
  have df9 := df 9
  have df10 := df 10
  clear df
  obtain ⟨ti, hti, htz, htz1, htz2⟩ := info_parts Try.info_told
  have HTI := Lib.hid (And.intro hti (And.intro htz (And.intro htz1 htz2)))
  clear hti htz htz1 htz2 d0 d1 d2 d3 d4 d5 d6 d7 d8 d9 df4 df5 df8 df9
  go_region_law (first
    | (go_loud (refine step_append_lies _ (by rfl) _ _ _ (by rfl) (w2.heap.size + 1) 64 ti (.agg #[.int .i64 0, .int .i64 0, .int .i64 0, .int .i64 0, .int .i64 0]) 5 40 Try.underlying49 HTI.out.1 HTI.out.2.1 HTI.out.2.2.1 HTI.out.2.2.2 rfl (by omega) (.slice none 0 0) 0 [] (by rfl) (World.ownsRow_nil _ _ _ _) ⟨vt.heap.size, 0, none⟩ 1 1 [.int .i64 (t : Int), .int .i64 (V t).sq, .int .i64 (wh : Int), .int .i64 0, .int .i64 x] (by rfl) (by rfl) (World.news_of_block (cs := #[.int .i64 (t : Int), .int .i64 (V t).sq, .int .i64 (wh : Int), .int .i64 0, .int .i64 x]) (t := 64) (fr := (0, 0)) (heap_alloc_new vt _)) (by simp [Value.oneCell']) (by omega) (by unfold maxLen; omega) (by omega) (by simp; omega) (vt.heap.size + 1) (by simp) ?_; intro gg gc vu ho hg hat hl; have hg4 : vt.grownBy vu none := (World.grownBy_alloc vt _ none).trans ⟨hg.os, hg.tape, hg.output, hg.size, hg.block⟩; have hbu := below_of_grown hg4; have HMu := Lib.hid (HMt.out.below hbu); have HTO := Lib.hid (told_one ho); have d10 := HMu.out.got.2.2.2.2.2.2.2.2.2.2.1; have df10 := HMu.out.got.2.2.2.2.2.2.2.2.2.2.2 10; clear ho hg hg4 hbu hat hl))
    | (go_simp; go_at_call 73; go_loud ((with_reducible refine (rtold_any _ n cap V t wh 0 x _ (HS.out.below (by first | exact HM.out.bel | exact Below.drew HM.out.bel | exact below_drewN HM.out.bel _)) ht).mono ?_); rintro e vt ⟨rfl, hb⟩; have hbt : Below v4.heap.size v4 vt := (by first | exact hb | exact (Below.drew (Below.refl _ _)).trans (hb.mono (Nat.le_refl _))); have HMt := Lib.hid (HM.out.below hbt); have hst := hbt.size; have hDt := Nat.lt_of_lt_of_le hDl hst; clear hb hbt d10 df10; have d10 := HMt.out.got.2.2.2.2.2.2.2.2.2.2.1; have df10 := HMt.out.got.2.2.2.2.2.2.2.2.2.2.2 10)))
  all_goals go_upto_region 12 with (fail)
  all_goals refine abstract_code (fun v7 => RMid w v7 w2 C w1.heap.size w2.heap.size ba bc (.slice (some ⟨gd, 0, none⟩) n rc) 0 1 (toldT V (fun _ => (t : Int)) (fun _ => (wh : Int)) 0 x) (some ⟨gg, 0, none⟩) gc) (HMu.out.set10 HTO.out) ?_
  all_goals clear d10 df10 HMu HTO HMt HM hlm hDl hDt hst
  all_goals intro v7 h7
  all_goals have HM7 := Lib.hid h7
  all_goals have d5 := h7.got.2.2.2.2.2.1
  all_goals have hl7 := h7.lt
  all_goals have g1 := HGR.out.1
  all_goals have g2 := HGR.out.2
  all_goals have y0 := (h7.agr.2 gd (t * 4) g1 g2).1.trans (HC4.out t 0 ht (by omega))
  all_goals have y1 := (h7.agr.2 gd (t * 4 + 1) g1 g2).1.trans (HC4.out t 1 ht (by omega))
  all_goals have y2 := (h7.agr.2 gd (t * 4 + 2) g1 g2).1.trans (HC4.out t 2 ht (by omega))
  all_goals have y3 := (h7.agr.2 gd (t * 4 + 3) g1 g2).1.trans (HC4.out t 3 ht (by omega))
  all_goals have e0 := (h7.agr.2 gd (t * 4) g1 g2).2.trans (HF4.out _)
  all_goals have e1 := (h7.agr.2 gd (t * 4 + 1) g1 g2).2.trans (HF4.out _)
  all_goals have e2 := (h7.agr.2 gd (t * 4 + 2) g1 g2).2.trans (HF4.out _)
  all_goals have e3 := (h7.agr.2 gd (t * 4 + 3) g1 g2).2.trans (HF4.out _)
  all_goals clear h7
  all_goals go_upto_region 13 with (fail)
  all_goals refine abstract_code (fun v8 => RMid w v8 (store4 w2 gd (t * 4) (.bool false) (.int .i64 0) (.int .i64 0) (.slice none 0 0)) C w1.heap.size w2.heap.size ba bc (.slice (some ⟨gd, 0, none⟩) n rc) 0 1 (toldT V (fun _ => (t : Int)) (fun _ => (wh : Int)) 0 x) (some ⟨gg, 0, none⟩) gc) (HM7.out.zero g1 g2 (fun j hj => ⟨_, HC4.out t j ht hj⟩)) ?_
  all_goals clear y0 y1 y2 y3 e0 e1 e2 e3 d5 HM7 hl7
  all_goals (
    intro vf h8
    have hf := h8.fin (show C.n * 8 ≤ 140737488355328 by omega) HFW.out
    clear h8 HFW HC4 HF4 HGR g1 g2 hD
    revert hf
    generalize w2.heap.size = D
    intro hf
    (obtain ⟨d0, d1, d2, d3, d4, d5, d6, d7, d8, d9, d10, df⟩ := hf.got)
    have df4 := df 4
    have df5 := df 5
    have df8 := df 8
    have df9 := df 9
    have df10 := df 10
    clear df
    (obtain ⟨C0, hz⟩ := hf.ret)
    (obtain ⟨z0, z1, z2, z3, z4, z5, z6, z7, z8, z9, z10, zf⟩ := hz)
    have zf0 := zf 0
    have zf1 := zf 1
    have zf2 := zf 2
    have zf3 := zf 3
    have zf4 := zf 4
    have zf5 := zf 5
    have zf6 := zf 6
    have zf7 := zf 7
    have zf8 := zf 8
    have zf9 := zf 9
    have zf10 := zf 10
    clear zf
    have HF := Lib.hid hf
    have hD2 := hf.lt
    clear hf
    go_wp2
    have ag := agree_store11 (w := vf) (p := w.heap.size + 1) (B := w.heap.size + 2) (x0 := .int .i64 C.gen) (x1 := .int .i64 C.cap) (x2 := .bool C.used) (x3 := .bool C.closed) (x4 := .slice ba (C.n) bc) (x5 := .slice (some ⟨gd, 0, none⟩) n rc) (x6 := .int .i64 0) (x7 := .int .i64 0) (x8 := .int .i64 0) (x9 := .int .i64 (0)) (x10 := .slice (some ⟨gg, 0, none⟩) 1 gc) (by omega)
    have bl := below_store11 (p := w.heap.size + 1) (x0 := .int .i64 C.gen) (x1 := .int .i64 C.cap) (x2 := .bool C.used) (x3 := .bool C.closed) (x4 := .slice ba (C.n) bc) (x5 := .slice (some ⟨gd, 0, none⟩) n rc) (x6 := .int .i64 0) (x7 := .int .i64 0) (x8 := .int .i64 0) (x9 := .int .i64 (0)) (x10 := .slice (some ⟨gg, 0, none⟩) 1 gc) HF.out.bel (by omega)
    exact bodyPost_ret (v := .agg #[.int .i64 C.gen, .int .i64 C.cap, .bool C.used, .bool C.closed, .slice ba (C.n) bc, .slice (some ⟨gd, 0, none⟩) n rc, .int .i64 0, .int .i64 0, .int .i64 0, .int .i64 (0), .slice (some ⟨gg, 0, none⟩) 1 gc]) (by simp only [results, Try.results32]; go_simp) rfl ⟨_, _, _, _, _, _, ba, bc, (some ⟨gd, 0, none⟩), rc, (some ⟨gg, 0, none⟩), gc, .meet t wh HRD.out rfl HCL0.out ht hwh HF0.out, rfl, HF.out.row _ ag, HF.out.wts _ ag, HF.out.told _ ag, bl⟩)
end Go.Proofs.Ytihpjfhibhpciaa
