/- The contract of Apply, over the seat's program. -/
import Derived.Test.YtmghbcddnmiamaaFfE
namespace Go.Proofs.Ytmghbcddnmiamaa
open Go.ChangeShapes Go.WideShapes Go.ChangeAt Go.RowKit Go.Joins

/-- A box that holds a copy of cells, in blocks of the call's own. -/
def Copied (u : World) (C : CV) (s : Value) (w : World) : Prop :=
  ∃ p l c d c', s = .pointer (some ⟨p, 0, none⟩) ∧ (u.heap.size ≤ p ∧ p < w.heap.size) ∧ Below u.heap.size u w ∧ Box3 w p (.int .i64 C.cap) (.slice l C.n c) (.slice d C.m c') ∧ w.ownsRow u.heap.size 3 1 (.slice l C.n c) C.n (rowL .i64 C.f C.n) ∧ w.ownsRow u.heap.size 37 4 (.slice d C.m c') C.m (flatL 4 C.g C.m) ∧ Apart (.slice l C.n c) (.slice d C.m c') ∧ (Value.slice l C.n c).ownBlock ≠ some p ∧ (Value.slice d C.m c').ownBlock ≠ some p

/-- What one element of four numbers is behind four stores; the others are as they were. -/
theorem note_cells {w : World} {gb m : Nat} {g : Nat → Nat → Int} {seq cn tl : Int} {i i' j : Nat} (h : ∀ q, q < m * 4 → w.cell? ⟨gb, q, none⟩ = (flatL 4 g m)[q]?) (hi : i < m) (hi' : i' < m) (hj : j < 4) :
    ((((w.setCell ⟨gb, i * 4, none⟩ (.int .i64 seq)).setCell ⟨gb, i * 4 + 1, none⟩ (.int .i64 0)).setCell ⟨gb, i * 4 + 2, none⟩ (.int .i64 cn)).setCell ⟨gb, i * 4 + 3, none⟩ (.int .i64 tl)).cell? ⟨gb, i' * 4 + j, none⟩ = some (.int .i64 (if i' = i then res4 seq cn tl j else g i' j)) := by
  have hc : ∀ i j, i < m → j < 4 → w.cell? ⟨gb, i * 4 + j, none⟩ = some (.int .i64 (g i j)) := fun i j hi hj => by
    rw [h _ (by omega)]
    exact flatL_get hi hj
  by_cases e : i' = i
  · subst e
    rw [if_pos rfl]
    match j, hj with
    | 0, _ =>
      rw [cell_set_ne (.inr (by omega)), cell_set_ne (.inr (by omega)), cell_set_ne (.inr (by omega))]
      exact World.cell?_setCell_same _ _ _ (hc i' 0 hi (by omega))
    | 1, _ =>
      rw [cell_set_ne (.inr (by omega)), cell_set_ne (.inr (by omega))]
      exact World.cell?_setCell_same _ _ _ (by rw [cell_set_ne (.inr (by omega))]; exact hc i' 1 hi (by omega))
    | 2, _ =>
      rw [cell_set_ne (.inr (by omega))]
      exact World.cell?_setCell_same _ _ _ (by rw [cell_set_ne (.inr (by omega)), cell_set_ne (.inr (by omega))]; exact hc i' 2 hi (by omega))
    | 3, _ => exact World.cell?_setCell_same _ _ _ (by rw [cell_set_ne (.inr (by omega)), cell_set_ne (.inr (by omega)), cell_set_ne (.inr (by omega))]; exact hc i' 3 hi (by omega))
  · rw [if_neg e, cell_set_ne (.inr (by omega)), cell_set_ne (.inr (by omega)), cell_set_ne (.inr (by omega)), cell_set_ne (.inr (by omega))]
    exact hc i' j hi' hj
/-- What is returned reads as cells, whose rows lie in new memory. -/
def RetNew (C : CV) (w : World) (e : Ending) (w' : World) : Prop := ∃ v, e = .returned v ∧ (∃ la lc da dc, v = .agg #[.int .i64 C.cap, .slice la C.n lc, .slice da C.m dc] ∧ RowP (fun b => w.heap.size ≤ b) w' la C.n lc C.f ∧ RowS 4 w' da C.m dc C.g ∧ ∀ q, (Value.slice da C.m dc).ownBlock = some q → w.heap.size ≤ q) ∧ Below w.heap.size w w'
theorem RetNew.at {C : CV} {w w' : World} {e : Ending} (h : RetNew C w e w') : RetAt C w e w' := by
  obtain ⟨v, rfl, ⟨la, lc, da, dc, rfl, hl, hd, _⟩, hb⟩ := h
  exact ⟨_, rfl, ⟨la, lc, da, dc, rfl, hl.row, hd⟩, hb⟩

set_option maxRecDepth 100000 in
set_option maxHeartbeats 6400000 in
theorem apply_new (v : Value) (C : CV) (t seq k ar x : Int) (df : Bool) (ka : Option Addr) (kn kc : Nat) (w : World) (h : CellsAt w v C) (hn : (C.n + 1) * 8 ≤ 140737488355328) :
    Calls Try.prog 7 #[v, .int .i64 t, .int .i64 seq, reqV k ar x df ka kn kc] w (RetNew (C.apply false t seq k x) w) := by
  obtain ⟨la, lc, da, dc, rfl, hl, hd⟩ := h
  obtain ⟨cp, n, f, m, g⟩ := C
  dsimp only at *
  have HL := Lib.hid hl
  have HD := Lib.hid hd
  clear hl hd
  unfold reqV
  go_enter Try.func7, Try.ntmps7
  go_wp2
  refine abstract_code (fun u => (u.cell? ⟨w.heap.size, 0, none⟩ = some (.int .i64 cp) ∧ u.cell? ⟨w.heap.size, 1, none⟩ = some (.slice la n lc) ∧ u.cell? ⟨w.heap.size, 2, none⟩ = some (.slice da m dc) ∧ u.cell? ⟨w.heap.size + 1, 0, none⟩ = some (.int .i64 k) ∧ u.cell? ⟨w.heap.size + 1, 1, none⟩ = some (.int .i64 ar) ∧ u.cell? ⟨w.heap.size + 1, 2, none⟩ = some (.int .i64 x) ∧ u.cell? ⟨w.heap.size + 1, 3, none⟩ = some (.bool df) ∧ u.cell? ⟨w.heap.size + 1, 4, none⟩ = some (.slice ka kn kc)) ∧ Box3 u (w.heap.size + 2) (.int .i64 0) (.slice none 0 0) (.slice none 0 0) ∧ (RowI u la n lc f ∧ RowS 4 u da m dc g) ∧ Below w.heap.size w u ∧ w.heap.size + 2 < u.heap.size) ?_ ?_
  · have hB : Below w.heap.size w (((w.alloc (.cells #[.int .i64 cp, .slice la n lc, .slice da m dc] 25)).alloc (.cells #[.int .i64 k, .int .i64 ar, .int .i64 x, .bool df, .slice ka kn kc] 28)).alloc (.cells #[.int .i64 0, .slice none 0 0, .slice none 0 0] 25)) := (((Below.refl _ _).alloc (Nat.le_refl _) _).alloc (by simp) _).alloc (by simp; omega) _
    refine ⟨⟨by go_simp, by go_simp, by go_simp, by go_simp, by go_simp, by go_simp, by go_simp, by go_simp⟩, ?_, ⟨HL.out.below hB, HD.out.below hB⟩, hB, by simp⟩
    have := Box3.new (a := .int .i64 0) (b := .slice none 0 0) (c := .slice none 0 0) ((w.alloc (.cells #[.int .i64 cp, .slice la n lc, .slice da m dc] 25)).alloc (.cells #[.int .i64 k, .int .i64 ar, .int .i64 x, .bool df, .slice ka kn kc] 28)) 25
    simpa using this
  rintro u ⟨hc, hz, hr, hB, z2⟩
  clear HL HD
  have HU := Lib.hid (show Below w.heap.size w u ∧ (∀ {W}, Below u.heap.size u W → RowI W la n lc f) ∧ (∀ {W}, Below u.heap.size u W → RowS 4 W da m dc g) from ⟨hB, fun h => hr.1.below h, fun h => hr.2.below h⟩)
  have Q0 := Lib.hid hc
  have HR := Lib.hid hz
  have z0 : w.heap.size < u.heap.size := by omega
  obtain ⟨c0, c1, c2, q0, q1, q2, q3, q4⟩ := hc
  clear hr hB hz
  go_cut [9] from 11 (fun s9 wx => Copied u ⟨cp, n, f, m, g⟩ s9 wx)
  case first =>
    have HB := Lib.hid (show Below u.heap.size u u.drew from Below.drew (Below.refl _ _))
    go_region_held3 (fun W => W.cell? ⟨w.heap.size, 0, none⟩ = some (.int .i64 cp) ∧ W.cell? ⟨w.heap.size, 1, none⟩ = some (.slice la n lc) ∧ W.cell? ⟨w.heap.size, 2, none⟩ = some (.slice da m dc))
      (first | with_reducible exact ⟨c0, c1, c2⟩ | (go_simp; done) | (refine ⟨?_, ?_, ?_⟩ <;> (rw [cell_set_ne (.inl (by first | omega | (simp; omega))), cell_set_ne (.inl (by first | omega | (simp; omega))), cell_set_ne (.inl (by first | omega | (simp; omega)))]; first | with_reducible assumption | (go_simp; done))) | go_keep)
      (first
        | (go_at_call 18; go_loud ((with_reducible refine (clone_int_any la n lc f _ (HU.out.2.1 ?_)).mono ?_); (first | with_reducible exact HB.out | (with_reducible refine Below.alloc ?_ ?_ _; (with_reducible exact HB.out); exact HB.out.size) | (with_reducible refine Below.drew ?_; with_reducible refine Below.alloc ?_ ?_ _; (with_reducible exact Below.refl _ _); exact Nat.le_refl _)); rintro e w1 ⟨v1, rfl, ho, hb⟩; obtain ⟨a1, k1, rfl⟩ := own_form ho; have sb := hb.size; (first | (simp at sb) | skip); have LHV := Lib.hid (fun q (hq : Value.ownBlock (.slice a1 _ k1) = some q) => (ho.lt q hq).2); (first | (have HN := Lib.hid (own_apart HW.out ho)) | (have HN := Lib.hid (own_apart (HW.out.alloc _) ho)) | skip); (first | (have HW := Lib.hid (own_below HW.out hb)) | (have HW := Lib.hid (own_below (HW.out.alloc _) hb)) | skip); (first | (have HZ := Lib.hid (HZ.out.below (by omega) hb)) | (have HZ := Lib.hid (Box3.below (Box3.new _ _) (by simp) hb)) | (have HZ := Lib.hid (Box3.below (Box3.new_drew _ _) (by simp) hb)) | skip); have HB := Lib.hid (show Below u.heap.size u w1 from below_next (by (first | with_reducible exact HB.out | (with_reducible refine Below.alloc ?_ ?_ _; (with_reducible exact HB.out); exact HB.out.size) | (with_reducible refine Below.drew ?_; with_reducible refine Below.alloc ?_ ?_ _; (with_reducible exact Below.refl _ _); exact Nat.le_refl _))) hb); have sB := HB.out.size; have HV := Lib.hid ho; have c0 := ((bcell HB.out).1 _ _ z0).trans Q0.out.1; have c1 := ((bcell HB.out).1 _ _ z0).trans Q0.out.2.1; have c2 := ((bcell HB.out).1 _ _ z0).trans Q0.out.2.2.1; (first | (obtain ⟨d0, d1, d2, df⟩ := HZ.out; have df0 := df 0; have df1 := df 1; have df2 := df 2; clear df) | skip); clear ho hb))
        | (go_at_call 19; go_loud ((with_reducible refine (clone_res_any da m dc g _ (HU.out.2.2 ?_)).mono ?_); (first | with_reducible exact HB.out | (with_reducible refine Below.alloc ?_ ?_ _; (with_reducible exact HB.out); exact HB.out.size) | (with_reducible refine Below.drew ?_; with_reducible refine Below.alloc ?_ ?_ _; (with_reducible exact Below.refl _ _); exact Nat.le_refl _)); rintro e w1 ⟨v1, rfl, ho, hb⟩; obtain ⟨a1, k1, rfl⟩ := own_form ho; have sb := hb.size; (first | (simp at sb) | skip); have LHW := Lib.hid (fun q (hq : Value.ownBlock (.slice a1 _ k1) = some q) => (ho.lt q hq).2); (first | (have HN := Lib.hid (own_apart HV.out ho)) | (have HN := Lib.hid (own_apart (HV.out.alloc _) ho)) | skip); (first | (have HV := Lib.hid (own_below HV.out hb)) | (have HV := Lib.hid (own_below (HV.out.alloc _) hb)) | skip); (first | (have HZ := Lib.hid (HZ.out.below (by omega) hb)) | (have HZ := Lib.hid (Box3.below (Box3.new _ _) (by simp) hb)) | (have HZ := Lib.hid (Box3.below (Box3.new_drew _ _) (by simp) hb)) | skip); have HB := Lib.hid (show Below u.heap.size u w1 from below_next (by (first | with_reducible exact HB.out | (with_reducible refine Below.alloc ?_ ?_ _; (with_reducible exact HB.out); exact HB.out.size) | (with_reducible refine Below.drew ?_; with_reducible refine Below.alloc ?_ ?_ _; (with_reducible exact Below.refl _ _); exact Nat.le_refl _))) hb); have sB := HB.out.size; have HW := Lib.hid ho; have c0 := ((bcell HB.out).1 _ _ z0).trans Q0.out.1; have c1 := ((bcell HB.out).1 _ _ z0).trans Q0.out.2.1; have c2 := ((bcell HB.out).1 _ _ z0).trans Q0.out.2.2.1; (first | (obtain ⟨d0, d1, d2, df⟩ := HZ.out; have df0 := df 0; have df1 := df 1; have df2 := df 2; clear df) | skip); clear ho hb)))
    all_goals (go_wp2_with fail)
    all_goals go_meet
    all_goals (first
      | exact ⟨_, _, _, _, _, rfl, ⟨(by first | omega | (simp; done) | (simp; omega)), by simp⟩, HB.out.alloc HB.out.size _, Box3.new _ _, (HV.out.mono (by first | omega | (simp; done) | (simp; omega))).alloc _, (HW.out.mono (by first | omega | (simp; done) | (simp; omega))).alloc _, (by first | exact HN.out | exact HN.out.symm), (fun e => by have t1 := (HV.out.lt _ e).1; have t2 := LHV.out _ e; first | omega | (simp at t1; omega) | (simp at t1; done)), (fun e => by have t1 := (HW.out.lt _ e).1; have t2 := LHW.out _ e; first | omega | (simp at t1; omega) | (simp at t1; done))⟩
      | exact ⟨_, _, _, _, _, rfl, ⟨(by first | omega | (simp; done) | (simp; omega)), (by first | omega | (simp; done) | (simp; omega))⟩, store3_below HB.out (by first | omega | (simp; done) | (simp; omega)), HZ.out.store _ _ _, own_store3 (HV.out.mono (by first | omega | (simp; done) | (simp; omega))) (fun e => by have t1 := (HV.out.lt _ e).1; have t2 := LHV.out _ e; first | omega | (simp at t1; omega) | (simp at t1; done)), own_store3 (HW.out.mono (by first | omega | (simp; done) | (simp; omega))) (fun e => by have t1 := (HW.out.lt _ e).1; have t2 := LHW.out _ e; first | omega | (simp at t1; omega) | (simp at t1; done)), (by first | exact HN.out | exact HN.out.symm), (fun e => by have t1 := (HV.out.lt _ e).1; have t2 := LHV.out _ e; first | omega | (simp at t1; omega) | (simp at t1; done)), (fun e => by have t1 := (HW.out.lt _ e).1; have t2 := LHW.out _ e; first | omega | (simp at t1; omega) | (simp at t1; done))⟩)
  case rest =>
    clear c0 c1 c2 q0 q1 q2 q3 q4
    obtain ⟨p, l, c, d, c', rfl, ⟨pl, ph⟩, hb, hx, hv, hw, hap, nv, nw⟩ := hcut
    have HB := Lib.hid hb
    have HX := Lib.hid hx
    have HV := Lib.hid hv
    have HW := Lib.hid hw
    have HN := Lib.hid (And.intro hap (And.intro nv nw))
    have sw := hb.size
    have c0 := ((bcell hb).1 _ _ z0).trans Q0.out.1
    have c1 := ((bcell hb).1 _ _ z0).trans Q0.out.2.1
    have c2 := ((bcell hb).1 _ _ z0).trans Q0.out.2.2.1
    have q0 := ((bcell hb).1 _ _ (by omega)).trans Q0.out.2.2.2.1
    clear hx hv hw hap nv nw
    have HCA := Lib.hid (show CellsAt wc (.agg #[.int .i64 cp, .slice la n lc, .slice da m dc]) ⟨cp, n, f, m, g⟩ from ⟨_, _, _, _, rfl, HU.out.2.1 hb, HU.out.2.2 hb⟩)
    clear hb
    go_upto_if 28 with (go_at_call 20; (with_reducible refine (why_any _ _ k _ HCA.out).mono ?_); rintro e w1 ⟨rfl, hb⟩; have HB1 := Lib.hid hb; have s1 := hb.size; clear hb c0 c1 c2 q0)
    have HWA := Lib.hid (show Below wc.heap.size wc (w1.alloc (.cells #[.int .i64 seq, .int .i64 0, .int .i64 (CV.code ⟨cp, n, f, m, g⟩ k), .int .i64 0] 37)) from HB1.out.alloc HB1.out.size _)
    have HUA := Lib.hid (HB.out.trans (HWA.out.mono HB.out.size))
    refine abstract_code (fun u2 => Box3 u2 p (.int .i64 cp) (.slice l n c) (.slice d m c') ∧ Box4 u2 w1.heap.size (.int .i64 seq) (.int .i64 0) (.int .i64 (CV.code ⟨cp, n, f, m, g⟩ k)) (.int .i64 0) ∧ (u2.cell? ⟨w.heap.size + 1, 0, none⟩ = some (.int .i64 k) ∧ u2.cell? ⟨w.heap.size + 1, 1, none⟩ = some (.int .i64 ar) ∧ u2.cell? ⟨w.heap.size + 1, 2, none⟩ = some (.int .i64 x) ∧ u2.cell? ⟨w.heap.size + 1, 3, none⟩ = some (.bool df) ∧ u2.cell? ⟨w.heap.size + 1, 4, none⟩ = some (.slice ka kn kc)) ∧ (u2.ownsRow u.heap.size 3 1 (.slice l n c) n (rowL .i64 f n) ∧ u2.ownsRow u.heap.size 37 4 (.slice d m c') m (flatL 4 g m)) ∧ Below w.heap.size w u2 ∧ Box3 u2 (w.heap.size + 2) (.int .i64 0) (.slice none 0 0) (.slice none 0 0) ∧ (p < w1.heap.size ∧ w1.heap.size < u2.heap.size) ∧ (∀ q, (Value.slice l n c).ownBlock = some q ∨ (Value.slice d m c').ownBlock = some q → w.heap.size + 2 < q ∧ q < w1.heap.size)) ⟨HX.out.below ph HWA.out, Box4.new _ _, ?_, ⟨own_below HV.out HWA.out, own_below HW.out HWA.out⟩, HU.out.1.trans (HUA.out.mono HU.out.1.size), HR.out.below z2 HUA.out, ⟨by omega, by simp⟩, ?_⟩ ?_
    · obtain ⟨_, _, _, y0, y1, y2, y3, y4⟩ := Q0.out
      exact ⟨((bcell HUA.out).1 _ _ (by omega)).trans y0, ((bcell HUA.out).1 _ _ (by omega)).trans y1, ((bcell HUA.out).1 _ _ (by omega)).trans y2, ((bcell HUA.out).1 _ _ (by omega)).trans y3, ((bcell HUA.out).1 _ _ (by omega)).trans y4⟩
    · intro q hq
      rcases hq with hq | hq
      · have := HV.out.lt q hq; omega
      · have := HW.out.lt q hq; omega
    clear HWA HUA HX HV HW HB HR HCA HB1 Q0
    rintro u2 ⟨hx, hr, ⟨q0, q1, q2, q3, q4⟩, ⟨hv, hw⟩, hb, hz, ⟨pr, zr⟩, hq⟩
    have HX := Lib.hid hx
    have HR := Lib.hid hr
    have HV := Lib.hid hv
    have HW := Lib.hid hw
    have HB := Lib.hid hb
    have HZ := Lib.hid hz
    have HQ := Lib.hid hq
    have zw := hb.size
    clear hv hw hb hz hq
    have pw : w.heap.size + 2 < p := by omega
    clear s1 sw ph pl
    generalize w1.heap.size = r at *
    obtain ⟨cn, hcn⟩ : ∃ cn, cn = CV.code ⟨cp, n, f, m, g⟩ k := ⟨_, rfl⟩
    have HCN := Lib.hid hcn
    rw [← hcn] at HR hr ⊢
    clear hcn
    obtain ⟨A, hA⟩ : ∃ A, A = CV.after ⟨cp, n, f, m, g⟩ false k x := ⟨_, rfl⟩
    have HA := Lib.hid hA
    have HAM := Lib.hid (show A.m = m ∧ A.g = g ∧ A.cap = cp from hA ▸ after_m _ _ _ _)
    clear hA
    obtain ⟨tl, htl⟩ : ∃ tl, tl = CV.told ⟨cp, n, f, m, g⟩ false k := ⟨_, rfl⟩
    have HTL := Lib.hid htl
    clear htl
    go_cut [] from 11 (fun wx => ∃ l' lc', Box3 wx p (.int .i64 cp) (.slice l' A.n lc') (.slice d m c') ∧ Box4 wx r (.int .i64 seq) (.int .i64 0) (.int .i64 cn) (.int .i64 tl) ∧ RowP (fun b => w.heap.size + 2 < b ∧ b ≠ p ∧ b ≠ r ∧ (Value.slice d m c').ownBlock ≠ some b) wx l' A.n lc' A.f ∧ wx.ownsRow u.heap.size 37 4 (.slice d m c') m (flatL 4 g m) ∧ Below w.heap.size w wx ∧ Box3 wx (w.heap.size + 2) (.int .i64 0) (.slice none 0 0) (.slice none 0 0) ∧ r < wx.heap.size)
    case first =>
      obtain ⟨c0, c1, c2, cf⟩ := hx
      have cf1 := cf 1
      clear cf
      by_cases hcode : cn = 0
      · subst hcode
        have hdo := do_any ⟨cp, n, f, m, g⟩ (.slice l n c) (.slice d m c') k ar x df ka kn kc u2 ⟨_, HV.out⟩ ⟨_, _, rfl⟩ hn HCN.out.symm
        rw [← HA.out, ← HTL.out] at hdo
        dsimp only [reqV] at hdo
        have HDO := Lib.hid hdo
        clear hdo
        go_wp2_with (go_at_call 21; go_loud ((with_reducible refine HDO.out.mono ?_); rintro e w3 ⟨l', lc', rfl, hp, hg⟩; have HX3 := Lib.hid (HX.out.grown hg (by omega) (fun e => HN.out.2.1 e.symm)); have HR3 := Lib.hid (HR.out.grown hg zr (fun e => by have := HQ.out r (.inl e.symm); omega)); have HZ3 := Lib.hid (HZ.out.grown hg (by omega) (fun e => by have := HQ.out _ (.inl e.symm); omega)); have HW3 := Lib.hid (HW.out.kept hg HN.out.1.symm); have HB3 := Lib.hid (HB.out.grown hg zw (fun q hq => by have := HQ.out q (.inl hq); omega)); have s3 := hg.size; have HP3 := Lib.hid (hp.imp (Q := fun b => w.heap.size + 2 < b ∧ b ≠ p ∧ b ≠ r ∧ (Value.slice d m c').ownBlock ≠ some b) (fun b _ e => by
          rcases e with e | e
          · have h1 := HQ.out b (.inl e)
            refine ⟨h1.1, fun h => HN.out.2.1 (h ▸ e), by omega, fun h => ?_⟩
            rcases HN.out.1 with h2 | h2
            · rw [e] at h2; cases h2
            · exact h2 (e.trans h.symm)
          · exact ⟨by omega, by omega, by omega, fun h => by have := (HW.out.lt b h).2; omega⟩)); clear hp hg c0 c1 c2 cf1 q0 q1 q2 q3 q4; (obtain ⟨c0, c1, c2, cf⟩ := HX3.out); have cf1 := cf 1; clear cf; (obtain ⟨_, _, _, r3, rf⟩ := HR3.out); have rf3 := rf 3; clear rf))
        all_goals go_meet
        case rel => exact ⟨l', lc', (HX3.out.set1 _).set_far (by omega), (HR3.out.set_far (by omega)).set3 _, (HP3.out.setCell (fun h => h.2.1 rfl)).setCell (fun h => h.2.2.1 rfl), own_set (own_set HW3.out HN.out.2.2) (fun e => by have := HQ.out r (.inr e); omega), (HB3.out.setCell (by simp; omega) _).setCell (by simp; omega) _, (HZ3.out.set_far (by omega)).set_far (by omega), by simp; omega⟩
      · have hc0 : (cn == 0) = false := by simpa using hcode
        obtain ⟨e1, e2⟩ := after_idle (C := ⟨cp, n, f, m, g⟩) (last := false) (k := k) (x := x) (by rw [← HCN.out]; exact hcode)
        have e3 := HA.out.trans e1
        subst e3
        have e4 := HTL.out.trans e2
        subst e4
        clear e1 e2
        go_wp2
        go_meet
        case rel =>
          obtain ⟨a, cap, hv', hp⟩ := RowP.of (by omega) HV.out
          simp only [Value.slice.injEq] at hv'
          obtain ⟨rfl, _, rfl⟩ := hv'
          exact ⟨l, c, HX.out, HR.out, hp.imp (fun b _ e => by
            have h1 := HQ.out b (.inl e)
            refine ⟨h1.1, fun h => HN.out.2.1 (h ▸ e), by omega, fun h => ?_⟩
            rcases HN.out.1 with h2 | h2
            · rw [e] at h2; cases h2
            · exact h2 (e.trans h.symm)), HW.out, HB.out, HZ.out, zr⟩
    case rest =>
      have HG := Lib.hid (fun q (h : (Value.slice d m c').ownBlock = some q) => show w.heap.size + 2 < q ∧ q ≠ p ∧ q ≠ r from ⟨(HQ.out q (.inr h)).1, fun e => HN.out.2.2 (e ▸ h), by have := HQ.out q (.inr h); omega⟩)
      clear hx hr q0 q1 q2 q3 q4 HX HR HV HB HZ zw zr HN HQ pr
      obtain ⟨l', lc', hx, hr, hp, hw, hb, hz, zr⟩ := hcut
      have HX := Lib.hid hx
      have HR := Lib.hid hr
      have HP := Lib.hid hp
      have HW := Lib.hid hw
      have HB := Lib.hid hb
      have HZ := Lib.hid hz
      have zw := hb.size
      have hmb : m * 32 ≤ 140737488355328 := by have := (HU.out.2.2 (Below.refl u.heap.size u)).1; omega
      have HY := Lib.hid (show CV.apply ⟨cp, n, f, m, g⟩ false t seq k x = A.note t (res4 seq cn tl) by unfold CV.apply; rw [← HA.out, ← HTL.out, ← HCN.out])
      clear hp hw hb HU HA HTL HCN
      by_cases hin : 0 ≤ t ∧ t < (m : Int)
      · obtain ⟨t0, t1⟩ := hin
        obtain ⟨i, rfl⟩ : ∃ i : Nat, t = (i : Int) := ⟨t.toNat, by omega⟩
        have him : i < m := by omega
        have hw := HW.out
        rcases hw.2 with ⟨_, h0⟩ | ⟨gb, cap, cur, hv, hb, hg, hnc, hcm, hcs, hct⟩
        · omega
        simp only [Value.slice.injEq] at hv
        obtain ⟨rfl, _, rfl⟩ := hv
        have hf := fun j => HW.out.frozenAt j
        have hce := fun j hj => HW.out.cellAt j hj
        have x0 : wc.cell? ⟨gb, i * 4, none⟩ = some (.int .i64 (g i 0)) := by rw [hce (i * 4) (by omega)]; exact flatL_get (j := 0) him (by omega)
        have x1 : wc.cell? ⟨gb, i * 4 + 1, none⟩ = some (.int .i64 (g i 1)) := by rw [hce (i * 4 + 1) (by omega)]; exact flatL_get (j := 1) him (by omega)
        have x2 : wc.cell? ⟨gb, i * 4 + 2, none⟩ = some (.int .i64 (g i 2)) := by rw [hce (i * 4 + 2) (by omega)]; exact flatL_get (j := 2) him (by omega)
        have x3 : wc.cell? ⟨gb, i * 4 + 3, none⟩ = some (.int .i64 (g i 3)) := by rw [hce (i * 4 + 3) (by omega)]; exact flatL_get (j := 3) him (by omega)
        have f0 := hf (i * 4)
        have f1 := hf (i * 4 + 1)
        have f2 := hf (i * 4 + 2)
        have f3 := hf (i * 4 + 3)
        obtain ⟨c0, c1, c2, cf⟩ := hx
        obtain ⟨r0, r1, r2, r3, rf⟩ := hr
        clear cf rf hz hf hce hw hct hcs
        go_upto_region 7 with (fail)
        have g1 := HG.out gb rfl
        have gl : gb < wc.heap.size := (Array.getElem?_eq_some_iff.1 hg).1
        refine abstract_code (fun u3 => Box3 u3 p (.int .i64 cp) (.slice l' A.n lc') (.slice (some ⟨gb, 0, none⟩) m c') ∧ RowP (fun b => w.heap.size + 2 < b ∧ b ≠ p ∧ b ≠ r ∧ (Value.slice (some ⟨gb, 0, none⟩) m c').ownBlock ≠ some b) u3 l' A.n lc' A.f ∧ (∀ i' j, i' < m → j < 4 → u3.cell? ⟨gb, i' * 4 + j, none⟩ = some (.int .i64 (if i' = i then res4 seq cn tl j else g i' j))) ∧ Below w.heap.size w u3 ∧ Box3 u3 (w.heap.size + 2) (.int .i64 0) (.slice none 0 0) (.slice none 0 0) ∧ gb < u3.heap.size) ⟨(((HX.out.set_far (by omega)).set_far (by omega)).set_far (by omega)).set_far (by omega), (((HP.out.setCell (fun h => h.2.2.2 rfl)).setCell (fun h => h.2.2.2 rfl)).setCell (fun h => h.2.2.2 rfl)).setCell (fun h => h.2.2.2 rfl), fun i' j hi' hj => note_cells (fun q hq => by rw [HW.out.cellAt q hq]) him hi' hj, (((HB.out.setCell (by simp; omega) _).setCell (by simp; omega) _).setCell (by simp; omega) _).setCell (by simp; omega) _, (((HZ.out.set_far (by omega)).set_far (by omega)).set_far (by omega)).set_far (by omega), by simp; exact gl⟩ ?_
        clear HX HR HP HW HB HZ x0 x1 x2 x3 f0 f1 f2 f3 c0 c1 c2 r0 r1 r2 r3 hg hb gl zr HG zw
        rintro u3 ⟨hx, hp, hw, hb, hz, gl⟩
        have HP := Lib.hid hp
        have HW := Lib.hid hw
        have HB := Lib.hid hb
        clear hp hw hb
        obtain ⟨c0, c1, c2, cf⟩ := hx
        obtain ⟨e0, e1, e2, ef⟩ := hz
        have ef0 := ef 0
        have ef1 := ef 1
        have ef2 := ef 2
        clear cf ef
        go_wp2
        refine bodyPost_ret (v := .agg #[.int .i64 cp, .slice l' A.n lc', .slice (some ⟨gb, 0, none⟩) m c']) (by simp only [results, Try.results7]; go_simp) rfl ⟨_, rfl, ?_, ?_⟩
        · rw [HY.out]
          unfold CV.note
          rw [if_pos ⟨t0, by rw [HAM.out.1]; exact t1⟩]
          refine ⟨l', lc', some ⟨gb, 0, none⟩, c', ?_, ?_, ?_⟩
          · show Value.agg _ = Value.agg _
            rw [HAM.out.1, HAM.out.2.2]
          · exact (((HP.out.setCell (fun h => absurd h.1 (by omega))).setCell (fun h => absurd h.1 (by omega))).setCell (fun h => absurd h.1 (by omega))).imp (fun b _ h => by have := h.1; omega)
          · dsimp only
            rw [HAM.out.1, HAM.out.2.1]
            refine ⟨⟨by omega, (fun h => by cases h), hnc, fun _ => ⟨gb, 0, rfl, by simp; exact gl, fun i' j hi' hj => ?_⟩⟩, fun q hq => by simp only [Value.ownBlock, Option.some.injEq] at hq; omega⟩
            rw [Nat.zero_add, cell_set_ne (.inl (by omega)), cell_set_ne (.inl (by omega)), cell_set_ne (.inl (by omega)), HW.out i' j hi' hj]
            dsimp only
            by_cases e : i' = i
            · rw [if_pos e, if_pos (by omega)]
            · rw [if_neg e, if_neg (by omega)]
        · exact ((HB.out.setCell (by first | omega | (simp; done) | (simp; omega)) _).setCell (by first | omega | (simp; done) | (simp; omega)) _).setCell (by first | omega | (simp; done) | (simp; omega)) _
      · obtain ⟨c0, c1, c2, cf⟩ := hx
        obtain ⟨r0, r1, r2, r3, rf⟩ := hr
        obtain ⟨e0, e1, e2, ef⟩ := hz
        have ef0 := ef 0
        have ef1 := ef 1
        have ef2 := ef 2
        clear cf rf ef
        have HNI := Lib.hid hin
        by_cases t0 : 0 ≤ t
        · have t1 : ¬ t < (m : Int) := fun h => hin ⟨t0, h⟩
          have t2 : (m : Int) ≤ t := by omega
          clear hin t1
          go_wp2
          refine bodyPost_ret (v := .agg #[.int .i64 cp, .slice l' A.n lc', .slice d m c']) (by simp only [results, Try.results7]; go_simp) rfl ⟨_, rfl, ?_, ?_⟩
          · rw [HY.out]
            unfold CV.note
            rw [if_neg (by rw [HAM.out.1]; exact HNI.out)]
            obtain ⟨d2, c2', hd, hr4⟩ := RowS.of (by omega) (own_store3 HW.out (p := w.heap.size + 2) (a := .int .i64 cp) (b := .slice l' A.n lc') (c := .slice d m c') (fun e => by have := HG.out _ e; omega))
            simp only [Value.slice.injEq] at hd
            obtain ⟨rfl, _, rfl⟩ := hd
            refine ⟨l', lc', d, c', ?_, ?_, ?_⟩
            · rw [HAM.out.1, HAM.out.2.2]
            · exact (((HP.out.setCell (fun h => absurd h.1 (by omega))).setCell (fun h => absurd h.1 (by omega))).setCell (fun h => absurd h.1 (by omega))).imp (fun b _ h => by have := h.1; omega)
            · rw [HAM.out.1, HAM.out.2.1]
              exact ⟨hr4, fun q hq => by have := HG.out q hq; omega⟩
          · exact ((HB.out.setCell (by first | omega | (simp; done) | (simp; omega)) _).setCell (by first | omega | (simp; done) | (simp; omega)) _).setCell (by first | omega | (simp; done) | (simp; omega)) _
        · have t1 : t < 0 := by omega
          clear hin t0
          go_wp2
          refine bodyPost_ret (v := .agg #[.int .i64 cp, .slice l' A.n lc', .slice d m c']) (by simp only [results, Try.results7]; go_simp) rfl ⟨_, rfl, ?_, ?_⟩
          · rw [HY.out]
            unfold CV.note
            rw [if_neg (by rw [HAM.out.1]; exact HNI.out)]
            obtain ⟨d2, c2', hd, hr4⟩ := RowS.of (by omega) (own_store3 HW.out (p := w.heap.size + 2) (a := .int .i64 cp) (b := .slice l' A.n lc') (c := .slice d m c') (fun e => by have := HG.out _ e; omega))
            simp only [Value.slice.injEq] at hd
            obtain ⟨rfl, _, rfl⟩ := hd
            refine ⟨l', lc', d, c', ?_, ?_, ?_⟩
            · rw [HAM.out.1, HAM.out.2.2]
            · exact (((HP.out.setCell (fun h => absurd h.1 (by omega))).setCell (fun h => absurd h.1 (by omega))).setCell (fun h => absurd h.1 (by omega))).imp (fun b _ h => by have := h.1; omega)
            · rw [HAM.out.1, HAM.out.2.1]
              exact ⟨hr4, fun q hq => by have := HG.out q hq; omega⟩
          · exact ((HB.out.setCell (by first | omega | (simp; done) | (simp; omega)) _).setCell (by first | omega | (simp; done) | (simp; omega)) _).setCell (by first | omega | (simp; done) | (simp; omega)) _
theorem apply_any (v : Value) (C : CV) (t seq k ar x : Int) (df : Bool) (ka : Option Addr) (kn kc : Nat) (w : World) (h : CellsAt w v C) (hn : (C.n + 1) * 8 ≤ 140737488355328) :
    Calls Try.prog 7 #[v, .int .i64 t, .int .i64 seq, reqV k ar x df ka kn kc] w (RetAt (C.apply false t seq k x) w) :=
  (apply_new v C t seq k ar x df ka kn kc w h hn).mono fun _ _ h => h.at
end Go.Proofs.Ytmghbcddnmiamaa
