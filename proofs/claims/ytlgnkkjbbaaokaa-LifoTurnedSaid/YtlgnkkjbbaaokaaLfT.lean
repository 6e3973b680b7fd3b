/- The contracts of Turned, Top, New, Apply of a stack, over the seat's program. -/
import Derived.Test.YtlgnkkjbbaaokaaFfH
import Derived.Test.YtlgnkkjbbaaokaaFfJ
namespace Go.Proofs.Ytlgnkkjbbaaokaa
open Go.ChangeShapes Go.WideShapes Go.ChangeAt Go.RowKit Go.Joins

/-- Cells the other way round. -/
def CV.turn (C : CV) : CV := ⟨C.cap, C.n, fun i => C.f (C.n - 1 - i), C.m, C.g⟩
theorem CellsAt.same {w : World} {v : Value} {C D : CV} (h : CellsAt w v C) (h1 : C.cap = D.cap) (h2 : C.n = D.n) (h3 : C.m = D.m) (hf : ∀ i, i < C.n → C.f i = D.f i) (hg : ∀ i j, i < C.m → j < 4 → C.g i j = D.g i j) : CellsAt w v D := by
  obtain ⟨la, lc, da, dc, rfl, hl, hd⟩ := h
  refine ⟨la, lc, da, dc, by rw [h1, h2, h3], ?_, ?_⟩
  · rw [← h2]; exact hl.same hf
  · rw [← h3]; exact hd.same hg
theorem reverse_own {B n : Nat} {f : Nat → Int} (lv : Value) (w : World) (h : w.ownsRow B 3 1 lv n (rowL .i64 f n)) (hn : n * 8 ≤ 140737488355328) :
    Calls Try.prog 21 #[lv] w fun e w' => e = .returned (.tuple #[]) ∧ w.grownBy w' lv.ownBlock ∧ ∀ l c, lv = .slice l n c → RowP (fun b => lv.ownBlock = some b) w' l n c (fun i => f (n - 1 - i)) := by
  rcases Nat.eq_zero_or_pos n with rfl | hp
  · obtain ⟨l, c, rfl⟩ := own_form h
    refine (Try.slices_Reverse_int_empty l c w).mono fun e w' hw => ?_
    obtain ⟨rfl, rfl⟩ := hw
    refine ⟨rfl, World.grownBy.refl _ _, fun l' c' e => ?_⟩
    simp only [Value.slice.injEq] at e
    obtain ⟨rfl, _, rfl⟩ := e
    obtain ⟨a, cap, hv, hr⟩ := RowP.of hn h
    simp only [Value.slice.injEq] at hv
    obtain ⟨rfl, _, rfl⟩ := hv
    exact hr.same (fun i hi => absurd hi (by omega))
  · have h' := h
    rcases h.2 with ⟨_, h0⟩ | ⟨gb, cap, cur, rfl, hb, hg, hnc, hcm, hcs, hct⟩
    · exact absurd h0 (by omega)
    have hgl : gb < w.heap.size := (Array.getElem?_eq_some_iff.1 hg).1
    have hc : ∀ i, i < n → w.cell? ⟨gb, i, none⟩ = some (.int .i64 (f i)) := fun i hi => by rw [h'.cellAt i (by omega), rowL_get hi]
    refine (Try.slices_Reverse_int_cells gb 0 n cap ((List.range n).map f) w (by simp) (by omega) (fun j hj => ?_) (fun j _ => h'.frozenAt _)).mono fun e w' hw => ?_
    · have hj' : j < n := by simpa using hj
      rw [Nat.zero_add, hc j hj', List.getD_eq_getElem?_getD, List.getElem?_map, List.getElem?_range hj']
      rfl
    · obtain ⟨rfl, q, rfl⟩ := hw
      refine ⟨rfl, grown_setCells _ _ _ (grown_drewN (World.grownBy.refl _ _) q), fun l c e => ?_⟩
      simp only [Value.slice.injEq] at e
      obtain ⟨rfl, _, rfl⟩ := e
      refine ⟨hn, (fun h => by cases h), hnc, fun _ => ⟨gb, 0, rfl, ⟨by rw [size_setCells]; exact hgl, rfl⟩, fun i hi => ?_⟩⟩
      rw [World.cell?_setCells_in gb _ 0 (w.drewN q) (fun j hj => ?_) i (by simp; omega)]
      · simp
      · rw [Nat.zero_add, World.cell?_drewN, hc j (by simp at hj; omega)]
        rfl

set_option maxRecDepth 100000 in
set_option maxHeartbeats 6400000 in
theorem turned_new (v : Value) (C : CV) (w : World) (h : CellsAt w v C) : Calls Try.prog 14 #[v] w (RetNew C.turn w) := by
  obtain ⟨la, lc, da, dc, rfl, hl, hd⟩ := h
  obtain ⟨cp, n, f, m, g⟩ := C
  dsimp only at *
  have hn := hl.1
  have hm := hd.1
  have HL := Lib.hid hl
  have HD := Lib.hid hd
  clear hl hd
  go_enter Try.func14, Try.ntmps14
  go_wp2
  refine abstract_code (fun u => (u.cell? ⟨w.heap.size, 0, none⟩ = some (.int .i64 cp) ∧ u.cell? ⟨w.heap.size, 1, none⟩ = some (.slice la n lc) ∧ u.cell? ⟨w.heap.size, 2, none⟩ = some (.slice da m dc)) ∧ Box3 u (w.heap.size + 1) (.int .i64 0) (.slice none 0 0) (.slice none 0 0) ∧ (RowI u la n lc f ∧ RowS 4 u da m dc g) ∧ Below w.heap.size w u ∧ w.heap.size + 1 < u.heap.size) ?_ ?_
  · have hB : Below w.heap.size w ((w.alloc (.cells #[.int .i64 cp, .slice la n lc, .slice da m dc] 25)).alloc (.cells #[.int .i64 0, .slice none 0 0, .slice none 0 0] 25)) := ((Below.refl _ _).alloc (Nat.le_refl _) _).alloc (by simp) _
    refine ⟨⟨by go_simp, by go_simp, by go_simp⟩, ?_, ⟨HL.out.below hB, HD.out.below hB⟩, hB, by simp⟩
    have := Box3.new (a := .int .i64 0) (b := .slice none 0 0) (c := .slice none 0 0) (w.alloc (.cells #[.int .i64 cp, .slice la n lc, .slice da m dc] 25)) 25
    simpa using this
  rintro u ⟨hc, hz, hr, hB, z2⟩
  clear HL HD
  have HU := Lib.hid (show Below w.heap.size w u ∧ (∀ {W}, Below u.heap.size u W → RowI W la n lc f) ∧ (∀ {W}, Below u.heap.size u W → RowS 4 W da m dc g) from ⟨hB, fun h => hr.1.below h, fun h => hr.2.below h⟩)
  have Q0 := Lib.hid (show _ ∧ _ ∧ _ ∧ True from ⟨hc.1, hc.2.1, hc.2.2, trivial⟩)
  have HR := Lib.hid hz
  have z0 : w.heap.size < u.heap.size := by omega
  obtain ⟨c0, c1, c2⟩ := hc
  clear hr hB hz
  go_cut [3] from 4 (fun s9 wx => Copied u ⟨cp, n, f, m, g⟩ s9 wx)
  case first =>
    have HB := Lib.hid (show Below u.heap.size u u.drew from Below.drew (Below.refl _ _))
    go_region_held3 (fun W => W.cell? ⟨w.heap.size, 0, none⟩ = some (.int .i64 cp) ∧ W.cell? ⟨w.heap.size, 1, none⟩ = some (.slice la n lc) ∧ W.cell? ⟨w.heap.size, 2, none⟩ = some (.slice da m dc))
      (first | with_reducible exact ⟨c0, c1, c2⟩ | (go_simp; done) | (refine ⟨?_, ?_, ?_⟩ <;> (rw [cell_set_ne (.inl (by first | omega | (simp; omega))), cell_set_ne (.inl (by first | omega | (simp; omega))), cell_set_ne (.inl (by first | omega | (simp; omega)))]; first | with_reducible assumption | (go_simp; done))) | go_keep)
      (first
        | (go_at_call 19; go_loud ((with_reducible refine (clone_int_any la n lc f _ (HU.out.2.1 ?_)).mono ?_); (first | with_reducible exact HB.out | (with_reducible refine Below.alloc ?_ ?_ _; (with_reducible exact HB.out); exact HB.out.size) | (with_reducible refine Below.drew ?_; with_reducible refine Below.alloc ?_ ?_ _; (with_reducible exact Below.refl _ _); exact Nat.le_refl _)); rintro e w1 ⟨v1, rfl, ho, hb⟩; obtain ⟨a1, k1, rfl⟩ := own_form ho; have sb := hb.size; (first | (simp at sb) | skip); have LHV := Lib.hid (fun q (hq : Value.ownBlock (.slice a1 _ k1) = some q) => (ho.lt q hq).2); (first | (have HN := Lib.hid (own_apart HW.out ho)) | (have HN := Lib.hid (own_apart (HW.out.alloc _) ho)) | skip); (first | (have HW := Lib.hid (own_below HW.out hb)) | (have HW := Lib.hid (own_below (HW.out.alloc _) hb)) | skip); (first | (have HZ := Lib.hid (HZ.out.below (by omega) hb)) | (have HZ := Lib.hid (Box3.below (Box3.new _ _) (by simp) hb)) | (have HZ := Lib.hid (Box3.below (Box3.new_drew _ _) (by simp) hb)) | skip); have HB := Lib.hid (show Below u.heap.size u w1 from below_next (by (first | with_reducible exact HB.out | (with_reducible refine Below.alloc ?_ ?_ _; (with_reducible exact HB.out); exact HB.out.size) | (with_reducible refine Below.drew ?_; with_reducible refine Below.alloc ?_ ?_ _; (with_reducible exact Below.refl _ _); exact Nat.le_refl _))) hb); have sB := HB.out.size; have HV := Lib.hid ho; have c0 := ((bcell HB.out).1 _ _ z0).trans Q0.out.1; have c1 := ((bcell HB.out).1 _ _ z0).trans Q0.out.2.1; have c2 := ((bcell HB.out).1 _ _ z0).trans Q0.out.2.2.1; (first | (obtain ⟨d0, d1, d2, df⟩ := HZ.out; have df0 := df 0; have df1 := df 1; have df2 := df 2; clear df) | skip); clear ho hb))
        | (go_at_call 20; go_loud ((with_reducible refine (clone_res_any da m dc g _ (HU.out.2.2 ?_)).mono ?_); (first | with_reducible exact HB.out | (with_reducible refine Below.alloc ?_ ?_ _; (with_reducible exact HB.out); exact HB.out.size) | (with_reducible refine Below.drew ?_; with_reducible refine Below.alloc ?_ ?_ _; (with_reducible exact Below.refl _ _); exact Nat.le_refl _)); rintro e w1 ⟨v1, rfl, ho, hb⟩; obtain ⟨a1, k1, rfl⟩ := own_form ho; have sb := hb.size; (first | (simp at sb) | skip); have LHW := Lib.hid (fun q (hq : Value.ownBlock (.slice a1 _ k1) = some q) => (ho.lt q hq).2); (first | (have HN := Lib.hid (own_apart HV.out ho)) | (have HN := Lib.hid (own_apart (HV.out.alloc _) ho)) | skip); (first | (have HV := Lib.hid (own_below HV.out hb)) | (have HV := Lib.hid (own_below (HV.out.alloc _) hb)) | skip); (first | (have HZ := Lib.hid (HZ.out.below (by omega) hb)) | (have HZ := Lib.hid (Box3.below (Box3.new _ _) (by simp) hb)) | (have HZ := Lib.hid (Box3.below (Box3.new_drew _ _) (by simp) hb)) | skip); have HB := Lib.hid (show Below u.heap.size u w1 from below_next (by (first | with_reducible exact HB.out | (with_reducible refine Below.alloc ?_ ?_ _; (with_reducible exact HB.out); exact HB.out.size) | (with_reducible refine Below.drew ?_; with_reducible refine Below.alloc ?_ ?_ _; (with_reducible exact Below.refl _ _); exact Nat.le_refl _))) hb); have sB := HB.out.size; have HW := Lib.hid ho; have c0 := ((bcell HB.out).1 _ _ z0).trans Q0.out.1; have c1 := ((bcell HB.out).1 _ _ z0).trans Q0.out.2.1; have c2 := ((bcell HB.out).1 _ _ z0).trans Q0.out.2.2.1; (first | (obtain ⟨d0, d1, d2, df⟩ := HZ.out; have df0 := df 0; have df1 := df 1; have df2 := df 2; clear df) | skip); clear ho hb)))
    all_goals (go_wp2_with fail)
    all_goals go_meet
    all_goals (first
      | exact ⟨_, _, _, _, _, rfl, ⟨(by first | omega | (simp; done) | (simp; omega)), by simp⟩, HB.out.alloc HB.out.size _, Box3.new _ _, (HV.out.mono (by first | omega | (simp; done) | (simp; omega))).alloc _, (HW.out.mono (by first | omega | (simp; done) | (simp; omega))).alloc _, (by first | exact HN.out | exact HN.out.symm), (fun e => by have t1 := (HV.out.lt _ e).1; have t2 := LHV.out _ e; first | omega | (simp at t1; omega) | (simp at t1; done)), (fun e => by have t1 := (HW.out.lt _ e).1; have t2 := LHW.out _ e; first | omega | (simp at t1; omega) | (simp at t1; done))⟩
      | exact ⟨_, _, _, _, _, rfl, ⟨(by first | omega | (simp; done) | (simp; omega)), (by first | omega | (simp; done) | (simp; omega))⟩, store3_below HB.out (by first | omega | (simp; done) | (simp; omega)), HZ.out.store _ _ _, own_store3 (HV.out.mono (by first | omega | (simp; done) | (simp; omega))) (fun e => by have t1 := (HV.out.lt _ e).1; have t2 := LHV.out _ e; first | omega | (simp at t1; omega) | (simp at t1; done)), own_store3 (HW.out.mono (by first | omega | (simp; done) | (simp; omega))) (fun e => by have t1 := (HW.out.lt _ e).1; have t2 := LHW.out _ e; first | omega | (simp at t1; omega) | (simp at t1; done)), (by first | exact HN.out | exact HN.out.symm), (fun e => by have t1 := (HV.out.lt _ e).1; have t2 := LHV.out _ e; first | omega | (simp at t1; omega) | (simp at t1; done)), (fun e => by have t1 := (HW.out.lt _ e).1; have t2 := LHW.out _ e; first | omega | (simp at t1; omega) | (simp at t1; done))⟩)
  case rest =>
    clear c0 c1 c2
    obtain ⟨p, l, c, d, c', rfl, ⟨pl, ph⟩, hb, hx, hv, hw, hap, nv, nw⟩ := hcut
    have HB := Lib.hid (HU.out.1.trans (hb.mono HU.out.1.size))
    have HX := Lib.hid hx
    have HV := Lib.hid (reverse_own _ _ hv hn)
    have HVL := Lib.hid (fun q hq => hv.lt q hq)
    have HW := Lib.hid hw
    have HN := Lib.hid (And.intro hap (And.intro nv nw))
    have HZ := Lib.hid (HR.out.below z2 hb)
    have sw := hb.size
    obtain ⟨x0, x1, x2, xf⟩ := hx
    clear xf hv hw hap nv nw hb
    go_wp2_with (go_at_call 21; go_loud ((with_reducible refine HV.out.mono ?_); rintro e w3 ⟨rfl, hg, hp⟩; have HP3 := Lib.hid (hp _ _ rfl); have HX3 := Lib.hid (HX.out.grown hg ph (fun e => HN.out.2.1 e.symm)); have HZ3 := Lib.hid (HZ.out.grown hg (by omega) (fun e => by have := HVL.out _ e.symm; omega)); have HW3 := Lib.hid (HW.out.kept hg HN.out.1.symm); have HB3 := Lib.hid (HB.out.grown hg (by omega) (fun q hq => by have := HVL.out q hq; omega)); have s3 := hg.size; clear hg hp x0 x1 x2; (obtain ⟨x0, x1, x2, xf⟩ := HX3.out); (obtain ⟨e0, e1, e2, ef⟩ := HZ3.out); have ef0 := ef 0; have ef1 := ef 1; have ef2 := ef 2; clear xf ef))
    refine bodyPost_ret (v := .agg #[.int .i64 cp, .slice l n c, .slice d m c']) (by simp only [results, Try.results14]; go_simp) rfl ⟨_, rfl, ?_, ?_⟩
    · obtain ⟨d2, c2', hd, hr4⟩ := RowS.of (by omega) (own_store3 HW3.out (p := w.heap.size + 1) (a := .int .i64 cp) (b := .slice l n c) (c := .slice d m c') (fun e => by have := HW.out.lt _ e; omega))
      simp only [Value.slice.injEq] at hd
      obtain ⟨rfl, _, rfl⟩ := hd
      exact ⟨l, c, d, c', rfl, (((HP3.out.setCell (fun e => by have := HVL.out _ e; omega)).setCell (fun e => by have := HVL.out _ e; omega)).setCell (fun e => by have := HVL.out _ e; omega)).imp (fun b _ e => by have := HVL.out _ e; omega), hr4, fun q hq => by have := HW.out.lt q hq; omega⟩
    · exact store3_below HB3.out (by omega)

theorem turned_any (v : Value) (C : CV) (w : World) (h : CellsAt w v C) : Calls Try.prog 14 #[v] w (RetAt C.turn w) := (turned_new v C w h).mono fun _ _ h => h.at

set_option maxRecDepth 100000 in
theorem top_any (v : Value) (C : CV) (w : World) (h : CellsAt w v C) : Calls Try.prog 12 #[v] w fun e w' => e = .returned (.tuple #[.int .i64 (if C.n = 0 then 0 else C.f (C.n - 1)), .bool (!decide (C.n = 0))]) ∧ Below w.heap.size w w' := by
  obtain ⟨la, lc, da, dc, rfl, hl, hd⟩ := h
  obtain ⟨cp, n, f, m, g⟩ := C
  dsimp only at *
  have hn := hl.1
  have HL := Lib.hid (fun o => hl.below ((Below.refl w.heap.size w).alloc (Nat.le_refl _) o))
  clear hl hd
  cases n with
  | zero =>
    go_enter Try.func12, Try.ntmps12
    go_wp2
    refine bodyPost_ret (v := .tuple #[.int .i64 0, .bool false]) (by simp only [results, Try.results12]; go_simp) rfl ⟨rfl, (Below.refl _ _).alloc (Nat.le_refl _) _⟩
  | succ n =>
    obtain ⟨W, hW⟩ : ∃ W, W = w.alloc (.cells #[.int .i64 cp, .slice la (n + 1) lc, .slice da m dc] 25) := ⟨_, rfl⟩
    have hr := HL.out (.cells #[.int .i64 cp, .slice la (n + 1) lc, .slice da m dc] 25)
    obtain ⟨b, off, rfl, _, hc⟩ := hr.get (k := n) (by omega)
    have hB : Below w.heap.size w W := by rw [hW]; exact (Below.refl _ _).alloc (Nat.le_refl _) _
    have y0 : W.cell? ⟨b, off + n, none⟩ = some (.int .i64 (f n)) := by rw [hW]; exact hc n (by omega)
    have c1 : W.cell? ⟨w.heap.size, 1, none⟩ = some (.slice (some ⟨b, off, none⟩) (n + 1) lc) := by rw [hW]; go_simp
    have e0 : ((n : Int) + 1 == 0) = false := by simp; omega
    have HW := Lib.hid hW
    have HB := Lib.hid hB
    clear hc hr hW hB HL
    go_enter Try.func12, Try.ntmps12
    go_upto_region 1 with (fail)
    rw [← HW.out]
    go_wp2
    all_goals (refine bodyPost_ret (v := .tuple #[.int .i64 (f n), .bool true]) (by simp only [results, Try.results12]; go_simp) rfl ⟨rfl, HB.out⟩)
end Go.Proofs.Ytlgnkkjbbaaokaa
