/- The contract of the reference's Copy of a pool, over the seat's program. -/
import Derived.Test.YtdfbddepeacebaaPlB
import Derived.Deep.RegionHeld3
namespace Go.Proofs.Ytdfbddepeacebaa
open Go.ChangeShapes Go.WideShapes Go.ChangeAt Go.RowKit Go.Joins

set_option maxRecDepth 100000 in
set_option maxHeartbeats 6400000 in
theorem rcopy_any (v : Value) (P : PV) (w : World) (h : PoolAt w v P) : Calls Try.prog 38 #[v] w (RetPool w.heap.size P w) := by
  obtain ⟨fa, fc, oa, oc, rfl, hf, ho⟩ := h
  have HF := Lib.hid hf
  have HO := Lib.hid ho
  clear hf ho
  obtain ⟨pi, pt, nf, ff, no, fo, ps⟩ := P
  dsimp only at HF HO ⊢
  go_enter Try.func38, Try.ntmps38
  go_wp2
  refine abstract_code (fun u => (u.cell? ⟨w.heap.size, 0, none⟩ = some (.int .i64 pi) ∧ u.cell? ⟨w.heap.size, 1, none⟩ = some (.int .i64 pt) ∧ u.cell? ⟨w.heap.size, 2, none⟩ = some (.slice fa nf fc) ∧ u.cell? ⟨w.heap.size, 3, none⟩ = some (.slice oa no oc) ∧ u.cell? ⟨w.heap.size, 4, none⟩ = some (.int .i64 ps)) ∧ ((u.cell? ⟨w.heap.size + 1, 0, none⟩ = some (.int .i64 0) ∧ u.cell? ⟨w.heap.size + 1, 1, none⟩ = some (.int .i64 0) ∧ u.cell? ⟨w.heap.size + 1, 2, none⟩ = some (.slice none 0 0) ∧ u.cell? ⟨w.heap.size + 1, 3, none⟩ = some (.slice none 0 0) ∧ u.cell? ⟨w.heap.size + 1, 4, none⟩ = some (.int .i64 0)) ∧ (∀ i, u.frozen? ⟨w.heap.size + 1, i, none⟩ = false)) ∧ RowS 2 u fa nf fc ff ∧ RowS 3 u oa no oc fo ∧ Below w.heap.size w u ∧ w.heap.size + 2 ≤ u.heap.size) ?_ ?_
  · have hB : Below w.heap.size w ((w.alloc (.cells #[.int .i64 pi, .int .i64 pt, .slice fa nf fc, .slice oa no oc, .int .i64 ps] 27)).alloc (.cells #[.int .i64 0, .int .i64 0, .slice none 0 0, .slice none 0 0, .int .i64 0] 27)) := ((Below.refl _ _).alloc (Nat.le_refl _) _).alloc (by simp) _
    refine ⟨⟨by go_simp, by go_simp, by go_simp, by go_simp, by go_simp⟩, ⟨⟨by go_simp, by go_simp, by go_simp, by go_simp, by go_simp⟩, fun i => by go_simp⟩, HF.out.below hB, HO.out.below hB, hB, by simp⟩
  rintro u ⟨hq, ⟨hr, rf⟩, hf, ho, hB, hz⟩
  have QB := Lib.hid hq
  have RB := Lib.hid hr
  obtain ⟨q0, q1, q2, q3, q4⟩ := hq
  obtain ⟨r0, r1, r2, r3, r4⟩ := hr
  have HFU := Lib.hid hf
  have HOU := Lib.hid ho
  have HBU := Lib.hid hB
  have RF := Lib.hid rf
  have pz : w.heap.size < u.heap.size := by omega
  have rz : w.heap.size + 1 < u.heap.size := by omega
  clear hf ho hB rf
  generalize w.heap.size = p at *
  go_region_held3 (fun W => W.cell? ⟨p, 0, none⟩ = some (.int .i64 pi) ∧ W.cell? ⟨p, 1, none⟩ = some (.int .i64 pt) ∧ W.cell? ⟨p, 2, none⟩ = some (.slice fa nf fc) ∧ W.cell? ⟨p, 3, none⟩ = some (.slice oa no oc) ∧ W.cell? ⟨p, 4, none⟩ = some (.int .i64 ps))
    (first | with_reducible exact ⟨q0, q1, q2, q3, q4⟩ | (go_simp; done) | go_keep)
    (first
    | (go_at_call 46; (with_reducible refine (rcopy_slot_any fa nf fc ff _ (HFU.out.below ?_)).mono ?_); (first | with_reducible exact HB1.out | with_reducible exact HB2.out | with_reducible exact Below.refl _ _ | (with_reducible refine Below.drew ?_; with_reducible exact Below.refl _ _)); rintro e w1 ⟨fv, rfl, ho1, hbx⟩; obtain ⟨af, cf, rfl⟩ := own_form ho1; have HB1 := Lib.hid (show Below u.heap.size u w1 from below_next (by (first | with_reducible exact HB1.out | with_reducible exact HB2.out | with_reducible exact Below.refl _ _ | (with_reducible refine Below.drew ?_; with_reducible exact Below.refl _ _))) hbx); (first | (have HN := Lib.hid (own_ne_symm (own_ne HOO.out ho1)); have HOO := Lib.hid (own_below HOO.out hbx)) | skip); have HOF := Lib.hid ho1; have hz1 := HB1.out.size; have q0 := ((bcell HB1.out).1 _ _ pz).trans QB.out.1; have q1 := ((bcell HB1.out).1 _ _ pz).trans QB.out.2.1; have q2 := ((bcell HB1.out).1 _ _ pz).trans QB.out.2.2.1; have q3 := ((bcell HB1.out).1 _ _ pz).trans QB.out.2.2.2.1; have q4 := ((bcell HB1.out).1 _ _ pz).trans QB.out.2.2.2.2; have r0 := ((bcell HB1.out).1 _ _ rz).trans RB.out.1; have r1 := ((bcell HB1.out).1 _ _ rz).trans RB.out.2.1; have r2 := ((bcell HB1.out).1 _ _ rz).trans RB.out.2.2.1; have r3 := ((bcell HB1.out).1 _ _ rz).trans RB.out.2.2.2.1; have r4 := ((bcell HB1.out).1 _ _ rz).trans RB.out.2.2.2.2; have s0 := ((bcell HB1.out).2 (p + 1) 0 rz).trans (RF.out 0); have s1 := ((bcell HB1.out).2 (p + 1) 1 rz).trans (RF.out 1); have s2 := ((bcell HB1.out).2 (p + 1) 2 rz).trans (RF.out 2); have s3 := ((bcell HB1.out).2 (p + 1) 3 rz).trans (RF.out 3); have s4 := ((bcell HB1.out).2 (p + 1) 4 rz).trans (RF.out 4); clear ho1 hbx)
    | (go_at_call 47; (with_reducible refine (rcopy_old_any oa no oc fo _ (HOU.out.below ?_)).mono ?_); (first | with_reducible exact HB1.out | with_reducible exact HB2.out | with_reducible exact Below.refl _ _ | (with_reducible refine Below.drew ?_; with_reducible exact Below.refl _ _)); rintro e w2 ⟨ov, rfl, ho2, hbx⟩; obtain ⟨ao, co, rfl⟩ := own_form ho2; have HB2 := Lib.hid (show Below u.heap.size u w2 from below_next (by (first | with_reducible exact HB1.out | with_reducible exact HB2.out | with_reducible exact Below.refl _ _ | (with_reducible refine Below.drew ?_; with_reducible exact Below.refl _ _))) hbx); (first | (have HN := Lib.hid (own_ne HOF.out ho2); have HOF := Lib.hid (own_below HOF.out hbx)) | skip); have HOO := Lib.hid ho2; have hz2 := HB2.out.size; have q0 := ((bcell HB2.out).1 _ _ pz).trans QB.out.1; have q1 := ((bcell HB2.out).1 _ _ pz).trans QB.out.2.1; have q2 := ((bcell HB2.out).1 _ _ pz).trans QB.out.2.2.1; have q3 := ((bcell HB2.out).1 _ _ pz).trans QB.out.2.2.2.1; have q4 := ((bcell HB2.out).1 _ _ pz).trans QB.out.2.2.2.2; have r0 := ((bcell HB2.out).1 _ _ rz).trans RB.out.1; have r1 := ((bcell HB2.out).1 _ _ rz).trans RB.out.2.1; have r2 := ((bcell HB2.out).1 _ _ rz).trans RB.out.2.2.1; have r3 := ((bcell HB2.out).1 _ _ rz).trans RB.out.2.2.2.1; have r4 := ((bcell HB2.out).1 _ _ rz).trans RB.out.2.2.2.2; have s0 := ((bcell HB2.out).2 (p + 1) 0 rz).trans (RF.out 0); have s1 := ((bcell HB2.out).2 (p + 1) 1 rz).trans (RF.out 1); have s2 := ((bcell HB2.out).2 (p + 1) 2 rz).trans (RF.out 2); have s3 := ((bcell HB2.out).2 (p + 1) 3 rz).trans (RF.out 3); have s4 := ((bcell HB2.out).2 (p + 1) 4 rz).trans (RF.out 4); clear ho2 hbx))
  all_goals go_wp2
  all_goals refine bodyPost_ret (v := .agg #[.int .i64 pi, .int .i64 pt, .slice af nf cf, .slice ao no co, .int .i64 ps]) ?_ rfl ⟨_, _, rfl, ⟨?_, ?_, HN.out⟩, ?_⟩
  all_goals first
    | (simp only [results, Try.results38]; go_simp; done)
    | (refine World.ownsRow.mono (base := u.heap.size) ?_ (by omega); refine ownsRow_setCell_below (ownsRow_setCell_below (ownsRow_setCell_below (ownsRow_setCell_below (ownsRow_setCell_below ?_ ?_ _) ?_ _) ?_ _) ?_ _) ?_ _ <;> first | (simp; done) | exact pz | exact rz | exact HOF.out.mono (by simp; done) | exact HOF.out.mono hz1 | exact HOF.out.mono hz2 | exact HOO.out.mono (by simp; done) | exact HOO.out.mono hz2 | exact HOO.out.mono hz1)
    | (refine Below.setCell (Below.setCell (Below.setCell (Below.setCell (Below.setCell (HBU.out.trans ?_) ?_ _) ?_ _) ?_ _) ?_ _) ?_ _ <;> first | exact HB2.out.mono (by omega) | exact HB1.out.mono (by omega) | (simp; done) | (simp; omega))
end Go.Proofs.Ytdfbddepeacebaa
