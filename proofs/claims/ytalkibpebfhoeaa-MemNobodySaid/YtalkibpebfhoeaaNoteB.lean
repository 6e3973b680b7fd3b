/- Contracts of access by Store and by Swap over the seat's program, where the access is noted. -/
import Derived.Test.YtalkibpebfhoeaaNote
import Derived.Deep.RegionLaw
namespace Go.Proofs.Ytalkibpebfhoeaa
open Go.ChangeShapes Go.WideShapes Go.ChangeAt Go.RowKit Go.Joins
attribute [local go_sem ↓] Go.wp_at_zero Go.wp_at_succ

set_option maxRecDepth 100000 in
set_option maxHeartbeats 3200000 in
theorem note26_in (B BL p bw n i m : Nat) (xs : List Value) (hm : m < 1000) (lv : Value) (cnt f : Nat → Int) (x : Int) (kind want now : Int) (ok : Bool) (cb : Nat) (k : Nat) (hk : k < 64) (hi : i < n) (hx : f i = x) (w : World) (hB : B ≤ w.heap.size) (h : MObj w B p bw n lv cnt true f)
    (hown : w.ownsRow BL 52 7 lv m xs) (hL : p < BL ∧ bw < BL ∧ BL ≤ w.heap.size)
    (hF : ∀ W, (∀ b o, b < w.heap.size → W.cell? ⟨b, o, none⟩ = w.cell? ⟨b, o, none⟩) → Calls Try.prog 26 #[.int .u64 x, .pointer (some ⟨cb, 0, none⟩)] W fun e w' => e = .returned (.tuple #[.int .u64 now, .bool ok]) ∧ W = w') :
    Calls Try.prog 21 #[.pointer (some ⟨p, 0, none⟩), .agg #[.int .i64 (k : Int), .int .i64 kind, .int .i64 i, .int .u64 want, .int .u64 0, .int .u64 0, .bool false], .func (.func 26) #[] #[.pointer (some ⟨cb, 0, none⟩)]] w
      (NotePost w B BL p bw n (m + 1) (xs ++ [.int .i64 k, .int .i64 kind, .int .i64 i, .int .u64 want, .int .u64 x, .int .u64 now, .bool ok]) (upd cnt k (wrap64 (cnt k + 1))) (upd f i now) (.agg #[.int .i64 (k : Int), .int .i64 kind, .int .i64 i, .int .u64 want, .int .u64 x, .int .u64 now, .bool ok])) := by
  have HF := Lib.hid hF
  have HW := Lib.hid hown
  have HL := Lib.hid hL
  have HO := Lib.hid h
  have HB := Lib.hid hB
  have c0 := h.words
  have ck := h.keep
  have cx := h.row i hi
  have fx := h.rowfree i hi
  have cc := h.count k hk
  have fc := h.free (2 + k) (by omega)
  rw [hx] at cx
  obtain ⟨p0, p1⟩ := h.hp
  obtain ⟨b0, b1⟩ := h.hbw
  have ne := h.ne
  obtain ⟨n0, n1⟩ := h.hn
  have HM := Lib.hid (fun W (h : W.cell? ⟨p, 0, none⟩ = some (.slice (some ⟨bw, 0, none⟩) n n)) => made_yes p bw n n0 W h)
  have HH := Lib.hid (fun W (h : W.cell? ⟨p, 0, none⟩ = some (.slice (some ⟨bw, 0, none⟩) n n)) => show Calls Try.prog 23 #[.pointer (some ⟨p, 0, none⟩), .int .i64 i] W fun e w' => e = .returned (.bool true) ∧ W = w' by
    have := has_yes p bw n i n0 W h
    rw [show (decide (0 ≤ (i : Int)) && decide ((i : Int) < n)) = true by simp; omega] at this
    exact this)
  have i0 : (0 : Int) ≤ (i : Int) := by omega
  have i1 : (i : Int) < (n : Int) := by omega
  have k0 : (0 : Int) ≤ (k : Int) := by omega
  have k1 : (k : Int) < 64 := by omega
  have p2 : p < w.heap.size + 1 := by omega
  have b2 : bw < w.heap.size + 1 := by omega
  have pn : w.heap.size ≠ p := by omega
  have bn : w.heap.size ≠ bw := by omega
  have HI52 := Lib.hid (info_parts Try.info52)
  clear hF h hB hown hL
  go_enter Try.func21, Try.ntmps21
  go_wp2_with (first
    | (go_at_call 20; (with_reducible refine (HM.out _ (by go_simp)).mono ?_); rintro e w1 ⟨rfl, rfl⟩)
    | (go_at_call 23; (with_reducible refine (HH.out _ (by go_simp)).mono ?_); rintro e w1 ⟨rfl, rfl⟩))
  go_region_held3 (fun w' => w'.cell? ⟨p, 0, none⟩ = some (.slice (some ⟨bw, 0, none⟩) n n) ∧ w'.cell? ⟨w.heap.size, 2, none⟩ = some (.int .i64 i) ∧ w'.cell? ⟨bw, i, none⟩ = some (.int .u64 x))
    (first | (go_simp; done) | go_keep)
    (fail)
  all_goals go_wp2_with (go_at_call 26; (with_reducible refine (HF.out _ (bcell (by repeat' (first | with_reducible exact Below.refl _ _ | with_reducible refine Below.drew ?_ | with_reducible refine Below.alloc ?_ ?_ _ | (simp; done) | (simp; omega) | omega))).1).mono ?_); rintro e w1 ⟨rfl, rfl⟩)
  go_region_held3 (fun w' => w'.cell? ⟨p, 0, none⟩ = some (.slice (some ⟨bw, 0, none⟩) n n) ∧ w'.cell? ⟨w.heap.size, 2, none⟩ = some (.int .i64 i) ∧ w'.cell? ⟨w.heap.size, 5, none⟩ = some (.int .u64 now))
    (first | (go_simp; done) | go_keep)
    (fail)
  all_goals go_wp2_with fail
  go_region
  all_goals go_wp2_with fail
  have hB := HB.out
  have hL := HL.out
  have hrl := HW.out.lt
  obtain ⟨i0, hi0, hz0, hz1, hz2⟩ := HI52.out
  have HI := Lib.hid (And.intro hi0 (And.intro hz0 (And.intro hz1 hz2)))
  clear hi0 hz0 hz1 hz2
  refine abstract_code (fun W => (MObj W B p bw n lv (upd cnt k (wrap64 (cnt k + 1))) true (upd f i now) ∧ W.ownsRow BL 52 7 lv m xs ∧ Below B w W ∧ w.heap.size + 1 < W.heap.size) ∧ W.cell? ⟨w.heap.size, 0, none⟩ = some (.int .i64 k) ∧ W.cell? ⟨w.heap.size, 1, none⟩ = some (.int .i64 kind) ∧ W.cell? ⟨w.heap.size, 2, none⟩ = some (.int .i64 i) ∧ W.cell? ⟨w.heap.size, 3, none⟩ = some (.int .u64 want) ∧ W.cell? ⟨w.heap.size, 4, none⟩ = some (.int .u64 x) ∧ W.cell? ⟨w.heap.size, 5, none⟩ = some (.int .u64 now) ∧ W.cell? ⟨w.heap.size, 6, none⟩ = some (.bool ok) ∧ W.cell? ⟨w.heap.size + 1, 0, none⟩ = some (.int .i64 0) ∧ W.cell? ⟨w.heap.size + 1, 1, none⟩ = some (.int .i64 0) ∧ W.cell? ⟨w.heap.size + 1, 2, none⟩ = some (.int .i64 0) ∧ W.cell? ⟨w.heap.size + 1, 3, none⟩ = some (.int .u64 0) ∧ W.cell? ⟨w.heap.size + 1, 4, none⟩ = some (.int .u64 0) ∧ W.cell? ⟨w.heap.size + 1, 5, none⟩ = some (.int .u64 0) ∧ W.cell? ⟨w.heap.size + 1, 6, none⟩ = some (.bool false) ∧ W.frozen? ⟨w.heap.size + 1, 0, none⟩ = false ∧ W.frozen? ⟨w.heap.size + 1, 1, none⟩ = false ∧ W.frozen? ⟨w.heap.size + 1, 2, none⟩ = false ∧ W.frozen? ⟨w.heap.size + 1, 3, none⟩ = false ∧ W.frozen? ⟨w.heap.size + 1, 4, none⟩ = false ∧ W.frozen? ⟨w.heap.size + 1, 5, none⟩ = false ∧ W.frozen? ⟨w.heap.size + 1, 6, none⟩ = false) ⟨⟨((((((HO.out.setWord i hi now).setCount k hk _).alloc _).alloc _).drew.drew.drew)), ?_, ?_, by simp⟩, by go_simp, by go_simp, by go_simp, by go_simp, by go_simp, by go_simp, by go_simp, by go_simp, by go_simp, by go_simp, by go_simp, by go_simp, by go_simp, by go_simp, by go_simp, by go_simp, by go_simp, by go_simp, by go_simp, by go_simp, by go_simp⟩ ?_
  · exact ((((((HW.out.kept (Go.Lib.grownBy_setCell _ _ _ _) (.inr fun e => by have := (hrl _ e).1; omega)).kept (Go.Lib.grownBy_setCell _ _ _ _) (.inr fun e => by have := (hrl _ e).1; omega)).alloc _).alloc _).drew).drew).drew
  · repeat' (first | with_reducible exact Below.refl _ _ | with_reducible refine Below.drew ?_ | with_reducible refine Below.alloc ?_ ?_ _ | with_reducible refine Below.setCell ?_ ?_ _ | (simp; done) | (simp; omega) | omega)
  rintro u ⟨⟨hMu, hWu, hBu, hq1⟩, z0, z1, z2, z3, z4, z5, z6, z7, z8, z9, z10, z11, z12, z13, z14, z15, z16, z17, z18, z19, z20⟩
  have HMu := Lib.hid hMu
  have HWu := Lib.hid hWu
  have HBu := Lib.hid hBu
  have l0 := hMu.log
  have g0 := hMu.free 1 (by omega)
  have hp0 := hMu.hp.2
  have hq0 : w.heap.size < u.heap.size := by omega
  have hr0 : some w.heap.size ≠ lv.ownBlock := fun e => by have := (hrl _ e.symm).2; omega
  have hr1 : some (w.heap.size + 1) ≠ lv.ownBlock := fun e => by have := (hrl _ e.symm).2; omega
  have hrp : lv.ownBlock ≠ some p := fun e => by have := (hrl _ e).1; omega
  have hrb : lv.ownBlock ≠ some bw := fun e => by have := (hrl _ e).1; omega
  have hrB : ∀ j, lv.ownBlock = some j → B ≤ j := fun j e => by have := (hrl _ e).1; omega
  have HRL := Lib.hid hrl
  clear hMu hWu hBu hrl c0 ck cx fx cc fc
  go_region_law (first | (refine step_append_lies _ (by rfl) _ _ _ (by rfl) BL 52 i0 _ 7 56 Try.underlying37 HI.out.1 HI.out.2.1 HI.out.2.2.1 HI.out.2.2.2 rfl (by omega) lv m xs (by rfl) ((HWu.out.alloc _).drew) ⟨u.heap.size, 0, none⟩ 1 1 [.int .i64 k, .int .i64 kind, .int .i64 i, .int .u64 want, .int .u64 x, .int .u64 now, .bool ok] (by rfl) (by rfl) (World.news_of_block (cs := #[.int .i64 k, .int .i64 kind, .int .i64 i, .int .u64 want, .int .u64 x, .int .u64 now, .bool ok]) (t := 52) (fr := (0, 0)) (heap_alloc_new u _)) (by simp [Value.oneCell']) (by omega) (by unfold maxLen; omega) (by omega) (by simp; omega) (u.heap.size + 1) (by simp) ?_; intro gg cap' w1 hown1 hgrow hat hlt'; have hgr := grown_ad hgrow; have HM1 := Lib.hid (MObj.grown HMu.out hgr hrp hrb); have l1 := HM1.out.log; have g1 := HM1.out.free 1 (by omega); have z0 := (hgr.cell_far ⟨w.heap.size, 0, none⟩ hq0 hr0).trans z0; have z1 := (hgr.cell_far ⟨w.heap.size, 1, none⟩ hq0 hr0).trans z1; have z2 := (hgr.cell_far ⟨w.heap.size, 2, none⟩ hq0 hr0).trans z2; have z3 := (hgr.cell_far ⟨w.heap.size, 3, none⟩ hq0 hr0).trans z3; have z4 := (hgr.cell_far ⟨w.heap.size, 4, none⟩ hq0 hr0).trans z4; have z5 := (hgr.cell_far ⟨w.heap.size, 5, none⟩ hq0 hr0).trans z5; have z6 := (hgr.cell_far ⟨w.heap.size, 6, none⟩ hq0 hr0).trans z6; have z7 := (hgr.cell_far ⟨w.heap.size + 1, 0, none⟩ hq1 hr1).trans z7; have z8 := (hgr.cell_far ⟨w.heap.size + 1, 1, none⟩ hq1 hr1).trans z8; have z9 := (hgr.cell_far ⟨w.heap.size + 1, 2, none⟩ hq1 hr1).trans z9; have z10 := (hgr.cell_far ⟨w.heap.size + 1, 3, none⟩ hq1 hr1).trans z10; have z11 := (hgr.cell_far ⟨w.heap.size + 1, 4, none⟩ hq1 hr1).trans z11; have z12 := (hgr.cell_far ⟨w.heap.size + 1, 5, none⟩ hq1 hr1).trans z12; have z13 := (hgr.cell_far ⟨w.heap.size + 1, 6, none⟩ hq1 hr1).trans z13; have z14 := (hgr.frozen_far ⟨w.heap.size + 1, 0, none⟩ hq1 hr1).trans z14; have z15 := (hgr.frozen_far ⟨w.heap.size + 1, 1, none⟩ hq1 hr1).trans z15; have z16 := (hgr.frozen_far ⟨w.heap.size + 1, 2, none⟩ hq1 hr1).trans z16; have z17 := (hgr.frozen_far ⟨w.heap.size + 1, 3, none⟩ hq1 hr1).trans z17; have z18 := (hgr.frozen_far ⟨w.heap.size + 1, 4, none⟩ hq1 hr1).trans z18; have z19 := (hgr.frozen_far ⟨w.heap.size + 1, 5, none⟩ hq1 hr1).trans z19; have z20 := (hgr.frozen_far ⟨w.heap.size + 1, 6, none⟩ hq1 hr1).trans z20; have HO1 := Lib.hid hown1; have HG := Lib.hid hat; have HBW1 := Lib.hid (Below.grown HBu.out hgr (by omega) hrB); have hz1 : w.heap.size + 1 < w1.heap.size := Nat.lt_of_lt_of_le hq1 hgr.size; have hp1 := HM1.out.hp.2; clear hown1 hgrow hgr hat hlt'))
  all_goals go_wp2_with fail
  all_goals
    have hgg : BL ≤ gg := (HO1.out.lt gg rfl).1
    have hgR : gg ≠ w.heap.size + 1 := by
      rcases HG.out with e | e
      · have := (HRL.out _ e).2; omega
      · omega
    have hgP : gg ≠ p := by omega
    have hqp : w.heap.size + 1 ≠ p := by omega
    have hqb : w.heap.size + 1 ≠ bw := by omega
    refine bodyPost_ret (v := .tuple #[.agg #[.int .i64 k, .int .i64 kind, .int .i64 i, .int .u64 want, .int .u64 x, .int .u64 now, .bool ok], .int .i64 0]) (by simp [results, Try.results21, go_sem, z7, z8, z9, z10, z11, z12, z13]) rfl ⟨rfl, .slice (some ⟨gg, 0, none⟩) (m + 1) cap', ?_, ?_, ?_⟩
    · repeat (refine MObj.setFar ?_ _ _ hqp hqb)
      exact HM1.out.setLog _
    · repeat (refine World.ownsRow.kept ?_ (Go.Lib.grownBy_setCell _ _ _ _) (.inr fun e => by injection e with e; first | exact hgR e | exact hgP e))
      exact HO1.out
    · repeat' (first | with_reducible exact HBW1.out | with_reducible refine Below.setCell ?_ ?_ _ | with_reducible refine Below.drew ?_ | (simp; done) | (simp; omega) | omega)

set_option maxRecDepth 100000 in
set_option maxHeartbeats 3200000 in
theorem note22_in (B BL p bw n i m : Nat) (xs : List Value) (hm : m < 1000) (lv : Value) (cnt f : Nat → Int) (x : Int) (kind want now : Int) (ok : Bool) (cb cd : Nat) (k : Nat) (hk : k < 64) (hi : i < n) (hx : f i = x) (w : World) (hB : B ≤ w.heap.size) (h : MObj w B p bw n lv cnt true f)
    (hown : w.ownsRow BL 52 7 lv m xs) (hL : p < BL ∧ bw < BL ∧ BL ≤ w.heap.size)
    (hF : ∀ W, (∀ b o, b < w.heap.size → W.cell? ⟨b, o, none⟩ = w.cell? ⟨b, o, none⟩) → Calls Try.prog 22 #[.int .u64 x, .pointer (some ⟨cb, 0, none⟩), .pointer (some ⟨cd, 0, none⟩)] W fun e w' => e = .returned (.tuple #[.int .u64 now, .bool ok]) ∧ W = w') :
    Calls Try.prog 21 #[.pointer (some ⟨p, 0, none⟩), .agg #[.int .i64 (k : Int), .int .i64 kind, .int .i64 i, .int .u64 want, .int .u64 0, .int .u64 0, .bool false], .func (.func 22) #[] #[.pointer (some ⟨cb, 0, none⟩), .pointer (some ⟨cd, 0, none⟩)]] w
      (NotePost w B BL p bw n (m + 1) (xs ++ [.int .i64 k, .int .i64 kind, .int .i64 i, .int .u64 want, .int .u64 x, .int .u64 now, .bool ok]) (upd cnt k (wrap64 (cnt k + 1))) (upd f i now) (.agg #[.int .i64 (k : Int), .int .i64 kind, .int .i64 i, .int .u64 want, .int .u64 x, .int .u64 now, .bool ok])) := by
  have HF := Lib.hid hF
  have HW := Lib.hid hown
  have HL := Lib.hid hL
  have HO := Lib.hid h
  have HB := Lib.hid hB
  have c0 := h.words
  have ck := h.keep
  have cx := h.row i hi
  have fx := h.rowfree i hi
  have cc := h.count k hk
  have fc := h.free (2 + k) (by omega)
  rw [hx] at cx
  obtain ⟨p0, p1⟩ := h.hp
  obtain ⟨b0, b1⟩ := h.hbw
  have ne := h.ne
  obtain ⟨n0, n1⟩ := h.hn
  have HM := Lib.hid (fun W (h : W.cell? ⟨p, 0, none⟩ = some (.slice (some ⟨bw, 0, none⟩) n n)) => made_yes p bw n n0 W h)
  have HH := Lib.hid (fun W (h : W.cell? ⟨p, 0, none⟩ = some (.slice (some ⟨bw, 0, none⟩) n n)) => show Calls Try.prog 23 #[.pointer (some ⟨p, 0, none⟩), .int .i64 i] W fun e w' => e = .returned (.bool true) ∧ W = w' by
    have := has_yes p bw n i n0 W h
    rw [show (decide (0 ≤ (i : Int)) && decide ((i : Int) < n)) = true by simp; omega] at this
    exact this)
  have i0 : (0 : Int) ≤ (i : Int) := by omega
  have i1 : (i : Int) < (n : Int) := by omega
  have k0 : (0 : Int) ≤ (k : Int) := by omega
  have k1 : (k : Int) < 64 := by omega
  have p2 : p < w.heap.size + 1 := by omega
  have b2 : bw < w.heap.size + 1 := by omega
  have pn : w.heap.size ≠ p := by omega
  have bn : w.heap.size ≠ bw := by omega
  have HI52 := Lib.hid (info_parts Try.info52)
  clear hF h hB hown hL
  go_enter Try.func21, Try.ntmps21
  go_wp2_with (first
    | (go_at_call 20; (with_reducible refine (HM.out _ (by go_simp)).mono ?_); rintro e w1 ⟨rfl, rfl⟩)
    | (go_at_call 23; (with_reducible refine (HH.out _ (by go_simp)).mono ?_); rintro e w1 ⟨rfl, rfl⟩))
  go_region_held3 (fun w' => w'.cell? ⟨p, 0, none⟩ = some (.slice (some ⟨bw, 0, none⟩) n n) ∧ w'.cell? ⟨w.heap.size, 2, none⟩ = some (.int .i64 i) ∧ w'.cell? ⟨bw, i, none⟩ = some (.int .u64 x))
    (first | (go_simp; done) | go_keep)
    (fail)
  all_goals go_wp2_with (go_at_call 22; (with_reducible refine (HF.out _ (bcell (by repeat' (first | with_reducible exact Below.refl _ _ | with_reducible refine Below.drew ?_ | with_reducible refine Below.alloc ?_ ?_ _ | (simp; done) | (simp; omega) | omega))).1).mono ?_); rintro e w1 ⟨rfl, rfl⟩)
  go_region_held3 (fun w' => w'.cell? ⟨p, 0, none⟩ = some (.slice (some ⟨bw, 0, none⟩) n n) ∧ w'.cell? ⟨w.heap.size, 2, none⟩ = some (.int .i64 i) ∧ w'.cell? ⟨w.heap.size, 5, none⟩ = some (.int .u64 now))
    (first | (go_simp; done) | go_keep)
    (fail)
  all_goals go_wp2_with fail
  go_region
  all_goals go_wp2_with fail
  have hB := HB.out
  have hL := HL.out
  have hrl := HW.out.lt
  obtain ⟨i0, hi0, hz0, hz1, hz2⟩ := HI52.out
  have HI := Lib.hid (And.intro hi0 (And.intro hz0 (And.intro hz1 hz2)))
  clear hi0 hz0 hz1 hz2
  refine abstract_code (fun W => (MObj W B p bw n lv (upd cnt k (wrap64 (cnt k + 1))) true (upd f i now) ∧ W.ownsRow BL 52 7 lv m xs ∧ Below B w W ∧ w.heap.size + 1 < W.heap.size) ∧ W.cell? ⟨w.heap.size, 0, none⟩ = some (.int .i64 k) ∧ W.cell? ⟨w.heap.size, 1, none⟩ = some (.int .i64 kind) ∧ W.cell? ⟨w.heap.size, 2, none⟩ = some (.int .i64 i) ∧ W.cell? ⟨w.heap.size, 3, none⟩ = some (.int .u64 want) ∧ W.cell? ⟨w.heap.size, 4, none⟩ = some (.int .u64 x) ∧ W.cell? ⟨w.heap.size, 5, none⟩ = some (.int .u64 now) ∧ W.cell? ⟨w.heap.size, 6, none⟩ = some (.bool ok) ∧ W.cell? ⟨w.heap.size + 1, 0, none⟩ = some (.int .i64 0) ∧ W.cell? ⟨w.heap.size + 1, 1, none⟩ = some (.int .i64 0) ∧ W.cell? ⟨w.heap.size + 1, 2, none⟩ = some (.int .i64 0) ∧ W.cell? ⟨w.heap.size + 1, 3, none⟩ = some (.int .u64 0) ∧ W.cell? ⟨w.heap.size + 1, 4, none⟩ = some (.int .u64 0) ∧ W.cell? ⟨w.heap.size + 1, 5, none⟩ = some (.int .u64 0) ∧ W.cell? ⟨w.heap.size + 1, 6, none⟩ = some (.bool false) ∧ W.frozen? ⟨w.heap.size + 1, 0, none⟩ = false ∧ W.frozen? ⟨w.heap.size + 1, 1, none⟩ = false ∧ W.frozen? ⟨w.heap.size + 1, 2, none⟩ = false ∧ W.frozen? ⟨w.heap.size + 1, 3, none⟩ = false ∧ W.frozen? ⟨w.heap.size + 1, 4, none⟩ = false ∧ W.frozen? ⟨w.heap.size + 1, 5, none⟩ = false ∧ W.frozen? ⟨w.heap.size + 1, 6, none⟩ = false) ⟨⟨((((((HO.out.setWord i hi now).setCount k hk _).alloc _).alloc _).drew.drew.drew)), ?_, ?_, by simp⟩, by go_simp, by go_simp, by go_simp, by go_simp, by go_simp, by go_simp, by go_simp, by go_simp, by go_simp, by go_simp, by go_simp, by go_simp, by go_simp, by go_simp, by go_simp, by go_simp, by go_simp, by go_simp, by go_simp, by go_simp, by go_simp⟩ ?_
  · exact ((((((HW.out.kept (Go.Lib.grownBy_setCell _ _ _ _) (.inr fun e => by have := (hrl _ e).1; omega)).kept (Go.Lib.grownBy_setCell _ _ _ _) (.inr fun e => by have := (hrl _ e).1; omega)).alloc _).alloc _).drew).drew).drew
  · repeat' (first | with_reducible exact Below.refl _ _ | with_reducible refine Below.drew ?_ | with_reducible refine Below.alloc ?_ ?_ _ | with_reducible refine Below.setCell ?_ ?_ _ | (simp; done) | (simp; omega) | omega)
  rintro u ⟨⟨hMu, hWu, hBu, hq1⟩, z0, z1, z2, z3, z4, z5, z6, z7, z8, z9, z10, z11, z12, z13, z14, z15, z16, z17, z18, z19, z20⟩
  have HMu := Lib.hid hMu
  have HWu := Lib.hid hWu
  have HBu := Lib.hid hBu
  have l0 := hMu.log
  have g0 := hMu.free 1 (by omega)
  have hp0 := hMu.hp.2
  have hq0 : w.heap.size < u.heap.size := by omega
  have hr0 : some w.heap.size ≠ lv.ownBlock := fun e => by have := (hrl _ e.symm).2; omega
  have hr1 : some (w.heap.size + 1) ≠ lv.ownBlock := fun e => by have := (hrl _ e.symm).2; omega
  have hrp : lv.ownBlock ≠ some p := fun e => by have := (hrl _ e).1; omega
  have hrb : lv.ownBlock ≠ some bw := fun e => by have := (hrl _ e).1; omega
  have hrB : ∀ j, lv.ownBlock = some j → B ≤ j := fun j e => by have := (hrl _ e).1; omega
  have HRL := Lib.hid hrl
  clear hMu hWu hBu hrl c0 ck cx fx cc fc
  go_region_law (first | (refine step_append_lies _ (by rfl) _ _ _ (by rfl) BL 52 i0 _ 7 56 Try.underlying37 HI.out.1 HI.out.2.1 HI.out.2.2.1 HI.out.2.2.2 rfl (by omega) lv m xs (by rfl) ((HWu.out.alloc _).drew) ⟨u.heap.size, 0, none⟩ 1 1 [.int .i64 k, .int .i64 kind, .int .i64 i, .int .u64 want, .int .u64 x, .int .u64 now, .bool ok] (by rfl) (by rfl) (World.news_of_block (cs := #[.int .i64 k, .int .i64 kind, .int .i64 i, .int .u64 want, .int .u64 x, .int .u64 now, .bool ok]) (t := 52) (fr := (0, 0)) (heap_alloc_new u _)) (by simp [Value.oneCell']) (by omega) (by unfold maxLen; omega) (by omega) (by simp; omega) (u.heap.size + 1) (by simp) ?_; intro gg cap' w1 hown1 hgrow hat hlt'; have hgr := grown_ad hgrow; have HM1 := Lib.hid (MObj.grown HMu.out hgr hrp hrb); have l1 := HM1.out.log; have g1 := HM1.out.free 1 (by omega); have z0 := (hgr.cell_far ⟨w.heap.size, 0, none⟩ hq0 hr0).trans z0; have z1 := (hgr.cell_far ⟨w.heap.size, 1, none⟩ hq0 hr0).trans z1; have z2 := (hgr.cell_far ⟨w.heap.size, 2, none⟩ hq0 hr0).trans z2; have z3 := (hgr.cell_far ⟨w.heap.size, 3, none⟩ hq0 hr0).trans z3; have z4 := (hgr.cell_far ⟨w.heap.size, 4, none⟩ hq0 hr0).trans z4; have z5 := (hgr.cell_far ⟨w.heap.size, 5, none⟩ hq0 hr0).trans z5; have z6 := (hgr.cell_far ⟨w.heap.size, 6, none⟩ hq0 hr0).trans z6; have z7 := (hgr.cell_far ⟨w.heap.size + 1, 0, none⟩ hq1 hr1).trans z7; have z8 := (hgr.cell_far ⟨w.heap.size + 1, 1, none⟩ hq1 hr1).trans z8; have z9 := (hgr.cell_far ⟨w.heap.size + 1, 2, none⟩ hq1 hr1).trans z9; have z10 := (hgr.cell_far ⟨w.heap.size + 1, 3, none⟩ hq1 hr1).trans z10; have z11 := (hgr.cell_far ⟨w.heap.size + 1, 4, none⟩ hq1 hr1).trans z11; have z12 := (hgr.cell_far ⟨w.heap.size + 1, 5, none⟩ hq1 hr1).trans z12; have z13 := (hgr.cell_far ⟨w.heap.size + 1, 6, none⟩ hq1 hr1).trans z13; have z14 := (hgr.frozen_far ⟨w.heap.size + 1, 0, none⟩ hq1 hr1).trans z14; have z15 := (hgr.frozen_far ⟨w.heap.size + 1, 1, none⟩ hq1 hr1).trans z15; have z16 := (hgr.frozen_far ⟨w.heap.size + 1, 2, none⟩ hq1 hr1).trans z16; have z17 := (hgr.frozen_far ⟨w.heap.size + 1, 3, none⟩ hq1 hr1).trans z17; have z18 := (hgr.frozen_far ⟨w.heap.size + 1, 4, none⟩ hq1 hr1).trans z18; have z19 := (hgr.frozen_far ⟨w.heap.size + 1, 5, none⟩ hq1 hr1).trans z19; have z20 := (hgr.frozen_far ⟨w.heap.size + 1, 6, none⟩ hq1 hr1).trans z20; have HO1 := Lib.hid hown1; have HG := Lib.hid hat; have HBW1 := Lib.hid (Below.grown HBu.out hgr (by omega) hrB); have hz1 : w.heap.size + 1 < w1.heap.size := Nat.lt_of_lt_of_le hq1 hgr.size; have hp1 := HM1.out.hp.2; clear hown1 hgrow hgr hat hlt'))
  all_goals go_wp2_with fail
  all_goals
    have hgg : BL ≤ gg := (HO1.out.lt gg rfl).1
    have hgR : gg ≠ w.heap.size + 1 := by
      rcases HG.out with e | e
      · have := (HRL.out _ e).2; omega
      · omega
    have hgP : gg ≠ p := by omega
    have hqp : w.heap.size + 1 ≠ p := by omega
    have hqb : w.heap.size + 1 ≠ bw := by omega
    refine bodyPost_ret (v := .tuple #[.agg #[.int .i64 k, .int .i64 kind, .int .i64 i, .int .u64 want, .int .u64 x, .int .u64 now, .bool ok], .int .i64 0]) (by simp [results, Try.results21, go_sem, z7, z8, z9, z10, z11, z12, z13]) rfl ⟨rfl, .slice (some ⟨gg, 0, none⟩) (m + 1) cap', ?_, ?_, ?_⟩
    · repeat (refine MObj.setFar ?_ _ _ hqp hqb)
      exact HM1.out.setLog _
    · repeat (refine World.ownsRow.kept ?_ (Go.Lib.grownBy_setCell _ _ _ _) (.inr fun e => by injection e with e; first | exact hgR e | exact hgP e))
      exact HO1.out
    · repeat' (first | with_reducible exact HBW1.out | with_reducible refine Below.setCell ?_ ?_ _ | with_reducible refine Below.drew ?_ | (simp; done) | (simp; omega) | omega)
end Go.Proofs.Ytalkibpebfhoeaa
