/- The walk of PackSaid over the seat's program, where the words are no call's. -/
import Derived.Test.YtcbdbpcibhjkjabMath
import Derived.Test.YtcbdbpcibhjkjabAwake
namespace Go.Proofs.Ytcbdbpcibhjkjab
open Go.ChangeShapes Go.WideShapes Go.ChangeAt Go.RowKit Go.Joins

set_option maxRecDepth 100000 in
set_option maxHeartbeats 3200000 in
theorem said_nn (k a x phase : Int) (d : Bool) (a1 a2 : Option Addr) (c1 c2 : Nat) (cs : List C3) (xs : List Int) (w : World) (hv : CasesAt w (.slice a1 cs.length c1) cs) (hl : WordsAt w (.slice a2 xs.length c2) xs) (hx : ∀ x ∈ xs, 0 ≤ x ∧ x < 18446744073709551616)
    (hg : readG xs = ⟨0, 0, 0, false, [], 0, false⟩) (hf : ¬ (fitsB k a x cs = true ∧ inB phase 4294967295 = true)) :
    Calls Try.prog 7 #[.agg #[.int .i64 k, .int .i64 a, .int .i64 x, .bool d, .slice a1 cs.length c1], .int .i64 phase, .slice a2 xs.length c2] w fun e w' => e = .returned (.bool true) ∧ Below w.heap.size w w' := by
  have hB : Below w.heap.size w (w.alloc (.cells #[.int .i64 k, .int .i64 a, .int .i64 x, .bool d, .slice a1 cs.length c1] 37)) := (Below.refl _ _).alloc (Nat.le_refl _) _
  have HR1 := Lib.hid (readCall_any (w.alloc (.cells #[.int .i64 k, .int .i64 a, .int .i64 x, .bool d, .slice a1 cs.length c1] 37)) (hl.below hB) hx)
  rw [hg] at HR1
  have HV0 := Lib.hid (hv.below hB)
  have HL0 := Lib.hid (hl.below hB)
  have HB0 := Lib.hid hB
  have HC := Lib.hid (fun W (h : CasesAt W (.slice a1 cs.length c1) cs) => show Calls Try.prog 28 #[.agg #[.int .i64 k, .int .i64 a, .int .i64 x, .bool d, .slice a1 cs.length c1], .int .i64 phase] W (RetWords [] W) by have := call_any k a x d phase W h; rw [callL_none k a x d cs phase hf] at this; exact this)
  have HRD := Lib.hid (fun W {u : Value} (h : WordsAt W u []) => show Calls Try.prog 23 #[u] W (RetGot ⟨0, 0, 0, false, [], 0, false⟩ W) from readCall_any W h (fun _ h => by cases h))
  clear hf hv hl hx hg hB
  go_enter Try.func7, Try.ntmps7
  go_wp2_with fail
  refine HR1.out.mono ?_
  rintro e w1 ⟨cv, rfl, hcv, hb1⟩
  obtain ⟨ca, cc, rfl⟩ := hcv.form
  obtain ⟨hc1, hf1⟩ := bcell hb1
  have hz1 : w.heap.size < w1.heap.size := lt_size (by simp) hb1
  have q0 : w1.cell? ⟨w.heap.size, 0, none⟩ = some (.int .i64 k) := by rw [hc1 _ _ (by simp)]; go_simp
  have q1 : w1.cell? ⟨w.heap.size, 1, none⟩ = some (.int .i64 a) := by rw [hc1 _ _ (by simp)]; go_simp
  have q2 : w1.cell? ⟨w.heap.size, 2, none⟩ = some (.int .i64 x) := by rw [hc1 _ _ (by simp)]; go_simp
  have q3 : w1.cell? ⟨w.heap.size, 3, none⟩ = some (.bool d) := by rw [hc1 _ _ (by simp)]; go_simp
  have q4 : w1.cell? ⟨w.heap.size, 4, none⟩ = some (.slice a1 cs.length c1) := by rw [hc1 _ _ (by simp)]; go_simp
  have HV1 := Lib.hid (HV0.out.below hb1)
  have HL1 := Lib.hid (HL0.out.below hb1)
  have HB1 := Lib.hid (HB0.out.trans (hb1.mono (by simp)))
  clear hc1 hf1 hb1
  go_wp2_with fail
  refine abstract_it (fun W => (W.cell? ⟨w.heap.size, 0, none⟩ = some (.int .i64 k) ∧ W.cell? ⟨w.heap.size, 1, none⟩ = some (.int .i64 a) ∧ W.cell? ⟨w.heap.size, 2, none⟩ = some (.int .i64 x) ∧ W.cell? ⟨w.heap.size, 3, none⟩ = some (.bool d) ∧ W.cell? ⟨w.heap.size, 4, none⟩ = some (.slice a1 cs.length c1)) ∧ CasesAt W (.slice a1 cs.length c1) cs ∧ Below w.heap.size w W ∧ w.heap.size < W.heap.size) ⟨⟨by go_simp, by go_simp, by go_simp, by go_simp, by go_simp⟩, HV1.out.below ((Below.refl _ _).alloc (Nat.le_refl _) _), HB1.out.trans ((Below.refl _ _).alloc (Nat.le_of_lt hz1) _), by simp; omega⟩ ?_
  clear q0 q1 q2 q3 q4
  intro W hW
  obtain ⟨⟨q0, q1, q2, q3, q4⟩, hvW, hbW, hzW⟩ := hW
  refine (HC.out W hvW).mono ?_
  rintro e w5 ⟨lv2, rfl, hlv2, hb5⟩
  have HR := Lib.hid (HRD.out w5 hlv2)
  obtain ⟨la, lc, rfl⟩ := hlv2.form
  obtain ⟨hc5, hf5⟩ := bcell hb5
  have r0 := (hc5 _ 0 hzW).trans q0
  have r1 := (hc5 _ 1 hzW).trans q1
  have r2 := (hc5 _ 2 hzW).trans q2
  have r3 := (hc5 _ 3 hzW).trans q3
  have r4 := (hc5 _ 4 hzW).trans q4
  have HV5 := Lib.hid (hvW.below hb5)
  have HB5 := Lib.hid (hbW.trans (hb5.mono (Nat.le_of_lt hzW)))
  have hz5 : w.heap.size < w5.heap.size := Nat.lt_of_lt_of_le hzW hb5.size
  clear q0 q1 q2 q3 q4 hvW hbW hc5 hf5 hb5 hlv2 hzW
  go_wp2_with fail
  refine HR.out.mono ?_
  rintro e w6 ⟨cv6, rfl, hcv6, hb6⟩
  obtain ⟨ca6, cc6, rfl⟩ := hcv6.form
  obtain ⟨hc6, hf6⟩ := bcell hb6
  have s0 := (hc6 _ 0 hz5).trans r0
  have s1 := (hc6 _ 1 hz5).trans r1
  have s2 := (hc6 _ 2 hz5).trans r2
  have s3 := (hc6 _ 3 hz5).trans r3
  have s4 := (hc6 _ 4 hz5).trans r4
  have HV6 := Lib.hid (HV5.out.below hb6)
  have HB6 := Lib.hid (HB5.out.trans (hb6.mono (Nat.le_of_lt hz5)))
  have HCV6 := Lib.hid hcv6
  have hz6 : w.heap.size < w6.heap.size := Nat.lt_of_lt_of_le hz5 hb6.size
  clear r0 r1 r2 r3 r4 hc6 hf6 hb6 hcv6 hz5
  go_wp2_with (go_at_call 16; (with_reducible refine (awake_any _).mono ?_); rintro e w8 ⟨rfl, hb8⟩)
  go_ret
  refine ⟨rfl, Below.trans (Below.trans HB6.out ?_) (hb8.mono ?_)⟩
  all_goals repeat' (first | with_reducible exact Below.refl _ _ | with_reducible refine Below.drew ?_ | with_reducible refine Below.alloc ?_ ?_ _ | (simp; done) | (simp; omega) | omega)

set_option maxRecDepth 100000 in
set_option maxHeartbeats 3200000 in
theorem said_ny (k a x phase : Int) (d : Bool) (a1 a2 : Option Addr) (c1 c2 : Nat) (cs : List C3) (xs : List Int) (w : World) (hv : CasesAt w (.slice a1 cs.length c1) cs) (hl : WordsAt w (.slice a2 xs.length c2) xs) (hx : ∀ x ∈ xs, 0 ≤ x ∧ x < 18446744073709551616)
    (hg : readG xs = ⟨0, 0, 0, false, [], 0, false⟩) (hf : fitsB k a x cs = true) (hp : inB phase 4294967295 = true) :
    Calls Try.prog 7 #[.agg #[.int .i64 k, .int .i64 a, .int .i64 x, .bool d, .slice a1 cs.length c1], .int .i64 phase, .slice a2 xs.length c2] w fun e w' => e = .returned (.bool true) ∧ Below w.heap.size w w' := by
  have hB : Below w.heap.size w (w.alloc (.cells #[.int .i64 k, .int .i64 a, .int .i64 x, .bool d, .slice a1 cs.length c1] 37)) := (Below.refl _ _).alloc (Nat.le_refl _) _
  have HR1 := Lib.hid (readCall_any (w.alloc (.cells #[.int .i64 k, .int .i64 a, .int .i64 x, .bool d, .slice a1 cs.length c1] 37)) (hl.below hB) hx)
  rw [hg] at HR1
  have HV0 := Lib.hid (hv.below hB)
  have HL0 := Lib.hid (hl.below hB)
  have HB0 := Lib.hid hB
  obtain ⟨ys, hys⟩ : ∃ ys, ys = callL k a x d cs phase := ⟨_, rfl⟩
  have HC := Lib.hid (fun W (h : CasesAt W (.slice a1 cs.length c1) cs) => show Calls Try.prog 28 #[.agg #[.int .i64 k, .int .i64 a, .int .i64 x, .bool d, .slice a1 cs.length c1], .int .i64 phase] W (RetWords ys W) by rw [hys]; exact call_any k a x d phase W h)
  have HRD := Lib.hid (fun W {u : Value} (h : WordsAt W u ys) => show Calls Try.prog 23 #[u] W (RetGot ⟨k, a, x, d, cs, phase, true⟩ W) by have := readCall_any W h (by rw [hys]; exact callL_bounds k a x d cs phase); rw [hys, readG_call k a x d cs phase hf hp] at this; exact this)
  have HYL := Lib.hid (show ys.length = 5 by rw [hys]; exact callL_len k a x d cs phase hf hp)
  clear hys hf hp hv hl hx hg hB
  go_enter Try.func7, Try.ntmps7
  go_wp2_with fail
  refine HR1.out.mono ?_
  rintro e w1 ⟨cv, rfl, hcv, hb1⟩
  obtain ⟨ca, cc, rfl⟩ := hcv.form
  obtain ⟨hc1, hf1⟩ := bcell hb1
  have hz1 : w.heap.size < w1.heap.size := lt_size (by simp) hb1
  have q0 : w1.cell? ⟨w.heap.size, 0, none⟩ = some (.int .i64 k) := by rw [hc1 _ _ (by simp)]; go_simp
  have q1 : w1.cell? ⟨w.heap.size, 1, none⟩ = some (.int .i64 a) := by rw [hc1 _ _ (by simp)]; go_simp
  have q2 : w1.cell? ⟨w.heap.size, 2, none⟩ = some (.int .i64 x) := by rw [hc1 _ _ (by simp)]; go_simp
  have q3 : w1.cell? ⟨w.heap.size, 3, none⟩ = some (.bool d) := by rw [hc1 _ _ (by simp)]; go_simp
  have q4 : w1.cell? ⟨w.heap.size, 4, none⟩ = some (.slice a1 cs.length c1) := by rw [hc1 _ _ (by simp)]; go_simp
  have HV1 := Lib.hid (HV0.out.below hb1)
  have HL1 := Lib.hid (HL0.out.below hb1)
  have HB1 := Lib.hid (HB0.out.trans (hb1.mono (by simp)))
  clear hc1 hf1 hb1
  go_wp2_with fail
  refine abstract_it (fun W => (W.cell? ⟨w.heap.size, 0, none⟩ = some (.int .i64 k) ∧ W.cell? ⟨w.heap.size, 1, none⟩ = some (.int .i64 a) ∧ W.cell? ⟨w.heap.size, 2, none⟩ = some (.int .i64 x) ∧ W.cell? ⟨w.heap.size, 3, none⟩ = some (.bool d) ∧ W.cell? ⟨w.heap.size, 4, none⟩ = some (.slice a1 cs.length c1)) ∧ CasesAt W (.slice a1 cs.length c1) cs ∧ Below w.heap.size w W ∧ w.heap.size < W.heap.size) ⟨⟨by go_simp, by go_simp, by go_simp, by go_simp, by go_simp⟩, HV1.out.below ((Below.refl _ _).alloc (Nat.le_refl _) _), HB1.out.trans ((Below.refl _ _).alloc (Nat.le_of_lt hz1) _), by simp; omega⟩ ?_
  clear q0 q1 q2 q3 q4
  intro W hW
  obtain ⟨⟨q0, q1, q2, q3, q4⟩, hvW, hbW, hzW⟩ := hW
  refine (HC.out W hvW).mono ?_
  rintro e w5 ⟨lv2, rfl, hlv2, hb5⟩
  have HR := Lib.hid (HRD.out w5 hlv2)
  obtain ⟨la, lc, rfl⟩ := hlv2.form
  rw [HYL.out] at HR ⊢
  obtain ⟨hc5, hf5⟩ := bcell hb5
  have r0 := (hc5 _ 0 hzW).trans q0
  have r1 := (hc5 _ 1 hzW).trans q1
  have r2 := (hc5 _ 2 hzW).trans q2
  have r3 := (hc5 _ 3 hzW).trans q3
  have r4 := (hc5 _ 4 hzW).trans q4
  have HV5 := Lib.hid (hvW.below hb5)
  have HB5 := Lib.hid (hbW.trans (hb5.mono (Nat.le_of_lt hzW)))
  have hz5 : w.heap.size < w5.heap.size := Nat.lt_of_lt_of_le hzW hb5.size
  clear q0 q1 q2 q3 q4 hvW hbW hc5 hf5 hb5 hlv2 hzW
  go_wp2_with fail
  refine HR.out.mono ?_
  rintro e w6 ⟨cv6, rfl, hcv6, hb6⟩
  obtain ⟨ca6, cc6, rfl⟩ := hcv6.form
  obtain ⟨hc6, hf6⟩ := bcell hb6
  have s0 := (hc6 _ 0 hz5).trans r0
  have s1 := (hc6 _ 1 hz5).trans r1
  have s2 := (hc6 _ 2 hz5).trans r2
  have s3 := (hc6 _ 3 hz5).trans r3
  have s4 := (hc6 _ 4 hz5).trans r4
  have HV6 := Lib.hid (HV5.out.below hb6)
  have HB6 := Lib.hid (HB5.out.trans (hb6.mono (Nat.le_of_lt hz5)))
  have HCV6 := Lib.hid hcv6
  have hz6 : w.heap.size < w6.heap.size := Nat.lt_of_lt_of_le hz5 hb6.size
  clear r0 r1 r2 r3 r4 hc6 hf6 hb6 hcv6 hz5
  dsimp only at HCV6 ⊢
  go_wp2_with (first
    | (go_at_call 30; (with_reducible refine (req_same k a x d _ (HCV6.out.below (by repeat' (first | with_reducible exact Below.refl _ _ | with_reducible refine Below.drew ?_ | with_reducible refine Below.alloc ?_ ?_ _ | (simp; done) | (simp; omega) | omega))) (HV6.out.below (by repeat' (first | with_reducible exact Below.refl _ _ | with_reducible refine Below.drew ?_ | with_reducible refine Below.alloc ?_ ?_ _ | (simp; done) | (simp; omega) | omega)))).mono ?_); rintro e w7 ⟨rfl, hb7⟩; have hz7 := lt_size (b := w.heap.size) (by first | (simp; done) | (simp; omega) | omega) hb7)
    | (go_at_call 16; (with_reducible refine (awake_any _).mono ?_); rintro e w8 ⟨rfl, hb8⟩))
  go_ret
  refine ⟨rfl, Below.trans (Below.trans (Below.trans HB6.out ?_) (hb7.mono ?_)) (hb8.mono ?_)⟩
  all_goals repeat' (first | with_reducible exact Below.refl _ _ | with_reducible refine Below.drew ?_ | with_reducible refine Below.alloc ?_ ?_ _ | (simp; done) | (simp; omega) | omega)
end Go.Proofs.Ytcbdbpcibhjkjab
