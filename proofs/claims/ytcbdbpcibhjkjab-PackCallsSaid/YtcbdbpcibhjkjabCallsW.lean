/- The walk of PackCalls over the seat's program: for every input it returns true, and makes new memory alone. -/
import Derived.Test.YtcbdbpcibhjkjabRany
import Derived.Test.YtcbdbpcibhjkjabRcall
import Derived.Test.YtcbdbpcibhjkjabRfits
import Derived.Test.YtcbdbpcibhjkjabGot
import Derived.Test.YtcbdbpcibhjkjabAwake
import Derived.Deep.RegionHeld3
namespace Go.Proofs.Ytcbdbpcibhjkjab
open Go.ChangeShapes Go.WideShapes Go.ChangeAt Go.RowKit Go.Joins
theorem abstract_code {P : Program} {c : Code} {Q : Exit → Act → World → Prop} {a : Act} {W : World} (A : World → Prop) (hA : A W) (h : ∀ W', A W' → Code.wp P c Q a W') : Code.wp P c Q a W := h W hA
theorem below_next {a W w3 : World} (h : Below a.heap.size a W) (hb : Below W.heap.size W w3) : Below a.heap.size a w3 := h.trans (hb.mono h.size)

set_option maxRecDepth 100000 in
set_option maxHeartbeats 6400000 in
theorem calls_run (k a x phase : Int) (d : Bool) (a1 a2 : Option Addr) (c1 c2 : Nat) (cs : List C3) (xs : List Int) (gk ga gx gp : Int) (gd go : Bool) (gcs : List C3) (w : World) (hv : CasesAt w (.slice a1 cs.length c1) cs) (hl : WordsAt w (.slice a2 xs.length c2) xs) (hx : ∀ x ∈ xs, 0 ≤ x ∧ x < 18446744073709551616)
    (hg : readG xs = ⟨gk, ga, gx, gd, gcs, gp, go⟩) :
    Calls Try.prog 6 #[.agg #[.int .i64 k, .int .i64 a, .int .i64 x, .bool d, .slice a1 cs.length c1], .int .i64 phase, .slice a2 xs.length c2] w fun e w' => e = .returned (.bool true) ∧ Below w.heap.size w w' := by
  have hB : Below w.heap.size w (w.alloc (.cells #[.int .i64 k, .int .i64 a, .int .i64 x, .bool d, .slice a1 cs.length c1] 37)) := (Below.refl _ _).alloc (Nat.le_refl _) _
  have HR1 := Lib.hid (readCall_any (w.alloc (.cells #[.int .i64 k, .int .i64 a, .int .i64 x, .bool d, .slice a1 cs.length c1] 37)) (hl.below hB) hx)
  have HR2 := Lib.hid (fun W (h : WordsAt W (.slice a2 xs.length c2) xs) => show Calls Try.prog 24 #[.slice a2 xs.length c2] W (RetGot ⟨gk, ga, gx, gd, gcs, gp, go⟩ W) by rw [← hg]; exact rread_any W h hx)
  rw [hg] at HR1
  obtain ⟨ys, hys⟩ : ∃ ys, ys = callL k a x d cs phase := ⟨_, rfl⟩
  have HC1 := Lib.hid (fun W (h : CasesAt W (.slice a1 cs.length c1) cs) => show Calls Try.prog 28 #[.agg #[.int .i64 k, .int .i64 a, .int .i64 x, .bool d, .slice a1 cs.length c1], .int .i64 phase] W (RetWords ys W) by rw [hys]; exact call_any k a x d phase W h)
  have HC2 := Lib.hid (fun W (h : CasesAt W (.slice a1 cs.length c1) cs) => show Calls Try.prog 29 #[.agg #[.int .i64 k, .int .i64 a, .int .i64 x, .bool d, .slice a1 cs.length c1], .int .i64 phase] W (RetWords ys W) by rw [hys]; exact rcall_any k a x d phase W h)
  obtain ⟨fb, hfb⟩ : ∃ fb, fb = fitsB k a x cs := ⟨_, rfl⟩
  have HF1 := Lib.hid (fun W (h : CasesAt W (.slice a1 cs.length c1) cs) => show Calls Try.prog 25 #[.agg #[.int .i64 k, .int .i64 a, .int .i64 x, .bool d, .slice a1 cs.length c1]] W (fun e w' => e = .returned (.bool fb) ∧ Below W.heap.size W w') by rw [hfb]; exact fits_any k a x d W h)
  have HF2 := Lib.hid (fun W (h : CasesAt W (.slice a1 cs.length c1) cs) => show Calls Try.prog 26 #[.agg #[.int .i64 k, .int .i64 a, .int .i64 x, .bool d, .slice a1 cs.length c1]] W (fun e w' => e = .returned (.bool fb) ∧ Below W.heap.size W w') by rw [hfb]; exact rfits_any k a x d W h)
  have HV0 := Lib.hid (hv.below hB)
  have HL0 := Lib.hid (hl.below hB)
  have HB0 := Lib.hid hB
  clear hys hfb hv hl hx hg hB
  go_enter Try.func6, Try.ntmps6
  go_wp2_with fail
  refine HR1.out.mono ?_
  rintro e w1 ⟨cv, rfl, hcv, hb1⟩
  obtain ⟨ca, cc, rfl⟩ := hcv.form
  obtain ⟨hc1, hf1⟩ := bcell hb1
  have hz1 : w.heap.size < w1.heap.size := lt_size (by simp) hb1
  have q0 : w1.cell? ⟨w.heap.size, 0, none⟩ = some (.int .i64 k) := by rw [hc1 _ _ (by simp)]; go_simp
  have q1 : w1.cell? ⟨w.heap.size, 1, none⟩ = some (.int .i64 a) := by rw [hc1 _ _ (by simp)]; go_simp
  have q2 : w1.cell? ⟨w.heap.size, 2, none⟩ = some (.int .i64 x) := by rw [hc1 _ _ (by simp)]; go_simp
  have q3 : w1.cell? ⟨w.heap.size, 3, none⟩ = some (.bool d) := by rw [hc1 _ _ (by simp)]; go_simp
  have q4 : w1.cell? ⟨w.heap.size, 4, none⟩ = some (.slice a1 cs.length c1) := by rw [hc1 _ _ (by simp)]; go_simp
  have HV1 := Lib.hid (HV0.out.below hb1)
  have HL1 := Lib.hid (HL0.out.below hb1)
  have HB1 := Lib.hid (HB0.out.trans (hb1.mono (by simp)))
  have HCV1 := Lib.hid hcv
  clear hc1 hf1 hb1 hcv
  dsimp only at HCV1 ⊢
  go_wp2_with fail
  have hA : Below w1.heap.size w1 (w1.alloc (.cells #[.int .i64 gk, .int .i64 ga, .int .i64 gx, .bool gd, .slice ca gcs.length cc] 37)) := (Below.refl _ _).alloc (Nat.le_refl _) _
  refine (HR2.out _ (HL1.out.below hA)).mono ?_
  rintro e w2 ⟨cv2, rfl, hcv2, hb2⟩
  obtain ⟨da, dc, rfl⟩ := hcv2.form
  obtain ⟨hc2, hf2⟩ := bcell hb2
  have hz2 : w.heap.size < w2.heap.size := lt_size (by simp; omega) hb2
  have hy2 : w1.heap.size < w2.heap.size := lt_size (by simp) hb2
  have t0 : w2.cell? ⟨w.heap.size, 0, none⟩ = some (.int .i64 k) := by rw [hc2 _ _ (by simp; omega)]; go_simp
  have t1 : w2.cell? ⟨w.heap.size, 1, none⟩ = some (.int .i64 a) := by rw [hc2 _ _ (by simp; omega)]; go_simp
  have t2 : w2.cell? ⟨w.heap.size, 2, none⟩ = some (.int .i64 x) := by rw [hc2 _ _ (by simp; omega)]; go_simp
  have t3 : w2.cell? ⟨w.heap.size, 3, none⟩ = some (.bool d) := by rw [hc2 _ _ (by simp; omega)]; go_simp
  have t4 : w2.cell? ⟨w.heap.size, 4, none⟩ = some (.slice a1 cs.length c1) := by rw [hc2 _ _ (by simp; omega)]; go_simp
  have s0 : w2.cell? ⟨w1.heap.size, 0, none⟩ = some (.int .i64 gk) := by rw [hc2 _ _ (by simp)]; go_simp
  have s1 : w2.cell? ⟨w1.heap.size, 1, none⟩ = some (.int .i64 ga) := by rw [hc2 _ _ (by simp)]; go_simp
  have s2 : w2.cell? ⟨w1.heap.size, 2, none⟩ = some (.int .i64 gx) := by rw [hc2 _ _ (by simp)]; go_simp
  have s3 : w2.cell? ⟨w1.heap.size, 3, none⟩ = some (.bool gd) := by rw [hc2 _ _ (by simp)]; go_simp
  have s4 : w2.cell? ⟨w1.heap.size, 4, none⟩ = some (.slice ca gcs.length cc) := by rw [hc2 _ _ (by simp)]; go_simp
  have HB12 := Lib.hid (hA.trans (hb2.mono (by simp)))
  have HV2 := Lib.hid (HV1.out.below HB12.out)
  have HCV2 := Lib.hid (HCV1.out.below HB12.out)
  have HDV2 := Lib.hid hcv2
  have HB2 := Lib.hid (HB1.out.trans (HB12.out.mono (Nat.le_of_lt hz1)))
  generalize hp : w1.heap.size = p at *
  clear q0 q1 q2 q3 q4 hc2 hf2 hb2 hcv2 hA HB12 HR1 HR2 HV0 HL0 HB0 HV1 HL1 HB1 HCV1 hp
  dsimp only at HDV2 ⊢
  go_wp2_with fail
  have hD : Below w2.heap.size w2 (w2.alloc (.cells #[.int .i64 gk, .int .i64 ga, .int .i64 gx, .bool gd, .slice da gcs.length dc] 37)) := (Below.refl _ _).alloc (Nat.le_refl _) _
  refine abstract_code (fun W => (W.cell? ⟨w.heap.size, 0, none⟩ = some (.int .i64 k) ∧ W.cell? ⟨w.heap.size, 1, none⟩ = some (.int .i64 a) ∧ W.cell? ⟨w.heap.size, 2, none⟩ = some (.int .i64 x) ∧ W.cell? ⟨w.heap.size, 3, none⟩ = some (.bool d) ∧ W.cell? ⟨w.heap.size, 4, none⟩ = some (.slice a1 cs.length c1) ∧ W.cell? ⟨p, 0, none⟩ = some (.int .i64 gk) ∧ W.cell? ⟨p, 1, none⟩ = some (.int .i64 ga) ∧ W.cell? ⟨p, 2, none⟩ = some (.int .i64 gx) ∧ W.cell? ⟨p, 3, none⟩ = some (.bool gd) ∧ W.cell? ⟨p, 4, none⟩ = some (.slice ca gcs.length cc) ∧ W.cell? ⟨w2.heap.size, 0, none⟩ = some (.int .i64 gk) ∧ W.cell? ⟨w2.heap.size, 1, none⟩ = some (.int .i64 ga) ∧ W.cell? ⟨w2.heap.size, 2, none⟩ = some (.int .i64 gx) ∧ W.cell? ⟨w2.heap.size, 3, none⟩ = some (.bool gd) ∧ W.cell? ⟨w2.heap.size, 4, none⟩ = some (.slice da gcs.length dc)) ∧ CasesAt W (.slice a1 cs.length c1) cs ∧ CasesAt W (.slice ca gcs.length cc) gcs ∧ CasesAt W (.slice da gcs.length dc) gcs ∧ Below w.heap.size w W ∧ w2.heap.size < W.heap.size) ⟨⟨by go_simp, by go_simp, by go_simp, by go_simp, by go_simp, by go_simp, by go_simp, by go_simp, by go_simp, by go_simp, by go_simp, by go_simp, by go_simp, by go_simp, by go_simp⟩, HV2.out.below hD, HCV2.out.below hD, HDV2.out.below hD, HB2.out.trans (hD.mono (Nat.le_of_lt hz2)), by simp⟩ ?_
  rintro u ⟨⟨q0, q1, q2, q3, q4, q5, q6, q7, q8, q9, q10, q11, q12, q13, q14⟩, hv, hcv, hdv, hbu, rz⟩
  have pz := Nat.lt_trans hy2 rz
  have wz := Nat.lt_trans hz2 rz
  have HV := Lib.hid hv
  have HCV := Lib.hid hcv
  have HDV := Lib.hid hdv
  have HBU := Lib.hid hbu
  clear hv hcv hdv hbu hD HV2 HCV2 HDV2 HB2 t0 t1 t2 t3 t4 s0 s1 s2 s3 s4
  generalize hr : w2.heap.size = r at *
  clear hr
  go_region_held3 (fun W => W.cell? ⟨w.heap.size, 0, none⟩ = some (.int .i64 k) ∧ W.cell? ⟨w.heap.size, 1, none⟩ = some (.int .i64 a) ∧ W.cell? ⟨w.heap.size, 2, none⟩ = some (.int .i64 x) ∧ W.cell? ⟨w.heap.size, 3, none⟩ = some (.bool d) ∧ W.cell? ⟨w.heap.size, 4, none⟩ = some (.slice a1 cs.length c1) ∧ W.cell? ⟨p, 0, none⟩ = some (.int .i64 gk) ∧ W.cell? ⟨p, 1, none⟩ = some (.int .i64 ga) ∧ W.cell? ⟨p, 2, none⟩ = some (.int .i64 gx) ∧ W.cell? ⟨p, 3, none⟩ = some (.bool gd) ∧ W.cell? ⟨p, 4, none⟩ = some (.slice ca gcs.length cc) ∧ W.cell? ⟨r, 0, none⟩ = some (.int .i64 gk) ∧ W.cell? ⟨r, 1, none⟩ = some (.int .i64 ga) ∧ W.cell? ⟨r, 2, none⟩ = some (.int .i64 gx) ∧ W.cell? ⟨r, 3, none⟩ = some (.bool gd) ∧ W.cell? ⟨r, 4, none⟩ = some (.slice da gcs.length dc))
    (first | exact ⟨q0, q1, q2, q3, q4, q5, q6, q7, q8, q9, q10, q11, q12, q13, q14⟩ | (go_simp; done) | go_keep)
    (first
    | (go_at_call 25; (with_reducible refine (HF1.out _ (HV.out.below (by repeat' (first | with_reducible exact Below.refl _ _ | with_reducible exact HB6.out | with_reducible exact HB5.out | with_reducible exact HB4.out | with_reducible exact HB3.out | with_reducible exact below_drewN HB6.out _ | with_reducible refine Below.drew ?_ | with_reducible refine Below.alloc ?_ ?_ _ | (simp; done) | (simp; omega) | omega)))).mono ?_); rintro e w3 ⟨rfl, hb3⟩; obtain ⟨hc3, hf3⟩ := bcell hb3; have q0 := (hc3 _ _ wz).trans q0; have q1 := (hc3 _ _ wz).trans q1; have q2 := (hc3 _ _ wz).trans q2; have q3 := (hc3 _ _ wz).trans q3; have q4 := (hc3 _ _ wz).trans q4; have q5 := (hc3 _ _ pz).trans q5; have q6 := (hc3 _ _ pz).trans q6; have q7 := (hc3 _ _ pz).trans q7; have q8 := (hc3 _ _ pz).trans q8; have q9 := (hc3 _ _ pz).trans q9; have q10 := (hc3 _ _ rz).trans q10; have q11 := (hc3 _ _ rz).trans q11; have q12 := (hc3 _ _ rz).trans q12; have q13 := (hc3 _ _ rz).trans q13; have q14 := (hc3 _ _ rz).trans q14; have wz := Nat.lt_of_lt_of_le wz hb3.size; have pz := Nat.lt_of_lt_of_le pz hb3.size; have rz := Nat.lt_of_lt_of_le rz hb3.size; have HB3 := Lib.hid (below_next (a := u) (by repeat' (first | with_reducible exact Below.refl _ _ | with_reducible exact HB6.out | with_reducible exact HB5.out | with_reducible exact HB4.out | with_reducible exact HB3.out | with_reducible exact below_drewN HB6.out _ | with_reducible refine Below.drew ?_ | with_reducible refine Below.alloc ?_ ?_ _ | (simp; done) | (simp; omega) | omega)) hb3); clear hc3 hf3)
    | (go_at_call 26; (with_reducible refine (HF2.out _ (HV.out.below (by repeat' (first | with_reducible exact Below.refl _ _ | with_reducible exact HB6.out | with_reducible exact HB5.out | with_reducible exact HB4.out | with_reducible exact HB3.out | with_reducible exact below_drewN HB6.out _ | with_reducible refine Below.drew ?_ | with_reducible refine Below.alloc ?_ ?_ _ | (simp; done) | (simp; omega) | omega)))).mono ?_); rintro e w4 ⟨rfl, hb4⟩; obtain ⟨hc4, hf4⟩ := bcell hb4; have q0 := (hc4 _ _ wz).trans q0; have q1 := (hc4 _ _ wz).trans q1; have q2 := (hc4 _ _ wz).trans q2; have q3 := (hc4 _ _ wz).trans q3; have q4 := (hc4 _ _ wz).trans q4; have q5 := (hc4 _ _ pz).trans q5; have q6 := (hc4 _ _ pz).trans q6; have q7 := (hc4 _ _ pz).trans q7; have q8 := (hc4 _ _ pz).trans q8; have q9 := (hc4 _ _ pz).trans q9; have q10 := (hc4 _ _ rz).trans q10; have q11 := (hc4 _ _ rz).trans q11; have q12 := (hc4 _ _ rz).trans q12; have q13 := (hc4 _ _ rz).trans q13; have q14 := (hc4 _ _ rz).trans q14; have wz := Nat.lt_of_lt_of_le wz hb4.size; have pz := Nat.lt_of_lt_of_le pz hb4.size; have rz := Nat.lt_of_lt_of_le rz hb4.size; have HB4 := Lib.hid (below_next (a := u) (by repeat' (first | with_reducible exact Below.refl _ _ | with_reducible exact HB6.out | with_reducible exact HB5.out | with_reducible exact HB4.out | with_reducible exact HB3.out | with_reducible exact below_drewN HB6.out _ | with_reducible refine Below.drew ?_ | with_reducible refine Below.alloc ?_ ?_ _ | (simp; done) | (simp; omega) | omega)) hb4); clear hc4 hf4)
    | (go_at_call 28; (with_reducible refine (HC1.out _ (HV.out.below (by repeat' (first | with_reducible exact Below.refl _ _ | with_reducible exact HB6.out | with_reducible exact HB5.out | with_reducible exact HB4.out | with_reducible exact HB3.out | with_reducible exact below_drewN HB6.out _ | with_reducible refine Below.drew ?_ | with_reducible refine Below.alloc ?_ ?_ _ | (simp; done) | (simp; omega) | omega)))).mono ?_); rintro e w5 ⟨lv1, rfl, hlv1, hb5⟩; obtain ⟨la1, lc1, rfl⟩ := hlv1.form; obtain ⟨hc5, hf5⟩ := bcell hb5; have q0 := (hc5 _ _ wz).trans q0; have q1 := (hc5 _ _ wz).trans q1; have q2 := (hc5 _ _ wz).trans q2; have q3 := (hc5 _ _ wz).trans q3; have q4 := (hc5 _ _ wz).trans q4; have q5 := (hc5 _ _ pz).trans q5; have q6 := (hc5 _ _ pz).trans q6; have q7 := (hc5 _ _ pz).trans q7; have q8 := (hc5 _ _ pz).trans q8; have q9 := (hc5 _ _ pz).trans q9; have q10 := (hc5 _ _ rz).trans q10; have q11 := (hc5 _ _ rz).trans q11; have q12 := (hc5 _ _ rz).trans q12; have q13 := (hc5 _ _ rz).trans q13; have q14 := (hc5 _ _ rz).trans q14; have wz := Nat.lt_of_lt_of_le wz hb5.size; have pz := Nat.lt_of_lt_of_le pz hb5.size; have rz := Nat.lt_of_lt_of_le rz hb5.size; have HB5 := Lib.hid (below_next (a := u) (by repeat' (first | with_reducible exact Below.refl _ _ | with_reducible exact HB6.out | with_reducible exact HB5.out | with_reducible exact HB4.out | with_reducible exact HB3.out | with_reducible exact below_drewN HB6.out _ | with_reducible refine Below.drew ?_ | with_reducible refine Below.alloc ?_ ?_ _ | (simp; done) | (simp; omega) | omega)) hb5); clear hc5 hf5; have HL1 := Lib.hid hlv1; clear hlv1)
    | (go_at_call 29; (with_reducible refine (HC2.out _ (HV.out.below (by repeat' (first | with_reducible exact Below.refl _ _ | with_reducible exact HB6.out | with_reducible exact HB5.out | with_reducible exact HB4.out | with_reducible exact HB3.out | with_reducible exact below_drewN HB6.out _ | with_reducible refine Below.drew ?_ | with_reducible refine Below.alloc ?_ ?_ _ | (simp; done) | (simp; omega) | omega)))).mono ?_); rintro e w6 ⟨lv2, rfl, hlv2, hb6⟩; obtain ⟨la2, lc2, rfl⟩ := hlv2.form; obtain ⟨hc6, hf6⟩ := bcell hb6; have q0 := (hc6 _ _ wz).trans q0; have q1 := (hc6 _ _ wz).trans q1; have q2 := (hc6 _ _ wz).trans q2; have q3 := (hc6 _ _ wz).trans q3; have q4 := (hc6 _ _ wz).trans q4; have q5 := (hc6 _ _ pz).trans q5; have q6 := (hc6 _ _ pz).trans q6; have q7 := (hc6 _ _ pz).trans q7; have q8 := (hc6 _ _ pz).trans q8; have q9 := (hc6 _ _ pz).trans q9; have q10 := (hc6 _ _ rz).trans q10; have q11 := (hc6 _ _ rz).trans q11; have q12 := (hc6 _ _ rz).trans q12; have q13 := (hc6 _ _ rz).trans q13; have q14 := (hc6 _ _ rz).trans q14; have wz := Nat.lt_of_lt_of_le wz hb6.size; have pz := Nat.lt_of_lt_of_le pz hb6.size; have rz := Nat.lt_of_lt_of_le rz hb6.size; have HB6 := Lib.hid (below_next (a := u) (by repeat' (first | with_reducible exact Below.refl _ _ | with_reducible exact HB6.out | with_reducible exact HB5.out | with_reducible exact HB4.out | with_reducible exact HB3.out | with_reducible exact below_drewN HB6.out _ | with_reducible refine Below.drew ?_ | with_reducible refine Below.alloc ?_ ?_ _ | (simp; done) | (simp; omega) | omega)) hb6); clear hc6 hf6; have HL2 := Lib.hid hlv2; have HL3 := Lib.hid (HL1.out.below (below_next (by repeat' (first | with_reducible exact Below.refl _ _ | with_reducible refine Below.drew ?_)) hb6)); clear hlv2)
    | (go_at_call 27; (with_reducible refine (words_any _ HL3.out HL2.out).mono ?_); rintro e w7 ⟨rfl, qq, rfl⟩; rw [decide_eq_true rfl])
    | (go_at_call 30; (with_reducible refine (req_same gk ga gx gd _ (HCV.out.below (by repeat' (first | with_reducible exact Below.refl _ _ | with_reducible exact HB6.out | with_reducible exact HB5.out | with_reducible exact HB4.out | with_reducible exact HB3.out | with_reducible exact below_drewN HB6.out _ | with_reducible refine Below.drew ?_ | with_reducible refine Below.alloc ?_ ?_ _ | (simp; done) | (simp; omega) | omega))) (HDV.out.below (by repeat' (first | with_reducible exact Below.refl _ _ | with_reducible exact HB6.out | with_reducible exact HB5.out | with_reducible exact HB4.out | with_reducible exact HB3.out | with_reducible exact below_drewN HB6.out _ | with_reducible refine Below.drew ?_ | with_reducible refine Below.alloc ?_ ?_ _ | (simp; done) | (simp; omega) | omega)))).mono ?_); rintro e w8 ⟨rfl, hb8⟩; obtain ⟨hc8, hf8⟩ := bcell hb8; have q0 := (hc8 _ _ wz).trans q0; have q1 := (hc8 _ _ wz).trans q1; have q2 := (hc8 _ _ wz).trans q2; have q3 := (hc8 _ _ wz).trans q3; have q4 := (hc8 _ _ wz).trans q4; have q5 := (hc8 _ _ pz).trans q5; have q6 := (hc8 _ _ pz).trans q6; have q7 := (hc8 _ _ pz).trans q7; have q8 := (hc8 _ _ pz).trans q8; have q9 := (hc8 _ _ pz).trans q9; have q10 := (hc8 _ _ rz).trans q10; have q11 := (hc8 _ _ rz).trans q11; have q12 := (hc8 _ _ rz).trans q12; have q13 := (hc8 _ _ rz).trans q13; have q14 := (hc8 _ _ rz).trans q14; have wz := Nat.lt_of_lt_of_le wz hb8.size; have pz := Nat.lt_of_lt_of_le pz hb8.size; have rz := Nat.lt_of_lt_of_le rz hb8.size; have HB8 := Lib.hid (below_next (a := u) (by repeat' (first | with_reducible exact Below.refl _ _ | with_reducible exact HB6.out | with_reducible exact HB5.out | with_reducible exact HB4.out | with_reducible exact HB3.out | with_reducible exact below_drewN HB6.out _ | with_reducible refine Below.drew ?_ | with_reducible refine Below.alloc ?_ ?_ _ | (simp; done) | (simp; omega) | omega)) hb8); clear hc8 hf8)
    | (go_at_call 16; (with_reducible refine (awake_any _).mono ?_); rintro e w9 ⟨rfl, hb9⟩; have HB9 := Lib.hid (below_next (a := u) (by first | with_reducible exact HB8.out | repeat' (first | with_reducible exact Below.refl _ _ | with_reducible exact HB6.out | with_reducible exact HB5.out | with_reducible exact HB4.out | with_reducible exact HB3.out | with_reducible exact below_drewN HB6.out _ | with_reducible refine Below.drew ?_ | with_reducible refine Below.alloc ?_ ?_ _ | (simp; done) | (simp; omega) | omega)) hb9); obtain ⟨hc9, hf9⟩ := bcell hb9; have q0 := (hc9 _ _ wz).trans q0; have q1 := (hc9 _ _ wz).trans q1; have q2 := (hc9 _ _ wz).trans q2; have q3 := (hc9 _ _ wz).trans q3; have q4 := (hc9 _ _ wz).trans q4; have q5 := (hc9 _ _ pz).trans q5; have q6 := (hc9 _ _ pz).trans q6; have q7 := (hc9 _ _ pz).trans q7; have q8 := (hc9 _ _ pz).trans q8; have q9 := (hc9 _ _ pz).trans q9; have q10 := (hc9 _ _ rz).trans q10; have q11 := (hc9 _ _ rz).trans q11; have q12 := (hc9 _ _ rz).trans q12; have q13 := (hc9 _ _ rz).trans q13; have q14 := (hc9 _ _ rz).trans q14; have wz := Nat.lt_of_lt_of_le wz hb9.size; have pz := Nat.lt_of_lt_of_le pz hb9.size; have rz := Nat.lt_of_lt_of_le rz hb9.size; clear hc9 hf9))
  go_wp2
  go_ret
  exact ⟨rfl, HBU.out.trans (HB9.out.mono HBU.out.size)⟩
theorem calls_walk (k a x phase : Int) (d : Bool) (cs : List C3) (xs : List Int) {cv lv : Value} (_ : -9223372036854775808 ≤ phase) (_ : phase ≤ 9223372036854775807) (w : World) (hv : CasesAt w cv cs) (hl : WordsAt w lv xs) (hx : ∀ x ∈ xs, 0 ≤ x ∧ x < 18446744073709551616) :
    Calls Try.prog 6 #[.agg #[.int .i64 k, .int .i64 a, .int .i64 x, .bool d, cv], .int .i64 phase, lv] w fun e w' => e = .returned (.bool true) ∧ Below w.heap.size w w' := by
  obtain ⟨a1, c1, rfl⟩ := hv.form
  obtain ⟨a2, c2, rfl⟩ := hl.form
  exact calls_run k a x phase d a1 a2 c1 c2 cs xs (readG xs).kind (readG xs).arg (readG xs).value (readG xs).phase (readG xs).d (readG xs).ok (readG xs).cs w hv hl hx rfl

end Go.Proofs.Ytcbdbpcibhjkjab
