/- The law's own example, over the seat's program: awake returns true, and makes new memory alone. No condition. -/
import Derived.Test.YtcbdbpcibhjkjabGot
import Derived.Test.YtcbdbpcibhjkjabSmall
namespace Go.Proofs.Ytcbdbpcibhjkjab
open Go.ChangeShapes Go.WideShapes Go.ChangeAt Go.RowKit Go.Joins

theorem result_ex (w : World) : Calls Try.prog 11 #[.agg #[.int .i64 1, .int .i64 0, .int .i64 14, .int .i64 0]] w
    fun e w' => e = .returned (.int .u64 17652315586560) ∧ (w.alloc (.cells #[.int .i64 1, .int .i64 0, .int .i64 14, .int .i64 0] 24)).alloc (.cells #[.int .i64 1, .int .i64 0, .int .i64 14, .int .i64 0] 24) = w' := by
  have := result_any 1 0 14 0 w
  rw [show resW 1 0 14 0 = 17652315586560 by simp [resW, goodR, inB]] at this
  exact this
theorem readResult_ex (w : World) : Calls Try.prog 14 #[.int .u64 17652315586560] w
    fun e w' => e = .returned (.agg #[.int .i64 1, .int .i64 0, .int .i64 14, .int .i64 0]) ∧ w.alloc (.cells #[.int .i64 1, .int .i64 0, .int .i64 14, .int .i64 0] 24) = w' := by
  have := readResult_any 17652315586560 (by omega) (by omega) w
  simp [qS, qC, qK, qV] at this
  exact this
theorem call_ex (c : Nat) (w : World) (h : CasesAt w (.slice (some ⟨c, 0, none⟩) 1 1) [(1, 8, 5)]) : Calls Try.prog 28 #[.agg #[.int .i64 3, .int .i64 0, .int .i64 0, .bool false, .slice (some ⟨c, 0, none⟩) 1 1], .int .i64 3] w
    (RetWords [259, 21474838529, 0, 0, 3] w) := by
  have := call_any 3 0 0 false 3 w h
  rw [show callL 3 0 0 false [(1, 8, 5)] 3 = [259, 21474838529, 0, 0, 3] by simp [callL, fitsB, inB, caseB, headW, caseW]] at this
  exact this
theorem readG_ex : readG [259, 21474838529, 0, 0, 3] = ⟨3, 0, 0, false, [(1, 8, 5)], 3, true⟩ := by
  have e1 : casesOf 259 21474838529 0 0 = [(1, 8, 5)] := by simp [casesOf, ncase, caseOf, List.range, List.range.loop]
  simp only [readG, e1]
  rw [if_pos (by simp [callL, fitsB, inB, caseB, headW, caseW, wrap64])]
  simp [wrap64]
theorem read_ex {v : Value} (w : World) (h : WordsAt w v [259, 21474838529, 0, 0, 3]) : Calls Try.prog 23 #[v] w (RetGot ⟨3, 0, 0, false, [(1, 8, 5)], 3, true⟩ w) := by
  have := readCall_any w h (by simp)
  rw [readG_ex] at this
  exact this
theorem rank_ex (w : World) : Calls Try.prog 19 #[.agg #[.int .i64 1, .int .i64 0, .int .i64 14, .int .i64 0]] w fun e w' => e = .returned (.int .i64 2) ∧ (w.alloc (.cells #[.int .i64 1, .int .i64 0, .int .i64 14, .int .i64 0] 24)).alloc (.cells #[.int .i64 1, .int .i64 0, .int .i64 14, .int .i64 0] 24) = w' := by
  go_enter Try.func19, Try.ntmps19
  go_wp2
  go_ret
  exact ⟨rfl, rfl⟩
theorem final_ex (w : World) : Calls Try.prog 17 #[.agg #[.int .i64 1, .int .i64 0, .int .i64 14, .int .i64 0]] w
    fun e w' => e = .returned (.bool false) ∧ w.alloc (.cells #[.int .i64 1, .int .i64 0, .int .i64 14, .int .i64 0] 24) = w' := final_any 1 0 14 0 w

/-- What is to be known of the world when the call is made. -/
def Ready (w W : World) : Prop :=
  (W.cell? ⟨w.heap.size + 1 + 1 + 1, 0, none⟩ = some (.int .i64 1) ∧ W.cell? ⟨w.heap.size + 1 + 1 + 1, 1, none⟩ = some (.int .i64 0) ∧ W.cell? ⟨w.heap.size + 1 + 1 + 1, 2, none⟩ = some (.int .i64 14) ∧ W.cell? ⟨w.heap.size + 1 + 1 + 1, 3, none⟩ = some (.int .i64 0)) ∧
  (W.cell? ⟨w.heap.size + 1 + 1 + 1 + 1 + 1, 0, none⟩ = some (.int .i64 3) ∧ W.cell? ⟨w.heap.size + 1 + 1 + 1 + 1 + 1, 1, none⟩ = some (.int .i64 0) ∧ W.cell? ⟨w.heap.size + 1 + 1 + 1 + 1 + 1, 2, none⟩ = some (.int .i64 0) ∧ W.cell? ⟨w.heap.size + 1 + 1 + 1 + 1 + 1, 3, none⟩ = some (.bool false) ∧ W.cell? ⟨w.heap.size + 1 + 1 + 1 + 1 + 1, 4, none⟩ = some (.slice (some ⟨w.heap.size + 1 + 1 + 1 + 1, 0, none⟩) 1 1)) ∧
  CasesAt W (.slice (some ⟨w.heap.size + 1 + 1 + 1 + 1, 0, none⟩) 1 1) [(1, 8, 5)] ∧ Below w.heap.size w W ∧ w.heap.size + 1 + 1 + 1 + 1 + 1 < W.heap.size
theorem abstract_it {P : Program} {f : FuncId} {args : Array Value} {Post : Ending → World → Prop} {W : World} (A : World → Prop) (hA : A W) (h : ∀ W', A W' → Calls P f args W' Post) : Calls P f args W Post := h W hA

set_option maxRecDepth 100000 in
set_option maxHeartbeats 3200000 in
theorem awake_any (w : World) : Calls Try.prog 16 #[] w fun e w' => e = .returned (.bool true) ∧ Below w.heap.size w w' := by
  go_enter Try.func16, Try.ntmps16
  go_wp2_with (first
    | (go_at_call 11; (with_reducible refine (result_ex _).mono ?_); rintro e w1 ⟨rfl, rfl⟩)
    | (go_at_call 14; (with_reducible refine (readResult_ex _).mono ?_); rintro e w1 ⟨rfl, rfl⟩))
  refine abstract_it (Ready w) ?_ ?_
  · refine ⟨⟨?_, ?_, ?_, ?_⟩, ⟨?_, ?_, ?_, ?_, ?_⟩, .inr ⟨w.heap.size + 1 + 1 + 1 + 1, 0, 1, rfl, ?_, by simp, ?_⟩, ?_, ?_⟩
    all_goals first | (go_simp; done) | skip
    · repeat' (first | with_reducible exact Below.refl _ _ | with_reducible refine Below.alloc ?_ ?_ _ | (simp; done) | (simp; omega) | omega)
  intro W hW
  obtain ⟨⟨r0, r1, r2, r3⟩, ⟨q0, q1, q2, q3, q4⟩, hcW, hbW, hzW⟩ := hW
  refine (call_ex _ W hcW).mono ?_
  rintro e w2 ⟨lv, rfl, hlv, hb2⟩
  obtain ⟨hc2, hf2⟩ := bcell hb2
  rcases hlv with ⟨h0, _⟩ | ⟨lb, lo, lc, rfl, hlb, hlm, hlc⟩
  · cases h0
  have HR := Lib.hid (read_ex w2 (.inr ⟨lb, lo, lc, rfl, hlb, hlm, hlc⟩))
  have hl1 := hlc 1 (by simp)
  have hlc1 : (1 : Int) < 5 := by omega
  have z3 : w.heap.size + 1 + 1 + 1 < W.heap.size := by omega
  have HC2 := Lib.hid (hcW.below hb2)
  have HB2 := Lib.hid (hbW.trans (hb2.mono (by omega)))
  have s0 := (hc2 _ 0 z3).trans r0
  have s1 := (hc2 _ 1 z3).trans r1
  have s2 := (hc2 _ 2 z3).trans r2
  have s3 := (hc2 _ 3 z3).trans r3
  have p0 := (hc2 _ 0 hzW).trans q0
  have p1 := (hc2 _ 1 hzW).trans q1
  have p2 := (hc2 _ 2 hzW).trans q2
  have p3 := (hc2 _ 3 hzW).trans q3
  have p4 := (hc2 _ 4 hzW).trans q4
  have hz2 : w.heap.size + 1 + 1 + 1 + 1 + 1 < w2.heap.size := Nat.lt_of_lt_of_le hzW hb2.size
  clear r0 r1 r2 r3 q0 q1 q2 q3 q4 hcW hbW hc2 hf2 hlm hlc hb2 hzW z3
  go_wp2_with fail
  refine HR.out.mono ?_
  rintro e w3 ⟨cv, rfl, hcv, hb3⟩
  obtain ⟨ca, cc, rfl⟩ := hcv.form
  obtain ⟨hc3, hf3⟩ := bcell hb3
  have z3 : w.heap.size + 1 + 1 + 1 < w2.heap.size := by omega
  have t0 := (hc3 _ 0 z3).trans s0
  have t1 := (hc3 _ 1 z3).trans s1
  have t2 := (hc3 _ 2 z3).trans s2
  have t3 := (hc3 _ 3 z3).trans s3
  have u0 := (hc3 _ 0 hz2).trans p0
  have u1 := (hc3 _ 1 hz2).trans p1
  have u2 := (hc3 _ 2 hz2).trans p2
  have u3 := (hc3 _ 3 hz2).trans p3
  have u4 := (hc3 _ 4 hz2).trans p4
  have k1 := (hc3 _ (lo + 1) hlb).trans hl1
  have HC3 := Lib.hid (HC2.out.below hb3)
  have HB3 := Lib.hid (HB2.out.trans (hb3.mono (by omega)))
  have HCV := Lib.hid (show CasesAt w3 (.slice ca 1 cc) [(1, 8, 5)] from hcv)
  have hz3 : w.heap.size + 1 + 1 + 1 + 1 + 1 < w3.heap.size := Nat.lt_of_lt_of_le hz2 hb3.size
  have hl3 : lb < w3.heap.size := Nat.lt_of_lt_of_le hlb hb3.size
  have y0 : lb < w3.heap.size + 1 := by omega
  have y1 : lb < w3.heap.size + 1 + 1 := by omega
  have y2 : lb < w3.heap.size + 1 + 1 + 1 := by omega
  have y3 : lb < w3.heap.size + 1 + 1 + 1 + 1 := by omega
  have m1 : w.heap.size + 1 + 1 + 1 < w3.heap.size := by omega
  have m2 : w.heap.size + 1 + 1 < w3.heap.size := by omega
  have m3 : w.heap.size + 1 < w3.heap.size := by omega
  have m4 : w.heap.size < w3.heap.size := by omega
  have m5 : w.heap.size + 1 + 1 + 1 + 1 < w3.heap.size := by omega
  clear s0 s1 s2 s3 p0 p1 p2 p3 p4 hcv hc3 hf3 hb3 hl1 hz2 z3 hlb
  go_wp2_with (first
    | (go_at_call 17; (with_reducible refine (final_ex _).mono ?_); rintro e w4 ⟨rfl, rfl⟩)
    | (go_at_call 19; (with_reducible refine (rank_ex _).mono ?_); rintro e w4 ⟨rfl, rfl⟩)
    | (go_at_call 30; (with_reducible refine (req_same 3 0 0 false _ (HCV.out.below (by repeat' (first | with_reducible exact Below.refl _ _ | with_reducible refine Below.alloc ?_ ?_ _ | (simp; done) | (simp; omega) | omega))) (HC3.out.below (by repeat' (first | with_reducible exact Below.refl _ _ | with_reducible refine Below.alloc ?_ ?_ _ | (simp; done) | (simp; omega) | omega)))).mono ?_); rintro e w5 ⟨rfl, hb5⟩))
  go_ret
  refine ⟨rfl, Below.trans (Below.trans HB3.out ?_) (hb5.mono ?_)⟩
  · repeat' (first | with_reducible exact Below.refl _ _ | with_reducible refine Below.alloc ?_ ?_ _ | (simp; done) | (simp; omega) | omega)
  · first | (simp; done) | (simp; omega) | omega
end Go.Proofs.Ytcbdbpcibhjkjab
