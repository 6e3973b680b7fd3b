/- The document's example of chans, over the seat's program. -/
import Derived.Test.YtihpjfhibhpciaaChH
namespace Go.Proofs.Ytihpjfhibhpciaa
open Go.ChangeShapes Go.WideShapes Go.ChangeAt Go.RowKit Go.Joins

def exC : CH := ⟨1, 0, true, false, 0, fun _ => 0⟩
def exW : Nat → WV := fun _ => ⟨true, 0, 3, 1, fun _ j => if j = 0 then 2 else if j = 1 then 8 else 0⟩
theorem ex_do {C' : CH} {V' : Nat → WV} {code rv : Int} {m : Nat} {T : Nat → Nat → Int} (h : DoIs exC exW 1 8 1 7 C' V' code rv m T) : C'.n = 0 ∧ (V' 0).on = false ∧ code = 0 ∧ m = 1 ∧ T 0 1 = 3 ∧ T 0 4 = 7 := by
  have hf : Fit exW 2 8 0 := ⟨rfl, 0, Nat.zero_lt_one, rfl, rfl⟩
  have hr : Rdy exC exW 1 8 1 := ⟨rfl, .inl rfl, .inr (.inl ⟨0, Nat.zero_lt_one, hf⟩)⟩
  cases h with
  | wait T h => exact absurd hr h
  | shut T _ _ h => exact absurd h (by decide)
  | meet t wh _ _ _ ht hwh hx =>
    obtain rfl : t = 0 := by omega
    refine ⟨rfl, ?_, rfl, rfl, rfl, rfl⟩
    have : zeroAt exW (fun _ => ((0 : Nat) : Int)) 1 0 = WV.zero := if_pos ⟨0, Nat.zero_lt_one, rfl⟩
    rw [this]
    rfl
  | push T _ _ _ h => exact absurd hf (h 0 Nat.zero_lt_one)
  | swap t wh _ h => exact absurd h (by decide)
  | pop T _ h => exact absurd h (by decide)
  | none T _ h => exact absurd h (by decide)
theorem ex_on1 {m : Nat} {f : Nat → Int} (h : OnIs exW 8 1 m f) : m = 1 ∧ (zeroAt exW f m 0).on = false := by
  have w0 : Wts exW 8 0 := ⟨rfl, 0, Nat.zero_lt_one, rfl⟩
  obtain ⟨j, hj, hfj⟩ := h.all 0 Nat.zero_lt_one w0
  have := h.few
  refine ⟨by omega, ?_⟩
  have : zeroAt exW f m 0 = WV.zero := if_pos ⟨j, hj, hfj⟩
  rw [this]
  rfl
theorem one_on {w : World} {a : Option Addr} {cap : Nat} {V : Nat → WV} (h : WaitsAt w a 1 cap V) : ∃ b off, a = some ⟨b, off, none⟩ ∧ b < w.heap.size ∧ w.cell? ⟨b, off, none⟩ = some (.bool (V 0).on) := by
  obtain ⟨b, off, ha, hb, hc⟩ := h.2.2.2 Nat.zero_lt_one
  obtain ⟨_, _, h0, _⟩ := hc 0 Nat.zero_lt_one
  rw [Nat.zero_mul, Nat.add_zero] at h0
  exact ⟨b, off, ha, hb, h0⟩
theorem one_told {w : World} {a : Option Addr} {cap : Nat} {T : Nat → Nat → Int} (h : RowS 5 w a 1 cap T) : ∃ b off, a = some ⟨b, off, none⟩ ∧ b < w.heap.size ∧ w.cell? ⟨b, off, none⟩ = some (.int .i64 (T 0 0)) ∧ w.cell? ⟨b, off + 1, none⟩ = some (.int .i64 (T 0 1)) ∧ w.cell? ⟨b, off + 1 + 1, none⟩ = some (.int .i64 (T 0 2)) ∧ w.cell? ⟨b, off + 1 + 2, none⟩ = some (.int .i64 (T 0 3)) ∧ w.cell? ⟨b, off + 1 + 3, none⟩ = some (.int .i64 (T 0 4)) := by
  obtain ⟨b, off, ha, hb, hc⟩ := h.2.2.2 Nat.zero_lt_one
  have g := fun j hj => hc 0 j Nat.zero_lt_one hj
  simp only [Nat.zero_mul, Nat.add_zero] at g
  exact ⟨b, off, ha, hb, g 0 (by omega), g 1 (by omega), g 2 (by omega), g 3 (by omega), g 4 (by omega)⟩
theorem ex_row1 (w : World) : WaitsAt ((w.alloc (.cells #[.int .i64 2, .int .i64 8, .int .i64 0] 41)).alloc (.cells #[.bool true, .int .i64 0, .int .i64 3, .slice (some ⟨w.heap.size, 0, none⟩) 1 1] 25)) (some ⟨w.heap.size + 1, 0, none⟩) 1 1 exW := by
  refine ⟨by omega, (fun h => by cases h), Nat.le_refl _, fun _ => ⟨w.heap.size + 1, 0, rfl, by simp, fun i hi => ?_⟩⟩
  obtain rfl : i = 0 := by omega
  refine ⟨some ⟨w.heap.size, 0, none⟩, 1, ?_, ?_, ?_, ?_, by show 1 * (3 * 8) ≤ _; omega, (fun h => by cases h), Nat.le_refl _, fun _ => ⟨w.heap.size, 0, rfl, by simp; omega, fun i j hi hj => ?_⟩⟩
  · simp [exW]
  · simp [exW]
  · simp [exW]
  · simp [exW]
  · obtain rfl : i = 0 := by have : i < 1 := hi; omega
    match j, hj with
    | 0, _ => simp [exW]
    | 1, _ => simp [exW]
    | 2, _ => simp [exW]
theorem exC_at (w : World) : ChanAt w (.agg #[.int .i64 1, .int .i64 0, .bool true, .bool false, .slice none 0 0]) exC := ⟨none, 0, rfl, nil_row _ _⟩
set_option maxRecDepth 100000 in
set_option maxHeartbeats 3200000 in
theorem cawake_any (w : World) : Calls Try.prog 38 #[] w fun e w' => e = .returned (.bool true) ∧ Below w.heap.size w w' := by
  have HB0 := Lib.hid (show Below w.heap.size w ((w.alloc (.cells #[.int .i64 2, .int .i64 8, .int .i64 0] 41)).alloc (.cells #[.bool true, .int .i64 0, .int .i64 3, .slice (some ⟨w.heap.size, 0, none⟩) 1 1] 25)) from ((Below.refl _ _).alloc (Nat.le_refl _) _).alloc (by simp) _)
  have HW := Lib.hid (ex_row1 w)
  have hs0 : w.heap.size + 2 = ((w.alloc (.cells #[.int .i64 2, .int .i64 8, .int .i64 0] 41)).alloc (.cells #[.bool true, .int .i64 0, .int .i64 3, .slice (some ⟨w.heap.size, 0, none⟩) 1 1] 25)).heap.size := by simp
  go_enter Try.func38, Try.ntmps38
  go_upto_region 2 with (fail)
  revert HB0 HW hs0
  generalize (w.alloc (.cells #[.int .i64 2, .int .i64 8, .int .i64 0] 41)).alloc (.cells #[.bool true, .int .i64 0, .int .i64 3, .slice (some ⟨w.heap.size, 0, none⟩) 1 1] 25) = u
  intro HB0 HW hs0
  go_upto_region 3 with (go_at_call 31; go_loud ((with_reducible refine (do_any _ exC _ 1 1 exW 8 1 7 u (exC_at u) HW.out (by decide)).mono ?_); rintro e w1 ⟨C', V', code, rv, m, T, hi, cv, ra, rc, ta, tc, rfl, hfc, hfw, hft, hb⟩; obtain ⟨hn0, hon, rfl, rfl, ht1, ht4⟩ := ex_do hi; obtain ⟨ca', cc', rfl, _⟩ := hfc.at; obtain ⟨rb, ro, rfl, rlt, r0⟩ := one_on hfw.at; obtain ⟨tb, to, rfl, tlt, _, t1, _, _, t4⟩ := one_told hft.at; rw [hn0]; rw [hon] at r0; rw [ht1] at t1; rw [ht4] at t4; have HB1 := Lib.hid (HB0.out.trans (hb.mono HB0.out.size)); have HW1 := Lib.hid (HW.out.below hb); clear hi hfc hfw hft hb hn0 hon ht1 ht4))
  have hAA : Below w1.heap.size w1 ((w1.alloc (.cells #[.int .i64 C'.gen, .int .i64 C'.cap, .bool C'.used, .bool C'.closed, .slice ca' 0 cc'] 44)).alloc (.cells #[.int .i64 0, .int .i64 0, .int .i64 0, .int .i64 rv] 48)) := ((Below.refl _ _).alloc (Nat.le_refl _) _).alloc (by simp) _
  refine abstract_code (fun v => (v.cell? ⟨rb, ro, none⟩ = some (.bool false) ∧ v.cell? ⟨tb, to + 1, none⟩ = some (.int .i64 3) ∧ v.cell? ⟨tb, to + 1 + 3, none⟩ = some (.int .i64 7) ∧ v.cell? ⟨w1.heap.size, 4, none⟩ = some (.slice ca' 0 cc') ∧ v.cell? ⟨w1.heap.size + 1, 2, none⟩ = some (.int .i64 0)) ∧ (rb < v.heap.size ∧ tb < v.heap.size ∧ w1.heap.size + 1 < v.heap.size) ∧ WaitsAt v (some ⟨w.heap.size + 1, 0, none⟩) 1 1 exW ∧ Below w.heap.size w v)
    ⟨⟨((bcell hAA).1 _ _ rlt).trans r0, ((bcell hAA).1 _ _ tlt).trans t1, ((bcell hAA).1 _ _ tlt).trans t4, by simp, by simp⟩, ⟨Nat.lt_of_lt_of_le rlt hAA.size, Nat.lt_of_lt_of_le tlt hAA.size, by simp⟩, HW1.out.below hAA, HB1.out.trans (hAA.mono HB1.out.size)⟩ ?_
  generalize w1.heap.size = D
  clear hAA HB1 HW1 HB0 HW hs0 r0 t1 t4 rlt tlt
  rintro v ⟨⟨r0, t1, t4, c4, e2⟩, ⟨rlt, tlt, dlt⟩, hw, hb⟩
  have HB1 := Lib.hid hb
  have HW1 := Lib.hid hw
  clear hb hw
  go_upto_region 4 with (go_at_call 39; go_loud ((with_reducible refine (shut_yes _ exC _ 1 1 exW 8 _ (exC_at _) HW1.out rfl rfl).mono ?_); rintro e w2 ⟨m, f, cv, sa, sc, ua, uc, hon, rfl, hfc, hfw, hft, hb⟩; obtain ⟨rfl, hoff⟩ := ex_on1 hon; obtain ⟨ca2, cc2, rfl, _⟩ := hfc.at; obtain ⟨sb, so, rfl, slt, s0⟩ := one_on hfw.at; obtain ⟨ub, uo, rfl, ult, _, _, _, u3', _⟩ := one_told hft.at; rw [hoff] at s0; have u3 : w2.cell? ⟨ub, uo + 1 + 2, none⟩ = some (.int .i64 9) := u3'; clear u3'; have HB2 := Lib.hid (HB1.out.trans (hb.mono HB1.out.size)); have r0 := ((bcell hb).1 _ _ rlt).trans r0; have t1 := ((bcell hb).1 _ _ tlt).trans t1; have t4 := ((bcell hb).1 _ _ tlt).trans t4; have c4 := ((bcell hb).1 _ _ (show D < v.heap.size by omega)).trans c4; have e2 := ((bcell hb).1 _ _ dlt).trans e2; have rlt := Nat.lt_of_lt_of_le rlt hb.size; have tlt := Nat.lt_of_lt_of_le tlt hb.size; have dlt := Nat.lt_of_lt_of_le dlt hb.size; clear hon hfc hfw hft hb hoff))
  have hAA : Below w2.heap.size w2 (w2.alloc (.cells #[.int .i64 exC.gen, .int .i64 exC.cap, .bool exC.used, .bool true, .slice ca2 exC.n cc2] 44)) := (Below.refl _ _).alloc (Nat.le_refl _) _
  have HB3 := Lib.hid (HB2.out.trans (hAA.mono HB2.out.size))
  have dl : D < w2.heap.size := by omega
  clear hAA
  go_wp2
  go_ret
  exact ⟨rfl, HB3.out⟩
end Go.Proofs.Ytihpjfhibhpciaa
