/- RetireNeeds over the seat's program: it answers true. -/
import Derived.Test.YtdfbddepeacebaaRtMost
import Derived.Test.YtdfbddepeacebaaOpenC
namespace Go.Proofs.Ytdfbddepeacebaa
open Go.ChangeShapes Go.WideShapes Go.ChangeAt Go.RowKit Go.Joins

set_option maxRecDepth 100000 in
set_option maxHeartbeats 6400000 in
theorem needs_walk (v : Value) (P : PV) (l : Int) (a : Option Addr) (n cap : Nat) (f : Nat → Int) (w : World) (h : PoolAt w v P) (_ : P.good) (_ : -9223372036854775808 ≤ l) (_ : l ≤ 9223372036854775807) (hr : RowAt .u64 w a n cap f ∧ n ≤ cap) (hf : Words64 f n) : Calls Try.prog 5 #[v, .int .i64 l, .slice a n cap] w fun e w' => e = .returned (.bool true) ∧ Below w.heap.size w w' := by
  have HP := Lib.hid (fun W hb => (h.below hb : PoolAt W v P))
  have HRW := Lib.hid (fun W hb => (hr.1.below hb : RowAt .u64 W a n cap f))
  have HFF := Lib.hid hf
  have HCAP := Lib.hid hr.2
  obtain ⟨fa, fc, oa, oc, rfl, _, _⟩ := h
  clear hr hf
  have HB0 := Lib.hid (show Below w.heap.size w (w.alloc (.cells #[.int .i64 P.i, .int .i64 P.t, .slice fa P.nf fc, .slice oa P.no oc, .int .i64 P.s] 27)) from (Below.refl _ _).alloc (Nat.le_refl _) _)
  have HX := Lib.hid (show Box (w.alloc (.cells #[.int .i64 P.i, .int .i64 P.t, .slice fa P.nf fc, .slice oa P.no oc, .int .i64 P.s] 27)) w.heap.size (.int .i64 P.i) (.int .i64 P.t) (.slice fa P.nf fc) (.slice oa P.no oc) (.int .i64 P.s) from Box.new w _)
  go_enter Try.func5, Try.ntmps5
  go_upto_region 1 with (fail)
  refine abstract_code (fun u => Box u w.heap.size (.int .i64 P.i) (.int .i64 P.t) (.slice fa P.nf fc) (.slice oa P.no oc) (.int .i64 P.s) ∧ Below w.heap.size w u ∧ w.heap.size < u.heap.size) ⟨HX.out, HB0.out, by simp⟩ ?_
  clear HX HB0
  rintro u ⟨hx, hb, z0⟩
  have HU0 := Lib.hid hb
  clear hb
  obtain ⟨c0, c1, c2, c3, c4, cf⟩ := hx
  clear cf
  go_region_held3 (fun W => W.cell? ⟨w.heap.size, 0, none⟩ = some (.int .i64 P.i) ∧ W.cell? ⟨w.heap.size, 1, none⟩ = some (.int .i64 P.t) ∧ W.cell? ⟨w.heap.size, 2, none⟩ = some (.slice fa P.nf fc) ∧ W.cell? ⟨w.heap.size, 3, none⟩ = some (.slice oa P.no oc) ∧ W.cell? ⟨w.heap.size, 4, none⟩ = some (.int .i64 P.s))
    (first | with_reducible exact ⟨c0, c1, c2, c3, c4⟩ | (go_simp; done) | go_keep)
    (first
      | (go_at_call 19; (with_reducible refine (needs_any _ P l _ (HP.out _ ?_)).mono ?_); (any_goals (first | (with_reducible refine Below.drew ?_; with_reducible exact HU0.out) | with_reducible exact HU0.out)); rintro e w2 ⟨rfl, hb⟩; have HB2 := Lib.hid (show Below u.heap.size u w2 from below_next (by with_reducible refine Below.drew ?_; with_reducible exact Below.refl _ _) hb); have c0 := ((bcell HB2.out).1 _ _ z0).trans c0; have c1 := ((bcell HB2.out).1 _ _ z0).trans c1; have c2 := ((bcell HB2.out).1 _ _ z0).trans c2; have c3 := ((bcell HB2.out).1 _ _ z0).trans c3; have c4 := ((bcell HB2.out).1 _ _ z0).trans c4; have z0 := Nat.lt_of_lt_of_le z0 HB2.out.size; have HU2 := Lib.hid (HU0.out.trans (HB2.out.mono HU0.out.size)); clear hb)
      | (go_at_call 20; (with_reducible refine (rneeds_any _ P l _ (HP.out _ HU2.out)).mono ?_); rintro e w3 ⟨rfl, hb⟩; have HB3 := Lib.hid (show Below w2.heap.size w2 w3 from hb); have c0 := ((bcell HB3.out).1 _ _ z0).trans c0; have c1 := ((bcell HB3.out).1 _ _ z0).trans c1; have c2 := ((bcell HB3.out).1 _ _ z0).trans c2; have c3 := ((bcell HB3.out).1 _ _ z0).trans c3; have c4 := ((bcell HB3.out).1 _ _ z0).trans c4; have z0 := Nat.lt_of_lt_of_le z0 HB3.out.size; have HU3 := Lib.hid (HU2.out.trans (HB3.out.mono HU2.out.size)); clear hb)
      | (go_at_call 21; (with_reducible refine (most_any a n cap f HFF.out _ (HRW.out _ HU3.out)).mono ?_); rintro e w4 ⟨rfl, hb⟩; have HB4 := Lib.hid (show Below w3.heap.size w3 w4 from hb); have c0 := ((bcell HB4.out).1 _ _ z0).trans c0; have c1 := ((bcell HB4.out).1 _ _ z0).trans c1; have c2 := ((bcell HB4.out).1 _ _ z0).trans c2; have c3 := ((bcell HB4.out).1 _ _ z0).trans c3; have c4 := ((bcell HB4.out).1 _ _ z0).trans c4; have z0 := Nat.lt_of_lt_of_le z0 HB4.out.size; have HU4 := Lib.hid (HU3.out.trans (HB4.out.mono HU3.out.size)); clear hb)
      | (go_at_call 22; (with_reducible refine (rmost_any a n cap f HFF.out HCAP.out _ (HRW.out _ HU4.out)).mono ?_); rintro e w5 ⟨rfl, hb⟩; have HB5 := Lib.hid (show Below w4.heap.size w4 w5 from hb); have c0 := ((bcell HB5.out).1 _ _ z0).trans c0; have c1 := ((bcell HB5.out).1 _ _ z0).trans c1; have c2 := ((bcell HB5.out).1 _ _ z0).trans c2; have c3 := ((bcell HB5.out).1 _ _ z0).trans c3; have c4 := ((bcell HB5.out).1 _ _ z0).trans c4; have z0 := Nat.lt_of_lt_of_le z0 HB5.out.size; have HU5 := Lib.hid (HU4.out.trans (HB5.out.mono HU4.out.size)); clear hb)
      | (go_at_call 13; (with_reducible refine (awake_any _).mono ?_); rintro e w6 ⟨rfl, hb⟩; have HB6 := Lib.hid (show Below w5.heap.size w5 w6 from hb); have c0 := ((bcell HB6.out).1 _ _ z0).trans c0; have c1 := ((bcell HB6.out).1 _ _ z0).trans c1; have c2 := ((bcell HB6.out).1 _ _ z0).trans c2; have c3 := ((bcell HB6.out).1 _ _ z0).trans c3; have c4 := ((bcell HB6.out).1 _ _ z0).trans c4; have z0 := Nat.lt_of_lt_of_le z0 HB6.out.size; have HU6 := Lib.hid (HU5.out.trans (HB6.out.mono HU5.out.size)); clear hb))
  all_goals go_wp2_with fail
  all_goals go_ret
  all_goals exact ⟨rfl, HU6.out⟩
end Go.Proofs.Ytdfbddepeacebaa
