/- The walk of WaitsMoves over the seat's program. -/
import Derived.Test.YtihpjfhibhpciaaWtQ
namespace Go.Proofs.Ytihpjfhibhpciaa
open Go.ChangeShapes Go.WideShapes Go.ChangeAt Go.RowKit Go.Joins

/-- A row that is returned: it reads as. -/
def RetAt1 (n : Nat) (V : Nat → WV) (w : World) (e : Ending) (w' : World) : Prop := ∃ a cap, e = .returned (.slice a n cap) ∧ WaitsAt w' a n cap V ∧ Below w.heap.size w w'
theorem OneAt.lay {w : World} {U : WV} {a : Option Addr} {c : Nat} (r : RowS 3 w a U.m c U.c) : OneAt w (.agg #[.bool U.on, .int .i64 U.tk, .int .i64 U.sq, .slice a U.m c]) U := ⟨a, c, rfl, r⟩
theorem RetW.at {n : Nat} {V : Nat → WV} {w w' : World} {e : Ending} (hn : n * 48 ≤ 140737488355328) (h : RetW n V w e w') : RetAt1 n V w e w' := by
  obtain ⟨v, A, C, rfl, ho, hc, hb⟩ := h
  obtain ⟨a, cap, rfl, hw⟩ := OwnW.at hn ho hc
  exact ⟨a, cap, rfl, hw, hb⟩
theorem both_put (n : Nat) (V : Nat → WV) (t : Int) (U : WV) : ∃ (P : Nat → WV) (po : Bool), (∀ (w : World) (a : Option Addr) (cap : Nat) (wv : Value), WaitsAt w a n cap V → OneAt w wv U → Calls Try.prog 15 #[.slice a n cap, .int .i64 t, wv] w (RetAt2 n P po w)) ∧
    ∀ (w : World) (a : Option Addr) (cap : Nat) (wv : Value), WaitsAt w a n cap V → OneAt w wv U → Calls Try.prog 16 #[.slice a n cap, .int .i64 t, wv] w (RetAt2 n P po w) :=
  ⟨_, _, fun _ _ _ _ h hu => put_any h hu, fun _ _ _ _ h hu => rput_any h hu⟩
theorem both_cut (n : Nat) (V : Nat → WV) (t : Int) : ∃ (P : Nat → WV) (po : Bool), (∀ (w : World) (a : Option Addr) (cap : Nat), WaitsAt w a n cap V → Calls Try.prog 17 #[.slice a n cap, .int .i64 t] w (RetAt2 n P po w)) ∧
    ∀ (w : World) (a : Option Addr) (cap : Nat), WaitsAt w a n cap V → Calls Try.prog 18 #[.slice a n cap, .int .i64 t] w (RetAt2 n P po w) :=
  ⟨_, _, fun _ _ _ h => cut_any h, fun _ _ _ h => rcut_any h⟩
set_option maxRecDepth 100000 in
set_option maxHeartbeats 3200000 in
theorem moves_walk (a : Option Addr) (n cap : Nat) (V : Nat → WV) (t : Int) (wv : Value) (U : WV) (W : World) (h : WaitsAt W a n cap V) (hu : OneAt W wv U) : Calls Try.prog 3 #[.slice a n cap, .int .i64 t, wv] W fun e w' => e = .returned (.bool true) ∧ Below W.heap.size W w' := by
  have hn := h.1
  obtain ⟨ua, uc, rfl, hur⟩ := hu
  have HA := Lib.hid ((Below.refl W.heap.size W).alloc (Nat.le_refl _) (.cells #[.bool U.on, .int .i64 U.tk, .int .i64 U.sq, .slice ua U.m uc] 25))
  have HL0 := Lib.hid (h.below HA.out)
  have HUR := Lib.hid (hur.below HA.out)
  clear h hur
  obtain ⟨P, po, hp, hrp⟩ := both_put n V t U
  obtain ⟨C, co, hc, hrc⟩ := both_cut n V t
  have HP := Lib.hid hp
  have HRP := Lib.hid hrp
  have HC := Lib.hid hc
  have HRC := Lib.hid hrc
  have e1 : (po == po) = true := by simp
  have e2 : (co == co) = true := by simp
  clear hp hrp hc hrc
  go_enter Try.func3, Try.ntmps3
  go_upto_region 1 with (fail)
  revert HA HL0 HUR
  have zq : W.heap.size < (W.alloc (.cells #[.bool U.on, .int .i64 U.tk, .int .i64 U.sq, .slice ua U.m uc] 25)).heap.size := by simp
  have q0 : (W.alloc (.cells #[.bool U.on, .int .i64 U.tk, .int .i64 U.sq, .slice ua U.m uc] 25)).cell? ⟨W.heap.size, 0, none⟩ = some (.bool U.on) := by simp
  have q1 : (W.alloc (.cells #[.bool U.on, .int .i64 U.tk, .int .i64 U.sq, .slice ua U.m uc] 25)).cell? ⟨W.heap.size, 1, none⟩ = some (.int .i64 U.tk) := by simp
  have q2 : (W.alloc (.cells #[.bool U.on, .int .i64 U.tk, .int .i64 U.sq, .slice ua U.m uc] 25)).cell? ⟨W.heap.size, 2, none⟩ = some (.int .i64 U.sq) := by simp
  have q3 : (W.alloc (.cells #[.bool U.on, .int .i64 U.tk, .int .i64 U.sq, .slice ua U.m uc] 25)).cell? ⟨W.heap.size, 3, none⟩ = some (.slice ua U.m uc) := by simp
  revert zq q0 q1 q2 q3
  generalize W.alloc (.cells #[.bool U.on, .int .i64 U.tk, .int .i64 U.sq, .slice ua U.m uc] 25) = u
  intro zq q0 q1 q2 q3 HA HL0 HUR
  go_upto_region 2 with (go_at_call 14; go_loud ((with_reducible refine ((rcopy_any _ _ _ _ _ HL0.out).mono fun _ _ hr => hr.at hn).mono ?_); rintro e u1 ⟨a1, c1, rfl, hw, hb⟩; have HWas := Lib.hid hw; have HL0 := Lib.hid (HL0.out.below hb); have HUR := Lib.hid (HUR.out.below hb); have HA := Lib.hid (HA.out.trans (hb.mono HA.out.size)); have q0 := ((bcell hb).1 _ _ zq).trans q0; have q1 := ((bcell hb).1 _ _ zq).trans q1; have q2 := ((bcell hb).1 _ _ zq).trans q2; have q3 := ((bcell hb).1 _ _ zq).trans q3; have zq := Nat.lt_of_lt_of_le zq (hb).size; clear hw hb))
  go_upto_region 3 with (go_at_call 15; go_loud ((with_reducible refine (HP.out _ _ _ _ HL0.out (OneAt.lay HUR.out)).mono ?_); rintro e u2 ⟨a2, c2, rfl, hw, hb⟩; have HPa := Lib.hid hw; have HL0 := Lib.hid (HL0.out.below hb); have HUR := Lib.hid (HUR.out.below hb); have HWas := Lib.hid (HWas.out.below hb); have HA := Lib.hid (HA.out.trans (hb.mono HA.out.size)); have q0 := ((bcell hb).1 _ _ zq).trans q0; have q1 := ((bcell hb).1 _ _ zq).trans q1; have q2 := ((bcell hb).1 _ _ zq).trans q2; have q3 := ((bcell hb).1 _ _ zq).trans q3; have zq := Nat.lt_of_lt_of_le zq (hb).size; clear hw hb))
  go_upto_region 4 with (go_at_call 16; go_loud ((with_reducible refine (HRP.out _ _ _ _ HL0.out (OneAt.lay HUR.out)).mono ?_); rintro e u3 ⟨a3, c3, rfl, hw, hb⟩; have HPb := Lib.hid hw; have HL0 := Lib.hid (HL0.out.below hb); have HWas := Lib.hid (HWas.out.below hb); have HPa := Lib.hid (HPa.out.below hb); have HA := Lib.hid (HA.out.trans (hb.mono HA.out.size)); have q0 := ((bcell hb).1 _ _ zq).trans q0; have q1 := ((bcell hb).1 _ _ zq).trans q1; have q2 := ((bcell hb).1 _ _ zq).trans q2; have q3 := ((bcell hb).1 _ _ zq).trans q3; have zq := Nat.lt_of_lt_of_le zq (hb).size; clear hw hb))
  go_upto_region 5 with (go_at_call 17; go_loud ((with_reducible refine (HC.out _ _ _ HL0.out).mono ?_); rintro e u4 ⟨a4, c4, rfl, hw, hb⟩; have HCa := Lib.hid hw; have HL0 := Lib.hid (HL0.out.below hb); have HWas := Lib.hid (HWas.out.below hb); have HPa := Lib.hid (HPa.out.below hb); have HPb := Lib.hid (HPb.out.below hb); have HA := Lib.hid (HA.out.trans (hb.mono HA.out.size)); have q0 := ((bcell hb).1 _ _ zq).trans q0; have q1 := ((bcell hb).1 _ _ zq).trans q1; have q2 := ((bcell hb).1 _ _ zq).trans q2; have q3 := ((bcell hb).1 _ _ zq).trans q3; have zq := Nat.lt_of_lt_of_le zq (hb).size; clear hw hb))
  go_upto_region 6 with (go_at_call 18; go_loud ((with_reducible refine (HRC.out _ _ _ HL0.out).mono ?_); rintro e u5 ⟨a5, c5, rfl, hw, hb⟩; have HCb := Lib.hid hw; have HL0 := Lib.hid (HL0.out.below hb); have HWas := Lib.hid (HWas.out.below hb); have HPa := Lib.hid (HPa.out.below hb); have HPb := Lib.hid (HPb.out.below hb); have HCa := Lib.hid (HCa.out.below hb); have HA := Lib.hid (HA.out.trans (hb.mono HA.out.size)); have q0 := ((bcell hb).1 _ _ zq).trans q0; have q1 := ((bcell hb).1 _ _ zq).trans q1; have q2 := ((bcell hb).1 _ _ zq).trans q2; have q3 := ((bcell hb).1 _ _ zq).trans q3; have zq := Nat.lt_of_lt_of_le zq (hb).size; clear hw hb))
  clear q0 q1 q2 q3 zq HUR HP HRP HC HRC
  go_wp2_with (first
    | (go_at_call 19; (with_reducible refine (waits_yes _ _ _ _ _ _ _ HPa.out HPb.out).mono ?_); rintro e u6 ⟨rfl, hb⟩; have HCa := Lib.hid (HCa.out.below hb); have HCb := Lib.hid (HCb.out.below hb); have HL0 := Lib.hid (HL0.out.below hb); have HWas := Lib.hid (HWas.out.below hb); have HA := Lib.hid (HA.out.trans (hb.mono HA.out.size)); clear hb)
    | (go_at_call 19; (with_reducible refine (waits_yes _ _ _ _ _ _ _ HCa.out HCb.out).mono ?_); rintro e u7 ⟨rfl, hb⟩; have HL0 := Lib.hid (HL0.out.below hb); have HWas := Lib.hid (HWas.out.below hb); have HA := Lib.hid (HA.out.trans (hb.mono HA.out.size)); clear hb)
    | (go_at_call 19; (with_reducible refine (waits_yes _ _ _ _ _ _ _ HL0.out HWas.out).mono ?_); rintro e u8 ⟨rfl, hb⟩; have HA := Lib.hid (HA.out.trans (hb.mono HA.out.size)); clear hb)
    | (go_at_call 20; (with_reducible refine (awake_any _).mono ?_); rintro e u9 ⟨rfl, hb⟩; have HA := Lib.hid (HA.out.trans (hb.mono HA.out.size)); clear hb))
  go_ret
  exact ⟨rfl, HA.out⟩
end Go.Proofs.Ytihpjfhibhpciaa
