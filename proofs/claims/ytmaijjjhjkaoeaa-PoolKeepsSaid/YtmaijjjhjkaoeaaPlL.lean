/- Why, and the document's example for layer 5, over the seat's program. -/
import Derived.Test.YtmaijjjhjkaoeaaPlK
namespace Go.Proofs.Ytmaijjjhjkaoeaa
open Go.ChangeShapes Go.WideShapes Go.ChangeAt Go.RowKit Go.Joins

/-- Why nothing can be taken of a pool. -/
def PV.why (P : PV) : Int := if P.t = 0 then (if P.nf = 0 then (if P.no = 0 then 7 else 6) else 0) else 0
set_option maxRecDepth 100000 in
set_option maxHeartbeats 1600000 in
theorem why_any (v : Value) (P : PV) (w : World) (h : PoolAt w v P) : Calls Try.prog 25 #[v] w fun e w' => e = .returned (.int .i64 P.why) ∧ Below w.heap.size w w' := by
  obtain ⟨fa, fc, oa, oc, rfl, _, _⟩ := h
  obtain ⟨pi, pt, nf, ff, no, fo, ps⟩ := P
  have HX := Lib.hid (Box.new (a := .int .i64 pi) (b := .int .i64 pt) (c := .slice fa nf fc) (d := .slice oa no oc) (e := .int .i64 ps) w 27)
  have HB := Lib.hid (show Below w.heap.size w (w.alloc (.cells #[.int .i64 pi, .int .i64 pt, .slice fa nf fc, .slice oa no oc, .int .i64 ps] 27)) from (Below.refl _ _).alloc (Nat.le_refl _) _)
  dsimp only at *
  by_cases ht : pt = 0
  · subst ht
    cases nf with
    | zero =>
      cases no with
      | zero =>
        go_enter Try.func25, Try.ntmps25
        go_wp2_with (go_at_call 35; (with_reducible refine (owns_eq (b := false) _ _ rfl _ _ _ _ _ _ _ _).mono ?_); rintro e w1 ⟨rfl, hb⟩; have HX1 := Lib.hid (HX.out.below (by simp) hb); have HBX := Lib.hid (HB.out.trans (hb.mono HB.out.size)); obtain ⟨c0, c1, c2, c3, c4, cf⟩ := HX1.out; clear hb cf)
        go_ret
        exact ⟨rfl, HBX.out⟩
      | succ no =>
        have j1 : (0 : Int) < (no : Int) + 1 := by omega
        go_enter Try.func25, Try.ntmps25
        go_wp2_with (go_at_call 35; (with_reducible refine (owns_eq (b := false) _ _ rfl _ _ _ _ _ _ _ _).mono ?_); rintro e w1 ⟨rfl, hb⟩; have HX1 := Lib.hid (HX.out.below (by simp) hb); have HBX := Lib.hid (HB.out.trans (hb.mono HB.out.size)); obtain ⟨c0, c1, c2, c3, c4, cf⟩ := HX1.out; clear hb cf)
        go_ret
        exact ⟨rfl, HBX.out⟩
    | succ nf =>
      have j1 : (0 : Int) < (nf : Int) + 1 := by omega
      go_enter Try.func25, Try.ntmps25
      go_wp2_with (go_at_call 35; (with_reducible refine (owns_eq (b := false) _ _ rfl _ _ _ _ _ _ _ _).mono ?_); rintro e w1 ⟨rfl, hb⟩; have HX1 := Lib.hid (HX.out.below (by simp) hb); have HBX := Lib.hid (HB.out.trans (hb.mono HB.out.size)); obtain ⟨c0, c1, c2, c3, c4, cf⟩ := HX1.out; clear hb cf)
      go_ret
      exact ⟨rfl, HBX.out⟩
  · have hw : (PV.mk pi pt nf ff no fo ps).why = 0 := by simp [PV.why, ht]
    rw [hw]
    go_enter Try.func25, Try.ntmps25
    go_wp2_with (go_at_call 35; (with_reducible refine (owns_eq (b := true) _ _ (by simp [ht]) _ _ _ _ _ _ _ _).mono ?_); rintro e w1 ⟨rfl, hb⟩; have HX1 := Lib.hid (HX.out.below (by simp) hb); have HBX := Lib.hid (HB.out.trans (hb.mono HB.out.size)); obtain ⟨c0, c1, c2, c3, c4, cf⟩ := HX1.out; clear hb cf)
    go_ret
    exact ⟨rfl, HBX.out⟩

def exP : PV := ⟨4, 1, 1, fun i j => newF 4 (i + 1) j, 0, fun _ _ => 0, 0⟩
def exQ : PV := exP.leave.away 0 1 5
theorem take_ex (v : Value) (w : World) (h : PoolAt w v (PV.new 4 2)) : Calls Try.prog 9 #[v, .int .i64 9] w fun e w' => ∃ fa fc oa oc, e = .returned (.tuple #[.agg #[.int .i64 4, .int .i64 1, .slice fa 1 fc, .slice oa 0 oc, .int .i64 0], .bool true]) ∧ PoolAt w' (.agg #[.int .i64 4, .int .i64 1, .slice fa 1 fc, .slice oa 0 oc, .int .i64 0]) exP ∧ Below w.heap.size w w' := by
  have hR : PV.take (PV.new 4 2) 9 = (exP, true) := by
    show PV.take ⟨0, 0, 1 + 1, newF 4, 0, fun _ _ => 0, 0⟩ 9 = _
    rw [take_yes (by decide +kernel), show newF 4 0 0 = 4 by decide +kernel, show newF 4 0 1 = 0 by decide +kernel]
    rfl
  refine (take_any v _ 9 (by decide) w h (fun i _ => by show -9223372036854775808 ≤ newF 4 i 1; simp [newF])).mono ?_
  rintro e w1 ⟨v1, rfl, hp, hb⟩
  rw [hR] at hp ⊢
  obtain ⟨fa, fc, oa, oc, rfl, hf, ho⟩ := hp
  exact ⟨fa, fc, oa, oc, rfl, ⟨fa, fc, oa, oc, rfl, hf, ho⟩, hb⟩
theorem back_ex (v : Value) (w : World) (h : PoolAt w v exQ) : Calls Try.prog 20 #[v, .func (.func 38) #[] #[]] w fun e w' => ∃ b off fc oa oc, e = .returned (.tuple #[.agg #[.int .i64 0, .int .i64 0, .slice (some ⟨b, off, none⟩) 2 fc, .slice oa 0 oc, .int .i64 0], .int .i64 1]) ∧ w'.cell? ⟨b, off + 2, none⟩ = some (.int .i64 0) ∧ w'.cell? ⟨b, off + 2 + 1, none⟩ = some (.int .i64 1) ∧ 2 ≤ fc ∧ b < w'.heap.size ∧ Below w.heap.size w w' := by
  refine (back_any v _ exQ (fun _ => true) (by decide) w h (fun k W _ _ => tells_always _ _ _ W)).mono ?_
  rintro e w1 ⟨fv, ov, rfl, ho, hb⟩
  obtain ⟨fa, fc, oa, oc, hv, hf, ho⟩ := ho.at (by decide) (by decide)
  obtain ⟨b, off, rfl, hbb, hcc⟩ := hf.get (k := 1) (by decide)
  obtain rfl : fv = .slice (some ⟨b, off, none⟩) 2 fc := by
    simp only [Value.agg.injEq] at hv
    have := congrArg (fun x => x[2]?) hv
    simpa [show (exQ.back (fun _ => true) exQ.no).nf = 2 by decide +kernel] using this
  obtain rfl : ov = .slice oa 0 oc := by
    simp only [Value.agg.injEq] at hv
    have := congrArg (fun x => x[3]?) hv
    simpa [show (exQ.back (fun _ => true) exQ.no).no = 0 by decide +kernel] using this
  have h0 := hcc 1 0 (by decide) (by decide)
  have h1 := hcc 1 1 (by decide) (by decide)
  rw [show (exQ.back (fun _ => true) exQ.no).ff 1 0 = 0 by decide +kernel] at h0
  rw [show (exQ.back (fun _ => true) exQ.no).ff 1 1 = 1 by decide +kernel] at h1
  exact ⟨b, off, fc, oa, oc, rfl, by simpa using h0, by simpa using h1, hf.2.2.1, hbb, hb⟩
theorem why_zero (w : World) : Calls Try.prog 25 #[.agg #[.int .i64 0, .int .i64 0, .slice none 0 0, .slice none 0 0, .int .i64 0]] w fun e w' => e = .returned (.int .i64 7) ∧ Below w.heap.size w w' :=
  why_any _ ⟨0, 0, 0, fun _ _ => 0, 0, fun _ _ => 0, 0⟩ w ⟨none, 0, none, 0, rfl, RowS.nil rfl rfl, RowS.nil rfl rfl⟩
set_option maxRecDepth 100000 in
set_option maxHeartbeats 3200000 in
theorem awake_any (w : World) : Calls Try.prog 14 #[] w fun e w' => e = .returned (.bool true) ∧ Below w.heap.size w w' := by
  go_enter Try.func14, Try.ntmps14
  go_wp2_with fail
  refine (new_any 4 2 w).mono ?_
  rintro e w1 ⟨fv, ov, rfl, ho, hb⟩
  have HP1 := Lib.hid (ho.at (by decide) (by decide))
  have HB1 := Lib.hid hb
  clear ho hb
  dsimp only [PV.new] at HP1 ⊢
  go_wp2_with (first
    | (go_at_call 9; (with_reducible refine (take_ex _ _ HP1.out).mono ?_); rintro e w2 ⟨fa, fc, oa, oc, rfl, hp, hb⟩; have HP2 := Lib.hid hp; have HB2 := Lib.hid (HB1.out.trans (hb.mono HB1.out.size)); clear hp hb)
    | (go_at_call 15; have HA2 := Lib.hid ((Below.refl w2.heap.size w2).alloc (Nat.le_refl _) (.cells #[.int .i64 4, .int .i64 1, .slice fa 1 fc, .slice oa 0 oc, .int .i64 0] 27)); have HX2 := Lib.hid (Box.new (a := .int .i64 4) (b := .int .i64 1) (c := .slice fa 1 fc) (d := .slice oa 0 oc) (e := .int .i64 0) w2 27); (with_reducible refine (leave_any _ exP _ (HP2.out.below HA2.out)).mono ?_); rintro e w3 ⟨f3, o3, rfl, ho, hb⟩; have HP3 := Lib.hid (ho.at (by decide) (by decide)); have HB3 := Lib.hid ((HB2.out.trans (HA2.out.mono HB2.out.size)).trans (hb.mono (by have := HB2.out.size; simp; omega))); have HX3 := Lib.hid (HX2.out.below (by simp) hb); have z3 := size1 hb; clear ho hb)
    | (go_at_call 17; (with_reducible refine (away_any _ exP.leave 0 1 5 _ HP3.out (by decide)).mono ?_); rintro e w4 ⟨f4, o4, rfl, ho, hb⟩; have HP4 := Lib.hid (ho.at (by decide) (by decide)); have HB4 := Lib.hid (HB3.out.trans (hb.mono HB3.out.size)); have HX4 := Lib.hid (HX3.out.below z3 hb); have z4 := Nat.lt_of_lt_of_le z3 hb.size; clear ho hb)
    | (go_at_call 20; (with_reducible refine (back_ex _ _ HP4.out).mono ?_); rintro e w5 ⟨b, off, fc5, oa5, oc5, rfl, x0, x1, hfc, hbb, hb⟩; have HB5 := Lib.hid (HB4.out.trans (hb.mono HB4.out.size)); have HX5 := Lib.hid (HX4.out.below z4 hb); have z5 := Nat.lt_of_lt_of_le z4 hb.size; obtain ⟨c0, c1, c2, c3, c4, cf⟩ := HX5.out; clear cf hb)
    | (go_at_call 25; (with_reducible refine (why_zero _).mono ?_); rintro e w6 ⟨rfl, hb⟩; have y5 : w.heap.size ≤ w5.heap.size := HB5.out.size; have HB6 := Lib.hid (show Below w.heap.size w w6 from below_next (by repeat' (first | with_reducible exact HB5.out | with_reducible refine Below.alloc ?_ ?_ _ | with_reducible refine Below.setCell ?_ ?_ _ | with_reducible refine Below.drew ?_ | omega | (simp; omega))) hb)))
  go_ret
  exact ⟨rfl, HB6.out⟩
end Go.Proofs.Ytmaijjjhjkaoeaa
