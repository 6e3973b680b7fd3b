/- Why, and the document's example for layer 5, over the seat's program. -/
import Derived.Test.YtdfbddepeacebaaRtK
namespace Go.Proofs.Ytdfbddepeacebaa
open Go.ChangeShapes Go.WideShapes Go.ChangeAt Go.RowKit Go.Joins

/-- Why nothing can be taken of a pool. -/
def PV.why (P : PV) : Int := if P.t = 0 then (if P.nf = 0 then (if P.no = 0 then 7 else 6) else 0) else 0
set_option maxRecDepth 100000 in
set_option maxHeartbeats 1600000 in
theorem why_any (v : Value) (P : PV) (w : World) (h : PoolAt w v P) : Calls Try.prog 32 #[v] w fun e w' => e = .returned (.int .i64 P.why) ∧ Below w.heap.size w w' := by
  obtain ⟨fa, fc, oa, oc, rfl, _, _⟩ := h
  obtain ⟨pi, pt, nf, ff, no, fo, ps⟩ := P
  have HX := Lib.hid (Box.new (a := .int .i64 pi) (b := .int .i64 pt) (c := .slice fa nf fc) (d := .slice oa no oc) (e := .int .i64 ps) w 27)
  have HB := Lib.hid (show Below w.heap.size w (w.alloc (.cells #[.int .i64 pi, .int .i64 pt, .slice fa nf fc, .slice oa no oc, .int .i64 ps] 27)) from (Below.refl _ _).alloc (Nat.le_refl _) _)
  dsimp only at *
  by_cases ht : pt = 0
  · subst ht
    cases nf with
    | zero =>
      cases no with
      | zero =>
        go_enter Try.func32, Try.ntmps32
        go_wp2_with (go_at_call 41; (with_reducible refine (owns_eq (b := false) _ _ rfl _ _ _ _ _ _ _ _).mono ?_); rintro e w1 ⟨rfl, hb⟩; have HX1 := Lib.hid (HX.out.below (by simp) hb); have HBX := Lib.hid (HB.out.trans (hb.mono HB.out.size)); obtain ⟨c0, c1, c2, c3, c4, cf⟩ := HX1.out; clear hb cf)
        go_ret
        exact ⟨rfl, HBX.out⟩
      | succ no =>
        have j1 : (0 : Int) < (no : Int) + 1 := by omega
        go_enter Try.func32, Try.ntmps32
        go_wp2_with (go_at_call 41; (with_reducible refine (owns_eq (b := false) _ _ rfl _ _ _ _ _ _ _ _).mono ?_); rintro e w1 ⟨rfl, hb⟩; have HX1 := Lib.hid (HX.out.below (by simp) hb); have HBX := Lib.hid (HB.out.trans (hb.mono HB.out.size)); obtain ⟨c0, c1, c2, c3, c4, cf⟩ := HX1.out; clear hb cf)
        go_ret
        exact ⟨rfl, HBX.out⟩
    | succ nf =>
      have j1 : (0 : Int) < (nf : Int) + 1 := by omega
      go_enter Try.func32, Try.ntmps32
      go_wp2_with (go_at_call 41; (with_reducible refine (owns_eq (b := false) _ _ rfl _ _ _ _ _ _ _ _).mono ?_); rintro e w1 ⟨rfl, hb⟩; have HX1 := Lib.hid (HX.out.below (by simp) hb); have HBX := Lib.hid (HB.out.trans (hb.mono HB.out.size)); obtain ⟨c0, c1, c2, c3, c4, cf⟩ := HX1.out; clear hb cf)
      go_ret
      exact ⟨rfl, HBX.out⟩
  · have hw : (PV.mk pi pt nf ff no fo ps).why = 0 := by simp [PV.why, ht]
    rw [hw]
    go_enter Try.func32, Try.ntmps32
    go_wp2_with (go_at_call 41; (with_reducible refine (owns_eq (b := true) _ _ (by simp [ht]) _ _ _ _ _ _ _ _).mono ?_); rintro e w1 ⟨rfl, hb⟩; have HX1 := Lib.hid (HX.out.below (by simp) hb); have HBX := Lib.hid (HB.out.trans (hb.mono HB.out.size)); obtain ⟨c0, c1, c2, c3, c4, cf⟩ := HX1.out; clear hb cf)
    go_ret
    exact ⟨rfl, HBX.out⟩

end Go.Proofs.Ytdfbddepeacebaa
