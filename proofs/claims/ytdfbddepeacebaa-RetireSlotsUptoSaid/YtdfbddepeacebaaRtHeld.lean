/- Held, the reference's, and Refs of two rows that are the same, over the seat's program. -/
import Derived.Test.YtdfbddepeacebaaRtW
namespace Go.Proofs.Ytdfbddepeacebaa
open Go.ChangeShapes Go.WideShapes Go.ChangeAt Go.RowKit Go.Joins

theorem Try.info_ref : (Try.prog.info? 23).map (fun i => (i.zero, i.size, i.bytes)) = some (some (.agg #[.int .i64 0, .int .i64 0]), 2, 16) := by kernel_rfl
/-- What of so many nodes that are put away is told, as free nodes. -/
def PV.held (P : PV) (g : Nat → Bool) : Nat → PV
  | 0 => ⟨0, 0, 0, fun _ _ => 0, 0, fun _ _ => 0, 0⟩
  | k + 1 => if g k = true then (PV.held P g k).push (P.fo k 0) (P.fo k 1) else PV.held P g k
theorem held_le (P : PV) (g : Nat → Bool) (k : Nat) : (P.held g k).nf ≤ k := by
  induction k with
  | zero => exact Nat.le_refl _
  | succ k ih =>
    simp only [PV.held]
    split
    · show (P.held g k).nf + 1 ≤ _
      omega
    · omega
theorem own_push2 {w : World} {B E gg cap' : Nat} {P : PV} {x y : Int} (h : w.ownsRow B E 2 (.slice (some ⟨gg, 0, none⟩) (P.nf + 1) cap') (P.nf + 1) (flatL 2 P.ff P.nf ++ [.int .i64 x, .int .i64 y])) :
    w.ownsRow B E 2 (.slice (some ⟨gg, 0, none⟩) (P.nf + 1) cap') (P.push x y).nf (flatL 2 (P.push x y).ff (P.push x y).nf) := by
  show w.ownsRow B E 2 _ (P.nf + 1) (flatL 2 (fun i j => if i = P.nf then (if j = 0 then x else y) else P.ff i j) (P.nf + 1))
  rw [flat_push]
  exact h

set_option maxRecDepth 100000 in
set_option maxHeartbeats 6400000 in
theorem held_any (v : Value) (P : PV) (a : Option Addr) (n cap : Nat) (f : Nat → Int) (hf : Words64 f n) (w : World) (h : PoolAt w v P) (hr : RowAt .u64 w a n cap f) :
    Calls Try.prog 17 #[v, .slice a n cap] w (RetS 2 23 w.heap.size (P.held (fun k => hasB f n (wordI (P.fo k 0) (P.fo k 1))) P.no).nf (P.held (fun k => hasB f n (wordI (P.fo k 0) (P.fo k 1))) P.no).ff w) := by
  have HRW := Lib.hid (fun W hb => (hr.below hb : RowAt .u64 W a n cap f))
  obtain ⟨G, hG⟩ : ∃ G : Nat → Bool, (fun k => hasB f n (wordI (P.fo k 0) (P.fo k 1))) = G := ⟨_, rfl⟩
  have HGK := Lib.hid (fun k => show hasB f n (wordI (P.fo k 0) (P.fo k 1)) = G k by rw [← hG])
  rw [hG]
  obtain ⟨fa, fc, oa, oc, rfl, hff, ho⟩ := h
  have hn2 := ho.1
  have HO := Lib.hid ho
  clear hff ho hG hr
  have HB0 := Lib.hid (show Below w.heap.size w (w.alloc (.cells #[.int .i64 P.i, .int .i64 P.t, .slice fa P.nf fc, .slice oa P.no oc, .int .i64 P.s] 27)) from (Below.refl _ _).alloc (Nat.le_refl _) _)
  have HX := Lib.hid (show Box (w.alloc (.cells #[.int .i64 P.i, .int .i64 P.t, .slice fa P.nf fc, .slice oa P.no oc, .int .i64 P.s] 27)) w.heap.size (.int .i64 P.i) (.int .i64 P.t) (.slice fa P.nf fc) (.slice oa P.no oc) (.int .i64 P.s) from Box.new w _)
  obtain ⟨R, hR⟩ : ∃ R, P.held G P.no = R := ⟨_, rfl⟩
  have HR := Lib.hid hR
  rw [hR]
  clear hR
  go_enter Try.func17, Try.ntmps17
  go_wp2_with fail
  refine (naming_any a n cap f hf _ (HRW.out _ HB0.out)).mono ?_
  rintro e w1 ⟨nv, rfl, hnv, hb⟩
  obtain ⟨nc, nm, rfl, hnc⟩ := hnv
  have HNV := Lib.hid (show NamingAt w1 (.func (.func 39) #[] #[.pointer (some ⟨nc, 0, none⟩)]) n f from ⟨nc, nm, rfl, hnc⟩)
  have HX1 := Lib.hid (HX.out.below (by simp) hb)
  have HB1 := Lib.hid (HB0.out.trans (hb.mono HB0.out.size))
  have z1 := size1 hb
  clear hb hnc
  obtain ⟨c0, c1, c2, c3, c4, cf⟩ := HX1.out
  clear cf
  go_wp2_with fail
  go_loopw [6, 14] (fun lv i wr => ∃ k : Nat, k ≤ P.no ∧ i = .int .i64 k ∧ ∃ la lc, lv = .slice la (P.held G k).nf lc ∧ Box wr w.heap.size (.int .i64 P.i) (.int .i64 P.t) (.slice fa P.nf fc) (.slice oa P.no oc) (.int .i64 P.s) ∧ wr.ownsRow w1.heap.size 23 2 (.slice la (P.held G k).nf lc) (P.held G k).nf (flatL 2 (P.held G k).ff (P.held G k).nf) ∧ Below w.heap.size w wr ∧ Below w1.heap.size w1 wr ∧ w.heap.size < wr.heap.size) (fun _ i _ => P.no - (intOf i).toNat)
  case atStart => exact ⟨0, Nat.zero_le _, rfl, none, 0, rfl, HX1.out, World.ownsRow_nil _ _ _ _, HB1.out, Below.refl _ _, z1⟩
  case round =>
    clear c0 c1 c2 c3 c4
    obtain ⟨k, hk, rfl, la, lc, rfl, hx, how, hb, hb1, z0⟩ := hrel
    have HXk := Lib.hid hx
    have HOk := Lib.hid how
    have HBk := Lib.hid hb
    have HB1k := Lib.hid hb1
    have HNk := Lib.hid (HNV.out.below hb1)
    obtain ⟨c0, c1, c2, c3, c4, cf⟩ := hx
    clear cf how hb hb1
    rcases Nat.lt_or_ge k P.no with hlt | hge
    · obtain ⟨b, off, hab, _, hcc⟩ := (HO.out.below HBk.out).get hlt
      subst hab
      have x0 : wr.cell? ⟨b, off + k * 3, none⟩ = some (.int .i64 (P.fo k 0)) := by simpa using hcc k 0 hlt (by omega)
      have x1 := hcc k 1 hlt (by omega)
      have x2 := hcc k 2 hlt (by omega)
      have i0 : (0 : Int) ≤ (k : Int) := by omega
      have i1 : (k : Int) < (P.no : Int) := by omega
      obtain ⟨c9, m9, hv9, h91, h92, h93⟩ := HNk.out
      simp only [Value.func.injEq, Array.mk.injEq, List.cons.injEq, Value.pointer.injEq, Option.some.injEq, Addr.mk.injEq] at hv9
      obtain rfl : c9 = nc := by simp at hv9; exact hv9.symm
      have HCALL := Lib.hid (show Calls Try.prog 39 #[.agg #[.int .i64 (P.fo k 0), .int .i64 (P.fo k 1)], .pointer (some ⟨c9, 0, none⟩)] (wr.alloc (.cells #[.int .i64 (P.fo k 0), .int .i64 (P.fo k 1), .int .i64 (P.fo k 2)] 44)) fun e w' => e = .returned (.bool (G k)) ∧ Below (wr.alloc (.cells #[.int .i64 (P.fo k 0), .int .i64 (P.fo k 1), .int .i64 (P.fo k 2)] 44)).heap.size (wr.alloc (.cells #[.int .i64 (P.fo k 0), .int .i64 (P.fo k 1), .int .i64 (P.fo k 2)] 44)) w' from by
        rw [← HGK.out k]
        have hA : Below wr.heap.size wr (wr.alloc (.cells #[.int .i64 (P.fo k 0), .int .i64 (P.fo k 1), .int .i64 (P.fo k 2)] 44)) := (Below.refl _ _).alloc (Nat.le_refl _) _
        exact named_any _ _ _ _ n f _ (by simp; omega) (((bcell hA).1 _ _ h91).trans h92) (h93.below hA))
      clear hv9 h91 h92 h93
      have hcnt := held_le P G k
      have HH := Lib.hid (show P.held G (k + 1) = if G k = true then (P.held G k).push (P.fo k 0) (P.fo k 1) else P.held G k from rfl)
      clear hcc
      generalize P.held G k = Q at *
      cases hg : G k
      · rw [hg] at HCALL
        have HH2 := Lib.hid (HH.out.trans (if_neg (by simp [hg])))
        clear hg
        go_wp2_with (go_at_call 39; (with_reducible refine HCALL.out.mono ?_); rintro e w2 ⟨rfl, hb⟩; have hbk : Below wr.heap.size wr w2 := below_next ((Below.refl _ _).alloc (Nat.le_refl _) _) hb; have HX2 := Lib.hid (HXk.out.below z0 hbk); have HOk2 := Lib.hid (own_below HOk.out hbk); have HBB := Lib.hid (HB1k.out.trans (hbk.mono HB1k.out.size)); have HB2 := Lib.hid (HBk.out.trans (hbk.mono HBk.out.size)); have z20 := Nat.lt_of_lt_of_le z0 hbk.size; have e0 : w2.cell? ⟨wr.heap.size, 0, none⟩ = some (.int .i64 (P.fo k 0)) := ((bcell hb).1 _ _ (by simp)).trans (by go_simp); have e1 : w2.cell? ⟨wr.heap.size, 1, none⟩ = some (.int .i64 (P.fo k 1)) := ((bcell hb).1 _ _ (by simp)).trans (by go_simp); have z2 := size1 hb; clear hb hbk)
        go_roundw
        case rel => exact ⟨k + 1, by omega, by go_num, la, lc, by rw [HH2.out], HX2.out, by rw [HH2.out]; exact HOk2.out, HB2.out, HBB.out, z20⟩
        case measure => simp [intOf]; omega
      · rw [hg] at HCALL
        have HH2 := Lib.hid (HH.out.trans (if_pos hg))
        clear hg
        go_wp2_with (first | (go_at_call 39; (with_reducible refine HCALL.out.mono ?_); rintro e w2 ⟨rfl, hb⟩; have hbk : Below wr.heap.size wr w2 := below_next ((Below.refl _ _).alloc (Nat.le_refl _) _) hb; have HX2 := Lib.hid (HXk.out.below z0 hbk); have HOk2 := Lib.hid (own_below HOk.out hbk); have HBB := Lib.hid (HB1k.out.trans (hbk.mono HB1k.out.size)); have HB2 := Lib.hid (HBk.out.trans (hbk.mono HBk.out.size)); have z20 := Nat.lt_of_lt_of_le z0 hbk.size; have e0 : w2.cell? ⟨wr.heap.size, 0, none⟩ = some (.int .i64 (P.fo k 0)) := ((bcell hb).1 _ _ (by simp)).trans (by go_simp); have e1 : w2.cell? ⟨wr.heap.size, 1, none⟩ = some (.int .i64 (P.fo k 1)) := ((bcell hb).1 _ _ (by simp)).trans (by go_simp); have z2 := size1 hb; clear hb hbk) | (at_builtin; go_loud (refine app_cells w1.heap.size 23 37 rfl _ _ rfl Try.underlying37 _ 2 16 Try.info_ref rfl (by omega) (.slice la Q.nf lc) Q.nf (flatL 2 Q.ff Q.nf) #[.int .i64 (P.fo k 0), .int .i64 (P.fo k 1)] rfl (by simp [Value.oneCell']) rfl HOk2.out w2.heap.size rfl rfl (by omega) (by unfold maxLen; omega) (Nat.le_trans HB1k.out.size (by omega)) ?_; intro gg cap' w4 hown hgrow hat hlt'; have HX4 := Lib.hid (HX2.out.grown hgrow z20 (fun e => absurd (HOk.out.lt _ e.symm).1 (by omega))); have HO4 := Lib.hid (own_push2 hown); have HB4 := Lib.hid (Below.grown HB2.out hgrow (by omega) (fun j hj => Nat.le_trans (Nat.le_of_lt z1) (HOk.out.lt j hj).1)); have HBB4 := Lib.hid (Below.grown HBB.out hgrow (Nat.le_trans HB1k.out.size (by omega)) (fun j hj => (HOk.out.lt j hj).1)); have hsz := hgrow.size; clear hown hgrow hat hlt' c0 c1 c2 c3 c4 x0 x1 x2 e0 e1; obtain ⟨c0, c1, c2, c3, c4, cf⟩ := HX4.out; clear cf)))
        go_roundw
        case rel => exact ⟨k + 1, by omega, by go_num, some ⟨gg, 0, none⟩, cap', by rw [HH2.out]; rfl, HX4.out, by rw [HH2.out]; exact HO4.out, HB4.out, HBB4.out, by omega⟩
        case measure => simp [intOf]; omega
    · obtain rfl : k = P.no := by omega
      go_wp2_with fail
      go_ret
      exact ⟨_, rfl, by rw [← HR.out]; exact HOk.out.mono (by omega), HBk.out⟩

set_option maxRecDepth 100000 in
set_option maxHeartbeats 6400000 in
theorem rheld_any (v : Value) (P : PV) (a : Option Addr) (n cap : Nat) (f : Nat → Int) (w : World) (h : PoolAt w v P) (hr : RowAt .u64 w a n cap f) :
    Calls Try.prog 18 #[v, .slice a n cap] w (RetS 2 23 w.heap.size (P.held (fun k => hasB f n (wordI (P.fo k 0) (P.fo k 1))) P.no).nf (P.held (fun k => hasB f n (wordI (P.fo k 0) (P.fo k 1))) P.no).ff w) := by
  have HRW := Lib.hid (fun W hb => (hr.below hb : RowAt .u64 W a n cap f))
  obtain ⟨G, hG⟩ : ∃ G : Nat → Bool, (fun k => hasB f n (wordI (P.fo k 0) (P.fo k 1))) = G := ⟨_, rfl⟩
  have HGK := Lib.hid (fun k => show hasB f n (wordI (P.fo k 0) (P.fo k 1)) = G k by rw [← hG])
  rw [hG]
  obtain ⟨fa, fc, oa, oc, rfl, hff, ho⟩ := h
  have hn2 := ho.1
  have HO := Lib.hid ho
  clear hff ho hG hr
  have HB0 := Lib.hid (show Below w.heap.size w (w.alloc (.cells #[.int .i64 P.i, .int .i64 P.t, .slice fa P.nf fc, .slice oa P.no oc, .int .i64 P.s] 27)) from (Below.refl _ _).alloc (Nat.le_refl _) _)
  have HX := Lib.hid (show Box (w.alloc (.cells #[.int .i64 P.i, .int .i64 P.t, .slice fa P.nf fc, .slice oa P.no oc, .int .i64 P.s] 27)) w.heap.size (.int .i64 P.i) (.int .i64 P.t) (.slice fa P.nf fc) (.slice oa P.no oc) (.int .i64 P.s) from Box.new w _)
  obtain ⟨R, hR⟩ : ∃ R, P.held G P.no = R := ⟨_, rfl⟩
  have HR := Lib.hid hR
  rw [hR]
  clear hR
  go_enter Try.func18, Try.ntmps18
  have HX1 := HX
  have HB1 := HB0
  have z1 : w.heap.size < (w.alloc (.cells #[.int .i64 P.i, .int .i64 P.t, .slice fa P.nf fc, .slice oa P.no oc, .int .i64 P.s] 27)).heap.size := by simp
  obtain ⟨c0, c1, c2, c3, c4, cf⟩ := HX1.out
  clear cf
  go_wp2_with fail
  go_loopw [5, 11] (fun lv i wr => ∃ k : Nat, k ≤ P.no ∧ i = .int .i64 k ∧ ∃ la lc, lv = .slice la (P.held G k).nf lc ∧ Box wr w.heap.size (.int .i64 P.i) (.int .i64 P.t) (.slice fa P.nf fc) (.slice oa P.no oc) (.int .i64 P.s) ∧ wr.ownsRow (w.heap.size + 1) 23 2 (.slice la (P.held G k).nf lc) (P.held G k).nf (flatL 2 (P.held G k).ff (P.held G k).nf) ∧ Below w.heap.size w wr ∧ True ∧ w.heap.size < wr.heap.size) (fun _ i _ => P.no - (intOf i).toNat)
  case atStart => exact ⟨0, Nat.zero_le _, rfl, none, 0, rfl, HX1.out, World.ownsRow_nil _ _ _ _, HB1.out, trivial, z1⟩
  case round =>
    clear c0 c1 c2 c3 c4
    obtain ⟨k, hk, rfl, la, lc, rfl, hx, how, hb, hb1, z0⟩ := hrel
    have HXk := Lib.hid hx
    have HOk := Lib.hid how
    have HBk := Lib.hid hb
    have HB1k := Lib.hid hb1
    
    obtain ⟨c0, c1, c2, c3, c4, cf⟩ := hx
    clear cf how hb hb1
    rcases Nat.lt_or_ge k P.no with hlt | hge
    · obtain ⟨b, off, hab, _, hcc⟩ := (HO.out.below HBk.out).get hlt
      subst hab
      have x0 : wr.cell? ⟨b, off + k * 3, none⟩ = some (.int .i64 (P.fo k 0)) := by simpa using hcc k 0 hlt (by omega)
      have x1 := hcc k 1 hlt (by omega)
      have x2 := hcc k 2 hlt (by omega)
      have i0 : (0 : Int) ≤ (k : Int) := by omega
      have i1 : (k : Int) < (P.no : Int) := by omega
      have HCALL := Lib.hid (show Calls Try.prog 31 #[.agg #[.int .i64 (P.fo k 0), .int .i64 (P.fo k 1)], .slice a n cap] (wr.alloc (.cells #[.int .i64 (P.fo k 0), .int .i64 (P.fo k 1), .int .i64 (P.fo k 2)] 44)) fun e w' => e = .returned (.bool (G k)) ∧ Below (wr.alloc (.cells #[.int .i64 (P.fo k 0), .int .i64 (P.fo k 1), .int .i64 (P.fo k 2)] 44)).heap.size (wr.alloc (.cells #[.int .i64 (P.fo k 0), .int .i64 (P.fo k 1), .int .i64 (P.fo k 2)] 44)) w' from by
        rw [← HGK.out k]
        exact rnamed_any _ _ a n cap f _ (HRW.out _ (HBk.out.alloc (Nat.le_of_lt z0) _)))
      have hcnt := held_le P G k
      have HH := Lib.hid (show P.held G (k + 1) = if G k = true then (P.held G k).push (P.fo k 0) (P.fo k 1) else P.held G k from rfl)
      clear hcc
      generalize P.held G k = Q at *
      cases hg : G k
      · rw [hg] at HCALL
        have HH2 := Lib.hid (HH.out.trans (if_neg (by simp [hg])))
        clear hg
        go_wp2_with (go_at_call 31; (with_reducible refine HCALL.out.mono ?_); rintro e w2 ⟨rfl, hb⟩; have hbk : Below wr.heap.size wr w2 := below_next ((Below.refl _ _).alloc (Nat.le_refl _) _) hb; have HX2 := Lib.hid (HXk.out.below z0 hbk); have HOk2 := Lib.hid (own_below HOk.out hbk); have HB2 := Lib.hid (HBk.out.trans (hbk.mono HBk.out.size)); have z20 := Nat.lt_of_lt_of_le z0 hbk.size; have e0 : w2.cell? ⟨wr.heap.size, 0, none⟩ = some (.int .i64 (P.fo k 0)) := ((bcell hb).1 _ _ (by simp)).trans (by go_simp); have e1 : w2.cell? ⟨wr.heap.size, 1, none⟩ = some (.int .i64 (P.fo k 1)) := ((bcell hb).1 _ _ (by simp)).trans (by go_simp); have z2 := size1 hb; clear hb hbk)
        go_roundw
        case rel => exact ⟨k + 1, by omega, by go_num, la, lc, by rw [HH2.out], HX2.out, by rw [HH2.out]; exact HOk2.out, HB2.out, trivial, z20⟩
        case measure => simp [intOf]; omega
      · rw [hg] at HCALL
        have HH2 := Lib.hid (HH.out.trans (if_pos hg))
        clear hg
        go_wp2_with (first | (go_at_call 31; (with_reducible refine HCALL.out.mono ?_); rintro e w2 ⟨rfl, hb⟩; have hbk : Below wr.heap.size wr w2 := below_next ((Below.refl _ _).alloc (Nat.le_refl _) _) hb; have HX2 := Lib.hid (HXk.out.below z0 hbk); have HOk2 := Lib.hid (own_below HOk.out hbk); have HB2 := Lib.hid (HBk.out.trans (hbk.mono HBk.out.size)); have z20 := Nat.lt_of_lt_of_le z0 hbk.size; have e0 : w2.cell? ⟨wr.heap.size, 0, none⟩ = some (.int .i64 (P.fo k 0)) := ((bcell hb).1 _ _ (by simp)).trans (by go_simp); have e1 : w2.cell? ⟨wr.heap.size, 1, none⟩ = some (.int .i64 (P.fo k 1)) := ((bcell hb).1 _ _ (by simp)).trans (by go_simp); have z2 := size1 hb; clear hb hbk) | (at_builtin; go_loud (refine app_cells (w.heap.size + 1) 23 37 rfl _ _ rfl Try.underlying37 _ 2 16 Try.info_ref rfl (by omega) (.slice la Q.nf lc) Q.nf (flatL 2 Q.ff Q.nf) #[.int .i64 (P.fo k 0), .int .i64 (P.fo k 1)] rfl (by simp [Value.oneCell']) rfl HOk2.out w2.heap.size rfl rfl (by omega) (by unfold maxLen; omega) (by omega) ?_; intro gg cap' w4 hown hgrow hat hlt'; have HX4 := Lib.hid (HX2.out.grown hgrow z20 (fun e => absurd (HOk.out.lt _ e.symm).1 (by omega))); have HO4 := Lib.hid (own_push2 hown); have HB4 := Lib.hid (Below.grown HB2.out hgrow (by omega) (fun j hj => Nat.le_trans (Nat.le_add_right _ 1) (HOk.out.lt j hj).1)); have hsz := hgrow.size; clear hown hgrow hat hlt' c0 c1 c2 c3 c4 x0 x1 x2 e0 e1; obtain ⟨c0, c1, c2, c3, c4, cf⟩ := HX4.out; clear cf)))
        go_roundw
        case rel => exact ⟨k + 1, by omega, by go_num, some ⟨gg, 0, none⟩, cap', by rw [HH2.out]; rfl, HX4.out, by rw [HH2.out]; exact HO4.out, HB4.out, trivial, by omega⟩
        case measure => simp [intOf]; omega
    · obtain rfl : k = P.no := by omega
      go_wp2_with fail
      go_ret
      exact ⟨_, rfl, by rw [← HR.out]; exact HOk.out.mono (by omega), HBk.out⟩
set_option maxHeartbeats 1000000 in
theorem refs_yes (a a' : Option Addr) (n cap cap' : Nat) (f : Nat → Nat → Int) (w : World) (h : RowS 2 w a n cap f) (h' : RowS 2 w a' n cap' f) :
    Calls Try.prog 16 #[.slice a n cap, .slice a' n cap'] w fun e w' => e = .returned (.bool true) ∧ SomeDraws w w' := by
  have hn := h.1
  have HC := Lib.hid h
  have HC' := Lib.hid h'
  clear h h'
  go_enter Try.func16, Try.ntmps16
  go_wp2
  go_loopw [13] (fun i wr => ∃ k : Nat, k ≤ n ∧ i = .int .i64 k ∧ SomeDraws w wr) (fun i _ => n - (intOf i).toNat)
  case atStart => exact ⟨0, Nat.zero_le _, rfl, 0, rfl⟩
  case round =>
    obtain ⟨k, hk, rfl, hq⟩ := hrel
    have HQ := Lib.hid hq
    have HR := Lib.hid (HC.out.below hq.below)
    have HR' := Lib.hid (HC'.out.below hq.below)
    clear hq
    by_cases hlt : k < n
    · obtain ⟨b, off, rfl, _, hc⟩ := HR.out.get hlt
      obtain ⟨b', off', rfl, _, hc'⟩ := HR'.out.get hlt
      have x0 : wr.cell? ⟨b, off + k * 2, none⟩ = some (.int .i64 (f k 0)) := hc k 0 hlt (by omega)
      have y0 : wr.cell? ⟨b', off' + k * 2, none⟩ = some (.int .i64 (f k 0)) := hc' k 0 hlt (by omega)
      have x1 : wr.cell? ⟨b, off + k * 2 + 1, none⟩ = some (.int .i64 (f k 1)) := hc k 1 hlt (by omega)
      have y1 : wr.cell? ⟨b', off' + k * 2 + 1, none⟩ = some (.int .i64 (f k 1)) := hc' k 1 hlt (by omega)
      have i0 : (0 : Int) ≤ (k : Int) := by omega
      have i1 : (k : Int) < (n : Int) := by omega
      clear hc hc'
      go_wp2
      go_quiet (fail)
      go_wp2
      go_roundw
      case rel => exact ⟨k + 1, by omega, by go_num, HQ.out.drew _⟩
      case measure => simp [intOf]; omega
    · go_wp2
      go_ret
      exact ⟨rfl, HQ.out⟩
end Go.Proofs.Ytdfbddepeacebaa
