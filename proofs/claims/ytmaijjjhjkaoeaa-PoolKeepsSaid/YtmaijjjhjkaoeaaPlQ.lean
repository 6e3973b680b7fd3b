/- The contracts of Names and of the reference's, over the seat's program. -/
import Derived.Test.YtmaijjjhjkaoeaaPlM
import Derived.Test.YtmaijjjhjkaoeaaApp
namespace Go.Proofs.Ytmaijjjhjkaoeaa
open Go.ChangeShapes Go.WideShapes Go.ChangeAt Go.RowKit Go.Joins

theorem Try.info_int : (Try.prog.info? 3).map (fun i => (i.zero, i.size, i.bytes)) = some (some (.int .i64 0), 1, 8) := by kernel_rfl
/-- Whether a pool has a node of its own, as a number; the names of its nodes; how many they are. -/
def PV.c (P : PV) : Nat := if P.t = 0 then 0 else 1
def PV.name (P : PV) (i : Nat) : Int := if i < P.c then P.i else if i < P.c + P.nf then P.ff (i - P.c) 0 else P.fo (i - P.c - P.nf) 0
def PV.count (P : PV) : Nat := P.c + P.nf + P.no
theorem name_own (P : PV) (h : 0 < P.c) : P.name 0 = P.i := by simp [PV.name, h]
theorem name_free (P : PV) (k : Nat) (h : k < P.nf) : P.name (P.c + k) = P.ff k 0 := by
  unfold PV.name
  rw [if_neg (by omega), if_pos (by omega), show P.c + k - P.c = k by omega]
theorem name_old (P : PV) (k : Nat) (_ : k < P.no) : P.name (P.c + P.nf + k) = P.fo k 0 := by
  unfold PV.name
  rw [if_neg (by omega), if_neg (by omega), show P.c + P.nf + k - P.c - P.nf = k by omega]
/-- What holds at a round's head: the pool in its box, and so many names. -/
def NamesAt (w : World) (pi pt : Int) (fa : Option Addr) (nf fc : Nat) (oa : Option Addr) (no oc : Nat) (ps : Int) (nm : Nat → Int) (n : Nat) (lv : Value) (u : World) : Prop :=
  ∃ la lc, lv = .slice la n lc ∧ Box u w.heap.size (.int .i64 pi) (.int .i64 pt) (.slice fa nf fc) (.slice oa no oc) (.int .i64 ps) ∧ u.ownsRow (w.heap.size + 1) 3 1 (.slice la n lc) n (rowL .i64 nm n) ∧ Below w.heap.size w u ∧ w.heap.size < u.heap.size

set_option maxRecDepth 100000 in
set_option maxHeartbeats 3200000 in
theorem names_any (v : Value) (P : PV) (w : World) (h : PoolAt w v P) : Calls Try.prog 28 #[v] w (RetNums .i64 3 w.heap.size P.count P.name w) := by
  obtain ⟨fa, fc, oa, oc, rfl, hf, ho⟩ := h
  have hn1 := hf.1
  have hn2 := ho.1
  have HF := Lib.hid hf
  have HO := Lib.hid ho
  have HN1 := Lib.hid (name_own P)
  have HN2 := Lib.hid (name_free P)
  have HN3 := Lib.hid (name_old P)
  have HCT := Lib.hid (show P.count = P.c + P.nf + P.no from rfl)
  have HC0 := Lib.hid (show P.t = 0 → P.c = 0 from fun h => by simp [PV.c, h])
  have HC1 := Lib.hid (show P.t ≠ 0 → P.c = 1 from fun h => by simp [PV.c, h])
  generalize hnm : P.name = nm at *
  generalize hct : P.count = ct at *
  generalize hcc : P.c = c at *
  clear hnm hct hcc hf ho
  obtain ⟨pi, pt, nf, ff, no, fo, ps⟩ := P
  dsimp only at *
  have HX := Lib.hid (show Box (w.alloc (.cells #[.int .i64 pi, .int .i64 pt, .slice fa nf fc, .slice oa no oc, .int .i64 ps] 27)) w.heap.size (.int .i64 pi) (.int .i64 pt) (.slice fa nf fc) (.slice oa no oc) (.int .i64 ps) from Box.new w _)
  have HB := Lib.hid (show Below w.heap.size w (w.alloc (.cells #[.int .i64 pi, .int .i64 pt, .slice fa nf fc, .slice oa no oc, .int .i64 ps] 27)) from (Below.refl _ _).alloc (Nat.le_refl _) _)
  go_enter Try.func28, Try.ntmps28
  by_cases ht : pt = 0
  · obtain rfl : c = 0 := HC0.out ht
    subst ht
    go_wp2_with (go_at_call 35; (with_reducible refine (owns_eq (b := false) _ _ rfl _ _ _ _ _ _ _ _).mono ?_); rintro e w1 ⟨rfl, hb⟩; have HX1 := Lib.hid (HX.out.below (by simp) hb); have hz1 := size1 hb; have HB1 := Lib.hid (HB.out.trans (hb.mono (by simp))); obtain ⟨c0, c1, c2, c3, c4, cf⟩ := HX1.out; clear cf hb)
    go_loopw [3, 19] (fun lv i wr => ∃ k : Nat, k ≤ nf ∧ i = .int .i64 k ∧ NamesAt w pi 0 fa nf fc oa no oc ps nm (k) lv wr) (fun _ i _ => nf - (intOf i).toNat)
    case atStart => exact ⟨0, Nat.zero_le _, rfl, ⟨none, 0, rfl, HX1.out, World.ownsRow_nil _ _ _ _, HB1.out, by omega⟩⟩
    case round =>
      clear c0 c1 c2 c3 c4 HX1 HB1
      obtain ⟨k, hk, rfl, la, lc, rfl, hx, how, hb, hz⟩ := hrel
      have HXk := Lib.hid hx
      have HOk := Lib.hid how
      have HBk := Lib.hid hb
      obtain ⟨c0, c1, c2, c3, c4, cf⟩ := hx
      clear cf how hb
      by_cases hlt : k < nf
      · obtain ⟨b, off, hab, _, hcc⟩ := (HF.out.below HBk.out).get hlt
        subst hab
        have x0 : wr.cell? ⟨b, off + k * 2, none⟩ = some (.int .i64 (ff k 0)) := hcc k 0 hlt (by omega)
        have x1 : wr.cell? ⟨b, off + k * 2 + 1, none⟩ = some (.int .i64 (ff k 1)) := hcc k 1 hlt (by omega)
        have i0 : (0 : Int) ≤ (k : Int) := by omega
        have i1 : (k : Int) < (nf : Int) := by omega
        clear hcc
        go_wp2_with (at_builtin; go_loud (refine app_one (w.heap.size + 1) 3 37 rfl _ _ rfl Try.underlying37 Try.info_int (.slice la (k) lc) (k) nm (ff k 0) ((show ff k 0 = nm k by have := HN2.out k hlt; rw [Nat.zero_add] at this; exact this.symm)) rfl (HOk.out.alloc _) (wr.heap.size + 1) (by simp) rfl (by omega) (by simp; omega) ?_; intro gg cap' w2 hown hgrow hat hlt'; have hg4 : wr.grownBy w2 _ := (World.grownBy_alloc wr _ _).trans hgrow; have HX2 := Lib.hid (HXk.out.grown hg4 hz (fun e => absurd (HOk.out.lt _ e.symm).1 (by omega))); have HO2 := Lib.hid hown; have HB2 := Lib.hid (Below.grown HBk.out hg4 (by omega) (fun j hj => Nat.le_trans (Nat.le_add_right _ 1) (HOk.out.lt j hj).1)); have hz2 := hg4.size; clear hown hgrow hg4 hat hlt' c0 c1 c2 c3 c4 x0 x1; obtain ⟨c0, c1, c2, c3, c4, cf⟩ := HX2.out; clear cf))
        go_roundw
        case rel => exact ⟨k + 1, by omega, by go_num, some ⟨gg, 0, none⟩, cap', rfl, HX2.out, HO2.out, HB2.out, by omega⟩
        case measure => simp [intOf]; omega
      · obtain rfl : k = nf := by omega
        go_wp2
        go_loopw [3, 32] (fun lv i wr => ∃ j : Nat, j ≤ no ∧ i = .int .i64 j ∧ NamesAt w pi 0 fa k fc oa no oc ps nm (k + j) lv wr) (fun _ i _ => no - (intOf i).toNat)
        case atStart => exact ⟨0, Nat.zero_le _, rfl, la, lc, rfl, HXk.out, HOk.out, HBk.out, hz⟩
        case round =>
          clear c0 c1 c2 c3 c4 HXk HOk HBk hz
          obtain ⟨j, hj, rfl, la, lc, rfl, hx, how, hb, hz⟩ := hrel
          have HXk := Lib.hid hx
          have HOk := Lib.hid how
          have HBk := Lib.hid hb
          obtain ⟨c0, c1, c2, c3, c4, cf⟩ := hx
          clear cf how hb
          by_cases hlt : j < no
          · obtain ⟨b, off, hab, _, hcc⟩ := (HO.out.below HBk.out).get hlt
            subst hab
            have x0 : wr.cell? ⟨b, off + j * 3, none⟩ = some (.int .i64 (fo j 0)) := hcc j 0 hlt (by omega)
            have x1 : wr.cell? ⟨b, off + j * 3 + 1, none⟩ = some (.int .i64 (fo j 1)) := hcc j 1 hlt (by omega)
            have x2 : wr.cell? ⟨b, off + j * 3 + 2, none⟩ = some (.int .i64 (fo j 2)) := hcc j 2 hlt (by omega)
            have i0 : (0 : Int) ≤ (j : Int) := by omega
            have i1 : (j : Int) < (no : Int) := by omega
            clear hcc
            go_wp2_with (at_builtin; go_loud (refine app_one (w.heap.size + 1) 3 37 rfl _ _ rfl Try.underlying37 Try.info_int (.slice la (k + j) lc) (k + j) nm (fo j 0) ((show fo j 0 = nm (k + j) by have := HN3.out j hlt; rw [Nat.zero_add] at this; exact this.symm)) rfl (HOk.out.alloc _) (wr.heap.size + 1) (by simp) rfl (by omega) (by simp; omega) ?_; intro gg cap' w2 hown hgrow hat hlt'; have hg4 : wr.grownBy w2 _ := (World.grownBy_alloc wr _ _).trans hgrow; have HX2 := Lib.hid (HXk.out.grown hg4 hz (fun e => absurd (HOk.out.lt _ e.symm).1 (by omega))); have HO2 := Lib.hid hown; have HB2 := Lib.hid (Below.grown HBk.out hg4 (by omega) (fun j hj => Nat.le_trans (Nat.le_add_right _ 1) (HOk.out.lt j hj).1)); have hz2 := hg4.size; clear hown hgrow hg4 hat hlt' c0 c1 c2 c3 c4 x0 x1 x2; obtain ⟨c0, c1, c2, c3, c4, cf⟩ := HX2.out; clear cf))
            go_roundw
            case rel => exact ⟨j + 1, by omega, by go_num, some ⟨gg, 0, none⟩, cap', rfl, HX2.out, HO2.out, HB2.out, by omega⟩
            case measure => simp [intOf]; omega
          · obtain rfl : j = no := by omega
            go_wp2
            go_ret
            exact ⟨_, rfl, by rw [HCT.out, Nat.zero_add]; exact HOk.out.mono (by omega), HBk.out⟩
  · obtain rfl : c = 1 := HC1.out ht
    have e1 : (pt != 0) = true := by simp [ht]
    have HT := Lib.hid ht
    clear ht
    go_wp2_with (first | (go_at_call 35; (with_reducible refine (owns_eq (b := true) _ _ e1 _ _ _ _ _ _ _ _).mono ?_); rintro e w1 ⟨rfl, hb⟩; have HX1 := Lib.hid (HX.out.below (by simp) hb); have hz1 := size1 hb; have HB1 := Lib.hid (HB.out.trans (hb.mono (by simp))); obtain ⟨c0, c1, c2, c3, c4, cf⟩ := HX1.out; clear cf hb) | (at_builtin; go_loud (refine app_one (w.heap.size + 1) 3 37 rfl _ _ rfl Try.underlying37 Try.info_int (.slice none 0 0) 0 nm pi (HN1.out (by omega)).symm rfl (World.ownsRow_nil _ _ _ _) w1.heap.size (by first | rfl | (simp; done)) rfl (by omega) (by first | omega | (simp; done) | (simp; omega)) ?_; intro gg cap' w2 hown hgrow hat hlt'; have HX2 := Lib.hid (HX1.out.grown hgrow (by first | omega | (simp; done)) (by simp [Value.ownBlock])); have HO2 := Lib.hid hown; have HB2 := Lib.hid (Below.grown HB1.out hgrow (by first | omega | (simp; done)) (by simp [Value.ownBlock])); have hz2 := hlt'; clear hown hgrow hat hlt' c0 c1 c2 c3 c4; obtain ⟨c0, c1, c2, c3, c4, cf⟩ := HX2.out; clear cf)))
    go_loopw [3, 19] (fun lv i wr => ∃ k : Nat, k ≤ nf ∧ i = .int .i64 k ∧ NamesAt w pi pt fa nf fc oa no oc ps nm (1 + k) lv wr) (fun _ i _ => nf - (intOf i).toNat)
    case atStart => exact ⟨0, Nat.zero_le _, rfl, ⟨some ⟨gg, 0, none⟩, cap', rfl, HX2.out, HO2.out, HB2.out, by first | omega | (simp at hz2; omega)⟩⟩
    case round =>
      clear c0 c1 c2 c3 c4 HX1 HB1
      obtain ⟨k, hk, rfl, la, lc, rfl, hx, how, hb, hz⟩ := hrel
      have HXk := Lib.hid hx
      have HOk := Lib.hid how
      have HBk := Lib.hid hb
      obtain ⟨c0, c1, c2, c3, c4, cf⟩ := hx
      clear cf how hb
      by_cases hlt : k < nf
      · obtain ⟨b, off, hab, _, hcc⟩ := (HF.out.below HBk.out).get hlt
        subst hab
        have x0 : wr.cell? ⟨b, off + k * 2, none⟩ = some (.int .i64 (ff k 0)) := hcc k 0 hlt (by omega)
        have x1 : wr.cell? ⟨b, off + k * 2 + 1, none⟩ = some (.int .i64 (ff k 1)) := hcc k 1 hlt (by omega)
        have i0 : (0 : Int) ≤ (k : Int) := by omega
        have i1 : (k : Int) < (nf : Int) := by omega
        clear hcc
        go_wp2_with (at_builtin; go_loud (refine app_one (w.heap.size + 1) 3 37 rfl _ _ rfl Try.underlying37 Try.info_int (.slice la (1 + k) lc) (1 + k) nm (ff k 0) ((show ff k 0 = nm (1 + k) from (HN2.out k hlt).symm)) rfl (HOk.out.alloc _) (wr.heap.size + 1) (by simp) rfl (by omega) (by simp; omega) ?_; intro gg cap' w2 hown hgrow hat hlt'; have hg4 : wr.grownBy w2 _ := (World.grownBy_alloc wr _ _).trans hgrow; have HX2 := Lib.hid (HXk.out.grown hg4 hz (fun e => absurd (HOk.out.lt _ e.symm).1 (by omega))); have HO2 := Lib.hid hown; have HB2 := Lib.hid (Below.grown HBk.out hg4 (by omega) (fun j hj => Nat.le_trans (Nat.le_add_right _ 1) (HOk.out.lt j hj).1)); have hz2 := hg4.size; clear hown hgrow hg4 hat hlt' c0 c1 c2 c3 c4 x0 x1; obtain ⟨c0, c1, c2, c3, c4, cf⟩ := HX2.out; clear cf))
        go_roundw
        case rel => exact ⟨k + 1, by omega, by go_num, some ⟨gg, 0, none⟩, cap', rfl, HX2.out, HO2.out, HB2.out, by omega⟩
        case measure => simp [intOf]; omega
      · obtain rfl : k = nf := by omega
        go_wp2
        go_loopw [3, 32] (fun lv i wr => ∃ j : Nat, j ≤ no ∧ i = .int .i64 j ∧ NamesAt w pi pt fa k fc oa no oc ps nm (1 + k + j) lv wr) (fun _ i _ => no - (intOf i).toNat)
        case atStart => exact ⟨0, Nat.zero_le _, rfl, la, lc, rfl, HXk.out, HOk.out, HBk.out, hz⟩
        case round =>
          clear c0 c1 c2 c3 c4 HXk HOk HBk hz
          obtain ⟨j, hj, rfl, la, lc, rfl, hx, how, hb, hz⟩ := hrel
          have HXk := Lib.hid hx
          have HOk := Lib.hid how
          have HBk := Lib.hid hb
          obtain ⟨c0, c1, c2, c3, c4, cf⟩ := hx
          clear cf how hb
          by_cases hlt : j < no
          · obtain ⟨b, off, hab, _, hcc⟩ := (HO.out.below HBk.out).get hlt
            subst hab
            have x0 : wr.cell? ⟨b, off + j * 3, none⟩ = some (.int .i64 (fo j 0)) := hcc j 0 hlt (by omega)
            have x1 : wr.cell? ⟨b, off + j * 3 + 1, none⟩ = some (.int .i64 (fo j 1)) := hcc j 1 hlt (by omega)
            have x2 : wr.cell? ⟨b, off + j * 3 + 2, none⟩ = some (.int .i64 (fo j 2)) := hcc j 2 hlt (by omega)
            have i0 : (0 : Int) ≤ (j : Int) := by omega
            have i1 : (j : Int) < (no : Int) := by omega
            clear hcc
            go_wp2_with (at_builtin; go_loud (refine app_one (w.heap.size + 1) 3 37 rfl _ _ rfl Try.underlying37 Try.info_int (.slice la (1 + k + j) lc) (1 + k + j) nm (fo j 0) ((show fo j 0 = nm (1 + k + j) from (HN3.out j hlt).symm)) rfl (HOk.out.alloc _) (wr.heap.size + 1) (by simp) rfl (by omega) (by simp; omega) ?_; intro gg cap' w2 hown hgrow hat hlt'; have hg4 : wr.grownBy w2 _ := (World.grownBy_alloc wr _ _).trans hgrow; have HX2 := Lib.hid (HXk.out.grown hg4 hz (fun e => absurd (HOk.out.lt _ e.symm).1 (by omega))); have HO2 := Lib.hid hown; have HB2 := Lib.hid (Below.grown HBk.out hg4 (by omega) (fun j hj => Nat.le_trans (Nat.le_add_right _ 1) (HOk.out.lt j hj).1)); have hz2 := hg4.size; clear hown hgrow hg4 hat hlt' c0 c1 c2 c3 c4 x0 x1 x2; obtain ⟨c0, c1, c2, c3, c4, cf⟩ := HX2.out; clear cf))
            go_roundw
            case rel => exact ⟨j + 1, by omega, by go_num, some ⟨gg, 0, none⟩, cap', rfl, HX2.out, HO2.out, HB2.out, by omega⟩
            case measure => simp [intOf]; omega
          · obtain rfl : j = no := by omega
            go_wp2
            go_ret
            exact ⟨_, rfl, by rw [HCT.out]; exact HOk.out.mono (by omega), HBk.out⟩

set_option maxRecDepth 100000 in
set_option maxHeartbeats 3200000 in
theorem rnames_any (v : Value) (P : PV) (w : World) (h : PoolAt w v P) : Calls Try.prog 29 #[v] w (RetNums .i64 3 w.heap.size P.count P.name w) := by
  obtain ⟨fa, fc, oa, oc, rfl, hf, ho⟩ := h
  have hn1 := hf.1
  have hn2 := ho.1
  have HF := Lib.hid hf
  have HO := Lib.hid ho
  have HN1 := Lib.hid (name_own P)
  have HN2 := Lib.hid (name_free P)
  have HN3 := Lib.hid (name_old P)
  have HCT := Lib.hid (show P.count = P.c + P.nf + P.no from rfl)
  have HC0 := Lib.hid (show P.t = 0 → P.c = 0 from fun h => by simp [PV.c, h])
  have HC1 := Lib.hid (show P.t ≠ 0 → P.c = 1 from fun h => by simp [PV.c, h])
  generalize hnm : P.name = nm at *
  generalize hct : P.count = ct at *
  generalize hcc : P.c = c at *
  clear hnm hct hcc hf ho
  obtain ⟨pi, pt, nf, ff, no, fo, ps⟩ := P
  dsimp only at *
  have HX := Lib.hid (show Box (w.alloc (.cells #[.int .i64 pi, .int .i64 pt, .slice fa nf fc, .slice oa no oc, .int .i64 ps] 27)) w.heap.size (.int .i64 pi) (.int .i64 pt) (.slice fa nf fc) (.slice oa no oc) (.int .i64 ps) from Box.new w _)
  have HB := Lib.hid (show Below w.heap.size w (w.alloc (.cells #[.int .i64 pi, .int .i64 pt, .slice fa nf fc, .slice oa no oc, .int .i64 ps] 27)) from (Below.refl _ _).alloc (Nat.le_refl _) _)
  go_enter Try.func29, Try.ntmps29
  by_cases ht : pt = 0
  · obtain rfl : c = 0 := HC0.out ht
    subst ht
    obtain ⟨c0, c1, c2, c3, c4, cf⟩ := HX.out
    have HX1 := HX
    have HB1 := HB
    clear cf
    go_wp2
    go_loopw [3, 21] (fun lv i wr => ∃ k : Nat, k ≤ nf ∧ i = .int .i64 k ∧ NamesAt w pi 0 fa nf fc oa no oc ps nm (k) lv wr) (fun _ i _ => nf - (intOf i).toNat)
    case atStart => exact ⟨0, Nat.zero_le _, rfl, ⟨none, 0, rfl, HX1.out, World.ownsRow_nil _ _ _ _, HB1.out, by simp⟩⟩
    case round =>
      clear c0 c1 c2 c3 c4 HX1 HB1
      obtain ⟨k, hk, rfl, la, lc, rfl, hx, how, hb, hz⟩ := hrel
      have HXk := Lib.hid hx
      have HOk := Lib.hid how
      have HBk := Lib.hid hb
      obtain ⟨c0, c1, c2, c3, c4, cf⟩ := hx
      clear cf how hb
      by_cases hlt : k < nf
      · obtain ⟨b, off, hab, _, hcc⟩ := (HF.out.below HBk.out).get hlt
        subst hab
        have x0 : wr.cell? ⟨b, off + k * 2, none⟩ = some (.int .i64 (ff k 0)) := hcc k 0 hlt (by omega)
        have x1 : wr.cell? ⟨b, off + k * 2 + 1, none⟩ = some (.int .i64 (ff k 1)) := hcc k 1 hlt (by omega)
        have i0 : (0 : Int) ≤ (k : Int) := by omega
        have i1 : (k : Int) < (nf : Int) := by omega
        clear hcc
        go_wp2_with (at_builtin; go_loud (refine app_one (w.heap.size + 1) 3 37 rfl _ _ rfl Try.underlying37 Try.info_int (.slice la (k) lc) (k) nm (ff k 0) ((show ff k 0 = nm k by have := HN2.out k hlt; rw [Nat.zero_add] at this; exact this.symm)) rfl (HOk.out.alloc _) (wr.heap.size + 1) (by simp) rfl (by omega) (by simp; omega) ?_; intro gg cap' w2 hown hgrow hat hlt'; have hg4 : wr.grownBy w2 _ := (World.grownBy_alloc wr _ _).trans hgrow; have HX2 := Lib.hid (HXk.out.grown hg4 hz (fun e => absurd (HOk.out.lt _ e.symm).1 (by omega))); have HO2 := Lib.hid hown; have HB2 := Lib.hid (Below.grown HBk.out hg4 (by omega) (fun j hj => Nat.le_trans (Nat.le_add_right _ 1) (HOk.out.lt j hj).1)); have hz2 := hg4.size; clear hown hgrow hg4 hat hlt' c0 c1 c2 c3 c4 x0 x1; obtain ⟨c0, c1, c2, c3, c4, cf⟩ := HX2.out; clear cf))
        go_roundw
        case rel => exact ⟨k + 1, by omega, by go_num, some ⟨gg, 0, none⟩, cap', rfl, HX2.out, HO2.out, HB2.out, by omega⟩
        case measure => simp [intOf]; omega
      · obtain rfl : k = nf := by omega
        go_wp2
        go_loopw [3, 34] (fun lv i wr => ∃ j : Nat, j ≤ no ∧ i = .int .i64 j ∧ NamesAt w pi 0 fa k fc oa no oc ps nm (k + j) lv wr) (fun _ i _ => no - (intOf i).toNat)
        case atStart => exact ⟨0, Nat.zero_le _, rfl, la, lc, rfl, HXk.out, HOk.out, HBk.out, hz⟩
        case round =>
          clear c0 c1 c2 c3 c4 HXk HOk HBk hz
          obtain ⟨j, hj, rfl, la, lc, rfl, hx, how, hb, hz⟩ := hrel
          have HXk := Lib.hid hx
          have HOk := Lib.hid how
          have HBk := Lib.hid hb
          obtain ⟨c0, c1, c2, c3, c4, cf⟩ := hx
          clear cf how hb
          by_cases hlt : j < no
          · obtain ⟨b, off, hab, _, hcc⟩ := (HO.out.below HBk.out).get hlt
            subst hab
            have x0 : wr.cell? ⟨b, off + j * 3, none⟩ = some (.int .i64 (fo j 0)) := hcc j 0 hlt (by omega)
            have x1 : wr.cell? ⟨b, off + j * 3 + 1, none⟩ = some (.int .i64 (fo j 1)) := hcc j 1 hlt (by omega)
            have x2 : wr.cell? ⟨b, off + j * 3 + 2, none⟩ = some (.int .i64 (fo j 2)) := hcc j 2 hlt (by omega)
            have i0 : (0 : Int) ≤ (j : Int) := by omega
            have i1 : (j : Int) < (no : Int) := by omega
            clear hcc
            go_wp2_with (at_builtin; go_loud (refine app_one (w.heap.size + 1) 3 37 rfl _ _ rfl Try.underlying37 Try.info_int (.slice la (k + j) lc) (k + j) nm (fo j 0) ((show fo j 0 = nm (k + j) by have := HN3.out j hlt; rw [Nat.zero_add] at this; exact this.symm)) rfl (HOk.out.alloc _) (wr.heap.size + 1) (by simp) rfl (by omega) (by simp; omega) ?_; intro gg cap' w2 hown hgrow hat hlt'; have hg4 : wr.grownBy w2 _ := (World.grownBy_alloc wr _ _).trans hgrow; have HX2 := Lib.hid (HXk.out.grown hg4 hz (fun e => absurd (HOk.out.lt _ e.symm).1 (by omega))); have HO2 := Lib.hid hown; have HB2 := Lib.hid (Below.grown HBk.out hg4 (by omega) (fun j hj => Nat.le_trans (Nat.le_add_right _ 1) (HOk.out.lt j hj).1)); have hz2 := hg4.size; clear hown hgrow hg4 hat hlt' c0 c1 c2 c3 c4 x0 x1 x2; obtain ⟨c0, c1, c2, c3, c4, cf⟩ := HX2.out; clear cf))
            go_roundw
            case rel => exact ⟨j + 1, by omega, by go_num, some ⟨gg, 0, none⟩, cap', rfl, HX2.out, HO2.out, HB2.out, by omega⟩
            case measure => simp [intOf]; omega
          · obtain rfl : j = no := by omega
            go_wp2
            go_ret
            exact ⟨_, rfl, by rw [HCT.out, Nat.zero_add]; exact HOk.out.mono (by omega), HBk.out⟩
  · obtain rfl : c = 1 := HC1.out ht
    have e1 : (pt != 0) = true := by simp [ht]
    have HT := Lib.hid ht
    clear ht
    obtain ⟨c0, c1, c2, c3, c4, cf⟩ := HX.out
    have HX1 := HX
    have HB1 := HB
    clear cf
    go_wp2_with (at_builtin; go_loud (refine app_one (w.heap.size + 1) 3 37 rfl _ _ rfl Try.underlying37 Try.info_int (.slice none 0 0) 0 nm pi (HN1.out (by omega)).symm rfl (World.ownsRow_nil _ _ _ _) (w.heap.size + 1) (by first | rfl | (simp; done)) rfl (by omega) (by first | omega | (simp; done) | (simp; omega)) ?_; intro gg cap' w2 hown hgrow hat hlt'; have HX2 := Lib.hid (HX1.out.grown hgrow (by first | omega | (simp; done)) (by simp [Value.ownBlock])); have HO2 := Lib.hid hown; have HB2 := Lib.hid (Below.grown HB1.out hgrow (by first | omega | (simp; done)) (by simp [Value.ownBlock])); have hz2 := hlt'; clear hown hgrow hat hlt' c0 c1 c2 c3 c4; obtain ⟨c0, c1, c2, c3, c4, cf⟩ := HX2.out; clear cf))
    go_loopw [3, 21] (fun lv i wr => ∃ k : Nat, k ≤ nf ∧ i = .int .i64 k ∧ NamesAt w pi pt fa nf fc oa no oc ps nm (1 + k) lv wr) (fun _ i _ => nf - (intOf i).toNat)
    case atStart => exact ⟨0, Nat.zero_le _, rfl, ⟨some ⟨gg, 0, none⟩, cap', rfl, HX2.out, HO2.out, HB2.out, by first | omega | (simp at hz2; omega)⟩⟩
    case round =>
      clear c0 c1 c2 c3 c4 HX1 HB1
      obtain ⟨k, hk, rfl, la, lc, rfl, hx, how, hb, hz⟩ := hrel
      have HXk := Lib.hid hx
      have HOk := Lib.hid how
      have HBk := Lib.hid hb
      obtain ⟨c0, c1, c2, c3, c4, cf⟩ := hx
      clear cf how hb
      by_cases hlt : k < nf
      · obtain ⟨b, off, hab, _, hcc⟩ := (HF.out.below HBk.out).get hlt
        subst hab
        have x0 : wr.cell? ⟨b, off + k * 2, none⟩ = some (.int .i64 (ff k 0)) := hcc k 0 hlt (by omega)
        have x1 : wr.cell? ⟨b, off + k * 2 + 1, none⟩ = some (.int .i64 (ff k 1)) := hcc k 1 hlt (by omega)
        have i0 : (0 : Int) ≤ (k : Int) := by omega
        have i1 : (k : Int) < (nf : Int) := by omega
        clear hcc
        go_wp2_with (at_builtin; go_loud (refine app_one (w.heap.size + 1) 3 37 rfl _ _ rfl Try.underlying37 Try.info_int (.slice la (1 + k) lc) (1 + k) nm (ff k 0) ((show ff k 0 = nm (1 + k) from (HN2.out k hlt).symm)) rfl (HOk.out.alloc _) (wr.heap.size + 1) (by simp) rfl (by omega) (by simp; omega) ?_; intro gg cap' w2 hown hgrow hat hlt'; have hg4 : wr.grownBy w2 _ := (World.grownBy_alloc wr _ _).trans hgrow; have HX2 := Lib.hid (HXk.out.grown hg4 hz (fun e => absurd (HOk.out.lt _ e.symm).1 (by omega))); have HO2 := Lib.hid hown; have HB2 := Lib.hid (Below.grown HBk.out hg4 (by omega) (fun j hj => Nat.le_trans (Nat.le_add_right _ 1) (HOk.out.lt j hj).1)); have hz2 := hg4.size; clear hown hgrow hg4 hat hlt' c0 c1 c2 c3 c4 x0 x1; obtain ⟨c0, c1, c2, c3, c4, cf⟩ := HX2.out; clear cf))
        go_roundw
        case rel => exact ⟨k + 1, by omega, by go_num, some ⟨gg, 0, none⟩, cap', rfl, HX2.out, HO2.out, HB2.out, by omega⟩
        case measure => simp [intOf]; omega
      · obtain rfl : k = nf := by omega
        go_wp2
        go_loopw [3, 34] (fun lv i wr => ∃ j : Nat, j ≤ no ∧ i = .int .i64 j ∧ NamesAt w pi pt fa k fc oa no oc ps nm (1 + k + j) lv wr) (fun _ i _ => no - (intOf i).toNat)
        case atStart => exact ⟨0, Nat.zero_le _, rfl, la, lc, rfl, HXk.out, HOk.out, HBk.out, hz⟩
        case round =>
          clear c0 c1 c2 c3 c4 HXk HOk HBk hz
          obtain ⟨j, hj, rfl, la, lc, rfl, hx, how, hb, hz⟩ := hrel
          have HXk := Lib.hid hx
          have HOk := Lib.hid how
          have HBk := Lib.hid hb
          obtain ⟨c0, c1, c2, c3, c4, cf⟩ := hx
          clear cf how hb
          by_cases hlt : j < no
          · obtain ⟨b, off, hab, _, hcc⟩ := (HO.out.below HBk.out).get hlt
            subst hab
            have x0 : wr.cell? ⟨b, off + j * 3, none⟩ = some (.int .i64 (fo j 0)) := hcc j 0 hlt (by omega)
            have x1 : wr.cell? ⟨b, off + j * 3 + 1, none⟩ = some (.int .i64 (fo j 1)) := hcc j 1 hlt (by omega)
            have x2 : wr.cell? ⟨b, off + j * 3 + 2, none⟩ = some (.int .i64 (fo j 2)) := hcc j 2 hlt (by omega)
            have i0 : (0 : Int) ≤ (j : Int) := by omega
            have i1 : (j : Int) < (no : Int) := by omega
            clear hcc
            go_wp2_with (at_builtin; go_loud (refine app_one (w.heap.size + 1) 3 37 rfl _ _ rfl Try.underlying37 Try.info_int (.slice la (1 + k + j) lc) (1 + k + j) nm (fo j 0) ((show fo j 0 = nm (1 + k + j) from (HN3.out j hlt).symm)) rfl (HOk.out.alloc _) (wr.heap.size + 1) (by simp) rfl (by omega) (by simp; omega) ?_; intro gg cap' w2 hown hgrow hat hlt'; have hg4 : wr.grownBy w2 _ := (World.grownBy_alloc wr _ _).trans hgrow; have HX2 := Lib.hid (HXk.out.grown hg4 hz (fun e => absurd (HOk.out.lt _ e.symm).1 (by omega))); have HO2 := Lib.hid hown; have HB2 := Lib.hid (Below.grown HBk.out hg4 (by omega) (fun j hj => Nat.le_trans (Nat.le_add_right _ 1) (HOk.out.lt j hj).1)); have hz2 := hg4.size; clear hown hgrow hg4 hat hlt' c0 c1 c2 c3 c4 x0 x1 x2; obtain ⟨c0, c1, c2, c3, c4, cf⟩ := HX2.out; clear cf))
            go_roundw
            case rel => exact ⟨j + 1, by omega, by go_num, some ⟨gg, 0, none⟩, cap', rfl, HX2.out, HO2.out, HB2.out, by omega⟩
            case measure => simp [intOf]; omega
          · obtain rfl : j = no := by omega
            go_wp2
            go_ret
            exact ⟨_, rfl, by rw [HCT.out]; exact HOk.out.mono (by omega), HBk.out⟩
end Go.Proofs.Ytmaijjjhjkaoeaa
