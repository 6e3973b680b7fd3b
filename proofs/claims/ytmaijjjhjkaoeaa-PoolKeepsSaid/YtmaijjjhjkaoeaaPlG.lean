/- Contracts of New and of the reference's, over the seat's program. -/
import Derived.Test.YtmaijjjhjkaoeaaPlF
namespace Go.Proofs.Ytmaijjjhjkaoeaa
open Go.ChangeShapes Go.WideShapes Go.ChangeAt Go.RowKit Go.Joins

def newN (n : Int) : Nat := if n < 64 then n.toNat else 64
theorem newN_le (n : Int) : newN n ≤ 64 := by unfold newN; split <;> omega
def newF (fr : Int) : Nat → Nat → Int := fun i j => if j = 0 then wrap64 (fr + i) else 0
/-- A pool that has nodes from an index on, none of which was used. -/
def PV.new (fr n : Int) : PV := ⟨0, 0, newN n, newF fr, 0, fun _ _ => 0, 0⟩
theorem Box.set2 {w : World} {p : Nat} {a b c d e : Value} (h : Box w p a b c d e) (x : Value) : Box (w.setCell ⟨p, 2, none⟩ x) p a b x d e := by
  obtain ⟨h0, h1, h2, h3, h4, hf⟩ := h
  exact ⟨by rw [cell_set_ne (.inr (by decide))]; exact h0, by rw [cell_set_ne (.inr (by decide))]; exact h1, World.cell?_setCell_same _ _ _ h2, by rw [cell_set_ne (.inr (by decide))]; exact h3, by rw [cell_set_ne (.inr (by decide))]; exact h4, fun i => by simpa using hf i⟩
theorem own_new {w : World} {B : Nat} {v : Value} {k : Nat} {fr : Int} (h : w.ownsRow B 57 2 v (k + 1) (flatL 2 (newF fr) k ++ [.int .i64 (wrap64 (fr + k)), .int .i64 0])) : w.ownsRow B 57 2 v (k + 1) (flatL 2 (newF fr) (k + 1)) := by
  rw [flat2_succ]
  exact h
theorem own_nil {v : Value} : v.ownBlock = none ∨ v.ownBlock ≠ (Value.slice none 0 0).ownBlock := by
  cases hv : v.ownBlock with
  | none => exact .inl rfl
  | some k => exact .inr (fun e => by cases e)
def NewRel (fr : Int) (k : Nat) (w wr : World) : Prop :=
  ∃ a cap, Box wr (w.heap.size + 1) (.int .i64 0) (.int .i64 0) (.slice a k cap) (.slice none 0 0) (.int .i64 0) ∧ Box wr w.heap.size (.int .i64 0) (.int .i64 0) (.slice none 0 0) (.slice none 0 0) (.int .i64 0) ∧ wr.ownsRow (w.heap.size + 2) 57 2 (.slice a k cap) k (flatL 2 (newF fr) k) ∧ Below w.heap.size w wr ∧ w.heap.size + 1 < wr.heap.size

set_option maxRecDepth 100000 in
set_option maxHeartbeats 1600000 in
theorem new_low (fr n : Int) (hl : n ≤ 64) (w : World) : Calls Try.prog 12 #[.int .i64 fr, .int .i64 n] w (RetPool w.heap.size (PV.new fr n) w) := by
  obtain ⟨ti, hi0, hz0, hz1, hz2⟩ := info_parts Try.info_slot
  have HI := Lib.hid (And.intro hi0 (And.intro hz0 (And.intro hz1 hz2)))
  have hm1 : newN n ≤ 64 := newN_le n
  obtain ⟨m, hm⟩ : ∃ m, newN n = m := ⟨_, rfl⟩
  have HM := Lib.hid hm
  rw [hm] at hm1
  have HP := Lib.hid (show PV.new fr n = ⟨0, 0, m, newF fr, 0, fun _ _ => 0, 0⟩ by unfold PV.new; rw [hm])
  have hm2 : ∀ k : Nat, k < m → (k : Int) < n := fun k hk => by rw [← hm] at hk; unfold newN at hk; split at hk <;> omega
  have hm3 : n ≤ (m : Int) := by rw [← hm]; unfold newN; split <;> omega
  have HM2 := Lib.hid hm2
  clear hm2
  clear hi0 hz0 hz1 hz2 hm
  go_enter Try.func12, Try.ntmps12
  go_wp2
  go_loopw [9] (fun i wr => ∃ k : Nat, k ≤ m ∧ i = .int .i64 k ∧ NewRel fr k w wr) (fun i _ => m - (intOf i).toNat)
  case atStart =>
    refine ⟨0, Nat.zero_le _, rfl, none, 0, ?_, ?_, World.ownsRow_nil _ _ _ _, ((Below.refl _ _).alloc (Nat.le_refl _) _).alloc (by simp) _, by simp⟩
    · have := Box.new (a := .int .i64 0) (b := .int .i64 0) (c := .slice none 0 0) (d := .slice none 0 0) (e := .int .i64 0) (w.alloc (.cells #[.int .i64 0, .int .i64 0, .slice none 0 0, .slice none 0 0, .int .i64 0] 27)) 27; simpa using this
    · exact (Box.new w _).below (by simp) ((Below.refl _ _).alloc (Nat.le_refl _) _)
  case round =>
    obtain ⟨k, hk, rfl, a, cap, hx, hy, ho, hb, hz⟩ := hrel
    have HX := Lib.hid hx
    have HY := Lib.hid hy
    have HO := Lib.hid ho
    have HB := Lib.hid hb
    have HNE := Lib.hid (show ∀ q, q < w.heap.size + 2 → some q ≠ (Value.slice a k cap).ownBlock from fun q hq e => absurd (HO.out.lt q e.symm).1 (by omega))
    have i0 : (0 : Int) ≤ (k : Int) := by omega
    have i2 : (k : Int) ≤ 64 := by omega
    obtain ⟨c0, c1, c2, c3, c4, cf⟩ := hx
    have cf0 := cf 0
    have cf1 := cf 1
    have cf2 := cf 2
    have cf3 := cf 3
    have cf4 := cf 4
    clear cf
    by_cases hlt : k < m
    · have l1 := HM2.out k hlt
      clear hy ho hb
      go_wp2_with (at_builtin; go_loud (refine wpList_append_lies _ rfl _ _ _ rfl (w.heap.size + 2) 57 ti _ 2 16 Try.underlying24 HI.out.1 HI.out.2.1 HI.out.2.2.1 HI.out.2.2.2 rfl (by omega) (.slice a k cap) k (flatL 2 (newF fr) k) rfl (HO.out.alloc _) ⟨wr.heap.size, 0, none⟩ 1 1 [.int .i64 (wrap64 (fr + k)), .int .i64 0] rfl rfl (World.news_of_block (cs := #[.int .i64 (wrap64 (fr + k)), .int .i64 0]) (t := 57) (fr := (0, 0)) (heap_alloc_new wr _)) (by simp [Value.oneCell']) (by omega) (by unfold maxLen; omega) (by omega) (by simp; omega) (wr.heap.size + 1) (by simp) ?_; intro gg cap' w2 hown2 hgrow hat hlt'; have HX3 := Lib.hid ((HX.out.below (by omega) ((Below.refl _ _).alloc (Nat.le_refl _) _)).grown hgrow (by simp; omega) (HNE.out _ (by omega))); have HY3 := Lib.hid ((HY.out.below (by omega) ((Below.refl _ _).alloc (Nat.le_refl _) _)).grown hgrow (by simp; omega) (HNE.out _ (by omega))); have HO3 := Lib.hid (own_new hown2); have HB3 := Lib.hid (Below.grown (HB.out.alloc (by omega) _) hgrow (by simp; omega) (fun j hj => Nat.le_trans (Nat.le_add_right _ 2) (HO.out.lt j hj).1)); have hw2 := size_grown hgrow; clear hown2 hgrow hat c0 c1 c2 c3 c4 cf0 cf1 cf2 cf3 cf4; obtain ⟨c0, c1, c2, c3, c4, cf⟩ := HX3.out; have cf0 := cf 0; have cf1 := cf 1; have cf2 := cf 2; have cf3 := cf 3; have cf4 := cf 4; clear cf))
      go_roundw
      case rel => exact ⟨k + 1, by omega, by go_num, some ⟨gg, 0, none⟩, cap', HX3.out.set2 _, HY3.out.set_far (by omega), set_below_own HO3.out (by omega), HB3.out.setCell (by simp) _, by simp; omega⟩
      case measure => simp [intOf]; omega
    · obtain rfl : k = m := by omega
      obtain ⟨d0, d1, d2, d3, d4, df⟩ := hy
      have df0 := df 0
      have df1 := df 1
      have df2 := df 2
      have df3 := df 3
      have df4 := df 4
      clear df
      clear ho hb
      skip
      all_goals (go_wp2_with fail)
      all_goals (refine bodyPost_ret (v := .agg #[.int .i64 0, .int .i64 0, .slice a k cap, .slice none 0 0, .int .i64 0]) ?_ rfl ?_)
      all_goals first
        | (simp only [results, Try.results12]; go_simp; done)
        | (rw [HP.out]; exact ⟨_, _, rfl, ⟨World.ownsRow.mono (store5_own HO.out (by omega)) (by omega), World.ownsRow_nil _ _ _ _, own_nil⟩, store5_below HB.out (Nat.le_refl _)⟩)

set_option maxRecDepth 100000 in
set_option maxHeartbeats 1600000 in
theorem new_high (fr n : Int) (hl : 64 < n) (w : World) : Calls Try.prog 12 #[.int .i64 fr, .int .i64 n] w (RetPool w.heap.size (PV.new fr n) w) := by
  obtain ⟨ti, hi0, hz0, hz1, hz2⟩ := info_parts Try.info_slot
  have HI := Lib.hid (And.intro hi0 (And.intro hz0 (And.intro hz1 hz2)))
  have hm1 : newN n ≤ 64 := newN_le n
  obtain ⟨m, hm⟩ : ∃ m, newN n = m := ⟨_, rfl⟩
  have HM := Lib.hid hm
  rw [hm] at hm1
  have HP := Lib.hid (show PV.new fr n = ⟨0, 0, m, newF fr, 0, fun _ _ => 0, 0⟩ by unfold PV.new; rw [hm])
  have hm2 : (m : Int) = 64 := by rw [← hm]; unfold newN; split <;> omega
  have HM2 := Lib.hid hm2
  clear hm2
  clear hi0 hz0 hz1 hz2 hm
  go_enter Try.func12, Try.ntmps12
  go_wp2
  go_loopw [9] (fun i wr => ∃ k : Nat, k ≤ m ∧ i = .int .i64 k ∧ NewRel fr k w wr) (fun i _ => m - (intOf i).toNat)
  case atStart =>
    refine ⟨0, Nat.zero_le _, rfl, none, 0, ?_, ?_, World.ownsRow_nil _ _ _ _, ((Below.refl _ _).alloc (Nat.le_refl _) _).alloc (by simp) _, by simp⟩
    · have := Box.new (a := .int .i64 0) (b := .int .i64 0) (c := .slice none 0 0) (d := .slice none 0 0) (e := .int .i64 0) (w.alloc (.cells #[.int .i64 0, .int .i64 0, .slice none 0 0, .slice none 0 0, .int .i64 0] 27)) 27; simpa using this
    · exact (Box.new w _).below (by simp) ((Below.refl _ _).alloc (Nat.le_refl _) _)
  case round =>
    obtain ⟨k, hk, rfl, a, cap, hx, hy, ho, hb, hz⟩ := hrel
    have HX := Lib.hid hx
    have HY := Lib.hid hy
    have HO := Lib.hid ho
    have HB := Lib.hid hb
    have HNE := Lib.hid (show ∀ q, q < w.heap.size + 2 → some q ≠ (Value.slice a k cap).ownBlock from fun q hq e => absurd (HO.out.lt q e.symm).1 (by omega))
    have i0 : (0 : Int) ≤ (k : Int) := by omega
    have i2 : (k : Int) ≤ 64 := by omega
    obtain ⟨c0, c1, c2, c3, c4, cf⟩ := hx
    have cf0 := cf 0
    have cf1 := cf 1
    have cf2 := cf 2
    have cf3 := cf 3
    have cf4 := cf 4
    clear cf
    by_cases hlt : k < m
    · have l1 : (k : Int) < 64 := by have := HM2.out; omega
      clear hy ho hb
      go_wp2_with (at_builtin; go_loud (refine wpList_append_lies _ rfl _ _ _ rfl (w.heap.size + 2) 57 ti _ 2 16 Try.underlying24 HI.out.1 HI.out.2.1 HI.out.2.2.1 HI.out.2.2.2 rfl (by omega) (.slice a k cap) k (flatL 2 (newF fr) k) rfl (HO.out.alloc _) ⟨wr.heap.size, 0, none⟩ 1 1 [.int .i64 (wrap64 (fr + k)), .int .i64 0] rfl rfl (World.news_of_block (cs := #[.int .i64 (wrap64 (fr + k)), .int .i64 0]) (t := 57) (fr := (0, 0)) (heap_alloc_new wr _)) (by simp [Value.oneCell']) (by omega) (by unfold maxLen; omega) (by omega) (by simp; omega) (wr.heap.size + 1) (by simp) ?_; intro gg cap' w2 hown2 hgrow hat hlt'; have HX3 := Lib.hid ((HX.out.below (by omega) ((Below.refl _ _).alloc (Nat.le_refl _) _)).grown hgrow (by simp; omega) (HNE.out _ (by omega))); have HY3 := Lib.hid ((HY.out.below (by omega) ((Below.refl _ _).alloc (Nat.le_refl _) _)).grown hgrow (by simp; omega) (HNE.out _ (by omega))); have HO3 := Lib.hid (own_new hown2); have HB3 := Lib.hid (Below.grown (HB.out.alloc (by omega) _) hgrow (by simp; omega) (fun j hj => Nat.le_trans (Nat.le_add_right _ 2) (HO.out.lt j hj).1)); have hw2 := size_grown hgrow; clear hown2 hgrow hat c0 c1 c2 c3 c4 cf0 cf1 cf2 cf3 cf4; obtain ⟨c0, c1, c2, c3, c4, cf⟩ := HX3.out; have cf0 := cf 0; have cf1 := cf 1; have cf2 := cf 2; have cf3 := cf 3; have cf4 := cf 4; clear cf))
      go_roundw
      case rel => exact ⟨k + 1, by omega, by go_num, some ⟨gg, 0, none⟩, cap', HX3.out.set2 _, HY3.out.set_far (by omega), set_below_own HO3.out (by omega), HB3.out.setCell (by simp) _, by simp; omega⟩
      case measure => simp [intOf]; omega
    · obtain rfl : k = m := by omega
      obtain ⟨d0, d1, d2, d3, d4, df⟩ := hy
      have df0 := df 0
      have df1 := df 1
      have df2 := df 2
      have df3 := df 3
      have df4 := df 4
      clear df
      clear ho hb
      have l1 : (64 : Int) ≤ (k : Int) := by have := HM2.out; omega
      all_goals (go_wp2_with fail)
      all_goals (refine bodyPost_ret (v := .agg #[.int .i64 0, .int .i64 0, .slice a k cap, .slice none 0 0, .int .i64 0]) ?_ rfl ?_)
      all_goals first
        | (simp only [results, Try.results12]; go_simp; done)
        | (rw [HP.out]; exact ⟨_, _, rfl, ⟨World.ownsRow.mono (store5_own HO.out (by omega)) (by omega), World.ownsRow_nil _ _ _ _, own_nil⟩, store5_below HB.out (Nat.le_refl _)⟩)

theorem new_any (fr n : Int) (w : World) : Calls Try.prog 12 #[.int .i64 fr, .int .i64 n] w (RetPool w.heap.size (PV.new fr n) w) := by
  by_cases h : n ≤ 64
  · exact new_low fr n h w
  · exact new_high fr n (by omega) w

set_option maxRecDepth 100000 in
set_option maxHeartbeats 1600000 in
theorem rnew_any (fr n : Int) (w : World) : Calls Try.prog 13 #[.int .i64 fr, .int .i64 n] w (RetPool w.heap.size (PV.new fr n) w) := by
  obtain ⟨ti, hi0, hz0, hz1, hz2⟩ := info_parts Try.info_slot
  have HI := Lib.hid (And.intro hi0 (And.intro hz0 (And.intro hz1 hz2)))
  have hm1 : newN n ≤ 64 := newN_le n
  obtain ⟨m, hm⟩ : ∃ m, newN n = m := ⟨_, rfl⟩
  have HM := Lib.hid hm
  rw [hm] at hm1
  have HP := Lib.hid (show PV.new fr n = ⟨0, 0, m, newF fr, 0, fun _ _ => 0, 0⟩ by unfold PV.new; rw [hm])
  have hm2 : ∀ k : Nat, k < m → (k : Int) < n ∧ (k : Int) < 64 := fun k hk => by rw [← hm] at hk; unfold newN at hk; split at hk <;> omega
  have hm3 : n ≤ (m : Int) ∨ ((m : Int) < n ∧ (64 : Int) ≤ (m : Int)) := by rw [← hm]; unfold newN; split <;> omega
  have HM2 := Lib.hid hm2
  have HM3 := Lib.hid hm3
  clear hm2 hm3
  clear hi0 hz0 hz1 hz2 hm
  go_enter Try.func13, Try.ntmps13
  go_wp2
  go_loopw [6] (fun i wr => ∃ k : Nat, k ≤ m ∧ i = .int .i64 k ∧ NewRel fr k w wr) (fun i _ => m - (intOf i).toNat)
  case atStart =>
    refine ⟨0, Nat.zero_le _, rfl, none, 0, ?_, ?_, World.ownsRow_nil _ _ _ _, ((Below.refl _ _).alloc (Nat.le_refl _) _).alloc (by simp) _, by simp⟩
    · have := Box.new (a := .int .i64 0) (b := .int .i64 0) (c := .slice none 0 0) (d := .slice none 0 0) (e := .int .i64 0) (w.alloc (.cells #[.int .i64 0, .int .i64 0, .slice none 0 0, .slice none 0 0, .int .i64 0] 27)) 27; simpa using this
    · exact (Box.new w _).below (by simp) ((Below.refl _ _).alloc (Nat.le_refl _) _)
  case round =>
    obtain ⟨k, hk, rfl, a, cap, hx, hy, ho, hb, hz⟩ := hrel
    have HX := Lib.hid hx
    have HY := Lib.hid hy
    have HO := Lib.hid ho
    have HB := Lib.hid hb
    have HNE := Lib.hid (show ∀ q, q < w.heap.size + 2 → some q ≠ (Value.slice a k cap).ownBlock from fun q hq e => absurd (HO.out.lt q e.symm).1 (by omega))
    have i0 : (0 : Int) ≤ (k : Int) := by omega
    have i2 : (k : Int) ≤ 64 := by omega
    obtain ⟨c0, c1, c2, c3, c4, cf⟩ := hx
    have cf0 := cf 0
    have cf1 := cf 1
    have cf2 := cf 2
    have cf3 := cf 3
    have cf4 := cf 4
    clear cf
    by_cases hlt : k < m
    · obtain ⟨l1, l2⟩ := HM2.out k hlt
      clear hy ho hb
      go_wp2_with (at_builtin; go_loud (refine wpList_append_lies _ rfl _ _ _ rfl (w.heap.size + 2) 57 ti _ 2 16 Try.underlying24 HI.out.1 HI.out.2.1 HI.out.2.2.1 HI.out.2.2.2 rfl (by omega) (.slice a k cap) k (flatL 2 (newF fr) k) rfl (HO.out.alloc _) ⟨wr.heap.size, 0, none⟩ 1 1 [.int .i64 (wrap64 (fr + k)), .int .i64 0] rfl rfl (World.news_of_block (cs := #[.int .i64 (wrap64 (fr + k)), .int .i64 0]) (t := 57) (fr := (0, 0)) (heap_alloc_new wr _)) (by simp [Value.oneCell']) (by omega) (by unfold maxLen; omega) (by omega) (by simp; omega) (wr.heap.size + 1) (by simp) ?_; intro gg cap' w2 hown2 hgrow hat hlt'; have HX3 := Lib.hid ((HX.out.below (by omega) ((Below.refl _ _).alloc (Nat.le_refl _) _)).grown hgrow (by simp; omega) (HNE.out _ (by omega))); have HY3 := Lib.hid ((HY.out.below (by omega) ((Below.refl _ _).alloc (Nat.le_refl _) _)).grown hgrow (by simp; omega) (HNE.out _ (by omega))); have HO3 := Lib.hid (own_new hown2); have HB3 := Lib.hid (Below.grown (HB.out.alloc (by omega) _) hgrow (by simp; omega) (fun j hj => Nat.le_trans (Nat.le_add_right _ 2) (HO.out.lt j hj).1)); have hw2 := size_grown hgrow; clear hown2 hgrow hat c0 c1 c2 c3 c4 cf0 cf1 cf2 cf3 cf4; obtain ⟨c0, c1, c2, c3, c4, cf⟩ := HX3.out; have cf0 := cf 0; have cf1 := cf 1; have cf2 := cf 2; have cf3 := cf 3; have cf4 := cf 4; clear cf))
      go_roundw
      case rel => exact ⟨k + 1, by omega, by go_num, some ⟨gg, 0, none⟩, cap', HX3.out.set2 _, HY3.out.set_far (by omega), set_below_own HO3.out (by omega), HB3.out.setCell (by simp) _, by simp; omega⟩
      case measure => simp [intOf]; omega
    · obtain rfl : k = m := by omega
      obtain ⟨d0, d1, d2, d3, d4, df⟩ := hy
      have df0 := df 0
      have df1 := df 1
      have df2 := df 2
      have df3 := df 3
      have df4 := df 4
      clear df
      clear ho hb
      rcases HM3.out with l | ⟨l, l'⟩
      all_goals (go_wp2_with fail)
      all_goals (refine bodyPost_ret (v := .agg #[.int .i64 0, .int .i64 0, .slice a k cap, .slice none 0 0, .int .i64 0]) ?_ rfl ?_)
      all_goals first
        | (simp only [results, Try.results13]; go_simp; done)
        | (rw [HP.out]; exact ⟨_, _, rfl, ⟨World.ownsRow.mono (store5_own HO.out (by omega)) (by omega), World.ownsRow_nil _ _ _ _, own_nil⟩, store5_below HB.out (Nat.le_refl _)⟩)
end Go.Proofs.Ytmaijjjhjkaoeaa
