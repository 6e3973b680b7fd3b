/- The contract of do, for calls that can be done, over the seat's program. -/
import Derived.Test.YtmghbcddnmiamaaFfB
import Derived.Test.YtmghbcddnmiamaaApp
import Derived.Test.YtmghbcddnmiamaaShelf
namespace Go.Proofs.Ytmghbcddnmiamaa
open Go.ChangeShapes Go.WideShapes Go.ChangeAt Go.RowKit Go.Joins

/-- A call, as it lies in memory. -/
def reqV (k ar x : Int) (df : Bool) (ka : Option Addr) (kn kc : Nat) : Value := .agg #[.int .i64 k, .int .i64 ar, .int .i64 x, .bool df, .slice ka kn kc]
/-- What do returns: the values behind the call, and what is told; only the values' own block is written. -/
def RetDo (C : CV) (told : Int) (lv : Value) (w : World) (e : Ending) (w' : World) : Prop :=
  ∃ l' lc', e = .returned (.tuple #[.slice l' C.n lc', .int .i64 told]) ∧ RowP (fun b => lv.ownBlock = some b ∨ w.heap.size ≤ b) w' l' C.n lc' C.f ∧ w.grownBy w' lv.ownBlock
theorem grown_setCell {W w : World} {g o : Nat} {v : Value} (h : W.grownBy w (some g)) : W.grownBy (w.setCell ⟨g, o, none⟩ v) (some g) :=
  ⟨h.os, by simpa using h.tape, h.output, by simpa using h.size, fun k hk hne => by
    rw [Below.heap_setCell _ _ _ _ (fun e => hne (by rw [e]))]
    exact h.block k hk hne⟩
theorem grown_setCells {W : World} {g : Nat} : ∀ (vs : List Value) (o : Nat) (w : World), W.grownBy w (some g) → W.grownBy (w.setCells g o vs) (some g)
  | [], _, _, h => h
  | _ :: r, o, _, h => grown_setCells r (o + 1) _ (grown_setCell h)
theorem size_setCells (b : Nat) : ∀ (vs : List Value) (o : Nat) (w : World), (w.setCells b o vs).heap.size = w.heap.size
  | [], _, _ => rfl
  | _ :: r, o, _ => (size_setCells b r (o + 1) _).trans (by simp)
theorem grown_drewN {W w : World} {r : Option Nat} (h : W.grownBy w r) (q : Nat) : W.grownBy (w.drewN q) r := ⟨h.os, h.tape, h.output, h.size, h.block⟩

set_option maxRecDepth 100000 in
set_option maxHeartbeats 1600000 in
theorem do_put (C : CV) (lv dv : Value) (ar x : Int) (df : Bool) (ka : Option Addr) (kn kc : Nat) (w : World) (hl : ∃ B, w.ownsRow B 3 1 lv C.n (rowL .i64 C.f C.n)) (hd : ∃ da dc, dv = .slice da C.m dc) (hn : (C.n + 1) * 8 ≤ 140737488355328) (hr : (C.n : Int) < C.cap) :
    Calls Try.prog 21 #[.agg #[.int .i64 C.cap, lv, dv], reqV 8 ar x df ka kn kc] w (RetDo (C.after false 8 x) (C.told false 8) lv w) := by
  obtain ⟨B, hown⟩ := hl
  obtain ⟨da, dc, rfl⟩ := hd
  obtain ⟨la, lc, rfl⟩ := own_form hown
  obtain ⟨cp, n, f, m, g⟩ := C
  dsimp only at *
  have HO := Lib.hid hown
  rw [show CV.after ⟨cp, n, f, m, g⟩ false 8 x = ⟨cp, n + 1, updI f n x, m, g⟩ by simp [CV.after, hr], show CV.told ⟨cp, n, f, m, g⟩ false 8 = 0 from rfl]
  have HO1 := Lib.hid (show (((w.alloc (.cells #[.int .i64 cp, .slice la n lc, .slice da m dc] 25)).alloc (.cells #[.int .i64 8, .int .i64 ar, .int .i64 x, .bool df, .slice ka kn kc] 28))).ownsRow 0 3 1 (.slice la n lc) n (rowL .i64 (updI f n x) n) from by
    rw [rowL_same (f := updI f n x) (g := f) (fun i hi => by unfold updI; rw [if_neg (by omega)])]
    exact ((hown.mono (Nat.zero_le _)).alloc _).alloc _)
  unfold reqV
  clear hown hr
  go_enter Try.func21, Try.ntmps21
  go_wp2_with (at_builtin; go_loud (refine app_one 0 3 22 rfl _ _ rfl Try.underlying22 Try.info_int (.slice la n lc) n (updI f n x) x (by unfold updI; rw [if_pos rfl]) rfl HO1.out (w.heap.size + 1 + 1) (by simp) rfl (by omega) (by simp) ?_; intro gg cap' w2 hown2 hgrow hat hlt'; have HO2 := Lib.hid hown2; have hg4 : w.grownBy w2 (Value.slice la n lc).ownBlock := ((World.grownBy_alloc w _ _).trans (World.grownBy_alloc _ _ _)).trans hgrow; have HG := Lib.hid hg4; have HA := Lib.hid hat; clear hown2 hgrow hat hg4))
  obtain ⟨a, cap, hv, hp⟩ := RowP.of (by omega) HO2.out
  simp only [Value.slice.injEq] at hv
  obtain ⟨rfl, _, rfl⟩ := hv
  refine bodyPost_ret (v := .tuple #[.slice (some ⟨gg, 0, none⟩) (n + 1) cap', .int .i64 0]) (by simp only [results, Try.results21]; go_simp) rfl ⟨_, _, rfl, hp.imp fun b hb e => ?_, HG.out⟩
  simp only [Value.ownBlock, Option.some.injEq] at e
  rcases HA.out with h | h
  · exact .inl (by rw [h, e])
  · exact .inr (by simp at h; omega)

set_option maxRecDepth 100000 in
set_option maxHeartbeats 1600000 in
theorem do_take (C : CV) (lv dv : Value) (ar x : Int) (df : Bool) (ka : Option Addr) (kn kc : Nat) (w : World) (hl : ∃ B, w.ownsRow B 3 1 lv C.n (rowL .i64 C.f C.n)) (hd : ∃ da dc, dv = .slice da C.m dc) (hn : (C.n + 1) * 8 ≤ 140737488355328) (hr : C.n ≠ 0) :
    Calls Try.prog 21 #[.agg #[.int .i64 C.cap, lv, dv], reqV 9 ar x df ka kn kc] w (RetDo (C.after false 9 x) (C.told false 9) lv w) := by
  obtain ⟨B, hown⟩ := hl
  obtain ⟨da, dc, rfl⟩ := hd
  obtain ⟨cp, n, f, m, g⟩ := C
  dsimp only at *
  have hown' := hown
  rcases hown.2 with ⟨_, h0⟩ | ⟨gb, cap, cur, rfl, hb, hg, hnc, hcm, hcs, hct⟩
  · exact absurd h0 hr
  rw [show CV.after ⟨cp, n, f, m, g⟩ false 9 x = ⟨cp, n - 1, fun i => f (i + 1), m, g⟩ by simp [CV.after, hr], show CV.told ⟨cp, n, f, m, g⟩ false 9 = f 0 by simp [CV.told, hr]]
  have hfr := fun j => hown'.frozenAt j
  have hce := fun j hj => hown'.cellAt j hj
  clear hown'
  have hgl : gb < w.heap.size := (Array.getElem?_eq_some_iff.1 hg).1
  obtain ⟨W, hW⟩ : ∃ W, W = ((w.alloc (.cells #[.int .i64 cp, .slice (some ⟨gb, 0, none⟩) n cap, .slice da m dc] 25)).alloc (.cells #[.int .i64 9, .int .i64 ar, .int .i64 x, .bool df, .slice ka kn kc] 28)) := ⟨_, rfl⟩
  have hB : Below w.heap.size w W := by rw [hW]; exact ((Below.refl _ _).alloc (Nat.le_refl _) _).alloc (by simp) _
  have HB := Lib.hid hB
  have HW := Lib.hid hW
  have HC := Lib.hid (show ∀ i, i < n → W.cell? ⟨gb, i, none⟩ = some (.int .i64 (f i)) from fun i hi => by
    rw [(bcell hB).1 _ _ hgl]
    rw [hce i (by omega), rowL_get hi])
  have HF := Lib.hid (show ∀ i, W.frozen? ⟨gb, i, none⟩ = false from fun i => by
    rw [(bcell hB).2 _ _ hgl]
    exact hfr i)
  have c0 : ((w.alloc (.cells #[.int .i64 cp, .slice (some ⟨gb, 0, none⟩) n cap, .slice da m dc] 25)).alloc (.cells #[.int .i64 9, .int .i64 ar, .int .i64 x, .bool df, .slice ka kn kc] 28)).cell? ⟨gb, 0, none⟩ = some (.int .i64 (f 0)) := by rw [← hW]; exact HC.out 0 (by omega)
  have i1 : (0 : Int) < (n : Int) := by omega
  have HD := Lib.hid (show Calls Try.prog 26 #[.slice (some ⟨gb, 0, none⟩) n cap, .int .i64 0, .int .i64 1] W fun e w' => e = .returned (.slice (some ⟨gb, 0, none⟩) (n - 1) cap) ∧ ∃ q, w' = (W.drewN q).setCells gb 0 (((((List.range n).map f).take n).take 0 ++ (((List.range n).map f).take n).drop 1 ++ List.replicate (1 - 0) 0).map (Value.int .i64)) from
    Try.slices_Delete_int_cells gb 0 n cap 0 1 ((List.range n).map f) W (by simp) hnc hcm (by omega) (by omega) (fun j hj => by
      have hj' : j < n := by simpa using hj
      rw [Nat.zero_add, HC.out j hj', List.getD_eq_getElem?_getD, List.getElem?_map, List.getElem?_range hj']
      rfl) (fun j _ => HF.out _))
  clear hW hB hce hfr hown hb hg hcm hcs hct
  unfold reqV
  go_enter Try.func21, Try.ntmps21
  go_wp2_with (go_at_call 26; go_loud (rw [← HW.out]; (with_reducible refine HD.out.mono ?_); rintro e w2 ⟨rfl, q, rfl⟩))
  refine bodyPost_ret (v := .tuple #[.slice (some ⟨gb, 0, none⟩) (n - 1) cap, .int .i64 (f 0)]) (by simp only [results, Try.results21]; go_simp) rfl ⟨_, _, rfl, ⟨by dsimp only; omega, (fun h => by cases h), by dsimp only; omega, fun h0 => ⟨gb, 0, rfl, ⟨?_, .inl rfl⟩, fun i hi => ?_⟩⟩, ?_⟩
  · rw [size_setCells]
    exact Nat.lt_of_lt_of_le hgl HB.out.size
  · dsimp only at hi ⊢
    rw [World.cell?_setCells_in gb _ 0 (W.drewN q) (fun j hj => ?_) i (by simp; omega)]
    · simp
      rw [List.getElem_append_left (by simp; omega)]
      simp
    · rw [Nat.zero_add, World.cell?_drewN, HC.out j (by simp at hj; omega)]
      rfl
  · exact grown_setCells _ _ _ (grown_drewN (below_grownBy HB.out _) q)
end Go.Proofs.Ytmghbcddnmiamaa
