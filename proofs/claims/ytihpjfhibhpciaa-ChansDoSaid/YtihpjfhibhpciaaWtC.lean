/- The contract of Copy of calls that wait, over the seat's program. -/
import Derived.Test.YtihpjfhibhpciaaWtB
namespace Go.Proofs.Ytihpjfhibhpciaa
open Go.ChangeShapes Go.WideShapes Go.ChangeAt Go.RowKit Go.Joins

theorem cell_set_ne {w : World} {p q i j : Nat} {x : Value} (h : p ≠ q ∨ i ≠ j) : (w.setCell ⟨p, i, none⟩ x).cell? ⟨q, j, none⟩ = w.cell? ⟨q, j, none⟩ :=
  World.cell?_setCell_other _ _ _ _ (fun e => by
    injection e with e1 e2
    rcases h with h | h
    · exact h e1
    · exact h e2)
theorem own_form {w : World} {B E s n : Nat} {v : Value} {xs : List Value} (h : w.ownsRow B E s v n xs) : ∃ a cap, v = .slice a n cap := by
  rcases h.2 with ⟨rfl, rfl⟩ | ⟨g, cap, cur, rfl, _⟩
  · exact ⟨_, _, rfl⟩
  · exact ⟨_, _, rfl⟩
theorem below_next' {a W w3 : World} (h : Below a.heap.size a W) (hb : Below W.heap.size W w3) : Below a.heap.size a w3 := h.trans (hb.mono h.size)
/-- A row of calls that wait that the call may write: its cells. -/
def OwnW (B : Nat) (w : World) (v : Value) (n : Nat) (F : Nat → Nat → Value) : Prop :=
  (n = 0 ∧ ∃ a cap, v = .slice a 0 cap ∧ (a = none → cap = 0)) ∨ ∃ gd cap, v = .slice (some ⟨gd, 0, none⟩) n cap ∧ (B ≤ gd ∧ gd < w.heap.size) ∧ n ≤ cap ∧ (∀ i j, i < n → j < 4 → w.cell? ⟨gd, i * 4 + j, none⟩ = some (F i j)) ∧ ∀ o, w.frozen? ⟨gd, o, none⟩ = false
section
variable {B : Nat} {w w' : World} {v : Value} {n : Nat} {F G : Nat → Nat → Value}
theorem OwnW.of {E : Nat} (h : w.ownsRow B E 4 v n (flatC 4 F n)) : OwnW B w v n F := by
  have h' := h
  rcases h.2 with ⟨rfl, rfl⟩ | ⟨g, cap, cur, rfl, hb, hg, hnc, _, _, _⟩
  · exact .inl ⟨rfl, none, 0, rfl, fun _ => rfl⟩
  · exact .inr ⟨g, cap, rfl, ⟨hb, (Array.getElem?_eq_some_iff.1 hg).1⟩, hnc, fun i j hi hj => by rw [h'.cellAt _ (flat_lt hi hj), flatC_get hi hj], fun o => h'.frozenAt o⟩
theorem OwnW.below (h : OwnW B w v n F) (hw : Below w.heap.size w w') : OwnW B w' v n F := by
  rcases h with h | ⟨gd, cap, hv, hb, hnc, hc, hf⟩
  · exact .inl h
  · exact .inr ⟨gd, cap, hv, ⟨hb.1, Nat.lt_of_lt_of_le hb.2 hw.size⟩, hnc, fun i j hi hj => ((bcell hw).1 _ _ hb.2).trans (hc i j hi hj), fun o => ((bcell hw).2 _ _ hb.2).trans (hf o)⟩
theorem OwnW.same (h : OwnW B w v n F) (hFG : ∀ i j, i < n → j < 4 → F i j = G i j) : OwnW B w v n G := by
  rcases h with h | ⟨gd, cap, hv, hb, hnc, hc, hf⟩
  · exact .inl h
  · exact .inr ⟨gd, cap, hv, hb, hnc, fun i j hi hj => by rw [← hFG i j hi hj]; exact hc i j hi hj, hf⟩
theorem OwnW.get (h : OwnW B w v n F) (hn : 0 < n) : ∃ gd cap, v = .slice (some ⟨gd, 0, none⟩) n cap ∧ (B ≤ gd ∧ gd < w.heap.size) ∧ n ≤ cap ∧ (∀ i j, i < n → j < 4 → w.cell? ⟨gd, i * 4 + j, none⟩ = some (F i j)) ∧ ∀ o, w.frozen? ⟨gd, o, none⟩ = false := by
  rcases h with ⟨h, _⟩ | h
  · omega
  · exact h
end
theorem OwnW.set {B : Nat} {w : World} {gd cap n : Nat} {F : Nat → Nat → Value} (h : OwnW B w (.slice (some ⟨gd, 0, none⟩) n cap) n F) {i j : Nat} (hi : i < n) (hj : j < 4) (x : Value) :
    OwnW B (w.setCell ⟨gd, i * 4 + j, none⟩ x) (.slice (some ⟨gd, 0, none⟩) n cap) n (fun i' j' => if i' = i ∧ j' = j then x else F i' j') := by
  obtain ⟨g, c, hv, hb, hnc, hc, hf⟩ := h.get (by omega)
  simp only [Value.slice.injEq, Option.some.injEq, Addr.mk.injEq, and_true, true_and] at hv
  obtain ⟨rfl, rfl⟩ := hv
  refine .inr ⟨gd, cap, rfl, ⟨hb.1, by simpa using hb.2⟩, hnc, fun i' j' hi' hj' => ?_, fun o => by simpa using hf o⟩
  dsimp only
  by_cases e : i' = i ∧ j' = j
  · obtain ⟨rfl, rfl⟩ := e
    rw [if_pos ⟨rfl, rfl⟩]
    exact World.cell?_setCell_same _ _ _ (hc i' j' hi' hj')
  · rw [if_neg e, cell_set_ne (.inr (by
      intro h2
      apply e
      omega))]
    exact hc i' j' hi' hj'
/-- Cases that lie in new memory, apart from a row. -/
def CaseNew (B : Nat) (w : World) (v : Value) (V : WV) (a : Option Addr) (c : Nat) : Prop := RowS 3 w a V.m c V.c ∧ ∀ q, (Value.slice a V.m c).ownBlock = some q → B ≤ q ∧ v.ownBlock ≠ some q
theorem CaseNew.below {B : Nat} {w w' : World} {v : Value} {V : WV} {a : Option Addr} {c : Nat} (h : CaseNew B w v V a c) (hw : Below w.heap.size w w') : CaseNew B w' v V a c := ⟨h.1.below hw, h.2⟩
theorem CaseNew.set {B : Nat} {w : World} {gd n cap : Nat} {V : WV} {a : Option Addr} {c o : Nat} {x : Value} (h : CaseNew B w (.slice (some ⟨gd, 0, none⟩) n cap) V a c) : CaseNew B (w.setCell ⟨gd, o, none⟩ x) (.slice (some ⟨gd, 0, none⟩) n cap) V a c := by
  obtain ⟨⟨h1, h2, h3, h4⟩, hq⟩ := h
  refine ⟨⟨h1, h2, h3, fun h0 => ?_⟩, hq⟩
  obtain ⟨b, off, rfl, hb, hc⟩ := h4 h0
  have hne := (hq b rfl).2
  refine ⟨b, off, rfl, by simpa using hb, fun i j hi hj => ?_⟩
  rw [cell_set_ne (.inl (fun e => hne (by rw [← e]; rfl)))]
  exact hc i j hi hj
/-- What is returned is calls that wait, and their cases, in new memory. -/
def RetW (n : Nat) (V : Nat → WV) (w : World) (e : Ending) (w' : World) : Prop :=
  ∃ v A C, e = .returned v ∧ OwnW w.heap.size w' v n (wcell V A C) ∧ (∀ i, i < n → CaseNew w.heap.size w' v (V i) (A i) (C i)) ∧ Below w.heap.size w w'
/-- What stands ahead of each round of Copy. -/
def CopyAt (w : World) (v : Value) (n : Nat) (V : Nat → WV) (A0 : Nat → Option Addr) (C0 : Nat → Nat) (k : Nat) (wr : World) : Prop :=
  ∃ A C, OwnW w.heap.size wr v n (wcell V A C) ∧ (∀ i, i < k → CaseNew w.heap.size wr v (V i) (A i) (C i)) ∧ (∀ i, k ≤ i → A i = A0 i ∧ C i = C0 i) ∧ Below w.heap.size w wr
set_option maxRecDepth 100000 in
set_option maxHeartbeats 3200000 in
theorem copy_any (a : Option Addr) (n cap : Nat) (V : Nat → WV) (w : World) (h : WaitsAt w a n cap V) : Calls Try.prog 29 #[.slice a n cap] w (RetW n V w) := by
  obtain ⟨A0, C0, has⟩ := h.as
  have hn := h.1
  have HS := Lib.hid has
  clear h has
  go_enter Try.func29, Try.ntmps29
  go_wp2_with (go_at_call 69; (with_reducible refine (clone_wait_any _ _ _ _ _ _ _ HS.out).mono ?_); rintro e w1 ⟨v1, rfl, ho, hb⟩; obtain ⟨da, dc, rfl⟩ := own_form ho; have HO := Lib.hid (OwnW.of ho); have HB1 := Lib.hid hb; clear ho hb)
  go_loopw [10] (fun i wr => ∃ k : Nat, k ≤ n ∧ i = .int .i64 k ∧ CopyAt w (.slice da n dc) n V A0 C0 k wr) (fun i _ => n - (intOf i).toNat)
  case atStart => exact ⟨0, Nat.zero_le _, rfl, A0, C0, HO.out, fun i hi => absurd hi (by omega), fun _ _ => ⟨rfl, rfl⟩, HB1.out⟩
  case round =>
    clear HO HB1
    obtain ⟨k, hk, rfl, A, C, ho, hcs, hrest, hb⟩ := hrel
    have HO := Lib.hid ho
    have HCS := Lib.hid hcs
    have HRE := Lib.hid hrest
    have HB := Lib.hid hb
    by_cases hlt : k < n
    · obtain ⟨gd, cap', hv, hgb, hnc, hc, hf⟩ := ho.get (by omega)
      simp only [Value.slice.injEq] at hv
      obtain ⟨rfl, _, rfl⟩ := hv
      have x0 : wr.cell? ⟨gd, k * 4, none⟩ = some (.bool (V k).on) := hc k 0 hlt (by omega)
      have x1 : wr.cell? ⟨gd, k * 4 + 1, none⟩ = some (.int .i64 (V k).tk) := hc k 1 hlt (by omega)
      have x2 : wr.cell? ⟨gd, k * 4 + 2, none⟩ = some (.int .i64 (V k).sq) := hc k 2 hlt (by omega)
      have x3 : wr.cell? ⟨gd, k * 4 + 3, none⟩ = some (.slice (A k) (V k).m (C k)) := hc k 3 hlt (by omega)
      have i0 : (0 : Int) ≤ (k : Int) := by omega
      have i1 : (k : Int) < (n : Int) := by omega
      have HF := Lib.hid hf
      have HG := Lib.hid hgb
      have HA := Lib.hid ((Below.refl wr.heap.size wr).alloc (Nat.le_refl _) (.cells #[.bool (V k).on, .int .i64 (V k).tk, .int .i64 (V k).sq, .slice (A k) (V k).m (C k)] 25))
      have HRK := Lib.hid (show RowS 3 (wr.alloc (.cells #[.bool (V k).on, .int .i64 (V k).tk, .int .i64 (V k).sq, .slice (A k) (V k).m (C k)] 25)) (A k) (V k).m (C k) (V k).c from by
        obtain ⟨e1, e2⟩ := hrest k (Nat.le_refl _)
        have h6 := (HS.out.2.2.2.2 k hlt).below (hb.trans (HA.out.mono hb.size))
        rw [← e1, ← e2] at h6
        exact h6)
      clear ho hcs hrest hb hc hf hgb
      go_wp2_with (go_at_call 56; go_loud ((with_reducible refine (clone_case_any _ _ _ _ _ HRK.out).mono ?_); rintro e w3 ⟨v3, rfl, ho3, hb3⟩; obtain ⟨a3, c3, rfl⟩ := own_form ho3; have HN3 := Lib.hid ho3; have HBN := Lib.hid (below_next' HA.out hb3); have s3 := HBN.out.size; have y3 := ((bcell HBN.out).1 _ _ HG.out.2).trans x3; have yf := ((bcell HBN.out).2 gd (k * 4 + 3) HG.out.2).trans (HF.out _); clear ho3 hb3 x0 x1 x2 x3))
      go_roundw
      case rel =>
        refine ⟨k + 1, by omega, by go_num, fun i => if i = k then a3 else A i, fun i => if i = k then c3 else C i, ?_, fun i hi => ?_, fun i hi => ?_, ?_⟩
        · refine ((HO.out.below HBN.out).set (i := k) (j := 3) hlt (by omega) _).same (fun i j hi hj => ?_)
          unfold wcell
          by_cases e : i = k
          · subst e
            match j, hj with
            | 0, _ => simp
            | 1, _ => simp
            | 2, _ => simp
            | 3, _ => simp
          · simp [e]
        · by_cases e : i = k
          · subst e
            dsimp only
            rw [if_pos rfl, if_pos rfl]
            obtain ⟨a4, c4, hv4, hr4⟩ := RowS.of (by have := HRK.out.1; omega) HN3.out
            simp only [Value.slice.injEq] at hv4
            obtain ⟨rfl, _, rfl⟩ := hv4
            refine CaseNew.set ⟨hr4, fun q hq => ?_⟩
            have h1 := (HN3.out.lt q hq).1
            have h2 := HG.out
            have h3 := HB.out.size
            simp at h1
            exact ⟨by omega, fun e => by simp only [Value.ownBlock, Option.some.injEq] at e; omega⟩
          · dsimp only
            rw [if_neg e, if_neg e]
            exact ((HCS.out i (by omega)).below HBN.out).set
        · dsimp only
          rw [if_neg (by omega), if_neg (by omega)]
          exact HRE.out i (by omega)
        · exact (HB.out.trans (HBN.out.mono HB.out.size)).setCell (by have := HG.out; simp; omega) _
      case measure => simp [intOf]; omega
    · obtain rfl : k = n := by omega
      go_wp2
      go_ret
      exact ⟨_, A, C, rfl, HO.out, HCS.out, HB.out⟩
end Go.Proofs.Ytihpjfhibhpciaa
