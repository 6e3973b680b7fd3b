/- The contracts of Count, of the reference's Count and Why, and of Equal, over the seat's program. -/
import Derived.Test.YtmaijjjhjkaoeaaPlQ
namespace Go.Proofs.Ytmaijjjhjkaoeaa
open Go.ChangeShapes Go.WideShapes Go.ChangeAt Go.RowKit Go.Joins

/-- Two rows are the same. -/
def SameRows (s n m : Nat) (f g : Nat → Nat → Int) : Prop := n = m ∧ ∀ i, i < n → ∀ j, j < s → f i j = g i j
/-- What is returned is whether 'C' holds. -/
def RetEq (C : Prop) (w : World) (e : Ending) (w' : World) : Prop := ∃ b, e = .returned (.bool b) ∧ (b = true ↔ C) ∧ Below w.heap.size w w'
set_option maxRecDepth 100000 in
theorem count_any (v : Value) (P : PV) (w : World) (h : PoolAt w v P) : Calls Try.prog 23 #[v] w fun e w' => e = .returned (.int .i64 P.count) ∧ Below w.heap.size w w' := by
  have HP := Lib.hid (fun W hb => (h.below hb : PoolAt W v P))
  obtain ⟨fa, fc, oa, oc, rfl, _, _⟩ := h
  go_enter Try.func23, Try.ntmps23
  go_wp2_with (go_at_call 28; (with_reducible refine (names_any _ P _ (HP.out _ ((Below.refl _ _).alloc (Nat.le_refl _) _))).mono ?_); rintro e w1 ⟨v1, rfl, ho, hb⟩; obtain ⟨a1, c1, rfl⟩ := own_form ho; have HB := Lib.hid (((Below.refl w.heap.size w).alloc (Nat.le_refl _) (.cells #[.int .i64 P.i, .int .i64 P.t, .slice fa P.nf fc, .slice oa P.no oc, .int .i64 P.s] 27)).trans (hb.mono (by simp))); clear ho hb)
  go_ret
  exact ⟨rfl, HB.out⟩
set_option maxRecDepth 100000 in
theorem rcount_any (v : Value) (P : PV) (w : World) (h : PoolAt w v P) : Calls Try.prog 24 #[v] w fun e w' => e = .returned (.int .i64 P.count) ∧ Below w.heap.size w w' := by
  obtain ⟨fa, fc, oa, oc, rfl, hf, ho⟩ := h
  have hn1 := hf.1
  have hn2 := ho.1
  have HC := Lib.hid (show P.count = P.c + P.nf + P.no from rfl)
  have HC0 := Lib.hid (show P.t = 0 → P.c = 0 from fun h => by simp [PV.c, h])
  have HC1 := Lib.hid (show P.t ≠ 0 → P.c = 1 from fun h => by simp [PV.c, h])
  clear hf ho
  go_enter Try.func24, Try.ntmps24
  by_cases ht : P.t = 0
  · have e1 : (P.t != 0) = false := by simp [ht]
    go_wp2
    go_ret
    exact ⟨ret_int (by rw [HC.out, HC0.out ht]; omega), (Below.refl _ _).alloc (Nat.le_refl _) _⟩
  · have e1 : (P.t != 0) = true := by simp [ht]
    go_wp2
    go_ret
    exact ⟨ret_int (by rw [HC.out, HC1.out ht]; omega), (Below.refl _ _).alloc (Nat.le_refl _) _⟩
set_option maxRecDepth 100000 in
theorem rwhy_any (v : Value) (P : PV) (w : World) (h : PoolAt w v P) : Calls Try.prog 26 #[v] w fun e w' => e = .returned (.int .i64 P.why) ∧ Below w.heap.size w w' := by
  obtain ⟨fa, fc, oa, oc, rfl, hf, ho⟩ := h
  obtain ⟨pi, pt, nf, ff, no, fo, ps⟩ := P
  dsimp only at *
  clear hf ho
  by_cases ht : pt = 0
  · subst ht
    cases nf with
    | zero =>
      cases no with
      | zero =>
        go_enter Try.func26, Try.ntmps26
        go_wp2
        go_ret
        exact ⟨rfl, (Below.refl _ _).alloc (Nat.le_refl _) _⟩
      | succ no =>
        have j1 : (0 : Int) < (no : Int) + 1 := by omega
        go_enter Try.func26, Try.ntmps26
        go_wp2
        go_ret
        exact ⟨rfl, (Below.refl _ _).alloc (Nat.le_refl _) _⟩
    | succ nf =>
      have j1 : (0 : Int) < (nf : Int) + 1 := by omega
      go_enter Try.func26, Try.ntmps26
      go_wp2
      go_ret
      exact ⟨rfl, (Below.refl _ _).alloc (Nat.le_refl _) _⟩
  · have hw : (PV.mk pi pt nf ff no fo ps).why = 0 := by simp [PV.why, ht]
    have e1 : (pt != 0) = true := by simp [ht]
    rw [hw]
    clear ht hw
    go_enter Try.func26, Try.ntmps26
    go_wp2
    go_ret
    exact ⟨rfl, (Below.refl _ _).alloc (Nat.le_refl _) _⟩

set_option maxRecDepth 100000 in
set_option maxHeartbeats 3200000 in
theorem equal_slot (a a' : Option Addr) (n m cap cap' : Nat) (f g : Nat → Nat → Int) (w : World) (h : RowS 2 w a n cap f) (h' : RowS 2 w a' m cap' g) :
    Calls Try.prog 41 #[.slice a n cap, .slice a' m cap'] w (RetEq (SameRows 2 n m f g) w) := by
  have hn := h.1
  have hm := h'.1
  have HC := Lib.hid h
  have HC' := Lib.hid h'
  clear h h'
  go_enter Try.func41, Try.ntmps41
  by_cases hnm : n = m
  · subst hnm
    clear hm
    go_wp2
    go_loopw [13] (fun i wr => ∃ k : Nat, k ≤ n ∧ i = .int .i64 k ∧ SomeDraws w wr ∧ (∀ i, i < k → ∀ j, j < 2 → f i j = g i j)) (fun i _ => n - (intOf i).toNat)
    case atStart => exact ⟨0, Nat.zero_le _, rfl, ⟨0, rfl⟩, fun i hi => absurd hi (by omega)⟩
    case round =>
      obtain ⟨k, hk, rfl, hq, hE⟩ := hrel
      have HQ := Lib.hid hq
      have HE := Lib.hid hE
      have HR := Lib.hid (HC.out.below hq.below)
      have HR' := Lib.hid (HC'.out.below hq.below)
      clear hq hE
      by_cases hlt : k < n
      · obtain ⟨b, off, rfl, _, hc⟩ := HR.out.get hlt
        obtain ⟨b', off', rfl, _, hc'⟩ := HR'.out.get hlt
        have x0 : wr.cell? ⟨b, off + k * 2, none⟩ = some (.int .i64 (f k 0)) := hc k 0 hlt (by omega)
        have y0 : wr.cell? ⟨b', off' + k * 2, none⟩ = some (.int .i64 (g k 0)) := hc' k 0 hlt (by omega)
        have x1 : wr.cell? ⟨b, off + k * 2 + 1, none⟩ = some (.int .i64 (f k 1)) := hc k 1 hlt (by omega)
        have y1 : wr.cell? ⟨b', off' + k * 2 + 1, none⟩ = some (.int .i64 (g k 1)) := hc' k 1 hlt (by omega)
        have i0 : (0 : Int) ≤ (k : Int) := by omega
        have i1 : (k : Int) < (n : Int) := by omega
        clear hc hc'
        by_cases he : f k 0 = g k 0 ∧ f k 1 = g k 1
        · have HA := Lib.hid (show ∀ i, i < k + 1 → ∀ j, j < 2 → f i j = g i j from fun i hi j hj => by
            rcases Nat.lt_or_ge i k with h | h
            · exact HE.out i h j hj
            · obtain rfl : i = k := by omega
              obtain ⟨e0, e1⟩ := he
              match j, hj with
              | 0, _ => exact e0
              | 1, _ => exact e1)
          obtain ⟨e0, e1⟩ := he
          rw [← e0] at y0
          rw [← e1] at y1
          clear e0 e1
          go_wp2
          go_quiet (fail)
          go_wp2
          go_roundw
          case rel => exact ⟨k + 1, by omega, by go_num, HQ.out.drew _, HA.out⟩
          case measure => simp [intOf]; omega
        · by_cases e0 : f k 0 = g k 0
          · by_cases e1 : f k 1 = g k 1
            · exact absurd ⟨e0, e1⟩ he
            · have HN := Lib.hid (show ¬ SameRows 2 n n f g from fun h => e1 (h.2 k hlt 1 (by omega)))
              rw [← e0] at y0
              have n1 : (f k 1 == g k 1) = false := by simpa using e1
              clear he e0 e1
              go_wp2
              go_quiet (fail)
              go_wp2
              go_ret
              exact ⟨false, rfl, ⟨(fun h => absurd h (by decide)), (fun h => absurd h HN.out)⟩, below_drewN HQ.out.below _⟩
          · have HN := Lib.hid (show ¬ SameRows 2 n n f g from fun h => e0 (h.2 k hlt 0 (by omega)))
            have n0 : (f k 0 == g k 0) = false := by simpa using e0
            clear he e0
            go_wp2
            go_quiet (fail)
            go_wp2
            go_ret
            exact ⟨false, rfl, ⟨(fun h => absurd h (by decide)), (fun h => absurd h HN.out)⟩, below_drewN HQ.out.below _⟩
      · obtain rfl : k = n := by omega
        go_wp2
        go_ret
        exact ⟨true, rfl, ⟨fun _ => ⟨rfl, HE.out⟩, fun _ => rfl⟩, HQ.out.below⟩
  · have j1 : ((n : Int) != (m : Int)) = true := by simp; omega
    have HN := Lib.hid hnm
    clear hnm
    go_wp2
    go_ret
    exact ⟨false, rfl, ⟨(fun h => absurd h (by decide)), (fun h => absurd h.1 HN.out)⟩, Below.refl _ _⟩


set_option maxRecDepth 100000 in
set_option maxHeartbeats 3200000 in
theorem equal_old (a a' : Option Addr) (n m cap cap' : Nat) (f g : Nat → Nat → Int) (w : World) (h : RowS 3 w a n cap f) (h' : RowS 3 w a' m cap' g) :
    Calls Try.prog 42 #[.slice a n cap, .slice a' m cap'] w (RetEq (SameRows 3 n m f g) w) := by
  have hn := h.1
  have hm := h'.1
  have HC := Lib.hid h
  have HC' := Lib.hid h'
  clear h h'
  go_enter Try.func42, Try.ntmps42
  by_cases hnm : n = m
  · subst hnm
    clear hm
    go_wp2
    go_loopw [13] (fun i wr => ∃ k : Nat, k ≤ n ∧ i = .int .i64 k ∧ SomeDraws w wr ∧ (∀ i, i < k → ∀ j, j < 3 → f i j = g i j)) (fun i _ => n - (intOf i).toNat)
    case atStart => exact ⟨0, Nat.zero_le _, rfl, ⟨0, rfl⟩, fun i hi => absurd hi (by omega)⟩
    case round =>
      obtain ⟨k, hk, rfl, hq, hE⟩ := hrel
      have HQ := Lib.hid hq
      have HE := Lib.hid hE
      have HR := Lib.hid (HC.out.below hq.below)
      have HR' := Lib.hid (HC'.out.below hq.below)
      clear hq hE
      by_cases hlt : k < n
      · obtain ⟨b, off, rfl, _, hc⟩ := HR.out.get hlt
        obtain ⟨b', off', rfl, _, hc'⟩ := HR'.out.get hlt
        have x0 : wr.cell? ⟨b, off + k * 3, none⟩ = some (.int .i64 (f k 0)) := hc k 0 hlt (by omega)
        have y0 : wr.cell? ⟨b', off' + k * 3, none⟩ = some (.int .i64 (g k 0)) := hc' k 0 hlt (by omega)
        have x1 : wr.cell? ⟨b, off + k * 3 + 1, none⟩ = some (.int .i64 (f k 1)) := hc k 1 hlt (by omega)
        have y1 : wr.cell? ⟨b', off' + k * 3 + 1, none⟩ = some (.int .i64 (g k 1)) := hc' k 1 hlt (by omega)
        have x2 : wr.cell? ⟨b, off + k * 3 + 2, none⟩ = some (.int .i64 (f k 2)) := hc k 2 hlt (by omega)
        have y2 : wr.cell? ⟨b', off' + k * 3 + 2, none⟩ = some (.int .i64 (g k 2)) := hc' k 2 hlt (by omega)
        have i0 : (0 : Int) ≤ (k : Int) := by omega
        have i1 : (k : Int) < (n : Int) := by omega
        clear hc hc'
        by_cases he : f k 0 = g k 0 ∧ f k 1 = g k 1 ∧ f k 2 = g k 2
        · have HA := Lib.hid (show ∀ i, i < k + 1 → ∀ j, j < 3 → f i j = g i j from fun i hi j hj => by
            rcases Nat.lt_or_ge i k with h | h
            · exact HE.out i h j hj
            · obtain rfl : i = k := by omega
              obtain ⟨e0, e1, e2⟩ := he
              match j, hj with
              | 0, _ => exact e0
              | 1, _ => exact e1
              | 2, _ => exact e2)
          obtain ⟨e0, e1, e2⟩ := he
          rw [← e0] at y0
          rw [← e1] at y1
          rw [← e2] at y2
          clear e0 e1 e2
          go_wp2
          go_quiet (fail)
          go_wp2
          go_roundw
          case rel => exact ⟨k + 1, by omega, by go_num, HQ.out.drew _, HA.out⟩
          case measure => simp [intOf]; omega
        · by_cases e0 : f k 0 = g k 0
          · by_cases e1 : f k 1 = g k 1
            · by_cases e2 : f k 2 = g k 2
              · exact absurd ⟨e0, e1, e2⟩ he
              · have HN := Lib.hid (show ¬ SameRows 3 n n f g from fun h => e2 (h.2 k hlt 2 (by omega)))
                rw [← e0] at y0
                rw [← e1] at y1
                have n2 : (f k 2 == g k 2) = false := by simpa using e2
                clear he e0 e1 e2
                go_wp2
                go_quiet (fail)
                go_wp2
                go_ret
                exact ⟨false, rfl, ⟨(fun h => absurd h (by decide)), (fun h => absurd h HN.out)⟩, below_drewN HQ.out.below _⟩
            · have HN := Lib.hid (show ¬ SameRows 3 n n f g from fun h => e1 (h.2 k hlt 1 (by omega)))
              rw [← e0] at y0
              have n1 : (f k 1 == g k 1) = false := by simpa using e1
              clear he e0 e1
              go_wp2
              go_quiet (fail)
              go_wp2
              go_ret
              exact ⟨false, rfl, ⟨(fun h => absurd h (by decide)), (fun h => absurd h HN.out)⟩, below_drewN HQ.out.below _⟩
          · have HN := Lib.hid (show ¬ SameRows 3 n n f g from fun h => e0 (h.2 k hlt 0 (by omega)))
            have n0 : (f k 0 == g k 0) = false := by simpa using e0
            clear he e0
            go_wp2
            go_quiet (fail)
            go_wp2
            go_ret
            exact ⟨false, rfl, ⟨(fun h => absurd h (by decide)), (fun h => absurd h HN.out)⟩, below_drewN HQ.out.below _⟩
      · obtain rfl : k = n := by omega
        go_wp2
        go_ret
        exact ⟨true, rfl, ⟨fun _ => ⟨rfl, HE.out⟩, fun _ => rfl⟩, HQ.out.below⟩
  · have j1 : ((n : Int) != (m : Int)) = true := by simp; omega
    have HN := Lib.hid hnm
    clear hnm
    go_wp2
    go_ret
    exact ⟨false, rfl, ⟨(fun h => absurd h (by decide)), (fun h => absurd h.1 HN.out)⟩, Below.refl _ _⟩

end Go.Proofs.Ytmaijjjhjkaoeaa
