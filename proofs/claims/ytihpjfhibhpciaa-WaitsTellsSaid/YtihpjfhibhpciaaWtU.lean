/- Whether two rows of cases, and of calls that wait, are the same: plain's and the library's, over the seat's program. -/
import Derived.Test.YtihpjfhibhpciaaWtQ
namespace Go.Proofs.Ytihpjfhibhpciaa
open Go.ChangeShapes Go.WideShapes Go.ChangeAt Go.RowKit Go.Joins

def CSame (f : Nat → Nat → Int) (m : Nat) (g : Nat → Nat → Int) (m' : Nat) : Prop := m = m' ∧ ∀ i j, i < m → j < 3 → f i j = g i j
def WEq (V U : WV) : Prop := V.on = U.on ∧ V.tk = U.tk ∧ V.sq = U.sq ∧ CSame V.c V.m U.c U.m
def RSame (V : Nat → WV) (n : Nat) (U : Nat → WV) (n' : Nat) : Prop := n = n' ∧ ∀ i, i < n → WEq (V i) (U i)
set_option maxRecDepth 100000 in
set_option maxHeartbeats 3200000 in
theorem cases_any (a a' : Option Addr) (m m' cap cap' : Nat) (f g : Nat → Nat → Int) (w : World) (h : RowS 3 w a m cap f) (h' : RowS 3 w a' m' cap' g) :
    Calls Try.prog 57 #[.slice a m cap, .slice a' m' cap'] w fun e w' => (∃ y, e = .returned (.bool y) ∧ (y = true ↔ CSame f m g m')) ∧ Below w.heap.size w w' := by
  have hm := h.1
  have hm' := h'.1
  by_cases hmm : m = m'
  · subst hmm
    have HC := Lib.hid h
    have HC' := Lib.hid h'
    clear h h'
    go_enter Try.func57, Try.ntmps57
    go_wp2
    go_loopw [13] (fun i wr => ∃ k : Nat, k ≤ m ∧ i = .int .i64 k ∧ Below w.heap.size w wr ∧ ∀ i j, i < k → j < 3 → f i j = g i j) (fun i _ => m - (intOf i).toNat)
    case atStart => exact ⟨0, Nat.zero_le _, rfl, Below.refl _ _, fun i j hi => absurd hi (by omega)⟩
    case round =>
      obtain ⟨k, hk, rfl, hb, hs⟩ := hrel
      have HB := Lib.hid hb
      have HS := Lib.hid hs
      have HR := Lib.hid (HC.out.below hb)
      have HR' := Lib.hid (HC'.out.below hb)
      clear hb hs
      by_cases hlt : k < m
      · obtain ⟨b, off, rfl, zb, hc⟩ := HR.out.get hlt
        obtain ⟨b', off', rfl, zb', hc'⟩ := HR'.out.get hlt
        have x0 := hc k 0 hlt (by omega)
        have x1 := hc k 1 hlt (by omega)
        have x2 := hc k 2 hlt (by omega)
        have y0 := hc' k 0 hlt (by omega)
        have y1 := hc' k 1 hlt (by omega)
        have y2 := hc' k 2 hlt (by omega)
        rw [Nat.add_zero] at x0 y0
        have i0 : (0 : Int) ≤ (k : Int) := by omega
        have i1 : (k : Int) < (m : Int) := by omega
        clear hc hc'
        by_cases c0 : f k 0 = g k 0
        · have e0 : (f k 0 == g k 0) = true := by simpa using c0
          by_cases c1 : f k 1 = g k 1
          · have e1 : (f k 1 == g k 1) = true := by simpa using c1
            by_cases c2 : f k 2 = g k 2
            · have e2 : (f k 2 == g k 2) = true := by simpa using c2
              have HN := Lib.hid (show ∀ j, j < 3 → f k j = g k j from fun j hj => by
                match j, hj with
                | 0, _ => exact c0
                | 1, _ => exact c1
                | 2, _ => exact c2)
              clear c0 c1 c2
              go_wp2
              go_quiet (fail)
              go_wp2
              go_roundw
              case rel => exact ⟨k + 1, by omega, by go_num, below_drewN HB.out _, fun i j hi hj => by
                by_cases c : i = k
                · rw [c]; exact HN.out j hj
                · exact HS.out i j (by omega) hj⟩
              case measure => simp [intOf]; omega
            · have e2 : (f k 2 == g k 2) = false := by simpa using c2
              have HN := Lib.hid (show ¬ CSame f m g m from fun h => c2 (h.2 k 2 hlt (by omega)))
              clear c0 c1 c2
              go_wp2
              go_quiet (fail)
              go_wp2
              go_ret
              exact ⟨⟨false, rfl, fun h => absurd h (by decide), fun h => absurd h HN.out⟩, below_drewN HB.out _⟩
          · have e1 : (f k 1 == g k 1) = false := by simpa using c1
            have HN := Lib.hid (show ¬ CSame f m g m from fun h => c1 (h.2 k 1 hlt (by omega)))
            clear c0 c1
            go_wp2
            go_quiet (fail)
            go_wp2
            go_ret
            exact ⟨⟨false, rfl, fun h => absurd h (by decide), fun h => absurd h HN.out⟩, below_drewN HB.out _⟩
        · have e0 : (f k 0 == g k 0) = false := by simpa using c0
          have HN := Lib.hid (show ¬ CSame f m g m from fun h => c0 (h.2 k 0 hlt (by omega)))
          clear c0
          go_wp2
          go_quiet (fail)
          go_wp2
          go_ret
          exact ⟨⟨false, rfl, fun h => absurd h (by decide), fun h => absurd h HN.out⟩, below_drewN HB.out _⟩
      · obtain rfl : k = m := by omega
        go_wp2
        go_ret
        exact ⟨⟨true, rfl, fun _ => ⟨rfl, HS.out⟩, fun _ => rfl⟩, HB.out⟩
  · have hne : ((m : Int) != (m' : Int)) = true := by simp; omega
    have HN := Lib.hid (show ¬ CSame f m g m' from fun h => hmm h.1)
    clear h h'
    go_enter Try.func57, Try.ntmps57
    go_wp2
    go_ret
    exact ⟨⟨false, rfl, fun h => absurd h (by decide), fun h => absurd h HN.out⟩, Below.refl _ _⟩
set_option maxRecDepth 100000 in
set_option maxHeartbeats 3200000 in
theorem equal_case_any (a a' : Option Addr) (m m' cap cap' : Nat) (f g : Nat → Nat → Int) (w : World) (h : RowS 3 w a m cap f) (h' : RowS 3 w a' m' cap' g) :
    Calls Try.prog 98 #[.slice a m cap, .slice a' m' cap'] w fun e w' => (∃ y, e = .returned (.bool y) ∧ (y = true ↔ CSame f m g m')) ∧ Below w.heap.size w w' := by
  have hm := h.1
  have hm' := h'.1
  by_cases hmm : m = m'
  · subst hmm
    have HC := Lib.hid h
    have HC' := Lib.hid h'
    clear h h'
    go_enter Try.func98, Try.ntmps98
    go_wp2
    go_loopw [13] (fun i wr => ∃ k : Nat, k ≤ m ∧ i = .int .i64 k ∧ Below w.heap.size w wr ∧ ∀ i j, i < k → j < 3 → f i j = g i j) (fun i _ => m - (intOf i).toNat)
    case atStart => exact ⟨0, Nat.zero_le _, rfl, Below.refl _ _, fun i j hi => absurd hi (by omega)⟩
    case round =>
      obtain ⟨k, hk, rfl, hb, hs⟩ := hrel
      have HB := Lib.hid hb
      have HS := Lib.hid hs
      have HR := Lib.hid (HC.out.below hb)
      have HR' := Lib.hid (HC'.out.below hb)
      clear hb hs
      by_cases hlt : k < m
      · obtain ⟨b, off, rfl, zb, hc⟩ := HR.out.get hlt
        obtain ⟨b', off', rfl, zb', hc'⟩ := HR'.out.get hlt
        have x0 := hc k 0 hlt (by omega)
        have x1 := hc k 1 hlt (by omega)
        have x2 := hc k 2 hlt (by omega)
        have y0 := hc' k 0 hlt (by omega)
        have y1 := hc' k 1 hlt (by omega)
        have y2 := hc' k 2 hlt (by omega)
        rw [Nat.add_zero] at x0 y0
        have i0 : (0 : Int) ≤ (k : Int) := by omega
        have i1 : (k : Int) < (m : Int) := by omega
        clear hc hc'
        by_cases c0 : f k 0 = g k 0
        · have e0 : (f k 0 == g k 0) = true := by simpa using c0
          by_cases c1 : f k 1 = g k 1
          · have e1 : (f k 1 == g k 1) = true := by simpa using c1
            by_cases c2 : f k 2 = g k 2
            · have e2 : (f k 2 == g k 2) = true := by simpa using c2
              have HN := Lib.hid (show ∀ j, j < 3 → f k j = g k j from fun j hj => by
                match j, hj with
                | 0, _ => exact c0
                | 1, _ => exact c1
                | 2, _ => exact c2)
              clear c0 c1 c2
              go_wp2
              go_quiet (fail)
              go_wp2
              go_roundw
              case rel => exact ⟨k + 1, by omega, by go_num, below_drewN HB.out _, fun i j hi hj => by
                by_cases c : i = k
                · rw [c]; exact HN.out j hj
                · exact HS.out i j (by omega) hj⟩
              case measure => simp [intOf]; omega
            · have e2 : (f k 2 == g k 2) = false := by simpa using c2
              have HN := Lib.hid (show ¬ CSame f m g m from fun h => c2 (h.2 k 2 hlt (by omega)))
              clear c0 c1 c2
              go_wp2
              go_quiet (fail)
              go_wp2
              go_ret
              exact ⟨⟨false, rfl, fun h => absurd h (by decide), fun h => absurd h HN.out⟩, below_drewN HB.out _⟩
          · have e1 : (f k 1 == g k 1) = false := by simpa using c1
            have HN := Lib.hid (show ¬ CSame f m g m from fun h => c1 (h.2 k 1 hlt (by omega)))
            clear c0 c1
            go_wp2
            go_quiet (fail)
            go_wp2
            go_ret
            exact ⟨⟨false, rfl, fun h => absurd h (by decide), fun h => absurd h HN.out⟩, below_drewN HB.out _⟩
        · have e0 : (f k 0 == g k 0) = false := by simpa using c0
          have HN := Lib.hid (show ¬ CSame f m g m from fun h => c0 (h.2 k 0 hlt (by omega)))
          clear c0
          go_wp2
          go_quiet (fail)
          go_wp2
          go_ret
          exact ⟨⟨false, rfl, fun h => absurd h (by decide), fun h => absurd h HN.out⟩, below_drewN HB.out _⟩
      · obtain rfl : k = m := by omega
        go_wp2
        go_ret
        exact ⟨⟨true, rfl, fun _ => ⟨rfl, HS.out⟩, fun _ => rfl⟩, HB.out⟩
  · have hne : ((m : Int) != (m' : Int)) = true := by simp; omega
    have HN := Lib.hid (show ¬ CSame f m g m' from fun h => hmm h.1)
    clear h h'
    go_enter Try.func98, Try.ntmps98
    go_wp2
    go_ret
    exact ⟨⟨false, rfl, fun h => absurd h (by decide), fun h => absurd h HN.out⟩, Below.refl _ _⟩
set_option maxRecDepth 100000 in
set_option maxHeartbeats 3200000 in
theorem waits_any (a a' : Option Addr) (n n' cap cap' : Nat) (V U : Nat → WV) (w : World) (h : WaitsAt w a n cap V) (h' : WaitsAt w a' n' cap' U) :
    Calls Try.prog 19 #[.slice a n cap, .slice a' n' cap'] w fun e w' => (∃ y, e = .returned (.bool y) ∧ (y = true ↔ RSame V n U n')) ∧ Below w.heap.size w w' := by
  have hm := h.1
  have hm' := h'.1
  by_cases hmm : n = n'
  · subst hmm
    have HC := Lib.hid h
    have HC' := Lib.hid h'
    clear h h'
    go_enter Try.func19, Try.ntmps19
    go_wp2
    go_loopw [13] (fun i wr => ∃ k : Nat, k ≤ n ∧ i = .int .i64 k ∧ Below w.heap.size w wr ∧ ∀ i, i < k → WEq (V i) (U i)) (fun i _ => n - (intOf i).toNat)
    case atStart => exact ⟨0, Nat.zero_le _, rfl, Below.refl _ _, fun i hi => absurd hi (by omega)⟩
    case round =>
      obtain ⟨k, hk, rfl, hb, hs⟩ := hrel
      have HB := Lib.hid hb
      have HS := Lib.hid hs
      have HR := Lib.hid (HC.out.below hb)
      have HR' := Lib.hid (HC'.out.below hb)
      clear hb hs
      by_cases hlt : k < n
      · obtain ⟨b, off, rfl, zb, hc⟩ := HR.out.get hlt
        obtain ⟨b', off', rfl, zb', hc'⟩ := HR'.out.get hlt
        obtain ⟨ca, cc, x0, x1, x2, x3, hr⟩ := hc k hlt
        obtain ⟨ca', cc', y0, y1, y2, y3, hr'⟩ := hc' k hlt
        have HK := Lib.hid hr
        have HK' := Lib.hid hr'
        have i0 : (0 : Int) ≤ (k : Int) := by omega
        have i1 : (k : Int) < (n : Int) := by omega
        clear hc hc' hr hr'
        by_cases c0 : (V k).on = (U k).on
        · rw [← c0] at y0
          have e0 : ((V k).on == (V k).on) = true := by simp
          by_cases c1 : (V k).tk = (U k).tk
          · rw [← c1] at y1
            have e1 : ((V k).tk == (V k).tk) = true := by simp
            by_cases c2 : (V k).sq = (U k).sq
            · rw [← c2] at y2
              have e2 : ((V k).sq == (V k).sq) = true := by simp
              by_cases c3 : CSame (V k).c (V k).m (U k).c (U k).m
              · have HN := Lib.hid (show WEq (V k) (U k) from ⟨c0, c1, c2, c3⟩)
                have HY := Lib.hid c3
                clear c0 c1 c2 c3
                go_wp2
                go_region_held3 (fun W => W.cell? ⟨b, off + k * 4, none⟩ = some (.bool (V k).on) ∧ W.cell? ⟨b, off + k * 4 + 1, none⟩ = some (.int .i64 (V k).tk) ∧ W.cell? ⟨b, off + k * 4 + 2, none⟩ = some (.int .i64 (V k).sq) ∧ W.cell? ⟨b, off + k * 4 + 3, none⟩ = some (.slice ca (V k).m cc) ∧ W.cell? ⟨b', off' + k * 4, none⟩ = some (.bool (V k).on) ∧ W.cell? ⟨b', off' + k * 4 + 1, none⟩ = some (.int .i64 (V k).tk) ∧ W.cell? ⟨b', off' + k * 4 + 2, none⟩ = some (.int .i64 (V k).sq) ∧ W.cell? ⟨b', off' + k * 4 + 3, none⟩ = some (.slice ca' (U k).m cc'))
                  (first | with_reducible exact ⟨x0, x1, x2, x3, y0, y1, y2, y3⟩ | (go_simp; done) | go_keep)
                  ((go_at_call 57; (with_reducible refine (cases_any _ _ _ _ _ _ _ _ _ (HK.out.below (Below.drew (Below.refl _ _))) (HK'.out.below (Below.drew (Below.refl _ _)))).mono ?_); rintro e w1 ⟨⟨y, rfl, hy⟩, hb⟩; obtain rfl : y = true := hy.2 HY.out; have HB1 := Lib.hid (show Below wr.heap.size wr w1 from (Below.drew (Below.refl _ _)).trans (hb.mono (Nat.le_refl _))); have x0 := ((bcell HB1.out).1 _ _ zb).trans x0; have x1 := ((bcell HB1.out).1 _ _ zb).trans x1; have x2 := ((bcell HB1.out).1 _ _ zb).trans x2; have x3 := ((bcell HB1.out).1 _ _ zb).trans x3; have y0 := ((bcell HB1.out).1 _ _ zb').trans y0; have y1 := ((bcell HB1.out).1 _ _ zb').trans y1; have y2 := ((bcell HB1.out).1 _ _ zb').trans y2; have y3 := ((bcell HB1.out).1 _ _ zb').trans y3; clear hb hy))
                go_wp2
                go_roundw
                case rel => exact ⟨k + 1, by omega, by go_num, HB.out.trans (HB1.out.mono HB.out.size), fun i hi => by
                  by_cases c : i = k
                  · rw [c]; exact HN.out
                  · exact HS.out i (by omega)⟩
                case measure => simp [intOf]; omega
              · have HN := Lib.hid (show ¬ RSame V n U n from fun h => c3 (h.2 k hlt).2.2.2)
                have HY := Lib.hid c3
                clear c0 c1 c2 c3
                go_wp2
                go_region_held3 (fun W => W.cell? ⟨b, off + k * 4, none⟩ = some (.bool (V k).on) ∧ W.cell? ⟨b, off + k * 4 + 1, none⟩ = some (.int .i64 (V k).tk) ∧ W.cell? ⟨b, off + k * 4 + 2, none⟩ = some (.int .i64 (V k).sq) ∧ W.cell? ⟨b, off + k * 4 + 3, none⟩ = some (.slice ca (V k).m cc) ∧ W.cell? ⟨b', off' + k * 4, none⟩ = some (.bool (V k).on) ∧ W.cell? ⟨b', off' + k * 4 + 1, none⟩ = some (.int .i64 (V k).tk) ∧ W.cell? ⟨b', off' + k * 4 + 2, none⟩ = some (.int .i64 (V k).sq) ∧ W.cell? ⟨b', off' + k * 4 + 3, none⟩ = some (.slice ca' (U k).m cc'))
                  (first | with_reducible exact ⟨x0, x1, x2, x3, y0, y1, y2, y3⟩ | (go_simp; done) | go_keep)
                  ((go_at_call 57; (with_reducible refine (cases_any _ _ _ _ _ _ _ _ _ (HK.out.below (Below.drew (Below.refl _ _))) (HK'.out.below (Below.drew (Below.refl _ _)))).mono ?_); rintro e w1 ⟨⟨y, rfl, hy⟩, hb⟩; obtain rfl : y = false := (by cases y with | false => rfl | true => exact absurd (hy.1 rfl) HY.out); have HB1 := Lib.hid (show Below wr.heap.size wr w1 from (Below.drew (Below.refl _ _)).trans (hb.mono (Nat.le_refl _))); have x0 := ((bcell HB1.out).1 _ _ zb).trans x0; have x1 := ((bcell HB1.out).1 _ _ zb).trans x1; have x2 := ((bcell HB1.out).1 _ _ zb).trans x2; have x3 := ((bcell HB1.out).1 _ _ zb).trans x3; have y0 := ((bcell HB1.out).1 _ _ zb').trans y0; have y1 := ((bcell HB1.out).1 _ _ zb').trans y1; have y2 := ((bcell HB1.out).1 _ _ zb').trans y2; have y3 := ((bcell HB1.out).1 _ _ zb').trans y3; clear hb hy))
                go_wp2
                go_ret
                exact ⟨⟨false, rfl, fun h => absurd h (by decide), fun h => absurd h HN.out⟩, HB.out.trans (HB1.out.mono HB.out.size)⟩
            · have e2 : ((V k).sq == (U k).sq) = false := by simpa using c2
              have n2 : ((V k).sq != (U k).sq) = true := by simpa using c2
              have HN := Lib.hid (show ¬ RSame V n U n from fun h => c2 (h.2 k hlt).2.2.1)
              clear c0 c1 c2
              go_wp2
              go_quiet (fail)
              go_wp2
              go_ret
              exact ⟨⟨false, rfl, fun h => absurd h (by decide), fun h => absurd h HN.out⟩, below_drewN HB.out _⟩
          · have e1 : ((V k).tk == (U k).tk) = false := by simpa using c1
            have n1 : ((V k).tk != (U k).tk) = true := by simpa using c1
            have HN := Lib.hid (show ¬ RSame V n U n from fun h => c1 (h.2 k hlt).2.1)
            clear c0 c1
            go_wp2
            go_quiet (fail)
            go_wp2
            go_ret
            exact ⟨⟨false, rfl, fun h => absurd h (by decide), fun h => absurd h HN.out⟩, below_drewN HB.out _⟩
        · have e0 : ((V k).on == (U k).on) = false := by simpa using c0
          have n0 : ((V k).on != (U k).on) = true := by simpa using c0
          have HN := Lib.hid (show ¬ RSame V n U n from fun h => c0 (h.2 k hlt).1)
          clear c0
          go_wp2
          go_quiet (fail)
          go_wp2
          go_ret
          exact ⟨⟨false, rfl, fun h => absurd h (by decide), fun h => absurd h HN.out⟩, below_drewN HB.out _⟩
      · obtain rfl : k = n := by omega
        go_wp2
        go_ret
        exact ⟨⟨true, rfl, fun _ => ⟨rfl, HS.out⟩, fun _ => rfl⟩, HB.out⟩
  · have hne : ((n : Int) != (n' : Int)) = true := by simp; omega
    have HN := Lib.hid (show ¬ RSame V n U n' from fun h => hmm h.1)
    clear h h'
    go_enter Try.func19, Try.ntmps19
    go_wp2
    go_ret
    exact ⟨⟨false, rfl, fun h => absurd h (by decide), fun h => absurd h HN.out⟩, Below.refl _ _⟩
end Go.Proofs.Ytihpjfhibhpciaa
