/- The contract of Same of calls that wait, over the seat's program. -/
import Derived.Test.YtihpjfhibhpciaaWtU
namespace Go.Proofs.Ytihpjfhibhpciaa
open Go.ChangeShapes Go.WideShapes Go.ChangeAt Go.RowKit Go.Joins

set_option maxRecDepth 100000 in
set_option maxHeartbeats 3200000 in
theorem same_any (V U : WV) (ca ca' : Option Addr) (cc cc' : Nat) (w : World) (h : RowS 3 w ca V.m cc V.c) (h' : RowS 3 w ca' U.m cc' U.c) :
    Calls Try.prog 68 #[.agg #[.bool V.on, .int .i64 V.tk, .int .i64 V.sq, .slice ca V.m cc], .agg #[.bool U.on, .int .i64 U.tk, .int .i64 U.sq, .slice ca' U.m cc']] w fun e w' => (∃ y, e = .returned (.bool y) ∧ (y = true ↔ WEq V U)) ∧ Below w.heap.size w w' := by
  have HA := Lib.hid (((Below.refl w.heap.size w).alloc (Nat.le_refl _) (.cells #[.bool V.on, .int .i64 V.tk, .int .i64 V.sq, .slice ca V.m cc] 25)).alloc (by simp) (.cells #[.bool U.on, .int .i64 U.tk, .int .i64 U.sq, .slice ca' U.m cc'] 25))
  have HC := Lib.hid (equal_case_any ca ca' V.m U.m cc cc' V.c U.c ((w.alloc (.cells #[.bool V.on, .int .i64 V.tk, .int .i64 V.sq, .slice ca V.m cc] 25)).alloc (.cells #[.bool U.on, .int .i64 U.tk, .int .i64 U.sq, .slice ca' U.m cc'] 25)) (h.below HA.out) (h'.below HA.out))
  clear h h'
  go_enter Try.func68, Try.ntmps68
  by_cases c0 : V.on = U.on
  · have e0 : (V.on == U.on) = true := by simpa using c0
    by_cases c1 : V.tk = U.tk
    · have e1 : (V.tk == U.tk) = true := by simpa using c1
      by_cases c2 : V.sq = U.sq
      · have e2 : (V.sq == U.sq) = true := by simpa using c2
        by_cases c3 : CSame V.c V.m U.c U.m
        · have HN := Lib.hid (show WEq V U from ⟨c0, c1, c2, c3⟩)
          have HY := Lib.hid c3
          clear c0 c1 c2 c3
          go_wp2_with (go_at_call 98; go_loud ((with_reducible refine HC.out.mono ?_); rintro e w1 ⟨⟨y, rfl, hy⟩, hb⟩; obtain rfl : y = true := hy.2 HY.out; have HB1 := Lib.hid (HA.out.trans (hb.mono HA.out.size)); clear hb hy))
          go_ret
          exact ⟨⟨true, rfl, fun _ => HN.out, fun _ => rfl⟩, HB1.out⟩
        · have HN := Lib.hid (show ¬ WEq V U from fun h => c3 h.2.2.2)
          have HY := Lib.hid c3
          clear c0 c1 c2 c3
          go_wp2_with (go_at_call 98; go_loud ((with_reducible refine HC.out.mono ?_); rintro e w1 ⟨⟨y, rfl, hy⟩, hb⟩; obtain rfl : y = false := (by cases y with | false => rfl | true => exact absurd (hy.1 rfl) HY.out); have HB1 := Lib.hid (HA.out.trans (hb.mono HA.out.size)); clear hb hy))
          go_ret
          exact ⟨⟨false, rfl, fun h => absurd h (by decide), fun h => absurd h HN.out⟩, HB1.out⟩
      · have e2 : (V.sq == U.sq) = false := by simpa using c2
        have HN := Lib.hid (show ¬ WEq V U from fun h => c2 h.2.2.1)
        clear c0 c1 c2 HC
        go_wp2
        go_ret
        exact ⟨⟨false, rfl, fun h => absurd h (by decide), fun h => absurd h HN.out⟩, HA.out⟩
    · have e1 : (V.tk == U.tk) = false := by simpa using c1
      have HN := Lib.hid (show ¬ WEq V U from fun h => c1 h.2.1)
      clear c0 c1 HC
      go_wp2
      go_ret
      exact ⟨⟨false, rfl, fun h => absurd h (by decide), fun h => absurd h HN.out⟩, HA.out⟩
  · have e0 : (V.on == U.on) = false := by simpa using c0
    have HN := Lib.hid (show ¬ WEq V U from fun h => c0 h.1)
    clear c0 HC
    go_wp2
    go_ret
    exact ⟨⟨false, rfl, fun h => absurd h (by decide), fun h => absurd h HN.out⟩, HA.out⟩
set_option maxRecDepth 100000 in
set_option maxHeartbeats 3200000 in
theorem eqfunc_any (a a' : Option Addr) (n n' cap cap' : Nat) (V U : Nat → WV) (w : World) (h : WaitsAt w a n cap V) (h' : WaitsAt w a' n' cap' U) :
    Calls Try.prog 67 #[.slice a n cap, .slice a' n' cap', .func (.func 68) #[] #[]] w fun e w' => (∃ y, e = .returned (.bool y) ∧ (y = true ↔ RSame V n U n')) ∧ Below w.heap.size w w' := by
  have hm := h.1
  have hm' := h'.1
  by_cases hmm : n = n'
  · subst hmm
    have HC := Lib.hid h
    have HC' := Lib.hid h'
    clear h h'
    go_enter Try.func67, Try.ntmps67
    go_wp2
    go_loopw [17] (fun i wr => ∃ k : Nat, k ≤ n ∧ i = .int .i64 k ∧ Below w.heap.size w wr ∧ ∀ i, i < k → WEq (V i) (U i)) (fun i _ => n - (intOf i).toNat)
    case atStart => exact ⟨0, Nat.zero_le _, rfl, Below.refl _ _, fun i hi => absurd hi (by omega)⟩
    case round =>
      obtain ⟨k, hk, rfl, hb, hs⟩ := hrel
      have HB := Lib.hid hb
      have HS := Lib.hid hs
      have HR := Lib.hid (HC.out.below hb)
      have HR' := Lib.hid (HC'.out.below hb)
      clear hb hs
      by_cases hlt : k < n
      · obtain ⟨b, off, rfl, zb, hc⟩ := HR.out.get hlt
        obtain ⟨b', off', rfl, zb', hc'⟩ := HR'.out.get hlt
        obtain ⟨ca, cc, x0, x1, x2, x3, hr⟩ := hc k hlt
        obtain ⟨ca', cc', y0, y1, y2, y3, hr'⟩ := hc' k hlt
        have HA := Lib.hid (((Below.refl wr.heap.size wr).alloc (Nat.le_refl _) (.cells #[.bool (V k).on, .int .i64 (V k).tk, .int .i64 (V k).sq, .slice ca (V k).m cc] 25)).alloc (by simp) (.cells #[.bool (U k).on, .int .i64 (U k).tk, .int .i64 (U k).sq, .slice ca' (U k).m cc'] 25))
        have HK := Lib.hid (same_any (V k) (U k) ca ca' cc cc' ((wr.alloc (.cells #[.bool (V k).on, .int .i64 (V k).tk, .int .i64 (V k).sq, .slice ca (V k).m cc] 25)).alloc (.cells #[.bool (U k).on, .int .i64 (U k).tk, .int .i64 (U k).sq, .slice ca' (U k).m cc'] 25)) (hr.below HA.out) (hr'.below HA.out))
        have i0 : (0 : Int) ≤ (k : Int) := by omega
        have i1 : (k : Int) < (n : Int) := by omega
        clear hc hc' hr hr'
        by_cases hw : WEq (V k) (U k)
        · go_wp2_with (go_at_call 68; go_loud ((with_reducible refine HK.out.mono ?_); rintro e w1 ⟨⟨y, rfl, hy⟩, hb⟩; obtain rfl : y = true := hy.2 hw; have HB1 := Lib.hid (HB.out.trans ((HA.out.trans (hb.mono HA.out.size)).mono HB.out.size)); clear hb hy))
          go_roundw
          case rel => exact ⟨k + 1, by omega, by go_num, HB1.out, fun i hi => by
            by_cases c : i = k
            · rw [c]; exact hw
            · exact HS.out i (by omega)⟩
          case measure => simp [intOf]; omega
        · have HN := Lib.hid (show ¬ RSame V n U n from fun h => hw (h.2 k hlt))
          go_wp2_with (go_at_call 68; go_loud ((with_reducible refine HK.out.mono ?_); rintro e w1 ⟨⟨y, rfl, hy⟩, hb⟩; obtain rfl : y = false := (by cases y with | false => rfl | true => exact absurd (hy.1 rfl) hw); have HB1 := Lib.hid (HB.out.trans ((HA.out.trans (hb.mono HA.out.size)).mono HB.out.size)); clear hb hy))
          go_ret
          exact ⟨⟨false, rfl, fun h => absurd h (by decide), fun h => absurd h HN.out⟩, HB1.out⟩
      · obtain rfl : k = n := by omega
        go_wp2
        go_ret
        exact ⟨⟨true, rfl, fun _ => ⟨rfl, HS.out⟩, fun _ => rfl⟩, HB.out⟩
  · have hne : ((n : Int) != (n' : Int)) = true := by simp; omega
    have HN := Lib.hid (show ¬ RSame V n U n' from fun h => hmm h.1)
    clear h h'
    go_enter Try.func67, Try.ntmps67
    go_wp2
    go_ret
    exact ⟨⟨false, rfl, fun h => absurd h (by decide), fun h => absurd h HN.out⟩, Below.refl _ _⟩
theorem wsame_any (a a' : Option Addr) (n n' cap cap' : Nat) (V U : Nat → WV) (w : World) (h : WaitsAt w a n cap V) (h' : WaitsAt w a' n' cap' U) :
    Calls Try.prog 28 #[.slice a n cap, .slice a' n' cap'] w fun e w' => (∃ y, e = .returned (.bool y) ∧ (y = true ↔ RSame V n U n')) ∧ Below w.heap.size w w' := by
  have HC := Lib.hid (eqfunc_any a a' n n' cap cap' V U w h h')
  clear h h'
  go_enter Try.func28, Try.ntmps28
  go_wp2_with (go_at_call 67; go_loud ((with_reducible refine HC.out.mono ?_); rintro e w1 ⟨⟨y, rfl, hy⟩, hb⟩; have HY := Lib.hid hy; have HB := Lib.hid hb; clear hb hy))
  go_ret
  exact ⟨⟨y, rfl, HY.out⟩, HB.out⟩
end Go.Proofs.Ytihpjfhibhpciaa
