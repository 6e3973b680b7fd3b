/- The reference's ReadCall over the seat's program, where some word is not as it must be. -/
import Derived.Test.YtcbdbpcibhjkjabRread
namespace Go.Proofs.Ytcbdbpcibhjkjab
open Go.ChangeShapes Go.WideShapes Go.ChangeAt Go.RowKit Go.Joins
attribute [local go_sem ↓] Go.wp_at_zero Go.wp_at_succ

set_option maxRecDepth 100000 in
set_option maxHeartbeats 6400000 in
theorem rread_bad (b off cap : Nat) (l0 l1 l2 l3 l4 : Int) (w : World) (hb : b < w.heap.size) (hl : ∀ x ∈ [l0, l1, l2, l3, l4], 0 ≤ x ∧ x < 18446744073709551616)
    (c0 : w.cell? ⟨b, off, none⟩ = some (.int .u64 l0)) (c4 : w.cell? ⟨b, off + 4, none⟩ = some (.int .u64 l4)) (hc : ∀ i, i < 3 → w.cell? ⟨b, off + (1 + i), none⟩ = some (.int .u64 ([l1, l2, l3].getD i 0))) (hh : hdr l0 l4) (hg : ¬ ∀ j, j < 3 → chk (ncase l0) j ([l1, l2, l3].getD j 0)) :
    Calls Try.prog 24 #[.slice (some ⟨b, off, none⟩) 5 cap] w (RetGot ⟨0, 0, 0, false, [], 0, false⟩ w) := by
  obtain ⟨i0, hi0, hz0, hz1, hz2⟩ := info_parts Try.info52
  have HI := Lib.hid (And.intro hi0 (And.intro hz0 (And.intro hz1 hz2)))
  have HX3 := Lib.hid (show ∀ i, i < 3 → 0 ≤ [l1, l2, l3].getD i 0 ∧ [l1, l2, l3].getD i 0 < 18446744073709551616 from fun i hi => by
    match i, hi with | 0, _ => exact hl l1 (by simp) | 1, _ => exact hl l2 (by simp) | 2, _ => exact hl l3 (by simp))
  have HC := Lib.hid hc
  have HG := Lib.hid hg
  have HC4 := Lib.hid c4
  obtain ⟨b01, b02⟩ := hl l0 (by simp)
  obtain ⟨b41, b42⟩ := hl l4 (by simp)
  obtain ⟨g1, g2, g3, g4, g5⟩ := hh
  have HN := Lib.hid (show ((ncase l0 : Nat) : Int) = l0 / 256 % 16 by rw [ncase, if_pos g4]; omega)
  have HNL := Lib.hid (ncase_le l0)
  have HD := Lib.hid (show (l0 / 4096 % 16 == 1) = (l0 / 4096 % 2 == 1) by rw [Bool.eq_iff_iff]; simp; omega)
  have d1 : 0 ≤ l0 % 256 := by omega
  have d2 : l0 % 256 < 256 := by omega
  have d3 : 0 ≤ l0 / 65536 % 65536 := by omega
  have d4 : l0 / 65536 % 65536 < 65536 := by omega
  have d5 : 0 ≤ l0 / 4294967296 := by omega
  have d6 : l0 / 4294967296 < 4294967296 := by omega
  have d7 : 0 ≤ l0 / 256 % 16 := by omega
  have d8 : l0 / 256 % 16 < 16 := by omega
  have t1 : decide (4294967295 < l4) = false := by simp; omega
  have t2 : decide (l0 % 256 < 1) = false := by simp; omega
  have t3 : decide (9 < l0 % 256) = false := by simp; omega
  have t4 : decide (3 < l0 / 256 % 16) = false := by simp; omega
  have t5 : decide (1 < l0 / 4096 % 16) = false := by simp; omega
  have hb1 : b < w.heap.size + 1 := by omega
  clear hi0 hz0 hz1 hz2 hl hc hg
  generalize hF : (fun i => caseOf ([l1, l2, l3].getD i 0)) = F
  have HFF := Lib.hid hF
  clear hF
  go_enter Try.func24, Try.ntmps24
  go_wp2
  go_loopw [9] (fun i wr => ∃ k : Nat, k ≤ 3 ∧ i = .int .i64 k ∧ (∀ j, j < k → chk (ncase l0) j ([l1, l2, l3].getD j 0)) ∧ ∃ v, RdBase w l0 wr ∧ wr.cell? ⟨w.heap.size + 1, 4, none⟩ = some v ∧ wr.ownsRow (w.heap.size + 1 + 1) 52 3 v (min k (ncase l0)) (flat3 F (min k (ncase l0)))) (fun i _ => 3 - (intOf i).toNat)
  case atStart =>
    refine ⟨0, by omega, rfl, fun j hj => absurd hj (by omega), .slice none 0 0, ⟨⟨?_, ?_, ?_, ?_, ?_⟩, ⟨?_, ?_, ?_, ?_, ?_⟩, ⟨?_, ?_, ?_, ?_⟩, ?_, ?_, ?_⟩, ?_, ?_⟩
    all_goals first | (go_simp; done) | skip
    all_goals first | exact World.ownsRow_nil _ _ _ _ | (rw [Nat.zero_min]; exact World.ownsRow_nil _ _ _ _) | (simp; done) | (repeat' (first | with_reducible exact Below.refl _ _ | with_reducible refine Below.drew ?_ | with_reducible refine Below.alloc ?_ ?_ _ | with_reducible refine Below.setCell ?_ ?_ _ | (simp; done) | (simp; omega) | omega))
  case round =>
    obtain ⟨k, hk, rfl, hs, v, hB, hv, hown⟩ := hrel
    have HS := Lib.hid hs
    have HB := Lib.hid hB
    have HO := Lib.hid hown
    obtain ⟨⟨r0, r1, r2, r3, r4⟩, ⟨f0, f1, f2, f3, f4⟩, ⟨q0, q1, q2, q3⟩, qf, hbw, hsz⟩ := hB
    have HBW := Lib.hid hbw
    have z1 : w.heap.size < wr.heap.size := by omega
    have z2 : w.heap.size + 1 < wr.heap.size := by omega
    have z3 : b < wr.heap.size := by omega
    have y1 : w.heap.size < wr.heap.size + 1 := by omega
    have x1 : b < wr.heap.size + 1 := by omega
    have y2 : w.heap.size < wr.heap.size + 1 + 1 := by omega
    have x2 : b < wr.heap.size + 1 + 1 := by omega
    have y3 : w.heap.size < wr.heap.size + 1 + 1 + 1 := by omega
    have x3 : b < wr.heap.size + 1 + 1 + 1 := by omega
    have y4 : w.heap.size < wr.heap.size + 1 + 1 + 1 + 1 := by omega
    have x4 : b < wr.heap.size + 1 + 1 + 1 + 1 := by omega
    clear hown hs
    by_cases hlt : k < 3
    · have ck : wr.cell? ⟨b, off + (1 + k), none⟩ = some (.int .u64 ([l1, l2, l3].getD k 0)) := by rw [(bcell hbw).1 _ _ hb]; exact HC.out k hlt
      obtain ⟨xb0, xb1⟩ := HX3.out k hlt
      obtain ⟨x, hx⟩ : ∃ x, [l1, l2, l3].getD k 0 = x := ⟨_, rfl⟩
      rw [hx] at ck xb0 xb1
      have HX := Lib.hid hx
      clear hx hbw
      have j0 : (0 : Int) ≤ (k : Int) := by omega
      have j1 : (k : Int) < 3 := by omega
      by_cases kn : k < ncase l0
      · have t6 : decide (l0 / 256 % 16 ≤ (k : Int)) = false := by have := HN.out; simp; omega
        have HKN := Lib.hid kn
        clear kn
        cases ho : oneB x
        · have HE := Lib.hid (one_any x xb0 xb1)
          rw [ho] at HE
          clear ho
          go_wp2_with (go_at_call 38; (with_reducible refine (HE.out _).mono ?_); rintro e w1 ⟨rfl, rfl⟩)
          refine bodyPost_ret (v := .tuple #[.agg #[.int .i64 0, .int .i64 0, .int .i64 0, .bool false, .slice none 0 0], .int .i64 0, .bool false]) (by simp [results, Try.results24, go_sem, r0, r1, r2, r3, r4, z1, y1, y2]) rfl ⟨_, rfl, .inl ⟨rfl, _, _, rfl⟩, ?_⟩
          repeat' (first | with_reducible exact Below.refl _ _ | with_reducible refine Below.drew ?_ | with_reducible refine Below.alloc ?_ ?_ _ | with_reducible refine Below.setCell ?_ ?_ _ | (simp; done) | (simp; omega) | omega | exact HBW.out)
        · skip
          have HE := Lib.hid (one_any x xb0 xb1)
          rw [ho] at HE
          have HOB := Lib.hid ho
          clear ho
          have hno : v.ownBlock ≠ some (w.heap.size + 1) := fun e => by have := (HO.out.lt _ e).1; omega
          have hnb : v.ownBlock ≠ some b := fun e => by have := (HO.out.lt _ e).1; omega
          have hmin : min k (ncase l0) = k := Nat.min_eq_left (Nat.le_of_lt HKN.out)
          have HO2 := Lib.hid (hmin ▸ HO.out)
          clear hmin
          go_wp2_with (first | (go_at_call 38; (with_reducible refine (HE.out _).mono ?_); rintro e w1 ⟨rfl, rfl⟩) | (at_builtin; refine wpList_append_lies _ rfl _ _ _ rfl (w.heap.size + 1 + 1) 52 i0 _ 3 24 Try.underlying35 HI.out.1 HI.out.2.1 HI.out.2.2.1 HI.out.2.2.2 rfl (by omega) v k (flat3 F k) rfl ((((HO2.out.alloc _).alloc _).alloc _).alloc _) ⟨wr.heap.size + 1 + 1 + 1, 0, none⟩ 1 1 [.int .i64 (x % 256), .int .i64 (x / 256 % 65536), .int .i64 (x / 4294967296)] rfl rfl (World.news_of_block (cs := #[.int .i64 (x % 256), .int .i64 (x / 256 % 65536), .int .i64 (x / 4294967296)]) (t := 52) (fr := (0, 0)) (heap_new4 wr _ _ _ _)) (by simp [Value.oneCell']) (by omega) (by unfold maxLen; omega) (by omega) (by simp; omega) (wr.heap.size + 1 + 1 + 1 + 1) (by simp) ?_; intro gg cap' w1 hown1 hgrow hat hlt'; have hgr4 := (World.grownBy_alloc wr _ v.ownBlock).trans ((World.grownBy_alloc _ _ _).trans ((World.grownBy_alloc _ _ _).trans ((World.grownBy_alloc _ _ _).trans hgrow))); have tc := (hgr4.cell_far ⟨w.heap.size + 1, 4, none⟩ z2 (Ne.symm hno)).trans hv; have tf := (hgr4.frozen_far ⟨w.heap.size + 1, 4, none⟩ z2 (Ne.symm hno)).trans qf; have hgl := (hown1.lt gg rfl).1; have tz : w.heap.size + 1 < w1.heap.size := Nat.lt_of_lt_of_le z2 hgr4.size; have HR1 := Lib.hid (RdBase.grown HB.out hgr4 (fun j hj => (HO.out.lt j hj).1)); have HO1 := Lib.hid hown1; clear hown1 hgr4 hgrow hat))
          go_roundw
          case rel => exact ⟨k + 1, by omega, by go_num, fun j hj => by
            rcases Nat.lt_succ_iff_lt_or_eq.1 hj with h | h
            · exact HS.out j h
            · rw [h, HX.out]; unfold chk; rw [if_pos HKN.out]; exact HOB.out, .slice (some ⟨gg, 0, none⟩) (k + 1) cap', HR1.out.store _, by go_simp, by
            rw [Nat.min_eq_left (show k + 1 ≤ ncase l0 from HKN.out), flat3, show F k = caseOf x by rw [← HFF.out]; exact congrArg caseOf HX.out]
            exact HO1.out.kept (Go.Lib.grownBy_setCell _ _ _ _) (.inr fun e => by injection e with e; have e' : gg = w.heap.size + 1 := e; omega)⟩
          case measure => simp [intOf]; omega
      · have t6 : decide (l0 / 256 % 16 ≤ (k : Int)) = true := by have := HN.out; simp; omega
        have HKN := Lib.hid kn
        clear kn
        by_cases hx0 : x = 0
        · subst hx0
          go_wp2
          go_roundw
          case rel => exact ⟨k + 1, by omega, by go_num, fun j hj => by
            rcases Nat.lt_succ_iff_lt_or_eq.1 hj with h | h
            · exact HS.out j h
            · rw [h, HX.out]; unfold chk; rw [if_neg HKN.out], v, HB.out, hv, by rw [show min (k + 1) (ncase l0) = min k (ncase l0) by have := HKN.out; omega]; exact HO.out⟩
          case measure => simp [intOf]; omega
        · have e0 : (x != 0) = true := by simp [hx0]
          clear hx0
          go_wp2
          refine bodyPost_ret (v := .tuple #[.agg #[.int .i64 0, .int .i64 0, .int .i64 0, .bool false, .slice none 0 0], .int .i64 0, .bool false]) (by simp [results, Try.results24, go_sem, r0, r1, r2, r3, r4]) rfl ⟨_, rfl, .inl ⟨rfl, _, _, rfl⟩, ?_⟩
          repeat' (first | with_reducible exact Below.refl _ _ | with_reducible refine Below.drew ?_ | with_reducible refine Below.alloc ?_ ?_ _ | with_reducible refine Below.setCell ?_ ?_ _ | (simp; done) | (simp; omega) | omega | exact HBW.out)
    · exact (HG.out fun j hj => HS.out j (by omega)).elim
end Go.Proofs.Ytcbdbpcibhjkjab
