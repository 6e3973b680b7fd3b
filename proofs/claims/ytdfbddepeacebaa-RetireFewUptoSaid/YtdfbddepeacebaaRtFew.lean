/- RetireFew over the seat's program: it answers true where what comes back has room. -/
import Derived.Test.YtdfbddepeacebaaRtFewP
import Derived.Deep.DeepCutAuto
import Derived.IntWalk
namespace Go.Proofs.Ytdfbddepeacebaa
open Go.ChangeShapes Go.WideShapes Go.ChangeAt Go.RowKit Go.Joins

theorem own_form2 {w : World} {B E s n : Nat} {v : Value} {xs : List Value} (h : w.ownsRow B E s v n xs) : (v = .slice none 0 0 ∧ n = 0) ∨ ∃ g cap, v = .slice (some ⟨g, 0, none⟩) n cap ∧ n ≤ cap := by
  rcases h.2 with ⟨hv, hn⟩ | ⟨g, cap, cur, rfl, _, _, hnc, _⟩
  · exact .inl ⟨hv, hn⟩
  · exact .inr ⟨g, cap, rfl, hnc⟩
theorem RowS.take {s : Nat} {w : World} {a : Option Addr} {n cap k : Nat} {f : Nat → Nat → Int} (h : RowS s w a n cap f) (hk : k ≤ n) : k ≤ cap := Nat.le_trans hk h.2.2.1
set_option maxRecDepth 100000 in
set_option maxHeartbeats 12800000 in
theorem few_walk (v : Value) (P : PV) (a : Option Addr) (n cap : Nat) (f : Nat → Int) (w : World) (h : PoolAt w v P) (hr : RowAt .u64 w a n cap f) (hf : Words64 f n) (hsum : (P.nf + P.no) * 16 ≤ 140737488355328) : Calls Try.prog 6 #[v, .slice a n cap] w fun e w' => e = .returned (.bool true) ∧ Below w.heap.size w w' := by
  have HP := Lib.hid (fun W hb => (h.below hb : PoolAt W v P))
  have HRW := Lib.hid (fun W hb => (hr.below hb : RowAt .u64 W a n cap f))
  have HS := Lib.hid hsum
  have HFF := Lib.hid hf
  have hn := hr.1
  obtain ⟨fa, fc, oa, oc, rfl, _, ho⟩ := h
  have hn2 := ho.1
  have HO := Lib.hid ho
  clear hr hf ho
  have HB0 := Lib.hid (show Below w.heap.size w (w.alloc (.cells #[.int .i64 P.i, .int .i64 P.t, .slice fa P.nf fc, .slice oa P.no oc, .int .i64 P.s] 27)) from (Below.refl _ _).alloc (Nat.le_refl _) _)
  have HX := Lib.hid (show Box (w.alloc (.cells #[.int .i64 P.i, .int .i64 P.t, .slice fa P.nf fc, .slice oa P.no oc, .int .i64 P.s] 27)) w.heap.size (.int .i64 P.i) (.int .i64 P.t) (.slice fa P.nf fc) (.slice oa P.no oc) (.int .i64 P.s) from Box.new w _)
  go_enter Try.func6, Try.ntmps6
  obtain ⟨c0, c1, c2, c3, c4, cf⟩ := HX.out
  clear cf
  go_wp2_with fail
  go_loopw [18] (fun i wr => ∃ k : Nat, k ≤ P.no ∧ i = .int .i64 k ∧ Box wr w.heap.size (.int .i64 P.i) (.int .i64 P.t) (.slice fa P.nf fc) (.slice oa P.no oc) (.int .i64 P.s) ∧ Below w.heap.size w wr ∧ w.heap.size < wr.heap.size ∧ Unlike P k) (fun i _ => P.no - (intOf i).toNat)
  case atStart => exact ⟨0, Nat.zero_le _, rfl, HX.out, HB0.out, by simp, unlike_zero P⟩
  case round =>
    clear c0 c1 c2 c3 c4 HX HB0
    obtain ⟨k, hk, rfl, hx, hb, hz, hu⟩ := hrel
    have HXk := Lib.hid hx
    have HBk := Lib.hid hb
    have HUN := Lib.hid hu
    obtain ⟨c0, c1, c2, c3, c4, cf⟩ := hx
    clear cf hb hu
    rcases Nat.lt_or_ge k P.no with hlt | hge
    · obtain ⟨b, off, hab, hbb, hcc⟩ := (HO.out.below HBk.out).get hlt
      have hoc := HO.out.take hk
      subst hab
      have x0 : wr.cell? ⟨b, off + k * 3, none⟩ = some (.int .i64 (P.fo k 0)) := by simpa using hcc k 0 hlt (by omega)
      have x1 := hcc k 1 hlt (by omega)
      have x2 := hcc k 2 hlt (by omega)
      have i0 : (0 : Int) ≤ (k : Int) := by omega
      have i1 : (k : Int) < (P.no : Int) := by omega
      have i2 : (k : Int) ≤ (oc : Int) := by omega
      have HAW := Lib.hid (show Below wr.heap.size wr ((wr.alloc (.cells #[.int .i64 (P.fo k 0), .int .i64 (P.fo k 1), .int .i64 (P.fo k 2)] 44)).alloc (.cells #[.int .i64 (P.fo k 0), .int .i64 (P.fo k 1)] 23)) from ((Below.refl _ _).alloc (Nat.le_refl _) _).alloc (by simp) _)
      have HBW := Lib.hid (HBk.out.trans (HAW.out.mono HBk.out.size))
      cases hgd : goodB (P.fo k 0) (P.fo k 1)
      · have HG := Lib.hid hgd
        clear hgd hcc
        go_wp2_with (first
          | (go_at_call 23; (with_reducible refine (rgood_no _ _ HG.out _).mono ?_); rintro e w3 ⟨rfl, rfl⟩)
          | (go_at_call 13; (with_reducible refine (awake_any _).mono ?_); rintro e w6 ⟨rfl, hb⟩; have HB6 := Lib.hid (HBW.out.trans (hb.mono HBW.out.size)); clear hb))
        go_ret
        exact ⟨rfl, HB6.out⟩
      · have HG := Lib.hid hgd
        have HCC := Lib.hid hcc
        clear hgd hcc
        go_wp2_with (go_at_call 23; (with_reducible refine (rgood_yes _ _ HG.out _).mono ?_); rintro e w3 ⟨rfl, rfl⟩)
        refine abstract_code (fun u => Box u w.heap.size (.int .i64 P.i) (.int .i64 P.t) (.slice fa P.nf fc) (.slice (some ⟨b, off, none⟩) P.no oc) (.int .i64 P.s) ∧ (u.cell? ⟨wr.heap.size, 0, none⟩ = some (.int .i64 (P.fo k 0)) ∧ u.cell? ⟨wr.heap.size, 1, none⟩ = some (.int .i64 (P.fo k 1))) ∧ Below wr.heap.size wr u ∧ wr.heap.size < u.heap.size) ⟨HXk.out.below hz HAW.out, ⟨by go_simp, by go_simp⟩, HAW.out, by simp; omega⟩ ?_
        rintro u ⟨hx, ⟨e0, e1⟩, hbu, hzu⟩
        clear c0 c1 c2 c3 c4 x0 x1 x2 HBW HAW
        have HXu := Lib.hid hx
        have HE := Lib.hid (And.intro e0 e1)
        have HBU := Lib.hid hbu
        obtain ⟨c0, c1, c2, c3, c4, cf⟩ := hx
        clear cf hbu e0 e1
        go_wp2_with fail
        obtain ⟨wo, hwo⟩ : ∃ wo : World, wo = wr := ⟨_, rfl⟩
        subst hwo
        go_loopw [33] (fun i w2 => ∃ j : Nat, j ≤ k ∧ i = .int .i64 j ∧ Box w2 w.heap.size (.int .i64 P.i) (.int .i64 P.t) (.slice fa P.nf fc) (.slice (some ⟨b, off, none⟩) P.no oc) (.int .i64 P.s) ∧ (w2.cell? ⟨wo.heap.size, 0, none⟩ = some (.int .i64 (P.fo k 0)) ∧ w2.cell? ⟨wo.heap.size, 1, none⟩ = some (.int .i64 (P.fo k 1))) ∧ Below wo.heap.size wo w2 ∧ wo.heap.size < w2.heap.size ∧ ∀ i, i < j → ¬ (P.fo i 0 = P.fo k 0 ∧ P.fo i 1 = P.fo k 1)) (fun i _ => k - (intOf i).toNat)
        case atStart => exact ⟨0, Nat.zero_le _, rfl, HXu.out, HE.out, HBU.out, hzu, fun i hi => absurd hi (by omega)⟩
        case round =>
          clear c0 c1 c2 c3 c4 HXu HE HBU hzu
          obtain ⟨j, hj, rfl, hx, ⟨e0, e1⟩, hb2, hz2, hun⟩ := hrel
          have HX2 := Lib.hid hx
          have HE2 := Lib.hid (And.intro e0 e1)
          have HB2 := Lib.hid hb2
          have HUJ := Lib.hid hun
          obtain ⟨c0, c1, c2, c3, c4, cf⟩ := hx
          clear cf hb2 hun
          by_cases hjk : j < k
          · have y0 := ((bcell HB2.out).1 _ _ hbb).trans (show wo.cell? ⟨b, off + j * 3, none⟩ = some (.int .i64 (P.fo j 0)) by simpa using HCC.out j 0 (by omega) (by omega))
            have y1 := ((bcell HB2.out).1 _ _ hbb).trans (HCC.out j 1 (by omega) (by omega))
            have y2 := ((bcell HB2.out).1 _ _ hbb).trans (HCC.out j 2 (by omega) (by omega))
            have j0 : (0 : Int) ≤ (j : Int) := by omega
            have j1 : (j : Int) < (k : Int) := by omega
            have HBE := Lib.hid ((HBk.out.trans (HB2.out.mono HBk.out.size)).alloc (by have := HBk.out.size; have := HB2.out.size; omega) (.cells #[.int .i64 (P.fo j 0), .int .i64 (P.fo j 1), .int .i64 (P.fo j 2)] 44))
            have HBR := Lib.hid (show Below wr.heap.size wr (wr.alloc (.cells #[.int .i64 (P.fo j 0), .int .i64 (P.fo j 1), .int .i64 (P.fo j 2)] 44)) from (Below.refl _ _).alloc (Nat.le_refl _) _)
            by_cases s0 : P.fo j 0 = P.fo k 0
            · by_cases s1 : P.fo j 1 = P.fo k 1
              · have n0 : (P.fo j 0 == P.fo k 0) = true := by simpa using s0
                have n1 : (P.fo j 1 == P.fo k 1) = true := by simpa using s1
                clear s0 s1
                go_wp2_with (go_at_call 13; (with_reducible refine (awake_any _).mono ?_); rintro e w6 ⟨rfl, hb⟩; have HB6 := Lib.hid (HBE.out.trans (hb.mono HBE.out.size)); clear hb)
                go_ret
                exact ⟨rfl, HB6.out⟩
              · have n0 : (P.fo j 0 == P.fo k 0) = true := by simpa using s0
                have n1 : (P.fo j 1 == P.fo k 1) = false := by simpa using s1
                have HN := Lib.hid (show ∀ i, i < j + 1 → ¬ (P.fo i 0 = P.fo k 0 ∧ P.fo i 1 = P.fo k 1) from fun i hi => by
                  by_cases e : i = j
                  · subst e; exact fun hh => s1 hh.2
                  · exact HUJ.out i (by omega))
                clear s0 s1
                go_wp2_with fail
                go_roundw
                case rel => exact ⟨j + 1, by omega, by go_num, HX2.out.below (by omega) HBR.out, ⟨((bcell HBR.out).1 _ _ hz2).trans HE2.out.1, ((bcell HBR.out).1 _ _ hz2).trans HE2.out.2⟩, HB2.out.trans (HBR.out.mono HB2.out.size), by simp; omega, HN.out⟩
                case measure => simp [intOf]; omega
            · have n0 : (P.fo j 0 == P.fo k 0) = false := by simpa using s0
              have HN := Lib.hid (show ∀ i, i < j + 1 → ¬ (P.fo i 0 = P.fo k 0 ∧ P.fo i 1 = P.fo k 1) from fun i hi => by
                by_cases e : i = j
                · subst e; exact fun hh => s0 hh.1
                · exact HUJ.out i (by omega))
              clear s0
              go_wp2_with fail
              go_roundw
              case rel => exact ⟨j + 1, by omega, by go_num, HX2.out.below (by omega) HBR.out, ⟨((bcell HBR.out).1 _ _ hz2).trans HE2.out.1, ((bcell HBR.out).1 _ _ hz2).trans HE2.out.2⟩, HB2.out.trans (HBR.out.mono HB2.out.size), by simp; omega, HN.out⟩
              case measure => simp [intOf]; omega
          · obtain rfl : j = k := by omega
            go_wp2_with fail
            go_roundw
            case rel => exact ⟨j + 1, by omega, by go_num, HX2.out, HBk.out.trans (HB2.out.mono HBk.out.size), by omega, unlike_succ HUN.out HG.out HUJ.out⟩
            case measure => simp [intOf]; omega
    · obtain rfl : k = P.no := by omega
      clear hge
      obtain ⟨R, hR⟩ : ∃ R, P.byS f n = R := ⟨_, rfl⟩
      have s1 : R.nf + R.no = P.nf + P.no := hR ▸ byS_sum P f n
      have s2 : R.no ≤ P.no := hR ▸ byS_no P f n
      have s3 : R.no ≤ mostN f n := hR ▸ byS_few P f n HUN.out
      have HFREE := Lib.hid (fun i (h1 : P.nf ≤ i) (h2 : i < R.nf) => show ∀ j, j < n → f j ≠ wordI (R.ff i 0) (R.ff i 1) from by
        have := byS_free P f n i h1 (by rw [hR]; exact h2)
        rw [hR] at this
        exact this)
      have HRB := Lib.hid (show R.nf * 16 ≤ 140737488355328 ∧ R.no * 24 ≤ 140737488355328 by have := HS.out; omega)
      have HBY := Lib.hid (show Calls Try.prog 14 #[.agg #[.int .i64 P.i, .int .i64 P.t, .slice fa P.nf fc, .slice oa P.no oc, .int .i64 P.s], .slice a n cap] wr (RetBack R ((P.no : Int) - R.no) wr) from hR ▸ byS_any _ P a n cap f HFF.out HS.out wr (HP.out _ HBk.out) (HRW.out _ HBk.out))
      clear hR HUN
      go_wp2_with fail
      refine HBY.out.mono ?_
      rintro e w2 ⟨f2, o2, rfl, ho, hb⟩
      have hv2 := ho.at HRB.out.1 HRB.out.2
      obtain ⟨a2, k2, rfl⟩ := own_form ho.1
      obtain ⟨b2, l2, rfl⟩ := own_form ho.2.1
      have HFORM := Lib.hid (own_form2 ho.1)
      have HV2 := Lib.hid hv2
      have HX2 := Lib.hid (HXk.out.below hz hb)
      have HB2 := Lib.hid (HBk.out.trans (hb.mono HBk.out.size))
      have z2' := hb.size
      clear hb ho hv2 HBY c0 c1 c2 c3 c4
      go_upto_region 14 with (fail)
      have hA : Below w2.heap.size w2 (w2.alloc (.cells #[.int .i64 R.i, .int .i64 R.t, .slice a2 R.nf k2, .slice b2 R.no l2, .int .i64 R.s] 27)) := (Below.refl _ _).alloc (Nat.le_refl _) _
      refine abstract_code (fun u => Box u w.heap.size (.int .i64 P.i) (.int .i64 P.t) (.slice fa P.nf fc) (.slice oa P.no oc) (.int .i64 P.s) ∧ Box u w2.heap.size (.int .i64 R.i) (.int .i64 R.t) (.slice a2 R.nf k2) (.slice b2 R.no l2) (.int .i64 R.s) ∧ PoolAt u (.agg #[.int .i64 R.i, .int .i64 R.t, .slice a2 R.nf k2, .slice b2 R.no l2, .int .i64 R.s]) R ∧ Below w.heap.size w u ∧ w.heap.size < w2.heap.size ∧ w2.heap.size < u.heap.size) ⟨HX2.out.below (by omega) hA, Box.new w2 _, HV2.out.below hA, HB2.out.trans (hA.mono HB2.out.size), by omega, by simp⟩ ?_
      clear hA HX2 HV2 HB2 z2' HXk HBk hz
      rintro u ⟨hx, hy, hv, hb, y0, z2⟩
      have HV := Lib.hid hv
      have HU0 := Lib.hid hb
      have z0 : w.heap.size < u.heap.size := by omega
      clear hv hb
      generalize w2.heap.size = q2 at *
      obtain ⟨c0, c1, c2, c3, c4, cf⟩ := hx
      obtain ⟨c5, c6, c7, c8, c9, df⟩ := hy
      clear cf df
      have e1 : decide ((mostN f n : Int) < (R.no : Int)) = false := by simp; omega
      have e1' : decide (mostN f n < R.no) = false := by simp; omega
      have e2 : IntKind.i64.wrap ((R.no : Int) + ((P.no : Int) - (R.no : Int))) = (P.no : Int) := by rw [show (R.no : Int) + ((P.no : Int) - (R.no : Int)) = P.no by omega]; exact IntWalk.i64_in _ (by have := HRB.out; omega)
      have e3 : IntKind.i64.wrap ((P.nf : Int) + ((P.no : Int) - (R.no : Int))) = (R.nf : Int) := by rw [show (P.nf : Int) + ((P.no : Int) - (R.no : Int)) = R.nf by omega]; exact IntWalk.i64_in _ (by have := HRB.out; omega)
      have HSM := Lib.hid (And.intro s1 s2)
      clear s1 s2 s3
      go_region_held3 (fun W => W.cell? ⟨w.heap.size, 0, none⟩ = some (.int .i64 P.i) ∧ W.cell? ⟨w.heap.size, 1, none⟩ = some (.int .i64 P.t) ∧ W.cell? ⟨w.heap.size, 2, none⟩ = some (.slice fa P.nf fc) ∧ W.cell? ⟨w.heap.size, 3, none⟩ = some (.slice oa P.no oc) ∧ W.cell? ⟨w.heap.size, 4, none⟩ = some (.int .i64 P.s) ∧ W.cell? ⟨q2, 0, none⟩ = some (.int .i64 R.i) ∧ W.cell? ⟨q2, 1, none⟩ = some (.int .i64 R.t) ∧ W.cell? ⟨q2, 2, none⟩ = some (.slice a2 R.nf k2) ∧ W.cell? ⟨q2, 3, none⟩ = some (.slice b2 R.no l2) ∧ W.cell? ⟨q2, 4, none⟩ = some (.int .i64 R.s))
        (first | with_reducible exact ⟨c0, c1, c2, c3, c4, c5, c6, c7, c8, c9⟩ | (go_simp; done) | go_keep)
        ((go_at_call 21; (with_reducible refine (most_any a n cap f HFF.out _ (HRW.out _ ?_)).mono ?_); (first | (with_reducible refine Below.drew ?_; with_reducible exact HU0.out) | with_reducible exact HU0.out); rintro e w3 ⟨rfl, hb⟩; have HB3 := Lib.hid (show Below u.heap.size u w3 from below_next (by with_reducible refine Below.drew ?_; with_reducible exact Below.refl _ _) hb); have c0 := ((bcell HB3.out).1 _ _ z0).trans c0; have c1 := ((bcell HB3.out).1 _ _ z0).trans c1; have c2 := ((bcell HB3.out).1 _ _ z0).trans c2; have c3 := ((bcell HB3.out).1 _ _ z0).trans c3; have c4 := ((bcell HB3.out).1 _ _ z0).trans c4; have c5 := ((bcell HB3.out).1 _ _ z2).trans c5; have c6 := ((bcell HB3.out).1 _ _ z2).trans c6; have c7 := ((bcell HB3.out).1 _ _ z2).trans c7; have c8 := ((bcell HB3.out).1 _ _ z2).trans c8; have c9 := ((bcell HB3.out).1 _ _ z2).trans c9; have z0 := Nat.lt_of_lt_of_le z0 HB3.out.size; have z2 := Nat.lt_of_lt_of_le z2 HB3.out.size; have HU3 := Lib.hid (HU0.out.trans (HB3.out.mono HU0.out.size)); clear hb))
      clear e1 e1' e2 e3
      obtain ⟨_, _, _, _, hv, hrf, _⟩ := HV.out
      simp only [Value.agg.injEq] at hv
      have ev := congrArg (fun x => x[2]?) hv
      simp at ev
      obtain ⟨rfl, rfl⟩ := ev
      have HRF := Lib.hid (hrf.below HB3.out)
      have hnk := hrf.2.2.1
      have hsm := HSM.out
      clear hv hrf HB3 HV HU0
      go_upto_region 16 with (fail)
      by_cases hk2 : k2 = P.nf
      · have hRn : R.nf = P.nf := by omega
        obtain ⟨ri, rt, rnf, rff, rno, rfo, rs⟩ := R
        dsimp only at *
        subst hk2 hRn
        go_wp2_with fail
        go_loopw [86] (fun i wr => i = .int .i64 0 ∧ Below w.heap.size w wr) (fun _ _ => 0)
        case atStart => exact ⟨rfl, HU3.out⟩
        case round =>
          obtain ⟨rfl, hb⟩ := hrel
          have HBr := Lib.hid hb
          clear hb
          go_wp2_with (go_at_call 13; (with_reducible refine (awake_any _).mono ?_); rintro e w6 ⟨rfl, hb⟩; have HB6 := Lib.hid (HBr.out.trans (hb.mono HBr.out.size)); clear hb)
          go_ret
          exact ⟨rfl, HB6.out⟩
      · have hk3 : P.nf < k2 := by omega
        rcases HFORM.out with ⟨hq, _⟩ | ⟨g, cc, hq, _⟩
        · simp only [Value.slice.injEq] at hq
          omega
        · simp only [Value.slice.injEq] at hq
          obtain ⟨rfl, _, rfl⟩ := hq
          go_wp2_with fail
          clear c0 c1 c2 c3 c4 c5 c6 c7 c8 c9
          go_loopw [86] (fun i wr => ∃ j : Nat, P.nf + j ≤ R.nf ∧ i = .int .i64 j ∧ Below w3.heap.size w3 wr) (fun i _ => R.nf - P.nf - (intOf i).toNat)
          case atStart => exact ⟨0, by omega, rfl, Below.refl _ _⟩
          case round =>
            obtain ⟨j, hj, rfl, hb⟩ := hrel
            have HBj := Lib.hid hb
            clear hb
            by_cases hjk : P.nf + j < R.nf
            · obtain ⟨b, off, hab, hbb, hcc⟩ := HRF.out.get hjk
              simp only [Option.some.injEq, Addr.mk.injEq] at hab
              obtain ⟨rfl, rfl, _⟩ := hab
              have x0 := ((bcell HBj.out).1 _ _ hbb).trans (show w3.cell? ⟨g, P.nf * 2 + j * 2, none⟩ = some (.int .i64 (R.ff (P.nf + j) 0)) by simpa [Nat.add_mul] using hcc (P.nf + j) 0 hjk (by omega))
              have x1 := ((bcell HBj.out).1 _ _ hbb).trans (show w3.cell? ⟨g, P.nf * 2 + j * 2 + 1, none⟩ = some (.int .i64 (R.ff (P.nf + j) 1)) by simpa [Nat.add_mul] using hcc (P.nf + j) 1 hjk (by omega))
              have HNO := Lib.hid (HFREE.out (P.nf + j) (by omega) hjk)
              generalize R.ff (P.nf + j) 0 = r0 at *
              generalize R.ff (P.nf + j) 1 = r1 at *
              have j0 : (0 : Int) ≤ (j : Int) := by omega
              have j1 : (j : Int) < ((R.nf - P.nf : Nat) : Int) := by omega
              clear hcc
              go_wp2_with fail
              obtain ⟨wo, hwo⟩ : ∃ wo : World, wo = wr := ⟨_, rfl⟩
              subst hwo
              go_loopw [92] (fun i w2 => ∃ q : Nat, q ≤ n ∧ i = .int .i64 q ∧ (w2.cell? ⟨wo.heap.size, 0, none⟩ = some (.int .i64 r0) ∧ w2.cell? ⟨wo.heap.size, 1, none⟩ = some (.int .i64 r1)) ∧ Below wo.heap.size wo w2 ∧ wo.heap.size < w2.heap.size) (fun i _ => n - (intOf i).toNat)
              case atStart => exact ⟨0, Nat.zero_le _, rfl, ⟨by go_simp, by go_simp⟩, (Below.refl _ _).alloc (Nat.le_refl _) _, by simp⟩
              case round =>
                clear x0 x1
                obtain ⟨q, hq, rfl, ⟨e0, e1⟩, hb2, hz2⟩ := hrel
                have HE2 := Lib.hid (And.intro e0 e1)
                have HB2 := Lib.hid hb2
                clear hb2
                by_cases hqn : q < n
                · obtain ⟨b3, off3, hab3, _, hcc3⟩ := ((HRW.out _ HU3.out).below (HBj.out.trans (HB2.out.mono HBj.out.size))).get hqn
                  subst hab3
                  have y0 := hcc3 q hqn
                  have q0 : (0 : Int) ≤ (q : Int) := by omega
                  have q1 : (q : Int) < (n : Int) := by omega
                  have hne : (f q == wordI r0 r1) = false := by simpa using HNO.out q hqn
                  clear hcc3
                  go_wp2_with (go_at_call 24; (with_reducible refine (rword_any _ _ _).mono ?_); rintro e w6 ⟨rfl, hb⟩; have HB6 := Lib.hid hb; clear hb)
                  go_roundw
                  case rel => exact ⟨q + 1, by omega, by go_num, ⟨((bcell HB6.out).1 _ _ hz2).trans HE2.out.1, ((bcell HB6.out).1 _ _ hz2).trans HE2.out.2⟩, HB2.out.trans (HB6.out.mono HB2.out.size), Nat.lt_of_lt_of_le hz2 HB6.out.size⟩
                  case measure => simp [intOf]; omega
                · obtain rfl : q = n := by omega
                  go_wp2_with fail
                  go_roundw
                  case rel => exact ⟨j + 1, by omega, by go_num, HBj.out.trans (HB2.out.mono HBj.out.size)⟩
                  case measure => simp [intOf]; omega
            · obtain rfl : j = R.nf - P.nf := by omega
              go_wp2_with (go_at_call 13; (with_reducible refine (awake_any _).mono ?_); rintro e w6 ⟨rfl, hb⟩; have HB6 := Lib.hid ((HU3.out.trans (HBj.out.mono HU3.out.size)).trans (hb.mono (HU3.out.trans (HBj.out.mono HU3.out.size)).size)); clear hb)
              go_ret
              exact ⟨rfl, HB6.out⟩
end Go.Proofs.Ytdfbddepeacebaa
