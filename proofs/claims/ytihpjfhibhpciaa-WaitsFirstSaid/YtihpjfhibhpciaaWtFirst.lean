/- The walk of WaitsFirst over the seat's program. -/
import Derived.Test.YtihpjfhibhpciaaWtQ
namespace Go.Proofs.Ytihpjfhibhpciaa
open Go.ChangeShapes Go.WideShapes Go.ChangeAt Go.RowKit Go.Joins

set_option maxRecDepth 100000 in
set_option maxHeartbeats 3200000 in
theorem first_walk (a : Option Addr) (n cap : Nat) (V : Nat → WV) (dir hd : Int) (W : World) (h : WaitsAt W a n cap V) : Calls Try.prog 6 #[.slice a n cap, .int .i64 dir, .int .i64 hd] W fun e w' => e = .returned (.bool true) ∧ Below W.heap.size W w' := by
  have hn := h.1
  have HS := Lib.hid h
  clear h
  go_enter Try.func6, Try.ntmps6
  go_upto_region 2 with (go_at_call 21; (with_reducible refine (first_any _ _ _ _ _ _ _ HS.out).mono ?_); rintro e w1 ⟨⟨t, wh, ok, rfl, hf⟩, hb⟩; have HF := Lib.hid hf; have HB1 := Lib.hid hb; have HS1 := Lib.hid (HS.out.below hb); clear hf hb)
  cases ok with
  | false =>
    obtain ⟨rfl, rfl, hM⟩ : t = 0 ∧ wh = 0 ∧ ∀ i, i < n → ¬ Fit V dir hd i := by
      rcases HF.out with ⟨_, h1, h2, h3⟩ | ⟨h, _⟩
      · exact ⟨h1, h2, h3⟩
      · exact absurd h (by decide)
    have HM := Lib.hid hM
    clear HF HS hM
    go_wp2
    go_loopw [24] (fun iv wr => ∃ k : Nat, k ≤ n ∧ iv = .int .i64 k ∧ Below w1.heap.size w1 wr) (fun iv _ => n - (intOf iv).toNat)
    case atStart => exact ⟨0, Nat.zero_le _, rfl, Below.refl _ _⟩
    case round =>
      obtain ⟨k, hk, rfl, hb⟩ := hrel
      have HB := Lib.hid hb
      have HR := Lib.hid (HS1.out.below hb)
      clear hb
      by_cases hlt : k < n
      · obtain ⟨b, off, rfl, zb, hc⟩ := HR.out.get hlt
        obtain ⟨ca, cc, x0, x1, x2, x3, hr⟩ := hc k hlt
        have i0 : (0 : Int) ≤ (k : Int) := by omega
        have i1 : (k : Int) < (n : Int) := by omega
        have hmk : (V k).m * 24 ≤ 140737488355328 := by have := hr.1; omega
        have HA := Lib.hid ((Below.refl wr.heap.size wr).alloc (Nat.le_refl _) (.cells #[.bool (V k).on, .int .i64 (V k).tk, .int .i64 (V k).sq, .slice ca (V k).m cc] 25))
        have HCC := Lib.hid (hr.below HA.out)
        have zq : wr.heap.size < (wr.alloc (.cells #[.bool (V k).on, .int .i64 (V k).tk, .int .i64 (V k).sq, .slice ca (V k).m cc] 25)).heap.size := by simp
        have p0 : (wr.alloc (.cells #[.bool (V k).on, .int .i64 (V k).tk, .int .i64 (V k).sq, .slice ca (V k).m cc] 25)).cell? ⟨wr.heap.size, 0, none⟩ = some (.bool (V k).on) := by simp
        have p1 : (wr.alloc (.cells #[.bool (V k).on, .int .i64 (V k).tk, .int .i64 (V k).sq, .slice ca (V k).m cc] 25)).cell? ⟨wr.heap.size, 1, none⟩ = some (.int .i64 (V k).tk) := by simp
        have p2 : (wr.alloc (.cells #[.bool (V k).on, .int .i64 (V k).tk, .int .i64 (V k).sq, .slice ca (V k).m cc] 25)).cell? ⟨wr.heap.size, 2, none⟩ = some (.int .i64 (V k).sq) := by simp
        have p3 : (wr.alloc (.cells #[.bool (V k).on, .int .i64 (V k).tk, .int .i64 (V k).sq, .slice ca (V k).m cc] 25)).cell? ⟨wr.heap.size, 3, none⟩ = some (.slice ca (V k).m cc) := by simp
        clear hc hr
        go_wp2
        go_loopw [31] (fun iv wr2 => ∃ j : Nat, j ≤ (V k).m ∧ iv = .int .i64 j ∧ Below (wr.alloc (.cells #[.bool (V k).on, .int .i64 (V k).tk, .int .i64 (V k).sq, .slice ca (V k).m cc] 25)).heap.size (wr.alloc (.cells #[.bool (V k).on, .int .i64 (V k).tk, .int .i64 (V k).sq, .slice ca (V k).m cc] 25)) wr2) (fun iv _ => (V k).m - (intOf iv).toNat)
        case atStart => exact ⟨0, Nat.zero_le _, rfl, Below.refl _ _⟩
        case round =>
          obtain ⟨j, hj, rfl, hb2⟩ := hrel
          have HB2 := Lib.hid hb2
          have q0 := ((bcell hb2).1 _ _ zq).trans p0
          have q1 := ((bcell hb2).1 _ _ zq).trans p1
          have q2 := ((bcell hb2).1 _ _ zq).trans p2
          have q3 := ((bcell hb2).1 _ _ zq).trans p3
          have HRC := Lib.hid (HCC.out.below hb2)
          have zq2 := Nat.lt_of_lt_of_le zq hb2.size
          clear hb2
          by_cases hjl : j < (V k).m
          · obtain ⟨cb, coff, rfl, zcb, hcc⟩ := HRC.out.get hjl
            have z0 := hcc j 0 hjl (by omega)
            have z1 := hcc j 1 hjl (by omega)
            have z2 := hcc j 2 hjl (by omega)
            rw [Nat.add_zero] at z0
            have j0 : (0 : Int) ≤ (j : Int) := by omega
            have j1 : (j : Int) < ((V k).m : Int) := by omega
            clear hcc
            by_cases hon : (V k).on = true
            · by_cases e1 : (V k).c j 0 = dir
              · by_cases e2 : (V k).c j 1 = hd
                · have hfit : Fit V dir hd k := ⟨hon, j, hjl, e1, e2⟩
                  exact absurd hfit (HM.out k hlt)
                · have b1 : ((V k).c j 0 == dir) = true := by simpa using e1
                  have b2 : ((V k).c j 1 == hd) = false := by simpa using e2
                  rw [hon] at q0
                  clear e1 e2
                  go_wp2
                  go_quiet (fail)
                  go_wp2
                  go_roundw
                  case rel => exact ⟨j + 1, by omega, by go_num, HB2.out.trans ((below_drewN ((Below.refl _ _).alloc (Nat.le_refl _) (.cells #[.int .i64 ((V k).c j 0), .int .i64 ((V k).c j 1), .int .i64 ((V k).c j 2)] 41)) _).mono HB2.out.size)⟩
                  case measure => simp [intOf]; omega
              · have b1 : ((V k).c j 0 == dir) = false := by simpa using e1
                rw [hon] at q0
                clear e1
                go_wp2
                go_quiet (fail)
                go_wp2
                go_roundw
                case rel => exact ⟨j + 1, by omega, by go_num, HB2.out.trans ((below_drewN ((Below.refl _ _).alloc (Nat.le_refl _) (.cells #[.int .i64 ((V k).c j 0), .int .i64 ((V k).c j 1), .int .i64 ((V k).c j 2)] 41)) _).mono HB2.out.size)⟩
                case measure => simp [intOf]; omega
            · have hoff : (V k).on = false := by simpa using hon
              rw [hoff] at q0
              clear hon
              go_wp2
              go_quiet (fail)
              go_wp2
              go_roundw
              case rel => exact ⟨j + 1, by omega, by go_num, HB2.out.trans ((below_drewN ((Below.refl _ _).alloc (Nat.le_refl _) (.cells #[.int .i64 ((V k).c j 0), .int .i64 ((V k).c j 1), .int .i64 ((V k).c j 2)] 41)) _).mono HB2.out.size)⟩
              case measure => simp [intOf]; omega
          · obtain rfl : j = (V k).m := by omega
            go_wp2
            go_roundw
            case rel => exact ⟨k + 1, by omega, by go_num, HB.out.trans ((HA.out.trans (HB2.out.mono HA.out.size)).mono HB.out.size)⟩
            case measure => simp [intOf]; omega
      · obtain rfl : k = n := by omega
        go_wp2_with (go_at_call 20; (with_reducible refine (awake_any _).mono ?_); rintro e w6 ⟨rfl, hb⟩; have HB6 := Lib.hid (HB1.out.trans ((HB.out.trans (hb.mono HB.out.size)).mono HB1.out.size)); clear hb)
        go_ret
        exact ⟨rfl, HB6.out⟩
  | true =>
    obtain ⟨i, hi, rfl, hion, ⟨wj, hwj, rfl, ⟨hw1, hw2⟩, _⟩, hM⟩ : ∃ i : Nat, i < n ∧ t = (i : Int) ∧ (V i).on = true ∧ (∃ j : Nat, j < (V i).m ∧ wh = (j : Int) ∧ Hit (V i).c dir hd j ∧ ∀ j', j' < j → ¬ Hit (V i).c dir hd j') ∧ ∀ i', i' < n → Fit V dir hd i' → (V i).tk < (V i').tk ∨ ((V i).tk = (V i').tk ∧ i ≤ i') := by
      rcases HF.out with ⟨h, _⟩ | ⟨_, h⟩
      · exact absurd h (by decide)
      · exact h
    have HM := Lib.hid hM
    have HW := Lib.hid (And.intro hw1 hw2)
    have HON := Lib.hid hion
    have t0 : (0 : Int) ≤ (i : Int) := by omega
    have t1 : (i : Int) < (n : Int) := by omega
    clear HF HS hM hw1 hw2 hion
    go_wp2
    go_loopw [24] (fun iv wr => ∃ k : Nat, k ≤ n ∧ iv = .int .i64 k ∧ Below w1.heap.size w1 wr) (fun iv _ => n - (intOf iv).toNat)
    case atStart => exact ⟨0, Nat.zero_le _, rfl, Below.refl _ _⟩
    case round =>
      obtain ⟨k, hk, rfl, hb⟩ := hrel
      have HB := Lib.hid hb
      have HR := Lib.hid (HS1.out.below hb)
      clear hb
      by_cases hlt : k < n
      · obtain ⟨b, off, rfl, zb, hc⟩ := HR.out.get hlt
        obtain ⟨ca, cc, x0, x1, x2, x3, hr⟩ := hc k hlt
        have i0 : (0 : Int) ≤ (k : Int) := by omega
        have i1 : (k : Int) < (n : Int) := by omega
        have hmk : (V k).m * 24 ≤ 140737488355328 := by have := hr.1; omega
        have HA := Lib.hid ((Below.refl wr.heap.size wr).alloc (Nat.le_refl _) (.cells #[.bool (V k).on, .int .i64 (V k).tk, .int .i64 (V k).sq, .slice ca (V k).m cc] 25))
        have HCC := Lib.hid (hr.below HA.out)
        have zq : wr.heap.size < (wr.alloc (.cells #[.bool (V k).on, .int .i64 (V k).tk, .int .i64 (V k).sq, .slice ca (V k).m cc] 25)).heap.size := by simp
        have p0 : (wr.alloc (.cells #[.bool (V k).on, .int .i64 (V k).tk, .int .i64 (V k).sq, .slice ca (V k).m cc] 25)).cell? ⟨wr.heap.size, 0, none⟩ = some (.bool (V k).on) := by simp
        have p1 : (wr.alloc (.cells #[.bool (V k).on, .int .i64 (V k).tk, .int .i64 (V k).sq, .slice ca (V k).m cc] 25)).cell? ⟨wr.heap.size, 1, none⟩ = some (.int .i64 (V k).tk) := by simp
        have p2 : (wr.alloc (.cells #[.bool (V k).on, .int .i64 (V k).tk, .int .i64 (V k).sq, .slice ca (V k).m cc] 25)).cell? ⟨wr.heap.size, 2, none⟩ = some (.int .i64 (V k).sq) := by simp
        have p3 : (wr.alloc (.cells #[.bool (V k).on, .int .i64 (V k).tk, .int .i64 (V k).sq, .slice ca (V k).m cc] 25)).cell? ⟨wr.heap.size, 3, none⟩ = some (.slice ca (V k).m cc) := by simp
        clear hc hr
        go_wp2
        go_loopw [31] (fun iv wr2 => ∃ j : Nat, j ≤ (V k).m ∧ iv = .int .i64 j ∧ Below (wr.alloc (.cells #[.bool (V k).on, .int .i64 (V k).tk, .int .i64 (V k).sq, .slice ca (V k).m cc] 25)).heap.size (wr.alloc (.cells #[.bool (V k).on, .int .i64 (V k).tk, .int .i64 (V k).sq, .slice ca (V k).m cc] 25)) wr2) (fun iv _ => (V k).m - (intOf iv).toNat)
        case atStart => exact ⟨0, Nat.zero_le _, rfl, Below.refl _ _⟩
        case round =>
          obtain ⟨j, hj, rfl, hb2⟩ := hrel
          have HB2 := Lib.hid hb2
          have q0 := ((bcell hb2).1 _ _ zq).trans p0
          have q1 := ((bcell hb2).1 _ _ zq).trans p1
          have q2 := ((bcell hb2).1 _ _ zq).trans p2
          have q3 := ((bcell hb2).1 _ _ zq).trans p3
          have HRC := Lib.hid (HCC.out.below hb2)
          have zq2 := Nat.lt_of_lt_of_le zq hb2.size
          obtain ⟨ta, to, tae, ztb, htc⟩ := (HS1.out.below (HB.out.trans ((HA.out.trans (HB2.out.mono HA.out.size)).mono HB.out.size))).get hi
          simp only [Option.some.injEq, Addr.mk.injEq, and_true] at tae
          obtain ⟨rfl, rfl⟩ := tae
          obtain ⟨_, _, _, y1, _, _, _⟩ := htc i hi
          clear htc
          clear hb2
          by_cases hjl : j < (V k).m
          · obtain ⟨cb, coff, rfl, zcb, hcc⟩ := HRC.out.get hjl
            have z0 := hcc j 0 hjl (by omega)
            have z1 := hcc j 1 hjl (by omega)
            have z2 := hcc j 2 hjl (by omega)
            rw [Nat.add_zero] at z0
            have j0 : (0 : Int) ≤ (j : Int) := by omega
            have j1 : (j : Int) < ((V k).m : Int) := by omega
            clear hcc
            by_cases hon : (V k).on = true
            · by_cases e1 : (V k).c j 0 = dir
              · by_cases e2 : (V k).c j 1 = hd
                · have hfit : Fit V dir hd k := ⟨hon, j, hjl, e1, e2⟩
                  have b1 : ((V k).c j 0 == dir) = true := by simpa using e1
                  have b2 : ((V k).c j 1 == hd) = true := by simpa using e2
                  have hge : (V i).tk ≤ (V k).tk := by rcases HM.out k hlt hfit with h | h <;> omega
                  have hge2 : ¬ (V k).tk < (V i).tk := by omega
                  rw [hon] at q0
                  clear e1 e2 hfit hon
                  go_wp2
                  go_quiet (fail)
                  go_wp2
                  go_roundw
                  case rel => exact ⟨j + 1, by omega, by go_num, HB2.out.trans ((below_drewN ((Below.refl _ _).alloc (Nat.le_refl _) (.cells #[.int .i64 ((V k).c j 0), .int .i64 ((V k).c j 1), .int .i64 ((V k).c j 2)] 41)) _).mono HB2.out.size)⟩
                  case measure => simp [intOf]; omega
                · have b1 : ((V k).c j 0 == dir) = true := by simpa using e1
                  have b2 : ((V k).c j 1 == hd) = false := by simpa using e2
                  rw [hon] at q0
                  clear e1 e2
                  go_wp2
                  go_quiet (fail)
                  go_wp2
                  go_roundw
                  case rel => exact ⟨j + 1, by omega, by go_num, HB2.out.trans ((below_drewN ((Below.refl _ _).alloc (Nat.le_refl _) (.cells #[.int .i64 ((V k).c j 0), .int .i64 ((V k).c j 1), .int .i64 ((V k).c j 2)] 41)) _).mono HB2.out.size)⟩
                  case measure => simp [intOf]; omega
              · have b1 : ((V k).c j 0 == dir) = false := by simpa using e1
                rw [hon] at q0
                clear e1
                go_wp2
                go_quiet (fail)
                go_wp2
                go_roundw
                case rel => exact ⟨j + 1, by omega, by go_num, HB2.out.trans ((below_drewN ((Below.refl _ _).alloc (Nat.le_refl _) (.cells #[.int .i64 ((V k).c j 0), .int .i64 ((V k).c j 1), .int .i64 ((V k).c j 2)] 41)) _).mono HB2.out.size)⟩
                case measure => simp [intOf]; omega
            · have hoff : (V k).on = false := by simpa using hon
              rw [hoff] at q0
              clear hon
              go_wp2
              go_quiet (fail)
              go_wp2
              go_roundw
              case rel => exact ⟨j + 1, by omega, by go_num, HB2.out.trans ((below_drewN ((Below.refl _ _).alloc (Nat.le_refl _) (.cells #[.int .i64 ((V k).c j 0), .int .i64 ((V k).c j 1), .int .i64 ((V k).c j 2)] 41)) _).mono HB2.out.size)⟩
              case measure => simp [intOf]; omega
          · obtain rfl : j = (V k).m := by omega
            go_wp2
            go_roundw
            case rel => exact ⟨k + 1, by omega, by go_num, HB.out.trans ((HA.out.trans (HB2.out.mono HA.out.size)).mono HB.out.size)⟩
            case measure => simp [intOf]; omega
      · obtain rfl : k = n := by omega
        obtain ⟨b, off, rfl, zb, hc⟩ := HR.out.get hi
        obtain ⟨ca, cc, x0, x1, x2, x3, hr⟩ := hc i hi
        obtain ⟨cb, coff, rfl, zcb, hcc⟩ := hr.get hwj
        have z0 : wr.cell? ⟨cb, coff + wj * 3, none⟩ = some (.int .i64 dir) := by rw [show dir = (V i).c wj 0 from HW.out.1.symm]; exact hcc wj 0 hwj (by omega)
        have z1 : wr.cell? ⟨cb, coff + wj * 3 + 1, none⟩ = some (.int .i64 hd) := by rw [show hd = (V i).c wj 1 from HW.out.2.symm]; exact hcc wj 1 hwj (by omega)
        have s0 : (0 : Int) ≤ (wj : Int) := by omega
        have s1 : (wj : Int) < ((V i).m : Int) := by omega
        have b1 : (dir == dir) = true := by simp
        have b2 : (hd == hd) = true := by simp
        rw [HON.out] at x0
        clear hc hr hcc
        go_wp2_with (go_at_call 20; (with_reducible refine (awake_any _).mono ?_); rintro e w6 ⟨rfl, hb⟩; have HB6 := Lib.hid (HB1.out.trans ((HB.out.trans (hb.mono HB.out.size)).mono HB1.out.size)); clear hb)
        go_ret
        exact ⟨rfl, HB6.out⟩
end Go.Proofs.Ytihpjfhibhpciaa
