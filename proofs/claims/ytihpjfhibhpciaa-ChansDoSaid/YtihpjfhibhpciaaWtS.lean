/- The contracts of the reference's place, zero and First, over the seat's program. -/
import Derived.Test.YtihpjfhibhpciaaWtP
namespace Go.Proofs.Ytihpjfhibhpciaa
open Go.ChangeShapes Go.WideShapes Go.ChangeAt Go.RowKit Go.Joins

/-- Whether a case is by a handle, and of a direction (0: any). -/
def HitP (f : Nat → Nat → Int) (d hd : Int) (i : Nat) : Prop := f i 1 = hd ∧ (d = 0 ∨ f i 0 = d)
/-- The place of the first case that .. -/
def PlaceIs (U : WV) (P : Nat → Prop) (r : Int) : Prop := (r = -1 ∧ ∀ i, i < U.m → ¬ (U.on = true ∧ P i)) ∨ ∃ i : Nat, i < U.m ∧ r = (i : Int) ∧ U.on = true ∧ P i ∧ ∀ j, j < i → ¬ (U.on = true ∧ P j)
set_option maxRecDepth 100000 in
set_option maxHeartbeats 3200000 in
theorem place_some (U : WV) (ua : Option Addr) (uc : Nat) (d hd : Int) (hd0 : ¬ d = 0) (w : World) (h : RowS 3 w ua U.m uc U.c) : Calls Try.prog 60 #[.agg #[.bool U.on, .int .i64 U.tk, .int .i64 U.sq, .slice ua U.m uc], .int .i64 d, .int .i64 hd] w fun e w' => (∃ r, e = .returned (.int .i64 r) ∧ PlaceIs U (HitP U.c d hd) r) ∧ Below w.heap.size w w' := by
  have HA := Lib.hid ((Below.refl w.heap.size w).alloc (Nat.le_refl _) (.cells #[.bool U.on, .int .i64 U.tk, .int .i64 U.sq, .slice ua U.m uc] 25))
  have HUR := Lib.hid (h.below HA.out)
  have hm := h.1
  clear h
  go_enter Try.func60, Try.ntmps60
  have bd : (d == 0) = false := by simpa using hd0
  go_upto_region 1 with (fail)
  revert HA HUR
  have zq : w.heap.size < (w.alloc (.cells #[.bool U.on, .int .i64 U.tk, .int .i64 U.sq, .slice ua U.m uc] 25)).heap.size := by simp
  have q0 : (w.alloc (.cells #[.bool U.on, .int .i64 U.tk, .int .i64 U.sq, .slice ua U.m uc] 25)).cell? ⟨w.heap.size, 0, none⟩ = some (.bool U.on) := by simp
  have q1 : (w.alloc (.cells #[.bool U.on, .int .i64 U.tk, .int .i64 U.sq, .slice ua U.m uc] 25)).cell? ⟨w.heap.size, 1, none⟩ = some (.int .i64 U.tk) := by simp
  have q2 : (w.alloc (.cells #[.bool U.on, .int .i64 U.tk, .int .i64 U.sq, .slice ua U.m uc] 25)).cell? ⟨w.heap.size, 2, none⟩ = some (.int .i64 U.sq) := by simp
  have q3 : (w.alloc (.cells #[.bool U.on, .int .i64 U.tk, .int .i64 U.sq, .slice ua U.m uc] 25)).cell? ⟨w.heap.size, 3, none⟩ = some (.slice ua U.m uc) := by simp
  revert zq q0 q1 q2 q3
  generalize w.alloc (.cells #[.bool U.on, .int .i64 U.tk, .int .i64 U.sq, .slice ua U.m uc] 25) = u
  intro zq q0 q1 q2 q3 HA HUR
  go_wp2
  go_loopw [12] (fun iv wr => ∃ k : Nat, k ≤ U.m ∧ iv = .int .i64 k ∧ Below u.heap.size u wr ∧ ∀ j, j < k → ¬ (U.on = true ∧ (HitP U.c d hd) j)) (fun iv _ => U.m - (intOf iv).toNat)
  case atStart => exact ⟨0, Nat.zero_le _, rfl, Below.refl _ _, fun j hj => absurd hj (by omega)⟩
  case round =>
    obtain ⟨k, hk, rfl, hb, hno⟩ := hrel
    have HB := Lib.hid hb
    have HN := Lib.hid hno
    have HR := Lib.hid (HUR.out.below hb)
    have p0 := ((bcell hb).1 _ _ zq).trans q0
    have p3 := ((bcell hb).1 _ _ zq).trans q3
    have zq2 := Nat.lt_of_lt_of_le zq hb.size
    clear hb hno
    by_cases hlt : k < U.m
    · obtain ⟨cb, coff, rfl, zcb, hcc⟩ := HR.out.get hlt
      have z0 := hcc k 0 hlt (by omega)
      have z1 := hcc k 1 hlt (by omega)
      have z2 := hcc k 2 hlt (by omega)
      rw [Nat.add_zero] at z0
      have j0 : (0 : Int) ≤ (k : Int) := by omega
      have j1 : (k : Int) < (U.m : Int) := by omega
      clear hcc
      by_cases hon : U.on = true
      · by_cases e1 : U.c k 1 = hd
        · have b1 : (U.c k 1 == hd) = true := by simpa using e1
          by_cases e2 : U.c k 0 = d
          · have b2 : (U.c k 0 == d) = true := by simpa using e2
            have HIT := Lib.hid (show U.on = true ∧ (HitP U.c d hd) k from ⟨hon, ⟨e1, .inr e2⟩⟩)
            rw [hon] at p0
            clear hon e1 e2
            go_wp2
            go_ret
            exact ⟨⟨_, rfl, .inr ⟨k, hlt, rfl, HIT.out.1, HIT.out.2, HN.out⟩⟩, HA.out.trans ((HB.out.alloc HB.out.size _).mono HA.out.size)⟩
          · have b2 : (U.c k 0 == d) = false := by simpa using e2
            have HNO := Lib.hid (show ¬ (U.on = true ∧ (HitP U.c d hd) k) from fun h => h.2.2.elim hd0 e2)
            rw [hon] at p0
            clear hon e1 e2
            go_wp2
            go_roundw
            case rel => exact ⟨k + 1, by omega, by go_num, HB.out.alloc HB.out.size _, fun j hj hh => by
              by_cases c : j = k
              · exact HNO.out (c ▸ hh)
              · exact HN.out j (by omega) hh⟩
            case measure => simp [intOf]; omega
        · have b1 : (U.c k 1 == hd) = false := by simpa using e1
          have HNO := Lib.hid (show ¬ (U.on = true ∧ (HitP U.c d hd) k) from fun h => e1 h.2.1)
          rw [hon] at p0
          clear hon e1
          go_wp2
          go_roundw
          case rel => exact ⟨k + 1, by omega, by go_num, HB.out.alloc HB.out.size _, fun j hj hh => by
            by_cases c : j = k
            · exact HNO.out (c ▸ hh)
            · exact HN.out j (by omega) hh⟩
          case measure => simp [intOf]; omega
      · have hoff : U.on = false := by simpa using hon
        have HNO := Lib.hid (show ¬ (U.on = true ∧ (HitP U.c d hd) k) from fun h => hon h.1)
        rw [hoff] at p0
        clear hon hoff
        go_wp2
        go_roundw
        case rel => exact ⟨k + 1, by omega, by go_num, HB.out.alloc HB.out.size _, fun j hj hh => by
          by_cases c : j = k
          · exact HNO.out (c ▸ hh)
          · exact HN.out j (by omega) hh⟩
        case measure => simp [intOf]; omega
    · obtain rfl : k = U.m := by omega
      go_wp2
      go_ret
      exact ⟨⟨-1, rfl, .inl ⟨rfl, HN.out⟩⟩, HA.out.trans (HB.out.mono HA.out.size)⟩
set_option maxRecDepth 100000 in
set_option maxHeartbeats 3200000 in
theorem place_none (U : WV) (ua : Option Addr) (uc : Nat) (hd : Int) (w : World) (h : RowS 3 w ua U.m uc U.c) : Calls Try.prog 60 #[.agg #[.bool U.on, .int .i64 U.tk, .int .i64 U.sq, .slice ua U.m uc], .int .i64 0, .int .i64 hd] w fun e w' => (∃ r, e = .returned (.int .i64 r) ∧ PlaceIs U (HitP U.c 0 hd) r) ∧ Below w.heap.size w w' := by
  have HA := Lib.hid ((Below.refl w.heap.size w).alloc (Nat.le_refl _) (.cells #[.bool U.on, .int .i64 U.tk, .int .i64 U.sq, .slice ua U.m uc] 25))
  have HUR := Lib.hid (h.below HA.out)
  have hm := h.1
  clear h
  go_enter Try.func60, Try.ntmps60
  go_upto_region 1 with (fail)
  revert HA HUR
  have zq : w.heap.size < (w.alloc (.cells #[.bool U.on, .int .i64 U.tk, .int .i64 U.sq, .slice ua U.m uc] 25)).heap.size := by simp
  have q0 : (w.alloc (.cells #[.bool U.on, .int .i64 U.tk, .int .i64 U.sq, .slice ua U.m uc] 25)).cell? ⟨w.heap.size, 0, none⟩ = some (.bool U.on) := by simp
  have q1 : (w.alloc (.cells #[.bool U.on, .int .i64 U.tk, .int .i64 U.sq, .slice ua U.m uc] 25)).cell? ⟨w.heap.size, 1, none⟩ = some (.int .i64 U.tk) := by simp
  have q2 : (w.alloc (.cells #[.bool U.on, .int .i64 U.tk, .int .i64 U.sq, .slice ua U.m uc] 25)).cell? ⟨w.heap.size, 2, none⟩ = some (.int .i64 U.sq) := by simp
  have q3 : (w.alloc (.cells #[.bool U.on, .int .i64 U.tk, .int .i64 U.sq, .slice ua U.m uc] 25)).cell? ⟨w.heap.size, 3, none⟩ = some (.slice ua U.m uc) := by simp
  revert zq q0 q1 q2 q3
  generalize w.alloc (.cells #[.bool U.on, .int .i64 U.tk, .int .i64 U.sq, .slice ua U.m uc] 25) = u
  intro zq q0 q1 q2 q3 HA HUR
  go_wp2
  go_loopw [12] (fun iv wr => ∃ k : Nat, k ≤ U.m ∧ iv = .int .i64 k ∧ Below u.heap.size u wr ∧ ∀ j, j < k → ¬ (U.on = true ∧ (HitP U.c 0 hd) j)) (fun iv _ => U.m - (intOf iv).toNat)
  case atStart => exact ⟨0, Nat.zero_le _, rfl, Below.refl _ _, fun j hj => absurd hj (by omega)⟩
  case round =>
    obtain ⟨k, hk, rfl, hb, hno⟩ := hrel
    have HB := Lib.hid hb
    have HN := Lib.hid hno
    have HR := Lib.hid (HUR.out.below hb)
    have p0 := ((bcell hb).1 _ _ zq).trans q0
    have p3 := ((bcell hb).1 _ _ zq).trans q3
    have zq2 := Nat.lt_of_lt_of_le zq hb.size
    clear hb hno
    by_cases hlt : k < U.m
    · obtain ⟨cb, coff, rfl, zcb, hcc⟩ := HR.out.get hlt
      have z0 := hcc k 0 hlt (by omega)
      have z1 := hcc k 1 hlt (by omega)
      have z2 := hcc k 2 hlt (by omega)
      rw [Nat.add_zero] at z0
      have j0 : (0 : Int) ≤ (k : Int) := by omega
      have j1 : (k : Int) < (U.m : Int) := by omega
      clear hcc
      by_cases hon : U.on = true
      · by_cases e1 : U.c k 1 = hd
        · have b1 : (U.c k 1 == hd) = true := by simpa using e1
          have HIT := Lib.hid (show U.on = true ∧ (HitP U.c 0 hd) k from ⟨hon, ⟨e1, .inl rfl⟩⟩)
          rw [hon] at p0
          clear hon e1
          go_wp2
          go_ret
          exact ⟨⟨_, rfl, .inr ⟨k, hlt, rfl, HIT.out.1, HIT.out.2, HN.out⟩⟩, HA.out.trans ((HB.out.alloc HB.out.size _).mono HA.out.size)⟩
        · have b1 : (U.c k 1 == hd) = false := by simpa using e1
          have HNO := Lib.hid (show ¬ (U.on = true ∧ (HitP U.c 0 hd) k) from fun h => e1 h.2.1)
          rw [hon] at p0
          clear hon e1
          go_wp2
          go_roundw
          case rel => exact ⟨k + 1, by omega, by go_num, HB.out.alloc HB.out.size _, fun j hj hh => by
            by_cases c : j = k
            · exact HNO.out (c ▸ hh)
            · exact HN.out j (by omega) hh⟩
          case measure => simp [intOf]; omega
      · have hoff : U.on = false := by simpa using hon
        have HNO := Lib.hid (show ¬ (U.on = true ∧ (HitP U.c 0 hd) k) from fun h => hon h.1)
        rw [hoff] at p0
        clear hon hoff
        go_wp2
        go_roundw
        case rel => exact ⟨k + 1, by omega, by go_num, HB.out.alloc HB.out.size _, fun j hj hh => by
          by_cases c : j = k
          · exact HNO.out (c ▸ hh)
          · exact HN.out j (by omega) hh⟩
        case measure => simp [intOf]; omega
    · obtain rfl : k = U.m := by omega
      go_wp2
      go_ret
      exact ⟨⟨-1, rfl, .inl ⟨rfl, HN.out⟩⟩, HA.out.trans (HB.out.mono HA.out.size)⟩
set_option maxRecDepth 100000 in
set_option maxHeartbeats 3200000 in
theorem zero_any (U : WV) (ua : Option Addr) (uc : Nat) (hd : Int) (w : World) (h : RowS 3 w ua U.m uc U.c) : Calls Try.prog 61 #[.agg #[.bool U.on, .int .i64 U.tk, .int .i64 U.sq, .slice ua U.m uc], .int .i64 hd] w fun e w' => (∃ r, e = .returned (.int .i64 r) ∧ PlaceIs U (Hit U.c 0 hd) r) ∧ Below w.heap.size w w' := by
  have HA := Lib.hid ((Below.refl w.heap.size w).alloc (Nat.le_refl _) (.cells #[.bool U.on, .int .i64 U.tk, .int .i64 U.sq, .slice ua U.m uc] 25))
  have HUR := Lib.hid (h.below HA.out)
  have hm := h.1
  clear h
  go_enter Try.func61, Try.ntmps61
  go_upto_region 1 with (fail)
  revert HA HUR
  have zq : w.heap.size < (w.alloc (.cells #[.bool U.on, .int .i64 U.tk, .int .i64 U.sq, .slice ua U.m uc] 25)).heap.size := by simp
  have q0 : (w.alloc (.cells #[.bool U.on, .int .i64 U.tk, .int .i64 U.sq, .slice ua U.m uc] 25)).cell? ⟨w.heap.size, 0, none⟩ = some (.bool U.on) := by simp
  have q1 : (w.alloc (.cells #[.bool U.on, .int .i64 U.tk, .int .i64 U.sq, .slice ua U.m uc] 25)).cell? ⟨w.heap.size, 1, none⟩ = some (.int .i64 U.tk) := by simp
  have q2 : (w.alloc (.cells #[.bool U.on, .int .i64 U.tk, .int .i64 U.sq, .slice ua U.m uc] 25)).cell? ⟨w.heap.size, 2, none⟩ = some (.int .i64 U.sq) := by simp
  have q3 : (w.alloc (.cells #[.bool U.on, .int .i64 U.tk, .int .i64 U.sq, .slice ua U.m uc] 25)).cell? ⟨w.heap.size, 3, none⟩ = some (.slice ua U.m uc) := by simp
  revert zq q0 q1 q2 q3
  generalize w.alloc (.cells #[.bool U.on, .int .i64 U.tk, .int .i64 U.sq, .slice ua U.m uc] 25) = u
  intro zq q0 q1 q2 q3 HA HUR
  go_wp2
  go_loopw [10] (fun iv wr => ∃ k : Nat, k ≤ U.m ∧ iv = .int .i64 k ∧ Below u.heap.size u wr ∧ ∀ j, j < k → ¬ (U.on = true ∧ (Hit U.c 0 hd) j)) (fun iv _ => U.m - (intOf iv).toNat)
  case atStart => exact ⟨0, Nat.zero_le _, rfl, Below.refl _ _, fun j hj => absurd hj (by omega)⟩
  case round =>
    obtain ⟨k, hk, rfl, hb, hno⟩ := hrel
    have HB := Lib.hid hb
    have HN := Lib.hid hno
    have HR := Lib.hid (HUR.out.below hb)
    have p0 := ((bcell hb).1 _ _ zq).trans q0
    have p3 := ((bcell hb).1 _ _ zq).trans q3
    have zq2 := Nat.lt_of_lt_of_le zq hb.size
    clear hb hno
    by_cases hlt : k < U.m
    · obtain ⟨cb, coff, rfl, zcb, hcc⟩ := HR.out.get hlt
      have z0 := hcc k 0 hlt (by omega)
      have z1 := hcc k 1 hlt (by omega)
      have z2 := hcc k 2 hlt (by omega)
      rw [Nat.add_zero] at z0
      have j0 : (0 : Int) ≤ (k : Int) := by omega
      have j1 : (k : Int) < (U.m : Int) := by omega
      clear hcc
      by_cases hon : U.on = true
      · by_cases e1 : U.c k 0 = 0
        · have b1 : (U.c k 0 == 0) = true := by simpa using e1
          by_cases e2 : U.c k 1 = hd
          · have b2 : (U.c k 1 == hd) = true := by simpa using e2
            have HIT := Lib.hid (show U.on = true ∧ (Hit U.c 0 hd) k from ⟨hon, ⟨e1, e2⟩⟩)
            rw [hon] at p0
            clear hon e1 e2
            go_wp2
            go_ret
            exact ⟨⟨_, rfl, .inr ⟨k, hlt, rfl, HIT.out.1, HIT.out.2, HN.out⟩⟩, HA.out.trans ((HB.out.alloc HB.out.size _).mono HA.out.size)⟩
          · have b2 : (U.c k 1 == hd) = false := by simpa using e2
            have HNO := Lib.hid (show ¬ (U.on = true ∧ (Hit U.c 0 hd) k) from fun h => e2 h.2.2)
            rw [hon] at p0
            clear hon e1 e2
            go_wp2
            go_roundw
            case rel => exact ⟨k + 1, by omega, by go_num, HB.out.alloc HB.out.size _, fun j hj hh => by
              by_cases c : j = k
              · exact HNO.out (c ▸ hh)
              · exact HN.out j (by omega) hh⟩
            case measure => simp [intOf]; omega
        · have b1 : (U.c k 0 == 0) = false := by simpa using e1
          have HNO := Lib.hid (show ¬ (U.on = true ∧ (Hit U.c 0 hd) k) from fun h => e1 h.2.1)
          rw [hon] at p0
          clear hon e1
          go_wp2
          go_roundw
          case rel => exact ⟨k + 1, by omega, by go_num, HB.out.alloc HB.out.size _, fun j hj hh => by
            by_cases c : j = k
            · exact HNO.out (c ▸ hh)
            · exact HN.out j (by omega) hh⟩
          case measure => simp [intOf]; omega
      · have hoff : U.on = false := by simpa using hon
        have HNO := Lib.hid (show ¬ (U.on = true ∧ (Hit U.c 0 hd) k) from fun h => hon h.1)
        rw [hoff] at p0
        clear hon hoff
        go_wp2
        go_roundw
        case rel => exact ⟨k + 1, by omega, by go_num, HB.out.alloc HB.out.size _, fun j hj hh => by
          by_cases c : j = k
          · exact HNO.out (c ▸ hh)
          · exact HN.out j (by omega) hh⟩
        case measure => simp [intOf]; omega
    · obtain rfl : k = U.m := by omega
      go_wp2
      go_ret
      exact ⟨⟨-1, rfl, .inl ⟨rfl, HN.out⟩⟩, HA.out.trans (HB.out.mono HA.out.size)⟩
end Go.Proofs.Ytihpjfhibhpciaa
