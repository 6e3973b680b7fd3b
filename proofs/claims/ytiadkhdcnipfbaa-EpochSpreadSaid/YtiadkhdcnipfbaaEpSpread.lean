/- The walk of EpochSpread over the seat's program: for every input it returns true, and makes new memory alone. -/
import Derived.Test.YtiadkhdcnipfbaaEpAwake
import Derived.OwnWalk
namespace Go.Proofs.Ytiadkhdcnipfbaa
open Go.ChangeShapes Go.WideShapes Go.ChangeAt Go.RowKit Go.Joins

/-- Each thread is out, in the epoch, or in the one ahead of it. -/
def Near (n : Nat) (F : Nat → Int) (G : Int) : Prop := ∀ i, i < n → F i = 0 ∨ F i = 2 * G + 1 ∨ F i = 2 * (G - 1) + 1
theorem Near.bounds {n k G : Nat} {F : Nat → Int} (h : Near n F G) (_ : 1 ≤ G) (h2 : G ≤ 1 + k) (h3 : k ≤ 200) : ∀ i, i < n → 0 ≤ F i ∧ F i < 18446744073709551616 := by
  intro i hi
  rcases h i hi with e | e | e <;> rw [e] <;> omega
theorem Near.least {n G : Nat} {F : Nat → Int} (h : Near n F G) (_ : 1 ≤ G) : (leastS F n).2 = true → (leastS F n).1 = G ∨ (leastS F n).1 = (G : Int) - 1 := by
  induction n with
  | zero => intro hx; cases hx
  | succ j ih =>
    have ih := ih fun i hi => h i (by omega)
    simp only [leastS]
    split
    · exact ih
    · split
      · intro _
        show F j / 2 = _ ∨ F j / 2 = _
        rcases h j (by omega) with e | e | e
        · exact absurd e (by assumption)
        · left; omega
        · right; omega
      · exact ih
theorem Near.leave {n G : Nat} {F : Nat → Int} (h : Near n F G) (t : Int) : Near n (withF F t 0) G := by
  intro i hi
  unfold withF
  split
  · exact .inl rfl
  · exact h i hi
theorem epI_small {k G : Nat} (h2 : G ≤ 1 + k) (h3 : k ≤ 200) : epI G = 2 * (G : Int) + 1 := by unfold epI; omega
theorem Near.enter {n k G : Nat} {F : Nat → Int} (h : Near n F G) (h2 : G ≤ 1 + k) (h3 : k ≤ 200) (t : Int) : Near n (withF F t (epI G)) G := by
  intro i hi
  unfold withF
  split
  · exact .inr (.inl (epI_small h2 h3))
  · exact h i hi
theorem Near.next {n k G : Nat} {F : Nat → Int} (h : Near n F G) (h2 : G ≤ 1 + k) (h3 : k ≤ 200) : ∃ H : Nat, nextI n F (-1) G = H ∧ Near n F H ∧ G ≤ H ∧ H ≤ G + 1 := by
  cases hA : allB n F (-1) G
  · exact ⟨G, by simp [nextI, hA], h, by omega, by omega⟩
  · refine ⟨G + 1, ?_, fun i hi => ?_, by omega, by omega⟩
    · unfold nextI
      rw [if_neg (by rw [hA]; simp; omega)]
      unfold wrap64
      omega
    · have hl : letsB (F i) G = true := (of_decide_eq_true hA) i hi (by omega)
      unfold letsB at hl
      rw [epI_small h2 h3] at hl
      simp only [Bool.or_eq_true, beq_iff_eq] at hl
      rcases hl with e | e
      · exact .inl e
      · exact .inr (.inr (by omega))
theorem tag_of (x : Int) : ∃ u : Nat, IntKind.u64.wrap x = u ∧ u < 18446744073709551616 := ⟨(x % 18446744073709551616).toNat, by rw [IntKind.wrap_u64]; omega, by omega⟩
theorem way_of (u n : Nat) (hu : u < 18446744073709551616) : (IntKind.u64.wrap ((u : Int) / (n : Int))).tmod 3 = ((u / n % 3 : Nat) : Int) := by
  have h : u / n ≤ u := Nat.div_le_self _ _
  rw [show ((u : Int) / (n : Int)) = ((u / n : Nat) : Int) from (Int.natCast_ediv ..).symm]
  generalize u / n = q at *
  rw [IntKind.wrap_u64, show (q : Int) % 18446744073709551616 = (q : Int) by omega, Int.tmod_eq_emod_of_nonneg (by omega)]
  omega
def SpreadRel (a0 : Option Addr) (m cap0 : Nat) (f0 : Nat → Int) (n k : Nat) (w : World) (v g : Value) (wr : World) : Prop :=
  ∃ (a : Option Addr) (cap : Nat) (F : Nat → Int) (G : Nat), v = .slice a n cap ∧ g = .int .i64 G ∧ Near n F G ∧ OwnAt .u64 wr w.heap.size a n cap F ∧ Below w.heap.size w wr ∧ RowAt .i64 wr a0 m cap0 f0 ∧ 1 ≤ G ∧ G ≤ 1 + k

set_option maxRecDepth 100000 in
set_option maxHeartbeats 12800000 in
theorem spread_in (n m : Nat) (n1 : 1 ≤ n) (n2 : n ≤ 16) (m1 : m ≤ 200) (a0 : Option Addr) (cap0 : Nat) (f0 : Nat → Int) (w : World) (h : RowAt .i64 w a0 m cap0 f0) :
    Calls Try.prog 6 #[.int .i64 n, .slice a0 m cap0] w fun e w' => e = .returned (.bool true) ∧ Below w.heap.size w w' := by
  obtain ⟨i0, hi0, hz0, hz1, hz2⟩ := info_parts Try.infoW
  have HI := Lib.hid (And.intro hi0 (And.intro hz0 (And.intro hz1 hz2)))
  have HRW := Lib.hid h
  have e1 : decide ((n : Int) < 1) = false := by simp; omega
  have e2 : decide (16 < (n : Int)) = false := by simp; omega
  have e3 : decide (200 < (m : Int)) = false := by simp; omega
  have j1 : (1 : Int) ≤ (n : Int) := by omega
  have j2 : (n : Int) ≤ 16 := by omega
  have j3 : (m : Int) ≤ 200 := by omega
  clear h hi0 hz0 hz1 hz2
  go_enter Try.func6, Try.ntmps6
  go_wp2_with (at_make; go_loud (refine wpList_make_full _ rfl _ _ 22 rfl w.heap.size 35 i0 (.int .u64 0) 1 Try.underlying22 HI.out.1 HI.out.2.1 HI.out.2.2.1 .i64 .i64 _ _ n rfl rfl rfl rfl (by rw [HI.out.2.2.2]; omega) (by unfold maxLen; omega) (Nat.le_refl _) ?_; intro w0 hown0 hgrow0))
  have HO0 := Lib.hid (OwnAt.of (K := .u64) (f := fun _ => 0) (by omega) (show w0.ownsRow w.heap.size 35 1 _ n (rowL .u64 (fun _ => 0) n) from (show (madeCells (Value.int .u64 0).cells (n * 1)).toList = rowL .u64 (fun _ => 0) n by rw [Nat.mul_one]; exact (toList_madeCells_one _ n).trans (rowL_zeros n).symm) ▸ hown0))
  have HB0 := Lib.hid (show Below w.heap.size w w0 from Below.grown (Below.refl _ _) hgrow0 (Nat.le_refl _) (fun _ e => by cases e))
  clear hown0 hgrow0
  go_loopw [5, 6, 28] (fun v g i wr => ∃ k : Nat, k ≤ m ∧ i = .int .i64 k ∧ SpreadRel a0 m cap0 f0 n k w v g wr) (fun _ _ i _ => m - (intOf i).toNat)
  case atStart =>
    obtain ⟨a1, cap1, hv, ho⟩ := HO0.out
    exact ⟨0, Nat.zero_le _, rfl, a1, cap1, _, 1, hv, rfl, fun i _ => .inl rfl, ho, HB0.out, HRW.out.below HB0.out, by omega, by omega⟩
  case round =>
    obtain ⟨k, hk, rfl, a, cap, F, G, rfl, rfl, hN, hO, hB, hR, hG1, hG2⟩ := hrel
    have HN := Lib.hid hN
    have HO := Lib.hid hO
    have HB := Lib.hid hB
    have g1 : (1 : Int) ≤ (G : Int) := by omega
    have g2 : (G : Int) ≤ 201 := by omega
    have k2 : k ≤ 200 := by omega
    by_cases hlt : k < m
    · obtain ⟨b, off, rfl, hbb, hc⟩ := hR.get hlt
      have c1 := hc k hlt
      have i0 : (0 : Int) ≤ (k : Int) := by omega
      have i1 : (k : Int) < (m : Int) := by omega
      obtain ⟨u, hu, hu1⟩ := tag_of (f0 k)
      obtain ⟨t, ht⟩ : ∃ t : Nat, u % n = t := ⟨_, rfl⟩
      have htn : t < n := by rw [← ht]; exact Nat.mod_lt _ (by omega)
      have eT : ((u : Int) % (n : Int)) = (t : Int) := by rw [← ht]; exact (Int.natCast_emod ..).symm
      have t0 : (0 : Int) ≤ (t : Int) := by omega
      have t1 : (t : Int) < (n : Int) := by omega
      have t2 : (t : Int) ≤ 15 := by omega
      have hs := way_of u n hu1
      have hs3 : u / n % 3 < 3 := Nat.mod_lt _ (by omega)
      have hcase : u / n % 3 = 0 ∨ u / n % 3 = 1 ∨ u / n % 3 = 2 := by omega
      clear hc hN hO hB hR ht
      rcases hcase with h3 | h3 | h3
      · have eS : (IntKind.u64.wrap ((u : Int) / (n : Int))).tmod 3 = 0 := by rw [hs, h3]; rfl
        clear hs hs3 h3
        have HN1 := Lib.hid (HN.out.leave t)
        obtain ⟨L, hL⟩ : ∃ L, leastS (withF F t 0) n = L := ⟨_, rfl⟩
        obtain ⟨x, y⟩ := L
        have HL := Lib.hid (fun W a cap (h : RowAt .u64 W a n cap (withF F t 0)) => show Calls Try.prog 7 #[.slice a n cap] W fun e w' => e = .returned (.tuple #[.int .i64 x, .bool y]) ∧ W = w' by
          have := least_any a n cap (withF F t 0) W (Near.bounds HN1.out hG1 hG2 k2) h
          rw [hL] at this; exact this)
        have hX := Near.least HN1.out hG1
        rw [hL] at hX
        cases y
        · clear hL hX
          go_wp2_with (first
            | (go_at_call 18; (with_reducible refine (leave_any _ n _ F t _ HO.out.row).mono ?_); rintro e w1 ⟨a1, cap1, rfl, ho, hb⟩; have HO1 := Lib.hid (ho.mono HB.out.size); have HB1 := Lib.hid (HB.out.trans (hb.mono HB.out.size)); clear ho hb)
            | (go_at_call 7; (with_reducible refine (HL.out _ _ _ HO1.out.row).mono ?_); rintro e w2 ⟨rfl, rfl⟩))
          go_roundw
          case rel => exact ⟨k + 1, by omega, by go_num, _, _, (withF F t 0), G, rfl, rfl, HN1.out, HO1.out, HB1.out, HRW.out.below HB1.out, hG1, (Nat.le_succ_of_le hG2)⟩
          case measure => simp [intOf]; omega
        · have hX1 := hX rfl
          have e4 : decide ((G : Int) < x) = false := by simp only [decide_eq_false_iff_not]; omega
          have e5 : decide (x < (G : Int) - 1) = false := by simp only [decide_eq_false_iff_not]; omega
          clear hX1
          clear hL hX
          go_wp2_with (first
            | (go_at_call 18; (with_reducible refine (leave_any _ n _ F t _ HO.out.row).mono ?_); rintro e w1 ⟨a1, cap1, rfl, ho, hb⟩; have HO1 := Lib.hid (ho.mono HB.out.size); have HB1 := Lib.hid (HB.out.trans (hb.mono HB.out.size)); clear ho hb)
            | (go_at_call 7; (with_reducible refine (HL.out _ _ _ HO1.out.row).mono ?_); rintro e w2 ⟨rfl, rfl⟩))
          go_roundw
          case rel => exact ⟨k + 1, by omega, by go_num, _, _, (withF F t 0), G, rfl, rfl, HN1.out, HO1.out, HB1.out, HRW.out.below HB1.out, hG1, (Nat.le_succ_of_le hG2)⟩
          case measure => simp [intOf]; omega

      · have eS : (IntKind.u64.wrap ((u : Int) / (n : Int))).tmod 3 = 1 := by rw [hs, h3]; rfl
        clear hs hs3 h3
        obtain ⟨bo, rfl, hbo, hco⟩ := HO.out.get htn
        have c2 := (hco t htn).1
        clear hco
        by_cases hz : F t = 0
        · have e6 : (F t == 0) = true := by simp [hz]
          have HN1 := Lib.hid (HN.out.enter hG2 k2 t)
          clear hz
          obtain ⟨L, hL⟩ : ∃ L, leastS (withF F t (epI G)) n = L := ⟨_, rfl⟩
          obtain ⟨x, y⟩ := L
          have HL := Lib.hid (fun W a cap (h : RowAt .u64 W a n cap (withF F t (epI G))) => show Calls Try.prog 7 #[.slice a n cap] W fun e w' => e = .returned (.tuple #[.int .i64 x, .bool y]) ∧ W = w' by
            have := least_any a n cap (withF F t (epI G)) W (Near.bounds HN1.out hG1 hG2 k2) h
            rw [hL] at this; exact this)
          have hX := Near.least HN1.out hG1
          rw [hL] at hX
          cases y
          · clear hL hX
            go_wp2_with (first
              | (go_at_call 17; (with_reducible refine (enter_any _ n _ F t G _ HO.out.row).mono ?_); rintro e w1 ⟨a1, cap1, rfl, ho, hb⟩; have HO1 := Lib.hid (ho.mono HB.out.size); have HB1 := Lib.hid (HB.out.trans (hb.mono HB.out.size)); clear ho hb)
              | (go_at_call 7; (with_reducible refine (HL.out _ _ _ HO1.out.row).mono ?_); rintro e w2 ⟨rfl, rfl⟩))
            go_roundw
            case rel => exact ⟨k + 1, by omega, by go_num, _, _, (withF F t (epI G)), G, rfl, rfl, HN1.out, HO1.out, HB1.out, HRW.out.below HB1.out, hG1, (Nat.le_succ_of_le hG2)⟩
            case measure => simp [intOf]; omega
          · have hX1 := hX rfl
            have e4 : decide ((G : Int) < x) = false := by simp only [decide_eq_false_iff_not]; omega
            have e5 : decide (x < (G : Int) - 1) = false := by simp only [decide_eq_false_iff_not]; omega
            clear hX1
            clear hL hX
            go_wp2_with (first
              | (go_at_call 17; (with_reducible refine (enter_any _ n _ F t G _ HO.out.row).mono ?_); rintro e w1 ⟨a1, cap1, rfl, ho, hb⟩; have HO1 := Lib.hid (ho.mono HB.out.size); have HB1 := Lib.hid (HB.out.trans (hb.mono HB.out.size)); clear ho hb)
              | (go_at_call 7; (with_reducible refine (HL.out _ _ _ HO1.out.row).mono ?_); rintro e w2 ⟨rfl, rfl⟩))
            go_roundw
            case rel => exact ⟨k + 1, by omega, by go_num, _, _, (withF F t (epI G)), G, rfl, rfl, HN1.out, HO1.out, HB1.out, HRW.out.below HB1.out, hG1, (Nat.le_succ_of_le hG2)⟩
            case measure => simp [intOf]; omega

        · have e6 : (F t == 0) = false := by simp [hz]
          clear hz
          obtain ⟨L, hL⟩ : ∃ L, leastS F n = L := ⟨_, rfl⟩
          obtain ⟨x, y⟩ := L
          have HL := Lib.hid (fun W a cap (h : RowAt .u64 W a n cap F) => show Calls Try.prog 7 #[.slice a n cap] W fun e w' => e = .returned (.tuple #[.int .i64 x, .bool y]) ∧ W = w' by
            have := least_any a n cap F W (Near.bounds HN.out hG1 hG2 k2) h
            rw [hL] at this; exact this)
          have hX := Near.least HN.out hG1
          rw [hL] at hX
          cases y
          · clear hL hX
            go_wp2_with (first
              | (go_at_call 7; (with_reducible refine (HL.out _ _ _ HO.out.row).mono ?_); rintro e w2 ⟨rfl, rfl⟩))
            go_roundw
            case rel => exact ⟨k + 1, by omega, by go_num, _, _, F, G, rfl, rfl, HN.out, HO.out, HB.out, HRW.out.below HB.out, hG1, (Nat.le_succ_of_le hG2)⟩
            case measure => simp [intOf]; omega
          · have hX1 := hX rfl
            have e4 : decide ((G : Int) < x) = false := by simp only [decide_eq_false_iff_not]; omega
            have e5 : decide (x < (G : Int) - 1) = false := by simp only [decide_eq_false_iff_not]; omega
            clear hX1
            clear hL hX
            go_wp2_with (first
              | (go_at_call 7; (with_reducible refine (HL.out _ _ _ HO.out.row).mono ?_); rintro e w2 ⟨rfl, rfl⟩))
            go_roundw
            case rel => exact ⟨k + 1, by omega, by go_num, _, _, F, G, rfl, rfl, HN.out, HO.out, HB.out, HRW.out.below HB.out, hG1, (Nat.le_succ_of_le hG2)⟩
            case measure => simp [intOf]; omega

      · have eS : (IntKind.u64.wrap ((u : Int) / (n : Int))).tmod 3 = 2 := by rw [hs, h3]; rfl
        clear hs hs3 h3
        obtain ⟨H, hH, hNH, hGH, hHG⟩ := HN.out.next hG2 k2
        have HN2 := Lib.hid hNH
        have HN1 := Lib.hid (fun W a cap (h : RowAt .u64 W a n cap F) => show Calls Try.prog 22 #[.slice a n cap, .int .i64 (-1), .int .i64 G] W fun e w' => e = .returned (.int .i64 (H : Nat)) ∧ W = w' by
          have := next_any a n cap F (-1) G W h
          rw [hH] at this; exact this)
        have hH1 : 1 ≤ H := by omega
        have hH2 : H ≤ 1 + (k + 1) := by omega
        have h5 : (1 : Int) ≤ (H : Int) := by omega
        have h6 : (H : Int) ≤ 202 := by omega
        clear hH hNH
        obtain ⟨L, hL⟩ : ∃ L, leastS F n = L := ⟨_, rfl⟩
        obtain ⟨x, y⟩ := L
        have HL := Lib.hid (fun W a cap (h : RowAt .u64 W a n cap F) => show Calls Try.prog 7 #[.slice a n cap] W fun e w' => e = .returned (.tuple #[.int .i64 x, .bool y]) ∧ W = w' by
          have := least_any a n cap F W (Near.bounds HN2.out hH1 hH2 (by omega : k + 1 ≤ 200)) h
          rw [hL] at this; exact this)
        have hX := Near.least HN2.out hH1
        rw [hL] at hX
        cases y
        · clear hL hX
          go_wp2_with (first
            | (go_at_call 22; (with_reducible refine (HN1.out _ _ _ HO.out.row).mono ?_); rintro e w1 ⟨rfl, rfl⟩)
            | (go_at_call 7; (with_reducible refine (HL.out _ _ _ HO.out.row).mono ?_); rintro e w2 ⟨rfl, rfl⟩))
          go_roundw
          case rel => exact ⟨k + 1, by omega, by go_num, _, _, F, H, rfl, rfl, HN2.out, HO.out, HB.out, HRW.out.below HB.out, hH1, hH2⟩
          case measure => simp [intOf]; omega
        · have hX1 := hX rfl
          have e4 : decide ((H : Int) < x) = false := by simp only [decide_eq_false_iff_not]; omega
          have e5 : decide (x < (H : Int) - 1) = false := by simp only [decide_eq_false_iff_not]; omega
          clear hX1
          clear hL hX
          go_wp2_with (first
            | (go_at_call 22; (with_reducible refine (HN1.out _ _ _ HO.out.row).mono ?_); rintro e w1 ⟨rfl, rfl⟩)
            | (go_at_call 7; (with_reducible refine (HL.out _ _ _ HO.out.row).mono ?_); rintro e w2 ⟨rfl, rfl⟩))
          go_roundw
          case rel => exact ⟨k + 1, by omega, by go_num, _, _, F, H, rfl, rfl, HN2.out, HO.out, HB.out, HRW.out.below HB.out, hH1, hH2⟩
          case measure => simp [intOf]; omega

    · go_wp2_with (go_at_call 16; (with_reducible refine (awake_any _).mono ?_); rintro e w7 ⟨rfl, hb7⟩; have HB7 := Lib.hid (HB.out.trans (hb7.mono HB.out.size)); clear hb7)
      go_ret
      exact ⟨rfl, HB7.out⟩

set_option maxHeartbeats 1600000 in
theorem spread_out (n : Int) (m : Nat) (hx : n < 1 ∨ 16 < n ∨ 200 < m) (a0 : Option Addr) (cap0 : Nat) (w : World) :
    Calls Try.prog 6 #[.int .i64 n, .slice a0 m cap0] w fun e w' => e = .returned (.bool true) ∧ Below w.heap.size w w' := by
  by_cases h1 : n < 1
  · go_enter Try.func6, Try.ntmps6
    go_wp2_with (go_at_call 16; (with_reducible refine (awake_any _).mono ?_); rintro e w7 ⟨rfl, hb7⟩)
    go_ret
    exact ⟨rfl, hb7⟩
  · have e1 : decide (n < 1) = false := by simp; omega
    by_cases h2 : 16 < n
    · clear h1
      go_enter Try.func6, Try.ntmps6
      go_wp2_with (go_at_call 16; (with_reducible refine (awake_any _).mono ?_); rintro e w7 ⟨rfl, hb7⟩)
      go_ret
      exact ⟨rfl, hb7⟩
    · have e2 : decide (16 < n) = false := by simp; omega
      have e3 : 200 < (m : Int) := by omega
      clear h1 h2 hx
      go_enter Try.func6, Try.ntmps6
      go_wp2_with (go_at_call 16; (with_reducible refine (awake_any _).mono ?_); rintro e w7 ⟨rfl, hb7⟩)
      go_ret
      exact ⟨rfl, hb7⟩
theorem spread_walk (n : Int) (a0 : Option Addr) (m cap0 : Nat) (f0 : Nat → Int) (w : World) (_ : -9223372036854775808 ≤ n) (_ : n ≤ 9223372036854775807) (h : RowAt .i64 w a0 m cap0 f0) :
    Calls Try.prog 6 #[.int .i64 n, .slice a0 m cap0] w fun e w' => e = .returned (.bool true) ∧ Below w.heap.size w w' := by
  by_cases hx : n < 1 ∨ 16 < n ∨ 200 < m
  · exact spread_out n m hx a0 cap0 w
  · obtain ⟨N, rfl⟩ : ∃ N : Nat, n = N := ⟨n.toNat, by omega⟩
    exact spread_in N m (by omega) (by omega) (by omega) a0 cap0 f0 w h
end Go.Proofs.Ytiadkhdcnipfbaa
