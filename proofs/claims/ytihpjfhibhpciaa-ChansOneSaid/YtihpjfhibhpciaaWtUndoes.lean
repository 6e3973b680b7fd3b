/- The walk of WaitsUndoes over the seat's program. -/
import Derived.Test.YtihpjfhibhpciaaWtMoves
namespace Go.Proofs.Ytihpjfhibhpciaa
open Go.ChangeShapes Go.WideShapes Go.ChangeAt Go.RowKit Go.Joins

theorem countW_same {V U : Nat → WV} {n : Nat} (h : ∀ i, i < n → V i = U i) : countW V n = countW U n := by
  induction n with
  | zero => rfl
  | succ n ih => simp only [countW]; rw [ih (fun i hi => h i (by omega)), h n (by omega)]
theorem countW_set {V : Nat → WV} {i n : Nat} {U : WV} (hi : i < n) (h0 : (V i).on = false) (h1 : U.on = true) : countW (setV V i U) n = countW V n + 1 := by
  induction n with
  | zero => omega
  | succ n ih =>
    simp only [countW]
    by_cases e : i = n
    · subst e
      rw [countW_same (V := setV V i U) (U := V) (fun j hj => by unfold setV; rw [if_neg (by omega)])]
      have : setV V i U i = U := by unfold setV; rw [if_pos rfl]
      rw [this, if_pos h1, h0, if_neg (by decide)]
    · have : setV V i U n = V n := by unfold setV; rw [if_neg (by omega)]
      rw [ih (by omega), this]
      omega
section
open Classical
theorem put_yes_any {a : Option Addr} {n cap : Nat} {V : Nat → WV} {i : Nat} {w : World} {wv : Value} {U : WV} (e : PutOk n V (i : Int)) (h : WaitsAt w a n cap V) (hu : OneAt w wv U) : Calls Try.prog 15 #[.slice a n cap, .int .i64 i, wv] w (RetAt2 n (setV V i U.up) true w) := by
  have := put_any (t := i) h hu
  rw [decide_eq_true e, putV, if_pos e, Int.toNat_natCast] at this
  exact this
theorem put_no_any {a : Option Addr} {n cap : Nat} {V : Nat → WV} {t : Int} {w : World} {wv : Value} {U : WV} (e : ¬ PutOk n V t) (h : WaitsAt w a n cap V) (hu : OneAt w wv U) : Calls Try.prog 15 #[.slice a n cap, .int .i64 t, wv] w (RetAt2 n V false w) := by
  have := put_any (t := t) h hu
  rw [decide_eq_false e, putV, if_neg e] at this
  exact this
theorem cut_yes_any {a : Option Addr} {n cap : Nat} {V : Nat → WV} {i : Nat} {w : World} (e : CutOk n V (i : Int)) (h : WaitsAt w a n cap V) : Calls Try.prog 17 #[.slice a n cap, .int .i64 i] w (RetAt2 n (setV V i WV.zero) true w) := by
  have := cut_any (t := i) h
  rw [decide_eq_true e, cutV, if_pos e, Int.toNat_natCast] at this
  exact this
end
set_option maxRecDepth 100000 in
set_option maxHeartbeats 3200000 in
theorem undoes_walk (a : Option Addr) (n cap : Nat) (V : Nat → WV) (t : Int) (wv : Value) (U : WV) (W : World) (h : WaitsAt W a n cap V) (hu : OneAt W wv U) : Calls Try.prog 5 #[.slice a n cap, .int .i64 t, wv] W fun e w' => e = .returned (.bool true) ∧ Below W.heap.size W w' := by
  have hn := h.1
  obtain ⟨ua, uc, rfl, hur⟩ := hu
  have HA := Lib.hid ((Below.refl W.heap.size W).alloc (Nat.le_refl _) (.cells #[.bool U.on, .int .i64 U.tk, .int .i64 U.sq, .slice ua U.m uc] 25))
  have HL0 := Lib.hid (h.below HA.out)
  have HUR := Lib.hid (hur.below HA.out)
  clear h hur
  by_cases ep : PutOk n V t
  · obtain ⟨i, rfl⟩ : ∃ i : Nat, t = (i : Int) := ⟨t.toNat, by have := ep.1; omega⟩
    have hin : i < n := by have := ep.2.1; omega
    have hoff : (V i).on = false := by have := ep.2.2; rwa [Int.toNat_natCast] at this
    have HP := Lib.hid (fun (w : World) (a : Option Addr) (cap : Nat) (wv : Value) (h : WaitsAt w a n cap V) (hu : OneAt w wv U) => put_yes_any ep h hu)
    have ec : CutOk n (setV V i U.up) (i : Int) := ⟨by omega, by omega, by rw [Int.toNat_natCast]; unfold setV; rw [if_pos rfl]; rfl⟩
    have HC := Lib.hid (fun (w : World) (a : Option Addr) (cap : Nat) (h : WaitsAt w a n cap (setV V i U.up)) => cut_yes_any ec h)
    have HCN := Lib.hid (countW_set (U := U.up) hin hoff rfl)
    have HBV := Lib.hid (show ∀ j, j ≠ i → setV (setV V i U.up) i WV.zero j = V j from fun j hj => by unfold setV; rw [if_neg hj, if_neg hj])
    have HBI := Lib.hid (show (setV (setV V i U.up) i WV.zero i).on = false by unfold setV; rw [if_pos rfl]; rfl)
    revert HP HC HCN HBV HBI
    generalize setV (setV V i U.up) i WV.zero = B
    generalize setV V i U.up = A
    intro HP HC HCN HBV HBI
    have hcl := countW_le V n
    clear ep ec hoff
    go_enter Try.func5, Try.ntmps5
    go_upto_region 1 with (fail)
    revert HA HL0 HUR
    have zq : W.heap.size < (W.alloc (.cells #[.bool U.on, .int .i64 U.tk, .int .i64 U.sq, .slice ua U.m uc] 25)).heap.size := by simp
    have q0 : (W.alloc (.cells #[.bool U.on, .int .i64 U.tk, .int .i64 U.sq, .slice ua U.m uc] 25)).cell? ⟨W.heap.size, 0, none⟩ = some (.bool U.on) := by simp
    have q1 : (W.alloc (.cells #[.bool U.on, .int .i64 U.tk, .int .i64 U.sq, .slice ua U.m uc] 25)).cell? ⟨W.heap.size, 1, none⟩ = some (.int .i64 U.tk) := by simp
    have q2 : (W.alloc (.cells #[.bool U.on, .int .i64 U.tk, .int .i64 U.sq, .slice ua U.m uc] 25)).cell? ⟨W.heap.size, 2, none⟩ = some (.int .i64 U.sq) := by simp
    have q3 : (W.alloc (.cells #[.bool U.on, .int .i64 U.tk, .int .i64 U.sq, .slice ua U.m uc] 25)).cell? ⟨W.heap.size, 3, none⟩ = some (.slice ua U.m uc) := by simp
    revert zq q0 q1 q2 q3
    generalize W.alloc (.cells #[.bool U.on, .int .i64 U.tk, .int .i64 U.sq, .slice ua U.m uc] 25) = u
    intro zq q0 q1 q2 q3 HA HL0 HUR
    go_upto_region 2 with (go_at_call 15; go_loud ((with_reducible refine (HP.out _ _ _ _ HL0.out (OneAt.lay HUR.out)).mono ?_); rintro e u1 ⟨a1, c1, rfl, hw, hb⟩; have HPa := Lib.hid hw; have HL0 := Lib.hid (HL0.out.below hb); have HA := Lib.hid (HA.out.trans (hb.mono HA.out.size)); clear hw hb q0 q1 q2 q3))
    go_upto_region 3 with (go_at_call 17; go_loud ((with_reducible refine (HC.out _ _ _ HPa.out).mono ?_); rintro e u2 ⟨a2, c2, rfl, hw, hb⟩; have HCb := Lib.hid hw; have HL0 := Lib.hid (HL0.out.below hb); have HPa := Lib.hid (HPa.out.below hb); have HA := Lib.hid (HA.out.trans (hb.mono HA.out.size)); clear hw hb))
    clear HP HC HUR zq
    have x1 : ((countW A n : Nat) : Int) = (countW V n : Int) + 1 := by rw [HCN.out]; omega
    have nn : ((n : Int) != (n : Int)) = false := by simp
    have mm : ((countW V n : Int) + 1 != (countW V n : Int) + 1) = false := by simp
    go_upto_region 7 with (first
      | (go_at_call 26; (with_reducible refine (count_any _ _ _ _ _ HPa.out).mono ?_); rintro e u3 ⟨rfl, hb⟩; have HCb := Lib.hid (HCb.out.below hb); have HL0 := Lib.hid (HL0.out.below hb); have HA := Lib.hid (HA.out.trans (hb.mono HA.out.size)); clear hb)
      | (go_at_call 26; (with_reducible refine (count_any _ _ _ _ _ HL0.out).mono ?_); rintro e u4 ⟨rfl, hb⟩; have HCb := Lib.hid (HCb.out.below hb); have HL0 := Lib.hid (HL0.out.below hb); have HA := Lib.hid (HA.out.trans (hb.mono HA.out.size)); clear hb))
    clear HPa HCN x1 mm hcl
    go_wp2
    go_loopw [52] (fun iv wr => ∃ k : Nat, k ≤ n ∧ iv = .int .i64 k ∧ Below u4.heap.size u4 wr) (fun iv _ => n - (intOf iv).toNat)
    case atStart => exact ⟨0, Nat.zero_le _, rfl, Below.refl _ _⟩
    case round =>
      obtain ⟨k, hk, rfl, hb⟩ := hrel
      have HB := Lib.hid hb
      have HR := Lib.hid (HL0.out.below hb)
      have HRB := Lib.hid (HCb.out.below hb)
      clear hb
      by_cases hlt : k < n
      · obtain ⟨lb, lo, rfl, zl, _⟩ := HR.out.get hlt
        obtain ⟨bb, bo, rfl, zb, _⟩ := HRB.out.get hlt
        have hcap := HR.out.2.2.1
        have hcb := HRB.out.2.2.1
        have i0 : (0 : Int) ≤ (k : Int) := by omega
        have i1 : (k : Int) < (n : Int) := by omega
        have i2 : (k : Int) + 1 ≤ (cap : Int) := by omega
        have i3 : (k : Int) + 1 ≤ (c2 : Int) := by omega
        have i4 : (k : Int) ≤ (k : Int) + 1 := by omega
        have i5 : (0 : Int) ≤ (k : Int) + 1 := by omega
        have ew : IntKind.i64.wrap ((k : Int) + 1) = (k : Int) + 1 := IntWalk.i64_in _ (by omega)
        have i6 : k + 1 ≤ cap := by omega
        have i7 : k + 1 ≤ c2 := by omega
        have i8 : ¬ cap = k := by omega
        have i9 : ¬ c2 = k := by omega
        by_cases ek : k = i
        · have nb : ((k : Int) != (i : Int)) = false := by rw [ek]; simp
          go_wp2
          go_quiet (fail)
          go_wp2
          go_roundw
          case rel => exact ⟨k + 1, by omega, by go_num, below_drewN HB.out _⟩
          case measure => simp [intOf]; omega
        · have nb : ((k : Int) != (i : Int)) = true := by simp; omega
          have HY := Lib.hid (fun (w : World) (hw : Below wr.heap.size wr w) (c c' : Nat) (h : 1 ≤ c) (h' : 1 ≤ c') => waits_yes (some ⟨bb, bo + k * 4, none⟩) (some ⟨lb, lo + k * 4, none⟩) 1 c c' (fun _ => V k) w ((((HRB.out.below hw).one hlt h).same (fun _ _ => HBV.out k ek))) ((HR.out.below hw).one hlt h'))
          go_wp2
          go_region_held3 (fun _ => True)
            (trivial)
            ((go_at_call 19; go_loud ((with_reducible refine (HY.out _ (Below.drew (Below.refl _ _)) _ _ (by omega) (by omega)).mono ?_); rintro e u5 ⟨rfl, hb⟩; have HB5 := Lib.hid (HB.out.trans (((Below.drew (Below.refl _ _)).trans (hb.mono (Nat.le_refl _))).mono HB.out.size)); clear hb)))
          go_wp2
          go_roundw
          case rel => exact ⟨k + 1, by omega, by go_num, HB5.out⟩
          case measure => simp [intOf]; omega
      · obtain rfl : k = n := by omega
        obtain ⟨bb, bo, rfl, zb, hc⟩ := HRB.out.get hin
        obtain ⟨_, _, y0, _, _, _, _⟩ := hc i hin
        rw [HBI.out] at y0
        have i0 : (0 : Int) ≤ (i : Int) := by omega
        have i1 : (i : Int) < (k : Int) := by omega
        clear hc hlt
        go_wp2_with (go_at_call 20; (with_reducible refine (awake_any _).mono ?_); rintro e u9 ⟨rfl, hb⟩; have HA9 := Lib.hid (HA.out.trans ((HB.out.trans (hb.mono HB.out.size)).mono HA.out.size)); clear hb)
        go_ret
        exact ⟨rfl, HA9.out⟩
  · obtain ⟨C, co, hc, _⟩ := both_cut n V t
    have HP := Lib.hid (fun (w : World) (a : Option Addr) (cap : Nat) (wv : Value) (h : WaitsAt w a n cap V) (hu : OneAt w wv U) => put_no_any (t := t) ep h hu)
    have HC := Lib.hid hc
    clear ep hc
    go_enter Try.func5, Try.ntmps5
    go_upto_region 1 with (fail)
    revert HA HL0 HUR
    have zq : W.heap.size < (W.alloc (.cells #[.bool U.on, .int .i64 U.tk, .int .i64 U.sq, .slice ua U.m uc] 25)).heap.size := by simp
    have q0 : (W.alloc (.cells #[.bool U.on, .int .i64 U.tk, .int .i64 U.sq, .slice ua U.m uc] 25)).cell? ⟨W.heap.size, 0, none⟩ = some (.bool U.on) := by simp
    have q1 : (W.alloc (.cells #[.bool U.on, .int .i64 U.tk, .int .i64 U.sq, .slice ua U.m uc] 25)).cell? ⟨W.heap.size, 1, none⟩ = some (.int .i64 U.tk) := by simp
    have q2 : (W.alloc (.cells #[.bool U.on, .int .i64 U.tk, .int .i64 U.sq, .slice ua U.m uc] 25)).cell? ⟨W.heap.size, 2, none⟩ = some (.int .i64 U.sq) := by simp
    have q3 : (W.alloc (.cells #[.bool U.on, .int .i64 U.tk, .int .i64 U.sq, .slice ua U.m uc] 25)).cell? ⟨W.heap.size, 3, none⟩ = some (.slice ua U.m uc) := by simp
    revert zq q0 q1 q2 q3
    generalize W.alloc (.cells #[.bool U.on, .int .i64 U.tk, .int .i64 U.sq, .slice ua U.m uc] 25) = u
    intro zq q0 q1 q2 q3 HA HL0 HUR
    go_upto_region 2 with (go_at_call 15; go_loud ((with_reducible refine (HP.out _ _ _ _ HL0.out (OneAt.lay HUR.out)).mono ?_); rintro e u1 ⟨a1, c1, rfl, hw, hb⟩; have HPa := Lib.hid hw; have HL0 := Lib.hid (HL0.out.below hb); have HA := Lib.hid (HA.out.trans (hb.mono HA.out.size)); clear hw hb q0 q1 q2 q3))
    go_wp2_with (first
      | (go_at_call 17; (with_reducible refine (HC.out _ _ _ HPa.out).mono ?_); rintro e u2 ⟨a2, c2, rfl, hw, hb⟩; have HL0 := Lib.hid (HL0.out.below hb); have HPa := Lib.hid (HPa.out.below hb); have HA := Lib.hid (HA.out.trans (hb.mono HA.out.size)); clear hw hb)
      | (go_at_call 19; (with_reducible refine (waits_yes _ _ _ _ _ _ _ HPa.out HL0.out).mono ?_); rintro e u3 ⟨rfl, hb⟩; have HA := Lib.hid (HA.out.trans (hb.mono HA.out.size)); clear hb)
      | (go_at_call 20; (with_reducible refine (awake_any _).mono ?_); rintro e u4 ⟨rfl, hb⟩; have HA := Lib.hid (HA.out.trans (hb.mono HA.out.size)); clear hb))
    go_ret
    exact ⟨rfl, HA.out⟩
end Go.Proofs.Ytihpjfhibhpciaa
