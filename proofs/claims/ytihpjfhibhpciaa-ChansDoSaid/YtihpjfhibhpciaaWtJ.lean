/- What Copy, Put and Cut return reads as calls that wait. -/
import Derived.Test.YtihpjfhibhpciaaWtF
import Derived.Test.YtihpjfhibhpciaaWtI
namespace Go.Proofs.Ytihpjfhibhpciaa
open Go.ChangeShapes Go.WideShapes Go.ChangeAt Go.RowKit Go.Joins

theorem OwnW.at {B : Nat} {w : World} {v : Value} {n : Nat} {V : Nat → WV} {A : Nat → Option Addr} {C : Nat → Nat} (hn : n * 48 ≤ 140737488355328) (h : OwnW B w v n (wcell V A C)) (hc : ∀ i, i < n → CaseNew B w v (V i) (A i) (C i)) : ∃ a cap, v = .slice a n cap ∧ WaitsAt w a n cap V := by
  rcases h with ⟨rfl, a, cap, rfl, ha⟩ | ⟨gd, cap, rfl, hb, hnc, hcl, _⟩
  · exact ⟨a, cap, rfl, hn, fun e => ⟨rfl, ha e⟩, by omega, fun h0 => absurd h0 (by omega)⟩
  · refine ⟨some ⟨gd, 0, none⟩, cap, rfl, hn, (fun e => by cases e), hnc, fun _ => ⟨gd, 0, rfl, hb.2, fun i hi => ?_⟩⟩
    rw [Nat.zero_add]
    exact ⟨A i, C i, hcl i 0 hi (by omega), hcl i 1 hi (by omega), hcl i 2 hi (by omega), hcl i 3 hi (by omega), (hc i hi).1⟩
theorem WaitsAt.same {w : World} {a : Option Addr} {n cap : Nat} {V U : Nat → WV} (h : WaitsAt w a n cap V) (hv : ∀ i, i < n → V i = U i) : WaitsAt w a n cap U := by
  refine ⟨h.1, h.2.1, h.2.2.1, fun h0 => ?_⟩
  obtain ⟨b, off, ha, hb, hi⟩ := h.2.2.2 h0
  exact ⟨b, off, ha, hb, fun i hl => by rw [← hv i hl]; exact hi i hl⟩
/-- A part of one call that waits. -/
theorem WaitsAt.one {w : World} {b off n cap : Nat} {V : Nat → WV} (h : WaitsAt w (some ⟨b, off, none⟩) n cap V) {i c : Nat} (hi : i < n) (hc : 1 ≤ c) : WaitsAt w (some ⟨b, off + i * 4, none⟩) 1 c (fun _ => V i) := by
  obtain ⟨b', off', ha, hb, hw⟩ := h.get hi
  injection ha with ha
  injection ha with ha ho _
  subst ha ho
  refine ⟨by omega, (fun e => by cases e), hc, fun _ => ⟨b, off + i * 4, rfl, hb, fun j hj => ?_⟩⟩
  obtain rfl : j = 0 := by omega
  rw [Nat.zero_mul, Nat.add_zero]
  exact hw i hi
/-- Whether a call begins, or ends, to wait, and what then waits. -/
def PutOk (n : Nat) (V : Nat → WV) (t : Int) : Prop := 0 ≤ t ∧ t < n ∧ (V t.toNat).on = false
def CutOk (n : Nat) (V : Nat → WV) (t : Int) : Prop := 0 ≤ t ∧ t < n ∧ (V t.toNat).on = true
/-- A row and a yes or no that are returned: they read as. -/
def RetAt2 (n : Nat) (V : Nat → WV) (ok : Bool) (w : World) (e : Ending) (w' : World) : Prop :=
  ∃ a cap, e = .returned (.tuple #[.slice a n cap, .bool ok]) ∧ WaitsAt w' a n cap V ∧ Below w.heap.size w w'
theorem RetWB.at {n : Nat} {V : Nat → WV} {ok : Bool} {w w' : World} {e : Ending} (hn : n * 48 ≤ 140737488355328) (h : RetWB n V ok w e w') : RetAt2 n V ok w e w' := by
  obtain ⟨v, A, C, rfl, ho, hc, hb⟩ := h
  obtain ⟨a, cap, rfl, hw⟩ := OwnW.at hn ho hc
  exact ⟨a, cap, rfl, hw, hb⟩
section
open Classical
noncomputable def putV (n : Nat) (V : Nat → WV) (t : Int) (U : WV) : Nat → WV := if PutOk n V t then setV V t.toNat U.up else V
noncomputable def cutV (n : Nat) (V : Nat → WV) (t : Int) : Nat → WV := if CutOk n V t then setV V t.toNat WV.zero else V
section
variable {a : Option Addr} {n cap : Nat} {V : Nat → WV} {t : Int} {w : World} {wv : Value} {U : WV}
theorem put_any (h : WaitsAt w a n cap V) (hu : OneAt w wv U) : Calls Try.prog 15 #[.slice a n cap, .int .i64 t, wv] w (RetAt2 n (putV n V t U) (decide (PutOk n V t)) w) := by
  by_cases e : PutOk n V t
  · obtain ⟨i, rfl⟩ : ∃ i : Nat, t = (i : Int) := ⟨t.toNat, by have := e.1; omega⟩
    rw [putV, if_pos e, decide_eq_true e]
    have h3 := e.2.2
    rw [Int.toNat_natCast] at h3 ⊢
    exact (put_yes a n cap V i wv U w h hu (by have := e.2.1; omega) h3).mono fun _ _ hr => hr.at h.1
  · rw [putV, if_neg e, decide_eq_false e]
    exact (put_no a n cap V t wv U w h hu e).mono fun _ _ hr => hr.at h.1
theorem rput_any (h : WaitsAt w a n cap V) (hu : OneAt w wv U) : Calls Try.prog 16 #[.slice a n cap, .int .i64 t, wv] w (RetAt2 n (putV n V t U) (decide (PutOk n V t)) w) := by
  by_cases e : PutOk n V t
  · obtain ⟨i, rfl⟩ : ∃ i : Nat, t = (i : Int) := ⟨t.toNat, by have := e.1; omega⟩
    rw [putV, if_pos e, decide_eq_true e]
    have h3 := e.2.2
    rw [Int.toNat_natCast] at h3 ⊢
    exact (rput_yes a n cap V i wv U w h hu (by have := e.2.1; omega) h3).mono fun _ _ hr => hr.at h.1
  · rw [putV, if_neg e, decide_eq_false e]
    exact (rput_no a n cap V t wv U w h hu e).mono fun _ _ hr => hr.at h.1
theorem cut_any (h : WaitsAt w a n cap V) : Calls Try.prog 17 #[.slice a n cap, .int .i64 t] w (RetAt2 n (cutV n V t) (decide (CutOk n V t)) w) := by
  by_cases e : CutOk n V t
  · obtain ⟨i, rfl⟩ : ∃ i : Nat, t = (i : Int) := ⟨t.toNat, by have := e.1; omega⟩
    rw [cutV, if_pos e, decide_eq_true e]
    have h3 := e.2.2
    rw [Int.toNat_natCast] at h3 ⊢
    exact (cut_yes a n cap V i w h (by have := e.2.1; omega) h3).mono fun _ _ hr => hr.at h.1
  · rw [cutV, if_neg e, decide_eq_false e]
    exact (cut_no a n cap V t w h e).mono fun _ _ hr => hr.at h.1
theorem rcut_any (h : WaitsAt w a n cap V) : Calls Try.prog 18 #[.slice a n cap, .int .i64 t] w (RetAt2 n (cutV n V t) (decide (CutOk n V t)) w) := by
  by_cases e : CutOk n V t
  · obtain ⟨i, rfl⟩ : ∃ i : Nat, t = (i : Int) := ⟨t.toNat, by have := e.1; omega⟩
    rw [cutV, if_pos e, decide_eq_true e]
    have h3 := e.2.2
    rw [Int.toNat_natCast] at h3 ⊢
    exact (rcut_yes a n cap V i w h (by have := e.2.1; omega) h3).mono fun _ _ hr => hr.at h.1
  · rw [cutV, if_neg e, decide_eq_false e]
    exact (rcut_no a n cap V t w h e).mono fun _ _ hr => hr.at h.1
end
end
end Go.Proofs.Ytihpjfhibhpciaa
