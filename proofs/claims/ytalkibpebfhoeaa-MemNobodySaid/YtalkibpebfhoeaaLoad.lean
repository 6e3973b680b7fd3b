/- Contracts of Load at an address that is not there, and of what Keep leaves, over the seat's program. -/
import Derived.Test.YtalkibpebfhoeaaNoted
namespace Go.Proofs.Ytalkibpebfhoeaa
open Go.ChangeShapes Go.WideShapes Go.ChangeAt Go.RowKit Go.Joins
attribute [local go_sem ↓] Go.wp_at_zero Go.wp_at_succ

theorem MObj.setKeep {w : World} {B p bw n : Nat} {lv : Value} {cnt f : Nat → Int} {keep : Bool} (h : MObj w B p bw n lv cnt keep f) (u : Bool) : MObj (w.setCell ⟨p, 66, none⟩ (.bool u)) B p bw n lv cnt u f := by
  have hb : ∀ o, (w.setCell ⟨p, 66, none⟩ (.bool u)).cell? ⟨bw, o, none⟩ = w.cell? ⟨bw, o, none⟩ := fun o => World.cell?_setCell_far _ _ _ _ (Ne.symm h.ne)
  have hp : ∀ o, o ≠ 66 → (w.setCell ⟨p, 66, none⟩ (.bool u)).cell? ⟨p, o, none⟩ = w.cell? ⟨p, o, none⟩ := fun o ho => World.cell?_setCell_other _ _ _ _ (fun e => ho (by injection e with _ e2; exact e2.symm))
  have g : ∀ a, (w.setCell ⟨p, 66, none⟩ (.bool u)).frozen? a = w.frozen? a := fun a => by simp
  exact ⟨by rw [hp _ (by omega)]; exact h.words, by rw [hp _ (by omega)]; exact h.log, fun j hj => by rw [hp _ (by omega)]; exact h.count j hj, World.cell?_setCell_same _ _ _ h.keep, fun i hi => by rw [g]; exact h.free i hi, fun j hj => by rw [hb]; exact h.row j hj,
    fun i hi => by rw [g]; exact h.rowfree i hi, ⟨h.hp.1, by rw [size_set]; exact h.hp.2⟩, ⟨h.hbw.1, by rw [size_set]; exact h.hbw.2⟩, h.ne, h.hn⟩

set_option maxHeartbeats 1600000 in
theorem acc25_far (p bw n : Nat) (t a : Int) (hn : 0 < n) (ha : (n : Int) ≤ a) (w : World) (c0 : w.cell? ⟨p, 0, none⟩ = some (.slice (some ⟨bw, 0, none⟩) n n)) (hp : p < w.heap.size) :
    Calls Try.prog 21 #[.pointer (some ⟨p, 0, none⟩), .agg #[.int .i64 t, .int .i64 1, .int .i64 a, .int .u64 0, .int .u64 0, .int .u64 0, .bool false], .func (.func 25) #[] #[]] w
      fun e w' => e = .returned (.tuple #[.agg #[.int .i64 0, .int .i64 0, .int .i64 0, .int .u64 0, .int .u64 0, .int .u64 0, .bool false], .int .i64 5]) ∧ Below w.heap.size w w' := by
  have HM := Lib.hid (fun W (h : W.cell? ⟨p, 0, none⟩ = some (.slice (some ⟨bw, 0, none⟩) n n)) => made_yes p bw n hn W h)
  have HH := Lib.hid (fun W (h : W.cell? ⟨p, 0, none⟩ = some (.slice (some ⟨bw, 0, none⟩) n n)) => show Calls Try.prog 23 #[.pointer (some ⟨p, 0, none⟩), .int .i64 a] W fun e w' => e = .returned (.bool false) ∧ W = w' by
    have := has_yes p bw n a hn W h
    rw [show (decide (0 ≤ a) && decide (a < n)) = false by simp; omega] at this
    exact this)
  have p2 : p < w.heap.size + 1 := by omega
  go_enter Try.func21, Try.ntmps21
  go_wp2_with (first
    | (go_at_call 20; (with_reducible refine (HM.out _ (by go_simp)).mono ?_); rintro e w1 ⟨rfl, rfl⟩)
    | (go_at_call 23; (with_reducible refine (HH.out _ (by go_simp)).mono ?_); rintro e w1 ⟨rfl, rfl⟩))
  refine bodyPost_ret (v := .tuple #[.agg #[.int .i64 0, .int .i64 0, .int .i64 0, .int .u64 0, .int .u64 0, .int .u64 0, .bool false], .int .i64 5]) (by simp [results, Try.results21, go_sem]) rfl ⟨rfl, ?_⟩
  repeat' (first | with_reducible exact Below.refl _ _ | with_reducible refine Below.drew ?_ | with_reducible refine Below.alloc ?_ ?_ _ | with_reducible refine Below.setCell ?_ ?_ _ | (simp; done) | (simp; omega) | omega)
set_option maxHeartbeats 1600000 in
theorem load_far (p bw n : Nat) (t a : Int) (hn : 0 < n) (ha : (n : Int) ≤ a) (w : World) (c0 : w.cell? ⟨p, 0, none⟩ = some (.slice (some ⟨bw, 0, none⟩) n n)) (hp : p < w.heap.size) :
    Calls Try.prog 12 #[.pointer (some ⟨p, 0, none⟩), .int .i64 t, .int .i64 a] w fun e w' => e = .returned (.tuple #[.int .u64 0, .int .i64 5]) ∧ Below w.heap.size w w' := by
  have HA := Lib.hid (acc25_far p bw n t a hn ha w c0 hp)
  go_enter Try.func12, Try.ntmps12
  go_wp2_with (go_at_call 21; (with_reducible refine HA.out.mono ?_); rintro e w1 ⟨rfl, hb⟩; have HB := Lib.hid hb; have hz := hb.size; clear hb)
  go_ret2
  exact ⟨rfl, Below.alloc HB.out hz _⟩
end Go.Proofs.Ytalkibpebfhoeaa
