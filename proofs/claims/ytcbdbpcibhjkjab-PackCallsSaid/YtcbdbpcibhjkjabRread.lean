/- The contract of the reference's ReadCall over the seat's program, for any words. -/
import Derived.Test.YtcbdbpcibhjkjabRone
import Derived.Test.YtcbdbpcibhjkjabRc
import Derived.Deep.AppendLies
import Derived.Deep.DrawnRows
import Derived.Lib.BufferWrite
namespace Go.Proofs.Ytcbdbpcibhjkjab
open Go.ChangeShapes Go.WideShapes Go.ChangeAt Go.RowKit Go.Joins
attribute [local go_sem ↓] Go.wp_at_zero Go.wp_at_succ

theorem heap_new4 (w : World) (a b c d : Obj) : ((((w.alloc a).alloc b).alloc c).alloc d).heap[w.heap.size + 1 + 1 + 1]? = some d := by
  rw [show w.heap.size + 1 + 1 + 1 = (((w.alloc a).alloc b).alloc c).heap.size by simp]
  exact heap_alloc_new _ _

theorem rread_short {v : Value} {xs : List Int} (w : World) (h : WordsAt w v xs) (hl : xs.length ≠ 5) : Calls Try.prog 24 #[v] w (RetGot ⟨0, 0, 0, false, [], 0, false⟩ w) := by
  obtain ⟨a, cap, rfl⟩ := h.form
  have h1 : ((xs.length : Int) != 5) = true := by simp; omega
  generalize xs.length = n at *
  clear h hl
  go_enter Try.func24, Try.ntmps24
  go_wp2
  refine bodyPost_ret (v := .tuple #[.agg #[.int .i64 0, .int .i64 0, .int .i64 0, .bool false, .slice none 0 0], .int .i64 0, .bool false]) (by simp [results, Try.results24, go_sem]) rfl ⟨_, rfl, .inl ⟨rfl, _, _, rfl⟩, ?_⟩
  exact (Below.refl _ _).alloc (Nat.le_refl _) _

set_option maxHeartbeats 3200000 in
theorem rread_hdr (b off cap : Nat) (l0 l4 : Int) (w : World) (hb : b < w.heap.size) (b0 : 0 ≤ l0 ∧ l0 < 18446744073709551616) (b4 : 0 ≤ l4 ∧ l4 < 18446744073709551616)
    (c0 : w.cell? ⟨b, off, none⟩ = some (.int .u64 l0)) (c4 : w.cell? ⟨b, off + 4, none⟩ = some (.int .u64 l4)) (hh : ¬ hdr l0 l4) :
    Calls Try.prog 24 #[.slice (some ⟨b, off, none⟩) 5 cap] w (RetGot ⟨0, 0, 0, false, [], 0, false⟩ w) := by
  have HH := Lib.hid hh
  obtain ⟨b01, b02⟩ := b0
  obtain ⟨b41, b42⟩ := b4
  have d1 : 0 ≤ l0 % 256 := by omega
  have d2 : l0 % 256 < 256 := by omega
  have d3 : 0 ≤ l0 / 65536 % 65536 := by omega
  have d4 : l0 / 65536 % 65536 < 65536 := by omega
  have d5 : 0 ≤ l0 / 4294967296 := by omega
  have d6 : l0 / 4294967296 < 4294967296 := by omega
  have d7 : 0 ≤ l0 / 256 % 16 := by omega
  have d8 : l0 / 256 % 16 < 16 := by omega
  have hb1 : b < w.heap.size + 1 := by omega
  clear hh
  go_enter Try.func24, Try.ntmps24
  go_wp2
  all_goals first
    | exact (HH.out ⟨by omega, by omega, by omega, by omega, by omega⟩).elim
    | (refine bodyPost_ret (v := .tuple #[.agg #[.int .i64 0, .int .i64 0, .int .i64 0, .bool false, .slice none 0 0], .int .i64 0, .bool false]) (by simp [results, Try.results24, go_sem]) rfl ⟨_, rfl, .inl ⟨rfl, _, _, rfl⟩, ?_⟩
       repeat' (first | with_reducible exact Below.refl _ _ | with_reducible refine Below.drew ?_ | with_reducible refine Below.alloc ?_ ?_ _ | with_reducible refine Below.setCell ?_ ?_ _ | (simp; done) | (simp; omega) | omega))

/-- What is to be known at each head of the loop but the row of cases: the result's place, the record, and that what was there is as it was. -/
def RdBase (w : World) (l0 : Int) (wr : World) : Prop :=
  (wr.cell? ⟨w.heap.size, 0, none⟩ = some (.int .i64 0) ∧ wr.cell? ⟨w.heap.size, 1, none⟩ = some (.int .i64 0) ∧ wr.cell? ⟨w.heap.size, 2, none⟩ = some (.int .i64 0) ∧ wr.cell? ⟨w.heap.size, 3, none⟩ = some (.bool false) ∧ wr.cell? ⟨w.heap.size, 4, none⟩ = some (.slice none 0 0)) ∧
  (wr.frozen? ⟨w.heap.size, 0, none⟩ = false ∧ wr.frozen? ⟨w.heap.size, 1, none⟩ = false ∧ wr.frozen? ⟨w.heap.size, 2, none⟩ = false ∧ wr.frozen? ⟨w.heap.size, 3, none⟩ = false ∧ wr.frozen? ⟨w.heap.size, 4, none⟩ = false) ∧
  (wr.cell? ⟨w.heap.size + 1, 0, none⟩ = some (.int .i64 (l0 % 256)) ∧ wr.cell? ⟨w.heap.size + 1, 1, none⟩ = some (.int .i64 (l0 / 65536 % 65536)) ∧ wr.cell? ⟨w.heap.size + 1, 2, none⟩ = some (.int .i64 (l0 / 4294967296)) ∧ wr.cell? ⟨w.heap.size + 1, 3, none⟩ = some (.bool (l0 / 4096 % 16 == 1))) ∧ wr.frozen? ⟨w.heap.size + 1, 4, none⟩ = false ∧ Below w.heap.size w wr ∧ w.heap.size + 1 + 1 ≤ wr.heap.size
theorem RdBase.grown {w wr w' : World} {l0 : Int} {row : Option Nat} (h : RdBase w l0 wr) (hg : wr.grownBy w' row) (hr : ∀ j, row = some j → w.heap.size + 1 + 1 ≤ j) : RdBase w l0 w' := by
  obtain ⟨⟨r0, r1, r2, r3, r4⟩, ⟨f0, f1, f2, f3, f4⟩, ⟨q0, q1, q2, q3⟩, qf, hb, hz⟩ := h
  have n0 : some w.heap.size ≠ row := fun e => by have := hr _ e.symm; omega
  have n1 : some (w.heap.size + 1) ≠ row := fun e => by have := hr _ e.symm; omega
  have cr : ∀ o, w'.cell? ⟨w.heap.size, o, none⟩ = wr.cell? ⟨w.heap.size, o, none⟩ := fun o => hg.cell_far _ (by simp; omega) n0
  have fr : ∀ o, w'.frozen? ⟨w.heap.size, o, none⟩ = wr.frozen? ⟨w.heap.size, o, none⟩ := fun o => hg.frozen_far _ (by simp; omega) n0
  have cq : ∀ o, w'.cell? ⟨w.heap.size + 1, o, none⟩ = wr.cell? ⟨w.heap.size + 1, o, none⟩ := fun o => hg.cell_far _ (by simp; omega) n1
  have fq : ∀ o, w'.frozen? ⟨w.heap.size + 1, o, none⟩ = wr.frozen? ⟨w.heap.size + 1, o, none⟩ := fun o => hg.frozen_far _ (by simp; omega) n1
  refine ⟨⟨?_, ?_, ?_, ?_, ?_⟩, ⟨?_, ?_, ?_, ?_, ?_⟩, ⟨?_, ?_, ?_, ?_⟩, ?_, Below.grown hb hg (by omega) (fun j hj => by have := hr j hj; omega), Nat.le_trans hz hg.size⟩
  all_goals first | rw [cr] | rw [fr] | rw [cq] | rw [fq]
  all_goals assumption
theorem RdBase.store {w wr : World} {l0 : Int} (h : RdBase w l0 wr) (u : Value) : RdBase w l0 (wr.setCell ⟨w.heap.size + 1, 4, none⟩ u) := by
  obtain ⟨⟨r0, r1, r2, r3, r4⟩, ⟨f0, f1, f2, f3, f4⟩, ⟨q0, q1, q2, q3⟩, qf, hb, hz⟩ := h
  have cr : ∀ o, (wr.setCell ⟨w.heap.size + 1, 4, none⟩ u).cell? ⟨w.heap.size, o, none⟩ = wr.cell? ⟨w.heap.size, o, none⟩ := fun o => World.cell?_setCell_far _ _ _ _ (by simp)
  have cq : ∀ o, o ≠ 4 → (wr.setCell ⟨w.heap.size + 1, 4, none⟩ u).cell? ⟨w.heap.size + 1, o, none⟩ = wr.cell? ⟨w.heap.size + 1, o, none⟩ := fun o ho => World.cell?_setCell_other _ _ _ _ (fun e => ho (by injection e with _ e2; exact e2.symm))
  have fr : ∀ a, (wr.setCell ⟨w.heap.size + 1, 4, none⟩ u).frozen? a = wr.frozen? a := fun a => by simp
  refine ⟨⟨?_, ?_, ?_, ?_, ?_⟩, ⟨?_, ?_, ?_, ?_, ?_⟩, ⟨?_, ?_, ?_, ?_⟩, ?_, hb.setCell (by simp) _, by simpa [World.setCell] using hz⟩
  all_goals first | rw [cr] | rw [fr] | rw [cq _ (by decide)]
  all_goals assumption
end Go.Proofs.Ytcbdbpcibhjkjab
