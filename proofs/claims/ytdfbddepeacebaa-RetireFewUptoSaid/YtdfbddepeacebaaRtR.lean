/- The contracts of Count, of the reference's Count and Why, and of Equal, over the seat's program. -/
import Derived.Test.YtdfbddepeacebaaRtQ
namespace Go.Proofs.Ytdfbddepeacebaa
open Go.ChangeShapes Go.WideShapes Go.ChangeAt Go.RowKit Go.Joins

/-- Two rows are the same. -/
def SameRows (s n m : Nat) (f g : Nat → Nat → Int) : Prop := n = m ∧ ∀ i, i < n → ∀ j, j < s → f i j = g i j
/-- What is returned is whether 'C' holds. -/
def RetEq (C : Prop) (w : World) (e : Ending) (w' : World) : Prop := ∃ b, e = .returned (.bool b) ∧ (b = true ↔ C) ∧ Below w.heap.size w w'
set_option maxRecDepth 100000 in
theorem rcount_any (v : Value) (P : PV) (w : World) (h : PoolAt w v P) : Calls Try.prog 25 #[v] w fun e w' => e = .returned (.int .i64 P.count) ∧ Below w.heap.size w w' := by
  obtain ⟨fa, fc, oa, oc, rfl, hf, ho⟩ := h
  have hn1 := hf.1
  have hn2 := ho.1
  have HC := Lib.hid (show P.count = P.c + P.nf + P.no from rfl)
  have HC0 := Lib.hid (show P.t = 0 → P.c = 0 from fun h => by simp [PV.c, h])
  have HC1 := Lib.hid (show P.t ≠ 0 → P.c = 1 from fun h => by simp [PV.c, h])
  clear hf ho
  go_enter Try.func25, Try.ntmps25
  by_cases ht : P.t = 0
  · have e1 : (P.t != 0) = false := by simp [ht]
    go_wp2
    go_ret
    exact ⟨ret_int (by rw [HC.out, HC0.out ht]; omega), (Below.refl _ _).alloc (Nat.le_refl _) _⟩
  · have e1 : (P.t != 0) = true := by simp [ht]
    go_wp2
    go_ret
    exact ⟨ret_int (by rw [HC.out, HC1.out ht]; omega), (Below.refl _ _).alloc (Nat.le_refl _) _⟩
end Go.Proofs.Ytdfbddepeacebaa
