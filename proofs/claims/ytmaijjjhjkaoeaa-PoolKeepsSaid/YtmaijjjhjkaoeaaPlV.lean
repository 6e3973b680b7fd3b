/- What stays of a pool's count, whatever is done with it. -/
import Derived.Test.YtmaijjjhjkaoeaaPlU
namespace Go.Proofs.Ytmaijjjhjkaoeaa
open Go.ChangeShapes Go.WideShapes Go.ChangeAt Go.RowKit Go.Joins

/-- A pool of so many nodes, and of tags that can be. -/
structure PV.fine (N : Nat) (P : PV) : Prop where
  free : InR P.nf P.ff
  old : InR P.no P.fo
  tag : -9223372036854775808 ≤ P.t
  sum : (P.count : Int) + P.s = N
  spent : 0 ≤ P.s
  few : N ≤ 64
theorem fine_new (fr n : Int) : (PV.new fr n).fine (newN n) := by
  refine ⟨fun i _ => ?_, fun i hi => absurd hi (by simp [PV.new]), by simp [PV.new], ?_, by simp [PV.new], newN_le n⟩
  · show -9223372036854775808 ≤ newF fr i 1
    simp [newF]
  · simp [PV.new, PV.count, PV.c]
theorem fine_takeN (N : Nat) (tags : Int) (n : Nat) : ∀ P : PV, P.fine N → P.nf = n → (PV.takeN tags n P).1.fine N ∧ (PV.takeN tags n P).2 = ((PV.takeN tags n P).1.t != 0) ∧ ((PV.takeN tags n P).2 = false → (PV.takeN tags n P).1.nf = 0) := by
  induction n with
  | zero =>
    intro P h hn
    exact ⟨h, rfl, fun _ => hn⟩
  | succ n ih =>
    intro P h hn
    unfold PV.takeN
    by_cases ht : P.t = 0
    · rw [if_neg (by simpa using ht)]
      have hs := h.sum
      have h0 := h.spent
      have hN := h.few
      simp only [PV.count, PV.c, if_pos ht, hn] at hs
      split
      · rename_i hok
        refine ⟨⟨fun i hi => ?_, h.old, ?_, ?_, h.spent, h.few⟩, ?_, fun h => by cases h⟩
        · exact h.free (i + 1) (by rw [hn]; exact Nat.succ_lt_succ hi)
        · show -9223372036854775808 ≤ P.ff 0 1 + 1
          have := h.free 0 (by omega)
          omega
        · have := (nOk_iff _ _ _).1 hok
          simp only [PV.count, PV.c]
          rw [if_neg (by omega)]
          omega
        · have := (nOk_iff _ _ _).1 hok
          simp
          omega
      · have hw : wrap64 (P.s + 1) = P.s + 1 := by unfold wrap64; omega
        rw [hw]
        refine ih _ ⟨fun i hi => ?_, h.old, h.tag, ?_, ?_, h.few⟩ rfl
        · exact h.free (i + 1) (by rw [hn]; exact Nat.succ_lt_succ hi)
        · simp only [PV.count, PV.c, if_pos ht]
          omega
        · show 0 ≤ P.s + 1
          omega
    · rw [if_pos ht]
      exact ⟨h, by simpa using ht, fun h => by cases h⟩
theorem fine_take {N : Nat} {P : PV} (h : P.fine N) (tags : Int) : (P.take tags).1.fine N ∧ (P.take tags).2 = ((P.take tags).1.t != 0) ∧ ((P.take tags).2 = false → (P.take tags).1.nf = 0) := fine_takeN N tags P.nf P h rfl
theorem fine_away {N : Nat} {P : PV} (h : P.fine N) (ht : P.t ≠ 0) (x : Int) : (P.leave.away P.i P.t x).fine N := by
  have hs := h.sum
  simp only [PV.count, PV.c, if_neg ht] at hs
  refine ⟨h.free, fun i hi => ?_, by simp [PV.leave, PV.away], ?_, h.spent, h.few⟩
  · show -9223372036854775808 ≤ (if i = P.no then (if 1 = 0 then P.i else if 1 = 1 then P.t else x) else P.fo i 1)
    have hi : i < P.no + 1 := hi
    split
    · simpa using h.tag
    · exact h.old i (by omega)
  · simp only [PV.count, PV.c, PV.leave, PV.away, if_true]
    omega
theorem back_in (P : PV) (g : Nat → Bool) (hf : InR P.nf P.ff) (ho : InR P.no P.fo) (k : Nat) (hk : k ≤ P.no) : InR (P.back g k).nf (P.back g k).ff ∧ InR (P.back g k).no (P.back g k).fo := by
  induction k with
  | zero => exact ⟨hf, fun i hi => absurd hi (by simp [PV.back])⟩
  | succ k ih =>
    obtain ⟨h1, h2⟩ := ih (by omega)
    have h3 := ho k (by omega)
    simp only [PV.back]
    split
    · refine ⟨fun i hi => ?_, h2⟩
      show -9223372036854775808 ≤ (if i = (P.back g k).nf then (if 1 = 0 then P.fo k 0 else P.fo k 1) else (P.back g k).ff i 1)
      have hi : i < (P.back g k).nf + 1 := hi
      split
      · simpa using h3
      · exact h1 i (by omega)
    · refine ⟨h1, fun i hi => ?_⟩
      show -9223372036854775808 ≤ (if i = (P.back g k).no then (if 1 = 0 then P.fo k 0 else if 1 = 1 then P.fo k 1 else P.fo k 2) else (P.back g k).fo i 1)
      have hi : i < (P.back g k).no + 1 := hi
      split
      · simpa using h3
      · exact h2 i (by omega)
theorem fine_back {N : Nat} {P : PV} (h : P.fine N) (g : Nat → Bool) : (P.back g P.no).fine N := by
  obtain ⟨hs1, hs2, hs3⟩ := back_same P g P.no
  have hc := back_count P g P.no
  obtain ⟨h1, h2⟩ := back_in P g h.free h.old P.no (Nat.le_refl _)
  have hs := h.sum
  simp only [PV.count, PV.c] at hs
  refine ⟨h1, h2, by rw [hs2]; exact h.tag, ?_, by rw [hs3]; exact h.spent, h.few⟩
  simp only [PV.count, PV.c, hs2, hs3]
  split <;> simp_all <;> omega
theorem fine_few {N : Nat} {P : PV} (h : P.fine N) : P.count ≤ 64 ∧ P.nf ≤ 64 ∧ P.no ≤ 64 ∧ 0 ≤ P.s ∧ P.s ≤ 64 := by
  have h1 := h.sum
  have h2 := h.spent
  have h3 := h.few
  have h4 : P.c + P.nf + P.no = P.count := rfl
  omega
theorem why_yes {P : PV} (h : P.t ≠ 0) : P.why = 0 := by simp [PV.why, h]
theorem why_no {P : PV} (h : P.t = 0) (hn : P.nf = 0) : P.why ≠ 0 := by
  unfold PV.why
  rw [if_pos h, if_pos hn]
  split <;> decide
end Go.Proofs.Ytmaijjjhjkaoeaa
