/- What is left behind a look by slots, and what is free. -/
import Derived.Test.YtdfbddepeacebaaRtMost
import Derived.Test.YtdfbddepeacebaaRtCnt
namespace Go.Proofs.Ytdfbddepeacebaa
open Go.ChangeShapes Go.WideShapes Go.ChangeAt Go.RowKit Go.Joins

theorem cntB_or (p q : Nat → Bool) (n : Nat) : cntB (fun k => p k || q k) n ≤ cntB p n + cntB (fun k => q k && !p k) n := by
  induction n with
  | zero => exact Nat.le_refl _
  | succ n ih =>
    simp only [cntB]
    by_cases hp : p n = true
    · rw [if_pos (by simp [hp]), if_pos hp]
      omega
    · have hp : p n = false := by simpa using hp
      by_cases hq : q n = true
      · rw [if_pos (by simp [hq]), if_neg (by simp [hp]), if_pos (by simp [hp, hq])]
        omega
      · have hq : q n = false := by simpa using hq
        rw [if_neg (by simp [hp, hq]), if_neg (by simp [hp])]
        omega
theorem cntB_none {p : Nat → Bool} {n : Nat} (h : ∀ i, i < n → p i = false) : cntB p n = 0 := by
  induction n with
  | zero => rfl
  | succ n ih =>
    simp only [cntB]
    rw [ih (fun i hi => h i (by omega)), h n (by omega)]
    simp
theorem cntB_one {p : Nat → Bool} {n : Nat} (h : ∀ i j, i < n → j < n → p i = true → p j = true → i = j) : cntB p n ≤ 1 := by
  induction n with
  | zero => exact Nat.zero_le _
  | succ n ih =>
    simp only [cntB]
    by_cases hp : p n = true
    · rw [if_pos hp, cntB_none (fun i hi => by
        cases hq : p i
        · rfl
        · have := h i n (by omega) (by omega) hq hp
          omega)]
      omega
    · rw [if_neg hp]
      have := ih (fun i j hi hj => h i j (by omega) (by omega))
      omega
theorem cntB_zero (p : Nat → Bool) : cntB p 0 = 0 := rfl
theorem rOk_word {i t : Int} (h : goodB i t = true) : rOk (wordI i t) = true := by
  have g := (goodB_iff _ _).1 h
  rw [wordI_yes h]
  unfold rOk
  rw [show (t * 65536 + i + 1) % 65536 - 1 = i by omega, show (t * 65536 + i + 1) / 65536 = t by omega, h]
theorem word_inj {i t i' t' : Int} (h : goodB i t = true) (h' : goodB i' t' = true) (e : wordI i t = wordI i' t') : i = i' ∧ t = t' := by
  have g := (goodB_iff _ _).1 h
  have g' := (goodB_iff _ _).1 h'
  rw [wordI_yes h, wordI_yes h'] at e
  omega
/-- Names that may be, and are unlike each other. -/
def Unlike (P : PV) (k : Nat) : Prop := (∀ i, i < k → goodB (P.fo i 0) (P.fo i 1) = true) ∧ ∀ i j, j < i → i < k → ¬ (P.fo j 0 = P.fo i 0 ∧ P.fo j 1 = P.fo i 1)
theorem held_few (P : PV) (f : Nat → Int) (m : Nat) (h : Unlike P m) (n : Nat) : cntB (fun k => hasB f n (wordI (P.fo k 0) (P.fo k 1))) m ≤ mostN f n := by
  induction n with
  | zero =>
    rw [cntB_none (p := fun k => hasB f 0 (wordI (P.fo k 0) (P.fo k 1))) (fun i _ => rfl)]
    exact Nat.zero_le _
  | succ n ih =>
    rw [cntB_same (q := fun k => hasB f n (wordI (P.fo k 0) (P.fo k 1)) || f n == wordI (P.fo k 0) (P.fo k 1)) (fun i _ => hasB_succ _ _ _)]
    refine Nat.le_trans (cntB_or _ _ _) ?_
    simp only [mostN]
    have h1 : cntB (fun k => f n == wordI (P.fo k 0) (P.fo k 1) && !hasB f n (wordI (P.fo k 0) (P.fo k 1))) m ≤ if (rOk (f n) && !hasB f n (f n)) = true then 1 else 0 := by
      by_cases hc : (rOk (f n) && !hasB f n (f n)) = true
      · rw [if_pos hc]
        refine cntB_one fun i j hi hj hp hq => ?_
        simp only [Bool.and_eq_true, beq_iff_eq] at hp hq
        have e := word_inj (h.1 i hi) (h.1 j hj) (hp.1.symm.trans hq.1)
        rcases Nat.lt_trichotomy i j with hl | hl | hl
        · exact absurd e (h.2 j i hl hj)
        · exact hl
        · exact absurd ⟨e.1.symm, e.2.symm⟩ (h.2 i j hl hi)
      · rw [if_neg hc, cntB_none (fun i hi => ?_)]
        · exact Nat.le_refl _
        · cases hq : (f n == wordI (P.fo i 0) (P.fo i 1) && !hasB f n (wordI (P.fo i 0) (P.fo i 1)))
          · rfl
          · simp only [Bool.and_eq_true, beq_iff_eq] at hq
            exfalso
            apply hc
            rw [hq.1, rOk_word (h.1 i hi), hq.2]
            rfl
    omega
theorem byS_few (P : PV) (f : Nat → Int) (n : Nat) (h : Unlike P P.no) : (P.byS f n).no ≤ mostN f n := by
  have h1 := back_cnt P (fun k => !hasB f n (wordI (P.fo k 0) (P.fo k 1))) P.no
  show (P.back (fun k => !hasB f n (wordI (P.fo k 0) (P.fo k 1))) P.no).no ≤ _
  rw [h1, cntB_same (q := fun k => hasB f n (wordI (P.fo k 0) (P.fo k 1))) (fun i _ => by simp)]
  exact held_few P f P.no h n
theorem byS_sum (P : PV) (f : Nat → Int) (n : Nat) : (P.byS f n).nf + (P.byS f n).no = P.nf + P.no := back_count P _ P.no
theorem byS_no (P : PV) (f : Nat → Int) (n : Nat) : (P.byS f n).no ≤ P.no := back_no P _ P.no
theorem back_free (P : PV) (g : Nat → Bool) (n : Nat) : ∀ i, P.nf ≤ i → i < (P.back g n).nf → ∃ k, k < n ∧ g k = true ∧ (P.back g n).ff i 0 = P.fo k 0 ∧ (P.back g n).ff i 1 = P.fo k 1 := by
  induction n with
  | zero => exact fun i h1 h2 => absurd h2 (by simp [PV.back]; omega)
  | succ n ih =>
    intro i h1 h2
    cases hg : g n
    · rw [back_f hg] at h2 ⊢
      obtain ⟨k, hk, h⟩ := ih i h1 h2
      exact ⟨k, by omega, h⟩
    · rw [back_t hg] at h2 ⊢
      have h2 : i < (P.back g n).nf + 1 := h2
      by_cases e : i = (P.back g n).nf
      · refine ⟨n, by omega, hg, ?_, ?_⟩
        · show (if i = (P.back g n).nf then (if 0 = 0 then P.fo n 0 else P.fo n 1) else _) = _
          rw [if_pos e]
          rfl
        · show (if i = (P.back g n).nf then (if 1 = 0 then P.fo n 0 else P.fo n 1) else _) = _
          rw [if_pos e]
          rfl
      · obtain ⟨k, hk, hgk, e0, e1⟩ := ih i h1 (by omega)
        refine ⟨k, by omega, hgk, ?_, ?_⟩
        · show (if i = (P.back g n).nf then _ else (P.back g n).ff i 0) = _
          rw [if_neg e]
          exact e0
        · show (if i = (P.back g n).nf then _ else (P.back g n).ff i 1) = _
          rw [if_neg e]
          exact e1
theorem byS_free (P : PV) (f : Nat → Int) (n : Nat) (i : Nat) (h1 : P.nf ≤ i) (h2 : i < (P.byS f n).nf) : ∀ j, j < n → f j ≠ wordI ((P.byS f n).ff i 0) ((P.byS f n).ff i 1) := by
  obtain ⟨k, _, hg, e0, e1⟩ := back_free P (fun k => !hasB f n (wordI (P.fo k 0) (P.fo k 1))) P.no i h1 h2
  intro j hj e
  rw [show (P.byS f n).ff i 0 = P.fo k 0 from e0, show (P.byS f n).ff i 1 = P.fo k 1 from e1] at e
  rw [hasB_yes hj e] at hg
  cases hg
theorem unlike_zero (P : PV) : Unlike P 0 := ⟨fun i hi => absurd hi (by omega), fun i j _ hi => absurd hi (by omega)⟩
theorem unlike_succ {P : PV} {k : Nat} (h : Unlike P k) (hg : goodB (P.fo k 0) (P.fo k 1) = true) (hn : ∀ j, j < k → ¬ (P.fo j 0 = P.fo k 0 ∧ P.fo j 1 = P.fo k 1)) : Unlike P (k + 1) := by
  refine ⟨fun i hi => ?_, fun i j hj hi => ?_⟩
  · by_cases e : i = k
    · exact e ▸ hg
    · exact h.1 i (by omega)
  · by_cases e : i = k
    · subst e
      exact hn j hj
    · exact h.2 i j hj (by omega)
end Go.Proofs.Ytdfbddepeacebaa
