/- How many of the nodes that are put away come back. -/
import Derived.Test.YtdfbddepeacebaaRtU
namespace Go.Proofs.Ytdfbddepeacebaa
open Go.ChangeShapes Go.WideShapes Go.ChangeAt Go.RowKit Go.Joins

/-- How many of so many are told. -/
def cntB (p : Nat → Bool) : Nat → Nat
  | 0 => 0
  | n + 1 => cntB p n + if p n = true then 1 else 0
theorem cntB_same {p q : Nat → Bool} {n : Nat} (h : ∀ i, i < n → p i = q i) : cntB p n = cntB q n := by
  induction n with
  | zero => rfl
  | succ n ih =>
    simp only [cntB]
    rw [ih (fun i hi => h i (by omega)), h n (by omega)]
theorem cntB_le {p q : Nat → Bool} {n : Nat} (h : ∀ i, i < n → p i = true → q i = true) : cntB p n ≤ cntB q n := by
  induction n with
  | zero => exact Nat.le_refl _
  | succ n ih =>
    have h1 := ih (fun i hi => h i (by omega))
    simp only [cntB]
    by_cases hp : p n = true
    · rw [if_pos hp, if_pos (h n (by omega) hp)]
      omega
    · rw [if_neg hp]
      omega
theorem back_t {P : PV} {g : Nat → Bool} {n : Nat} (h : g n = true) : P.back g (n + 1) = (P.back g n).push (P.fo n 0) (P.fo n 1) := by
  show (if g n = true then _ else _) = _
  rw [if_pos h]
theorem back_f {P : PV} {g : Nat → Bool} {n : Nat} (h : g n = false) : P.back g (n + 1) = (P.back g n).away (P.fo n 0) (P.fo n 1) (P.fo n 2) := by
  show (if g n = true then _ else _) = _
  rw [if_neg (by simp [h])]
theorem back_cnt (P : PV) (g : Nat → Bool) (n : Nat) : (P.back g n).no = cntB (fun k => !g k) n := by
  induction n with
  | zero => rfl
  | succ n ih =>
    cases hg : g n
    · rw [back_f hg]
      show (P.back g n).no + 1 = cntB (fun k => !g k) n + if (!g n) = true then 1 else 0
      rw [if_pos (by simp [hg]), ih]
    · rw [back_t hg]
      show (P.back g n).no = cntB (fun k => !g k) n + if (!g n) = true then 1 else 0
      rw [if_neg (by simp [hg]), ih, Nat.add_zero]
/-- What a test tells of those that are left. -/
theorem back_cnt2 (P : PV) (g : Nat → Bool) (q : Int → Bool) (n : Nat) : cntB (fun j => q ((P.back g n).fo j 2)) (P.back g n).no = cntB (fun k => !g k && q (P.fo k 2)) n := by
  induction n with
  | zero => rfl
  | succ n ih =>
    cases hg : g n
    · rw [back_f hg]
      show cntB (fun j => q (if j = (P.back g n).no then (if 2 = 0 then P.fo n 0 else if 2 = 1 then P.fo n 1 else P.fo n 2) else (P.back g n).fo j 2)) ((P.back g n).no + 1) = _
      simp only [cntB]
      rw [cntB_same (q := fun j => q ((P.back g n).fo j 2)) (fun i hi => by rw [if_neg (by omega)]), ih]
      simp [hg]
    · rw [back_t hg]
      show cntB (fun j => q ((P.back g n).fo j 2)) (P.back g n).no = cntB (fun k => !g k && q (P.fo k 2)) n + if (!g n && q (P.fo n 2)) = true then 1 else 0
      rw [ih]
      simp [hg]
theorem back_from (P : PV) (g : Nat → Bool) (n : Nat) : ∀ j, j < (P.back g n).no → ∃ k, k < n ∧ ∀ x, x < 3 → (P.back g n).fo j x = P.fo k x := by
  induction n with
  | zero => exact fun j hj => absurd hj (by simp [PV.back])
  | succ n ih =>
    intro j hj
    cases hg : g n
    · rw [back_f hg] at hj ⊢
      have hj : j < (P.back g n).no + 1 := hj
      by_cases e : j = (P.back g n).no
      · refine ⟨n, by omega, fun x hx => ?_⟩
        show (if j = (P.back g n).no then (if x = 0 then P.fo n 0 else if x = 1 then P.fo n 1 else P.fo n 2) else _) = _
        rw [if_pos e]
        match x, hx with
        | 0, _ => rfl
        | 1, _ => rfl
        | 2, _ => rfl
      · obtain ⟨k, hk, h⟩ := ih j (by omega)
        refine ⟨k, by omega, fun x hx => ?_⟩
        show (if j = (P.back g n).no then _ else (P.back g n).fo j x) = _
        rw [if_neg e]
        exact h x hx
    · rw [back_t hg] at hj ⊢
      obtain ⟨k, hk, h⟩ := ih j hj
      exact ⟨k, by omega, fun x hx => h x hx⟩
theorem past_mono {st g h : Int} (hp : pastB st g = true) (hgh : g ≤ h) : pastB st h = true := by
  simp [pastB] at hp ⊢
  omega
theorem byE_le (P : PV) {g h : Int} (hgh : g ≤ h) : (P.byE h).no ≤ (P.byE g).no := by
  unfold PV.byE
  rw [back_cnt, back_cnt]
  refine cntB_le fun i _ hp => ?_
  cases hq : pastB (P.fo i 2) g
  · rfl
  · rw [past_mono hq hgh] at hp
    cases hp
theorem byE_twice (P : PV) {g h : Int} (hgh : g ≤ h) : ((P.byE g).byE h).no = (P.byE h).no := by
  have h1 := back_cnt2 P (fun k => pastB (P.fo k 2) g) (fun x => !pastB x h) P.no
  show ((P.byE g).back (fun k => pastB ((P.byE g).fo k 2) h) (P.byE g).no).no = _
  rw [back_cnt, show (P.byE h).no = _ from back_cnt P _ P.no]
  show cntB (fun k => !pastB ((P.byE g).fo k 2) h) (P.byE g).no = _
  rw [show cntB (fun k => !pastB ((P.byE g).fo k 2) h) (P.byE g).no = _ from h1]
  refine cntB_same fun i _ => ?_
  cases hq : pastB (P.fo i 2) g
  · rfl
  · simp [past_mono hq hgh]
theorem byE_sum (P : PV) (g : Int) : (P.byE g).nf + (P.byE g).no = P.nf + P.no := back_count P _ P.no
theorem byE_count (P : PV) (g : Int) : (P.byE g).count = P.count := by
  have h1 := byE_sum P g
  have h2 : (P.byE g).t = P.t := (back_same P _ P.no).2.1
  have h3 : (P.byE g).c = P.c := by unfold PV.c; rw [h2]
  unfold PV.count
  omega
theorem byE_hi (P : PV) (g : Int) (hw : ∀ k, k < P.no → P.fo k 2 ≤ 9223372036854775807) : ∀ k, k < (P.byE g).no → (P.byE g).fo k 2 ≤ 9223372036854775807 := by
  intro k hk
  obtain ⟨i, hi, h⟩ := back_from P (fun k => pastB (P.fo k 2) g) P.no k hk
  rw [show (P.byE g).fo k 2 = P.fo i 2 from h 2 (by omega)]
  exact hw i hi
theorem byE_no (P : PV) (g : Int) : (P.byE g).no ≤ P.no := back_no P _ P.no
end Go.Proofs.Ytdfbddepeacebaa
