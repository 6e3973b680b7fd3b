/- What the library's stable sort does: the insertion sort, over the seat's program. -/
import Derived.Test.YtihpjfhibhpciaaSoB
namespace Go.Proofs.Ytihpjfhibhpciaa
open Go.ChangeShapes Go.WideShapes Go.ChangeAt Go.RowKit Go.Joins

/-- The order in which numbers are sorted by what they weigh: of equal ones the lesser number first. -/
def ltK (K : Int → Int) (x y : Int) : Prop := K x < K y ∨ (K x = K y ∧ x < y)
theorem ltK.trans {K : Int → Int} {x y z : Int} (h : ltK K x y) (h' : ltK K y z) : ltK K x z := by
  unfold ltK at *
  omega
def SortedK (K : Int → Int) (f : Nat → Int) (a b : Nat) : Prop := ∀ p q, a ≤ p → p < q → q < b → ltK K (f p) (f q)
/-- The same numbers from 'a' to 'b', and each in its place elsewhere. -/
def SameIn (f h : Nat → Int) (a b : Nat) : Prop := (∀ k, a ≤ k → k < b → ∃ k', a ≤ k' ∧ k' < b ∧ h k = f k') ∧ (∀ k, a ≤ k → k < b → ∃ k', a ≤ k' ∧ k' < b ∧ f k = h k') ∧ ∀ k, (k < a ∨ b ≤ k) → h k = f k
theorem SameIn.refl (f : Nat → Int) (a b : Nat) : SameIn f f a b := ⟨fun k h h' => ⟨k, h, h', rfl⟩, fun k h h' => ⟨k, h, h', rfl⟩, fun _ _ => rfl⟩
theorem SameIn.trans {f h u : Nat → Int} {a b : Nat} (x : SameIn f h a b) (y : SameIn h u a b) : SameIn f u a b := by
  refine ⟨fun k h1 h2 => ?_, fun k h1 h2 => ?_, fun k hk => (y.2.2 k hk).trans (x.2.2 k hk)⟩
  · obtain ⟨k', a1, a2, e⟩ := y.1 k h1 h2
    obtain ⟨k2, b1, b2, e2⟩ := x.1 k' a1 a2
    exact ⟨k2, b1, b2, e.trans e2⟩
  · obtain ⟨k', a1, a2, e⟩ := x.2.1 k h1 h2
    obtain ⟨k2, b1, b2, e2⟩ := y.2.1 k' a1 a2
    exact ⟨k2, b1, b2, e.trans e2⟩
theorem SameIn.swp {f : Nat → Int} {a b i j : Nat} (hi : a ≤ i ∧ i < b) (hj : a ≤ j ∧ j < b) : SameIn f (swp f i j) a b := by
  refine ⟨fun k h1 h2 => ?_, fun k h1 h2 => ?_, fun k hk => ?_⟩
  · unfold Go.Proofs.Ytihpjfhibhpciaa.swp
    by_cases e1 : k = i
    · rw [if_pos e1]; exact ⟨j, hj.1, hj.2, rfl⟩
    · rw [if_neg e1]
      by_cases e2 : k = j
      · rw [if_pos e2]; exact ⟨i, hi.1, hi.2, rfl⟩
      · rw [if_neg e2]; exact ⟨k, h1, h2, rfl⟩
  · by_cases e1 : k = i
    · subst e1
      refine ⟨j, hj.1, hj.2, ?_⟩
      unfold Go.Proofs.Ytihpjfhibhpciaa.swp
      by_cases e2 : j = k
      · rw [if_pos e2, e2]
      · rw [if_neg e2, if_pos rfl]
    · by_cases e2 : k = j
      · subst e2
        refine ⟨i, hi.1, hi.2, ?_⟩
        unfold Go.Proofs.Ytihpjfhibhpciaa.swp
        rw [if_pos rfl]
      · refine ⟨k, h1, h2, ?_⟩
        unfold Go.Proofs.Ytihpjfhibhpciaa.swp
        rw [if_neg e1, if_neg e2]
  · unfold Go.Proofs.Ytihpjfhibhpciaa.swp
    rw [if_neg (by omega), if_neg (by omega)]
theorem SameIn.widen {f h : Nat → Int} {a b a' b' : Nat} (x : SameIn f h a b) (ha : a' ≤ a) (hb : b ≤ b') : SameIn f h a' b' := by
  refine ⟨fun k h1 h2 => ?_, fun k h1 h2 => ?_, fun k hk => x.2.2 k (by omega)⟩
  · by_cases e : a ≤ k ∧ k < b
    · obtain ⟨k', a1, a2, e⟩ := x.1 k e.1 e.2
      exact ⟨k', by omega, by omega, e⟩
    · exact ⟨k, h1, h2, x.2.2 k (by omega)⟩
  · by_cases e : a ≤ k ∧ k < b
    · obtain ⟨k', a1, a2, e⟩ := x.2.1 k e.1 e.2
      exact ⟨k', by omega, by omega, e⟩
    · exact ⟨k, h1, h2, (x.2.2 k (by omega)).symm⟩
theorem SameIn.all {f h : Nat → Int} {a b n : Nat} {P : Int → Prop} (x : SameIn f h a b) (hb : b ≤ n) (hp : ∀ k, k < n → P (f k)) : ∀ k, k < n → P (h k) := by
  intro k hk
  by_cases e : a ≤ k ∧ k < b
  · obtain ⟨k', a1, a2, e⟩ := x.1 k e.1 e.2
    rw [e]; exact hp k' (by omega)
  · rw [x.2.2 k (by omega)]; exact hp k hk
/-- What stands ahead of each round of the insertion sort. -/
def InsAt (K : Int → Int) (f h : Nat → Int) (a i : Nat) : Prop := SameIn f h a i ∧ SortedK K h a i
/-- .. and of its inner one. -/
def InnAt (K : Int → Int) (f h : Nat → Int) (a i j : Nat) : Prop :=
  SameIn f h a (i + 1) ∧ h j = f i ∧ (∀ p q, a ≤ p → p < q → q ≤ i → p ≠ j → q ≠ j → ltK K (h p) (h q)) ∧ (∀ q, j < q → q ≤ i → ltK K (f i) (h q)) ∧ ∀ p, a ≤ p → p ≤ i → p ≠ j → h p < f i
section
variable {K : Int → Int} {f h : Nat → Int} {a i j b : Nat}
theorem InsAt.inn (x : InsAt K f h a i) (hf : ∀ p q, a ≤ p → p < q → q < b → f p < f q) (hib : i < b) : InnAt K f h a i i := by
  refine ⟨x.1.widen (Nat.le_refl _) (by omega), x.1.2.2 i (by omega), fun p q h1 h2 h3 h4 h5 => x.2 p q h1 h2 (by omega), fun q h1 h2 => absurd h1 (by omega), fun p h1 h2 h3 => ?_⟩
  obtain ⟨k, k1, k2, e⟩ := x.1.1 p h1 (by omega)
  rw [e]
  exact hf k i k1 k2 hib
theorem InnAt.step (x : InnAt K f h a i j) (ha : a < j) (hj : j ≤ i) (hl : K (h j) < K (h (j - 1))) : InnAt K f (swp h j (j - 1)) a i (j - 1) := by
  obtain ⟨x1, x2, x3, x4, x5⟩ := x
  have s0 : swp h j (j - 1) (j - 1) = h j := by unfold Go.Proofs.Ytihpjfhibhpciaa.swp; rw [if_neg (by omega), if_pos rfl]
  have s1 : swp h j (j - 1) j = h (j - 1) := by unfold Go.Proofs.Ytihpjfhibhpciaa.swp; rw [if_pos rfl]
  have s2 : ∀ k, k ≠ j → k ≠ j - 1 → swp h j (j - 1) k = h k := fun k e1 e2 => by unfold Go.Proofs.Ytihpjfhibhpciaa.swp; rw [if_neg e1, if_neg e2]
  refine ⟨x1.trans (SameIn.swp (by omega) (by omega)), s0.trans x2, fun p q h1 h2 h3 h4 h5 => ?_, fun q h1 h2 => ?_, fun p h1 h2 h3 => ?_⟩
  · by_cases e1 : q = j
    · subst e1
      rw [s1, s2 p (by omega) h4]
      exact x3 p (q - 1) h1 (by omega) (by omega) (by omega) (by omega)
    · by_cases e2 : p = j
      · subst e2
        rw [s1, s2 q e1 h5]
        exact x3 (p - 1) q (by omega) (by omega) h3 (by omega) e1
      · rw [s2 p e2 h4, s2 q e1 h5]
        exact x3 p q h1 h2 h3 e2 e1
  · by_cases e1 : q = j
    · subst e1
      rw [s1]
      left
      rw [← x2]
      exact hl
    · rw [s2 q e1 (by omega)]
      exact x4 q (by omega) h2
  · by_cases e1 : p = j
    · subst e1
      rw [s1]
      exact x5 (p - 1) (by omega) (by omega) (by omega)
    · rw [s2 p e1 h3]
      exact x5 p h1 h2 e1
theorem InnAt.done (x : InnAt K f h a i j) (ha : a ≤ j) (hj : j ≤ i) (hl : a < j → ¬ K (h j) < K (h (j - 1))) : InsAt K f h a (i + 1) := by
  obtain ⟨x1, x2, x3, x4, x5⟩ := x
  have near : a < j → ltK K (h (j - 1)) (h j) := fun h0 => by
    have h1 := hl h0
    have h2 := x5 (j - 1) (by omega) (by omega) (by omega)
    rw [← x2] at h2
    unfold ltK
    omega
  refine ⟨x1, fun p q h1 h2 h3 => ?_⟩
  by_cases e1 : p = j
  · subst e1
    rw [x2]
    exact x4 q h2 (by omega)
  · by_cases e2 : q = j
    · subst e2
      by_cases e3 : p = q - 1
      · subst e3
        exact near (by omega)
      · exact (x3 p (q - 1) h1 (by omega) (by omega) e1 (by omega)).trans (near (by omega))
    · exact x3 p q h1 h2 (by omega) e1 e2
end
/-- What the sort asks of its comparison. -/
def LessOk (p : Nat) (K : Int → Int) (G : Int → Prop) (w0 : World) : Prop := ∀ (x y : Int) (W : World), G x → G y → Below w0.heap.size w0 W →
  Calls Try.prog 65 #[.int .i64 x, .int .i64 y, .pointer (some ⟨p, 0, none⟩)] W fun e w' => (∃ r, e = .returned (.int .i64 r) ∧ (r < 0 ↔ K x < K y)) ∧ Below W.heap.size W w'

set_option maxRecDepth 100000 in
set_option maxHeartbeats 3200000 in
theorem insert_any (p g n cap a b : Nat) (f : Nat → Int) (K : Int → Int) (G : Int → Prop) (w0 w : World) (s : SortAt w0 w g n cap f) (hL : LessOk p K G w0) (hG : ∀ k, k < n → G (f k)) (hb : b ≤ n) (ha : a ≤ n) (hf : ∀ p q, a ≤ p → p < q → q < b → f p < f q) :
    Calls Try.prog 111 #[.slice (some ⟨g, 0, none⟩) n cap, .int .i64 a, .int .i64 b, .func (.func 65) #[] #[.pointer (some ⟨p, 0, none⟩)]] w fun e w' => ∃ h, SortRet w0 g n cap h e w' ∧ SameIn f h a b ∧ SortedK K h a b := by
  have hn := s.1.1
  have HS := Lib.hid s
  have HL := Lib.hid hL
  have HG := Lib.hid hG
  have HF := Lib.hid hf
  clear s hL hG hf
  go_enter Try.func111, Try.ntmps111
  go_wp2
  go_loopw [8] (fun si wr => ∃ (i : Nat) (h : Nat → Int), si = .int .i64 i ∧ a + 1 ≤ i ∧ (i ≤ b ∨ i = a + 1) ∧ SortAt w0 wr g n cap h ∧ InsAt K f h a i) (fun si _ => b - (intOf si).toNat)
  case atStart => exact ⟨a + 1, f, by go_num, Nat.le_refl _, .inr rfl, HS.out, SameIn.refl _ _ _, fun p q h1 h2 h3 => absurd h3 (by omega)⟩
  case round =>
    obtain ⟨i, h, rfl, hai, hib, hs, hx⟩ := hrel
    have HX := Lib.hid hx
    have HR := Lib.hid hs
    clear hs hx
    by_cases hlt : i < b
    · skip
      go_wp2
      go_loopw [9] (fun sj wr2 => ∃ (j : Nat) (u : Nat → Int), sj = .int .i64 j ∧ a ≤ j ∧ j ≤ i ∧ SortAt w0 wr2 g n cap u ∧ InnAt K f u a i j) (fun sj _ => (intOf sj).toNat)
      case atStart => exact ⟨i, h, rfl, by omega, Nat.le_refl _, HR.out, HX.out.inn HF.out hlt⟩
      case round =>
        obtain ⟨j, u, rfl, haj, hji, hs2, hx2⟩ := hrel
        have HX2 := Lib.hid hx2
        have HR2 := Lib.hid hs2
        clear hs2 hx2
        by_cases hj : a < j
        · obtain ⟨k, hk⟩ : ∃ k, k = j - 1 := ⟨j - 1, rfl⟩
          have x0 := HR2.out.cell (k := j) (by omega)
          have x1 := HR2.out.cell (k := k) (by omega)
          have HC := Lib.hid (fun W hb => HL.out (u j) (u k) W (HX2.out.1.all (by omega) HG.out j (by omega)) (HX2.out.1.all (by omega) HG.out k (by omega)) hb)
          have j0 : (0 : Int) ≤ (j : Int) := by omega
          have j1 : (j : Int) < (n : Int) := by omega
          have e0 : ((j : Int) - 1) = (k : Int) := by omega
          have e1 : IntKind.i64.wrap ((j : Int) - 1) = (k : Int) := by rw [e0]; exact IntWalk.i64_in _ (by omega)
          have e2 : IntKind.i64.wrap (k : Int) = (k : Int) := IntWalk.i64_in _ (by omega)
          have j2 : (0 : Int) ≤ (k : Int) := by omega
          have j3 : (k : Int) < (n : Int) := by omega
          have HK := Lib.hid hk
          clear hk
          by_cases hl : K (u j) < K (u k)
          · have HLT := Lib.hid hl
            clear hl
            go_wp2
            go_region_held3 (fun W => W.cell? ⟨g, j, none⟩ = some (.int .i64 (u j)) ∧ W.cell? ⟨g, k, none⟩ = some (.int .i64 (u k)))
              (first | with_reducible exact ⟨x0, x1⟩ | (go_simp; done) | go_keep)
              ((go_at_call 65; (with_reducible refine (HC.out _ (Below.drew HR2.out.bel)).mono ?_); rintro e w1 ⟨⟨r, rfl, hr⟩, hb⟩; have r0 : r < 0 := hr.2 HLT.out; have HS1 := Lib.hid (HR2.out.below ((Below.drew (Below.refl _ _)).trans (hb.mono (Nat.le_refl _)))); have x0 := HS1.out.cell (k := j) (by omega); have x1 := HS1.out.cell (k := k) (by omega); clear hb hr))
            have y0 := HS1.out.soft (k := j) (by omega)
            have y1 := HS1.out.soft (k := k) (by omega)
            have ne1 : j ≠ k := by have := HK.out; omega
            have HN := Lib.hid (fun q : Nat => (HS1.out.below (below_drewN (Below.refl w1.heap.size w1) q)).swap (i := j) (j := k) (by omega) (by omega))
            go_wp2
            go_region
            all_goals go_wp2
            go_roundw
            case rel => exact ⟨k, _, by go_num, by have := HK.out; omega, by have := HK.out; omega, HN.out _, by have := HX2.out.step hj hji (by rw [← HK.out]; exact HLT.out); rw [← HK.out] at this; exact this⟩
            case measure => simp [intOf]; omega
          · have HLT := Lib.hid (Int.not_lt.1 hl)
            clear hl
            go_wp2
            go_region_held3 (fun W => W.cell? ⟨g, j, none⟩ = some (.int .i64 (u j)) ∧ W.cell? ⟨g, k, none⟩ = some (.int .i64 (u k)))
              (first | with_reducible exact ⟨x0, x1⟩ | (go_simp; done) | go_keep)
              ((go_at_call 65; (with_reducible refine (HC.out _ (Below.drew HR2.out.bel)).mono ?_); rintro e w1 ⟨⟨r, rfl, hr⟩, hb⟩; have r0 : 0 ≤ r := Int.not_lt.1 (fun h => Int.not_lt.2 HLT.out (hr.1 h)); have HS1 := Lib.hid (HR2.out.below ((Below.drew (Below.refl _ _)).trans (hb.mono (Nat.le_refl _)))); have x0 := HS1.out.cell (k := j) (by omega); have x1 := HS1.out.cell (k := k) (by omega); clear hb hr))
            go_wp2
            go_roundw
            case rel => exact ⟨i + 1, u, by go_num, by omega, .inl (by omega), HS1.out, HX2.out.done haj hji (fun _ => by rw [← HK.out]; exact Int.not_lt.2 HLT.out)⟩
            case measure => simp [intOf]; omega
        · go_wp2
          go_quiet (fail)
          go_wp2
          go_roundw
          case rel => exact ⟨i + 1, u, by go_num, by omega, .inl (by omega), HR2.out.below (below_drewN (Below.refl _ _) _), HX2.out.done haj hji (fun h => absurd h hj)⟩
          case measure => simp [intOf]; omega
    · go_wp2
      go_end0
      by_cases e : i = b
      · subst e
        exact ⟨h, ⟨rfl, HR.out⟩, HX.out.1, HX.out.2⟩
      · obtain rfl : i = a + 1 := by omega
        refine ⟨h, ⟨rfl, HR.out⟩, ?_, fun p q h1 h2 h3 => absurd h3 (by omega)⟩
        have he : ∀ k, h k = f k := fun k => by
          by_cases e1 : k = a
          · subst e1
            obtain ⟨k', h1, h2, h3⟩ := HX.out.1.1 k (Nat.le_refl _) (by omega)
            obtain rfl : k' = k := by omega
            exact h3
          · exact HX.out.1.2.2 k (by omega)
        exact ⟨fun k h1 h2 => absurd h2 (by omega), fun k h1 h2 => absurd h2 (by omega), fun k _ => he k⟩
end Go.Proofs.Ytihpjfhibhpciaa
