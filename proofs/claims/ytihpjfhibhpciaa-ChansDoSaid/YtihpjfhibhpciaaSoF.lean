/- What the library's stable sort does: blocks, and the whole, over the seat's program. -/
import Derived.Test.YtihpjfhibhpciaaSoE
namespace Go.Proofs.Ytihpjfhibhpciaa
open Go.ChangeShapes Go.WideShapes Go.ChangeAt Go.RowKit Go.Joins

def Blk (K : Int → Int) (f : Nat → Int) (s n k : Nat) : Prop := ∀ p q, k * s ≤ p → p < q → q < k * s + s → q < n → ltK K (f p) (f q)
def Cut (f : Nat → Int) (n p : Nat) : Prop := ∀ u v, u < p → p ≤ v → v < n → f u < f v
theorem Cut.moved {f h : Nat → Int} {n p a b : Nat} (x : Cut f n p) (hh : SameIn f h a b) (hb : b ≤ n) (hp : p ≤ a ∨ b ≤ p) : Cut h n p := by
  intro u v h1 h2 h3
  have e1 : ∃ u', u' < p ∧ h u = f u' := by
    by_cases c : a ≤ u ∧ u < b
    · obtain ⟨k, k1, k2, e⟩ := hh.1 u c.1 c.2
      exact ⟨k, by omega, e⟩
    · exact ⟨u, h1, hh.2.2 u (by omega)⟩
  have e2 : ∃ v', p ≤ v' ∧ v' < n ∧ h v = f v' := by
    by_cases c : a ≤ v ∧ v < b
    · obtain ⟨k, k1, k2, e⟩ := hh.1 v c.1 c.2
      exact ⟨k, by omega, by omega, e⟩
    · exact ⟨v, h2, h3, hh.2.2 v (by omega)⟩
  obtain ⟨u', a1, a2⟩ := e1
  obtain ⟨v', b1, b2, b3⟩ := e2
  rw [a2, b3]
  exact x u' v' a1 b1 b2
theorem Blk.moved {K : Int → Int} {f h : Nat → Int} {s n k a b : Nat} (x : Blk K f s n k) (hh : SameIn f h a b) (hp : k * s + s ≤ a ∨ b ≤ k * s) : Blk K h s n k := by
  intro p q h1 h2 h3 h4
  rw [hh.2.2 p (by omega), hh.2.2 q (by omega)]
  exact x p q h1 h2 h3 h4
/-- What stands ahead of each round of the first loop. -/
structure FirstAt (K : Int → Int) (f h : Nat → Int) (n k : Nat) : Prop where
  same : SameIn f h 0 n
  done : ∀ j, j < k → Blk K h 20 n j
  rest : ∀ x, k * 20 ≤ x → h x = f x
  cut : ∀ j, Cut h n (j * 20)
theorem FirstAt.step {K : Int → Int} {f h u : Nat → Int} {n k b : Nat} (x : FirstAt K f h n k) (y : SameIn h u (k * 20) b) (z : SortedK K u (k * 20) b) (hb : b ≤ n) (hb2 : b = k * 20 + 20 ∨ (b = n ∧ n ≤ k * 20 + 20)) (hk : k * 20 ≤ n) : FirstAt K f u n (k + 1) := by
  refine ⟨x.same.trans (y.widen (by omega) hb), fun j hj => ?_, fun i hi => ?_, fun j => ?_⟩
  · by_cases c : j = k
    · subst c
      intro p q h1 h2 h3 h4
      exact z p q h1 h2 (by omega)
    · exact (x.done j (by omega)).moved y (by omega)
  · rw [y.2.2 i (by omega)]
    exact x.rest i (by omega)
  · by_cases c : j ≤ k
    · exact (x.cut j).moved y hb (by omega)
    · intro u' v h1 h2 h3
      rcases hb2 with e | ⟨e, e'⟩
      · exact ((x.cut j).moved y hb (by omega)) u' v h1 h2 h3
      · omega
theorem FirstAt.all {K : Int → Int} {f h : Nat → Int} {n k : Nat} (x : FirstAt K f h n (k + 1)) (hn : n ≤ k * 20 + 20) : ∀ j, Blk K h 20 n j := fun j => by
  by_cases c : j < k + 1
  · exact x.done j c
  · intro p q h1 h2 h3 h4
    omega
/-- What stands ahead of each round of the merging of pairs. -/
structure MidAt (K : Int → Int) (f h : Nat → Int) (s n k : Nat) : Prop where
  same : SameIn f h 0 n
  done : ∀ j, j < k → Blk K h (2 * s) n j
  todo : ∀ j, 2 * k ≤ j → Blk K h s n j
  cut : ∀ j, 2 * k ≤ j → Cut h n (j * s)
  cut2 : ∀ j, Cut h n (j * (2 * s))
theorem two_mul_mul (k s : Nat) : k * (2 * s) = (2 * k) * s := by rw [← Nat.mul_assoc, Nat.mul_comm k 2]
section
variable {K : Int → Int} {f h u : Nat → Int} {s n k b : Nat}
theorem MidAt.start (x : SameIn f h 0 n) (y : ∀ j, Blk K h s n j) (z : ∀ j, Cut h n (j * s)) : MidAt K f h s n 0 :=
  ⟨x, fun j hj => absurd hj (by omega), fun j _ => y j, fun j _ => z j, fun j => by rw [two_mul_mul]; exact z _⟩
theorem MidAt.left (x : MidAt K f h s n k) (hn : k * (2 * s) + s ≤ n) : SortedK K h (k * (2 * s)) (k * (2 * s) + s) := by
  intro p q h1 h2 h3
  have := x.todo (2 * k) (Nat.le_refl _) p q
  rw [← two_mul_mul] at this
  exact this h1 h2 h3 (by omega)
theorem MidAt.right (x : MidAt K f h s n k) (hb : b ≤ n) (hb' : b ≤ k * (2 * s) + 2 * s) : SortedK K h (k * (2 * s) + s) b := by
  intro p q h1 h2 h3
  have := x.todo (2 * k + 1) (by omega) p q
  rw [Nat.succ_mul, ← two_mul_mul] at this
  exact this h1 h2 (by omega) (by omega)
theorem MidAt.lo (x : MidAt K f h s n k) (hb : b ≤ n) : LoIn h (k * (2 * s)) (k * (2 * s) + s) b := by
  intro p q _ h2 h3 h4
  have := x.cut (2 * k + 1) (by omega) p q
  rw [Nat.succ_mul, ← two_mul_mul] at this
  exact this h2 h3 (by omega)
theorem mul_far {j k s : Nat} (h : k + 1 ≤ j) : k * s + s ≤ j * s := by
  have := Nat.mul_le_mul_right s h
  rwa [Nat.succ_mul] at this
theorem MidAt.step (x : MidAt K f h s n k) (y : SameIn h u (k * (2 * s)) b) (z : SortedK K u (k * (2 * s)) b) (hb : b ≤ n) (hb2 : b = k * (2 * s) + 2 * s ∨ (b = n ∧ n ≤ k * (2 * s) + 2 * s)) : MidAt K f u s n (k + 1) := by
  have cut2 : ∀ j, Cut u n (j * (2 * s)) := fun j => by
    by_cases c : j ≤ k
    · exact (x.cut2 j).moved y hb (.inl (Nat.mul_le_mul_right _ c))
    · have := mul_far (s := 2 * s) (show k + 1 ≤ j by omega)
      exact (x.cut2 j).moved y hb (.inr (by omega))
  refine ⟨x.same.trans (y.widen (Nat.zero_le _) hb), fun j hj => ?_, fun j hj => ?_, fun j hj => ?_, cut2⟩
  · by_cases c : j = k
    · subst c
      intro p q h1 h2 h3 h4
      exact z p q h1 h2 (by omega)
    · exact (x.done j (by omega)).moved y (.inl (mul_far (by omega)))
  · have e : k * (2 * s) + 2 * s ≤ j * s := by
      have := Nat.mul_le_mul_right s hj
      rw [← two_mul_mul, Nat.succ_mul] at this
      exact this
    exact (x.todo j (by omega)).moved y (.inr (by omega))
  · have e : k * (2 * s) + 2 * s ≤ j * s := by
      have := Nat.mul_le_mul_right s hj
      rw [← two_mul_mul, Nat.succ_mul] at this
      exact this
    exact (x.cut j (by omega)).moved y hb (.inr (by omega))
theorem MidAt.skip (x : MidAt K f h s n k) (hn : n ≤ k * (2 * s) + s) : MidAt K f h s n (k + 1) := by
  refine ⟨x.same, fun j hj => ?_, fun j hj => x.todo j (by omega), fun j hj => x.cut j (by omega), x.cut2⟩
  by_cases c : j = k
  · subst c
    intro p q h1 h2 h3 h4
    have := x.todo (2 * j) (Nat.le_refl _) p q
    rw [← two_mul_mul] at this
    exact this h1 h2 (by omega) h4
  · exact x.done j (by omega)
theorem MidAt.all (x : MidAt K f h s n (k + 1)) (hn : n ≤ k * (2 * s) + 2 * s) : ∀ j, Blk K h (2 * s) n j := fun j => by
  by_cases c : j < k + 1
  · exact x.done j c
  · intro p q h1 h2 h3 h4
    have := mul_far (s := 2 * s) (show k + 1 ≤ j by omega)
    omega
end
theorem Blk.whole {K : Int → Int} {h : Nat → Int} {s n : Nat} (x : ∀ j, Blk K h s n j) (hn : n ≤ s) : SortedK K h 0 n := fun p q _ h2 h3 => x 0 p q (by omega) h2 (by omega) h3

set_option maxRecDepth 100000 in
set_option maxHeartbeats 3200000 in
theorem stable_any (p g n cap : Nat) (f : Nat → Int) (K : Int → Int) (G : Int → Prop) (w0 w : World) (s : SortAt w0 w g n cap f) (hL : LessOk p K G w0) (hG : ∀ k, k < n → G (f k)) (hf : ∀ p q, p < q → q < n → f p < f q) :
    Calls Try.prog 96 #[.slice (some ⟨g, 0, none⟩) n cap, .int .i64 n, .func (.func 65) #[] #[.pointer (some ⟨p, 0, none⟩)]] w fun e w' => ∃ h, SortRet w0 g n cap h e w' ∧ SameIn f h 0 n ∧ SortedK K h 0 n := by
  have hn : n ≤ 17592186044415 := by have := s.1.1; omega
  have HS := Lib.hid s
  have HL := Lib.hid hL
  have HG := Lib.hid hG
  have HF := Lib.hid hf
  have HI := Lib.hid (fun (a b : Nat) (h : Nat → Int) (W : World) (x : SortAt w0 W g n cap h) (y : SameIn f h 0 n) (hb : b ≤ n) (ha : a ≤ n) (z : ∀ p q, a ≤ p → p < q → q < b → h p < h q) => insert_any p g n cap a b h K G w0 W x hL (y.all (Nat.le_refl _) hG) hb ha z)
  have HM := Lib.hid (fun (a m b : Nat) (h : Nat → Int) (W : World) (x : SortAt w0 W g n cap h) (y : SameIn f h 0 n) (h1 : a < m) (h2 : m < b) (hb : b ≤ n) (s1 : SortedK K h a m) (s2 : SortedK K h m b) (l : LoIn h a m b) => sym_any p g n cap K G w0 hL (b - a) a m b h W (Nat.le_refl _) x (y.all (Nat.le_refl _) hG) h1 h2 hb s1 s2 l)
  clear s hL hG hf
  go_enter Try.func96, Try.ntmps96
  go_wp2
  go_loopw [7, 8] (fun x y wr => ∃ (A B : Nat) (k : Nat) (h : Nat → Int), x = .int .i64 A ∧ y = .int .i64 B ∧ A = k * 20 ∧ B = A + 20 ∧ A ≤ n ∧ SortAt w0 wr g n cap h ∧ FirstAt K f h n k) (fun x _ _ => n - (intOf x).toNat)
  case atStart => exact ⟨0, 20, 0, f, rfl, rfl, rfl, rfl, Nat.zero_le _, HS.out, SameIn.refl _ _ _, fun j hj => absurd hj (by omega), fun _ _ => rfl, fun j u v h1 h2 h3 => HF.out u v (by omega) h3⟩
  case round =>
    obtain ⟨A, B, k, h, rfl, rfl, hA, hB, hk, hs, hx⟩ := hrel
    have HR := Lib.hid hs
    have HX := Lib.hid hx
    have HA := Lib.hid hA
    have HB := Lib.hid hB
    have HZ := Lib.hid (fun (p q : Nat) (h1 : A ≤ p) (h2 : p < q) (h3 : q < n) => show h p < h q by rw [hx.rest p (by omega), hx.rest q (by omega)]; exact HF.out p q h2 h3)
    have hAB : A < B := by omega
    have hBn : B ≤ n + 20 := by omega
    clear hA hB hs hx
    by_cases hlt : B ≤ n
    · have hlt' : (B : Int) ≤ (n : Int) := by omega
      have HC := Lib.hid (HI.out A B h wr HR.out HX.out.same hlt hk (fun p q h1 h2 h3 => HZ.out p q h1 h2 (by omega)))
      go_wp2_with (go_at_call 111; (with_reducible refine HC.out.mono ?_); rintro e w1 ⟨u, ⟨rfl, hr⟩, hu⟩; have HR1 := Lib.hid hr; have HU := Lib.hid hu; clear hr hu)
      go_roundw
      case rel => exact ⟨B, B + 20, k + 1, u, rfl, by go_num, by rw [Nat.succ_mul, ← HA.out, HB.out], rfl, hlt, HR1.out, HX.out.step (HA.out ▸ HU.out.1) (HA.out ▸ HU.out.2) hlt (.inl (by rw [HB.out, HA.out])) (by rw [← HA.out]; exact hk)⟩
      case measure => simp [intOf]; omega
    · have hlt' : ¬ (B : Int) ≤ (n : Int) := by omega
      have HC := Lib.hid (HI.out A n h wr HR.out HX.out.same (Nat.le_refl _) hk (fun p q h1 h2 h3 => HZ.out p q h1 h2 h3))
      go_wp2_with (go_at_call 111; (with_reducible refine HC.out.mono ?_); rintro e w1 ⟨u, ⟨rfl, hr⟩, hu⟩; have HR1 := Lib.hid hr; have HU := Lib.hid hu; clear hr hu)
      have HX1 := Lib.hid (HX.out.step (HA.out ▸ HU.out.1) (HA.out ▸ HU.out.2) (Nat.le_refl _) (.inr ⟨rfl, by rw [← HA.out, ← HB.out]; omega⟩) (by rw [← HA.out]; exact hk))
      have HW := Lib.hid (And.intro HX1.out.same (And.intro (HX1.out.all (by rw [← HA.out, ← HB.out]; omega)) HX1.out.cut))
      clear HX HA HB HZ HC HU HX1 hAB hBn hlt hlt' HI HF HR HS hk
      go_loopw [6] (fun x wr => ∃ (s : Nat) (h : Nat → Int), x = .int .i64 s ∧ 0 < s ∧ s ≤ 2 * n + 20 ∧ SortAt w0 wr g n cap h ∧ SameIn f h 0 n ∧ (∀ j, Blk K h s n j) ∧ ∀ j, Cut h n (j * s)) (fun x _ => n - (intOf x).toNat)
      case atStart => exact ⟨20, u, rfl, by omega, by omega, HR1.out, HW.out.1, HW.out.2.1, HW.out.2.2⟩
      case round =>
        clear HR1 HW
        obtain ⟨s, h, rfl, hs0, hs1, hr, hsame, hblk, hcut⟩ := hrel
        have HR := Lib.hid hr
        have HS := Lib.hid hsame
        have HBK := Lib.hid hblk
        have HCU := Lib.hid hcut
        clear hr hsame hblk hcut
        by_cases hlt : s < n
        · have hlt' : (s : Int) < (n : Int) := by omega
          have HX0 := Lib.hid (MidAt.start HS.out HBK.out HCU.out)
          clear HS HBK HCU
          go_wp2
          go_loopw [7, 8] (fun x y wr2 => ∃ (A B k : Nat) (u : Nat → Int), x = .int .i64 A ∧ y = .int .i64 B ∧ A = k * (2 * s) ∧ B = A + 2 * s ∧ A ≤ n ∧ SortAt w0 wr2 g n cap u ∧ MidAt K f u s n k) (fun x _ _ => n - (intOf x).toNat)
          case atStart => exact ⟨0, 2 * s, 0, h, rfl, by go_num, by omega, by omega, Nat.zero_le _, HR.out, HX0.out⟩
          case round =>
            clear HX0 HR
            obtain ⟨A, B, k, u2, rfl, rfl, hA, hB, hk, hr, hx⟩ := hrel
            have HR := Lib.hid hr
            have HX := Lib.hid hx
            have HA := Lib.hid hA
            have HB := Lib.hid hB
            have hBn : B ≤ n + 2 * s := by omega
            obtain ⟨M, hM⟩ : ∃ M, M = A + s := ⟨_, rfl⟩
            have em : (A : Int) + (s : Int) = (M : Int) := by omega
            have hAB : M < B := by omega
            have hAM : A < M := by omega
            have HMM := Lib.hid hM
            clear hA hB hr hx hM
            by_cases hb : B ≤ n
            · have hb' : (B : Int) ≤ (n : Int) := by omega
              have HC := Lib.hid (HM.out A M B u2 _ HR.out HX.out.same hAM hAB hb (by rw [HMM.out, HA.out]; exact HX.out.left (by rw [← HA.out, ← HMM.out]; omega)) (by rw [HMM.out, HA.out]; exact HX.out.right hb (by rw [← HA.out, ← HB.out]; exact Nat.le_refl _)) (by rw [HMM.out, HA.out]; exact HX.out.lo hb))
              go_wp2_with (go_at_call 112; (with_reducible refine HC.out.mono ?_); rintro e w2 ⟨u3, ⟨rfl, hr⟩, hu⟩; have HR2 := Lib.hid hr; have HU := Lib.hid hu; clear hr hu)
              go_roundw
              case rel => exact ⟨B, B + 2 * s, k + 1, u3, rfl, by go_num, by rw [Nat.succ_mul, ← HA.out, HB.out], rfl, hb, HR2.out, HX.out.step (HA.out ▸ HU.out.1) (HA.out ▸ HU.out.2) hb (.inl (by rw [HB.out, HA.out]))⟩
              case measure => simp [intOf]; omega
            · have hb' : ¬ (B : Int) ≤ (n : Int) := by omega
              by_cases hm : M < n
              · have hm' : (M : Int) < (n : Int) := by omega
                have HC := Lib.hid (HM.out A M n u2 _ HR.out HX.out.same hAM hm (Nat.le_refl _) (by rw [HMM.out, HA.out]; exact HX.out.left (by rw [← HA.out, ← HMM.out]; omega)) (by rw [HMM.out, HA.out]; exact HX.out.right (Nat.le_refl _) (by rw [← HA.out, ← HB.out]; omega)) (by rw [HMM.out, HA.out]; exact HX.out.lo (Nat.le_refl _)))
                go_wp2_with (go_at_call 112; (with_reducible refine HC.out.mono ?_); rintro e w2 ⟨u3, ⟨rfl, hr⟩, hu⟩; have HR2 := Lib.hid hr; have HU := Lib.hid hu; clear hr hu)
                have HX2 := Lib.hid (HX.out.step (HA.out ▸ HU.out.1) (HA.out ▸ HU.out.2) (Nat.le_refl _) (.inr ⟨rfl, by rw [← HA.out, ← HB.out]; omega⟩))
                go_roundw
                case rel => exact ⟨2 * s, u3, by go_num, by omega, by omega, HR2.out, HX2.out.same, HX2.out.all (by rw [← HA.out, ← HB.out]; omega), HX2.out.cut2⟩
                case measure => simp [intOf]; omega
              · have hm' : ¬ (M : Int) < (n : Int) := by omega
                have HX2 := Lib.hid (HX.out.skip (by rw [← HA.out, ← HMM.out]; omega))
                go_wp2
                go_roundw
                case rel => exact ⟨2 * s, u2, by go_num, by omega, by omega, HR.out, HX2.out.same, HX2.out.all (by rw [← HA.out, ← HB.out]; omega), HX2.out.cut2⟩
                case measure => simp [intOf]; omega
        · have hlt' : ¬ (s : Int) < (n : Int) := by omega
          go_wp2
          go_end0
          exact ⟨h, ⟨rfl, HR.out⟩, HS.out, Blk.whole HBK.out (by omega)⟩
end Go.Proofs.Ytihpjfhibhpciaa
