/- What the library's stable sort does: symMerge where one side has one number, over the seat's program. -/
import Derived.Test.YtihpjfhibhpciaaSoC
namespace Go.Proofs.Ytihpjfhibhpciaa
open Go.ChangeShapes Go.WideShapes Go.ChangeAt Go.RowKit Go.Joins

theorem ltK.le {K : Int → Int} {x y : Int} (h : ltK K x y) : K x ≤ K y := by
  unfold ltK at h
  omega
/-- All from 'a' to 'm' are less, as numbers, than all from 'm' to 'b'. -/
def LoIn (f : Nat → Int) (a m b : Nat) : Prop := ∀ p q, a ≤ p → p < m → m ≤ q → q < b → f p < f q
/-- The number at 'a', moved up to 'k'. -/
def insU (f : Nat → Int) (a k : Nat) : Nat → Int := fun x => if a ≤ x ∧ x < k then f (x + 1) else if x = k then f a else f x
/-- The number at 'm', moved down to 'k'. -/
def insD (f : Nat → Int) (m k : Nat) : Nat → Int := fun x => if x = k then f m else if k < x ∧ x ≤ m then f (x - 1) else f x
theorem insU_zero (f : Nat → Int) (a : Nat) : insU f a a = f := by
  funext x
  unfold insU
  rw [if_neg (by omega)]
  by_cases e : x = a
  · rw [if_pos e, e]
  · rw [if_neg e]
theorem insU_succ (f : Nat → Int) {a k : Nat} (h : a ≤ k) : swp (insU f a k) k (k + 1) = insU f a (k + 1) := by
  funext x
  unfold swp insU
  repeat' split
  all_goals first | rfl | (exfalso; omega) | (congr 1; omega)
theorem insD_zero (f : Nat → Int) (m : Nat) : insD f m m = f := by
  funext x
  unfold insD
  by_cases e : x = m
  · rw [if_pos e, e]
  · rw [if_neg e, if_neg (by omega)]
theorem insD_succ (f : Nat → Int) {m k : Nat} (h : k + 1 ≤ m) : swp (insD f m (k + 1)) (k + 1) k = insD f m k := by
  funext x
  unfold swp insD
  repeat' split
  all_goals first | rfl | (exfalso; omega) | (congr 1; omega)
theorem insU_same (f : Nat → Int) {a k b : Nat} (h : a ≤ k) (hb : k < b) : SameIn f (insU f a k) a b := by
  obtain ⟨d, rfl⟩ : ∃ d, k = a + d := ⟨k - a, by omega⟩
  clear h
  induction d with
  | zero => rw [Nat.add_zero, insU_zero]; exact SameIn.refl _ _ _
  | succ d ih => exact (insU_succ f (show a ≤ a + d by omega)) ▸ (ih (by omega)).trans (SameIn.swp (by omega) (by omega))
theorem insD_same (f : Nat → Int) {a m k b : Nat} (h : k ≤ m) (ha : a ≤ k) (hb : m < b) : SameIn f (insD f m k) a b := by
  obtain ⟨d, rfl⟩ : ∃ d, m = k + d := ⟨m - k, by omega⟩
  clear h
  induction d generalizing k with
  | zero => rw [Nat.add_zero, insD_zero]; exact SameIn.refl _ _ _
  | succ d ih =>
    have := ih (k := k + 1) (by omega) (by omega)
    rw [show k + 1 + d = k + (d + 1) by omega] at this
    exact (insD_succ f (show k + 1 ≤ k + (d + 1) by omega)) ▸ this.trans (SameIn.swp (by omega) (by omega))
theorem insU_sorted {K : Int → Int} {f : Nat → Int} {a i b : Nat} (hs : SortedK K f (a + 1) b) (hl : LoIn f a (a + 1) b) (hi : a + 1 ≤ i) (hib : i ≤ b) (h1 : ∀ q, a + 1 ≤ q → q < i → K (f q) < K (f a)) (h2 : ∀ q, i ≤ q → q < b → K (f a) ≤ K (f q)) : SortedK K (insU f a (i - 1)) a b := by
  have lo : ∀ q, i ≤ q → q < b → ltK K (f a) (f q) := fun q x1 x2 => by
    have y1 := h2 q x1 x2
    have y2 := hl a q (by omega) (by omega) (by omega) x2
    unfold ltK
    omega
  have hi' : ∀ q, a + 1 ≤ q → q < i → ltK K (f q) (f a) := fun q x1 x2 => .inl (h1 q x1 x2)
  intro p q x1 x2 x3
  unfold insU
  by_cases c1 : p < i - 1
  · rw [if_pos ⟨x1, c1⟩]
    by_cases c2 : q < i - 1
    · rw [if_pos ⟨by omega, c2⟩]
      exact hs _ _ (by omega) (by omega) (by omega)
    · rw [if_neg (by omega)]
      by_cases c3 : q = i - 1
      · rw [if_pos c3]
        exact hi' _ (by omega) (by omega)
      · rw [if_neg c3]
        exact hs _ _ (by omega) (by omega) (by omega)
  · rw [if_neg (by omega), if_neg (show ¬ (a ≤ q ∧ q < i - 1) by omega), if_neg (show ¬ q = i - 1 by omega)]
    by_cases c2 : p = i - 1
    · rw [if_pos c2]
      exact lo q (by omega) x3
    · rw [if_neg c2]
      exact hs _ _ (by omega) (by omega) (by omega)
theorem insD_sorted {K : Int → Int} {f : Nat → Int} {a i m : Nat} (hs : SortedK K f a m) (hl : LoIn f a m (m + 1)) (hi : a ≤ i) (him : i ≤ m) (h1 : ∀ q, a ≤ q → q < i → K (f q) ≤ K (f m)) (h2 : ∀ q, i ≤ q → q < m → K (f m) < K (f q)) : SortedK K (insD f m i) a (m + 1) := by
  have lo : ∀ q, a ≤ q → q < i → ltK K (f q) (f m) := fun q x1 x2 => by
    have y1 := h1 q x1 x2
    have y2 := hl q m x1 (by omega) (by omega) (by omega)
    unfold ltK
    omega
  have hi' : ∀ q, i ≤ q → q < m → ltK K (f m) (f q) := fun q x1 x2 => .inl (h2 q x1 x2)
  intro p q x1 x2 x3
  unfold insD
  by_cases c1 : p = i
  · rw [if_pos c1, if_neg (show ¬ q = i by omega), if_pos (by omega)]
    exact hi' _ (by omega) (by omega)
  · rw [if_neg c1]
    by_cases c2 : i < p ∧ p ≤ m
    · rw [if_pos c2, if_neg (show ¬ q = i by omega), if_pos (by omega)]
      exact hs _ _ (by omega) (by omega) (by omega)
    · rw [if_neg c2]
      by_cases c3 : q = i
      · rw [if_pos c3]
        exact lo _ x1 (by omega)
      · rw [if_neg c3]
        by_cases c4 : i < q ∧ q ≤ m
        · rw [if_pos c4]
          exact hs _ _ x1 (by omega) (by omega)
        · rw [if_neg c4]
          exact hs _ _ x1 x2 (by omega)

set_option maxRecDepth 100000 in
set_option maxHeartbeats 3200000 in
theorem sym_left (p g n cap a m b : Nat) (f : Nat → Int) (K : Int → Int) (G : Int → Prop) (w0 w : World) (s : SortAt w0 w g n cap f) (hL : LessOk p K G w0) (hG : ∀ k, k < n → G (f k)) (hma : m = a + 1) (hm : m < b) (hb : b ≤ n) (hs : SortedK K f m b) (hl : LoIn f a m b) :
    Calls Try.prog 112 #[.slice (some ⟨g, 0, none⟩) n cap, .int .i64 a, .int .i64 m, .int .i64 b, .func (.func 65) #[] #[.pointer (some ⟨p, 0, none⟩)]] w fun e w' => ∃ h, SortRet w0 g n cap h e w' ∧ SameIn f h a (b) ∧ SortedK K h a (b) := by
  have hn := s.1.1
  have HS := Lib.hid s
  have HL := Lib.hid hL
  have HG := Lib.hid hG
  have HD := Lib.hid hs
  have HO := Lib.hid hl
  clear s hL hG hs hl
  have e1 : (m : Int) - (a : Int) = 1 := by omega
  have HM := Lib.hid hma
  have ham : a < m := by omega
  clear hma
  go_enter Try.func112, Try.ntmps112
  go_wp2
  go_loopw [10, 11] (fun si sj wr => ∃ (i j : Nat), si = .int .i64 i ∧ sj = .int .i64 j ∧ m ≤ i ∧ i ≤ j ∧ j ≤ b ∧ SortAt w0 wr g n cap f ∧ (∀ q, m ≤ q → q < i → K (f q) < K (f a)) ∧ ∀ q, j ≤ q → q < b → K (f a) ≤ K (f q)) (fun si sj _ => (intOf sj).toNat - (intOf si).toNat)
  case atStart => exact ⟨m, b, rfl, rfl, Nat.le_refl _, by omega, Nat.le_refl _, HS.out, fun q h1 h2 => absurd h1 (by omega), fun q h1 h2 => absurd h1 (by omega)⟩
  case round =>
    obtain ⟨i, j, rfl, rfl, hai, hij, hjb, hs, h1, h2⟩ := hrel
    have HR := Lib.hid hs
    have H1 := Lib.hid h1
    have H2 := Lib.hid h2
    clear hs h1 h2
    by_cases hlt : i < j
    · skip
      obtain ⟨c, hc⟩ : ∃ c : Nat, c = (i + j) / 2 := ⟨_, rfl⟩
      have ec : ((i : Int) + (j : Int)) / 2 = (c : Int) := by omega
      have hci : i ≤ c := by omega
      have hcj : c < j := by omega
      clear hc
      have x0 := HR.out.cell (k := c) (by omega)
      have x1 := HR.out.cell (k := a) (by omega)
      have HC := Lib.hid (fun W hb => HL.out (f c) (f a) W (HG.out c (by omega)) (HG.out a (by omega)) hb)
      have i0 : (0 : Int) ≤ (c : Int) := by omega
      have i1 : (c : Int) < (n : Int) := by omega
      have j0 : (0 : Int) ≤ (a : Int) := by omega
      have j1 : (a : Int) < (n : Int) := by omega
      by_cases hl : K (f c) < K (f a)
      · have HLT := Lib.hid hl
        clear hl
        go_wp2
        go_region_held3 (fun W => W.cell? ⟨g, c, none⟩ = some (.int .i64 (f c)) ∧ W.cell? ⟨g, a, none⟩ = some (.int .i64 (f a)))
          (first | with_reducible exact ⟨x0, x1⟩ | (go_simp; done) | go_keep)
          ((go_at_call 65; (with_reducible refine (HC.out _ (Below.drew HR.out.bel)).mono ?_); rintro e w1 ⟨⟨r, rfl, hr⟩, hb⟩; have r0 : r < 0 := hr.2 HLT.out; have HS1 := Lib.hid (HR.out.below ((Below.drew (Below.refl _ _)).trans (hb.mono (Nat.le_refl _)))); have x0 := HS1.out.cell (k := c) (by omega); have x1 := HS1.out.cell (k := a) (by omega); clear hb hr))
        go_wp2
        go_roundw
        case rel =>
          refine ⟨c + 1, j, by go_num, rfl, by omega, by omega, hjb, HS1.out, fun q h1 h2 => ?_, H2.out⟩
          by_cases e : q = c
          · rw [e]; exact HLT.out
          · exact Int.lt_of_le_of_lt (HD.out q c h1 (by omega) (by omega)).le HLT.out
        case measure => simp [intOf]; omega
      · have HLT := Lib.hid (Int.not_lt.1 hl)
        clear hl
        go_wp2
        go_region_held3 (fun W => W.cell? ⟨g, c, none⟩ = some (.int .i64 (f c)) ∧ W.cell? ⟨g, a, none⟩ = some (.int .i64 (f a)))
          (first | with_reducible exact ⟨x0, x1⟩ | (go_simp; done) | go_keep)
          ((go_at_call 65; (with_reducible refine (HC.out _ (Below.drew HR.out.bel)).mono ?_); rintro e w1 ⟨⟨r, rfl, hr⟩, hb⟩; have r0 : 0 ≤ r := Int.not_lt.1 (fun h => Int.not_lt.2 HLT.out (hr.1 h)); have r1 := decide_eq_false (Int.not_lt.2 r0); have HS1 := Lib.hid (HR.out.below ((Below.drew (Below.refl _ _)).trans (hb.mono (Nat.le_refl _)))); have x0 := HS1.out.cell (k := c) (by omega); have x1 := HS1.out.cell (k := a) (by omega); clear hb hr))
        go_wp2
        go_roundw
        case rel =>
          refine ⟨i, c, rfl, rfl, hai, by omega, by omega, HS1.out, H1.out, fun q h1 h2 => ?_⟩
          by_cases e : q = c
          · rw [e]; exact HLT.out
          · exact Int.le_trans HLT.out (HD.out c q (by omega) (by omega) h2).le
        case measure => simp [intOf]; omega
    · obtain rfl : i = j := by omega
      have HF := Lib.hid (insU_sorted (HM.out ▸ HD.out) (HM.out ▸ HO.out) (HM.out ▸ hai) hjb (HM.out ▸ H1.out) H2.out)
      obtain ⟨t, rfl⟩ : ∃ t, i = t + 1 := ⟨i - 1, by omega⟩
      clear hlt hij H1 H2
      go_wp2
      go_loopw [13] (fun sk wr2 => ∃ k : Nat, sk = .int .i64 k ∧ a ≤ k ∧ k ≤ t ∧ SortAt w0 wr2 g n cap (insU f a k)) (fun sk _ => t - (intOf sk).toNat)
      case atStart => exact ⟨a, rfl, Nat.le_refl _, by omega, by rw [insU_zero]; exact HR.out⟩
      case round =>
        obtain ⟨k, rfl, hak, hkt, hs2⟩ := hrel
        have HR2 := Lib.hid hs2
        clear hs2
        by_cases hk : k < t
        · have x0 := HR2.out.cell (k := k) (by omega)
          have x1 := HR2.out.cell (k := k + 1) (by omega)
          have y0 := HR2.out.soft (k := k) (by omega)
          have y1 := HR2.out.soft (k := k + 1) (by omega)
          have i0 : (0 : Int) ≤ (k : Int) := by omega
          have i1 : (k : Int) < (n : Int) := by omega
          have j0 : (0 : Int) ≤ (k : Int) + 1 := by omega
          have j1 : (k : Int) + 1 < (n : Int) := by omega
          have HN := Lib.hid (fun q : Nat => (HR2.out.below (below_drewN (Below.refl _ _) q)).swap (i := k) (j := k + 1) (by omega) (by omega))
          go_wp2
          go_region
          all_goals go_wp2
          go_roundw
          case rel => exact ⟨k + 1, by go_num, by omega, by omega, by rw [← insU_succ f hak]; exact HN.out _⟩
          case measure => simp [intOf]; omega
        · obtain rfl : k = t := by omega
          go_wp2
          (try simp only [Exit.inBlock, Exit.then])
          refine bodyPost_ret (results_none rfl _ _ _) rfl ?_
          exact ⟨_, ⟨rfl, HR2.out⟩, insU_same f hak (by omega), HF.out⟩

set_option maxRecDepth 100000 in
set_option maxHeartbeats 3200000 in
theorem sym_right (p g n cap a m b : Nat) (f : Nat → Int) (K : Int → Int) (G : Int → Prop) (w0 w : World) (s : SortAt w0 w g n cap f) (hL : LessOk p K G w0) (hG : ∀ k, k < n → G (f k)) (hbm : b = m + 1) (hm : a + 1 < m) (hb : b ≤ n) (hs : SortedK K f a m) (hl : LoIn f a m b) :
    Calls Try.prog 112 #[.slice (some ⟨g, 0, none⟩) n cap, .int .i64 a, .int .i64 m, .int .i64 b, .func (.func 65) #[] #[.pointer (some ⟨p, 0, none⟩)]] w fun e w' => ∃ h, SortRet w0 g n cap h e w' ∧ SameIn f h a (b) ∧ SortedK K h a (b) := by
  have hn := s.1.1
  have HS := Lib.hid s
  have HL := Lib.hid hL
  have HG := Lib.hid hG
  have HD := Lib.hid hs
  have HO := Lib.hid hl
  clear s hL hG hs hl
  have ne : ¬ ((m : Int) - (a : Int) = 1) := by omega
  have nb : ((m : Int) - (a : Int) == 1) = false := by simpa using ne
  have e1 : (b : Int) - (m : Int) = 1 := by omega
  have HM := Lib.hid hbm
  have hmb : m < b := by omega
  clear hbm
  go_enter Try.func112, Try.ntmps112
  go_wp2
  go_loopw [14, 15] (fun si sj wr => ∃ (i j : Nat), si = .int .i64 i ∧ sj = .int .i64 j ∧ a ≤ i ∧ i ≤ j ∧ j ≤ m ∧ SortAt w0 wr g n cap f ∧ (∀ q, a ≤ q → q < i → K (f q) ≤ K (f m)) ∧ ∀ q, j ≤ q → q < m → K (f m) < K (f q)) (fun si sj _ => (intOf sj).toNat - (intOf si).toNat)
  case atStart => exact ⟨a, m, rfl, rfl, Nat.le_refl _, by omega, Nat.le_refl _, HS.out, fun q h1 h2 => absurd h1 (by omega), fun q h1 h2 => absurd h1 (by omega)⟩
  case round =>
    obtain ⟨i, j, rfl, rfl, hai, hij, hjb, hs, h1, h2⟩ := hrel
    have HR := Lib.hid hs
    have H1 := Lib.hid h1
    have H2 := Lib.hid h2
    clear hs h1 h2
    by_cases hlt : i < j
    · skip
      obtain ⟨c, hc⟩ : ∃ c : Nat, c = (i + j) / 2 := ⟨_, rfl⟩
      have ec : ((i : Int) + (j : Int)) / 2 = (c : Int) := by omega
      have hci : i ≤ c := by omega
      have hcj : c < j := by omega
      clear hc
      have x0 := HR.out.cell (k := m) (by omega)
      have x1 := HR.out.cell (k := c) (by omega)
      have HC := Lib.hid (fun W hb => HL.out (f m) (f c) W (HG.out m (by omega)) (HG.out c (by omega)) hb)
      have i0 : (0 : Int) ≤ (m : Int) := by omega
      have i1 : (m : Int) < (n : Int) := by omega
      have j0 : (0 : Int) ≤ (c : Int) := by omega
      have j1 : (c : Int) < (n : Int) := by omega
      by_cases hl : K (f m) < K (f c)
      · have HLT := Lib.hid hl
        clear hl
        go_wp2
        go_region_held3 (fun W => W.cell? ⟨g, m, none⟩ = some (.int .i64 (f m)) ∧ W.cell? ⟨g, c, none⟩ = some (.int .i64 (f c)))
          (first | with_reducible exact ⟨x0, x1⟩ | (go_simp; done) | go_keep)
          ((go_at_call 65; (with_reducible refine (HC.out _ (Below.drew HR.out.bel)).mono ?_); rintro e w1 ⟨⟨r, rfl, hr⟩, hb⟩; have r0 : r < 0 := hr.2 HLT.out; have HS1 := Lib.hid (HR.out.below ((Below.drew (Below.refl _ _)).trans (hb.mono (Nat.le_refl _)))); have x0 := HS1.out.cell (k := m) (by omega); have x1 := HS1.out.cell (k := c) (by omega); clear hb hr))
        go_wp2
        go_roundw
        case rel =>
          refine ⟨i, c, rfl, rfl, hai, by omega, by omega, HS1.out, H1.out, fun q h1 h2 => ?_⟩
          by_cases e : q = c
          · rw [e]; exact HLT.out
          · exact Int.lt_of_lt_of_le HLT.out (HD.out c q (by omega) (by omega) h2).le
        case measure => simp [intOf]; omega
      · have HLT := Lib.hid (Int.not_lt.1 hl)
        clear hl
        go_wp2
        go_region_held3 (fun W => W.cell? ⟨g, m, none⟩ = some (.int .i64 (f m)) ∧ W.cell? ⟨g, c, none⟩ = some (.int .i64 (f c)))
          (first | with_reducible exact ⟨x0, x1⟩ | (go_simp; done) | go_keep)
          ((go_at_call 65; (with_reducible refine (HC.out _ (Below.drew HR.out.bel)).mono ?_); rintro e w1 ⟨⟨r, rfl, hr⟩, hb⟩; have r0 : 0 ≤ r := Int.not_lt.1 (fun h => Int.not_lt.2 HLT.out (hr.1 h)); have r1 := decide_eq_false (Int.not_lt.2 r0); have HS1 := Lib.hid (HR.out.below ((Below.drew (Below.refl _ _)).trans (hb.mono (Nat.le_refl _)))); have x0 := HS1.out.cell (k := m) (by omega); have x1 := HS1.out.cell (k := c) (by omega); clear hb hr))
        go_wp2
        go_roundw
        case rel =>
          refine ⟨c + 1, j, by go_num, rfl, by omega, by omega, hjb, HS1.out, fun q h1 h2 => ?_, H2.out⟩
          by_cases e : q = c
          · rw [e]; exact HLT.out
          · exact Int.le_trans (HD.out q c h1 (by omega) (by omega)).le HLT.out
        case measure => simp [intOf]; omega
    · obtain rfl : i = j := by omega
      have HF := Lib.hid (insD_sorted HD.out (HM.out ▸ HO.out) hai hjb H1.out H2.out)
      clear hlt hij H1 H2
      go_wp2
      go_loopw [17] (fun sk wr2 => ∃ k : Nat, sk = .int .i64 k ∧ i ≤ k ∧ k ≤ m ∧ SortAt w0 wr2 g n cap (insD f m k)) (fun sk _ => (intOf sk).toNat)
      case atStart => exact ⟨m, rfl, by omega, Nat.le_refl _, by rw [insD_zero]; exact HR.out⟩
      case round =>
        obtain ⟨k, rfl, hik, hkm, hs2⟩ := hrel
        have HR2 := Lib.hid hs2
        clear hs2
        by_cases hk : i < k
        · obtain ⟨q, rfl⟩ : ∃ q, k = q + 1 := ⟨k - 1, by omega⟩
          have x0 := HR2.out.cell (k := q) (by omega)
          have x1 := HR2.out.cell (k := q + 1) (by omega)
          have y0 := HR2.out.soft (k := q) (by omega)
          have y1 := HR2.out.soft (k := q + 1) (by omega)
          have i0 : (0 : Int) ≤ (q : Int) := by omega
          have i1 : (q : Int) < (n : Int) := by omega
          have j0 : (0 : Int) ≤ (q : Int) + 1 := by omega
          have j1 : (q : Int) + 1 < (n : Int) := by omega
          have HN := Lib.hid (fun d : Nat => (HR2.out.below (below_drewN (Below.refl _ _) d)).swap (i := q + 1) (j := q) (by omega) (by omega))
          go_wp2
          go_region
          all_goals go_wp2
          go_roundw
          case rel => exact ⟨q, by go_num, by omega, by omega, by rw [← insD_succ f hkm]; exact HN.out _⟩
          case measure => simp [intOf]
        · obtain rfl : k = i := by omega
          go_wp2
          (try simp only [Exit.inBlock, Exit.then])
          refine bodyPost_ret (results_none rfl _ _ _) rfl ?_
          exact ⟨_, ⟨rfl, HR2.out⟩, insD_same f hkm hai (by omega), HM.out ▸ HF.out⟩
end Go.Proofs.Ytihpjfhibhpciaa
