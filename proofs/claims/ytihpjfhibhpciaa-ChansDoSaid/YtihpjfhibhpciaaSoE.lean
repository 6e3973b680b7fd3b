/- What the library's stable sort does: symMerge, over the seat's program. -/
import Derived.Test.YtihpjfhibhpciaaSoD
import Derived.Deep.Cut
namespace Go.Proofs.Ytihpjfhibhpciaa
open Go.ChangeShapes Go.WideShapes Go.ChangeAt Go.RowKit Go.Joins

theorem rot_same {f : Nat → Int} {s m e : Nat} (h1 : s ≤ m) (h2 : m ≤ e) : SameIn f (rot f s m e) s e := by
  refine ⟨fun k x1 x2 => ?_, fun k x1 x2 => ?_, fun k hk => ?_⟩
  · unfold rot
    by_cases c : s ≤ k ∧ k < s + (e - m)
    · rw [if_pos c]; exact ⟨_, by omega, by omega, rfl⟩
    · rw [if_neg c, if_pos (by omega)]; exact ⟨_, by omega, by omega, rfl⟩
  · by_cases c : k < m
    · refine ⟨k + (e - m), by omega, by omega, ?_⟩
      unfold rot
      rw [if_neg (by omega), if_pos (by omega)]
      congr 1
      omega
    · refine ⟨k - m + s, by omega, by omega, ?_⟩
      unfold rot
      rw [if_pos (by omega)]
      congr 1
      omega
  · unfold rot
    rw [if_neg (by omega), if_neg (by omega)]
theorem rot_idle {f : Nat → Int} {s m e : Nat} (h1 : s ≤ m) (h2 : m ≤ e) (h : ¬ (s < m ∧ m < e)) : rot f s m e = f := by
  funext k
  unfold rot
  by_cases c : s ≤ k ∧ k < s + (e - m)
  · rw [if_pos c]; congr 1; omega
  · rw [if_neg c]
    by_cases c' : s + (e - m) ≤ k ∧ k < e
    · rw [if_pos c']; congr 1; omega
    · rw [if_neg c']
/-- What a rotation leaves: two pairs of sorted rows, all of the first pair ahead of all of the second. -/
structure Parted (K : Int → Int) (f h : Nat → Int) (a s mid e b : Nat) : Prop where
  same : SameIn f h a b
  s1 : SortedK K h a s
  s2 : SortedK K h s mid
  s3 : SortedK K h mid e
  s4 : SortedK K h e b
  l1 : LoIn h a s mid
  l2 : LoIn h mid e b
  lt : ∀ p q, a ≤ p → p < mid → mid ≤ q → q < b → ltK K (h p) (h q)
theorem parted {K : Int → Int} {f : Nat → Int} {a m b mid s0 r0 s e : Nat} (hs1 : SortedK K f a m) (hs2 : SortedK K f m b) (lo : LoIn f a m b) (_ham : a < m) (_hmb : m < b)
    (h1 : a ≤ s0) (h2 : r0 ≤ m) (h3 : r0 ≤ mid) (h4 : mid + m ≤ s0 + b) (h5 : s0 = a ∨ s0 + b = mid + m) (h6 : r0 = m ∨ r0 = mid) (hs : s0 ≤ s) (hr : s ≤ r0) (he : e = mid + m - s)
    (i1 : s0 < s → K (f (s - 1)) ≤ K (f (mid + m - s))) (i2 : s < r0 → K (f (mid + m - 1 - s)) < K (f s)) : Parted K f (rot f s m e) a s mid e b := by
  have v1 : ∀ k, k < s → rot f s m e k = f k := fun k hk => by unfold rot; rw [if_neg (by omega), if_neg (by omega)]
  have v2 : ∀ k, s ≤ k → k < mid → rot f s m e k = f (k - s + m) := fun k hk hk' => by unfold rot; rw [if_pos (by omega)]
  have v3 : ∀ k, mid ≤ k → k < e → rot f s m e k = f (k - mid + s) := fun k hk hk' => by unfold rot; rw [if_neg (by omega), if_pos (by omega)]; congr 1; omega
  have v4 : ∀ k, e ≤ k → rot f s m e k = f k := fun k hk => by unfold rot; rw [if_neg (by omega), if_neg (by omega)]
  have xy : ∀ x y, a ≤ x → x < s → e ≤ y → y < b → ltK K (f x) (f y) := fun x y x1 x2 y1 y2 => by
    have q1 := i1 (by omega)
    have q2 := lo (s - 1) (mid + m - s) (by omega) (by omega) (by omega) (by omega)
    have q3 : ltK K (f (s - 1)) (f (mid + m - s)) := by unfold ltK; omega
    rw [← he] at q3
    have q4 : ltK K (f x) (f e) := by
      by_cases c : x = s - 1
      · rw [c]; exact q3
      · exact (hs1 x (s - 1) x1 (by omega) (by omega)).trans q3
    by_cases c : y = e
    · rw [c]; exact q4
    · exact q4.trans (hs2 e y (by omega) (by omega) y2)
  have yx : ∀ y x, m ≤ y → y < e → s ≤ x → x < m → ltK K (f y) (f x) := fun y x y1 y2 x1 x2 => by
    have q1 := i2 (by omega)
    have q3 : ltK K (f (e - 1)) (f s) := by rw [he, show mid + m - s - 1 = mid + m - 1 - s by omega]; exact .inl q1
    have q4 : ltK K (f y) (f s) := by
      by_cases c : y = e - 1
      · rw [c]; exact q3
      · exact (hs2 y (e - 1) y1 (by omega) (by omega)).trans q3
    by_cases c : x = s
    · rw [c]; exact q4
    · exact q4.trans (hs1 s x (by omega) (by omega) x2)
  refine ⟨(rot_same (by omega) (by omega)).widen (by omega) (by omega), fun p q x1 x2 x3 => ?_, fun p q x1 x2 x3 => ?_, fun p q x1 x2 x3 => ?_, fun p q x1 x2 x3 => ?_, fun p q x1 x2 x3 x4 => ?_, fun p q x1 x2 x3 x4 => ?_, fun p q x1 x2 x3 x4 => ?_⟩
  · rw [v1 p (by omega), v1 q x3]; exact hs1 p q x1 x2 (by omega)
  · rw [v2 p x1 (by omega), v2 q (by omega) x3]; exact hs2 _ _ (by omega) (by omega) (by omega)
  · rw [v3 p x1 (by omega), v3 q (by omega) x3]; exact hs1 _ _ (by omega) (by omega) (by omega)
  · rw [v4 p x1, v4 q (by omega)]; exact hs2 _ _ (by omega) x2 x3
  · rw [v1 p x2, v2 q x3 x4]; exact lo _ _ x1 (by omega) (by omega) (by omega)
  · rw [v3 p x1 x2, v4 q x3]; exact lo _ _ (by omega) (by omega) (by omega) x4
  · by_cases c1 : p < s
    · rw [v1 p c1]
      by_cases c2 : q < e
      · rw [v3 q x3 c2]; exact hs1 _ _ x1 (by omega) (by omega)
      · rw [v4 q (by omega)]; exact xy p q x1 c1 (by omega) x4
    · rw [v2 p (by omega) x2]
      by_cases c2 : q < e
      · rw [v3 q x3 c2]; exact yx _ _ (by omega) (by omega) (by omega) (by omega)
      · rw [v4 q (by omega)]; exact hs2 _ _ (by omega) (by omega) x4
/-- What stands ahead of each round of the search. -/
def Srch (K : Int → Int) (f : Nat → Int) (s0 r0 mid m s r : Nat) : Prop := (s0 < s → K (f (s - 1)) ≤ K (f (mid + m - s))) ∧ (r < r0 → K (f (mid + m - 1 - r)) < K (f r))
theorem Parted.left {K : Int → Int} {f h : Nat → Int} {a s mid e b : Nat} (x : Parted K f h a s mid e b) (h1 : a ≤ s) (h2 : s ≤ mid) (hn : ¬ (a < s ∧ s < mid)) : SortedK K h a mid := by
  by_cases c : s = a
  · exact c ▸ x.s2
  · obtain rfl : s = mid := by omega
    exact x.s1
theorem Parted.right {K : Int → Int} {f h h2 : Nat → Int} {a s mid e b : Nat} (x : Parted K f h a s mid e b) (hh : SameIn h h2 a mid) (y1 : mid ≤ e) (y2 : e ≤ b) (hn : ¬ (mid < e ∧ e < b)) : SortedK K h2 mid b := by
  intro p q x1 x2 x3
  rw [hh.2.2 p (by omega), hh.2.2 q (by omega)]
  by_cases c : e = mid
  · exact x.s4 p q (by omega) x2 x3
  · obtain rfl : e = b := by omega
    exact x.s3 p q x1 x2 x3
theorem SortedK.moved {K : Int → Int} {h h2 : Nat → Int} {a mid p q : Nat} (x : SortedK K h p q) (hh : SameIn h h2 a mid) (hp : mid ≤ p) : SortedK K h2 p q := fun i j x1 x2 x3 => by
  rw [hh.2.2 i (by omega), hh.2.2 j (by omega)]; exact x i j x1 x2 x3
theorem LoIn.moved {h h2 : Nat → Int} {a mid p q r : Nat} (x : LoIn h p q r) (hh : SameIn h h2 a mid) (hp : mid ≤ p) : LoIn h2 p q r := fun i j x1 x2 x3 x4 => by
  rw [hh.2.2 i (by omega), hh.2.2 j (by omega)]; exact x i j x1 x2 x3 x4
theorem Parted.done {K : Int → Int} {f h h2 h3 : Nat → Int} {a s mid e b : Nat} (x : Parted K f h a s mid e b) (ha : a ≤ mid) (hb : mid ≤ b) (y : SameIn h h2 a mid) (z : SameIn h2 h3 mid b) (s1 : SortedK K h2 a mid) (s2 : SortedK K h3 mid b) : SameIn f h3 a b ∧ SortedK K h3 a b := by
  refine ⟨(x.same.trans (y.widen (Nat.le_refl _) hb)).trans (z.widen ha (Nat.le_refl _)), fun p q x1 x2 x3 => ?_⟩
  by_cases c1 : q < mid
  · rw [z.2.2 p (by omega), z.2.2 q (by omega)]
    exact s1 p q x1 x2 c1
  · by_cases c2 : mid ≤ p
    · exact s2 p q c2 x2 x3
    · rw [z.2.2 p (by omega)]
      obtain ⟨q', q1, q2, e1⟩ := z.1 q (by omega) x3
      obtain ⟨p', p1, p2, e2⟩ := y.1 p x1 (by omega)
      rw [e1, e2, y.2.2 q' (by omega)]
      exact x.lt p' q' p1 p2 q1 q2

set_option maxRecDepth 100000 in
set_option maxHeartbeats 6400000 in
theorem sym_any (p g n cap : Nat) (K : Int → Int) (G : Int → Prop) (w0 : World) (hL : LessOk p K G w0) : ∀ (N a m b : Nat) (f : Nat → Int) (w : World), b - a ≤ N → SortAt w0 w g n cap f → (∀ k, k < n → G (f k)) → a < m → m < b → b ≤ n → SortedK K f a m → SortedK K f m b → LoIn f a m b →
    Calls Try.prog 112 #[.slice (some ⟨g, 0, none⟩) n cap, .int .i64 a, .int .i64 m, .int .i64 b, .func (.func 65) #[] #[.pointer (some ⟨p, 0, none⟩)]] w fun e w' => ∃ h, SortRet w0 g n cap h e w' ∧ SameIn f h a b ∧ SortedK K h a b := by
  intro N
  induction N with
  | zero => intro a m b f w hN s hG ham hmb; omega
  | succ N ih =>
    intro a m b f w hN s hG ham hmb hb hs1 hs2 hl
    by_cases c1 : m = a + 1
    · exact sym_left p g n cap a m b f K G w0 w s hL hG c1 hmb hb hs2 hl
    by_cases c2 : b = m + 1
    · exact sym_right p g n cap a m b f K G w0 w s hL hG c2 (by omega) hb hs1 hl
    have hn := s.1.1
    have HS := Lib.hid s
    have HL := Lib.hid hL
    have HG := Lib.hid hG
    have H1 := Lib.hid hs1
    have H2 := Lib.hid hs2
    have HO := Lib.hid hl
    have IH := Lib.hid ih
    have n1 : ((m : Int) - (a : Int) == 1) = false := by simp; omega
    have n2 : ((b : Int) - (m : Int) == 1) = false := by simp; omega
    have n3 : ¬ ((m : Int) - (a : Int) = 1) := by omega
    have n4 : ¬ ((b : Int) - (m : Int) = 1) := by omega
    obtain ⟨mid, hmid⟩ : ∃ mid : Nat, mid = (a + b) / 2 := ⟨_, rfl⟩
    have em : ((a : Int) + (b : Int)) / 2 = (mid : Int) := by omega
    have hmid1 : a < mid := by omega
    have hmid2 : mid < b := by omega
    have hmid3 : 2 * mid ≤ a + b ∧ a + b ≤ 2 * mid + 1 := by omega
    clear s hG hs1 hs2 hl ih c1 c2 hmid
    go_enter Try.func112, Try.ntmps112
    go_upto_if 140 with (fail)
    go_cut [20, 21] from 25 (fun x y wc => wc = w ∧ ∃ s0 r0 : Nat, x = .int .i64 s0 ∧ y = .int .i64 r0 ∧ s0 ≤ r0 ∧ a ≤ s0 ∧ r0 ≤ m ∧ r0 ≤ mid ∧ mid + m ≤ s0 + b ∧ (s0 = a ∨ s0 + b = mid + m) ∧ (r0 = m ∨ r0 = mid))
    case first =>
      as_aux_lemma =>
        clear n1 n2 n3 n4
        by_cases hc : mid < m
        · have hc' : (mid : Int) < (m : Int) := by omega
          go_wp2
          go_meet
          case rel => exact ⟨rfl, mid + m - b, mid, by go_num, rfl, by omega, by omega, by omega, by omega, by omega, by omega, by omega⟩
        · have hc' : (m : Int) ≤ (mid : Int) := by omega
          go_wp2
          go_meet
          case rel => exact ⟨rfl, a, m, rfl, rfl, by omega, by omega, by omega, by omega, by omega, by omega, by omega⟩
    case rest =>
      as_aux_lemma =>
        obtain ⟨rfl, s0, r0, rfl, rfl, k0, k1, k2, k3, k4, k5, k6⟩ := hcut
        have HK := Lib.hid (And.intro k5 k6)
        have hn2 : n ≤ 17592186044415 := by omega
        clear n1 n2 n3 n4 k5 k6 hn hmid3
        go_wp2
        go_loopw [20, 21] (fun x y wr => ∃ s r : Nat, x = .int .i64 s ∧ y = .int .i64 r ∧ s0 ≤ s ∧ s ≤ r ∧ r ≤ r0 ∧ SortAt w0 wr g n cap f ∧ Srch K f s0 r0 mid m s r) (fun x y _ => (intOf y).toNat - (intOf x).toNat)
        case atStart => exact ⟨s0, r0, rfl, rfl, Nat.le_refl _, k0, Nat.le_refl _, HS.out, fun h => absurd h (Nat.lt_irrefl _), fun h => absurd h (Nat.lt_irrefl _)⟩
        case round =>
          obtain ⟨s, r, rfl, rfl, hs0, hsr, hr0, hs, hi⟩ := hrel
          have HR := Lib.hid hs
          have HI := Lib.hid hi
          clear hs hi
          by_cases hlt : s < r
          · obtain ⟨c, hc⟩ : ∃ c : Nat, c = (s + r) / 2 := ⟨_, rfl⟩
            have ec : ((s : Int) + (r : Int)) / 2 = (c : Int) := by omega
            have hci : s ≤ c := by omega
            have hcj : c < r := by omega
            clear hc
            obtain ⟨d, hd⟩ : ∃ d : Nat, d = mid + m - 1 - c := ⟨_, rfl⟩
            have ed : (mid : Int) + (m : Int) - 1 - (c : Int) = (d : Int) := by omega
            have ew : IntKind.i64.wrap ((mid : Int) + (m : Int) - 1 - (c : Int)) = (d : Int) := by rw [ed]; exact IntWalk.i64_in _ (by omega)
            have ew2 : IntKind.i64.wrap (d : Int) = (d : Int) := IntWalk.i64_in _ (by omega)
            have hdn : d < n := by omega
            have HDD := Lib.hid hd
            clear hd
            have x0 := HR.out.cell (k := d) hdn
            have x1 := HR.out.cell (k := c) (by omega)
            have HC := Lib.hid (fun W hb => HL.out (f d) (f c) W (HG.out d hdn) (HG.out c (by omega)) hb)
            have i0 : (0 : Int) ≤ (d : Int) := by omega
            have i1 : (d : Int) < (n : Int) := by omega
            have j0 : (0 : Int) ≤ (c : Int) := by omega
            have j1 : (c : Int) < (n : Int) := by omega
            by_cases hl : K (f d) < K (f c)
            · have HLT := Lib.hid hl
              clear hl
              go_wp2
              go_region_held3 (fun W => W.cell? ⟨g, d, none⟩ = some (.int .i64 (f d)) ∧ W.cell? ⟨g, c, none⟩ = some (.int .i64 (f c)))
                (first | with_reducible exact ⟨x0, x1⟩ | (go_simp; done) | go_keep)
                ((go_at_call 65; (with_reducible refine (HC.out _ (Below.drew HR.out.bel)).mono ?_); rintro e w1 ⟨⟨r', rfl, hr⟩, hb⟩; have r0 : r' < 0 := hr.2 HLT.out; have HS1 := Lib.hid (HR.out.below ((Below.drew (Below.refl _ _)).trans (hb.mono (Nat.le_refl _)))); have x0 := HS1.out.cell (k := d) (by omega); have x1 := HS1.out.cell (k := c) (by omega); clear hb hr))
              go_wp2
              go_roundw
              case rel => exact ⟨s, c, rfl, rfl, hs0, hci, by omega, HS1.out, HI.out.1, fun _ => by rw [← HDD.out]; exact HLT.out⟩
              case measure => simp [intOf]; omega
            · have HLT := Lib.hid (Int.not_lt.1 hl)
              clear hl
              go_wp2
              go_region_held3 (fun W => W.cell? ⟨g, d, none⟩ = some (.int .i64 (f d)) ∧ W.cell? ⟨g, c, none⟩ = some (.int .i64 (f c)))
                (first | with_reducible exact ⟨x0, x1⟩ | (go_simp; done) | go_keep)
                ((go_at_call 65; (with_reducible refine (HC.out _ (Below.drew HR.out.bel)).mono ?_); rintro e w1 ⟨⟨r', rfl, hr⟩, hb⟩; have r0 : 0 ≤ r' := Int.not_lt.1 (fun h => Int.not_lt.2 HLT.out (hr.1 h)); have r1 := decide_eq_false (Int.not_lt.2 r0); have HS1 := Lib.hid (HR.out.below ((Below.drew (Below.refl _ _)).trans (hb.mono (Nat.le_refl _)))); have x0 := HS1.out.cell (k := d) (by omega); have x1 := HS1.out.cell (k := c) (by omega); clear hb hr))
              go_wp2
              go_roundw
              case rel => exact ⟨c + 1, r, by go_num, rfl, by omega, hcj, hr0, HS1.out, fun _ => by rw [show mid + m - (c + 1) = d by have := HDD.out; omega]; exact HLT.out, HI.out.2⟩
              case measure => simp [intOf]; omega
          · obtain rfl : s = r := by omega
            obtain ⟨e, he⟩ : ∃ e : Nat, e = mid + m - s := ⟨_, rfl⟩
            have ee : (mid : Int) + (m : Int) - (s : Int) = (e : Int) := by omega
            have HP := Lib.hid (parted H1.out H2.out HO.out ham hmb k1 k2 k3 k4 HK.out.1 HK.out.2 hs0 hr0 he HI.out.1 HI.out.2)
            have q1 : s ≤ m := by omega
            have q2 : s ≤ mid := by omega
            have q3 : m ≤ e := by omega
            have q4 : mid ≤ e := by omega
            have q5 : e ≤ b := by omega
            have q6 : a ≤ s := by omega
            clear he k0 k1 k2 k3 k4 HK hs0 hr0 hsr HI H1 H2 HO hlt
            go_upto_region 39 with (fail)
            go_cut [185] from 25 (fun x wc => ∃ y : Bool, x = .bool y ∧ (y = true → s < m ∧ m < e) ∧ (y = false → ¬ (s < m ∧ m < e)) ∧ SortAt w0 wc g n cap f)
            case first =>
              as_aux_lemma =>
                by_cases a1 : s < m
                · have b1 : (s : Int) < (m : Int) := by omega
                  by_cases a2 : m < e
                  · have b2 : (m : Int) < (e : Int) := by omega
                    go_wp2
                    go_meet
                    case rel => exact ⟨true, rfl, fun _ => ⟨a1, a2⟩, fun h => absurd h (by decide), HR.out⟩
                  · have b2 : (e : Int) ≤ (m : Int) := by omega
                    go_wp2
                    go_meet
                    case rel => exact ⟨false, rfl, fun h => absurd h (by decide), fun _ h => a2 h.2, HR.out⟩
                · have b1 : (m : Int) ≤ (s : Int) := by omega
                  go_wp2
                  go_meet
                  case rel => exact ⟨false, rfl, fun h => absurd h (by decide), fun _ h => a1 h.1, HR.out⟩
            case rest =>
              as_aux_lemma =>
                obtain ⟨y, rfl, hy1, hy2, hkeep⟩ := hcut
                have HR0 := Lib.hid hkeep
                have HY := Lib.hid (And.intro hy1 hy2)
                clear hkeep hy1 hy2 HR
                go_upto_if 185 with (fail)
                go_cut [] from 25 (fun wd => SortAt w0 wd g n cap (rot f s m e))
                case first =>
                  as_aux_lemma =>
                    cases y with
                    | true =>
                      have cc := HY.out.1 rfl
                      have HC := Lib.hid (rotate_any p g n cap s m e f w0 _ HR0.out cc.1 cc.2 (by omega))
                      go_wp2_with (go_at_call 119; (with_reducible refine HC.out.mono ?_); rintro e' w1 ⟨rfl, hb⟩; have HS1 := Lib.hid hb; clear hb)
                      go_meet
                      case rel => exact HS1.out
                    | false =>
                      have cc := HY.out.2 rfl
                      go_wp2
                      go_meet
                      case rel => rw [rot_idle q1 q3 cc]; exact HR0.out
                case rest =>
                  as_aux_lemma =>
                    have HR1 := Lib.hid hcut
                    have HG1 := Lib.hid (HP.out.same.all hb HG.out)
                    clear hcut HR0
                    go_upto_region 41 with (fail)
                    go_cut [199] from 25 (fun x wc => ∃ y : Bool, x = .bool y ∧ (y = true → a < s ∧ s < mid) ∧ (y = false → ¬ (a < s ∧ s < mid)) ∧ SortAt w0 wc g n cap (rot f s m e))
                    case first =>
                      as_aux_lemma =>
                        by_cases a1 : a < s
                        · have b1 : (a : Int) < (s : Int) := by omega
                          by_cases a2 : s < mid
                          · have b2 : (s : Int) < (mid : Int) := by omega
                            go_wp2
                            go_meet
                            case rel => exact ⟨true, rfl, fun _ => ⟨a1, a2⟩, fun h => absurd h (by decide), HR1.out⟩
                          · have b2 : (mid : Int) ≤ (s : Int) := by omega
                            go_wp2
                            go_meet
                            case rel => exact ⟨false, rfl, fun h => absurd h (by decide), fun _ h => a2 h.2, HR1.out⟩
                        · have b1 : (s : Int) ≤ (a : Int) := by omega
                          go_wp2
                          go_meet
                          case rel => exact ⟨false, rfl, fun h => absurd h (by decide), fun _ h => a1 h.1, HR1.out⟩
                    case rest =>
                      as_aux_lemma =>
                        obtain ⟨y, rfl, hy1, hy2, hkeep⟩ := hcut
                        have HR3 := Lib.hid hkeep
                        have HY := Lib.hid (And.intro hy1 hy2)
                        clear hkeep hy1 hy2 HR1
                        go_upto_if 199 with (fail)
                        go_cut [] from 25 (fun wd => ∃ h2, SortAt w0 wd g n cap h2 ∧ SameIn (rot f s m e) h2 a mid ∧ SortedK K h2 a mid)
                        case first =>
                          as_aux_lemma =>
                            cases y with
                            | true =>
                              have cc := HY.out.1 rfl
                              have HC := Lib.hid (IH.out a s mid _ _ (by omega) HR3.out HG1.out cc.1 cc.2 (by omega) HP.out.s1 HP.out.s2 HP.out.l1)
                              go_wp2_with (go_at_call 112; (with_reducible refine HC.out.mono ?_); rintro e' w1 ⟨h2, ⟨rfl, hb⟩, hh⟩; have HS1 := Lib.hid (And.intro hb hh); clear hb hh)
                              go_meet
                              case rel => exact ⟨h2, HS1.out⟩
                            | false =>
                              have cc := HY.out.2 rfl
                              go_wp2
                              go_meet
                              case rel => exact ⟨_, HR3.out, SameIn.refl _ _ _, HP.out.left q6 q2 cc⟩
                        case rest =>
                          as_aux_lemma =>
                            obtain ⟨h2, hr2, hs2, hd2⟩ := hcut
                            have HR2 := Lib.hid hr2
                            have HS2 := Lib.hid hs2
                            have HD2 := Lib.hid hd2
                            have HG2 := Lib.hid (hs2.all (by omega) HG1.out)
                            clear hr2 hs2 hd2 HR3
                            go_upto_region 43 with (fail)
                            go_cut [213] from 25 (fun x wc => ∃ y : Bool, x = .bool y ∧ (y = true → mid < e ∧ e < b) ∧ (y = false → ¬ (mid < e ∧ e < b)) ∧ SortAt w0 wc g n cap h2)
                            case first =>
                              as_aux_lemma =>
                                by_cases a1 : mid < e
                                · have b1 : (mid : Int) < (e : Int) := by omega
                                  by_cases a2 : e < b
                                  · have b2 : (e : Int) < (b : Int) := by omega
                                    go_wp2
                                    go_meet
                                    case rel => exact ⟨true, rfl, fun _ => ⟨a1, a2⟩, fun h => absurd h (by decide), HR2.out⟩
                                  · have b2 : (b : Int) ≤ (e : Int) := by omega
                                    go_wp2
                                    go_meet
                                    case rel => exact ⟨false, rfl, fun h => absurd h (by decide), fun _ h => a2 h.2, HR2.out⟩
                                · have b1 : (e : Int) ≤ (mid : Int) := by omega
                                  go_wp2
                                  go_meet
                                  case rel => exact ⟨false, rfl, fun h => absurd h (by decide), fun _ h => a1 h.1, HR2.out⟩
                            case rest =>
                              as_aux_lemma =>
                                obtain ⟨y, rfl, hy1, hy2, hkeep⟩ := hcut
                                have HR4 := Lib.hid hkeep
                                have HY := Lib.hid (And.intro hy1 hy2)
                                clear hkeep hy1 hy2 HR2
                                cases y with
                                | true =>
                                  have cc := HY.out.1 rfl
                                  have HC := Lib.hid (IH.out mid e b _ _ (by omega) HR4.out HG2.out cc.1 cc.2 hb (HP.out.s3.moved HS2.out (Nat.le_refl _)) (HP.out.s4.moved HS2.out (by omega)) (HP.out.l2.moved HS2.out (Nat.le_refl _)))
                                  go_wp2_with (go_at_call 112; (with_reducible refine HC.out.mono ?_); rintro e' w1 ⟨h3, ⟨rfl, hb3⟩, hh⟩; have HS1 := Lib.hid hb3; have HH := Lib.hid hh; clear hb3 hh)
                                  go_end0
                                  exact ⟨h3, ⟨rfl, HS1.out⟩, HP.out.done (by omega) (by omega) HS2.out HH.out.1 HD2.out HH.out.2⟩
                                | false =>
                                  have cc := HY.out.2 rfl
                                  go_wp2
                                  go_end0
                                  exact ⟨h2, ⟨rfl, HR4.out⟩, HP.out.done (by omega) (by omega) HS2.out (SameIn.refl _ _ _) HD2.out (HP.out.right HS2.out q4 q5 cc)⟩
end Go.Proofs.Ytihpjfhibhpciaa
