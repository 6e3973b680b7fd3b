/- The contract of the reference's On, over the seat's program. -/
import Derived.Test.YtihpjfhibhpciaaWtT
import Derived.Deep.Cut
namespace Go.Proofs.Ytihpjfhibhpciaa
open Go.ChangeShapes Go.WideShapes Go.ChangeAt Go.RowKit Go.Joins

/-- A number put into a row ahead of the one at 'p'. -/
def insAt (f : Nat → Int) (p : Nat) (x : Int) : Nat → Int := fun i => if i < p then f i else if i = p then x else f (i - 1)
section
variable {V : Nat → WV} {hd : Int} {k m : Nat} {f : Nat → Int}
theorem OnIs.zero : OnIs V hd 0 0 f := ⟨fun j hj => absurd hj (by omega), fun i hi => absurd hi (by omega), fun p q _ _ h => absurd h (by omega), Nat.le_refl _⟩
theorem OnIs.skip (x : OnIs V hd k m f) (hn : ¬ Wts V hd k) : OnIs V hd (k + 1) m f := by
  refine ⟨fun j hj => ?_, fun i hi hw => ?_, x.up, by have := x.few; omega⟩
  · obtain ⟨i, h1, h2⟩ := x.are j hj
    exact ⟨i, by omega, h2⟩
  · by_cases c : i = k
    · exact absurd (c ▸ hw) hn
    · exact x.all i (by omega) hw
theorem OnIs.ins (x : OnIs V hd k m f) (hw : Wts V hd k) {p : Nat} (hp : p ≤ m) (h1 : ∀ i, i < p → (V (f i).toNat).tk ≤ (V k).tk) (h2 : p < m → (V k).tk < (V (f p).toNat).tk) : OnIs V hd (k + 1) (m + 1) (insAt f p k) := by
  have v0 : ∀ i, i < p → insAt f p k i = f i := fun i hi => by unfold insAt; rw [if_pos hi]
  have v1 : insAt f p k p = (k : Int) := by unfold insAt; rw [if_neg (by omega), if_pos rfl]
  have v2 : ∀ i, p < i → insAt f p k i = f (i - 1) := fun i hi => by unfold insAt; rw [if_neg (by omega), if_neg (by omega)]
  have lo : ∀ i, i < p → ltK (fun x => (V x.toNat).tk) (f i) (k : Int) := fun i hi => by
    obtain ⟨i', e1, e2, _⟩ := x.are i (by omega)
    have := h1 i hi
    unfold ltK
    dsimp only
    rw [Int.toNat_natCast]
    omega
  have up : ∀ i, p ≤ i → i < m → ltK (fun x => (V x.toNat).tk) (k : Int) (f i) := fun i hi him => by
    have h3 := h2 (by omega)
    have h4 : (V (f p).toNat).tk ≤ (V (f i).toNat).tk := by
      by_cases c : i = p
      · rw [c]; exact Int.le_refl _
      · exact (x.up p i (Nat.zero_le _) (by omega) him).le
    left
    dsimp only
    rw [Int.toNat_natCast]
    omega
  refine ⟨fun j hj => ?_, fun i hi hw' => ?_, fun a b _ h4 h5 => ?_, by have := x.few; omega⟩
  · by_cases c : j < p
    · rw [v0 j c]
      obtain ⟨i, e1, e2⟩ := x.are j (by omega)
      exact ⟨i, by omega, e2⟩
    · by_cases c2 : j = p
      · rw [c2, v1]
        exact ⟨k, by omega, rfl, hw⟩
      · rw [v2 j (by omega)]
        obtain ⟨i, e1, e2⟩ := x.are (j - 1) (by omega)
        exact ⟨i, by omega, e2⟩
  · by_cases c : i = k
    · exact ⟨p, by omega, by rw [v1, c]⟩
    · obtain ⟨j, e1, e2⟩ := x.all i (by omega) hw'
      by_cases c2 : j < p
      · exact ⟨j, by omega, by rw [v0 j c2, e2]⟩
      · exact ⟨j + 1, by omega, by rw [v2 (j + 1) (by omega), Nat.add_sub_cancel, e2]⟩
  · by_cases c1 : b < p
    · rw [v0 a (by omega), v0 b c1]
      exact x.up a b (Nat.zero_le _) h4 (by omega)
    · by_cases c2 : b = p
      · rw [c2, v1, v0 a (by omega)]
        exact lo a (by omega)
      · rw [v2 b (by omega)]
        by_cases c3 : a < p
        · rw [v0 a c3]
          exact x.up a (b - 1) (Nat.zero_le _) (by omega) (by omega)
        · by_cases c4 : a = p
          · rw [c4, v1]
            exact up (b - 1) (by omega) (by omega)
          · rw [v2 a (by omega)]
            exact x.up (a - 1) (b - 1) (Nat.zero_le _) (by omega) (by omega)
/-- What stands ahead of each round of the inner loop. -/
def NextIs (V : Nat → WV) (f : Nat → Int) (k j c : Nat) (put : Bool) (g : Nat → Int) : Prop :=
  (put = false ∧ c = j ∧ (∀ i, i < j → g i = f i) ∧ ∀ i, i < j → (V (f i).toNat).tk ≤ (V k).tk) ∨
  (put = true ∧ c = j + 1 ∧ ∃ p, p < j ∧ (∀ i, i < j + 1 → g i = insAt f p k i) ∧ (∀ i, i < p → (V (f i).toNat).tk ≤ (V k).tk) ∧ (V k).tk < (V (f p).toNat).tk)
theorem PlaceIs.yes {U : WV} {hd r : Int} (h : PlaceIs U (HitP U.c 0 hd) r) (hon : U.on = true) (hh : HasH U.c U.m hd) : ∃ i : Nat, r = (i : Int) := by
  rcases h with ⟨_, h⟩ | ⟨i, _, h, _⟩
  · obtain ⟨i, hi, e⟩ := hh
    exact absurd ⟨hon, e, .inl rfl⟩ (h i hi)
  · exact ⟨i, h⟩
theorem PlaceIs.no {V : Nat → WV} {k : Nat} {hd r : Int} (h : PlaceIs (V k) (HitP (V k).c 0 hd) r) (hn : ¬ Wts V hd k) : r = -1 := by
  rcases h with ⟨h, _⟩ | ⟨i, hi, _, h1, h2, _⟩
  · exact h
  · exact absurd ⟨h1, i, hi, h2.1⟩ hn
end
theorem upd_same {f : Nat → Int} {n : Nat} {x : Int} : rowL .i64 (updI f n x) n = rowL .i64 f n := rowL_same (fun i hi => by unfold updI; rw [if_neg (by omega)])
theorem upd_at {f : Nat → Int} {n : Nat} {x : Int} : updI f n x n = x := by unfold updI; rw [if_pos rfl]
theorem upd_ne {f : Nat → Int} {n i : Nat} {x : Int} (h : i ≠ n) : updI f n x i = f i := by unfold updI; rw [if_neg h]
theorem own_to {w : World} {B B' E s n : Nat} {v : Value} {xs : List Value} (h : w.ownsRow B E s v n xs) (hB : B' ≤ B) : w.ownsRow B' E s v n xs := ownsRow_le h hB
set_option maxRecDepth 100000 in
set_option maxHeartbeats 3200000 in
theorem ron_any (a : Option Addr) (n cap : Nat) (V : Nat → WV) (hd : Int) (w : World) (h : WaitsAt w a n cap V) : Calls Try.prog 25 #[.slice a n cap, .int .i64 hd] w (RetOn V hd n w) := by
  have hn := h.1
  have HS := Lib.hid h
  clear h
  go_enter Try.func25, Try.ntmps25
  go_wp2
  go_loopw [5, 14] (fun tv iv wr => ∃ (k m : Nat) (f : Nat → Int), k ≤ n ∧ iv = .int .i64 k ∧ wr.ownsRow w.heap.size 3 1 tv m (rowL .i64 f m) ∧ OnIs V hd k m f ∧ Below w.heap.size w wr) (fun _ iv _ => n - (intOf iv).toNat)
  case atStart => exact ⟨0, 0, fun _ => 0, Nat.zero_le _, rfl, World.ownsRow_nil _ _ _ _, OnIs.zero, Below.refl _ _⟩
  case round =>
    obtain ⟨k, m, f, hk, rfl, ho, hf, hb⟩ := hrel
    obtain ⟨ta, tc, rfl⟩ := own_form ho
    have HO := Lib.hid ho
    have HF := Lib.hid hf
    have HB := Lib.hid hb
    have HR := Lib.hid (HS.out.below hb)
    have hmk := hf.few
    clear ho hf hb
    by_cases hlt : k < n
    · obtain ⟨b, off, rfl, zb, hc⟩ := HR.out.get hlt
      have HCC := Lib.hid hc
      obtain ⟨ca, cc, x0, x1, x2, x3, hr⟩ := hc k hlt
      have i0 : (0 : Int) ≤ (k : Int) := by omega
      have i1 : (k : Int) < (n : Int) := by omega
      have HA := Lib.hid ((Below.refl wr.heap.size wr).alloc (Nat.le_refl _) (.cells #[.bool (V k).on, .int .i64 (V k).tk, .int .i64 (V k).sq, .slice ca (V k).m cc] 25))
      have zq : wr.heap.size < (wr.alloc (.cells #[.bool (V k).on, .int .i64 (V k).tk, .int .i64 (V k).sq, .slice ca (V k).m cc] 25)).heap.size := by simp
      have p1 : (wr.alloc (.cells #[.bool (V k).on, .int .i64 (V k).tk, .int .i64 (V k).sq, .slice ca (V k).m cc] 25)).cell? ⟨wr.heap.size, 1, none⟩ = some (.int .i64 (V k).tk) := by simp
      have HI := Lib.hid (place_none (V k) ca cc hd (wr.alloc (.cells #[.bool (V k).on, .int .i64 (V k).tk, .int .i64 (V k).sq, .slice ca (V k).m cc] 25)) (hr.below HA.out))
      clear hc hr
      by_cases hw : Wts V hd k
      · go_upto_region 8 with (go_at_call 60; go_loud ((with_reducible refine HI.out.mono ?_); rintro e w1 ⟨⟨r, rfl, hr⟩, hb1⟩; obtain ⟨j0, rfl⟩ := hr.yes hw.1 hw.2; have j00 := Int.natCast_nonneg j0; have HB1 := Lib.hid (HB.out.trans ((HA.out.trans (hb1.mono HA.out.size)).mono HB.out.size)); have HN1 := Lib.hid (HA.out.trans (hb1.mono HA.out.size)); have q1 := ((bcell hb1).1 _ _ zq).trans p1; have zq1 := Nat.lt_of_lt_of_le zq hb1.size; clear hb1 hr x0 x1 x2 x3 p1 zq))
        have HO1 := Lib.hid (own_below HO.out HN1.out)
        have zb1 := Nat.lt_of_lt_of_le zb HN1.out.size
        have HW := Lib.hid hw
        have HL1 := Lib.hid (fun i hi => ((HCC.out i hi).below zb HN1.out : WaitAt w1 b (off + i * 4) (V i)))
        obtain ⟨ga, gc, hv, hrow⟩ := OwnAt.of (by omega) HO1.out
        simp only [Value.slice.injEq, true_and] at hv
        obtain ⟨rfl, rfl⟩ := hv
        have HRW := Lib.hid hrow.row
        clear hrow hw HI HA
        go_wp2
        go_loopw [8, 9, 25] (fun nv pv jv wr2 => ∃ (j c : Nat) (put : Bool) (g : Nat → Int), j ≤ m ∧ jv = .int .i64 j ∧ pv = .bool put ∧ wr2.ownsRow w1.heap.size 3 1 nv c (rowL .i64 g c) ∧ NextIs V f k j c put g ∧ Below w1.heap.size w1 wr2) (fun _ _ jv _ => m - (intOf jv).toNat)
        case atStart => exact ⟨0, 0, false, fun _ => 0, Nat.zero_le _, rfl, rfl, World.ownsRow_nil _ _ _ _, .inl ⟨rfl, rfl, fun i hi => absurd hi (by omega), fun i hi => absurd hi (by omega)⟩, Below.refl _ _⟩
        case round =>
          obtain ⟨j, c, put, g, hj, rfl, rfl, ho2, hx, hb2⟩ := hrel
          obtain ⟨na, nc, rfl⟩ := own_form ho2
          have HO2 := Lib.hid ho2
          have HX := Lib.hid hx
          have HB2 := Lib.hid hb2
          have HR2 := Lib.hid (HRW.out.below hb2)
          have r1 := ((bcell hb2).1 _ _ zq1).trans q1
          have hcm : c ≤ m + 1 := by rcases hx with ⟨_, h, _⟩ | ⟨_, h, _⟩ <;> omega
          clear ho2 hx hb2
          by_cases hjm : j < m
          · obtain ⟨i, hik, hfi, _⟩ := HF.out.are j hjm
            have HLI := Lib.hid ((HL1.out i (by omega)).below zb1 HB2.out)
            obtain ⟨_, _, _, y1, _, _, _⟩ := HLI.out
            obtain ⟨rb, ro, rfl, _, hrc⟩ := HR2.out.get hjm
            have z0 := hrc j hjm
            rw [hfi] at z0
            have t0 : (0 : Int) ≤ (i : Int) := by omega
            have t1 : (i : Int) < (n : Int) := by omega
            have s0 : (0 : Int) ≤ (j : Int) := by omega
            have s1 : (j : Int) < (m : Int) := by omega
            have HFI := Lib.hid hfi
            clear hrc hfi
            rcases HX.out with ⟨rfl, rfl, h1, h2⟩ | ⟨rfl, rfl, p, hp, h1, h2, h3⟩
            · by_cases hgt : (V k).tk < (V i).tk
              · have HH := Lib.hid (And.intro h1 h2)
                clear h1 h2 HX
                go_wp2
                go_quiet (fail)
                go_upto_if 40 with (fail)
                refine abstract_code (fun v => Below wr.heap.size wr v) (below_drewN (Below.refl _ _) _) ?_
                intro v hv
                have HO3 := Lib.hid (own_below HO2.out hv)
                have HB3 := Lib.hid (HB2.out.trans (hv.mono HB2.out.size))
                clear hv HO2 HB2 r1 y1
                go_upto_region 14 with (at_builtin; go_loud (refine app_one w1.heap.size 3 36 rfl _ _ rfl Try.underlying36 Try.info_int (.slice na c nc) (c) (updI g (c) (k : Int)) (k : Int) upd_at.symm rfl (by rw [upd_same]; exact HO3.out) v.heap.size rfl rfl (by omega) HB3.out.size ?_; intro gg4 gc4 v1 ho4 gr4 _ _; have HO4 := Lib.hid ho4; have HB4 := Lib.hid (HB3.out.grown gr4 HB3.out.size (fun q hq => (HO3.out.lt q hq).1)); clear ho4 gr4))
                go_wp2_with (at_builtin; go_loud (refine app_one w1.heap.size 3 36 rfl _ _ rfl Try.underlying36 Try.info_int (.slice (some ⟨gg4, 0, none⟩) (c + 1) gc4) ((c + 1)) (updI (updI g c (k : Int)) ((c + 1)) (i : Int)) (i : Int) upd_at.symm rfl (by rw [upd_same]; exact HO4.out) v1.heap.size rfl rfl (by omega) HB4.out.size ?_; intro gg5 gc5 v2 ho5 gr5 _ _; have HO5 := Lib.hid ho5; have HB5 := Lib.hid (HB4.out.grown gr5 HB4.out.size (fun q hq => (HO4.out.lt q hq).1)); clear ho5 gr5))
                go_roundw
                case rel => exact ⟨c + 1, c + 2, true, _, by omega, by go_num, rfl, HO5.out, .inr ⟨rfl, rfl, c, by omega, fun x hx => by
                  by_cases d1 : x = c + 1
                  · rw [d1, upd_at]
                    unfold insAt
                    rw [if_neg (by omega), if_neg (by omega), Nat.add_sub_cancel, HFI.out]
                  · rw [upd_ne d1]
                    by_cases d2 : x = c
                    · rw [d2, upd_at]
                      unfold insAt
                      rw [if_neg (by omega), if_pos rfl]
                    · rw [upd_ne d2, HH.out.1 x (by omega)]
                      unfold insAt
                      rw [if_pos (by omega)], HH.out.2, by rw [HFI.out, Int.toNat_natCast]; exact hgt⟩, HB5.out⟩
                case measure => simp [intOf]; omega
              · have HH := Lib.hid (And.intro h1 h2)
                have hle : (V i).tk ≤ (V k).tk := by omega
                clear h1 h2 HX
                go_wp2
                go_quiet (fail)
                go_upto_if 40 with (fail)
                refine abstract_code (fun v => Below wr.heap.size wr v) (below_drewN (Below.refl _ _) _) ?_
                intro v hv
                have HO3 := Lib.hid (own_below HO2.out hv)
                have HB3 := Lib.hid (HB2.out.trans (hv.mono HB2.out.size))
                clear hv HO2 HB2 r1 y1
                go_wp2_with (at_builtin; go_loud (refine app_one w1.heap.size 3 36 rfl _ _ rfl Try.underlying36 Try.info_int (.slice na c nc) (c) (updI g (c) (i : Int)) (i : Int) upd_at.symm rfl (by rw [upd_same]; exact HO3.out) v.heap.size rfl rfl (by omega) HB3.out.size ?_; intro gg4 gc4 v1 ho4 gr4 _ _; have HO4 := Lib.hid ho4; have HB4 := Lib.hid (HB3.out.grown gr4 HB3.out.size (fun q hq => (HO3.out.lt q hq).1)); clear ho4 gr4))
                go_roundw
                case rel => exact ⟨c + 1, c + 1, false, _, by omega, by go_num, rfl, HO4.out, .inl ⟨rfl, rfl, fun x hx => by
                  by_cases d1 : x = c
                  · rw [d1, upd_at, HFI.out]
                  · rw [upd_ne d1, HH.out.1 x (by omega)], fun x hx => by
                  by_cases d1 : x = c
                  · rw [d1, HFI.out, Int.toNat_natCast]; exact hle
                  · exact HH.out.2 x (by omega)⟩, HB4.out⟩
                case measure => simp [intOf]; omega
            · have HH := Lib.hid (And.intro h1 (And.intro h2 h3))
              clear h1 h2 h3 HX
              go_wp2
              go_quiet (fail)
              go_upto_if 40 with (fail)
              refine abstract_code (fun v => Below wr.heap.size wr v) (below_drewN (Below.refl _ _) _) ?_
              intro v hv
              have HO3 := Lib.hid (own_below HO2.out hv)
              have HB3 := Lib.hid (HB2.out.trans (hv.mono HB2.out.size))
              clear hv HO2 HB2 r1 y1
              go_wp2_with (at_builtin; go_loud (refine app_one w1.heap.size 3 36 rfl _ _ rfl Try.underlying36 Try.info_int (.slice na (j + 1) nc) ((j + 1)) (updI g ((j + 1)) (i : Int)) (i : Int) upd_at.symm rfl (by rw [upd_same]; exact HO3.out) v.heap.size rfl rfl (by omega) HB3.out.size ?_; intro gg4 gc4 v1 ho4 gr4 _ _; have HO4 := Lib.hid ho4; have HB4 := Lib.hid (HB3.out.grown gr4 HB3.out.size (fun q hq => (HO3.out.lt q hq).1)); clear ho4 gr4))
              go_roundw
              case rel => exact ⟨j + 1, j + 1 + 1, true, _, by omega, by go_num, rfl, HO4.out, .inr ⟨rfl, rfl, p, by omega, fun x hx => by
                by_cases d1 : x = j + 1
                · rw [d1, upd_at]
                  unfold insAt
                  rw [if_neg (by omega), if_neg (by omega), Nat.add_sub_cancel, HFI.out]
                · rw [upd_ne d1]
                  exact HH.out.1 x (by omega), HH.out.2.1, HH.out.2.2⟩, HB4.out⟩
              case measure => simp [intOf]; omega
          · obtain rfl : j = m := by omega
            rcases HX.out with ⟨rfl, rfl, h1, h2⟩ | ⟨rfl, rfl, p, hp, h1, h2, h3⟩
            · have HH := Lib.hid (And.intro h1 h2)
              clear h1 h2 HX
              go_wp2_with (at_builtin; go_loud (refine app_one w1.heap.size 3 36 rfl _ _ rfl Try.underlying36 Try.info_int (.slice na c nc) (c) (updI g (c) (k : Int)) (k : Int) upd_at.symm rfl (by rw [upd_same]; exact HO2.out) wr.heap.size rfl rfl (by omega) HB2.out.size ?_; intro gg4 gc4 v1 ho4 gr4 _ _; have HO4 := Lib.hid ho4; have HB4 := Lib.hid (HB2.out.grown gr4 HB2.out.size (fun q hq => (HO2.out.lt q hq).1)); clear ho4 gr4))
              go_roundw
              case rel => exact ⟨k + 1, c + 1, insAt f c k, by omega, by go_num, (by
                  rw [rowL_same (g := updI g c k) (fun x hx => by
                    by_cases d1 : x = c
                    · rw [d1, upd_at]
                      unfold insAt
                      rw [if_neg (by omega), if_pos rfl]
                    · rw [upd_ne d1, HH.out.1 x (by omega)]
                      unfold insAt
                      rw [if_pos (by omega)])]
                  exact own_to HO4.out HB1.out.size), HF.out.ins HW.out (Nat.le_refl _) HH.out.2 (fun h => absurd h (Nat.lt_irrefl _)), HB1.out.trans (HB4.out.mono HB1.out.size)⟩
              case measure => simp [intOf]; omega
            · have HH := Lib.hid (And.intro h1 (And.intro h2 h3))
              clear h1 h2 h3 HX
              go_wp2
              go_roundw
              case rel => exact ⟨k + 1, j + 1, insAt f p k, by omega, by go_num, (by
                  rw [rowL_same (g := g) (fun x hx => (HH.out.1 x hx).symm)]
                  exact own_to HO2.out HB1.out.size), HF.out.ins HW.out (by omega) HH.out.2.1 (fun _ => HH.out.2.2), HB1.out.trans (HB2.out.mono HB1.out.size)⟩
              case measure => simp [intOf]; omega
      · have HW := Lib.hid hw
        go_wp2_with (go_at_call 60; go_loud ((with_reducible refine HI.out.mono ?_); rintro e w1 ⟨⟨r, rfl, hr⟩, hb1⟩; obtain rfl := hr.no hw; have HN1 := Lib.hid (HA.out.trans (hb1.mono HA.out.size)); clear hb1 hr x0 x1 x2 x3 p1 zq))
        go_roundw
        case rel => exact ⟨k + 1, m, f, by omega, by go_num, own_below HO.out HN1.out, HF.out.skip HW.out, HB.out.trans (HN1.out.mono HB.out.size)⟩
        case measure => simp [intOf]; omega
    · obtain rfl : k = n := by omega
      obtain ⟨a', c', hv, hown⟩ := OwnAt.of (by omega) HO.out
      simp only [Value.slice.injEq, true_and] at hv
      obtain ⟨rfl, rfl⟩ := hv
      have HRW := Lib.hid hown.row
      clear hown
      go_wp2
      go_ret
      exact ⟨_, m, _, f, rfl, HRW.out, HF.out, HB.out⟩
end Go.Proofs.Ytihpjfhibhpciaa
