/- The contract of the reference's First, over the seat's program. -/
import Derived.Test.YtihpjfhibhpciaaWtS
namespace Go.Proofs.Ytihpjfhibhpciaa
open Go.ChangeShapes Go.WideShapes Go.ChangeAt Go.RowKit Go.Joins

/-- What stands ahead of each round of the reference's First. -/
def RefFirst (V : Nat → WV) (k : Nat) (d hd best which : Int) : Prop := (best = -1 ∧ FirstIs V k d hd 0 0 false) ∨ ∃ i : Nat, best = (i : Int) ∧ FirstIs V k d hd i which true
theorem RefFirst.skip {V : Nat → WV} {k : Nat} {d hd best which : Int} (h : RefFirst V k d hd best which) (hk : ¬ Fit V d hd k) : RefFirst V (k + 1) d hd best which := by
  rcases h with ⟨h1, h2⟩ | ⟨i, h1, h2⟩
  · exact .inl ⟨h1, h2.skip (fun h => absurd h hk)⟩
  · exact .inr ⟨i, h1, h2.skip (fun h => absurd h hk)⟩
/-- The place of the first case that fits, if its call waits. -/
def FitIs (U : WV) (d hd r : Int) : Prop := PlaceIs U (Hit U.c d hd) r
theorem FitIs.some {U : WV} {d hd r : Int} (h : FitIs U d hd r) (hon : U.on = true) (hf : ∃ j, j < U.m ∧ Hit U.c d hd j) : ∃ i : Nat, i < U.m ∧ r = (i : Int) ∧ Hit U.c d hd i ∧ ∀ j, j < i → ¬ Hit U.c d hd j := by
  rcases h with ⟨_, h⟩ | ⟨i, h1, h2, _, h4, h5⟩
  · obtain ⟨j, hj, hh⟩ := hf
    exact absurd ⟨hon, hh⟩ (h j hj)
  · exact ⟨i, h1, h2, h4, fun j hj hh => h5 j hj ⟨hon, hh⟩⟩
theorem FitIs.none {V : Nat → WV} {k : Nat} {d hd r : Int} (h : FitIs (V k) d hd r) (hf : ¬ Fit V d hd k) : r = -1 := by
  rcases h with ⟨h, _⟩ | ⟨i, h1, _, h3, h4, _⟩
  · exact h
  · exact absurd ⟨h3, i, h1, h4⟩ hf
theorem hitP_iff {f : Nat → Nat → Int} {d hd : Int} (hd0 : ¬ d = 0) (i : Nat) : HitP f d hd i ↔ Hit f d hd i :=
  ⟨fun h => ⟨h.2.elim (fun e => absurd e hd0) id, h.1⟩, fun h => ⟨h.2, .inr h.1⟩⟩
theorem PlaceIs.congr {U : WV} {P Q : Nat → Prop} {r : Int} (h : PlaceIs U P r) (hpq : ∀ i, P i ↔ Q i) : PlaceIs U Q r := by
  rcases h with ⟨h1, h2⟩ | ⟨i, h1, h2, h3, h4, h5⟩
  · exact .inl ⟨h1, fun i hi hh => h2 i hi ⟨hh.1, (hpq i).2 hh.2⟩⟩
  · exact .inr ⟨i, h1, h2, h3, (hpq i).1 h4, fun j hj hh => h5 j hj ⟨hh.1, (hpq j).2 hh.2⟩⟩
theorem place_is (U : WV) (ua : Option Addr) (uc : Nat) (d hd : Int) (hd0 : ¬ d = 0) (w : World) (h : RowS 3 w ua U.m uc U.c) : Calls Try.prog 60 #[.agg #[.bool U.on, .int .i64 U.tk, .int .i64 U.sq, .slice ua U.m uc], .int .i64 d, .int .i64 hd] w fun e w' => (∃ r, e = .returned (.int .i64 r) ∧ FitIs U d hd r) ∧ Below w.heap.size w w' :=
  (place_some U ua uc d hd hd0 w h).mono fun _ _ ⟨⟨r, h1, h2⟩, h3⟩ => ⟨⟨r, h1, h2.congr (hitP_iff hd0)⟩, h3⟩
theorem zero_is (U : WV) (ua : Option Addr) (uc : Nat) (hd : Int) (w : World) (h : RowS 3 w ua U.m uc U.c) : Calls Try.prog 61 #[.agg #[.bool U.on, .int .i64 U.tk, .int .i64 U.sq, .slice ua U.m uc], .int .i64 hd] w fun e w' => (∃ r, e = .returned (.int .i64 r) ∧ FitIs U 0 hd r) ∧ Below w.heap.size w w' :=
  zero_any U ua uc hd w h
set_option maxRecDepth 100000 in
set_option maxHeartbeats 3200000 in
theorem rfirst_any (a : Option Addr) (n cap : Nat) (V : Nat → WV) (dir hd : Int) (w : World) (h : WaitsAt w a n cap V) : Calls Try.prog 22 #[.slice a n cap, .int .i64 dir, .int .i64 hd] w fun e w' => (∃ t wh ok, e = .returned (.tuple #[.int .i64 t, .int .i64 wh, .bool ok]) ∧ FirstIs V n dir hd t wh ok) ∧ Below w.heap.size w w' := by
  have hn := h.1
  have HS := Lib.hid h
  clear h
  by_cases hd0 : dir = 0
  · subst hd0
    go_enter Try.func22, Try.ntmps22
    go_wp2
    go_loopw [9, 10, 17] (fun bv wv iv wr => ∃ (k : Nat) (best which : Int), k ≤ n ∧ iv = .int .i64 k ∧ bv = .int .i64 best ∧ wv = .int .i64 which ∧ Below w.heap.size w wr ∧ RefFirst V k 0 hd best which) (fun _ _ iv _ => n - (intOf iv).toNat)
    case atStart => exact ⟨0, -1, 0, Nat.zero_le _, rfl, rfl, rfl, Below.refl _ _, .inl ⟨rfl, .inl ⟨rfl, rfl, rfl, fun i hi => absurd hi (by omega)⟩⟩⟩
    case round =>
      obtain ⟨k, best, which, hk, rfl, rfl, rfl, hb, hf0⟩ := hrel
      have HB := Lib.hid hb
      have HR := Lib.hid (HS.out.below hb)
      clear hb
      by_cases hlt : k < n
      · obtain ⟨b, off, rfl, zb, hc⟩ := HR.out.get hlt
        have HCC := Lib.hid hc
        obtain ⟨ca, cc, x0, x1, x2, x3, hr⟩ := hc k hlt
        have i0 : (0 : Int) ≤ (k : Int) := by omega
        have i1 : (k : Int) < (n : Int) := by omega
        have HA := Lib.hid ((Below.refl wr.heap.size wr).alloc (Nat.le_refl _) (.cells #[.bool (V k).on, .int .i64 (V k).tk, .int .i64 (V k).sq, .slice ca (V k).m cc] 25))
        have zq : wr.heap.size < (wr.alloc (.cells #[.bool (V k).on, .int .i64 (V k).tk, .int .i64 (V k).sq, .slice ca (V k).m cc] 25)).heap.size := by simp
        have p1 : (wr.alloc (.cells #[.bool (V k).on, .int .i64 (V k).tk, .int .i64 (V k).sq, .slice ca (V k).m cc] 25)).cell? ⟨wr.heap.size, 1, none⟩ = some (.int .i64 (V k).tk) := by simp
        have HI := Lib.hid (zero_is (V k) ca cc hd (wr.alloc (.cells #[.bool (V k).on, .int .i64 (V k).tk, .int .i64 (V k).sq, .slice ca (V k).m cc] 25)) (hr.below HA.out))
        clear hc hr
        by_cases hf : Fit V 0 hd k
        · rcases hf0 with ⟨rfl, hf1⟩ | ⟨i, rfl, hf1⟩
          · have HF := Lib.hid hf1
            clear hf1
            go_wp2_with (go_at_call 61; go_loud ((with_reducible refine HI.out.mono ?_); rintro e w1 ⟨⟨r, rfl, hr⟩, hb1⟩; obtain ⟨j, hj, rfl, hh, hmin⟩ := hr.some hf.1 hf.2; have j2 := Int.natCast_nonneg j; have HB1 := Lib.hid (HB.out.trans ((HA.out.trans (hb1.mono HA.out.size)).mono HB.out.size)); have q1 := ((bcell hb1).1 _ _ zq).trans p1; skip; clear hb1 hr x0 x1 x2 x3))
            go_wp2
            go_quiet (fail)
            go_wp2
            go_roundw
            case rel => exact ⟨k + 1, _, _, by omega, by go_num, rfl, rfl, below_drewN HB1.out _, .inr ⟨k, rfl, HF.out.first hf hj hh hmin⟩⟩
            case measure => simp [intOf]; omega
          · have HF := Lib.hid hf1
            obtain ⟨i', hi, hii⟩ := hf1.bound
            obtain rfl : i = i' := by omega
            obtain ⟨_, _, _, y1, _, _, _⟩ := HCC.out i (by omega)
            have j0 : (0 : Int) ≤ (i : Int) := by omega
            have j1 : (i : Int) < (n : Int) := by omega
            clear hf1 hii
            by_cases hge : (V i).tk ≤ (V k).tk
            · have hge2 : ¬ (V k).tk < (V i).tk := by omega
              go_wp2_with (go_at_call 61; go_loud ((with_reducible refine HI.out.mono ?_); rintro e w1 ⟨⟨r, rfl, hr⟩, hb1⟩; obtain ⟨j, hj, rfl, hh, hmin⟩ := hr.some hf.1 hf.2; have j2 := Int.natCast_nonneg j; have HB1 := Lib.hid (HB.out.trans ((HA.out.trans (hb1.mono HA.out.size)).mono HB.out.size)); have q1 := ((bcell hb1).1 _ _ zq).trans p1; have y1 := ((bcell (HA.out.trans (hb1.mono HA.out.size))).1 _ _ zb).trans y1; clear hb1 hr x0 x1 x2 x3))
              go_wp2
              go_quiet (fail)
              go_wp2
              go_roundw
              case rel => exact ⟨k + 1, _, _, by omega, by go_num, rfl, rfl, below_drewN HB1.out _, .inr ⟨i, rfl, HF.out.skip (fun _ => ⟨rfl, by rw [Int.toNat_natCast]; exact hge⟩)⟩⟩
              case measure => simp [intOf]; omega
            · have hlt3 : (V k).tk < (V i).tk := by omega
              have hlt2 : (V k).tk < (V ((i : Int)).toNat).tk := by rw [Int.toNat_natCast]; omega
              clear hge
              go_wp2_with (go_at_call 61; go_loud ((with_reducible refine HI.out.mono ?_); rintro e w1 ⟨⟨r, rfl, hr⟩, hb1⟩; obtain ⟨j, hj, rfl, hh, hmin⟩ := hr.some hf.1 hf.2; have j2 := Int.natCast_nonneg j; have HB1 := Lib.hid (HB.out.trans ((HA.out.trans (hb1.mono HA.out.size)).mono HB.out.size)); have q1 := ((bcell hb1).1 _ _ zq).trans p1; have y1 := ((bcell (HA.out.trans (hb1.mono HA.out.size))).1 _ _ zb).trans y1; clear hb1 hr x0 x1 x2 x3))
              go_wp2
              go_quiet (fail)
              go_wp2
              go_roundw
              case rel => exact ⟨k + 1, _, _, by omega, by go_num, rfl, rfl, below_drewN HB1.out _, .inr ⟨k, rfl, HF.out.over hf hj hh hmin hlt2⟩⟩
              case measure => simp [intOf]; omega
        · have HF := Lib.hid hf0
          clear hf0
          go_wp2_with (go_at_call 61; go_loud ((with_reducible refine HI.out.mono ?_); rintro e w1 ⟨⟨r, rfl, hr⟩, hb1⟩; obtain rfl := hr.none hf; have HB1 := Lib.hid (HB.out.trans ((HA.out.trans (hb1.mono HA.out.size)).mono HB.out.size)); have q1 := ((bcell hb1).1 _ _ zq).trans p1; skip; clear hb1 hr x0 x1 x2 x3))
          go_wp2
          go_quiet (fail)
          go_wp2
          go_roundw
          case rel => exact ⟨k + 1, _, _, by omega, by go_num, rfl, rfl, below_drewN HB1.out _, HF.out.skip hf⟩
          case measure => simp [intOf]; omega
      · obtain rfl : k = n := by omega
        rcases hf0 with ⟨rfl, hf1⟩ | ⟨i, rfl, hf1⟩
        · have HF := Lib.hid hf1
          clear hf1
          go_wp2
          refine bodyPost_ret (v := .tuple #[.int .i64 0, .int .i64 0, .bool false]) (by simp only [results, Try.results22]; go_simp) rfl ⟨⟨0, 0, false, rfl, HF.out⟩, HB.out⟩
        · have HF := Lib.hid hf1
          have j2 := Int.natCast_nonneg i
          clear hf1
          go_wp2
          refine bodyPost_ret (v := .tuple #[.int .i64 i, .int .i64 which, .bool true]) (by simp only [results, Try.results22]; go_simp) rfl ⟨⟨i, which, true, rfl, HF.out⟩, HB.out⟩
  · have bd : (dir != 0) = true := by simpa using hd0
    go_enter Try.func22, Try.ntmps22
    go_wp2
    go_loopw [9, 10, 17] (fun bv wv iv wr => ∃ (k : Nat) (best which : Int), k ≤ n ∧ iv = .int .i64 k ∧ bv = .int .i64 best ∧ wv = .int .i64 which ∧ Below w.heap.size w wr ∧ RefFirst V k dir hd best which) (fun _ _ iv _ => n - (intOf iv).toNat)
    case atStart => exact ⟨0, -1, 0, Nat.zero_le _, rfl, rfl, rfl, Below.refl _ _, .inl ⟨rfl, .inl ⟨rfl, rfl, rfl, fun i hi => absurd hi (by omega)⟩⟩⟩
    case round =>
      obtain ⟨k, best, which, hk, rfl, rfl, rfl, hb, hf0⟩ := hrel
      have HB := Lib.hid hb
      have HR := Lib.hid (HS.out.below hb)
      clear hb
      by_cases hlt : k < n
      · obtain ⟨b, off, rfl, zb, hc⟩ := HR.out.get hlt
        have HCC := Lib.hid hc
        obtain ⟨ca, cc, x0, x1, x2, x3, hr⟩ := hc k hlt
        have i0 : (0 : Int) ≤ (k : Int) := by omega
        have i1 : (k : Int) < (n : Int) := by omega
        have HA := Lib.hid ((Below.refl wr.heap.size wr).alloc (Nat.le_refl _) (.cells #[.bool (V k).on, .int .i64 (V k).tk, .int .i64 (V k).sq, .slice ca (V k).m cc] 25))
        have zq : wr.heap.size < (wr.alloc (.cells #[.bool (V k).on, .int .i64 (V k).tk, .int .i64 (V k).sq, .slice ca (V k).m cc] 25)).heap.size := by simp
        have p1 : (wr.alloc (.cells #[.bool (V k).on, .int .i64 (V k).tk, .int .i64 (V k).sq, .slice ca (V k).m cc] 25)).cell? ⟨wr.heap.size, 1, none⟩ = some (.int .i64 (V k).tk) := by simp
        have HI := Lib.hid (place_is (V k) ca cc dir hd hd0 (wr.alloc (.cells #[.bool (V k).on, .int .i64 (V k).tk, .int .i64 (V k).sq, .slice ca (V k).m cc] 25)) (hr.below HA.out))
        clear hc hr
        by_cases hf : Fit V dir hd k
        · rcases hf0 with ⟨rfl, hf1⟩ | ⟨i, rfl, hf1⟩
          · have HF := Lib.hid hf1
            clear hf1
            go_wp2_with (go_at_call 60; go_loud ((with_reducible refine HI.out.mono ?_); rintro e w1 ⟨⟨r, rfl, hr⟩, hb1⟩; obtain ⟨j, hj, rfl, hh, hmin⟩ := hr.some hf.1 hf.2; have j2 := Int.natCast_nonneg j; have HB1 := Lib.hid (HB.out.trans ((HA.out.trans (hb1.mono HA.out.size)).mono HB.out.size)); have q1 := ((bcell hb1).1 _ _ zq).trans p1; skip; clear hb1 hr x0 x1 x2 x3))
            go_wp2
            go_quiet (fail)
            go_wp2
            go_roundw
            case rel => exact ⟨k + 1, _, _, by omega, by go_num, rfl, rfl, below_drewN HB1.out _, .inr ⟨k, rfl, HF.out.first hf hj hh hmin⟩⟩
            case measure => simp [intOf]; omega
          · have HF := Lib.hid hf1
            obtain ⟨i', hi, hii⟩ := hf1.bound
            obtain rfl : i = i' := by omega
            obtain ⟨_, _, _, y1, _, _, _⟩ := HCC.out i (by omega)
            have j0 : (0 : Int) ≤ (i : Int) := by omega
            have j1 : (i : Int) < (n : Int) := by omega
            clear hf1 hii
            by_cases hge : (V i).tk ≤ (V k).tk
            · have hge2 : ¬ (V k).tk < (V i).tk := by omega
              go_wp2_with (go_at_call 60; go_loud ((with_reducible refine HI.out.mono ?_); rintro e w1 ⟨⟨r, rfl, hr⟩, hb1⟩; obtain ⟨j, hj, rfl, hh, hmin⟩ := hr.some hf.1 hf.2; have j2 := Int.natCast_nonneg j; have HB1 := Lib.hid (HB.out.trans ((HA.out.trans (hb1.mono HA.out.size)).mono HB.out.size)); have q1 := ((bcell hb1).1 _ _ zq).trans p1; have y1 := ((bcell (HA.out.trans (hb1.mono HA.out.size))).1 _ _ zb).trans y1; clear hb1 hr x0 x1 x2 x3))
              go_wp2
              go_quiet (fail)
              go_wp2
              go_roundw
              case rel => exact ⟨k + 1, _, _, by omega, by go_num, rfl, rfl, below_drewN HB1.out _, .inr ⟨i, rfl, HF.out.skip (fun _ => ⟨rfl, by rw [Int.toNat_natCast]; exact hge⟩)⟩⟩
              case measure => simp [intOf]; omega
            · have hlt3 : (V k).tk < (V i).tk := by omega
              have hlt2 : (V k).tk < (V ((i : Int)).toNat).tk := by rw [Int.toNat_natCast]; omega
              clear hge
              go_wp2_with (go_at_call 60; go_loud ((with_reducible refine HI.out.mono ?_); rintro e w1 ⟨⟨r, rfl, hr⟩, hb1⟩; obtain ⟨j, hj, rfl, hh, hmin⟩ := hr.some hf.1 hf.2; have j2 := Int.natCast_nonneg j; have HB1 := Lib.hid (HB.out.trans ((HA.out.trans (hb1.mono HA.out.size)).mono HB.out.size)); have q1 := ((bcell hb1).1 _ _ zq).trans p1; have y1 := ((bcell (HA.out.trans (hb1.mono HA.out.size))).1 _ _ zb).trans y1; clear hb1 hr x0 x1 x2 x3))
              go_wp2
              go_quiet (fail)
              go_wp2
              go_roundw
              case rel => exact ⟨k + 1, _, _, by omega, by go_num, rfl, rfl, below_drewN HB1.out _, .inr ⟨k, rfl, HF.out.over hf hj hh hmin hlt2⟩⟩
              case measure => simp [intOf]; omega
        · have HF := Lib.hid hf0
          clear hf0
          go_wp2_with (go_at_call 60; go_loud ((with_reducible refine HI.out.mono ?_); rintro e w1 ⟨⟨r, rfl, hr⟩, hb1⟩; obtain rfl := hr.none hf; have HB1 := Lib.hid (HB.out.trans ((HA.out.trans (hb1.mono HA.out.size)).mono HB.out.size)); have q1 := ((bcell hb1).1 _ _ zq).trans p1; skip; clear hb1 hr x0 x1 x2 x3))
          go_wp2
          go_quiet (fail)
          go_wp2
          go_roundw
          case rel => exact ⟨k + 1, _, _, by omega, by go_num, rfl, rfl, below_drewN HB1.out _, HF.out.skip hf⟩
          case measure => simp [intOf]; omega
      · obtain rfl : k = n := by omega
        rcases hf0 with ⟨rfl, hf1⟩ | ⟨i, rfl, hf1⟩
        · have HF := Lib.hid hf1
          clear hf1
          go_wp2
          refine bodyPost_ret (v := .tuple #[.int .i64 0, .int .i64 0, .bool false]) (by simp only [results, Try.results22]; go_simp) rfl ⟨⟨0, 0, false, rfl, HF.out⟩, HB.out⟩
        · have HF := Lib.hid hf1
          have j2 := Int.natCast_nonneg i
          clear hf1
          go_wp2
          refine bodyPost_ret (v := .tuple #[.int .i64 i, .int .i64 which, .bool true]) (by simp only [results, Try.results22]; go_simp) rfl ⟨⟨i, which, true, rfl, HF.out⟩, HB.out⟩
end Go.Proofs.Ytihpjfhibhpciaa
