/- The contract of First of calls that wait, over the seat's program. -/
import Derived.Test.YtihpjfhibhpciaaWtL
namespace Go.Proofs.Ytihpjfhibhpciaa
open Go.ChangeShapes Go.WideShapes Go.ChangeAt Go.RowKit Go.Joins

theorem IsIdx.fit {f : Nat → Nat → Int} {m : Nat} {d hd r : Int} (h : IsIdx f m d hd r) (hf : ∃ j, j < m ∧ Hit f d hd j) : ∃ i : Nat, i < m ∧ r = (i : Int) ∧ Hit f d hd i ∧ ∀ j, j < i → ¬ Hit f d hd j := by
  rcases h with ⟨_, h⟩ | h
  · obtain ⟨j, hj, hh⟩ := hf
    exact absurd hh (h j hj)
  · exact h
theorem IsIdx.none {f : Nat → Nat → Int} {m : Nat} {d hd r : Int} (h : IsIdx f m d hd r) (hf : ¬ ∃ j, j < m ∧ Hit f d hd j) : r = -1 := by
  rcases h with ⟨h, _⟩ | ⟨i, hi, _, hh, _⟩
  · exact h
  · exact absurd ⟨i, hi, hh⟩ hf
/-- A call that waits to do something with a channel. -/
def Fit (V : Nat → WV) (d hd : Int) (i : Nat) : Prop := (V i).on = true ∧ ∃ j, j < (V i).m ∧ Hit (V i).c d hd j
/-- Whose turn it is of the first 'k' ones. -/
def FirstIs (V : Nat → WV) (k : Nat) (d hd : Int) (t wh : Int) (ok : Bool) : Prop :=
  (ok = false ∧ t = 0 ∧ wh = 0 ∧ ∀ i, i < k → ¬ Fit V d hd i) ∨
  (ok = true ∧ ∃ i : Nat, i < k ∧ t = (i : Int) ∧ (V i).on = true ∧ (∃ j : Nat, j < (V i).m ∧ wh = (j : Int) ∧ Hit (V i).c d hd j ∧ ∀ j', j' < j → ¬ Hit (V i).c d hd j') ∧ ∀ i', i' < k → Fit V d hd i' → (V i).tk < (V i').tk ∨ ((V i).tk = (V i').tk ∧ i ≤ i'))
section
variable {V : Nat → WV} {k : Nat} {d hd t wh : Int} {ok : Bool}
theorem FirstIs.skip (h : FirstIs V k d hd t wh ok) (hk : Fit V d hd k → ok = true ∧ (V t.toNat).tk ≤ (V k).tk) : FirstIs V (k + 1) d hd t wh ok := by
  rcases h with ⟨rfl, rfl, rfl, h⟩ | ⟨rfl, i, hi, rfl, hon, hj, h⟩
  · refine .inl ⟨rfl, rfl, rfl, fun i hi hf => ?_⟩
    rcases Nat.lt_or_ge i k with h1 | h1
    · exact h i h1 hf
    · obtain rfl : i = k := by omega
      exact absurd (hk hf).1 (by decide)
  · refine .inr ⟨rfl, i, by omega, rfl, hon, hj, fun i' hi' hf => ?_⟩
    rcases Nat.lt_or_ge i' k with h1 | h1
    · exact h i' h1 hf
    · obtain rfl : i' = k := by omega
      have h2 := (hk hf).2
      rw [Int.toNat_natCast] at h2
      omega
theorem FirstIs.first (h : FirstIs V k d hd t wh false) (hk : Fit V d hd k) {j : Nat} (hj : j < (V k).m) (hh : Hit (V k).c d hd j) (hmin : ∀ j', j' < j → ¬ Hit (V k).c d hd j') : FirstIs V (k + 1) d hd k j true := by
  rcases h with ⟨_, _, _, h⟩ | ⟨h, _⟩
  · refine .inr ⟨rfl, k, by omega, rfl, hk.1, ⟨j, hj, rfl, hh, hmin⟩, fun i' hi' hf => ?_⟩
    rcases Nat.lt_or_ge i' k with h1 | h1
    · exact absurd hf (h i' h1)
    · obtain rfl : i' = k := by omega
      exact .inr ⟨rfl, Nat.le_refl _⟩
  · exact absurd h (by decide)
theorem FirstIs.over (h : FirstIs V k d hd t wh true) (hk : Fit V d hd k) {j : Nat} (hj : j < (V k).m) (hh : Hit (V k).c d hd j) (hmin : ∀ j', j' < j → ¬ Hit (V k).c d hd j') (hlt : (V k).tk < (V t.toNat).tk) : FirstIs V (k + 1) d hd k j true := by
  rcases h with ⟨h, _⟩ | ⟨_, i, hi, rfl, hon, _, h⟩
  · exact absurd h (by decide)
  · rw [Int.toNat_natCast] at hlt
    refine .inr ⟨rfl, k, by omega, rfl, hk.1, ⟨j, hj, rfl, hh, hmin⟩, fun i' hi' hf => ?_⟩
    rcases Nat.lt_or_ge i' k with h1 | h1
    · have := h i' h1 hf
      omega
    · obtain rfl : i' = k := by omega
      exact .inr ⟨rfl, Nat.le_refl _⟩
theorem FirstIs.bound (h : FirstIs V k d hd t wh true) : ∃ i : Nat, i < k ∧ t = (i : Int) := by
  rcases h with ⟨h, _⟩ | ⟨_, i, hi, ht, _⟩
  · exact absurd h (by decide)
  · exact ⟨i, hi, ht⟩
end
set_option maxRecDepth 100000 in
set_option maxHeartbeats 3200000 in
theorem first_any (a : Option Addr) (n cap : Nat) (V : Nat → WV) (dir hd : Int) (w : World) (h : WaitsAt w a n cap V) : Calls Try.prog 21 #[.slice a n cap, .int .i64 dir, .int .i64 hd] w fun e w' => (∃ t wh ok, e = .returned (.tuple #[.int .i64 t, .int .i64 wh, .bool ok]) ∧ FirstIs V n dir hd t wh ok) ∧ Below w.heap.size w w' := by
  have hn := h.1
  have HS := Lib.hid h
  have HP0 := Lib.hid (show NumAt ((w.alloc (.cells #[.int .i64 dir] 3)).alloc (.cells #[.int .i64 hd] 3)) w.heap.size dir from ⟨by simp; omega, by rw [World.cell?_alloc_past _ _ _ (by simp), cell_of_row _ _ _ _ 3 (0, 0) (heap_alloc_new w _)]; rfl⟩)
  have HQ0 := Lib.hid (show NumAt ((w.alloc (.cells #[.int .i64 dir] 3)).alloc (.cells #[.int .i64 hd] 3)) (w.heap.size + 1) hd from ⟨by simp, by
    have := heap_alloc_new (w.alloc (.cells #[.int .i64 dir] 3)) (.cells #[.int .i64 hd] 3)
    rw [World.size_alloc] at this
    rw [cell_of_row _ _ _ _ 3 (0, 0) this]; rfl⟩)
  have HB0 := Lib.hid (show Below w.heap.size w ((w.alloc (.cells #[.int .i64 dir] 3)).alloc (.cells #[.int .i64 hd] 3)) from ((Below.refl _ _).alloc (Nat.le_refl _) _).alloc (by simp) _)
  clear h
  go_enter Try.func21, Try.ntmps21
  go_wp2
  go_loopw [6, 7, 8, 16] (fun tv wv ov i wr => ∃ (k : Nat) (t wh : Int) (ok : Bool), k ≤ n ∧ i = .int .i64 k ∧ tv = .int .i64 t ∧ wv = .int .i64 wh ∧ ov = .bool ok ∧ Below w.heap.size w wr ∧ NumAt wr w.heap.size dir ∧ NumAt wr (w.heap.size + 1) hd ∧ FirstIs V k dir hd t wh ok) (fun _ _ _ i _ => n - (intOf i).toNat)
  case atStart => exact ⟨0, 0, 0, false, Nat.zero_le _, rfl, rfl, rfl, rfl, HB0.out, HP0.out, HQ0.out, .inl ⟨rfl, rfl, rfl, fun i hi => absurd hi (by omega)⟩⟩
  case round =>
    clear HP0 HQ0 HB0
    obtain ⟨k, t, wh, ok, hk, rfl, rfl, rfl, rfl, hb, hp, hq, hf0⟩ := hrel
    have HB := Lib.hid hb
    have HP := Lib.hid hp
    have HQ := Lib.hid hq
    have HF := Lib.hid hf0
    have HR := Lib.hid (HS.out.below hb)
    clear hb hp hq hf0
    by_cases hlt : k < n
    · obtain ⟨b, off, rfl, zb, hc⟩ := HR.out.get hlt
      have HCC := Lib.hid hc
      obtain ⟨ca, cc, x0, x1, x2, x3, hr⟩ := hc k hlt
      have i0 : (0 : Int) ≤ (k : Int) := by omega
      have i1 : (k : Int) < (n : Int) := by omega
      have HA := Lib.hid ((Below.refl wr.heap.size wr).alloc (Nat.le_refl _) (.cells #[.bool (V k).on, .int .i64 (V k).tk, .int .i64 (V k).sq, .slice ca (V k).m cc] 25))
      have HI := Lib.hid (fun N : Nat => index_any ca (V k).m cc (V k).c dir hd w.heap.size (w.heap.size + 1) ((wr.alloc (.cells #[.bool (V k).on, .int .i64 (V k).tk, .int .i64 (V k).sq, .slice ca (V k).m cc] 25)).drewN N) (hr.below (below_drewN HA.out N)) (HP.out.below (below_drewN HA.out N)) (HQ.out.below (below_drewN HA.out N)))
      clear hc hr
      by_cases hon : (V k).on = true
      · rw [hon] at x0 HA HI
        cases ok with
        | false =>
          by_cases hf : Fit V dir hd k
          · skip
            go_wp2
            go_quiet (fail)
            go_wp2_with (go_at_call 59; go_loud ((with_reducible refine (HI.out _).mono ?_); rintro e w1 ⟨⟨r, rfl, hr⟩, hb1⟩; obtain ⟨j, hj, rfl, hh, hmin⟩ := hr.fit hf.2; have HB1 := Lib.hid (HB.out.trans (((below_drewN HA.out _).trans (hb1.mono HA.out.size)).mono HB.out.size)); have HP1 := Lib.hid ((HP.out.below (below_drewN HA.out _)).below hb1); have HQ1 := Lib.hid ((HQ.out.below (below_drewN HA.out _)).below hb1); clear hb1 x0 x1 x2 x3 hr))
            go_roundw
            case rel => exact ⟨k + 1, _, _, _, by omega, by go_num, rfl, rfl, rfl, HB1.out, HP1.out, HQ1.out, HF.out.first hf hj hh hmin⟩
            case measure => simp [intOf]; omega

          · skip
            go_wp2
            go_quiet (fail)
            go_wp2_with (go_at_call 59; go_loud ((with_reducible refine (HI.out _).mono ?_); rintro e w1 ⟨⟨r, rfl, hr⟩, hb1⟩; obtain rfl := hr.none (fun h => hf ⟨hon, h⟩); have HB1 := Lib.hid (HB.out.trans (((below_drewN HA.out _).trans (hb1.mono HA.out.size)).mono HB.out.size)); have HP1 := Lib.hid ((HP.out.below (below_drewN HA.out _)).below hb1); have HQ1 := Lib.hid ((HQ.out.below (below_drewN HA.out _)).below hb1); clear hb1 x0 x1 x2 x3 hr))
            go_roundw
            case rel => exact ⟨k + 1, _, _, _, by omega, by go_num, rfl, rfl, rfl, HB1.out, HP1.out, HQ1.out, HF.out.skip (fun h => absurd h hf)⟩
            case measure => simp [intOf]; omega

        | true =>
          obtain ⟨i, hi, rfl⟩ := HF.out.bound
          obtain ⟨_, _, _, y1, _, _, _⟩ := HCC.out i (by omega)
          have j0 : (0 : Int) ≤ (i : Int) := by omega
          have j1 : (i : Int) < (n : Int) := by omega
          by_cases hge : (V i).tk ≤ (V k).tk
          · go_wp2
            go_quiet (fail)
            go_wp2
            go_roundw
            case rel => exact ⟨k + 1, _, _, _, by omega, by go_num, rfl, rfl, rfl, HB.out.trans ((below_drewN HA.out _).mono HB.out.size), HP.out.below (below_drewN HA.out _), HQ.out.below (below_drewN HA.out _), HF.out.skip (fun _ => ⟨rfl, by rw [Int.toNat_natCast]; exact hge⟩)⟩
            case measure => simp [intOf]; omega
          · have hlt2 : (V k).tk < (V ((i : Int)).toNat).tk := by rw [Int.toNat_natCast]; omega
            have hlt3 : (V k).tk < (V i).tk := by omega
            clear hge
            by_cases hf : Fit V dir hd k
            · skip
              go_wp2
              go_quiet (fail)
              go_wp2_with (go_at_call 59; go_loud ((with_reducible refine (HI.out _).mono ?_); rintro e w1 ⟨⟨r, rfl, hr⟩, hb1⟩; obtain ⟨j, hj, rfl, hh, hmin⟩ := hr.fit hf.2; have HB1 := Lib.hid (HB.out.trans (((below_drewN HA.out _).trans (hb1.mono HA.out.size)).mono HB.out.size)); have HP1 := Lib.hid ((HP.out.below (below_drewN HA.out _)).below hb1); have HQ1 := Lib.hid ((HQ.out.below (below_drewN HA.out _)).below hb1); clear hb1 x0 x1 x2 x3 hr))
              go_roundw
              case rel => exact ⟨k + 1, _, _, _, by omega, by go_num, rfl, rfl, rfl, HB1.out, HP1.out, HQ1.out, HF.out.over hf hj hh hmin hlt2⟩
              case measure => simp [intOf]; omega

            · skip
              go_wp2
              go_quiet (fail)
              go_wp2_with (go_at_call 59; go_loud ((with_reducible refine (HI.out _).mono ?_); rintro e w1 ⟨⟨r, rfl, hr⟩, hb1⟩; obtain rfl := hr.none (fun h => hf ⟨hon, h⟩); have HB1 := Lib.hid (HB.out.trans (((below_drewN HA.out _).trans (hb1.mono HA.out.size)).mono HB.out.size)); have HP1 := Lib.hid ((HP.out.below (below_drewN HA.out _)).below hb1); have HQ1 := Lib.hid ((HQ.out.below (below_drewN HA.out _)).below hb1); clear hb1 x0 x1 x2 x3 hr))
              go_roundw
              case rel => exact ⟨k + 1, _, _, _, by omega, by go_num, rfl, rfl, rfl, HB1.out, HP1.out, HQ1.out, HF.out.skip (fun h => absurd h hf)⟩
              case measure => simp [intOf]; omega

      · have hoff : (V k).on = false := by simpa using hon
        rw [hoff] at x0 HA
        go_wp2
        go_quiet (fail)
        go_wp2
        go_roundw
        case rel => exact ⟨k + 1, _, _, _, by omega, by go_num, rfl, rfl, rfl, HB.out.trans ((below_drewN HA.out _).mono HB.out.size), HP.out.below (below_drewN HA.out _), HQ.out.below (below_drewN HA.out _), HF.out.skip (fun h => absurd h.1 hon)⟩
        case measure => simp [intOf]; omega
    · obtain rfl : k = n := by omega
      go_wp2
      refine bodyPost_ret (v := .tuple #[.int .i64 t, .int .i64 wh, .bool ok]) (by simp only [results, Try.results21]; go_simp) rfl ⟨⟨t, wh, ok, rfl, HF.out⟩, HB.out⟩
end Go.Proofs.Ytihpjfhibhpciaa
