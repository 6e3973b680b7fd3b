/- The walk of WaitsTells over the seat's program. -/
import Derived.Test.YtihpjfhibhpciaaWtW
import Derived.Test.YtihpjfhibhpciaaWtV
import Derived.Test.YtihpjfhibhpciaaWtMoves
namespace Go.Proofs.Ytihpjfhibhpciaa
open Go.ChangeShapes Go.WideShapes Go.ChangeAt Go.RowKit Go.Joins

theorem FirstIs.unique {V : Nat → WV} {k : Nat} {d hd t wh t' wh' : Int} {ok ok' : Bool} (h : FirstIs V k d hd t wh ok) (h' : FirstIs V k d hd t' wh' ok') : t = t' ∧ wh = wh' ∧ ok = ok' := by
  rcases h with ⟨rfl, rfl, rfl, h⟩ | ⟨rfl, i, hi, rfl, hon, ⟨j, hj, rfl, hh, hmin⟩, h⟩
  · rcases h' with ⟨rfl, rfl, rfl, _⟩ | ⟨_, i, hi, _, hon, ⟨j, hj, _, hh, _⟩, _⟩
    · exact ⟨rfl, rfl, rfl⟩
    · exact absurd ⟨hon, j, hj, hh⟩ (h i hi)
  · rcases h' with ⟨_, _, _, h'⟩ | ⟨rfl, i', hi', rfl, hon', ⟨j', hj', rfl, hh', hmin'⟩, h'⟩
    · exact absurd ⟨hon, j, hj, hh⟩ (h' i hi)
    · have a1 := h i' hi' ⟨hon', j', hj', hh'⟩
      have a2 := h' i hi ⟨hon, j, hj, hh⟩
      obtain rfl : i = i' := by omega
      have : j = j' := by
        rcases Nat.lt_trichotomy j j' with c | c | c
        · exact absurd hh (hmin' j c)
        · exact c
        · exact absurd hh' (hmin j' c)
      exact ⟨rfl, by rw [this], rfl⟩
theorem ltK.irrefl {K : Int → Int} {x : Int} (h : ltK K x x) : False := by
  unfold ltK at h
  omega
theorem OnIs.sub {V : Nat → WV} {hd : Int} {n m m' : Nat} {f g : Nat → Int} (h : OnIs V hd n m f) (h' : OnIs V hd n m' g) : ∀ j, j < m → j < m' ∧ f j = g j := by
  intro j
  induction j using Nat.strongRecOn with
  | ind j ih =>
    intro hj
    obtain ⟨i, hi, e, hw⟩ := h.are j hj
    obtain ⟨j', hj', e'⟩ := h'.all i hi hw
    have e2 : g j' = f j := by rw [e, e']
    have c1 : ¬ j' < j := fun c => by
      have := (ih j' c (by omega)).2
      have h3 := h.up j' j (Nat.zero_le _) c hj
      rw [this, e2] at h3
      exact h3.irrefl
    have c2 : ¬ j < j' := fun c => by
      obtain ⟨i2, hi2, e3, hw2⟩ := h'.are j (by omega)
      obtain ⟨j2, hj2, e4⟩ := h.all i2 hi2 hw2
      have e5 : f j2 = g j := by rw [e4, e3]
      have h3 := h'.up j j' (Nat.zero_le _) c hj'
      rw [e2, ← e5] at h3
      rcases Nat.lt_trichotomy j2 j with d | d | d
      · have h4 := (ih j2 d hj2).2
        have h5 := h'.up j2 j (Nat.zero_le _) d (by omega)
        rw [← h4, e5] at h5
        exact h5.irrefl
      · rw [d] at h3; exact h3.irrefl
      · exact (h3.trans (h.up j j2 (Nat.zero_le _) d hj2)).irrefl
    obtain rfl : j' = j := by omega
    exact ⟨hj', e2.symm⟩
theorem OnIs.unique {V : Nat → WV} {hd : Int} {n m m' : Nat} {f g : Nat → Int} (h : OnIs V hd n m f) (h' : OnIs V hd n m' g) : m = m' ∧ ∀ i, i < m → f i = g i := by
  refine ⟨?_, fun i hi => (h.sub h' i hi).2⟩
  rcases Nat.lt_trichotomy m m' with c | c | c
  · have := (h'.sub h m c).1; omega
  · exact c
  · have := (h.sub h' m' c).1; omega
theorem RSame.refl (V : Nat → WV) (n : Nat) : RSame V n V n := ⟨rfl, fun _ _ => ⟨rfl, rfl, rfl, rfl, fun _ _ _ _ => rfl⟩⟩
set_option maxRecDepth 100000 in
set_option maxHeartbeats 3200000 in
theorem tells_walk (a : Option Addr) (n cap : Nat) (V : Nat → WV) (a' : Option Addr) (n' cap' : Nat) (U : Nat → WV) (dir hd : Int) (W : World) (h : WaitsAt W a n cap V) (h' : WaitsAt W a' n' cap' U) : Calls Try.prog 4 #[.slice a n cap, .slice a' n' cap', .int .i64 dir, .int .i64 hd] W fun e w' => e = .returned (.bool true) ∧ Below W.heap.size W w' := by
  have hn := h.1
  have HS := Lib.hid h
  have HS' := Lib.hid h'
  clear h h'
  go_enter Try.func4, Try.ntmps4
  go_upto_region 2 with (go_at_call 21; (with_reducible refine (first_any _ _ _ _ _ _ _ HS.out).mono ?_); rintro e w1 ⟨⟨t, wh, ok, rfl, hf⟩, hb⟩; have HF := Lib.hid hf; have HB := Lib.hid hb; have HS := Lib.hid (HS.out.below hb); have HS' := Lib.hid (HS'.out.below hb); clear hf hb)
  go_upto_region 3 with (go_at_call 22; (with_reducible refine (rfirst_any _ _ _ _ _ _ _ HS.out).mono ?_); rintro e w2 ⟨⟨t', wh', ok', rfl, hf⟩, hb⟩; obtain ⟨rfl, rfl, rfl⟩ := HF.out.unique hf; have HB := Lib.hid (HB.out.trans (hb.mono HB.out.size)); have HS := Lib.hid (HS.out.below hb); have HS' := Lib.hid (HS'.out.below hb); clear hf hb)
  clear HF
  have et : (t == t) = true := by simp
  have ew : (wh == wh) = true := by simp
  have eo : (ok == ok) = true := by simp
  have ec : (((countW V n : Nat) : Int) == ((countW V n : Nat) : Int)) = true := by simp
  go_wp2_with (first
    | (go_at_call 24; (with_reducible refine (on_any _ _ _ _ _ _ HS.out).mono ?_); rintro e w3 ⟨oa, om, oc, f, rfl, hr, ho, hb⟩; have HR := Lib.hid hr; have HO := Lib.hid ho; have HB3 := Lib.hid (HB.out.trans (hb.mono HB.out.size)); have HS3 := Lib.hid (HS.out.below hb); have HT3 := Lib.hid (HS'.out.below hb); clear hr ho hb)
    | (go_at_call 25; (with_reducible refine (ron_any _ _ _ _ _ _ HS3.out).mono ?_); rintro e w4 ⟨ra, rm, rc, g, rfl, hr, ho, hb⟩; obtain ⟨rfl, he⟩ := HO.out.unique ho; have HE := Lib.hid he; have HR4 := Lib.hid hr; have HR3 := Lib.hid (HR.out.below hb); have HB4 := Lib.hid (HB3.out.trans (hb.mono HB3.out.size)); have HS4 := Lib.hid (HS3.out.below hb); have HT4 := Lib.hid (HT3.out.below hb); clear hr ho hb he)
    | (go_at_call 23; (with_reducible refine (ints_yes _ _ _ _ _ _ _ _ HR3.out HR4.out HE.out).mono ?_); rintro e w5 ⟨rfl, hq⟩; have hb := hq.below; have HB5 := Lib.hid (HB4.out.trans (hb.mono HB4.out.size)); have HS5 := Lib.hid (HS4.out.below hb); have HT5 := Lib.hid (HT4.out.below hb); clear hq hb)
    | (go_at_call 26; (with_reducible refine (count_any _ _ _ _ _ HS5.out).mono ?_); rintro e w6 ⟨rfl, hb⟩; have HB6 := Lib.hid (HB5.out.trans (hb.mono HB5.out.size)); have HS6 := Lib.hid (HS5.out.below hb); have HT6 := Lib.hid (HT5.out.below hb); clear hb)
    | (go_at_call 27; (with_reducible refine (rcount_any _ _ _ _ _ HS6.out).mono ?_); rintro e w7 ⟨rfl, hb⟩; have HB7 := Lib.hid (HB6.out.trans (hb.mono HB6.out.size)); have HS7 := Lib.hid (HS6.out.below hb); have HT7 := Lib.hid (HT6.out.below hb); clear hb)
    | (go_at_call 28; (with_reducible refine (wsame_any _ _ _ _ _ _ _ _ _ HS7.out HT7.out).mono ?_); rintro e w8 ⟨⟨y, rfl, hy⟩, hb⟩; have HY := Lib.hid hy; have HB8 := Lib.hid (HB7.out.trans (hb.mono HB7.out.size)); have HS8 := Lib.hid (HS7.out.below hb); have HT8 := Lib.hid (HT7.out.below hb); clear hb hy)
    | (go_at_call 19; (with_reducible refine (waits_any _ _ _ _ _ _ _ _ _ HS8.out HT8.out).mono ?_); rintro e w9 ⟨⟨y', rfl, hy⟩, hb⟩; obtain rfl : y = y' := Bool.eq_iff_iff.2 (HY.out.trans hy.symm); have ey : (y == y) = true := beq_self_eq_true y; have HB9 := Lib.hid (HB8.out.trans (hb.mono HB8.out.size)); have HS9 := Lib.hid (HS8.out.below hb); clear hb hy)
    | (go_at_call 28; (with_reducible refine (wsame_any _ _ _ _ _ _ _ _ _ HS9.out HS9.out).mono ?_); rintro e w10 ⟨⟨z, rfl, hy⟩, hb⟩; obtain rfl : z = true := hy.2 (RSame.refl V n); have HB10 := Lib.hid (HB9.out.trans (hb.mono HB9.out.size)); have HS10 := Lib.hid (HS9.out.below hb); clear hb hy)
    | (go_at_call 29; (with_reducible refine ((copy_any _ _ _ _ _ HS10.out).mono fun _ _ hr => hr.at hn).mono ?_); rintro e w11 ⟨ca, cc, rfl, hr, hb⟩; have HC11 := Lib.hid hr; have HB11 := Lib.hid (HB10.out.trans (hb.mono HB10.out.size)); have HS11 := Lib.hid (HS10.out.below hb); clear hb hr)
    | (go_at_call 19; (with_reducible refine (waits_yes _ _ _ _ _ _ _ HC11.out HS11.out).mono ?_); rintro e w12 ⟨rfl, hb⟩; have HB12 := Lib.hid (HB11.out.trans (hb.mono HB11.out.size)); clear hb)
    | (go_at_call 20; (with_reducible refine (awake_any _).mono ?_); rintro e w13 ⟨rfl, hb⟩; have HB13 := Lib.hid (HB12.out.trans (hb.mono HB12.out.size)); clear hb))
  go_ret
  exact ⟨rfl, HB13.out⟩
end Go.Proofs.Ytihpjfhibhpciaa
