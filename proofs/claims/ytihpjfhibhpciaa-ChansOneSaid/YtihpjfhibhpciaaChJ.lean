/- The walk of ChansOne over the seat's program. -/
import Derived.Test.YtihpjfhibhpciaaChI
import Derived.Test.YtihpjfhibhpciaaWtUndoes
namespace Go.Proofs.Ytihpjfhibhpciaa
open Go.ChangeShapes Go.WideShapes Go.ChangeAt Go.RowKit Go.Joins

theorem countW_off {V : Nat → WV} {i n : Nat} (hi : i < n) (h0 : (V i).on = true) : countW (zeroAt V (fun _ => (i : Int)) 1) n + 1 = countW V n := by
  have hz : zeroAt V (fun _ => (i : Int)) 1 = setV V i WV.zero := (zeroAt_succ (V := V) (k := 0) (f := fun _ => (i : Int)) (i := i) rfl).trans (by rw [zeroAt_zero])
  rw [hz]
  have := countW_set (V := setV V i WV.zero) (U := V i) hi (by unfold setV; rw [if_pos rfl]; rfl) h0
  rw [← this, countW_same (V := setV (setV V i WV.zero) i (V i)) (U := V) (fun j _ => by
    unfold setV
    by_cases e : j = i
    · rw [if_pos e, e]
    · rw [if_neg e, if_neg e])]
theorem zeroAt_off {V : Nat → WV} {i : Nat} : (zeroAt V (fun _ => (i : Int)) 1 i).on = false := by
  have : zeroAt V (fun _ => (i : Int)) 1 i = WV.zero := if_pos ⟨0, Nat.zero_lt_one, rfl⟩
  rw [this]
  rfl
theorem FirstIs.isOn {V : Nat → WV} {n t wh : Nat} {d hd : Int} (h : FirstIs V n d hd t wh true) : (V t).on = true := by
  rcases h with ⟨h, _⟩ | ⟨_, i, _, e, hon, _⟩
  · cases h
  · obtain rfl : t = i := by omega
    exact hon
theorem told5 {w : World} {b off cap : Nat} {T : Nat → Nat → Int} (h : RowS 5 w (some ⟨b, off, none⟩) 1 cap T) : b < w.heap.size ∧ w.cell? ⟨b, off, none⟩ = some (.int .i64 (T 0 0)) ∧ w.cell? ⟨b, off + 1, none⟩ = some (.int .i64 (T 0 1)) ∧ w.cell? ⟨b, off + 2, none⟩ = some (.int .i64 (T 0 2)) ∧ w.cell? ⟨b, off + 3, none⟩ = some (.int .i64 (T 0 3)) ∧ w.cell? ⟨b, off + 4, none⟩ = some (.int .i64 (T 0 4)) := by
  obtain ⟨b', off', ha, hb, hc⟩ := h.2.2.2 Nat.zero_lt_one
  simp only [Option.some.injEq, Addr.mk.injEq, and_true] at ha
  obtain ⟨rfl, rfl⟩ := ha
  have g := fun j hj => hc 0 j Nat.zero_lt_one hj
  simp only [Nat.zero_mul, Nat.add_zero] at g
  exact ⟨hb, g 0 (by omega), g 1 (by omega), g 2 (by omega), g 3 (by omega), g 4 (by omega)⟩
theorem WaitsAt.two {w : World} {b off n cap i : Nat} {V : Nat → WV} (h : WaitsAt w (some ⟨b, off, none⟩) n cap V) (hi : i < n) : b < w.heap.size ∧ w.cell? ⟨b, off + i * 4, none⟩ = some (.bool (V i).on) ∧ w.cell? ⟨b, off + i * 4 + 2, none⟩ = some (.int .i64 (V i).sq) := by
  obtain ⟨b', off', ha, hb, hc⟩ := h.2.2.2 (by omega)
  simp only [Option.some.injEq, Addr.mk.injEq, and_true] at ha
  obtain ⟨rfl, rfl⟩ := ha
  obtain ⟨_, _, h0, _, h2, _⟩ := hc i hi
  exact ⟨hb, h0, h2⟩
/-- What becomes of it, in short. -/
theorem do_sum {C C' : CH} {V V' : Nat → WV} {n m : Nat} {hd dir x code rv : Int} {T : Nat → Nat → Int} (h : DoIs C V n hd dir x C' V' code rv m T) :
    (m = 0 ∧ V' = V ∧ (C'.n = C.n ∨ (code = 0 ∧ (C'.n = C.n + 1 ∨ C'.n + 1 = C.n)))) ∨
    (m = 1 ∧ code = 0 ∧ C'.n = C.n ∧ ∃ (t wh : Nat) (d : Int), t < n ∧ (dir = 1 ∧ d = 2 ∨ dir = 2 ∧ d = 1) ∧ FirstIs V n d hd t wh true ∧ V' = zeroAt V (fun _ => (t : Int)) 1 ∧ T 0 0 = t ∧ T 0 1 = (V t).sq ∧ T 0 2 = wh ∧ T 0 3 = 0) := by
  cases h with
  | wait T h => exact .inl ⟨rfl, rfl, .inl rfl⟩
  | shut T => exact .inl ⟨rfl, rfl, .inl rfl⟩
  | meet t wh _ h1 _ ht _ hf => exact .inr ⟨rfl, rfl, rfl, t, wh, 2, ht, .inl ⟨h1, rfl⟩, hf, rfl, rfl, rfl, rfl, rfl⟩
  | push T => exact .inl ⟨rfl, rfl, .inr ⟨rfl, .inl rfl⟩⟩
  | swap t wh _ h1 ht _ hf => exact .inr ⟨rfl, rfl, rfl, t, wh, 1, ht, .inr ⟨h1, rfl⟩, hf, rfl, rfl, rfl, rfl, rfl⟩
  | pop T _ _ _ h0 => exact .inl ⟨rfl, rfl, .inr ⟨rfl, .inr (Nat.sub_add_cancel h0)⟩⟩
  | none T => exact .inl ⟨rfl, rfl, .inl rfl⟩
/-- What ChansOne, behind Do, has. -/
structure OneA (W v : World) (C C' : CH) (ca ca' : Option Addr) (cc cc' D : Nat) (code rv : Int) : Prop where
  chan : Box v W.heap.size (.int .i64 C.gen) (.int .i64 C.cap) (.bool C.used) (.bool C.closed) (.slice ca C.n cc)
  got : Box v D (.int .i64 C'.gen) (.int .i64 C'.cap) (.bool C'.used) (.bool C'.closed) (.slice ca' C'.n cc')
  res : Box4 v (D + 1) (.int .i64 0) (.int .i64 0) (.int .i64 code) (.int .i64 rv)
  bel : Below W.heap.size W v
  lt : W.heap.size < D ∧ D + 1 < v.heap.size
theorem OneA.below {W v u : World} {C C' : CH} {ca ca' : Option Addr} {cc cc' D : Nat} {code rv : Int} (h : OneA W v C C' ca ca' cc cc' D code rv) (hb : Below v.heap.size v u) : OneA W u C C' ca ca' cc cc' D code rv :=
  ⟨h.chan.below (by have := h.lt; omega) hb, h.got.below (by have := h.lt; omega) hb, h.res.below h.lt.2 hb, h.bel.trans (hb.mono h.bel.size), h.lt.1, Nat.lt_of_lt_of_le h.lt.2 hb.size⟩
theorem OneA.new {W w1 : World} {C C' : CH} {ca ca' : Option Addr} {cc cc' : Nat} {code rv : Int} (h : Box w1 W.heap.size (.int .i64 C.gen) (.int .i64 C.cap) (.bool C.used) (.bool C.closed) (.slice ca C.n cc)) (hb : Below W.heap.size W w1) (hlt : W.heap.size < w1.heap.size) :
    OneA W ((w1.alloc (.cells #[.int .i64 C'.gen, .int .i64 C'.cap, .bool C'.used, .bool C'.closed, .slice ca' C'.n cc'] 44)).alloc (.cells #[.int .i64 0, .int .i64 0, .int .i64 code, .int .i64 rv] 48)) C C' ca ca' cc cc' w1.heap.size code rv := by
  have b1 : ∀ (W : World) o, Below W.heap.size W (W.alloc o) := fun W o => (Below.refl _ _).alloc (Nat.le_refl _) _
  have r := Box4.new (a := .int .i64 0) (b := .int .i64 0) (c := .int .i64 code) (d := .int .i64 rv) (w1.alloc (.cells #[.int .i64 C'.gen, .int .i64 C'.cap, .bool C'.used, .bool C'.closed, .slice ca' C'.n cc'] 44)) 48
  rw [World.size_alloc] at r
  exact ⟨h.below hlt (((b1 _ _).trans ((b1 _ _).mono (by simp)))), (Box.new w1 _).below (by simp) (b1 _ _), r, hb.trans (((b1 _ _).trans ((b1 _ _).mono (by simp))).mono (by omega)), hlt, by simp⟩
set_option maxRecDepth 100000 in
set_option maxHeartbeats 6400000 in
theorem one_walk (ca : Option Addr) (cc : Nat) (C : CH) (hd : Int) (a : Option Addr) (n cap : Nat) (V : Nat → WV) (dir x : Int) (W : World) (hc : ChanAt W (.agg #[.int .i64 C.gen, .int .i64 C.cap, .bool C.used, .bool C.closed, .slice ca C.n cc]) C) (h : WaitsAt W a n cap V) :
    Calls Try.prog 9 #[.agg #[.int .i64 C.gen, .int .i64 C.cap, .bool C.used, .bool C.closed, .slice ca C.n cc], .int .i64 hd, .slice a n cap, .int .i64 dir, .int .i64 x] W fun e w' => e = .returned (.bool true) ∧ Below W.heap.size W w' := by
  have hC : C.n * 8 ≤ 140737488351232 := by
    obtain ⟨_, _, hv, hr⟩ := hc
    exact hr.1
  have hn := h.1
  have HB0 := Lib.hid ((Below.refl W.heap.size W).alloc (Nat.le_refl _) (.cells #[.int .i64 C.gen, .int .i64 C.cap, .bool C.used, .bool C.closed, .slice ca C.n cc] 44))
  have HX := Lib.hid (Box.new (a := .int .i64 C.gen) (b := .int .i64 C.cap) (c := .bool C.used) (d := .bool C.closed) (e := .slice ca C.n cc) W 44)
  have HC := Lib.hid (hc.below HB0.out)
  have HS := Lib.hid (h.below HB0.out)
  have hz : W.heap.size < (W.alloc (.cells #[.int .i64 C.gen, .int .i64 C.cap, .bool C.used, .bool C.closed, .slice ca C.n cc] 44)).heap.size := by simp
  clear hc h
  go_enter Try.func9, Try.ntmps9
  go_upto_region 1 with (fail)
  revert HB0 HX HC HS hz
  generalize W.alloc (.cells #[.int .i64 C.gen, .int .i64 C.cap, .bool C.used, .bool C.closed, .slice ca C.n cc] 44) = u
  intro HB0 HX HC HS hz
  (obtain ⟨x0, x1, x2, x3, x4, xf⟩ := HX.out)
  clear xf
  go_upto_region 2 with (go_at_call 31; go_loud ((with_reducible refine (do_any _ C _ n cap V hd dir x u HC.out HS.out hC).mono ?_); rintro e w1 ⟨C', V', code, rv, m, T, hi, cv, ra, rc, ta, tc, rfl, hfc, hfw, hft, hb⟩; have HI := Lib.hid hi; obtain ⟨ca', cc', rfl, hz'⟩ := hfc.at; have hk' := hz'.1; have HM := Lib.hid hfw.at; have HT := Lib.hid hft.at; have HS1 := Lib.hid (HS.out.below hb); have HN := Lib.hid (OneA.new (C' := C') (ca' := ca') (cc' := cc') (code := code) (rv := rv) (HX.out.below hz hb) (HB0.out.trans (hb.mono HB0.out.size)) (Nat.lt_of_lt_of_le hz hb.size)); clear hi hz' hfc hfw hft hb x0 x1 x2 x3 x4))
  have hAA : Below w1.heap.size w1 ((w1.alloc (.cells #[.int .i64 C'.gen, .int .i64 C'.cap, .bool C'.used, .bool C'.closed, .slice ca' C'.n cc'] 44)).alloc (.cells #[.int .i64 0, .int .i64 0, .int .i64 code, .int .i64 rv] 48)) := ((Below.refl _ _).alloc (Nat.le_refl _) _).alloc (by simp) _
  refine abstract_code (fun v => OneA W v C C' ca ca' cc cc' w1.heap.size code rv ∧ WaitsAt v a n cap V ∧ WaitsAt v ra n rc V' ∧ RowS 5 v ta m tc T) ⟨HN.out, HS1.out.below hAA, HM.out.below hAA, HT.out.below hAA⟩ ?_
  generalize w1.heap.size = D
  clear hAA HN HS1 HM HT HS HC HX HB0 hz
  rintro v ⟨hn', hs, hm, ht⟩
  have HN := Lib.hid hn'
  have HS := Lib.hid hs
  have HM := Lib.hid hm
  have HT := Lib.hid ht
  (obtain ⟨x0, x1, x2, x3, x4, _⟩ := hn'.chan)
  (obtain ⟨y0, y1, y2, y3, y4, _⟩ := hn'.got)
  (obtain ⟨z0, z1, z2, z3, _⟩ := hn'.res)
  have hlt := hn'.lt
  clear hn' hs hm ht
  rcases do_sum HI.out with ⟨rfl, rfl, hsh⟩ | ⟨rfl, rfl, hcn, t, wh, d, ht, hdd, hf, rfl, q0, q1, q2, q3⟩
  · obtain ⟨K, hKK⟩ : ∃ K, countW V' n = K := ⟨_, rfl⟩
    have hK := countW_le V' n
    rw [hKK] at hK
    have HKK := Lib.hid hKK
    have kw : IntKind.i64.wrap (K : Int) = (K : Int) := IntWalk.i64_in _ (by omega)
    clear hKK HI
    rcases hsh with hsh | ⟨rfl, hsh | hsh⟩
    · have hg : IntKind.i64.wrap ((C'.n : Int) - (C.n : Int)) = 0 := (IntWalk.i64_in _ (by omega)).trans (by omega)
      clear hsh
      by_cases hcd : code = 0
      · subst hcd
        go_wp2_with (first
        | (go_at_call 27; (with_reducible refine (rcount_any _ _ _ _ _ HM.out).mono ?_); rw [HKK.out]; rintro e v1 ⟨rfl, hb⟩; have HN1 := Lib.hid (HN.out.below hb); have HS1 := Lib.hid (HS.out.below hb); have HM1 := Lib.hid (HM.out.below hb); have HT1 := Lib.hid (HT.out.below hb); clear hb x0 x1 x2 x3 x4 y0 y1 y2 y3 y4 z0 z1 z2 z3)
        | (go_at_call 27; (with_reducible refine (rcount_any _ _ _ _ _ HS1.out).mono ?_); rw [HKK.out]; rintro e v2 ⟨rfl, hb⟩; have HN2 := Lib.hid (HN1.out.below hb); have HS2 := Lib.hid (HS1.out.below hb); have HM2 := Lib.hid (HM1.out.below hb); have HT2 := Lib.hid (HT1.out.below hb); clear hb; obtain ⟨x0, x1, x2, x3, x4, _⟩ := HN2.out.chan; obtain ⟨y0, y1, y2, y3, y4, _⟩ := HN2.out.got; obtain ⟨z0, z1, z2, z3, _⟩ := HN2.out.res)
        | (go_at_call 38; (with_reducible refine (cawake_any _).mono ?_); rintro e v9 ⟨rfl, hb⟩; have HZ := Lib.hid (HN2.out.bel.trans (hb.mono HN2.out.bel.size)); clear hb))
        go_ret
        exact ⟨rfl, HZ.out⟩
      · have hcd' : (code != 0) = true := by simpa using hcd
        clear hcd
        go_wp2_with (first
        | (go_at_call 27; (with_reducible refine (rcount_any _ _ _ _ _ HM.out).mono ?_); rw [HKK.out]; rintro e v1 ⟨rfl, hb⟩; have HN1 := Lib.hid (HN.out.below hb); have HS1 := Lib.hid (HS.out.below hb); have HM1 := Lib.hid (HM.out.below hb); have HT1 := Lib.hid (HT.out.below hb); clear hb x0 x1 x2 x3 x4 y0 y1 y2 y3 y4 z0 z1 z2 z3)
        | (go_at_call 27; (with_reducible refine (rcount_any _ _ _ _ _ HS1.out).mono ?_); rw [HKK.out]; rintro e v2 ⟨rfl, hb⟩; have HN2 := Lib.hid (HN1.out.below hb); have HS2 := Lib.hid (HS1.out.below hb); have HM2 := Lib.hid (HM1.out.below hb); have HT2 := Lib.hid (HT1.out.below hb); clear hb; obtain ⟨x0, x1, x2, x3, x4, _⟩ := HN2.out.chan; obtain ⟨y0, y1, y2, y3, y4, _⟩ := HN2.out.got; obtain ⟨z0, z1, z2, z3, _⟩ := HN2.out.res)
        | (go_at_call 38; (with_reducible refine (cawake_any _).mono ?_); rintro e v9 ⟨rfl, hb⟩; have HZ := Lib.hid (HN2.out.bel.trans (hb.mono HN2.out.bel.size)); clear hb))
        go_ret
        exact ⟨rfl, HZ.out⟩
    · have hg : IntKind.i64.wrap ((C'.n : Int) - (C.n : Int)) = 1 := (IntWalk.i64_in _ (by omega)).trans (by omega)
      clear hsh
      go_wp2_with (first
      | (go_at_call 27; (with_reducible refine (rcount_any _ _ _ _ _ HM.out).mono ?_); rw [HKK.out]; rintro e v1 ⟨rfl, hb⟩; have HN1 := Lib.hid (HN.out.below hb); have HS1 := Lib.hid (HS.out.below hb); have HM1 := Lib.hid (HM.out.below hb); have HT1 := Lib.hid (HT.out.below hb); clear hb x0 x1 x2 x3 x4 y0 y1 y2 y3 y4 z0 z1 z2 z3)
      | (go_at_call 27; (with_reducible refine (rcount_any _ _ _ _ _ HS1.out).mono ?_); rw [HKK.out]; rintro e v2 ⟨rfl, hb⟩; have HN2 := Lib.hid (HN1.out.below hb); have HS2 := Lib.hid (HS1.out.below hb); have HM2 := Lib.hid (HM1.out.below hb); have HT2 := Lib.hid (HT1.out.below hb); clear hb; obtain ⟨x0, x1, x2, x3, x4, _⟩ := HN2.out.chan; obtain ⟨y0, y1, y2, y3, y4, _⟩ := HN2.out.got; obtain ⟨z0, z1, z2, z3, _⟩ := HN2.out.res)
      | (go_at_call 38; (with_reducible refine (cawake_any _).mono ?_); rintro e v9 ⟨rfl, hb⟩; have HZ := Lib.hid (HN2.out.bel.trans (hb.mono HN2.out.bel.size)); clear hb))
      go_ret
      exact ⟨rfl, HZ.out⟩
    · have hg : IntKind.i64.wrap ((C'.n : Int) - (C.n : Int)) = -1 := (IntWalk.i64_in _ (by omega)).trans (by omega)
      clear hsh
      go_wp2_with (first
      | (go_at_call 27; (with_reducible refine (rcount_any _ _ _ _ _ HM.out).mono ?_); rw [HKK.out]; rintro e v1 ⟨rfl, hb⟩; have HN1 := Lib.hid (HN.out.below hb); have HS1 := Lib.hid (HS.out.below hb); have HM1 := Lib.hid (HM.out.below hb); have HT1 := Lib.hid (HT.out.below hb); clear hb x0 x1 x2 x3 x4 y0 y1 y2 y3 y4 z0 z1 z2 z3)
      | (go_at_call 27; (with_reducible refine (rcount_any _ _ _ _ _ HS1.out).mono ?_); rw [HKK.out]; rintro e v2 ⟨rfl, hb⟩; have HN2 := Lib.hid (HN1.out.below hb); have HS2 := Lib.hid (HS1.out.below hb); have HM2 := Lib.hid (HM1.out.below hb); have HT2 := Lib.hid (HT1.out.below hb); clear hb; obtain ⟨x0, x1, x2, x3, x4, _⟩ := HN2.out.chan; obtain ⟨y0, y1, y2, y3, y4, _⟩ := HN2.out.got; obtain ⟨z0, z1, z2, z3, _⟩ := HN2.out.res)
      | (go_at_call 38; (with_reducible refine (cawake_any _).mono ?_); rintro e v9 ⟨rfl, hb⟩; have HZ := Lib.hid (HN2.out.bel.trans (hb.mono HN2.out.bel.size)); clear hb))
      go_ret
      exact ⟨rfl, HZ.out⟩
  · obtain ⟨K, hKK⟩ : ∃ K, countW V n = K := ⟨_, rfl⟩
    have hK := countW_le V n
    have hcw := countW_off ht hf.isOn
    have hoff := zeroAt_off (V := V) (i := t)
    obtain ⟨K', hKK'⟩ : ∃ K', countW (zeroAt V (fun _ => (t : Int)) 1) n = K' := ⟨_, rfl⟩
    rw [hKK] at hK hcw
    rw [hKK'] at hcw
    have HKK := Lib.hid hKK
    have HKK' := Lib.hid hKK'
    have HF := Lib.hid hf
    have HQ := Lib.hid (And.intro q0 (And.intro q1 (And.intro q2 q3)))
    have HOFF := Lib.hid hoff
    have kw : IntKind.i64.wrap ((K : Int) - 1) = (K' : Int) := (IntWalk.i64_in _ (by omega)).trans (by omega)
    have hg : IntKind.i64.wrap ((C'.n : Int) - (C.n : Int)) = 0 := (IntWalk.i64_in _ (by omega)).trans (by omega)
    have i0 : (0 : Int) ≤ (t : Int) := by omega
    have i1 : (t : Int) < (n : Int) := by omega
    clear HI hKK hKK' hf q0 q1 q2 q3 hcw hoff hcn
    revert HM HKK' HOFF
    generalize zeroAt V (fun _ => (t : Int)) 1 = V'
    intro HM HKK' HOFF
    obtain ⟨tb, to, rfl, _⟩ := HT.out.get Nat.zero_lt_one
    obtain ⟨lb, lo, rfl, _⟩ := HS.out.get ht
    obtain ⟨rb, ro, rfl, _⟩ := HM.out.get ht
    rcases hdd with ⟨rfl, rfl⟩ | ⟨rfl, rfl⟩
    · go_upto_region 9 with (first
            | (go_at_call 27; (with_reducible refine (rcount_any _ _ _ _ _ HM.out).mono ?_); rw [HKK'.out]; rintro e v1 ⟨rfl, hb⟩; have HN1 := Lib.hid (HN.out.below hb); have HS1 := Lib.hid (HS.out.below hb); have HM1 := Lib.hid (HM.out.below hb); have HT1 := Lib.hid (HT.out.below hb); clear hb x0 x1 x2 x3 x4 y0 y1 y2 y3 y4 z0 z1 z2 z3)
            | (go_at_call 27; (with_reducible refine (rcount_any _ _ _ _ _ HS1.out).mono ?_); rw [HKK.out]; rintro e v2 ⟨rfl, hb⟩; have HN2 := Lib.hid (HN1.out.below hb); have HS2 := Lib.hid (HS1.out.below hb); have HM2 := Lib.hid (HM1.out.below hb); have HT2 := Lib.hid (HT1.out.below hb); clear hb; obtain ⟨x0, x1, x2, x3, x4, _⟩ := HN2.out.chan; obtain ⟨y0, y1, y2, y3, y4, _⟩ := HN2.out.got; obtain ⟨z0, z1, z2, z3, _⟩ := HN2.out.res))
      go_upto_region 10 with (go_at_call 22; go_loud ((with_reducible refine (rfirst_any _ _ _ _ _ _ _ HS2.out).mono ?_); rintro e v3 ⟨⟨t', wh', ok, rfl, hf⟩, hb⟩; obtain ⟨rfl, rfl, rfl⟩ := first_unique HF.out hf; have HN3 := Lib.hid (HN2.out.below hb); have HS3 := Lib.hid (HS2.out.below hb); have HM3 := Lib.hid (HM2.out.below hb); have HT3 := Lib.hid (HT2.out.below hb); clear hf hb x0 x1 x2 x3 x4 y0 y1 y2 y3 y4 z0 z1 z2 z3))
      obtain ⟨tlt, t0, t1, t2, t3, t4⟩ := told5 HT3.out
      rw [HQ.out.1] at t0
      rw [HQ.out.2.1] at t1
      rw [HQ.out.2.2.1] at t2
      rw [HQ.out.2.2.2] at t3
      obtain ⟨llt, _, l2⟩ := HS3.out.two ht
      obtain ⟨rlt, r0, _⟩ := HM3.out.two ht
      rw [HOFF.out] at r0
      have hbel := HN3.out.bel
      go_upto_region 11 with (fail)
      have hAA : Below v3.heap.size v3 (v3.alloc (.cells #[.int .i64 (t : Int), .int .i64 (V t).sq, .int .i64 (wh : Int), .int .i64 0, .int .i64 (T 0 4)] 64)) := (Below.refl _ _).alloc (Nat.le_refl _) _
      refine abstract_code (fun u => (u.cell? ⟨v3.heap.size, 0, none⟩ = some (.int .i64 (t : Int)) ∧ u.cell? ⟨v3.heap.size, 1, none⟩ = some (.int .i64 (V t).sq) ∧ u.cell? ⟨v3.heap.size, 2, none⟩ = some (.int .i64 (wh : Int)) ∧ u.cell? ⟨v3.heap.size, 3, none⟩ = some (.int .i64 0) ∧ u.cell? ⟨lb, lo + t * 4 + 2, none⟩ = some (.int .i64 (V t).sq) ∧ u.cell? ⟨rb, ro + t * 4, none⟩ = some (.bool false)) ∧ (v3.heap.size < u.heap.size ∧ lb < u.heap.size ∧ rb < u.heap.size) ∧ Below W.heap.size W u)
        ⟨⟨by simp, by simp, by simp, by simp, ((bcell hAA).1 _ _ llt).trans l2, ((bcell hAA).1 _ _ rlt).trans r0⟩, ⟨by simp, Nat.lt_of_lt_of_le llt hAA.size, Nat.lt_of_lt_of_le rlt hAA.size⟩, hbel.trans (hAA.mono hbel.size)⟩ ?_
      generalize v3.heap.size = Q
      have e1 : ((t : Int) == (t : Int)) = true := by simp
      have e2 : ((wh : Int) == (wh : Int)) = true := by simp
      have e3 : ((V t).sq == (V t).sq) = true := by simp
      clear hAA hbel HN3 HS3 HM3 HT3 HF HQ HOFF t0 t1 t2 t3 t4 tlt llt rlt l2 r0
      rintro u' ⟨⟨q0, q1, q2, q3, l2, r0⟩, ⟨s0, s1, s2⟩, hb⟩
      have HBB := Lib.hid hb
      clear hb
      go_region_held3 (fun w => w.cell? ⟨Q, 0, none⟩ = some (.int .i64 (t : Int)) ∧ w.cell? ⟨Q, 1, none⟩ = some (.int .i64 (V t).sq) ∧ w.cell? ⟨Q, 2, none⟩ = some (.int .i64 (wh : Int)) ∧ w.cell? ⟨Q, 3, none⟩ = some (.int .i64 0) ∧ w.cell? ⟨lb, lo + t * 4 + 2, none⟩ = some (.int .i64 (V t).sq) ∧ w.cell? ⟨rb, ro + t * 4, none⟩ = some (.bool false))
        (first | with_reducible exact ⟨q0, q1, q2, q3, l2, r0⟩ | (go_simp; done) | go_keep)
        ((go_at_call 38; (with_reducible refine (cawake_any _).mono ?_); rintro e v9 ⟨rfl, hb⟩; have hb9 : Below u'.heap.size u' v9 := (by first | with_reducible exact hb | exact (Below.drew (Below.refl _ _)).trans (hb.mono (Nat.le_refl _))); have HZ := Lib.hid (HBB.out.trans (hb9.mono HBB.out.size)); have q0 := ((bcell hb9).1 _ _ s0).trans q0; have q1 := ((bcell hb9).1 _ _ s0).trans q1; have q2 := ((bcell hb9).1 _ _ s0).trans q2; have q3 := ((bcell hb9).1 _ _ s0).trans q3; have l2 := ((bcell hb9).1 _ _ s1).trans l2; have r0 := ((bcell hb9).1 _ _ s2).trans r0; clear hb hb9))
      all_goals go_wp2
      all_goals go_ret
      all_goals exact ⟨rfl, HZ.out⟩
    · go_upto_region 9 with (first
            | (go_at_call 27; (with_reducible refine (rcount_any _ _ _ _ _ HM.out).mono ?_); rw [HKK'.out]; rintro e v1 ⟨rfl, hb⟩; have HN1 := Lib.hid (HN.out.below hb); have HS1 := Lib.hid (HS.out.below hb); have HM1 := Lib.hid (HM.out.below hb); have HT1 := Lib.hid (HT.out.below hb); clear hb x0 x1 x2 x3 x4 y0 y1 y2 y3 y4 z0 z1 z2 z3)
            | (go_at_call 27; (with_reducible refine (rcount_any _ _ _ _ _ HS1.out).mono ?_); rw [HKK.out]; rintro e v2 ⟨rfl, hb⟩; have HN2 := Lib.hid (HN1.out.below hb); have HS2 := Lib.hid (HS1.out.below hb); have HM2 := Lib.hid (HM1.out.below hb); have HT2 := Lib.hid (HT1.out.below hb); clear hb; obtain ⟨x0, x1, x2, x3, x4, _⟩ := HN2.out.chan; obtain ⟨y0, y1, y2, y3, y4, _⟩ := HN2.out.got; obtain ⟨z0, z1, z2, z3, _⟩ := HN2.out.res))
      go_upto_region 10 with (go_at_call 22; go_loud ((with_reducible refine (rfirst_any _ _ _ _ _ _ _ HS2.out).mono ?_); rintro e v3 ⟨⟨t', wh', ok, rfl, hf⟩, hb⟩; obtain ⟨rfl, rfl, rfl⟩ := first_unique HF.out hf; have HN3 := Lib.hid (HN2.out.below hb); have HS3 := Lib.hid (HS2.out.below hb); have HM3 := Lib.hid (HM2.out.below hb); have HT3 := Lib.hid (HT2.out.below hb); clear hf hb x0 x1 x2 x3 x4 y0 y1 y2 y3 y4 z0 z1 z2 z3))
      obtain ⟨tlt, t0, t1, t2, t3, t4⟩ := told5 HT3.out
      rw [HQ.out.1] at t0
      rw [HQ.out.2.1] at t1
      rw [HQ.out.2.2.1] at t2
      rw [HQ.out.2.2.2] at t3
      obtain ⟨llt, _, l2⟩ := HS3.out.two ht
      obtain ⟨rlt, r0, _⟩ := HM3.out.two ht
      rw [HOFF.out] at r0
      have hbel := HN3.out.bel
      go_upto_region 11 with (fail)
      have hAA : Below v3.heap.size v3 (v3.alloc (.cells #[.int .i64 (t : Int), .int .i64 (V t).sq, .int .i64 (wh : Int), .int .i64 0, .int .i64 (T 0 4)] 64)) := (Below.refl _ _).alloc (Nat.le_refl _) _
      refine abstract_code (fun u => (u.cell? ⟨v3.heap.size, 0, none⟩ = some (.int .i64 (t : Int)) ∧ u.cell? ⟨v3.heap.size, 1, none⟩ = some (.int .i64 (V t).sq) ∧ u.cell? ⟨v3.heap.size, 2, none⟩ = some (.int .i64 (wh : Int)) ∧ u.cell? ⟨v3.heap.size, 3, none⟩ = some (.int .i64 0) ∧ u.cell? ⟨lb, lo + t * 4 + 2, none⟩ = some (.int .i64 (V t).sq) ∧ u.cell? ⟨rb, ro + t * 4, none⟩ = some (.bool false)) ∧ (v3.heap.size < u.heap.size ∧ lb < u.heap.size ∧ rb < u.heap.size) ∧ Below W.heap.size W u)
        ⟨⟨by simp, by simp, by simp, by simp, ((bcell hAA).1 _ _ llt).trans l2, ((bcell hAA).1 _ _ rlt).trans r0⟩, ⟨by simp, Nat.lt_of_lt_of_le llt hAA.size, Nat.lt_of_lt_of_le rlt hAA.size⟩, hbel.trans (hAA.mono hbel.size)⟩ ?_
      generalize v3.heap.size = Q
      have e1 : ((t : Int) == (t : Int)) = true := by simp
      have e2 : ((wh : Int) == (wh : Int)) = true := by simp
      have e3 : ((V t).sq == (V t).sq) = true := by simp
      clear hAA hbel HN3 HS3 HM3 HT3 HF HQ HOFF t0 t1 t2 t3 t4 tlt llt rlt l2 r0
      rintro u' ⟨⟨q0, q1, q2, q3, l2, r0⟩, ⟨s0, s1, s2⟩, hb⟩
      have HBB := Lib.hid hb
      clear hb
      go_region_held3 (fun w => w.cell? ⟨Q, 0, none⟩ = some (.int .i64 (t : Int)) ∧ w.cell? ⟨Q, 1, none⟩ = some (.int .i64 (V t).sq) ∧ w.cell? ⟨Q, 2, none⟩ = some (.int .i64 (wh : Int)) ∧ w.cell? ⟨Q, 3, none⟩ = some (.int .i64 0) ∧ w.cell? ⟨lb, lo + t * 4 + 2, none⟩ = some (.int .i64 (V t).sq) ∧ w.cell? ⟨rb, ro + t * 4, none⟩ = some (.bool false))
        (first | with_reducible exact ⟨q0, q1, q2, q3, l2, r0⟩ | (go_simp; done) | go_keep)
        ((go_at_call 38; (with_reducible refine (cawake_any _).mono ?_); rintro e v9 ⟨rfl, hb⟩; have hb9 : Below u'.heap.size u' v9 := (by first | with_reducible exact hb | exact (Below.drew (Below.refl _ _)).trans (hb.mono (Nat.le_refl _))); have HZ := Lib.hid (HBB.out.trans (hb9.mono HBB.out.size)); have q0 := ((bcell hb9).1 _ _ s0).trans q0; have q1 := ((bcell hb9).1 _ _ s0).trans q1; have q2 := ((bcell hb9).1 _ _ s0).trans q2; have q3 := ((bcell hb9).1 _ _ s0).trans q3; have l2 := ((bcell hb9).1 _ _ s1).trans l2; have r0 := ((bcell hb9).1 _ _ s2).trans r0; clear hb hb9))
      all_goals go_wp2
      all_goals go_ret
      all_goals exact ⟨rfl, HZ.out⟩
end Go.Proofs.Ytihpjfhibhpciaa
