/- What a call that waited is told by a close; the contract of end for it, over the seat's program. -/
import Derived.Test.YtihpjfhibhpciaaChF
namespace Go.Proofs.Ytihpjfhibhpciaa
open Go.ChangeShapes Go.WideShapes Go.ChangeAt Go.RowKit Go.Joins

set_option maxHeartbeats 3200000 in
theorem spred_any (a b c hd : Int) (q : Nat) (w : World) (hq : NumAt w q hd) : Calls Try.prog 77 #[.agg #[.int .i64 a, .int .i64 b, .int .i64 c], .pointer (some ⟨q, 0, none⟩)] w fun e w' => (∃ y, e = .returned (.bool y) ∧ (y = true ↔ b = hd)) ∧ Below w.heap.size w w' := by
  have HA := Lib.hid ((Below.refl w.heap.size w).alloc (Nat.le_refl _) (.cells #[.int .i64 a, .int .i64 b, .int .i64 c] 41))
  have hq1 := hq.1
  have nq : q ≠ w.heap.size := by omega
  have c1 := hq.2
  clear hq
  by_cases e1 : b = hd
  · have b1 : (b == hd) = true := by simpa using e1
    have HR := Lib.hid e1
    clear e1
    go_enter Try.func77, Try.ntmps77
    go_wp2
    go_ret
    exact ⟨⟨true, by simp, fun _ => HR.out, fun _ => rfl⟩, HA.out⟩
  · have b1 : (b == hd) = false := by simpa using e1
    have HR := Lib.hid e1
    clear e1
    go_enter Try.func77, Try.ntmps77
    go_wp2
    go_ret
    exact ⟨⟨false, by simp, (fun h => absurd h (by decide)), fun h => absurd h HR.out⟩, HA.out⟩

set_option maxRecDepth 100000 in
set_option maxHeartbeats 3200000 in
theorem sindex_any (a : Option Addr) (m cap : Nat) (f : Nat → Nat → Int) (hd : Int) (q : Nat) (w : World) (h : RowS 3 w a m cap f) (hq : NumAt w q hd) :
    Calls Try.prog 59 #[.slice a m cap, .func (.func 77) #[] #[.pointer (some ⟨q, 0, none⟩)]] w fun e w' => (∃ r, e = .returned (.int .i64 r) ∧ IsIdxH f m hd r) ∧ Below w.heap.size w w' := by
  have hm := h.1
  have HC := Lib.hid h
  have HQ := Lib.hid hq
  clear h hq
  go_enter Try.func59, Try.ntmps59
  go_wp2
  go_loopw [8] (fun i wr => ∃ k : Nat, k ≤ m ∧ i = .int .i64 k ∧ Below w.heap.size w wr ∧ ∀ j, j < k → ¬ HitH f hd j) (fun i _ => m - (intOf i).toNat)
  case atStart => exact ⟨0, Nat.zero_le _, rfl, Below.refl _ _, fun j hj => absurd hj (by omega)⟩
  case round =>
    obtain ⟨k, hk, rfl, hb, hno⟩ := hrel
    have HB := Lib.hid hb
    have HR := Lib.hid (HC.out.below hb)
    have HQ' := Lib.hid (HQ.out.below hb)
    have HN := Lib.hid hno
    clear hb hno
    by_cases hlt : k < m
    · obtain ⟨b, off, rfl, zb, hc⟩ := HR.out.get hlt
      have x0 : wr.cell? ⟨b, off + k * 3, none⟩ = some (.int .i64 (f k 0)) := hc k 0 hlt (by omega)
      have x1 : wr.cell? ⟨b, off + k * 3 + 1, none⟩ = some (.int .i64 (f k 1)) := hc k 1 hlt (by omega)
      have x2 : wr.cell? ⟨b, off + k * 3 + 2, none⟩ = some (.int .i64 (f k 2)) := hc k 2 hlt (by omega)
      have i0 : (0 : Int) ≤ (k : Int) := by omega
      have i1 : (k : Int) < (m : Int) := by omega
      have HY := Lib.hid (spred_any (f k 0) (f k 1) (f k 2) hd q wr HQ'.out)
      clear hc
      by_cases e : HitH f hd k
      · go_wp2_with (go_at_call 77; go_loud ((with_reducible refine HY.out.mono ?_); rintro e w1 ⟨⟨y, rfl, hy⟩, hb1⟩; obtain rfl : y = true := hy.2 e; clear hy; have HB1 := Lib.hid (HB.out.trans (hb1.mono HB.out.size)); clear hb1 x0 x1 x2))
        go_ret
        exact ⟨⟨k, rfl, .inr ⟨k, hlt, rfl, e, HN.out⟩⟩, HB1.out⟩
      · go_wp2_with (go_at_call 77; go_loud ((with_reducible refine HY.out.mono ?_); rintro e' w1 ⟨⟨y, rfl, hy⟩, hb1⟩; obtain rfl : y = false := (by cases y with | false => rfl | true => exact absurd (hy.1 rfl) e); clear hy; have HB1 := Lib.hid (HB.out.trans (hb1.mono HB.out.size)); clear hb1 x0 x1 x2))
        go_roundw
        case rel =>
          refine ⟨k + 1, by omega, by go_num, HB1.out, fun j hj => ?_⟩
          rcases Nat.lt_or_ge j k with h | h
          · exact HN.out j h
          · obtain rfl : j = k := by omega
            exact e
        case measure => simp [intOf]; omega
    · obtain rfl : k = m := by omega
      go_wp2
      go_ret
      exact ⟨⟨-1, rfl, .inl ⟨rfl, HN.out⟩⟩, HB.out⟩

theorem idx_ex (f : Nat → Nat → Int) (hd : Int) : ∀ m, ∃ r, IsIdxH f m hd r
  | 0 => ⟨-1, .inl ⟨rfl, fun i hi => absurd hi (Nat.not_lt_zero _)⟩⟩
  | m + 1 => by
    obtain ⟨r, h⟩ := idx_ex f hd m
    rcases h with ⟨rfl, h⟩ | ⟨i, hi, rfl, hh, hl⟩
    · by_cases e : HitH f hd m
      · exact ⟨m, .inr ⟨m, by omega, rfl, e, fun j hj => h j hj⟩⟩
      · refine ⟨-1, .inl ⟨rfl, fun i hi => ?_⟩⟩
        rcases Nat.lt_or_ge i m with h1 | h1
        · exact h i h1
        · have : i = m := by omega
          subst this
          exact e
    · exact ⟨i, .inr ⟨i, by omega, rfl, hh, hl⟩⟩
theorem idx_unique {f : Nat → Nat → Int} {m : Nat} {hd r r' : Int} (h : IsIdxH f m hd r) (h' : IsIdxH f m hd r') : r' = r := by
  rcases h with ⟨rfl, h⟩ | ⟨i, hi, rfl, hh, hl⟩
  · rcases h' with ⟨rfl, _⟩ | ⟨i', hi', _, hh', _⟩
    · rfl
    · exact absurd hh' (h i' hi')
  · rcases h' with ⟨_, h'⟩ | ⟨i', hi', rfl, hh', hl'⟩
    · exact absurd hh (h' i hi)
    · rcases Nat.lt_trichotomy i' i with e | e | e
      · exact absurd hh' (hl i' e)
      · rw [e]
      · exact absurd hh (hl' i e)
/-- Which of its cases is by a handle. -/
noncomputable def idxH (U : WV) (hd : Int) : Int := Classical.choose (idx_ex U.c hd U.m)
theorem idxH_is (U : WV) (hd : Int) : IsIdxH U.c U.m hd (idxH U hd) := Classical.choose_spec (idx_ex U.c hd U.m)
set_option maxRecDepth 100000 in
set_option maxHeartbeats 3200000 in
theorem shut_came (U : WV) (ca : Option Addr) (cc : Nat) (hd : Int) (p : Nat) (w : World) (hp : NumAt w p hd) (hr : RowS 3 w ca U.m cc U.c) : Calls Try.prog 76 #[.agg #[.bool U.on, .int .i64 U.tk, .int .i64 U.sq, .slice ca U.m cc], .pointer (some ⟨p, 0, none⟩)] w fun e w' => e = .returned (.agg #[.int .i64 0, .int .i64 (idxH U hd), .int .i64 9, .int .i64 0]) ∧ Below w.heap.size w w' := by
  have HB := Lib.hid (((Below.refl w.heap.size w).alloc (Nat.le_refl _) (.cells #[.bool U.on, .int .i64 U.tk, .int .i64 U.sq, .slice ca U.m cc] 25)).alloc (by simp) (.cells #[.int .i64 0, .int .i64 0, .int .i64 0, .int .i64 0] 48))
  have HZ := Lib.hid (Box4.new (a := .int .i64 0) (b := .int .i64 0) (c := .int .i64 0) (d := .int .i64 0) (w.alloc (.cells #[.bool U.on, .int .i64 U.tk, .int .i64 U.sq, .slice ca U.m cc] 25)) 48)
  have q3 : ((w.alloc (.cells #[.bool U.on, .int .i64 U.tk, .int .i64 U.sq, .slice ca U.m cc] 25)).alloc (.cells #[.int .i64 0, .int .i64 0, .int .i64 0, .int .i64 0] 48)).cell? ⟨w.heap.size, 3, none⟩ = some (.slice ca U.m cc) := by simp
  have zs : w.heap.size + 1 < ((w.alloc (.cells #[.bool U.on, .int .i64 U.tk, .int .i64 U.sq, .slice ca U.m cc] 25)).alloc (.cells #[.int .i64 0, .int .i64 0, .int .i64 0, .int .i64 0] 48)).heap.size := by simp
  have HI := Lib.hid (sindex_any ca U.m cc U.c hd p _ (hr.below HB.out) (hp.below HB.out))
  rw [World.size_alloc] at HZ
  have hp1 := hp.1
  clear hp hr
  go_enter Try.func76, Try.ntmps76
  go_upto_region 1 with (fail)
  revert HB HZ q3 zs HI
  generalize (w.alloc (.cells #[.bool U.on, .int .i64 U.tk, .int .i64 U.sq, .slice ca U.m cc] 25)).alloc (.cells #[.int .i64 0, .int .i64 0, .int .i64 0, .int .i64 0] 48) = u
  intro HB HZ q3 zs HI
  go_upto_region 2 with (go_at_call 59; go_loud ((with_reducible refine HI.out.mono ?_); rintro e w1 ⟨⟨r, rfl, hi⟩, hb⟩; obtain rfl := idx_unique (idxH_is U hd) hi; have HB1 := Lib.hid (HB.out.trans (hb.mono (by omega))); have hz := HZ.out.below zs hb; clear hb hi q3; obtain ⟨z0, z1, z2, z3, zf⟩ := hz; have g0 := zf 0; have g1 := zf 1; have g2 := zf 2; have g3 := zf 3; clear zf))
  go_wp2
  refine bodyPost_ret (v := .agg #[.int .i64 0, .int .i64 (idxH U hd), .int .i64 9, .int .i64 0]) (by simp only [results, Try.results76]; go_simp) rfl ⟨rfl, below_store4 HB1.out (by omega)⟩
set_option maxRecDepth 100000 in
set_option maxHeartbeats 6400000 in
theorem end_shut (p : Nat) (a : Option Addr) (n cap : Nat) (V : Nat → WV) (fa : Option Addr) (m fc : Nat) (f : Nat → Int) (K : Nat → Int) (cd val : Int) (w : World) (h : WaitsAt w a n cap V) (hf : RowAt .i64 w fa m fc f) (hfi : ∀ j, j < m → ∃ i : Nat, i < n ∧ f j = (i : Int)) (hmn : m ≤ n)
    (hcame : ∀ (i : Nat) (W : World) (ca : Option Addr) (cc : Nat), (∃ j, j < m ∧ f j = (i : Int)) → Below w.heap.size w W → RowS 3 W ca (V i).m cc (V i).c → Calls Try.prog 76 #[.agg #[.bool (V i).on, .int .i64 (V i).tk, .int .i64 (V i).sq, .slice ca (V i).m cc], .pointer (some ⟨p, 0, none⟩)] W fun e w' => e = .returned (.agg #[.int .i64 0, .int .i64 (K i), .int .i64 cd, .int .i64 val]) ∧ Below W.heap.size W w') :
    Calls Try.prog 75 #[.slice a n cap, .slice fa m fc, .func (.func 76) #[] #[.pointer (some ⟨p, 0, none⟩)]] w (EndRet V n f m K cd val w) := by
  have hn := h.1
  have HS := Lib.hid h
  have HF := Lib.hid hf
  have HFI := Lib.hid hfi
  have HK := Lib.hid hcame
  have HC := Lib.hid (copy_any a n cap V w h)
  obtain ⟨ti, hti, htz, htz1, htz2⟩ := info_parts Try.info_told
  clear h hf hfi hcame hti htz htz1 htz2
  go_enter Try.func75, Try.ntmps75
  go_upto_region 2 with (go_at_call 29; go_loud ((with_reducible refine HC.out.mono ?_); rintro e w1 ⟨v1, A, C, rfl, ho, hc, hb⟩; have HO := Lib.hid ho; have HCS := Lib.hid hc; have HB1 := Lib.hid hb; obtain ⟨da, dc, rfl⟩ := ho.form; clear ho hc hb))
  go_wp2
  go_loopw [9, 17] (fun tv iv wr => ∃ k : Nat, k ≤ m ∧ iv = .int .i64 k ∧ wr.ownsRow w1.heap.size 64 5 tv k (flatL 5 (toldT V f K cd val) k) ∧ Ends w w1 wr da dc n V f k A C) (fun _ iv _ => m - (intOf iv).toNat)
  case atStart => exact ⟨0, Nat.zero_le _, rfl, by rw [flatL_zero]; exact World.ownsRow_nil _ _ _ _, Ends.start HB1.out HO.out⟩
  case round =>
    obtain ⟨k, hk, rfl, ht, hx⟩ := hrel
    obtain ⟨ta, tc, rfl⟩ := own_form ht
    have HT := Lib.hid ht
    have HX := Lib.hid hx
    have HR := Lib.hid (HS.out.below hx.bel)
    have HFR := Lib.hid (HF.out.below hx.bel)
    clear ht hx
    by_cases hlt : k < m
    · obtain ⟨i, hin, hfk⟩ := HFI.out k hlt
      obtain ⟨gd, hgd⟩ := HX.out.some (by omega)
      obtain ⟨rfl, hg1, hg2⟩ := hgd
      obtain ⟨fb, fo, rfl, _, hfc⟩ := HFR.out.get hlt
      have z0 := hfc k hlt
      rw [hfk] at z0
      obtain ⟨b, off, rfl, zb, hc⟩ := HR.out.get hin
      obtain ⟨ca, cc, x0, x1, x2, x3, hr⟩ := hc i hin
      have HKI := Lib.hid (HK.out i wr ca cc ⟨k, hlt, hfk⟩ HX.out.bel hr)
      have i0 : (0 : Int) ≤ (i : Int) := by omega
      have i1 : (i : Int) < (n : Int) := by omega
      have j0 : (0 : Int) ≤ (k : Int) := by omega
      have j1 : (k : Int) < (m : Int) := by omega
      have HFK := Lib.hid hfk
      have hgr := HX.out.size
      have hgt := HT.out.lt
      clear hfc hc hr hfk
      go_upto_region 8 with (go_at_call 76; go_loud ((with_reducible refine HKI.out.mono ?_); rintro e w2 ⟨rfl, hb2⟩; have HB2 := Lib.hid hb2; have x2 := ((bcell hb2).1 _ _ zb).trans x2; have zb := Nat.lt_of_lt_of_le zb hb2.size; clear hb2 x0 x1 x3 z0))
      have HT2 := Lib.hid (own_below HT.out HB2.out)
      have h2s := HB2.out.size
      go_upto_region 9 with (at_builtin; go_loud (refine app_cells w1.heap.size 64 49 rfl _ _ rfl Try.underlying49 _ 5 40 Try.info_told rfl (by decide) (.slice ta k tc) k (flatL 5 (toldT V f K cd val) k) #[.int .i64 (i : Int), .int .i64 (V i).sq, .int .i64 (K i), .int .i64 cd, .int .i64 val] rfl (by simp [Value.oneCell']) rfl (HT2.out.alloc _) (w2.heap.size + 1) (by simp) rfl (by omega) (by unfold maxLen; omega) (by simp; omega) ?_; intro gg gc w3 ho3 hg3 _ _; have HT3 := Lib.hid ho3; have HG3 := Lib.hid ((below_grownBy (HB2.out.alloc h2s _) (Value.slice ta k tc).ownBlock).trans hg3); clear ho3 hg3))
      have HX3 := Lib.hid (HX.out.grown HG3.out (fun q hq => (hgt q hq).1) (by omega))
      obtain ⟨hs3, hf3⟩ := HX3.out.soft hin
      obtain ⟨u0, e0⟩ := hs3 0 (by omega)
      obtain ⟨u1, e1⟩ := hs3 1 (by omega)
      obtain ⟨u2, e2⟩ := hs3 2 (by omega)
      obtain ⟨u3, e3⟩ := hs3 3 (by omega)
      rw [Nat.add_zero] at e0
      have f0 := hf3 (i * 4)
      have f1 := hf3 (i * 4 + 1)
      have f2 := hf3 (i * 4 + 2)
      have f3 := hf3 (i * 4 + 3)
      clear hs3 hf3
      go_wp2
      go_roundw
      case rel => exact ⟨k + 1, by omega, by go_num, (by rw [← told_row HFK.out]; exact ownsRow_setCell_below (ownsRow_setCell_below (ownsRow_setCell_below (ownsRow_setCell_below HT3.out hg2 _) hg2 _) hg2 _) hg2 _), HX3.out.store hin HFK.out⟩
      case measure => simp [intOf]; omega
    · obtain rfl : k = m := by omega
      have HRW := Lib.hid (told_far (by omega) HT.out HX.out.up)
      go_wp2
      refine bodyPost_ret (v := .tuple #[.slice da n dc, .slice ta k tc]) (by simp only [results, Try.results75]; go_simp) rfl ⟨da, dc, ta, tc, rfl, HX.out.done hn HCS.out, HRW.out, HX.out.bel⟩
end Go.Proofs.Ytihpjfhibhpciaa
