/- The contracts of New and of Apply of a stack, over the seat's program. -/
import Derived.Test.YtlgnkkjbbaaokaaLfT
namespace Go.Proofs.Ytlgnkkjbbaaokaa
open Go.ChangeShapes Go.WideShapes Go.ChangeAt Go.RowKit Go.Joins

theorem note_n (C : CV) (t : Int) (r : Nat → Int) : (C.note t r).n = C.n ∧ (C.note t r).f = C.f ∧ (C.note t r).m = C.m ∧ (C.note t r).cap = C.cap := by
  unfold CV.note
  split <;> exact ⟨rfl, rfl, rfl, rfl⟩
theorem note_g {C D : CV} (t : Int) {r s : Nat → Int} (hm : C.m = D.m) (hg : C.g = D.g) (hr : r = s) : (C.note t r).g = (D.note t s).g := by
  subst hr
  unfold CV.note
  rw [hm]
  split
  · dsimp only
    rw [hg]
  · exact hg
/-- Cells that are the same as far as they go. -/
def CV.like (C D : CV) : Prop := C.cap = D.cap ∧ C.n = D.n ∧ C.m = D.m ∧ (∀ i, i < C.n → C.f i = D.f i) ∧ ∀ i j, i < C.m → j < 4 → C.g i j = D.g i j
theorem RetNew.like {C D : CV} {w w' : World} {e : Ending} (h : RetNew C w e w') (hl : C.like D) : RetNew D w e w' := by
  obtain ⟨h1, h2, h3, hf, hg⟩ := hl
  obtain ⟨v, rfl, ⟨la, lc, da, dc, rfl, hl, hd, hq⟩, hb⟩ := h
  refine ⟨_, rfl, ⟨la, lc, da, dc, by rw [h1, h2, h3], ?_, ?_, ?_⟩, hb⟩
  · rw [← h2]; exact hl.same hf
  · rw [← h3]; exact hd.same hg
  · rw [← h3]; exact hq
theorem turn_like (C : CV) (t seq x : Int) : (CV.turn (C.turn.apply false t seq 9 x)).like (C.apply true t seq 9 x) := by
  have hc : C.turn.code 9 = C.code 9 := rfl
  have ht : C.turn.told false 9 = C.told true 9 := by
    unfold CV.told CV.turn
    by_cases hn : C.n = 0 <;> simp [hn]
  obtain ⟨n1, n2, n3, n4⟩ := note_n (C.turn.after false 9 x) t (res4 seq (C.turn.code 9) (C.turn.told false 9))
  obtain ⟨m1, m2, m3, m4⟩ := note_n (C.after true 9 x) t (res4 seq (C.code 9) (C.told true 9))
  obtain ⟨a1, a2, a3⟩ := after_m C.turn false 9 x
  obtain ⟨b1, b2, b3⟩ := after_m C true 9 x
  have hg : ((C.turn.after false 9 x).note t (res4 seq (C.turn.code 9) (C.turn.told false 9))).g = ((C.after true 9 x).note t (res4 seq (C.code 9) (C.told true 9))).g :=
    note_g t (by rw [a1, b1]; rfl) (by rw [a2, b2]; rfl) (by rw [hc, ht])
  have hN : (C.turn.after false 9 x).n = (C.after true 9 x).n := by
    unfold CV.after CV.turn
    by_cases hn : C.n = 0 <;> simp [hn]
  refine ⟨?_, ?_, ?_, fun i hi => ?_, fun i j _ _ => ?_⟩
  · show ((C.turn.after false 9 x).note t _).cap = _
    unfold CV.apply
    rw [n4, m4, a3, b3]
    rfl
  · show ((C.turn.after false 9 x).note t _).n = _
    unfold CV.apply
    rw [n1, m1, hN]
  · show ((C.turn.after false 9 x).note t _).m = _
    unfold CV.apply
    rw [n3, m3, a1, b1]
    rfl
  · have hi' : i < (C.after true 9 x).n := by
      have : i < ((C.turn.after false 9 x).note t (res4 seq (C.turn.code 9) (C.turn.told false 9))).n := hi
      rw [n1, hN] at this
      exact this
    show ((C.turn.after false 9 x).note t _).f (((C.turn.after false 9 x).note t _).n - 1 - i) = ((C.after true 9 x).note t _).f i
    rw [n1, n2, m2, hN]
    unfold CV.after CV.turn at *
    by_cases hn : C.n = 0
    · simp [hn] at hi'
    · simp [hn] at hi' ⊢
      congr 1
      omega
  · show ((C.turn.after false 9 x).note t _).g i j = ((C.after true 9 x).note t _).g i j
    rw [hg]
theorem same_apply (C : CV) (t seq k x : Int) (hk : k ≠ 9) : C.apply false t seq k x = C.apply true t seq k x := by
  unfold CV.apply CV.after CV.told
  simp [hk]

theorem apply_lit9 {C : CV} {t seq ar x : Int} {df : Bool} {ka : Option Addr} {kn kc : Nat} {W : World} {v : Value} (h : CellsAt W v C.turn) (hn : (C.n + 1) * 8 ≤ 140737488355328) : Calls Try.prog 17 #[v, .int .i64 t, .int .i64 seq, .agg #[.int .i64 9, .int .i64 ar, .int .i64 x, .bool df, .slice ka kn kc]] W (RetAt (C.turn.apply false t seq 9 x) W) := apply_any v C.turn t seq 9 ar x df ka kn kc W h hn
/-- Cells in new memory, behind stores into an older box. -/
theorem RetNew.stored {C : CV} {w w1 : World} {p : Nat} {l d : Option Addr} {c c' : Nat} (hb : Below w.heap.size w w1) (hp : w.heap.size ≤ p) {B : Nat} (hB : p < B) (_ : w.heap.size ≤ B) (hl : RowP (fun b => B ≤ b) w1 l C.n c C.f) (hd : RowS 4 w1 d C.m c' C.g) (hd' : ∀ q, (Value.slice d C.m c').ownBlock = some q → B ≤ q) (a0 a1 a2 : Value) :
    RetNew C w (.returned (.agg #[.int .i64 C.cap, .slice l C.n c, .slice d C.m c'])) (store3 w1 p a0 a1 a2) := by
  refine ⟨_, rfl, ⟨l, c, d, c', rfl, ?_, ?_, fun q hq => by have := hd' q hq; omega⟩, store3_below hb hp⟩
  · exact (((hl.setCell (by omega)).setCell (by omega)).setCell (by omega)).imp (fun b _ h => by omega)
  · obtain ⟨h1, h2, h3, h4⟩ := hd
    refine ⟨h1, h2, h3, fun h0 => ?_⟩
    obtain ⟨b, off, rfl, hbs, hc⟩ := h4 h0
    have := hd' b rfl
    refine ⟨b, off, rfl, by rw [store3_size]; exact hbs, fun i j hi hj => ?_⟩
    unfold store3
    rw [cell_set_ne (.inl (by omega)), cell_set_ne (.inl (by omega)), cell_set_ne (.inl (by omega))]
    exact hc i j hi hj
set_option maxRecDepth 100000 in
theorem lnew_any (cp t : Int) (w : World) : Calls Try.prog 9 #[.int .i64 cp, .int .i64 t] w (RetNew (CV.new cp t) w) := by
  have HZ := Lib.hid (Box3.new (a := .int .i64 0) (b := .slice none 0 0) (c := .slice none 0 0) w 25)
  have HA := Lib.hid ((Below.refl w.heap.size w).alloc (Nat.le_refl _) (.cells #[.int .i64 0, .slice none 0 0, .slice none 0 0] 25))
  go_enter Try.func9, Try.ntmps9
  go_wp2_with (go_at_call 18; go_loud ((with_reducible refine (new_new _ _ _).mono ?_); rintro e w1 ⟨v1, rfl, h1, hb⟩; have HZ1 := Lib.hid (HZ.out.below (by simp) hb); have HB1 := Lib.hid (below_next HA.out hb); (obtain ⟨l1, k1, d1, j1, rfl, hl, hd, hq⟩ := h1); have HL1 := Lib.hid hl; have HD1 := Lib.hid (And.intro hd hq); clear hb hl hd hq; (obtain ⟨e0, e1, e2, ef⟩ := HZ1.out); have ef0 := ef 0; have ef1 := ef 1; have ef2 := ef 2; clear ef))
  exact bodyPost_ret (v := .agg #[.int .i64 (CV.new cp t).cap, .slice l1 (CV.new cp t).n k1, .slice d1 (CV.new cp t).m j1]) (by simp only [results, Try.results9]; go_simp) rfl (RetNew.stored HB1.out (Nat.le_refl _) (by simp) (by simp) HL1.out HD1.out.1 HD1.out.2 _ _ _)

set_option maxRecDepth 100000 in
set_option maxHeartbeats 6400000 in
theorem lapply_new (v : Value) (C : CV) (t seq k ar x : Int) (df : Bool) (ka : Option Addr) (kn kc : Nat) (w : World) (h : CellsAt w v C) (hn : (C.n + 1) * 8 ≤ 140737488355328) :
    Calls Try.prog 7 #[v, .int .i64 t, .int .i64 seq, reqV k ar x df ka kn kc] w (RetNew (C.apply true t seq k x) w) := by
  have HP := Lib.hid (fun W hb => h.below hb : ∀ W, Below w.heap.size w W → CellsAt W v C)
  obtain ⟨la, lc, da, dc, rfl, hl, hd⟩ := h
  obtain ⟨C, rfl⟩ : ∃ D : CV, D = C := ⟨C, rfl⟩
  have HNN := Lib.hid hn
  obtain ⟨cp, n, f, m, g⟩ := C
  dsimp only at *
  have hB : Below w.heap.size w (((w.alloc (.cells #[.int .i64 cp, .slice la n lc, .slice da m dc] 25)).alloc (.cells #[.int .i64 k, .int .i64 ar, .int .i64 x, .bool df, .slice ka kn kc] 28)).alloc (.cells #[.int .i64 0, .slice none 0 0, .slice none 0 0] 25)) := (((Below.refl _ _).alloc (Nat.le_refl _) _).alloc (by simp) _).alloc (by simp; omega) _
  have HZW := Lib.hid (show Box3 (((w.alloc (.cells #[.int .i64 cp, .slice la n lc, .slice da m dc] 25)).alloc (.cells #[.int .i64 k, .int .i64 ar, .int .i64 x, .bool df, .slice ka kn kc] 28)).alloc (.cells #[.int .i64 0, .slice none 0 0, .slice none 0 0] 25)) (w.heap.size + 2) (.int .i64 0) (.slice none 0 0) (.slice none 0 0) from by
    have := Box3.new (a := .int .i64 0) (b := .slice none 0 0) (c := .slice none 0 0) ((w.alloc (.cells #[.int .i64 cp, .slice la n lc, .slice da m dc] 25)).alloc (.cells #[.int .i64 k, .int .i64 ar, .int .i64 x, .bool df, .slice ka kn kc] 28)) 25
    simpa using this)
  have HBW := Lib.hid hB
  clear hl hd hB
  unfold reqV
  by_cases hk : k = 9
  · subst hk
    go_enter Try.func7, Try.ntmps7
    go_upto_region 3 with (fail)
    refine abstract_code (fun u => (u.cell? ⟨w.heap.size, 0, none⟩ = some (.int .i64 cp) ∧ u.cell? ⟨w.heap.size, 1, none⟩ = some (.slice la n lc) ∧ u.cell? ⟨w.heap.size, 2, none⟩ = some (.slice da m dc) ∧ u.cell? ⟨(w.heap.size + 1), 0, none⟩ = some (.int .i64 9) ∧ u.cell? ⟨(w.heap.size + 1), 1, none⟩ = some (.int .i64 ar) ∧ u.cell? ⟨(w.heap.size + 1), 2, none⟩ = some (.int .i64 x) ∧ u.cell? ⟨(w.heap.size + 1), 3, none⟩ = some (.bool df) ∧ u.cell? ⟨(w.heap.size + 1), 4, none⟩ = some (.slice ka kn kc)) ∧ Box3 u (w.heap.size + 2) (.int .i64 0) (.slice none 0 0) (.slice none 0 0) ∧ Below w.heap.size w u ∧ w.heap.size + 2 < u.heap.size) ⟨⟨by go_simp, by go_simp, by go_simp, by go_simp, by go_simp, by go_simp, by go_simp, by go_simp⟩, HZW.out, HBW.out, by simp⟩ ?_
    clear HZW HBW
    rintro u ⟨⟨c0, c1, c2, c3, c4, c5, c6, c7⟩, hz, hb, z2⟩
    have HZ0 := Lib.hid hz
    have HU0 := Lib.hid hb
    have ZZ0 := Lib.hid z2
    have z0 : w.heap.size < u.heap.size := by omega
    have z1 : w.heap.size + 1 < u.heap.size := by omega
    clear hz hb
    go_region_held3 (fun W => W.cell? ⟨w.heap.size, 0, none⟩ = some (.int .i64 cp) ∧ W.cell? ⟨w.heap.size, 1, none⟩ = some (.slice la n lc) ∧ W.cell? ⟨w.heap.size, 2, none⟩ = some (.slice da m dc) ∧ W.cell? ⟨(w.heap.size + 1), 0, none⟩ = some (.int .i64 9) ∧ W.cell? ⟨(w.heap.size + 1), 1, none⟩ = some (.int .i64 ar) ∧ W.cell? ⟨(w.heap.size + 1), 2, none⟩ = some (.int .i64 x) ∧ W.cell? ⟨(w.heap.size + 1), 3, none⟩ = some (.bool df) ∧ W.cell? ⟨(w.heap.size + 1), 4, none⟩ = some (.slice ka kn kc))
      (first | with_reducible exact ⟨c0, c1, c2, c3, c4, c5, c6, c7⟩ | (go_simp; done) | go_keep | (refine ⟨?_, ?_, ?_, ?_, ?_, ?_, ?_, ?_⟩ <;> (rw [cell_set_ne (.inl (by omega)), cell_set_ne (.inl (by omega)), cell_set_ne (.inl (by omega))]; with_reducible assumption)))
      (first
        | (go_at_call 14; (with_reducible refine (turned_any _ _ _ (HP.out _ ?_)).mono ?_); (first | (with_reducible refine Below.drew ?_; with_reducible exact HU0.out) | with_reducible exact HU0.out); rintro e w2 ⟨v2, rfl, h2, hb⟩; have HB2 := Lib.hid (show Below u.heap.size u w2 from below_next (by first | (with_reducible refine Below.drew ?_; with_reducible exact Below.refl _ _) | with_reducible exact Below.refl _ _) hb); have c0 := ((bcell HB2.out).1 _ _ z0).trans c0; have c1 := ((bcell HB2.out).1 _ _ z0).trans c1; have c2 := ((bcell HB2.out).1 _ _ z0).trans c2; have c3 := ((bcell HB2.out).1 _ _ z1).trans c3; have c4 := ((bcell HB2.out).1 _ _ z1).trans c4; have c5 := ((bcell HB2.out).1 _ _ z1).trans c5; have c6 := ((bcell HB2.out).1 _ _ z1).trans c6; have c7 := ((bcell HB2.out).1 _ _ z1).trans c7; have z0 := Nat.lt_of_lt_of_le z0 HB2.out.size; have z1 := Nat.lt_of_lt_of_le z1 HB2.out.size; have z2 := Nat.lt_of_lt_of_le z2 HB2.out.size; have HU2 := Lib.hid (HU0.out.trans (HB2.out.mono HU0.out.size)); have HZ2 := Lib.hid (HZ0.out.below ZZ0.out HB2.out); have HV2 := Lib.hid h2; clear hb h2)
        | (go_at_call 17; (with_reducible refine (apply_lit9 HV2.out HNN.out).mono ?_); rintro e w3 ⟨v3, rfl, h3, hb⟩; have HB3 := Lib.hid (show Below w2.heap.size w2 w3 from hb); have c0 := ((bcell HB3.out).1 _ _ z0).trans c0; have c1 := ((bcell HB3.out).1 _ _ z0).trans c1; have c2 := ((bcell HB3.out).1 _ _ z0).trans c2; have c3 := ((bcell HB3.out).1 _ _ z1).trans c3; have c4 := ((bcell HB3.out).1 _ _ z1).trans c4; have c5 := ((bcell HB3.out).1 _ _ z1).trans c5; have c6 := ((bcell HB3.out).1 _ _ z1).trans c6; have c7 := ((bcell HB3.out).1 _ _ z1).trans c7; have z0 := Nat.lt_of_lt_of_le z0 HB3.out.size; have z1 := Nat.lt_of_lt_of_le z1 HB3.out.size; have z2 := Nat.lt_of_lt_of_le z2 HB3.out.size; have HU3 := Lib.hid (HU2.out.trans (HB3.out.mono HU2.out.size)); have HZ3 := Lib.hid (HZ2.out.below (Nat.lt_of_lt_of_le ZZ0.out HB2.out.size) HB3.out); have HV3 := Lib.hid h3; clear hb h3 HV2)
        | (go_at_call 14; (with_reducible refine (turned_new _ _ _ HV3.out).mono ?_); rintro e w4 ⟨v4, rfl, h4, hb⟩; have HB4 := Lib.hid (show Below w3.heap.size w3 w4 from hb); have c0 := ((bcell HB4.out).1 _ _ z0).trans c0; have c1 := ((bcell HB4.out).1 _ _ z0).trans c1; have c2 := ((bcell HB4.out).1 _ _ z0).trans c2; have c3 := ((bcell HB4.out).1 _ _ z1).trans c3; have c4 := ((bcell HB4.out).1 _ _ z1).trans c4; have c5 := ((bcell HB4.out).1 _ _ z1).trans c5; have c6 := ((bcell HB4.out).1 _ _ z1).trans c6; have c7 := ((bcell HB4.out).1 _ _ z1).trans c7; have z0 := Nat.lt_of_lt_of_le z0 HB4.out.size; have z1 := Nat.lt_of_lt_of_le z1 HB4.out.size; have z2 := Nat.lt_of_lt_of_le z2 HB4.out.size; have HU4 := Lib.hid (HU3.out.trans (HB4.out.mono HU3.out.size)); have HZ4 := Lib.hid (HZ3.out.below (Nat.lt_of_lt_of_le (Nat.lt_of_lt_of_le ZZ0.out HB2.out.size) HB3.out.size) HB4.out); (obtain ⟨l1, k1, d1, j1, rfl, hl, hd, hq⟩ := h4); have HL1 := Lib.hid hl; have HD1 := Lib.hid (And.intro hd hq); have s4 := HB3.out.size; have s3 := HB2.out.size; clear hb hl hd hq HV3; (obtain ⟨e0, e1, e2, ef⟩ := HZ4.out); have ef0 := ef 0; have ef1 := ef 1; have ef2 := ef 2; clear ef))
    all_goals go_wp2_with fail
    all_goals (refine bodyPost_ret (v := .agg #[.int .i64 (CV.turn (CV.apply (CV.turn ⟨cp, n, f, m, g⟩) false t seq 9 x)).cap, .slice l1 (CV.turn (CV.apply (CV.turn ⟨cp, n, f, m, g⟩) false t seq 9 x)).n k1, .slice d1 (CV.turn (CV.apply (CV.turn ⟨cp, n, f, m, g⟩) false t seq 9 x)).m j1]) (by simp only [results, Try.results7]; go_simp) rfl (RetNew.like (RetNew.stored HU4.out (by omega) (B := w3.heap.size) (by have := ZZ0.out; omega) (by have := HU3.out.size; omega) HL1.out HD1.out.1 HD1.out.2 _ _ _) (turn_like _ _ _ _)))
  · have e9 : (k != 9) = true := by simpa using hk
    have HAP := Lib.hid (show ∀ W, Below w.heap.size w W → Calls Try.prog 17 #[.agg #[.int .i64 cp, .slice la n lc, .slice da m dc], .int .i64 t, .int .i64 seq, .agg #[.int .i64 k, .int .i64 ar, .int .i64 x, .bool df, .slice ka kn kc]] W (RetNew (CV.apply ⟨cp, n, f, m, g⟩ false t seq k x) W) from fun W hb => apply_new _ _ _ _ _ _ _ _ _ _ _ W (HP.out W hb) HNN.out)
    go_enter Try.func7, Try.ntmps7
    go_wp2_with (go_at_call 17; go_loud ((with_reducible refine (HAP.out _ HBW.out).mono ?_); rintro e w1 ⟨v1, rfl, h1, hb⟩; have HZ1 := Lib.hid (HZW.out.below (by simp) hb); have HB1 := Lib.hid (HBW.out.trans (hb.mono HBW.out.size)); (obtain ⟨l1, k1, d1, j1, rfl, hl, hd, hq⟩ := h1); have HL1 := Lib.hid hl; have HD1 := Lib.hid (And.intro hd hq); clear hb hl hd hq; (obtain ⟨e0, e1, e2, ef⟩ := HZ1.out); have ef0 := ef 0; have ef1 := ef 1; have ef2 := ef 2; clear ef))
    exact bodyPost_ret (v := .agg #[.int .i64 (CV.apply ⟨cp, n, f, m, g⟩ false t seq k x).cap, .slice l1 (CV.apply ⟨cp, n, f, m, g⟩ false t seq k x).n k1, .slice d1 (CV.apply ⟨cp, n, f, m, g⟩ false t seq k x).m j1]) (by simp only [results, Try.results7]; go_simp) rfl (same_apply _ _ _ _ _ hk ▸ RetNew.stored HB1.out (by omega) (by simp) (by simp; omega) HL1.out HD1.out.1 HD1.out.2 _ _ _)
theorem lapply_any (v : Value) (C : CV) (t seq k ar x : Int) (df : Bool) (ka : Option Addr) (kn kc : Nat) (w : World) (h : CellsAt w v C) (hn : (C.n + 1) * 8 ≤ 140737488355328) :
    Calls Try.prog 7 #[v, .int .i64 t, .int .i64 seq, reqV k ar x df ka kn kc] w (RetAt (C.apply true t seq k x) w) :=
  (lapply_new v C t seq k ar x df ka kn kc w h hn).mono fun _ _ h => h.at
end Go.Proofs.Ytlgnkkjbbaaokaa
