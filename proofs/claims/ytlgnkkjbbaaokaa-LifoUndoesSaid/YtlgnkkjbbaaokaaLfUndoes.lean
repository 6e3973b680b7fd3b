/- LifoUndoes over the seat's program: it answers true. -/
import Derived.Test.YtlgnkkjbbaaokaaLfK
namespace Go.Proofs.Ytlgnkkjbbaaokaa
open Go.ChangeShapes Go.WideShapes Go.ChangeAt Go.RowKit Go.Joins

theorem size_of_alloc {w w' : World} {o : Go.Obj} (hb : Below (w.alloc o).heap.size (w.alloc o) w') : w.heap.size < w'.heap.size := by
  have h := hb.size
  simp at h
  omega
/-- Cells behind a put that there is room for, and behind a take next. -/
theorem undo_facts (C : CV) (t seq x : Int) (hr : (C.n : Int) < C.cap) : ∃ D E : CV, C.apply true t seq 8 x = D ∧ D.apply true t seq 9 0 = E ∧ (D.n = C.n + 1 ∧ D.m = C.m ∧ D.f (D.n - 1) = x) ∧ (E.n = C.n ∧ E.m = C.m ∧ ∀ i, i < C.n → E.f i = C.f i) ∧ (0 ≤ t → t < C.m → E.g t.toNat 3 = x ∧ E.g t.toNat 2 = 0) := by
  obtain ⟨n1, n2, n3, n4⟩ := note_n (C.after true 8 x) t (res4 seq (C.code 8) (C.told true 8))
  have ha : C.after true 8 x = ⟨C.cap, C.n + 1, updI C.f C.n x, C.m, C.g⟩ := by simp [CV.after, hr]
  refine ⟨_, _, rfl, rfl, ?_⟩
  have hDn : (C.apply true t seq 8 x).n = C.n + 1 := by unfold CV.apply; rw [n1, ha]
  have hDf : (C.apply true t seq 8 x).f = updI C.f C.n x := by unfold CV.apply; rw [n2, ha]
  have hDm : (C.apply true t seq 8 x).m = C.m := by unfold CV.apply; rw [n3, ha]
  generalize C.apply true t seq 8 x = D at *
  have hb : D.after true 9 0 = ⟨D.cap, D.n - 1, D.f, D.m, D.g⟩ := by
    have : D.n ≠ 0 := by omega
    simp [CV.after, this]
  have hc : D.code 9 = 0 := by
    have : D.n ≠ 0 := by omega
    simp [CV.code, this]
  have ht : D.told true 9 = x := by
    simp [CV.told, hDf, hDn, updI]
  obtain ⟨m1, m2, m3, m4⟩ := note_n (D.after true 9 0) t (res4 seq (D.code 9) (D.told true 9))
  refine ⟨⟨hDn, hDm, by rw [hDf, hDn]; simp [updI]⟩, ⟨?_, ?_, fun i hi => ?_⟩, fun h0 h1 => ?_⟩
  · unfold CV.apply; rw [m1, hb]; show D.n - 1 = _; omega
  · unfold CV.apply; rw [m3, hb]; exact hDm
  · unfold CV.apply; rw [m2, hb]; show D.f i = _; rw [hDf]; unfold updI; rw [if_neg (by omega)]
  · unfold CV.apply CV.note
    rw [hb, if_pos ⟨h0, by show t < (D.m : Int); rw [hDm]; exact h1⟩, hc, ht]
    simp [res4]
set_option maxRecDepth 100000 in
set_option maxHeartbeats 3200000 in
theorem undoes_walk (v : Value) (C : CV) (t seq x : Int) (w : World) (h : CellsAt w v C) (hn : C.n * 8 ≤ 140737488351232) (htb : -9223372036854775808 ≤ t ∧ t ≤ 9223372036854775807) :
    Calls Try.prog 4 #[v, .int .i64 t, .int .i64 seq, .int .i64 x] w fun e w' => e = .returned (.bool true) ∧ Below w.heap.size w w' := by
  have HP := Lib.hid (fun W hb => h.below hb : ∀ W, Below w.heap.size w W → CellsAt W v C)
  obtain ⟨la, lc, da, dc, rfl, hl, hd⟩ := h
  have hm := hd.1
  obtain ⟨W, hW⟩ : ∃ W, W = w.alloc (.cells #[.int .i64 C.cap, .slice la C.n lc, .slice da C.m dc] 25) := ⟨_, rfl⟩
  have hB : Below w.heap.size w W := by rw [hW]; exact (Below.refl _ _).alloc (Nat.le_refl _) _
  have HX := Lib.hid (show Box3 W w.heap.size (.int .i64 C.cap) (.slice la C.n lc) (.slice da C.m dc) from by rw [hW]; exact Box3.new _ _)
  have zW : w.heap.size < W.heap.size := by rw [hW]; simp
  have HB := Lib.hid hB
  have HW := Lib.hid hW
  have HL := Lib.hid hl
  clear hl hd hB hW
  go_enter Try.func4, Try.ntmps4
  go_upto_region 1 with (fail)
  rw [← HW.out]
  obtain ⟨c0, c1, c2, _⟩ := HX.out
  by_cases hr : (C.n : Int) < C.cap
  · have hr' : ¬ C.cap ≤ (C.n : Int) := by omega
    obtain ⟨D, E, hD, hE, ⟨hD1, hD2, hD3⟩, ⟨hE1, hE2, hE3⟩, hE4⟩ := undo_facts C t seq x hr
    have HA1 := Lib.hid (show ∀ W, Below w.heap.size w W → Calls Try.prog 7 #[.agg #[.int .i64 C.cap, .slice la C.n lc, .slice da C.m dc], .int .i64 t, .int .i64 seq, .agg #[.int .i64 8, .int .i64 0, .int .i64 x, .bool false, .slice none 0 0]] W (RetLitN D.cap (C.n + 1) C.m D.f D.g W) from fun W hb => (lapply_new _ C t seq 8 0 x false none 0 0 W (HP.out W hb) (by omega)).mono fun e w' h => (hD ▸ h : RetNew D _ _ _).lit rfl hD1 hD2)
    have HA2 := Lib.hid (show ∀ (W : World) (la da : Option Addr) (lc dc : Nat), RowI W la (C.n + 1) lc D.f → RowS 4 W da C.m dc D.g → Calls Try.prog 7 #[.agg #[.int .i64 D.cap, .slice la (C.n + 1) lc, .slice da C.m dc], .int .i64 t, .int .i64 seq, .agg #[.int .i64 9, .int .i64 0, .int .i64 0, .bool false, .slice none 0 0]] W (RetLitN E.cap C.n C.m E.f E.g W) from fun W la da lc dc hl hd => (lapply_new _ D t seq 9 0 0 false none 0 0 W ⟨la, lc, da, dc, by rw [hD1, hD2], by rw [hD1]; exact hl, by rw [hD2]; exact hd⟩ (by omega)).mono fun e w' h => (hE ▸ h : RetNew E _ _ _).lit rfl hE1 hE2)
    have HT := Lib.hid (show ∀ (W : World) (la da : Option Addr) (lc dc : Nat), RowI W la (C.n + 1) lc D.f → RowS 4 W da C.m dc D.g → Calls Try.prog 12 #[.agg #[.int .i64 D.cap, .slice la (C.n + 1) lc, .slice da C.m dc]] W fun e w' => e = .returned (.tuple #[.int .i64 x, .bool true]) ∧ Below W.heap.size W w' from fun W la da lc dc hl hd => (top_any _ D W ⟨la, lc, da, dc, by rw [hD1, hD2], by rw [hD1]; exact hl, by rw [hD2]; exact hd⟩).mono fun e w' h => by
      have h0 : D.n ≠ 0 := by omega
      rw [if_neg h0, hD3] at h
      simpa [h0] using h)
    have HE := Lib.hid (And.intro hE3 hE4)
    clear hD hE hD1 hD2 hD3 hE1 hE2 hE3 hE4 hr
    go_upto_region 6 with (first
      | (go_at_call 7; (with_reducible refine (HA1.out _ HB.out).mono ?_); rintro e w2 ⟨l1, lc1, d1, dc1, rfl, ⟨hl1, hd1, _⟩, hb⟩; have HB2 := Lib.hid (HB.out.trans (hb.mono HB.out.size)); have HX2 := Lib.hid (HX.out.below zW hb); have z2 := hb.size; have HL1 := Lib.hid hl1; have HD1 := Lib.hid hd1; clear hb hl1 hd1 c0 c1 c2; have hA := (Below.refl w2.heap.size w2).alloc (Nat.le_refl _) (.cells #[.int .i64 D.cap, .slice l1 (C.n + 1) lc1, .slice d1 C.m dc1] 25); have HA := Lib.hid hA; clear hA)
      | (go_at_call 12; (with_reducible refine (HT.out _ _ _ _ _ (HL1.out.row.below HA.out) (HD1.out.below HA.out)).mono ?_); rintro e w3 ⟨rfl, hb⟩; have HN3 := Lib.hid (below_next HA.out hb); have HY3 := Lib.hid ((Box3.new (a := .int .i64 D.cap) (b := .slice l1 (C.n + 1) lc1) (c := .slice d1 C.m dc1) w2 25).below (by simp) hb); have z3 : w2.heap.size < w3.heap.size := size_of_alloc hb
         clear hb; (obtain ⟨y0, y1, y2, _⟩ := HY3.out))
      | (go_at_call 7; (with_reducible refine (HA2.out _ _ _ _ _ (HL1.out.row.below HN3.out) (HD1.out.below HN3.out)).mono ?_); rintro e w4 ⟨l2, lc2, d2, dc2, rfl, ⟨hl2, hd2, _⟩, hb⟩; have HN4 := Lib.hid (HN3.out.trans (hb.mono HN3.out.size)); have HL2 := Lib.hid hl2; have HD2 := Lib.hid hd2; clear hb hl2 hd2 y0 y1 y2))
    have hA4 := (Below.refl w4.heap.size w4).alloc (Nat.le_refl _) (.cells #[.int .i64 E.cap, .slice l2 C.n lc2, .slice d2 C.m dc2] 25)
    have hN := HN4.out.trans (hA4.mono HN4.out.size)
    have hs := HN4.out.size
    refine abstract_code (fun u => (u.cell? ⟨w.heap.size, 1, none⟩ = some (.slice la C.n lc) ∧ u.cell? ⟨w.heap.size, 2, none⟩ = some (.slice da C.m dc)) ∧ (u.cell? ⟨w4.heap.size, 1, none⟩ = some (.slice l2 C.n lc2) ∧ u.cell? ⟨w4.heap.size, 2, none⟩ = some (.slice d2 C.m dc2)) ∧ (RowI u l2 C.n lc2 E.f ∧ RowS 4 u d2 C.m dc2 E.g) ∧ RowI u la C.n lc C.f ∧ Below w.heap.size w u ∧ (w.heap.size < u.heap.size ∧ w4.heap.size < u.heap.size)) ⟨?_, ?_, ⟨HL2.out.row.below hA4, HD2.out.below hA4⟩, HL.out.below (HB2.out.trans (hN.mono HB2.out.size)), HB2.out.trans (hN.mono HB2.out.size), by simp; omega, by simp⟩ ?_
    · have hx := HX2.out.below (by omega) hN
      exact ⟨hx.2.1, hx.2.2.1⟩
    · have hx := Box3.new (a := .int .i64 E.cap) (b := .slice l2 C.n lc2) (c := .slice d2 C.m dc2) w4 25
      exact ⟨hx.2.1, hx.2.2.1⟩
    clear HA1 HA2 HT HL HL1 HD1 HB2 HX2 HA HN3 HY3 HN4 HL2 HD2 hA4 hN hs z2 z3 HX HW HB HP
    rintro u ⟨⟨c1, c2⟩, ⟨e1, e2⟩, ⟨hl, hd⟩, hl0, hb, z0, z4⟩
    have HL := Lib.hid hl
    have HL0 := Lib.hid hl0
    have HB := Lib.hid hb
    generalize w4.heap.size = q at *
    have HLAST := Lib.hid (fun W (hb : Below u.heap.size u W) => show Calls Try.prog 13 #[.slice l2 C.n lc2, .slice la C.n lc] W fun e w' => e = .returned (.bool true) ∧ SomeDraws W w' from ints_yes _ _ _ _ _ _ _ W (hl.below hb) (hl0.below hb) HE.out.1)
    have et : (x == x) = true := by simp
    have ex : (x != x) = false := by simp
    by_cases hin : 0 ≤ t ∧ t < (C.m : Int)
    · obtain ⟨t0, t1⟩ := hin
      obtain ⟨g3, g2⟩ := HE.out.2 t0 t1
      obtain ⟨i, rfl⟩ : ∃ i : Nat, t = (i : Int) := ⟨t.toNat, by omega⟩
      obtain ⟨b, off, rfl, _, hc⟩ := hd.get (k := i) (by omega)
      have k3 : u.cell? ⟨b, off + i * 4 + 3, none⟩ = some (.int .i64 x) := by rw [hc i 3 (by omega) (by omega)]; exact congrArg (fun z => some (Value.int .i64 z)) (by simpa using g3)
      have k2 : u.cell? ⟨b, off + i * 4 + 2, none⟩ = some (.int .i64 0) := by rw [hc i 2 (by omega) (by omega)]; exact congrArg (fun z => some (Value.int .i64 z)) (by simpa using g2)
      have t2 : ¬ (C.m : Int) ≤ (i : Int) := by omega
      clear hc hd hl hl0 hb HL HL0 g3 g2 htb
      go_wp2_with (first
        | (go_at_call 13; (with_reducible refine (HLAST.out _ (Below.refl _ _)).mono ?_); rintro e w5 ⟨rfl, hq⟩; have HB5 := Lib.hid hq.below; clear hq)
        | (go_at_call 11; (with_reducible refine (awake_any _).mono ?_); rintro e w6 ⟨rfl, hb⟩; have HB6 := Lib.hid (HB.out.trans ((below_next HB5.out hb).mono HB.out.size)); clear hb))
      go_ret
      exact ⟨rfl, HB6.out⟩
    · by_cases t0 : 0 ≤ t
      · have t1 : (C.m : Int) ≤ t := by omega
        clear hd hl hl0 hb HL HL0 htb hin
        go_wp2_with (first
          | (go_at_call 13; (with_reducible refine (HLAST.out _ (Below.refl _ _)).mono ?_); rintro e w5 ⟨rfl, hq⟩; have HB5 := Lib.hid hq.below; clear hq)
          | (go_at_call 11; (with_reducible refine (awake_any _).mono ?_); rintro e w6 ⟨rfl, hb⟩; have HB6 := Lib.hid (HB.out.trans ((below_next HB5.out hb).mono HB.out.size)); clear hb))
        go_ret
        exact ⟨rfl, HB6.out⟩
      · have t1 : t < 0 := by omega
        clear hd hl hl0 hb HL HL0 htb hin t0
        go_wp2_with (first
          | (go_at_call 13; (with_reducible refine (HLAST.out _ (Below.refl _ _)).mono ?_); rintro e w5 ⟨rfl, hq⟩; have HB5 := Lib.hid hq.below; clear hq)
          | (go_at_call 11; (with_reducible refine (awake_any _).mono ?_); rintro e w6 ⟨rfl, hb⟩; have HB6 := Lib.hid (HB.out.trans ((below_next HB5.out hb).mono HB.out.size)); clear hb))
        go_ret
        exact ⟨rfl, HB6.out⟩
  · have hr' : C.cap ≤ (C.n : Int) := by omega
    clear hr
    go_wp2_with (go_at_call 11; (with_reducible refine (awake_any _).mono ?_); rintro e w2 ⟨rfl, hb⟩; have HB2 := Lib.hid (HB.out.trans (hb.mono HB.out.size)); clear hb)
    go_ret
    exact ⟨rfl, HB2.out⟩
end Go.Proofs.Ytlgnkkjbbaaokaa
