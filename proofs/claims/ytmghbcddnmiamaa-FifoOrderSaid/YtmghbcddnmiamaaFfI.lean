/- The contracts of plain's Ints, Res, Results, Cells where both are the same; New, and the reference's. -/
import Derived.Test.YtmghbcddnmiamaaFfE
namespace Go.Proofs.Ytmghbcddnmiamaa
open Go.ChangeShapes Go.WideShapes Go.ChangeAt Go.RowKit Go.Joins

set_option maxHeartbeats 1000000 in
theorem ints_yes (a a' : Option Addr) (n cap cap' : Nat) (f g : Nat → Int) (w : World) (h : RowI w a n cap f) (h' : RowI w a' n cap' g) (he : ∀ i, i < n → f i = g i) :
    Calls Try.prog 13 #[.slice a n cap, .slice a' n cap'] w fun e w' => e = .returned (.bool true) ∧ SomeDraws w w' := by
  have hn := h.1
  have HC := Lib.hid h
  have HC' := Lib.hid h'
  have HE := Lib.hid he
  clear h h' he
  go_enter Try.func13, Try.ntmps13
  go_wp2
  go_loopw [13] (fun i wr => ∃ k : Nat, k ≤ n ∧ i = .int .i64 k ∧ RowI wr a n cap f ∧ RowI wr a' n cap' g ∧ SomeDraws w wr) (fun i _ => n - (intOf i).toNat)
  case atStart => exact ⟨0, Nat.zero_le _, rfl, HC.out, HC'.out, 0, rfl⟩
  case round =>
    obtain ⟨k, hk, rfl, h, h', hq⟩ := hrel
    have HR := Lib.hid h
    have HR' := Lib.hid h'
    have HQ := Lib.hid hq
    clear h h' hq
    by_cases hlt : k < n
    · obtain ⟨b, off, rfl, _, hc⟩ := HR.out.get hlt
      obtain ⟨b', off', rfl, _, hc'⟩ := HR'.out.get hlt
      have c1 := hc k hlt
      have c2 := hc' k hlt
      rw [← HE.out k hlt] at c2
      have i0 : (0 : Int) ≤ (k : Int) := by omega
      have i1 : (k : Int) < (n : Int) := by omega
      have e1 : (f k != f k) = false := by simp
      clear hc hc'
      go_wp2
      go_quiet (fail)
      go_wp2
      go_roundw
      case rel => exact ⟨k + 1, by omega, by go_num, HR.out.drewN _, HR'.out.drewN _, HQ.out.drew _⟩
      case measure => simp [intOf]; omega
    · go_wp2
      go_ret
      exact ⟨rfl, HQ.out⟩

theorem res_yes (a b c d : Int) (w : World) : Calls Try.prog 25 #[.agg #[.int .i64 a, .int .i64 b, .int .i64 c, .int .i64 d], .agg #[.int .i64 a, .int .i64 b, .int .i64 c, .int .i64 d]] w fun e w' => e = .returned (.bool true) ∧ Below w.heap.size w w' := by
  have e1 : (a == a) = true := by simp
  have e2 : (b == b) = true := by simp
  have e3 : (c == c) = true := by simp
  have e4 : (d == d) = true := by simp
  go_enter Try.func25, Try.ntmps25
  go_wp2
  go_ret
  exact ⟨rfl, ((Below.refl _ _).alloc (Nat.le_refl _) _).alloc (by simp) _⟩

theorem cells4 {w : World} {a : Option Addr} {m cap : Nat} {g : Nat → Nat → Int} (h : RowS 4 w a m cap g) {k : Nat} (hk : k < m) : ∃ b off, a = some ⟨b, off, none⟩ ∧ b < w.heap.size ∧ w.cell? ⟨b, off + k * 4, none⟩ = some (.int .i64 (g k 0)) ∧ w.cell? ⟨b, off + k * 4 + 1, none⟩ = some (.int .i64 (g k 1)) ∧ w.cell? ⟨b, off + k * 4 + 2, none⟩ = some (.int .i64 (g k 2)) ∧ w.cell? ⟨b, off + k * 4 + 3, none⟩ = some (.int .i64 (g k 3)) := by
  obtain ⟨b, off, ha, hb, hc⟩ := h.get hk
  exact ⟨b, off, ha, hb, hc k 0 hk (by omega), hc k 1 hk (by omega), hc k 2 hk (by omega), hc k 3 hk (by omega)⟩
set_option maxRecDepth 100000 in
set_option maxHeartbeats 3200000 in
theorem results_yes (a a' : Option Addr) (m cap cap' : Nat) (g : Nat → Nat → Int) (w : World) (h : RowS 4 w a m cap g) (h' : RowS 4 w a' m cap' g) :
    Calls Try.prog 17 #[.slice a m cap, .slice a' m cap'] w fun e w' => e = .returned (.bool true) ∧ Below w.heap.size w w' := by
  have hm := h.1
  have HC := Lib.hid h
  have HC' := Lib.hid h'
  clear h h'
  go_enter Try.func17, Try.ntmps17
  go_wp2
  go_loopw [13] (fun i wr => ∃ k : Nat, k ≤ m ∧ i = .int .i64 k ∧ Below w.heap.size w wr) (fun i _ => m - (intOf i).toNat)
  case atStart => exact ⟨0, Nat.zero_le _, rfl, Below.refl _ _⟩
  case round =>
    obtain ⟨k, hk, rfl, hb⟩ := hrel
    have HB := Lib.hid hb
    have HR := Lib.hid (HC.out.below hb)
    have HR' := Lib.hid (HC'.out.below hb)
    clear hb
    by_cases hlt : k < m
    · obtain ⟨b, off, rfl, zb, x0, x1, x2, x3⟩ := cells4 HR.out hlt
      obtain ⟨b', off', rfl, zb', y0, y1, y2, y3⟩ := cells4 HR'.out hlt
      have i0 : (0 : Int) ≤ (k : Int) := by omega
      have i1 : (k : Int) < (m : Int) := by omega
      go_wp2
      go_region_held3 (fun W => W.cell? ⟨b, off + k * 4, none⟩ = some (.int .i64 (g k 0)) ∧ W.cell? ⟨b, off + k * 4 + 1, none⟩ = some (.int .i64 (g k 1)) ∧ W.cell? ⟨b, off + k * 4 + 2, none⟩ = some (.int .i64 (g k 2)) ∧ W.cell? ⟨b, off + k * 4 + 3, none⟩ = some (.int .i64 (g k 3)) ∧ W.cell? ⟨b', off' + k * 4, none⟩ = some (.int .i64 (g k 0)) ∧ W.cell? ⟨b', off' + k * 4 + 1, none⟩ = some (.int .i64 (g k 1)) ∧ W.cell? ⟨b', off' + k * 4 + 2, none⟩ = some (.int .i64 (g k 2)) ∧ W.cell? ⟨b', off' + k * 4 + 3, none⟩ = some (.int .i64 (g k 3)))
        (first | with_reducible exact ⟨x0, x1, x2, x3, y0, y1, y2, y3⟩ | (go_simp; done) | go_keep)
        ((go_at_call 25; (with_reducible refine (res_yes _ _ _ _ _).mono ?_); rintro e w1 ⟨rfl, hb⟩; have HB1 := Lib.hid (show Below wr.heap.size wr w1 from (Below.drew (Below.refl _ _)).trans (hb.mono (Nat.le_refl _))); have x0 := ((bcell HB1.out).1 _ _ zb).trans x0; have x1 := ((bcell HB1.out).1 _ _ zb).trans x1; have x2 := ((bcell HB1.out).1 _ _ zb).trans x2; have x3 := ((bcell HB1.out).1 _ _ zb).trans x3; have y0 := ((bcell HB1.out).1 _ _ zb').trans y0; have y1 := ((bcell HB1.out).1 _ _ zb').trans y1; have y2 := ((bcell HB1.out).1 _ _ zb').trans y2; have y3 := ((bcell HB1.out).1 _ _ zb').trans y3; clear hb))
      go_wp2
      go_roundw
      case rel => exact ⟨k + 1, by omega, by go_num, HB.out.trans (HB1.out.mono HB.out.size)⟩
      case measure => simp [intOf]; omega
    · go_wp2
      go_ret
      exact ⟨rfl, HB.out⟩

set_option maxRecDepth 100000 in
set_option maxHeartbeats 3200000 in
theorem cells_yes (v v' : Value) (C : CV) (w : World) (h : CellsAt w v C) (h' : CellsAt w v' C) : Calls Try.prog 6 #[v, v'] w fun e w' => e = .returned (.bool true) ∧ Below w.heap.size w w' := by
  obtain ⟨la, lc, da, dc, rfl, hl, hd⟩ := h
  obtain ⟨la', lc', da', dc', rfl, hl', hd'⟩ := h'
  obtain ⟨cp, n, f, m, g⟩ := C
  dsimp only at *
  obtain ⟨W, hW⟩ : ∃ W, W = ((w.alloc (.cells #[.int .i64 cp, .slice la n lc, .slice da m dc] 25)).alloc (.cells #[.int .i64 cp, .slice la' n lc', .slice da' m dc'] 25)) := ⟨_, rfl⟩
  have hB : Below w.heap.size w W := by rw [hW]; exact ((Below.refl _ _).alloc (Nat.le_refl _) _).alloc (by simp) _
  have HX := Lib.hid (show Box3 W w.heap.size (.int .i64 cp) (.slice la n lc) (.slice da m dc) from by rw [hW]; exact (Box3.new _ _).alloc (by simp) _)
  have HY := Lib.hid (show Box3 W (w.heap.size + 1) (.int .i64 cp) (.slice la' n lc') (.slice da' m dc') from by rw [hW]; have := Box3.new (a := .int .i64 cp) (b := .slice la' n lc') (c := .slice da' m dc') (w.alloc (.cells #[.int .i64 cp, .slice la n lc, .slice da m dc] 25)) 25; simpa using this)
  have zW : w.heap.size + 1 < W.heap.size := by rw [hW]; simp
  have HB := Lib.hid hB
  have HW := Lib.hid hW
  have HL := Lib.hid (hl.below hB)
  have HL' := Lib.hid (hl'.below hB)
  have HD := Lib.hid (hd.below hB)
  have HD' := Lib.hid (hd'.below hB)
  have ec : (cp == cp) = true := by simp
  clear hl hd hl' hd' hB hW
  go_enter Try.func6, Try.ntmps6
  go_upto_region 1 with (fail)
  rw [← HW.out]
  obtain ⟨x0, x1, x2, xf⟩ := HX.out
  obtain ⟨y0, y1, y2, yf⟩ := HY.out
  clear xf yf
  go_wp2_with (first
    | (go_at_call 13; (with_reducible refine (ints_yes _ _ _ _ _ _ _ _ HL.out HL'.out (fun _ _ => rfl)).mono ?_); rintro e w1 ⟨rfl, hq⟩; have HB1 := Lib.hid hq.below; clear hq x0 x1 x2 y0 y1 y2; (obtain ⟨x0, x1, x2, xf⟩ := HX.out.below (by omega) HB1.out); (obtain ⟨y0, y1, y2, yf⟩ := HY.out.below (by omega) HB1.out); clear xf yf)
    | (go_at_call 17; (with_reducible refine (results_yes _ _ _ _ _ _ _ (HD.out.below HB1.out) (HD'.out.below HB1.out)).mono ?_); rintro e w2 ⟨rfl, hb⟩; have HB2 := Lib.hid (HB.out.trans ((below_next HB1.out hb).mono HB.out.size)); clear hb x0 x1 x2 y0 y1 y2))
  go_ret
  exact ⟨rfl, HB2.out⟩

/-- New: as many results as threads, none more than 64. -/
def CV.new (cap t : Int) : CV := ⟨cap, 0, fun _ => 0, newN t, fun _ _ => 0⟩
where newN (n : Int) : Nat := if n < 64 then n.toNat else 64
end Go.Proofs.Ytmghbcddnmiamaa
