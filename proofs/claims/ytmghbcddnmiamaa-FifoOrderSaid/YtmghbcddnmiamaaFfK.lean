/- The document's example over the seat's program: it answers true. -/
import Derived.Test.YtmghbcddnmiamaaFfF
import Derived.Test.YtmghbcddnmiamaaFfJ
namespace Go.Proofs.Ytmghbcddnmiamaa
open Go.ChangeShapes Go.WideShapes Go.ChangeAt Go.RowKit Go.Joins

/-- What is returned is cells of these numbers. -/
def RetLit (cp : Int) (n m : Nat) (f : Nat → Int) (g : Nat → Nat → Int) (w : World) (e : Ending) (w' : World) : Prop :=
  ∃ la lc da dc, e = .returned (.agg #[.int .i64 cp, .slice la n lc, .slice da m dc]) ∧ RowI w' la n lc f ∧ RowS 4 w' da m dc g ∧ Below w.heap.size w w'
theorem RetAt.lit {C : CV} {w w' : World} {e : Ending} {cp : Int} {n m : Nat} (h : RetAt C w e w') (h1 : C.cap = cp) (h2 : C.n = n) (h3 : C.m = m) : RetLit cp n m C.f C.g w e w' := by
  subst h1 h2 h3
  obtain ⟨v, rfl, ⟨la, lc, da, dc, rfl, hl, hd⟩, hb⟩ := h
  exact ⟨la, lc, da, dc, rfl, hl, hd, hb⟩
theorem apply_lit {C : CV} {cp : Int} {n m : Nat} {f : Nat → Int} {g : Nat → Nat → Int} (t seq k x : Int) {cp' : Int} {n' m' : Nat} (hn : n ≤ 1000) (h1 : (CV.apply ⟨cp, n, f, m, g⟩ false t seq k x) = C) (h2 : C.cap = cp' ∧ C.n = n' ∧ C.m = m') {W : World} {la da : Option Addr} {lc dc : Nat} (hl : RowI W la n lc f) (hd : RowS 4 W da m dc g) :
    Calls Try.prog 7 #[.agg #[.int .i64 cp, .slice la n lc, .slice da m dc], .int .i64 t, .int .i64 seq, .agg #[.int .i64 k, .int .i64 0, .int .i64 x, .bool false, .slice none 0 0]] W (RetLit cp' n' m' C.f C.g W) := by
  subst h1
  exact (apply_any _ ⟨cp, n, f, m, g⟩ t seq k 0 x false none 0 0 W ⟨la, lc, da, dc, rfl, hl, hd⟩ (by dsimp only; omega)).mono fun e w' h => h.lit h2.1 h2.2.1 h2.2.2
def ex0 : CV := CV.new 1 2
def ex1 : CV := CV.apply ⟨1, 0, ex0.f, 2, ex0.g⟩ false 0 1 8 5
def ex2 : CV := CV.apply ⟨1, 1, ex1.f, 2, ex1.g⟩ false 1 1 8 6
def ex3 : CV := CV.apply ⟨1, 1, ex2.f, 2, ex2.g⟩ false 0 2 9 0
set_option maxRecDepth 100000 in
set_option maxHeartbeats 3200000 in
theorem awake_any (w : World) : Calls Try.prog 11 #[] w fun e w' => e = .returned (.bool true) ∧ Below w.heap.size w w' := by
  have H0 := Lib.hid (show Calls Try.prog 9 #[.int .i64 1, .int .i64 2] w (RetLit 1 0 2 ex0.f ex0.g w) from (new_any 1 2 w).mono fun e w' h => h.lit rfl rfl rfl)
  have H1 := Lib.hid (show ∀ (W : World) (la da : Option Addr) (lc dc : Nat), RowI W la 0 lc ex0.f → RowS 4 W da 2 dc ex0.g → Calls Try.prog 7 #[.agg #[.int .i64 1, .slice la 0 lc, .slice da 2 dc], .int .i64 0, .int .i64 1, .agg #[.int .i64 8, .int .i64 0, .int .i64 5, .bool false, .slice none 0 0]] W (RetLit 1 1 2 ex1.f ex1.g W) from fun _ _ _ _ _ => apply_lit 0 1 8 5 (by decide) rfl ⟨rfl, rfl, rfl⟩)
  have H2 := Lib.hid (show ∀ (W : World) (la da : Option Addr) (lc dc : Nat), RowI W la 1 lc ex1.f → RowS 4 W da 2 dc ex1.g → Calls Try.prog 7 #[.agg #[.int .i64 1, .slice la 1 lc, .slice da 2 dc], .int .i64 1, .int .i64 1, .agg #[.int .i64 8, .int .i64 0, .int .i64 6, .bool false, .slice none 0 0]] W (RetLit 1 1 2 ex2.f ex2.g W) from fun _ _ _ _ _ => apply_lit 1 1 8 6 (by decide) rfl ⟨rfl, rfl, rfl⟩)
  have H3 := Lib.hid (show ∀ (W : World) (la da : Option Addr) (lc dc : Nat), RowI W la 1 lc ex2.f → RowS 4 W da 2 dc ex2.g → Calls Try.prog 7 #[.agg #[.int .i64 1, .slice la 1 lc, .slice da 2 dc], .int .i64 0, .int .i64 2, .agg #[.int .i64 9, .int .i64 0, .int .i64 0, .bool false, .slice none 0 0]] W (RetLit 1 0 2 ex3.f ex3.g W) from fun _ _ _ _ _ => apply_lit 0 2 9 0 (by decide) rfl ⟨rfl, rfl, rfl⟩)
  go_enter Try.func11, Try.ntmps11
  go_upto_region 4 with (first
    | (go_at_call 9; (with_reducible refine H0.out.mono ?_); rintro e w1 ⟨l0, lc0, d0, dc0, rfl, hl0, hd0, hb1⟩; have HL0 := Lib.hid hl0; have HD0 := Lib.hid hd0; have HB := Lib.hid hb1; clear hl0 hd0 hb1)
    | (go_at_call 7; (with_reducible refine (H1.out _ _ _ _ _ HL0.out HD0.out).mono ?_); rintro e w2 ⟨l1, lc1, d1, dc1, rfl, hl1, hd1, hb2⟩; have HB2 := Lib.hid (HB.out.trans (hb2.mono HB.out.size)); have HL1 := Lib.hid hl1; have HD1 := Lib.hid hd1; clear hb2 hl1 hd1)
    | (go_at_call 7; have hA := (Below.refl w2.heap.size w2).alloc (Nat.le_refl _) (.cells #[.int .i64 1, .slice l1 1 lc1, .slice d1 2 dc1] 25); (with_reducible refine (H2.out _ _ _ _ _ (HL1.out.below hA) (HD1.out.below hA)).mono ?_); rintro e w3 ⟨l2, lc2, d2, dc2, rfl, hl2, hd2, hb3⟩; have HX1 := Lib.hid ((Box3.new (a := .int .i64 1) (b := .slice l1 1 lc1) (c := .slice d1 2 dc1) w2 25).below (by simp) hb3); have HB3 := Lib.hid (HB2.out.trans ((below_next hA hb3).mono HB2.out.size)); have hs3 : w2.heap.size < w3.heap.size := by have := hb3.size; simp at this; omega
       have HL2 := Lib.hid hl2; have HD2 := Lib.hid hd2; clear hA hb3 hl2 hd2)
    | (go_at_call 7; have hA := (Below.refl w3.heap.size w3).alloc (Nat.le_refl _) (.cells #[.int .i64 1, .slice l2 1 lc2, .slice d2 2 dc2] 25); (with_reducible refine (H3.out _ _ _ _ _ (HL2.out.below hA) (HD2.out.below hA)).mono ?_); rintro e w4 ⟨l3, lc3, d3, dc3, rfl, hl3, hd3, hb4⟩; have HY := Lib.hid ((Box3.new (a := .int .i64 1) (b := .slice l2 1 lc2) (c := .slice d2 2 dc2) w3 25).below (by simp) hb4); have HX := Lib.hid (HX1.out.below (by omega) (below_next hA hb4)); have HB4 := Lib.hid (HB3.out.trans ((below_next hA hb4).mono HB3.out.size)); have HE2 := Lib.hid (HD2.out.below (below_next hA hb4)); have hs4 : w3.heap.size < w4.heap.size := by have := hb4.size; simp at this; omega
       have HL3 := Lib.hid hl3; have HD3 := Lib.hid hd3; clear hA hb4 hl3 hd3))
  have hA := (Below.refl w4.heap.size w4).alloc (Nat.le_refl _) (.cells #[.int .i64 1, .slice l3 0 lc3, .slice d3 2 dc3] 25)
  refine abstract_code (fun u => Box3 u w2.heap.size (.int .i64 1) (.slice l1 1 lc1) (.slice d1 2 dc1) ∧ Box3 u w3.heap.size (.int .i64 1) (.slice l2 1 lc2) (.slice d2 2 dc2) ∧ Box3 u w4.heap.size (.int .i64 1) (.slice l3 0 lc3) (.slice d3 2 dc3) ∧ RowS 4 u d2 2 dc2 ex2.g ∧ RowS 4 u d3 2 dc3 ex3.g ∧ Below w.heap.size w u) ⟨HX.out.below (by omega) hA, HY.out.below hs4 hA, Box3.new _ _, HE2.out.below hA, HD3.out.below hA, HB4.out.trans (hA.mono HB4.out.size)⟩ ?_
  clear HX HY HX1 HL0 HL1 HL2 HL3 HD0 HD1 HD2 HD3 HE2 HB HB2 HB3 HB4 H0 H1 H2 H3 hA hs3 hs4
  rintro u ⟨⟨x0, x1, x2, _⟩, ⟨y0, y1, y2, _⟩, ⟨z0, z1, z2, _⟩, hd, he, hb⟩
  have HB := Lib.hid hb
  obtain ⟨b, off, rfl, _, hc⟩ := hd.get (k := 1) (by omega)
  obtain ⟨b', off', rfl, _, hc'⟩ := he.get (k := 0) (by omega)
  have k0 : u.cell? ⟨b, off + 4 + 2, none⟩ = some (.int .i64 10) := hc 1 2 (by omega) (by omega)
  have k1 : u.cell? ⟨b', off' + 3, none⟩ = some (.int .i64 5) := by have h := hc' 0 3 (by omega) (by omega); rw [Nat.zero_mul, Nat.add_zero, show ex3.g 0 3 = 5 from rfl] at h; exact h
  have k2 : u.cell? ⟨b', off', none⟩ = some (.int .i64 2) := by have h := hc' 0 0 (by omega) (by omega); rw [Nat.zero_mul, Nat.add_zero, show ex3.g 0 0 = 2 from rfl] at h; exact h
  clear hc hc' hb hd he
  go_wp2
  go_ret
  exact ⟨rfl, HB.out⟩
end Go.Proofs.Ytmghbcddnmiamaa
