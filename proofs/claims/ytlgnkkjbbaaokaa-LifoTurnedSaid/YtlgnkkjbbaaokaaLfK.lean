/- The document's example of a stack over the seat's program: it answers true. -/
import Derived.Test.YtlgnkkjbbaaokaaLfU
namespace Go.Proofs.Ytlgnkkjbbaaokaa
open Go.ChangeShapes Go.WideShapes Go.ChangeAt Go.RowKit Go.Joins

/-- What is returned is cells of these numbers, in new memory. -/
def RetLitN (cp : Int) (n m : Nat) (f : Nat → Int) (g : Nat → Nat → Int) (w : World) (e : Ending) (w' : World) : Prop :=
  ∃ la lc da dc, e = .returned (.agg #[.int .i64 cp, .slice la n lc, .slice da m dc]) ∧ (RowP (fun b => w.heap.size ≤ b) w' la n lc f ∧ RowS 4 w' da m dc g ∧ ∀ q, (Value.slice da m dc).ownBlock = some q → w.heap.size ≤ q) ∧ Below w.heap.size w w'
theorem RetNew.lit {C : CV} {w w' : World} {e : Ending} {cp : Int} {n m : Nat} (h : RetNew C w e w') (h1 : C.cap = cp) (h2 : C.n = n) (h3 : C.m = m) : RetLitN cp n m C.f C.g w e w' := by
  subst h1 h2 h3
  obtain ⟨v, rfl, ⟨la, lc, da, dc, rfl, hl⟩, hb⟩ := h
  exact ⟨la, lc, da, dc, rfl, hl, hb⟩
theorem lapply_lit {C : CV} {cp : Int} {n m : Nat} {f : Nat → Int} {g : Nat → Nat → Int} (t seq k x : Int) {cp' : Int} {n' m' : Nat} (hn : n ≤ 1000) (h1 : (CV.apply ⟨cp, n, f, m, g⟩ true t seq k x) = C) (h2 : C.cap = cp' ∧ C.n = n' ∧ C.m = m') {W : World} {la da : Option Addr} {lc dc : Nat} (hl : RowI W la n lc f) (hd : RowS 4 W da m dc g) :
    Calls Try.prog 7 #[.agg #[.int .i64 cp, .slice la n lc, .slice da m dc], .int .i64 t, .int .i64 seq, .agg #[.int .i64 k, .int .i64 0, .int .i64 x, .bool false, .slice none 0 0]] W (RetLitN cp' n' m' C.f C.g W) := by
  subst h1
  exact (lapply_new _ ⟨cp, n, f, m, g⟩ t seq k 0 x false none 0 0 W ⟨la, lc, da, dc, rfl, hl, hd⟩ (by dsimp only; omega)).mono fun e w' h => h.lit h2.1 h2.2.1 h2.2.2
theorem lnew_at (cp t : Int) (w : World) : Calls Try.prog 9 #[.int .i64 cp, .int .i64 t] w (RetAt (CV.new cp t) w) := (lnew_any cp t w).mono fun _ _ h => h.at
/-- A box that holds cells. -/
def Held (w : World) (p : Nat) (cp : Int) (n m : Nat) (f : Nat → Int) (g : Nat → Nat → Int) (la : Option Addr) (lc : Nat) (da : Option Addr) (dc : Nat) (u : World) : Prop :=
  Box3 u p (.int .i64 cp) (.slice la n lc) (.slice da m dc) ∧ (RowI u la n lc f ∧ RowS 4 u da m dc g) ∧ Below w.heap.size w u ∧ w.heap.size ≤ p ∧ p < u.heap.size
section
variable {w u : World} {p : Nat} {cp : Int} {n m : Nat} {f : Nat → Int} {g : Nat → Nat → Int} {la da : Option Addr} {lc dc : Nat}
theorem Held.box (h : Held w p cp n m f g la lc da dc u) : Box3 u p (.int .i64 cp) (.slice la n lc) (.slice da m dc) := h.1
theorem Held.list (h : Held w p cp n m f g la lc da dc u) : RowI u la n lc f := h.2.1.1
theorem Held.done (h : Held w p cp n m f g la lc da dc u) : RowS 4 u da m dc g := h.2.1.2
theorem Held.bel (h : Held w p cp n m f g la lc da dc u) : Below w.heap.size w u := h.2.2.1
theorem Held.open (h : Held w p cp n m f g la lc da dc u) : u.cell? ⟨p, 0, none⟩ = some (.int .i64 cp) ∧ u.cell? ⟨p, 1, none⟩ = some (.slice la n lc) ∧ u.cell? ⟨p, 2, none⟩ = some (.slice da m dc) ∧ ∀ i, u.frozen? ⟨p, i, none⟩ = false := h.1
end
theorem Held.below {w u u' : World} {p : Nat} {cp : Int} {n m : Nat} {f : Nat → Int} {g : Nat → Nat → Int} {la da : Option Addr} {lc dc : Nat} (h : Held w p cp n m f g la lc da dc u) (hb : Below u.heap.size u u') : Held w p cp n m f g la lc da dc u' := by
  obtain ⟨h1, ⟨h2, h3⟩, h4, h5, h6⟩ := h
  exact ⟨h1.below h6 hb, ⟨h2.below hb, h3.below hb⟩, h4.trans (hb.mono h4.size), h5, Nat.lt_of_lt_of_le h6 hb.size⟩
/-- .. behind a call that read them, and a store of what that returned. -/
theorem Held.next {w u u' : World} {p : Nat} {cp cp' : Int} {n m n' m' : Nat} {f f' : Nat → Int} {g g' : Nat → Nat → Int} {la da la' da' : Option Addr} {lc dc lc' dc' : Nat} (h : Held w p cp n m f g la lc da dc u)
    (hr : RowP (fun b => u.heap.size ≤ b) u' la' n' lc' f' ∧ RowS 4 u' da' m' dc' g' ∧ ∀ q, (Value.slice da' m' dc').ownBlock = some q → u.heap.size ≤ q) (hb : Below u.heap.size u u') :
    Held w p cp' n' m' f' g' la' lc' da' dc' (store3 u' p (.int .i64 cp') (.slice la' n' lc') (.slice da' m' dc')) := by
  obtain ⟨h1, ⟨_, _⟩, h4, h5, h6⟩ := h
  obtain ⟨hl, hd, hd'⟩ := hr
  refine ⟨(h1.below h6 hb).store _ _ _, ⟨(((hl.setCell (by omega)).setCell (by omega)).setCell (by omega)).row, ?_⟩, store3_below (h4.trans (hb.mono h4.size)) h5, h5, by rw [store3_size]; exact Nat.lt_of_lt_of_le h6 hb.size⟩
  obtain ⟨k1, k2, k3, k4⟩ := hd
  refine ⟨k1, k2, k3, fun h0 => ?_⟩
  obtain ⟨b, off, rfl, hbs, hc⟩ := k4 h0
  have := hd' b rfl
  refine ⟨b, off, rfl, by rw [store3_size]; exact hbs, fun i j hi hj => ?_⟩
  unfold store3
  rw [cell_set_ne (.inl (by omega)), cell_set_ne (.inl (by omega)), cell_set_ne (.inl (by omega))]
  exact hc i j hi hj
def ex0 : CV := CV.new 4 1
def ex1 : CV := CV.apply ⟨4, 0, ex0.f, 1, ex0.g⟩ true 0 1 8 5
def ex2 : CV := CV.apply ⟨4, 1, ex1.f, 1, ex1.g⟩ true 0 2 8 6
def ex3 : CV := CV.apply ⟨4, 2, ex2.f, 1, ex2.g⟩ true 0 3 9 0
set_option maxRecDepth 100000 in
set_option maxHeartbeats 3200000 in
theorem awake_any (w : World) : Calls Try.prog 11 #[] w fun e w' => e = .returned (.bool true) ∧ Below w.heap.size w w' := by
  have H0 := Lib.hid (show Calls Try.prog 9 #[.int .i64 4, .int .i64 1] w (RetLitN 4 0 1 ex0.f ex0.g w) from (lnew_any 4 1 w).mono fun e w' h => h.lit rfl rfl rfl)
  have H1 := Lib.hid (show ∀ (W : World) (la da : Option Addr) (lc dc : Nat), RowI W la 0 lc ex0.f → RowS 4 W da 1 dc ex0.g → Calls Try.prog 7 #[.agg #[.int .i64 4, .slice la 0 lc, .slice da 1 dc], .int .i64 0, .int .i64 1, .agg #[.int .i64 8, .int .i64 0, .int .i64 5, .bool false, .slice none 0 0]] W (RetLitN 4 1 1 ex1.f ex1.g W) from fun _ _ _ _ _ => lapply_lit 0 1 8 5 (by decide) rfl ⟨rfl, rfl, rfl⟩)
  have H2 := Lib.hid (show ∀ (W : World) (la da : Option Addr) (lc dc : Nat), RowI W la 1 lc ex1.f → RowS 4 W da 1 dc ex1.g → Calls Try.prog 7 #[.agg #[.int .i64 4, .slice la 1 lc, .slice da 1 dc], .int .i64 0, .int .i64 2, .agg #[.int .i64 8, .int .i64 0, .int .i64 6, .bool false, .slice none 0 0]] W (RetLitN 4 2 1 ex2.f ex2.g W) from fun _ _ _ _ _ => lapply_lit 0 2 8 6 (by decide) rfl ⟨rfl, rfl, rfl⟩)
  have H3 := Lib.hid (show ∀ (W : World) (la da : Option Addr) (lc dc : Nat), RowI W la 2 lc ex2.f → RowS 4 W da 1 dc ex2.g → Calls Try.prog 7 #[.agg #[.int .i64 4, .slice la 2 lc, .slice da 1 dc], .int .i64 0, .int .i64 3, .agg #[.int .i64 9, .int .i64 0, .int .i64 0, .bool false, .slice none 0 0]] W (RetLitN 4 1 1 ex3.f ex3.g W) from fun _ _ _ _ _ => lapply_lit 0 3 9 0 (by decide) rfl ⟨rfl, rfl, rfl⟩)
  have HT := Lib.hid (show ∀ (W : World) (la da : Option Addr) (lc dc : Nat), RowI W la 2 lc ex2.f → RowS 4 W da 1 dc ex2.g → Calls Try.prog 12 #[.agg #[.int .i64 4, .slice la 2 lc, .slice da 1 dc]] W fun e w' => e = .returned (.tuple #[.int .i64 6, .bool true]) ∧ Below W.heap.size W w' from fun W la da lc dc hl hd => top_any _ ⟨4, 2, ex2.f, 1, ex2.g⟩ W ⟨la, lc, da, dc, rfl, hl, hd⟩)
  go_enter Try.func11, Try.ntmps11
  go_upto_region 2 with (first
    | (go_at_call 9; (with_reducible refine H0.out.mono ?_); rintro e w1 ⟨l0, lc0, d0, dc0, rfl, ⟨hl0, hd0, _⟩, hb1⟩; have HL0 := Lib.hid hl0; have HD0 := Lib.hid hd0; have HB := Lib.hid hb1; clear hl0 hd0 hb1)
    | (go_at_call 7; (with_reducible refine (H1.out _ _ _ _ _ HL0.out.row HD0.out).mono ?_); rintro e w2 ⟨l1, lc1, d1, dc1, rfl, ⟨hl1, hd1, _⟩, hb2⟩; have HB2 := Lib.hid (HB.out.trans (hb2.mono HB.out.size)); have HL1 := Lib.hid hl1; have HD1 := Lib.hid hd1; clear hb2 hl1 hd1))
  have hA := (Below.refl w2.heap.size w2).alloc (Nat.le_refl _) (.cells #[.int .i64 4, .slice l1 1 lc1, .slice d1 1 dc1] 25)
  refine abstract_code (fun u => Held w w2.heap.size 4 1 1 ex1.f ex1.g l1 lc1 d1 dc1 u) ⟨Box3.new _ _, ⟨HL1.out.row.below hA, HD1.out.below hA⟩, HB2.out.trans (hA.mono HB2.out.size), HB2.out.size, by simp⟩ ?_
  clear HL0 HD0 HB HB2 HL1 HD1 H0 H1 hA
  intro u hu
  generalize w2.heap.size = p at *
  have HU := Lib.hid hu
  obtain ⟨c0, c1, c2, _⟩ := hu.open
  clear hu
  go_upto_region 3 with (go_at_call 7; go_loud ((with_reducible refine (H2.out _ _ _ _ _ HU.out.list HU.out.done).mono ?_); rintro e w3 ⟨l2, lc2, d2, dc2, rfl, hr, hb⟩; have HN := Lib.hid (HU.out.next (cp' := 4) hr hb); clear c0 c1 c2; (obtain ⟨c0, c1, c2, cf⟩ := (HU.out.below hb).open); have cf0 := cf 0; have cf1 := cf 1; have cf2 := cf 2; clear cf hr hb))
  refine abstract_code (fun u => Held w p 4 2 1 ex2.f ex2.g l2 lc2 d2 dc2 u) HN.out ?_
  clear HU HN c0 c1 c2 cf0 cf1 cf2 H2
  intro u2 hu
  have HU := Lib.hid hu
  obtain ⟨c0, c1, c2, _⟩ := hu.open
  clear hu
  go_upto_region 5 with (first
    | (go_at_call 12; (with_reducible refine (HT.out _ _ _ _ _ HU.out.list HU.out.done).mono ?_); rintro e w4 ⟨rfl, hb⟩; have HU4 := Lib.hid (HU.out.below hb); clear c0 c1 c2 hb; (obtain ⟨c0, c1, c2, _⟩ := HU4.out.open))
    | (go_at_call 7; (with_reducible refine (H3.out _ _ _ _ _ HU4.out.list HU4.out.done).mono ?_); rintro e w5 ⟨l3, lc3, d3, dc3, rfl, hr, hb⟩; have HN := Lib.hid (HU4.out.next (cp' := 4) hr hb); clear c0 c1 c2; (obtain ⟨c0, c1, c2, cf⟩ := (HU4.out.below hb).open); have cf0 := cf 0; have cf1 := cf 1; have cf2 := cf 2; clear cf hr hb))
  refine abstract_code (fun u => Held w p 4 1 1 ex3.f ex3.g l3 lc3 d3 dc3 u) HN.out ?_
  clear HU HN HU4 c0 c1 c2 cf0 cf1 cf2 H3 HT
  intro u3 hu
  have HU := Lib.hid hu
  obtain ⟨c0, c1, c2, _⟩ := hu.open
  obtain ⟨b', off', rfl, _, hc'⟩ := hu.done.get (k := 0) (by omega)
  have k1 : u3.cell? ⟨b', off' + 3, none⟩ = some (.int .i64 6) := by have h := hc' 0 3 (by omega) (by omega); rw [Nat.zero_mul, Nat.add_zero, show ex3.g 0 3 = 6 from rfl] at h; exact h
  clear hc' hu
  go_wp2
  go_ret
  exact ⟨rfl, HU.out.bel⟩
end Go.Proofs.Ytlgnkkjbbaaokaa
