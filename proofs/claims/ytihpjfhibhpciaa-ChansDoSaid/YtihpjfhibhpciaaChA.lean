/- A channel: how it lies in memory; the contracts of Copy and Ready of channels, over the seat's program. -/
import Derived.Test.YtihpjfhibhpciaaWtQ
import Derived.Test.YtihpjfhibhpciaaWtT
import Derived.Test.YtihpjfhibhpciaaWtMoves
import Derived.Test.YtihpjfhibhpciaaShelf
namespace Go.Proofs.Ytihpjfhibhpciaa
open Go.ChangeShapes Go.WideShapes Go.ChangeAt Go.RowKit Go.Joins

/-- Five cells that may be written. -/
def Box (w : World) (p : Nat) (a b c d e : Value) : Prop :=
  w.cell? ⟨p, 0, none⟩ = some a ∧ w.cell? ⟨p, 1, none⟩ = some b ∧ w.cell? ⟨p, 2, none⟩ = some c ∧ w.cell? ⟨p, 3, none⟩ = some d ∧ w.cell? ⟨p, 4, none⟩ = some e ∧ ∀ i, w.frozen? ⟨p, i, none⟩ = false
/-- Five stores, one behind the other. -/
def store5 (w : World) (p : Nat) (a b c d e : Value) : World := ((((w.setCell ⟨p, 0, none⟩ a).setCell ⟨p, 1, none⟩ b).setCell ⟨p, 2, none⟩ c).setCell ⟨p, 3, none⟩ d).setCell ⟨p, 4, none⟩ e
section
variable {w w' : World} {p q : Nat} {a b c d e a' b' c' d' e' : Value}
theorem Box.below (h : Box w p a b c d e) (hp : p < w.heap.size) (hb : Below w.heap.size w w') : Box w' p a b c d e := by
  obtain ⟨h0, h1, h2, h3, h4, hf⟩ := h
  obtain ⟨hc, hg⟩ := bcell hb
  exact ⟨(hc _ _ hp).trans h0, (hc _ _ hp).trans h1, (hc _ _ hp).trans h2, (hc _ _ hp).trans h3, (hc _ _ hp).trans h4, fun i => (hg _ _ hp).trans (hf i)⟩
theorem Box.store (h : Box w p a b c d e) (a' b' c' d' e' : Value) : Box (store5 w p a' b' c' d' e') p a' b' c' d' e' := by
  obtain ⟨h0, h1, h2, h3, h4, hf⟩ := h
  unfold store5
  refine ⟨?_, ?_, ?_, ?_, ?_, fun i => by simpa using hf i⟩
  · rw [cell_set_ne (.inr (by decide)), cell_set_ne (.inr (by decide)), cell_set_ne (.inr (by decide)), cell_set_ne (.inr (by decide))]
    exact World.cell?_setCell_same _ _ _ h0
  · rw [cell_set_ne (.inr (by decide)), cell_set_ne (.inr (by decide)), cell_set_ne (.inr (by decide))]
    exact World.cell?_setCell_same _ _ _ (by rw [cell_set_ne (.inr (by decide))]; exact h1)
  · rw [cell_set_ne (.inr (by decide)), cell_set_ne (.inr (by decide))]
    exact World.cell?_setCell_same _ _ _ (by rw [cell_set_ne (.inr (by decide)), cell_set_ne (.inr (by decide))]; exact h2)
  · rw [cell_set_ne (.inr (by decide))]
    exact World.cell?_setCell_same _ _ _ (by rw [cell_set_ne (.inr (by decide)), cell_set_ne (.inr (by decide)), cell_set_ne (.inr (by decide))]; exact h3)
  · exact World.cell?_setCell_same _ _ _ (by rw [cell_set_ne (.inr (by decide)), cell_set_ne (.inr (by decide)), cell_set_ne (.inr (by decide)), cell_set_ne (.inr (by decide))]; exact h4)
theorem Box.set_far (h : Box w q a b c d e) {i : Nat} {x : Value} (hne : p ≠ q) : Box (w.setCell ⟨p, i, none⟩ x) q a b c d e := by
  obtain ⟨h0, h1, h2, h3, h4, hf⟩ := h
  exact ⟨by rw [cell_set_ne (.inl hne)]; exact h0, by rw [cell_set_ne (.inl hne)]; exact h1, by rw [cell_set_ne (.inl hne)]; exact h2, by rw [cell_set_ne (.inl hne)]; exact h3, by rw [cell_set_ne (.inl hne)]; exact h4, fun i => by simpa using hf i⟩
theorem Box.far (h : Box w q a b c d e) (hne : p ≠ q) : Box (store5 w p a' b' c' d' e') q a b c d e := (((((h.set_far hne).set_far hne).set_far hne).set_far hne).set_far hne)
theorem Box.new (w : World) (t : TypeId) : Box (w.alloc (.cells #[a, b, c, d, e] t)) w.heap.size a b c d e := by
  refine ⟨?_, ?_, ?_, ?_, ?_, fun i => frozen_of_row _ _ _ _ t (heap_alloc_new w _)⟩ <;> (rw [cell_of_row _ _ _ _ t (0, 0) (heap_alloc_new w _)]; rfl)
theorem store5_size : (store5 w p a b c d e).heap.size = w.heap.size := by simp [store5]
theorem store5_below {B : Nat} {o : World} (h : Below B o w) (hp : B ≤ p) : Below B o (store5 w p a b c d e) := ((((h.setCell hp _).setCell hp _).setCell hp _).setCell hp _).setCell hp _
theorem store5_own {B E s n : Nat} {v : Value} {xs : List Value} (h : w.ownsRow B E s v n xs) (hp : p < B) : (store5 w p a b c d e).ownsRow B E s v n xs :=
  ownsRow_setCell_below (ownsRow_setCell_below (ownsRow_setCell_below (ownsRow_setCell_below (ownsRow_setCell_below h hp _) hp _) hp _) hp _) hp _
end
/-- A channel. -/
structure CH where
  gen : Int
  cap : Int
  used : Bool
  closed : Bool
  n : Nat
  f : Nat → Int
def ChanAt (w : World) (v : Value) (C : CH) : Prop := ∃ a c, v = .agg #[.int .i64 C.gen, .int .i64 C.cap, .bool C.used, .bool C.closed, .slice a C.n c] ∧ RowAt .i64 w a C.n c C.f
/-- .. whose values lie in new memory. -/
def ChanOwn (B : Nat) (w : World) (v : Value) (C : CH) : Prop := ∃ a c, v = .agg #[.int .i64 C.gen, .int .i64 C.cap, .bool C.used, .bool C.closed, .slice a C.n c] ∧ w.ownsRow B 3 1 (.slice a C.n c) C.n (rowL .i64 C.f C.n)
theorem ChanAt.below {w w' : World} {v : Value} {C : CH} (h : ChanAt w v C) (hb : Below w.heap.size w w') : ChanAt w' v C := by
  obtain ⟨a, c, hv, hr⟩ := h
  exact ⟨a, c, hv, hr.below hb⟩
theorem ChanOwn.below {B : Nat} {w w' : World} {v : Value} {C : CH} (h : ChanOwn B w v C) (hb : Below w.heap.size w w') : ChanOwn B w' v C := by
  obtain ⟨a, c, hv, hr⟩ := h
  exact ⟨a, c, hv, own_below hr hb⟩
theorem ChanOwn.mono {B B' : Nat} {w : World} {v : Value} {C : CH} (h : ChanOwn B w v C) (hB : B' ≤ B) : ChanOwn B' w v C := by
  obtain ⟨a, c, hv, hr⟩ := h
  exact ⟨a, c, hv, ownsRow_le hr hB⟩
theorem own_row {w : World} {B n : Nat} {a : Option Addr} {c : Nat} {f : Nat → Int} (hn : n * 8 ≤ 140737488351232) (h : w.ownsRow B 3 1 (.slice a n c) n (rowL .i64 f n)) : RowAt .i64 w a n c f := by
  obtain ⟨a', c', hv, hr⟩ := OwnAt.of hn h
  simp only [Value.slice.injEq, true_and] at hv
  obtain ⟨rfl, rfl⟩ := hv
  exact hr.row
theorem ChanOwn.at {B : Nat} {w : World} {v : Value} {C : CH} (hn : C.n * 8 ≤ 140737488351232) (h : ChanOwn B w v C) : ChanAt w v C := by
  obtain ⟨a, c, hv, hr⟩ := h
  exact ⟨a, c, hv, own_row hn hr⟩
theorem clone_int_any (a : Option Addr) (n cap : Nat) (f : Nat → Int) (w : World) (h : RowAt .i64 w a n cap f) : Calls Try.prog 99 #[.slice a n cap] w fun e w' => (∃ a' c', e = .returned (.slice a' n c') ∧ w'.ownsRow w.heap.size 3 1 (.slice a' n c') n (rowL .i64 f n)) ∧ Below w.heap.size w w' := by
  have hn := h.1
  cases a with
  | none =>
    obtain ⟨rfl, rfl⟩ := h.2.1 rfl
    refine (Try.slices_Clone_int_nil 0 0 w).mono ?_
    rintro e w' ⟨rfl, rfl⟩
    exact ⟨⟨none, 0, rfl, World.ownsRow_nil _ _ _ _⟩, Below.refl _ _⟩
  | some ad =>
    by_cases hz : n = 0
    · subst hz
      refine (Try.slices_Clone_int_zero ad cap w).mono ?_
      rintro e w' ⟨v', rfl, ho, _, hb⟩
      obtain ⟨a', c', rfl⟩ := own_form ho
      exact ⟨⟨a', c', rfl, ho⟩, hb⟩
    · obtain ⟨b, off, hab, _, hc⟩ := h.get (k := 0) (by omega)
      injection hab with hab
      subst hab
      refine (Try.slices_Clone_int b off n cap ((List.range n).map f) w (by simp) (by omega) (fun j hj => ?_)).mono ?_
      · have hj' : j < n := by simpa using hj
        rw [hc j hj', List.getD_eq_getElem?_getD, List.getElem?_map, List.getElem?_range hj']
        rfl
      · rintro e w' ⟨v', rfl, ho, _, hb⟩
        have e1 : (((List.range n).map f).take n).map (Value.int .i64) = rowL .i64 f n := by
          rw [List.take_of_length_le (by simp)]
          simp [rowL]
        rw [e1] at ho
        obtain ⟨a', c', rfl⟩ := own_form ho
        exact ⟨⟨a', c', rfl, ho⟩, hb⟩
set_option maxRecDepth 100000 in
set_option maxHeartbeats 3200000 in
theorem ccopy_any (v : Value) (C : CH) (w : World) (h : ChanAt w v C) : Calls Try.prog 70 #[v] w fun e w' => (∃ v', e = .returned v' ∧ ChanOwn (w.heap.size + 2) w' v' C) ∧ Below w.heap.size w w' := by
  obtain ⟨a, c, rfl, hr⟩ := h
  have HB0 := Lib.hid (((Below.refl w.heap.size w).alloc (Nat.le_refl _) (.cells #[.int .i64 C.gen, .int .i64 C.cap, .bool C.used, .bool C.closed, .slice a C.n c] 44)).alloc (by simp) (.cells #[.int .i64 0, .int .i64 0, .bool false, .bool false, .slice none 0 0] 44))
  have HC := Lib.hid (clone_int_any a C.n c C.f _ (hr.below HB0.out))
  have HX := Lib.hid ((Box.new (a := .int .i64 C.gen) (b := .int .i64 C.cap) (c := .bool C.used) (d := .bool C.closed) (e := .slice a C.n c) w 44).below (by simp) ((Below.refl _ _).alloc (Nat.le_refl _) (.cells #[.int .i64 0, .int .i64 0, .bool false, .bool false, .slice none 0 0] 44)))
  have HY := Lib.hid (Box.new (a := .int .i64 0) (b := .int .i64 0) (c := .bool false) (d := .bool false) (e := .slice none 0 0) (w.alloc (.cells #[.int .i64 C.gen, .int .i64 C.cap, .bool C.used, .bool C.closed, .slice a C.n c] 44)) 44)
  clear hr
  go_enter Try.func70, Try.ntmps70
  go_upto_region 1 with (fail)
  have hsz : ((w.alloc (.cells #[.int .i64 C.gen, .int .i64 C.cap, .bool C.used, .bool C.closed, .slice a C.n c] 44)).alloc (.cells #[.int .i64 0, .int .i64 0, .bool false, .bool false, .slice none 0 0] 44)).heap.size = w.heap.size + 2 := by simp
  rw [World.size_alloc] at HY
  revert HB0 HC HX HY hsz
  generalize (w.alloc (.cells #[.int .i64 C.gen, .int .i64 C.cap, .bool C.used, .bool C.closed, .slice a C.n c] 44)).alloc (.cells #[.int .i64 0, .int .i64 0, .bool false, .bool false, .slice none 0 0] 44) = u
  intro HB0 HC HX HY hsz
  (obtain ⟨x0, x1, x2, x3, x4, xf⟩ := HX.out)
  go_upto_region 2 with (go_at_call 99; go_loud ((with_reducible refine HC.out.mono ?_); rintro e w1 ⟨⟨ba, bc, rfl, ho⟩, hb⟩; have HO := Lib.hid (ownsRow_le ho (show w.heap.size + 2 ≤ u.heap.size from Nat.le_of_eq hsz.symm)); have HB1 := Lib.hid (HB0.out.trans (hb.mono HB0.out.size)); have hx := HX.out.below (by omega) hb; have hy := HY.out.below (by omega) hb; clear x0 x1 x2 x3 x4 xf ho hb; obtain ⟨x0, x1, x2, x3, x4, xf⟩ := hx; obtain ⟨y0, y1, y2, y3, y4, yf⟩ := hy; have f4 := xf 4; have g0 := yf 0; have g1 := yf 1; have g2 := yf 2; have g3 := yf 3; have g4 := yf 4; clear xf yf))
  go_wp2
  refine bodyPost_ret (v := .agg #[.int .i64 C.gen, .int .i64 C.cap, .bool C.used, .bool C.closed, .slice ba C.n bc]) (by simp only [results, Try.results70]; go_simp) rfl ⟨⟨_, rfl, ba, bc, rfl, ?_⟩, ?_⟩
  · exact store5_own (a := .int .i64 C.gen) (b := .int .i64 C.cap) (c := .bool C.used) (d := .bool C.closed) (e := .slice ba C.n bc) (p := w.heap.size + 1) (ownsRow_setCell_below HO.out (by show w.heap.size < _; omega) _) (by omega)
  · exact store5_below (a := .int .i64 C.gen) (b := .int .i64 C.cap) (c := .bool C.used) (d := .bool C.closed) (e := .slice ba C.n bc) (p := w.heap.size + 1) (HB1.out.setCell (Nat.le_refl _) _) (by omega)
/-- Whether something can be done with a channel at once. -/
def Rdy (C : CH) (V : Nat → WV) (n : Nat) (hd dir : Int) : Prop := C.used = true ∧ (dir = 1 ∨ dir = 2) ∧ (C.closed = true ∨ (∃ i, i < n ∧ Fit V (3 - dir) hd i) ∨ (dir = 1 ∧ (C.n : Int) < C.cap) ∨ (dir = 2 ∧ 0 < C.n))
theorem FirstIs.ok_iff {V : Nat → WV} {n : Nat} {d hd t wh : Int} {ok : Bool} (h : FirstIs V n d hd t wh ok) : ok = true ↔ ∃ i, i < n ∧ Fit V d hd i := by
  rcases h with ⟨rfl, _, _, h⟩ | ⟨rfl, i, hi, _, hon, ⟨j, hj, _, hh, _⟩, _⟩
  · exact ⟨fun h => absurd h (by decide), fun ⟨i, hi, hf⟩ => absurd hf (h i hi)⟩
  · exact ⟨fun _ => ⟨i, hi, hon, j, hj, hh⟩, fun _ => rfl⟩
theorem other_any (d : Int) (h : d = 1 ∨ d = 2) (w : World) : Calls Try.prog 74 #[.int .i64 d] w fun e w' => e = .returned (.int .i64 (3 - d)) ∧ w' = w := by
  have e0 : (-9223372036854775808 : Int) ≤ 3 - d := by omega
  have e1 : 3 - d ≤ 9223372036854775807 := by omega
  rcases h with rfl | rfl
  · go_enter Try.func74, Try.ntmps74
    go_wp2
    go_ret
    exact ⟨rfl, rfl⟩
  · go_enter Try.func74, Try.ntmps74
    go_wp2
    go_ret
    exact ⟨rfl, rfl⟩
set_option maxRecDepth 100000 in
set_option maxHeartbeats 3200000 in
theorem ready_any (v : Value) (C : CH) (a : Option Addr) (n cap : Nat) (V : Nat → WV) (hd dir : Int) (w : World) (hc : ChanAt w v C) (h : WaitsAt w a n cap V) : Calls Try.prog 33 #[v, .int .i64 hd, .slice a n cap, .int .i64 dir] w fun e w' => (∃ y, e = .returned (.bool y) ∧ (y = true ↔ Rdy C V n hd dir)) ∧ Below w.heap.size w w' := by
  obtain ⟨cg, ck, cu, cz, m, f⟩ := C
  obtain ⟨ca, cc, rfl, hcr⟩ := hc
  have hn := hcr.1
  dsimp only at hn ⊢
  clear hcr
  cases cu with
  | true =>
    by_cases d1 : dir = 1
    · subst d1
      cases cz with
      | true =>
        have HB0 := Lib.hid ((Below.refl w.heap.size w).alloc (Nat.le_refl _) (.cells #[.int .i64 cg, .int .i64 ck, .bool true, .bool true, .slice ca m cc] 44))
        have HX := Lib.hid (Box.new (a := .int .i64 cg) (b := .int .i64 ck) (c := .bool true) (d := .bool true) (e := .slice ca m cc) w 44)
        (obtain ⟨x0, x1, x2, x3, x4, _⟩ := HX.out)
        have HF := Lib.hid (first_any a n cap V 2 hd _ (h.below HB0.out))
        clear h
        by_cases ho : ∃ i, i < n ∧ Fit V 2 hd i
        · have HO := Lib.hid ho
          clear ho
          go_enter Try.func33, Try.ntmps33
          go_wp2_with (first | (go_at_call 74; go_loud ((with_reducible refine (other_any 1 (.inl rfl) _).mono ?_); rintro e u1 ⟨rfl, rfl⟩)) | (go_at_call 21; go_loud ((with_reducible refine HF.out.mono ?_); rintro e u2 ⟨⟨t, wh, ok, rfl, hf⟩, hb⟩; obtain rfl : ok = true := hf.ok_iff.2 HO.out; have HB9 := Lib.hid (HB0.out.trans (hb.mono HB0.out.size)); have hx := HX.out.below (by simp) hb; clear x0 x1 x2 x3 x4; obtain ⟨x0, x1, x2, x3, x4, _⟩ := hx; clear hf hb)))
          go_ret
          exact ⟨⟨true, rfl, fun _ => ⟨rfl, .inl rfl, .inr (.inl HO.out)⟩, fun _ => rfl⟩, HB9.out⟩
        · have HO := Lib.hid ho
          clear ho
          go_enter Try.func33, Try.ntmps33
          go_wp2_with (first | (go_at_call 74; go_loud ((with_reducible refine (other_any 1 (.inl rfl) _).mono ?_); rintro e u1 ⟨rfl, rfl⟩)) | (go_at_call 21; go_loud ((with_reducible refine HF.out.mono ?_); rintro e u2 ⟨⟨t, wh, ok, rfl, hf⟩, hb⟩; obtain rfl : ok = false := (by cases ok with | false => rfl | true => exact absurd (hf.ok_iff.1 rfl) HO.out); have HB9 := Lib.hid (HB0.out.trans (hb.mono HB0.out.size)); have hx := HX.out.below (by simp) hb; clear x0 x1 x2 x3 x4; obtain ⟨x0, x1, x2, x3, x4, _⟩ := hx; clear hf hb)))
          go_ret
          exact ⟨⟨true, rfl, fun _ => ⟨rfl, .inl rfl, .inl rfl⟩, fun _ => rfl⟩, HB9.out⟩
      | false =>
        have HB0 := Lib.hid ((Below.refl w.heap.size w).alloc (Nat.le_refl _) (.cells #[.int .i64 cg, .int .i64 ck, .bool true, .bool false, .slice ca m cc] 44))
        have HX := Lib.hid (Box.new (a := .int .i64 cg) (b := .int .i64 ck) (c := .bool true) (d := .bool false) (e := .slice ca m cc) w 44)
        (obtain ⟨x0, x1, x2, x3, x4, _⟩ := HX.out)
        have HF := Lib.hid (first_any a n cap V 2 hd _ (h.below HB0.out))
        clear h
        by_cases ho : ∃ i, i < n ∧ Fit V 2 hd i
        · have HO := Lib.hid ho
          clear ho
          go_enter Try.func33, Try.ntmps33
          go_wp2_with (first | (go_at_call 74; go_loud ((with_reducible refine (other_any 1 (.inl rfl) _).mono ?_); rintro e u1 ⟨rfl, rfl⟩)) | (go_at_call 21; go_loud ((with_reducible refine HF.out.mono ?_); rintro e u2 ⟨⟨t, wh, ok, rfl, hf⟩, hb⟩; obtain rfl : ok = true := hf.ok_iff.2 HO.out; have HB9 := Lib.hid (HB0.out.trans (hb.mono HB0.out.size)); have hx := HX.out.below (by simp) hb; clear x0 x1 x2 x3 x4; obtain ⟨x0, x1, x2, x3, x4, _⟩ := hx; clear hf hb)))
          go_ret
          exact ⟨⟨true, rfl, fun _ => ⟨rfl, .inl rfl, .inr (.inl HO.out)⟩, fun _ => rfl⟩, HB9.out⟩
        · have HO := Lib.hid ho
          clear ho
          by_cases hr : (m : Int) < ck
          · have hr1 := hr
            go_enter Try.func33, Try.ntmps33
            go_wp2_with (first | (go_at_call 74; go_loud ((with_reducible refine (other_any 1 (.inl rfl) _).mono ?_); rintro e u1 ⟨rfl, rfl⟩)) | (go_at_call 21; go_loud ((with_reducible refine HF.out.mono ?_); rintro e u2 ⟨⟨t, wh, ok, rfl, hf⟩, hb⟩; obtain rfl : ok = false := (by cases ok with | false => rfl | true => exact absurd (hf.ok_iff.1 rfl) HO.out); have HB9 := Lib.hid (HB0.out.trans (hb.mono HB0.out.size)); have hx := HX.out.below (by simp) hb; clear x0 x1 x2 x3 x4; obtain ⟨x0, x1, x2, x3, x4, _⟩ := hx; clear hf hb)))
            go_ret
            exact ⟨⟨true, rfl, fun _ => ⟨rfl, .inl rfl, .inr (.inr (.inl ⟨rfl, hr⟩))⟩, fun _ => rfl⟩, HB9.out⟩
          · have hr1 : ck ≤ (m : Int) := by omega
            go_enter Try.func33, Try.ntmps33
            go_wp2_with (first | (go_at_call 74; go_loud ((with_reducible refine (other_any 1 (.inl rfl) _).mono ?_); rintro e u1 ⟨rfl, rfl⟩)) | (go_at_call 21; go_loud ((with_reducible refine HF.out.mono ?_); rintro e u2 ⟨⟨t, wh, ok, rfl, hf⟩, hb⟩; obtain rfl : ok = false := (by cases ok with | false => rfl | true => exact absurd (hf.ok_iff.1 rfl) HO.out); have HB9 := Lib.hid (HB0.out.trans (hb.mono HB0.out.size)); have hx := HX.out.below (by simp) hb; clear x0 x1 x2 x3 x4; obtain ⟨x0, x1, x2, x3, x4, _⟩ := hx; clear hf hb)))
            go_ret
            exact ⟨⟨false, congrArg (fun b => Ending.returned (Value.bool b)) (decide_eq_false (Int.not_lt.2 hr1)), fun h => absurd h (by decide), fun h => by
              rcases h.2.2 with h1 | h1 | h1 | h1
              · exact absurd h1 Bool.false_ne_true
              · exact absurd h1 HO.out
              · exact absurd h1.2 (Int.not_lt.2 hr1)
              · exact absurd h1.1 (by decide)⟩, HB9.out⟩
    · by_cases d2 : dir = 2
      · subst d2
        clear d1
        cases cz with
        | true =>
          have HB0 := Lib.hid ((Below.refl w.heap.size w).alloc (Nat.le_refl _) (.cells #[.int .i64 cg, .int .i64 ck, .bool true, .bool true, .slice ca m cc] 44))
          have HX := Lib.hid (Box.new (a := .int .i64 cg) (b := .int .i64 ck) (c := .bool true) (d := .bool true) (e := .slice ca m cc) w 44)
          (obtain ⟨x0, x1, x2, x3, x4, _⟩ := HX.out)
          have HF := Lib.hid (first_any a n cap V 1 hd _ (h.below HB0.out))
          clear h
          by_cases ho : ∃ i, i < n ∧ Fit V 1 hd i
          · have HO := Lib.hid ho
            clear ho
            go_enter Try.func33, Try.ntmps33
            go_wp2_with (first | (go_at_call 74; go_loud ((with_reducible refine (other_any 2 (.inr rfl) _).mono ?_); rintro e u1 ⟨rfl, rfl⟩)) | (go_at_call 21; go_loud ((with_reducible refine HF.out.mono ?_); rintro e u2 ⟨⟨t, wh, ok, rfl, hf⟩, hb⟩; obtain rfl : ok = true := hf.ok_iff.2 HO.out; have HB9 := Lib.hid (HB0.out.trans (hb.mono HB0.out.size)); have hx := HX.out.below (by simp) hb; clear x0 x1 x2 x3 x4; obtain ⟨x0, x1, x2, x3, x4, _⟩ := hx; clear hf hb)))
            go_ret
            exact ⟨⟨true, rfl, fun _ => ⟨rfl, .inr rfl, .inr (.inl HO.out)⟩, fun _ => rfl⟩, HB9.out⟩
          · have HO := Lib.hid ho
            clear ho
            go_enter Try.func33, Try.ntmps33
            go_wp2_with (first | (go_at_call 74; go_loud ((with_reducible refine (other_any 2 (.inr rfl) _).mono ?_); rintro e u1 ⟨rfl, rfl⟩)) | (go_at_call 21; go_loud ((with_reducible refine HF.out.mono ?_); rintro e u2 ⟨⟨t, wh, ok, rfl, hf⟩, hb⟩; obtain rfl : ok = false := (by cases ok with | false => rfl | true => exact absurd (hf.ok_iff.1 rfl) HO.out); have HB9 := Lib.hid (HB0.out.trans (hb.mono HB0.out.size)); have hx := HX.out.below (by simp) hb; clear x0 x1 x2 x3 x4; obtain ⟨x0, x1, x2, x3, x4, _⟩ := hx; clear hf hb)))
            go_ret
            exact ⟨⟨true, rfl, fun _ => ⟨rfl, .inr rfl, .inl rfl⟩, fun _ => rfl⟩, HB9.out⟩
        | false =>
          have HB0 := Lib.hid ((Below.refl w.heap.size w).alloc (Nat.le_refl _) (.cells #[.int .i64 cg, .int .i64 ck, .bool true, .bool false, .slice ca m cc] 44))
          have HX := Lib.hid (Box.new (a := .int .i64 cg) (b := .int .i64 ck) (c := .bool true) (d := .bool false) (e := .slice ca m cc) w 44)
          (obtain ⟨x0, x1, x2, x3, x4, _⟩ := HX.out)
          have HF := Lib.hid (first_any a n cap V 1 hd _ (h.below HB0.out))
          clear h
          by_cases ho : ∃ i, i < n ∧ Fit V 1 hd i
          · have HO := Lib.hid ho
            clear ho
            go_enter Try.func33, Try.ntmps33
            go_wp2_with (first | (go_at_call 74; go_loud ((with_reducible refine (other_any 2 (.inr rfl) _).mono ?_); rintro e u1 ⟨rfl, rfl⟩)) | (go_at_call 21; go_loud ((with_reducible refine HF.out.mono ?_); rintro e u2 ⟨⟨t, wh, ok, rfl, hf⟩, hb⟩; obtain rfl : ok = true := hf.ok_iff.2 HO.out; have HB9 := Lib.hid (HB0.out.trans (hb.mono HB0.out.size)); have hx := HX.out.below (by simp) hb; clear x0 x1 x2 x3 x4; obtain ⟨x0, x1, x2, x3, x4, _⟩ := hx; clear hf hb)))
            go_ret
            exact ⟨⟨true, rfl, fun _ => ⟨rfl, .inr rfl, .inr (.inl HO.out)⟩, fun _ => rfl⟩, HB9.out⟩
          · have HO := Lib.hid ho
            clear ho
            by_cases hr : 0 < m
            · have hr1 : (0 : Int) < (m : Int) := by omega
              go_enter Try.func33, Try.ntmps33
              go_wp2_with (first | (go_at_call 74; go_loud ((with_reducible refine (other_any 2 (.inr rfl) _).mono ?_); rintro e u1 ⟨rfl, rfl⟩)) | (go_at_call 21; go_loud ((with_reducible refine HF.out.mono ?_); rintro e u2 ⟨⟨t, wh, ok, rfl, hf⟩, hb⟩; obtain rfl : ok = false := (by cases ok with | false => rfl | true => exact absurd (hf.ok_iff.1 rfl) HO.out); have HB9 := Lib.hid (HB0.out.trans (hb.mono HB0.out.size)); have hx := HX.out.below (by simp) hb; clear x0 x1 x2 x3 x4; obtain ⟨x0, x1, x2, x3, x4, _⟩ := hx; clear hf hb)))
              go_ret
              exact ⟨⟨true, rfl, fun _ => ⟨rfl, .inr rfl, .inr (.inr (.inr ⟨rfl, hr⟩))⟩, fun _ => rfl⟩, HB9.out⟩
            · have hr1 : (m : Int) ≤ 0 := by omega
              go_enter Try.func33, Try.ntmps33
              go_wp2_with (first | (go_at_call 74; go_loud ((with_reducible refine (other_any 2 (.inr rfl) _).mono ?_); rintro e u1 ⟨rfl, rfl⟩)) | (go_at_call 21; go_loud ((with_reducible refine HF.out.mono ?_); rintro e u2 ⟨⟨t, wh, ok, rfl, hf⟩, hb⟩; obtain rfl : ok = false := (by cases ok with | false => rfl | true => exact absurd (hf.ok_iff.1 rfl) HO.out); have HB9 := Lib.hid (HB0.out.trans (hb.mono HB0.out.size)); have hx := HX.out.below (by simp) hb; clear x0 x1 x2 x3 x4; obtain ⟨x0, x1, x2, x3, x4, _⟩ := hx; clear hf hb)))
              go_ret
              exact ⟨⟨false, rfl, fun h => absurd h (by decide), fun h => by
                rcases h.2.2 with h1 | h1 | h1 | h1
                · exact absurd h1 Bool.false_ne_true
                · exact absurd h1 HO.out
                · exact absurd h1.1 (by decide)
                · exact absurd h1.2 hr⟩, HB9.out⟩
      · have b1 : (dir != 1) = true := by simpa using d1
        have b2 : (dir != 2) = true := by simpa using d2
        clear h
        have HB0 := Lib.hid ((Below.refl w.heap.size w).alloc (Nat.le_refl _) (.cells #[.int .i64 cg, .int .i64 ck, .bool true, .bool cz, .slice ca m cc] 44))
        have HX := Lib.hid (Box.new (a := .int .i64 cg) (b := .int .i64 ck) (c := .bool true) (d := .bool cz) (e := .slice ca m cc) w 44)
        (obtain ⟨x0, x1, x2, x3, x4, _⟩ := HX.out)
        go_enter Try.func33, Try.ntmps33
        go_wp2
        go_ret
        exact ⟨⟨false, rfl, fun h => absurd h (by decide), fun h => h.2.1.elim (fun e => absurd e d1) (fun e => absurd e d2)⟩, HB0.out⟩
  | false =>
    clear h
    have HB0 := Lib.hid ((Below.refl w.heap.size w).alloc (Nat.le_refl _) (.cells #[.int .i64 cg, .int .i64 ck, .bool false, .bool cz, .slice ca m cc] 44))
    have HX := Lib.hid (Box.new (a := .int .i64 cg) (b := .int .i64 ck) (c := .bool false) (d := .bool cz) (e := .slice ca m cc) w 44)
    (obtain ⟨x0, x1, x2, x3, x4, _⟩ := HX.out)
    go_enter Try.func33, Try.ntmps33
    go_wp2
    go_ret
    exact ⟨⟨false, rfl, fun h => absurd h (by decide), fun h => absurd h.1 Bool.false_ne_true⟩, HB0.out⟩
end Go.Proofs.Ytihpjfhibhpciaa
