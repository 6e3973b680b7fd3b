/- The contract of receive, over the seat's program. -/
import Derived.Test.YtihpjfhibhpciaaChC
namespace Go.Proofs.Ytihpjfhibhpciaa
open Go.ChangeShapes Go.WideShapes Go.ChangeAt Go.RowKit Go.Joins

/-- Numbers that lie in a block. -/
def RowG (w : World) (g n : Nat) (f : Nat → Int) : Prop := g < w.heap.size ∧ ∀ i, i < n → w.cell? ⟨g, i, none⟩ = some (.int .i64 (f i))
theorem RowG.set {w : World} {g n p o : Nat} {f : Nat → Int} {x : Value} (h : RowG w g n f) (hne : g ≠ p) : RowG (w.setCell ⟨p, o, none⟩ x) g n f := ⟨by simpa using h.1, fun i hi => by rw [cell_set_ne (.inl (Ne.symm hne))]; exact h.2 i hi⟩
theorem RowG.far {B : Nat} {w : World} {g n cap : Nat} {f : Nat → Int} (h : RowG w g n f) (hn : n * 8 ≤ 140737488355328) (hg : B ≤ g) : ∀ w', Agree B w w' → RowZ w' (some ⟨g, 0, none⟩) n cap f := fun w' hw =>
  ⟨hn, (fun e => by cases e), fun _ => ⟨g, 0, rfl, Nat.lt_of_lt_of_le h.1 hw.1, fun i hi => by rw [Nat.zero_add]; exact (hw.2 g i hg h.1).1.trans (h.2 i hi)⟩⟩
theorem grown_set {W w : World} {g o : Nat} {v : Value} (h : W.grownBy w (some g)) : W.grownBy (w.setCell ⟨g, o, none⟩ v) (some g) := h.trans (set_grown w g o v)
theorem grown_sets {W : World} {g : Nat} : ∀ (vs : List Value) (o : Nat) (w : World), W.grownBy w (some g) → W.grownBy (w.setCells g o vs) (some g)
  | [], _, _, h => h
  | _ :: r, o, _, h => grown_sets r (o + 1) _ (grown_set h)
theorem size_sets (b : Nat) : ∀ (vs : List Value) (o : Nat) (w : World), (w.setCells b o vs).heap.size = w.heap.size
  | [], _, _ => rfl
  | _ :: r, o, _ => (size_sets b r (o + 1) _).trans (by simp)
theorem delete_first {w : World} {B g n cap : Nat} {f : Nat → Int} (h : w.ownsRow B 3 1 (.slice (some ⟨g, 0, none⟩) n cap) n (rowL .i64 f n)) (h0 : 0 < n) : Calls Try.prog 101 #[.slice (some ⟨g, 0, none⟩) n cap, .int .i64 0, .int .i64 1] w fun e w' => e = .returned (.slice (some ⟨g, 0, none⟩) (n - 1) cap) ∧ w.grownBy w' (some g) ∧ RowG w' g (n - 1) (fun i => f (i + 1)) := by
  have h' := h
  rcases h.2 with ⟨h1, _⟩ | ⟨gb, cap', cur, hv, hb, hg, hnc, hcm, hcs, hct⟩
  · cases h1
  simp only [Value.slice.injEq, Option.some.injEq, Addr.mk.injEq, and_true, true_and] at hv
  obtain ⟨rfl, rfl⟩ := hv
  have hgl : g < w.heap.size := (Array.getElem?_eq_some_iff.1 hg).1
  have hc : ∀ i, i < n → w.cell? ⟨g, i, none⟩ = some (.int .i64 (f i)) := fun i hi => by rw [h'.cellAt i (by omega), rowL_get hi]
  refine (Try.slices_Delete_int_cells g 0 n cap 0 1 ((List.range n).map f) w (by simp) hnc hcm (by omega) (by omega) (fun j hj => by
      have hj' : j < n := by simpa using hj
      rw [Nat.zero_add, hc j hj', List.getD_eq_getElem?_getD, List.getElem?_map, List.getElem?_range hj']
      rfl) (fun j _ => by rw [Nat.zero_add]; exact h'.frozenAt j)).mono ?_
  rintro e w' ⟨rfl, q, rfl⟩
  refine ⟨rfl, grown_sets _ _ _ ⟨rfl, rfl, rfl, Nat.le_refl _, fun _ _ _ => rfl⟩, by rw [size_sets]; exact hgl, fun i hi => ?_⟩
  have := World.cell?_setCells_in g (((((List.range n).map f).take n).take 0 ++ (((List.range n).map f).take n).drop 1 ++ List.replicate (1 - 0) 0).map (Value.int .i64)) 0 (w.drewN q) (fun j hj => ?_) i (by simp; omega)
  · rw [Nat.zero_add] at this
    rw [this]
    simp
    rw [List.getElem_append_left (by simp; omega)]
    simp
  · rw [Nat.zero_add, World.cell?_drewN, hc j (by simp at hj; omega)]
    rfl
theorem Agree.grown {B g : Nat} {w w' : World} (hg : w.grownBy w' (some g)) (h : g < B) : Agree B w w' := ⟨hg.size, fun q o hq hl => by
  have ne : some q ≠ some g := fun e => by injection e; omega
  exact ⟨hg.cell_far ⟨q, o, none⟩ hl ne, hg.frozen_far ⟨q, o, none⟩ hl ne⟩⟩
/-- What receive, behind its boxes, has. -/
structure RecvAt (w u : World) (C : CH) (bv : Value) : Prop where
  size : w.heap.size + 3 ≤ u.heap.size
  chan : Box u w.heap.size (.int .i64 C.gen) (.int .i64 C.cap) (.bool C.used) (.bool C.closed) bv
  ret : Box u (w.heap.size + 1) (.int .i64 0) (.int .i64 0) (.bool false) (.bool false) (.slice none 0 0)
  res : Box4 u (w.heap.size + 2) (.int .i64 0) (.int .i64 0) (.int .i64 0) (.int .i64 0)
theorem RecvAt.below {w u u' : World} {C : CH} {bv : Value} (h : RecvAt w u C bv) (hb : Below u.heap.size u u') : RecvAt w u' C bv :=
  ⟨Nat.le_trans h.size hb.size, h.chan.below (by have := h.size; omega) hb, h.ret.below (by have := h.size; omega) hb, h.res.below (by have := h.size; omega) hb⟩
theorem RecvAt.grown {w u u' : World} {C : CH} {bv : Value} {g : Nat} (h : RecvAt w u C bv) (hg : u.grownBy u' (some g)) (hgw : g < w.heap.size ∨ w.heap.size + 3 ≤ g) : RecvAt w u' C bv := by
  have hs := h.size
  have hk : ∀ q, w.heap.size ≤ q → q < w.heap.size + 3 → ∀ o, u'.cell? ⟨q, o, none⟩ = u.cell? ⟨q, o, none⟩ ∧ u'.frozen? ⟨q, o, none⟩ = u.frozen? ⟨q, o, none⟩ := fun q h1 h2 o => by
    have ne : some q ≠ some g := fun e => by injection e; omega
    exact ⟨hg.cell_far ⟨q, o, none⟩ (by show q < _; omega) ne, hg.frozen_far ⟨q, o, none⟩ (by show q < _; omega) ne⟩
  exact ⟨Nat.le_trans hs hg.size, h.chan.like (hk _ (Nat.le_refl _) (by omega)), h.ret.like (hk _ (by omega) (by omega)), h.res.like (hk _ (by omega) (by omega))⟩
theorem RecvAt.grownr {w u u' : World} {C : CH} {bv : Value} {r : Option Nat} (h : RecvAt w u C bv) (hg : u.grownBy u' r) (hr : ∀ q, r = some q → q < w.heap.size) : RecvAt w u' C bv := by
  cases r with
  | none => exact h.below ⟨hg.os, hg.tape, hg.output, hg.size, fun k hk => hg.block k hk (by simp)⟩
  | some g => exact h.grown hg (.inl (hr g rfl))
theorem RecvAt.set {w u : World} {C : CH} {bv : Value} (h : RecvAt w u C bv) (x : Value) : RecvAt w (u.setCell ⟨w.heap.size, 4, none⟩ x) C x := ⟨by simpa using h.size, h.chan.set4 x, h.ret.set_far (by omega), h.res.set_far (by omega)⟩
theorem RecvAt.new (w : World) (C : CH) (ca : Option Addr) (cc : Nat) : Below w.heap.size w (((w.alloc (.cells #[.int .i64 C.gen, .int .i64 C.cap, .bool C.used, .bool C.closed, .slice ca C.n cc] 44)).alloc (.cells #[.int .i64 0, .int .i64 0, .bool false, .bool false, .slice none 0 0] 44)).alloc (.cells #[.int .i64 0, .int .i64 0, .int .i64 0, .int .i64 0] 48)) ∧ RecvAt w (((w.alloc (.cells #[.int .i64 C.gen, .int .i64 C.cap, .bool C.used, .bool C.closed, .slice ca C.n cc] 44)).alloc (.cells #[.int .i64 0, .int .i64 0, .bool false, .bool false, .slice none 0 0] 44)).alloc (.cells #[.int .i64 0, .int .i64 0, .int .i64 0, .int .i64 0] 48)) C (.slice ca C.n cc) := by
  have b1 : ∀ (W : World) o, Below W.heap.size W (W.alloc o) := fun W o => (Below.refl _ _).alloc (Nat.le_refl _) _
  refine ⟨((((Below.refl _ _).alloc (Nat.le_refl _) _).alloc (by simp) _).alloc (by simp; omega) _), by simp, ?_, ?_, ?_⟩
  · exact ((Box.new w _).below (by simp) (b1 _ _)).below (by simp; omega) (b1 _ _)
  · have := Box.new (a := .int .i64 0) (b := .int .i64 0) (c := .bool false) (d := .bool false) (e := .slice none 0 0) (w.alloc (.cells #[.int .i64 C.gen, .int .i64 C.cap, .bool C.used, .bool C.closed, .slice ca C.n cc] 44)) 44
    rw [World.size_alloc] at this
    exact this.below (by simp) (b1 _ _)
  · have := Box4.new (a := .int .i64 0) (b := .int .i64 0) (c := .int .i64 0) (d := .int .i64 0) ((w.alloc (.cells #[.int .i64 C.gen, .int .i64 C.cap, .bool C.used, .bool C.closed, .slice ca C.n cc] 44)).alloc (.cells #[.int .i64 0, .int .i64 0, .bool false, .bool false, .slice none 0 0] 44)) 48
    rw [World.size_alloc, World.size_alloc] at this
    exact this
theorem NumAt.like {w w' : World} {p W0 : Nat} {x : Int} (h : NumAt w p x) {r : Option Nat} (hg : w.grownBy w' r) (hr : ∀ q, r = some q → q < W0) (hp : W0 ≤ p) : NumAt w' p x := ⟨Nat.lt_of_lt_of_le h.1 hg.size, (hg.cell_far ⟨p, 0, none⟩ h.1 (fun e => by have := hr p e.symm; omega)).trans h.2⟩
theorem NumAt.set {w : World} {p q o : Nat} {x : Int} {v : Value} (h : NumAt w p x) (hne : p ≠ q) : NumAt (w.setCell ⟨q, o, none⟩ v) p x := ⟨by simpa using h.1, by rw [cell_set_ne (.inl (Ne.symm hne))]; exact h.2⟩
theorem nil_row (w : World) (f : Nat → Int) : RowAt .i64 w none 0 0 f := ⟨by omega, fun _ => ⟨rfl, rfl⟩, fun h => absurd h (by omega)⟩
set_option maxRecDepth 100000 in
set_option maxHeartbeats 3200000 in
theorem receive_empty (B : Nat) (v : Value) (C : CH) (a : Option Addr) (n cap : Nat) (V : Nat → WV) (hd : Int) (w : World) (hB : B ≤ w.heap.size) (hc : ChanOwn B w v C) (hC : C.n = 0) (h : LowW B w a n cap V) (hno : ∀ i, i < n → ¬ Fit V 1 hd i) :
    Calls Try.prog 71 #[v, .int .i64 hd, .slice a n cap] w (DoRet B C V n 9 0 0 (fun _ _ => 0) w) := by
  have hn8 : C.n * 8 ≤ 140737488355328 := by omega
  have HC0 := Lib.hid hC
  clear hC
  obtain ⟨ca, cc, rfl, hrow⟩ := hc
  have HS := Lib.hid h
  have HNO := Lib.hid hno
  have HR := Lib.hid hrow
  have HB0 := Lib.hid (RecvAt.new w C ca cc).1
  have HX := Lib.hid (RecvAt.new w C ca cc).2
  clear hrow h hno
  go_enter Try.func71, Try.ntmps71
  go_upto_region 2 with (fail)
  revert HX HB0
  generalize ((w.alloc (.cells #[.int .i64 C.gen, .int .i64 C.cap, .bool C.used, .bool C.closed, .slice ca C.n cc] 44)).alloc (.cells #[.int .i64 0, .int .i64 0, .bool false, .bool false, .slice none 0 0] 44)).alloc (.cells #[.int .i64 0, .int .i64 0, .int .i64 0, .int .i64 0] 48) = u
  intro HB0 HX
  go_upto_region 6 with (go_at_call 21; go_loud ((with_reducible refine (first_any _ _ _ _ _ _ _ (HS.out.get (HB0.out.mono hB))).mono ?_); rintro e w1 ⟨⟨t', wh', ok, rfl, hf⟩, hb⟩; obtain rfl : ok = false := (by cases ok with | false => rfl | true => exact absurd (hf.ok_iff.1 rfl) (fun ⟨i, hi, hff⟩ => HNO.out i hi hff)); have HX1 := Lib.hid (HX.out.below hb); have HB1 := Lib.hid (HB0.out.trans (hb.mono HB0.out.size)); clear hf hb))
  have hA1 := (Below.refl w1.heap.size w1).alloc (Nat.le_refl _) (.cells #[.int .i64 wh'] 3)
  have HX2 := Lib.hid (HX1.out.below hA1)
  have HB2 := Lib.hid (HB1.out.trans (hA1.mono HB1.out.size))
  have HE := Lib.hid (end_recv w1.heap.size a n cap V none 0 0 (fun _ => 0) (fun _ => wh') 0 0 (w1.alloc (.cells #[.int .i64 wh'] 3)) (HS.out.get (HB2.out.mono hB)) (nil_row _ _) (fun j hj => absurd hj (by omega)) (Nat.zero_le _) (fun i W ca cc ⟨j, hj, _⟩ => absurd hj (by omega)))
  clear hA1
  go_upto_region 7 with (go_at_call 75; go_loud ((with_reducible refine HE.out.mono ?_); rintro e w3 ⟨ra, rc, ta, tc, rfl, hfw, hft, hb⟩; rw [zeroAt_zero] at hfw; have HX3 := Lib.hid (HX2.out.below hb); have HB3 := Lib.hid (HB2.out.trans (hb.mono HB2.out.size)); have HFW := Lib.hid hfw; have HFT := Lib.hid hft; clear hfw hft hb))
  have hU : w.heap.size + 3 < (w1.alloc (.cells #[.int .i64 wh'] 3)).heap.size := by have := HX1.out.size; simp; omega
  revert HFW HFT hU
  generalize (w1.alloc (.cells #[.int .i64 wh'] 3)).heap.size = U
  intro HFW HFT hU
  have HR3 := Lib.hid (own_below HR.out HB3.out)
  have hlt := HR.out.lt
  clear HE HX HX1 HX2 HB0 HB1 HB2
  have hC := HC0.out
  (obtain ⟨x0, x1, x2, x3, x4, xf⟩ := HX3.out.chan)
  (obtain ⟨y0, y1, y2, y3, y4, yf⟩ := HX3.out.ret)
  (obtain ⟨z0, z1, z2, z3, zf⟩ := HX3.out.res)
  have f4' := xf 4
  have f0 := yf 0
  have f1 := yf 1
  have f2 := yf 2
  have f3 := yf 3
  have f4 := yf 4
  have g0 := zf 0
  have g1 := zf 1
  have g2 := zf 2
  have g3 := zf 3
  clear xf yf zf
  go_wp2
  refine bodyPost_ret (v := .tuple #[.agg #[.int .i64 C.gen, .int .i64 C.cap, .bool C.used, .bool C.closed, .slice ca 0 cc], .slice ra n rc, .agg #[.int .i64 0, .int .i64 0, .int .i64 9, .int .i64 0], .slice ta 0 tc]) (by simp only [results, Try.results71]; go_simp) rfl ?_
  have ag : Agree U w3 (store4 (store5 w3 (w.heap.size + 1) (.int .i64 C.gen) (.int .i64 C.cap) (.bool C.used) (.bool C.closed) (.slice ca 0 cc)) (w.heap.size + 2) 0 (.int .i64 0) (.int .i64 0) (.int .i64 9) (.int .i64 0)) := (agree_store5 (by omega)).trans (agree_store4 (by omega))
  refine ⟨.agg #[.int .i64 C.gen, .int .i64 C.cap, .bool C.used, .bool C.closed, .slice ca C.n cc], ra, rc, ta, tc, by rw [hC], chan_far hn8 ⟨ca, cc, rfl, own_store4 (own_store5 HR3.out (fun e => ?_)) (fun e => ?_)⟩, (HFW.out.agree ag).mono (by omega), fun w' hw => ⟨by omega, (HFT.out.at).2.1, (HFT.out.at).2.2.1, fun h => absurd h (by omega)⟩, below_store4 (store5_below (HB3.out.mono hB) (by omega)) (by omega)⟩
  · have := (hlt _ e).2; omega
  · have := (hlt _ e).2; omega
set_option maxRecDepth 100000 in
set_option maxHeartbeats 3200000 in
theorem receive_pop (B : Nat) (v : Value) (C : CH) (a : Option Addr) (n cap : Nat) (V : Nat → WV) (hd : Int) (w : World) (hB : B ≤ w.heap.size) (hc : ChanOwn B w v C) (hC : C.n * 8 ≤ 140737488355328) (hC0 : 0 < C.n) (h : LowW B w a n cap V) (hno : ∀ i, i < n → ¬ Fit V 1 hd i) :
    Calls Try.prog 71 #[v, .int .i64 hd, .slice a n cap] w (DoRet B ⟨C.gen, C.cap, C.used, C.closed, C.n - 1, fun i => C.f (i + 1)⟩ V n 0 (C.f 0) 0 (fun _ _ => 0) w) := by
  obtain ⟨ca, cc, rfl, hrow⟩ := hc
  have HS := Lib.hid h
  have HNO := Lib.hid hno
  have HR := Lib.hid hrow
  have HB0 := Lib.hid (RecvAt.new w C ca cc).1
  have HX := Lib.hid (RecvAt.new w C ca cc).2
  clear hrow h hno
  go_enter Try.func71, Try.ntmps71
  go_upto_region 2 with (fail)
  revert HX HB0
  generalize ((w.alloc (.cells #[.int .i64 C.gen, .int .i64 C.cap, .bool C.used, .bool C.closed, .slice ca C.n cc] 44)).alloc (.cells #[.int .i64 0, .int .i64 0, .bool false, .bool false, .slice none 0 0] 44)).alloc (.cells #[.int .i64 0, .int .i64 0, .int .i64 0, .int .i64 0] 48) = u
  intro HB0 HX
  go_upto_region 6 with (go_at_call 21; go_loud ((with_reducible refine (first_any _ _ _ _ _ _ _ (HS.out.get (HB0.out.mono hB))).mono ?_); rintro e w1 ⟨⟨t', wh', ok, rfl, hf⟩, hb⟩; obtain rfl : ok = false := (by cases ok with | false => rfl | true => exact absurd (hf.ok_iff.1 rfl) (fun ⟨i, hi, hff⟩ => HNO.out i hi hff)); have HX1 := Lib.hid (HX.out.below hb); have HB1 := Lib.hid (HB0.out.trans (hb.mono HB0.out.size)); clear hf hb))
  have hA1 := (Below.refl w1.heap.size w1).alloc (Nat.le_refl _) (.cells #[.int .i64 wh'] 3)
  have HX2 := Lib.hid (HX1.out.below hA1)
  have HB2 := Lib.hid (HB1.out.trans (hA1.mono HB1.out.size))
  have HE := Lib.hid (end_recv w1.heap.size a n cap V none 0 0 (fun _ => 0) (fun _ => wh') 0 0 (w1.alloc (.cells #[.int .i64 wh'] 3)) (HS.out.get (HB2.out.mono hB)) (nil_row _ _) (fun j hj => absurd hj (by omega)) (Nat.zero_le _) (fun i W ca cc ⟨j, hj, _⟩ => absurd hj (by omega)))
  clear hA1
  go_upto_region 7 with (go_at_call 75; go_loud ((with_reducible refine HE.out.mono ?_); rintro e w3 ⟨ra, rc, ta, tc, rfl, hfw, hft, hb⟩; rw [zeroAt_zero] at hfw; have HX3 := Lib.hid (HX2.out.below hb); have HB3 := Lib.hid (HB2.out.trans (hb.mono HB2.out.size)); have HFW := Lib.hid hfw; have HFT := Lib.hid hft; clear hfw hft hb))
  have hU : w.heap.size + 3 < (w1.alloc (.cells #[.int .i64 wh'] 3)).heap.size := by have := HX1.out.size; simp; omega
  revert HFW HFT hU
  generalize (w1.alloc (.cells #[.int .i64 wh'] 3)).heap.size = U
  intro HFW HFT hU
  have HR3 := Lib.hid (own_below HR.out HB3.out)
  have hlt := HR.out.lt
  clear HE HX HX1 HX2 HB0 HB1 HB2
  (obtain ⟨x0, x1, x2, x3, x4, xf⟩ := HX3.out.chan)
  have f9 := xf 4
  obtain ⟨g, cg, rfl⟩ : ∃ g c, ca = some ⟨g, 0, none⟩ := by
    rcases HR3.out.2 with ⟨h1, h2⟩ | ⟨g, c, _, h1, _⟩
    · exact absurd h2 (by omega)
    · simp only [Value.slice.injEq] at h1
      exact ⟨g, c, h1.1⟩
  have hgl := hlt g rfl
  have k0 : w3.cell? ⟨g, 0, none⟩ = some (.int .i64 (C.f 0)) := by rw [HR3.out.cellAt 0 (by omega), rowL_get hC0]
  have i1 : (0 : Int) < (C.n : Int) := by omega
  have nz : ((C.n : Int) == 0) = false := by simp; omega
  have nz2 : ¬ (C.n : Int) = 0 := by omega
  have HD := Lib.hid (delete_first HR3.out hC0)
  clear xf
  go_upto_region 11 with (go_at_call 101; go_loud ((with_reducible refine HD.out.mono ?_); rintro e w4 ⟨rfl, hg, hr⟩; have HX4 := Lib.hid (HX3.out.grown hg (.inl hgl.2)); have HG := Lib.hid hr; have HB4 := Lib.hid ((HB3.out.mono hB).grown hg (by have := HB3.out.size; omega) (fun q e => by injection e with e; omega)); have AG4 := Lib.hid (Agree.grown (B := U) hg (by omega)); have f9 := HX4.out.chan.2.2.2.2.2 4; have x4 := HX4.out.chan.2.2.2.2.1; clear hg hr x0 x1 x2 x3 k0))
  have hw := HX4.out.size
  refine abstract_code (fun v2 => RecvAt w v2 C (.slice (some ⟨g, 0, none⟩) (C.n - 1) cc) ∧ RowG v2 g (C.n - 1) (fun i => C.f (i + 1)) ∧ Below B w v2 ∧ FarW U v2 ra n rc V) ⟨HX4.out.set _, HG.out.set (by omega), HB4.out.setCell hB _, HFW.out.agree (AG4.out.trans (Agree.set (by omega)))⟩ ?_
  clear HX3 HX4 HD HG HB3 HB4 HFW AG4 HR3 HR hw f9 x4
  rintro v2 ⟨hx, hg, hb, hf⟩
  have HG := Lib.hid hg
  have HB4 := Lib.hid hb
  have HF := Lib.hid hf
  have hs2 := hx.size
  clear hg hb hf
  (obtain ⟨x0, x1, x2, x3, x4, xf⟩ := hx.chan)
  (obtain ⟨y0, y1, y2, y3, y4, yf⟩ := hx.ret)
  (obtain ⟨z0, z1, z2, z3, zf⟩ := hx.res)
  have f0 := yf 0
  have f1 := yf 1
  have f2 := yf 2
  have f3 := yf 3
  have f4 := yf 4
  have g0 := zf 0
  have g1 := zf 1
  have g2 := zf 2
  have g3 := zf 3
  clear xf yf zf hx
  go_wp2
  refine bodyPost_ret (v := .tuple #[.agg #[.int .i64 C.gen, .int .i64 C.cap, .bool C.used, .bool C.closed, .slice (some ⟨g, 0, none⟩) (C.n - 1) cc], .slice ra n rc, .agg #[.int .i64 0, .int .i64 0, .int .i64 0, .int .i64 (C.f 0)], .slice ta 0 tc]) (by simp only [results, Try.results71]; go_simp) rfl ?_
  have hg2 : RowG (store4 (store5 v2 (w.heap.size + 1) (.int .i64 C.gen) (.int .i64 C.cap) (.bool C.used) (.bool C.closed) (.slice (some ⟨g, 0, none⟩) (C.n - 1) cc)) (w.heap.size + 2) 0 (.int .i64 0) (.int .i64 0) (.int .i64 0) (.int .i64 (C.f 0))) g (C.n - 1) (fun i => C.f (i + 1)) :=
    (((((((((HG.out.set (by omega)).set (by omega)).set (by omega)).set (by omega)).set (by omega)).set (by omega)).set (by omega)).set (by omega)).set (by omega))
  exact ⟨_, ra, rc, ta, tc, rfl, fun w' hw => ⟨some ⟨g, 0, none⟩, cc, rfl, hg2.far (by omega) (by omega) w' hw⟩, (HF.out.agree ((agree_store5 (by omega)).trans (agree_store4 (by omega)))).mono (by omega), fun w' hw => ⟨by omega, (HFT.out.at).2.1, (HFT.out.at).2.2.1, fun h => absurd h (by omega)⟩, below_store4 (store5_below HB4.out (by omega)) (by omega)⟩
set_option maxRecDepth 100000 in
set_option maxHeartbeats 6400000 in
theorem receive_yes (B : Nat) (v : Value) (C : CH) (a : Option Addr) (n cap : Nat) (V : Nat → WV) (hd : Int) (w : World) (hB : B ≤ w.heap.size) (hc : ChanOwn B w v C) (hC : (C.n + 1) * 8 ≤ 140737488355328) (h : LowW B w a n cap V) (t wh : Nat) (ht : t < n) (hwh : wh < (V t).m) (hfi : ∀ t' wh' ok, FirstIs V n 1 hd t' wh' ok → t' = (t : Int) ∧ wh' = (wh : Int) ∧ ok = true) :
    Calls Try.prog 71 #[v, .int .i64 hd, .slice a n cap] w (DoRet B ⟨C.gen, C.cap, C.used, C.closed, C.n, fun i => updI C.f C.n ((V t).c wh 2) (i + 1)⟩ (zeroAt V (fun _ => (t : Int)) 1) n 0 (updI C.f C.n ((V t).c wh 2) 0) 1 (toldT V (fun _ => (t : Int)) (fun _ => (wh : Int)) 0 0) w) := by
  obtain ⟨ca, cc, rfl, hrow⟩ := hc
  have HS := Lib.hid h
  have HFI := Lib.hid hfi
  have HR := Lib.hid hrow
  have HB0 := Lib.hid (RecvAt.new w C ca cc).1
  have HX := Lib.hid (RecvAt.new w C ca cc).2
  have hlt := hrow.lt
  have HL0 := Lib.hid (fun w' hw => h.get (w' := w') hw)
  clear hrow h hfi
  obtain ⟨tt, htt, htz, htz1, htz2⟩ := info_parts Try.info_int
  have HI := Lib.hid (And.intro htt (And.intro htz (And.intro htz1 htz2)))
  clear htt htz htz1 htz2
  go_enter Try.func71, Try.ntmps71
  go_upto_region 2 with (fail)
  revert HX HB0
  generalize ((w.alloc (.cells #[.int .i64 C.gen, .int .i64 C.cap, .bool C.used, .bool C.closed, .slice ca C.n cc] 44)).alloc (.cells #[.int .i64 0, .int .i64 0, .bool false, .bool false, .slice none 0 0] 44)).alloc (.cells #[.int .i64 0, .int .i64 0, .int .i64 0, .int .i64 0] 48) = u
  intro HB0 HX
  go_upto_if 24 with (go_at_call 21; go_loud ((with_reducible refine (first_any _ _ _ _ _ _ _ (HS.out.get (HB0.out.mono hB))).mono ?_); rintro e w1 ⟨⟨t', wh', ok, rfl, hf⟩, hb⟩; obtain ⟨rfl, rfl, rfl⟩ := HFI.out _ _ _ hf; have HX1 := Lib.hid (HX.out.below hb); have HB1 := Lib.hid (HB0.out.trans (hb.mono HB0.out.size)); clear hf hb))
  have hA1 := (Below.refl w1.heap.size w1).alloc (Nat.le_refl _) (.cells #[.int .i64 (wh : Int)] 3)
  have HX2 := Lib.hid (HX1.out.below hA1)
  have HB2 := Lib.hid (HB1.out.trans (hA1.mono HB1.out.size))
  have HN2 := Lib.hid (NumAt.new w1 (wh : Int))
  have hs2 : w.heap.size + 3 ≤ w1.heap.size ∧ w1.heap.size < (w1.alloc (.cells #[.int .i64 (wh : Int)] 3)).heap.size := by have := HX1.out.size; exact ⟨this, by simp⟩
  clear hA1 HX1 HB1 HX HB0
  revert HX2 HB2 HN2 hs2
  generalize (w1.alloc (.cells #[.int .i64 (wh : Int)] 3)) = w2
  generalize w1.heap.size = pw
  intro HX2 HB2 HN2 hs2
  go_cut [10] from 17 (fun x wc => ∃ eg ec gg gc, x = .slice (some ⟨eg, 0, none⟩) 1 ec ∧ RecvAt w wc C (.slice (some ⟨gg, 0, none⟩) (C.n + 1) gc) ∧ wc.ownsRow B 3 1 (.slice (some ⟨gg, 0, none⟩) (C.n + 1) gc) (C.n + 1) (rowL .i64 (updI C.f C.n ((V t).c wh 2)) (C.n + 1)) ∧ NumAt wc pw (wh : Int) ∧ NumAt wc eg (t : Int) ∧ Below B w wc ∧ (gg < w.heap.size ∨ w.heap.size + 3 ≤ gg))
  case first =>
    go_upto_region 5 with (at_builtin; go_loud (refine app_one w2.heap.size 3 36 rfl _ _ rfl Try.underlying36 Try.info_int (.slice none 0 0) 0 (fun _ => (t : Int)) (t : Int) rfl rfl (by rw [rowL_zero]; exact World.ownsRow_nil _ _ _ _) w2.heap.size rfl rfl (by omega) (Nat.le_refl _) ?_; intro eg ec w3 ho hg _ hl; have hb3 : Below w2.heap.size w2 w3 := (Below.refl _ _).grown hg (Nat.le_refl _) (fun q e => by cases e); have HX3 := Lib.hid (HX2.out.below hb3); have HB3 := Lib.hid (HB2.out.trans (hb3.mono HB2.out.size)); have HN3 := Lib.hid (HN2.out.below hb3); have hel := (ho.lt eg rfl); have HE3 := Lib.hid (show NumAt w3 eg (t : Int) from ⟨hel.2, (ho.cellAt 0 (by omega)).trans rfl⟩); have hb3s := hb3.size; clear ho hg hb3))
    have HR3 := Lib.hid (own_below HR.out HB3.out)
    have HW3 := Lib.hid (HS.out.get (HB3.out.mono hB))
    obtain ⟨lb, lo, rfl, zl, hlc⟩ := HW3.out.get ht
    obtain ⟨qa, qc, _, _, _, l3, hq⟩ := hlc t ht
    obtain ⟨kb, ko, rfl, zk, hkc⟩ := hq.get hwh
    have k2 := hkc wh 2 hwh (by omega)
    have c0 := HN3.out.2
    have zc := HN3.out.1
    have x4 := HX3.out.chan.2.2.2.2.1
    have f4 := HX3.out.chan.2.2.2.2.2 4
    have zp : w.heap.size < w3.heap.size := by have := HX3.out.size; omega
    have t0 : (0 : Int) ≤ (t : Int) := by omega
    have t1 : (t : Int) < (n : Int) := by omega
    have u0 : (0 : Int) ≤ (wh : Int) := by omega
    have u1 : (wh : Int) < ((V t).m : Int) := by omega
    have hBs : B ≤ w3.heap.size := by omega
    clear hlc hq hkc
    go_region_law (first
      | (go_loud (refine step_append_lies _ (by rfl) _ _ _ (by rfl) B 3 tt (.int .i64 0) 1 8 Try.underlying36 HI.out.1 HI.out.2.1 HI.out.2.2.1 HI.out.2.2.2 rfl (by omega) (.slice ca C.n cc) C.n (rowL .i64 C.f C.n) (by rfl) (by first | exact (HR3.out.alloc _).drew | exact HR3.out.alloc _) ⟨w3.heap.size, 0, none⟩ 1 1 [.int .i64 ((V t).c wh 2)] (by rfl) (by rfl) (World.news_of_block (cs := #[.int .i64 ((V t).c wh 2)]) (t := 3) (fr := (0, 0)) (heap_alloc_new w3 _)) (by simp [Value.oneCell']) (by omega) (by unfold maxLen; omega) (by omega) (by simp; omega) (w3.heap.size + 1) (by simp) ?_; intro gg gc w4 ho hg hat hl; have hg4 : w3.grownBy w4 (Value.slice ca C.n cc).ownBlock := (World.grownBy_alloc w3 _ _).trans ⟨hg.os, hg.tape, hg.output, hg.size, hg.block⟩; have HX4 := Lib.hid (HX3.out.grownr hg4 (fun q hq => (hlt q hq).2)); have HO4 := Lib.hid ho; have HAT := Lib.hid (hat.imp (fun e => (hlt gg e)) id); have HG4 := Lib.hid hg4; have x4 := HX4.out.chan.2.2.2.2.1; have f4 := HX4.out.chan.2.2.2.2.2 4; clear ho hg hat hg4 hl)))
    all_goals go_wp2
    all_goals go_meet
    all_goals (case rel => exact ⟨eg, ec, gg, gc, rfl, HX4.out.set _, own_setne (by rw [rowL_succ, upd_same, upd_at]; exact HO4.out) (fun e => absurd (show gg = w.heap.size by injection e) (by rcases HAT.out with h | h <;> omega)), (HN3.out.like HG4.out (fun q hq => (hlt q hq).2) (by omega)).set (by omega), (HE3.out.like HG4.out (fun q hq => (hlt q hq).2) (by omega)).set (by omega), ((HB3.out.mono hB).grown HG4.out hBs (fun q hq => (hlt q hq).1)).setCell hB _, by rcases HAT.out with h | h <;> omega⟩)
  case rest =>
    obtain ⟨eg, ec, g, gc, rfl, hx, ho, hnw, hne, hb, hgg⟩ := hcut
    clear HX2 HB2 HN2 hs2
    obtain ⟨N, hN⟩ : ∃ N, N = C.n + 1 := ⟨_, rfl⟩
    rw [← hN] at hx ho
    have HNN := Lib.hid hN
    have hN0 : 0 < N := by omega
    have hNb : N * 8 ≤ 140737488355328 := by omega
    clear hN
    have HX2 := Lib.hid hx
    have HO2 := Lib.hid ho
    have HB2 := Lib.hid hb
    have hgl := ho.lt g rfl
    have hBs := hb
    have hBU : B ≤ wc.heap.size := by omega
    have HE := Lib.hid (end_recv pw a n cap V (some ⟨eg, 0, none⟩) 1 ec (fun _ => (t : Int)) (fun _ => (wh : Int)) 0 0 wc (HS.out.get hb) ⟨by omega, (fun e => by cases e), fun _ => ⟨eg, 0, rfl, hne.1, fun i hi => by
      obtain rfl : i = 0 := by omega
      exact hne.2⟩⟩ (fun j _ => ⟨t, ht, rfl⟩) (by omega) (fun i W ca cc hex hbW hr => recv_came (V i) ca cc (wh : Int) pw W (hnw.below hbW)))
    clear hx ho hnw hne hb hBs
    go_upto_region 7 with (go_at_call 75; go_loud ((with_reducible refine HE.out.mono ?_); rintro e w3 ⟨ra, rc, ta, tc, rfl, hfw, hft, hb3⟩; have HX3 := Lib.hid (HX2.out.below hb3); have HB3 := Lib.hid (HB2.out.trans (hb3.mono hBU)); have HR3 := Lib.hid (own_below HO2.out hb3); have HFW := Lib.hid hfw; have HFT := Lib.hid hft; have h3s := hb3.size; clear hfw hft hb3))
    have hXs := HX2.out.size
    clear HE HX2 HO2 HB2 HS HFI HR HI HL0
    generalize wc.heap.size = U at *
    (obtain ⟨x0, x1, x2, x3, x4, xf⟩ := HX3.out.chan)
    have f9 := xf 4
    have k0 : w3.cell? ⟨g, 0, none⟩ = some (.int .i64 (updI C.f C.n ((V t).c wh 2) 0)) := by rw [HR3.out.cellAt 0 (by omega), rowL_get hN0]
    have i1 : (0 : Int) < (N : Int) := by omega
    have nz : ((N : Int) == 0) = false := by simp; omega
    have nz2 : ¬ (N : Int) = 0 := by omega
    have HD := Lib.hid (delete_first HR3.out hN0)
    clear xf
    go_upto_region 11 with (go_at_call 101; go_loud ((with_reducible refine HD.out.mono ?_); rintro e w4 ⟨rfl, hg, hr⟩; have HX4 := Lib.hid (HX3.out.grown hg hgg); have HG := Lib.hid hr; have HB4 := Lib.hid (HB3.out.grown hg (by omega) (fun q e => by injection e with e; omega)); have AG4 := Lib.hid (Agree.grown (B := U) hg (by omega)); have f9 := HX4.out.chan.2.2.2.2.2 4; have x4 := HX4.out.chan.2.2.2.2.1; clear hg hr x0 x1 x2 x3 k0))
    have hw := HX4.out.size
    refine abstract_code (fun v2 => RecvAt w v2 C (.slice (some ⟨g, 0, none⟩) (N - 1) gc) ∧ RowG v2 g (N - 1) (fun i => updI C.f C.n ((V t).c wh 2) (i + 1)) ∧ Below B w v2 ∧ FarW U v2 ra n rc (zeroAt V (fun _ => (t : Int)) 1) ∧ FarT U v2 ta 1 tc (toldT V (fun _ => (t : Int)) (fun _ => (wh : Int)) 0 0)) ⟨HX4.out.set _, HG.out.set (by omega), HB4.out.setCell hB _, HFW.out.agree (AG4.out.trans (Agree.set (by omega))), HFT.out.agree (AG4.out.trans (Agree.set (by omega)))⟩ ?_
    clear HX3 HX4 HD HG HB3 HB4 HFW HFT AG4 HR3 hw f9 x4
    rintro v2 ⟨hx, hg, hb, hf, hft⟩
    have HG := Lib.hid hg
    have HB4 := Lib.hid hb
    have HF := Lib.hid hf
    have HT := Lib.hid hft
    have hs2 := hx.size
    clear hg hb hf hft
    (obtain ⟨x0, x1, x2, x3, x4, xf⟩ := hx.chan)
    (obtain ⟨y0, y1, y2, y3, y4, yf⟩ := hx.ret)
    (obtain ⟨z0, z1, z2, z3, zf⟩ := hx.res)
    have f0 := yf 0
    have f1 := yf 1
    have f2 := yf 2
    have f3 := yf 3
    have f4 := yf 4
    have g0 := zf 0
    have g1 := zf 1
    have g2 := zf 2
    have g3 := zf 3
    clear xf yf zf hx
    go_wp2
    refine bodyPost_ret (v := .tuple #[.agg #[.int .i64 C.gen, .int .i64 C.cap, .bool C.used, .bool C.closed, .slice (some ⟨g, 0, none⟩) (N - 1) gc], .slice ra n rc, .agg #[.int .i64 0, .int .i64 0, .int .i64 0, .int .i64 (updI C.f C.n ((V t).c wh 2) 0)], .slice ta 1 tc]) (by simp only [results, Try.results71]; go_simp) rfl ?_
    have hg2 : RowG (store4 (store5 v2 (w.heap.size + 1) (.int .i64 C.gen) (.int .i64 C.cap) (.bool C.used) (.bool C.closed) (.slice (some ⟨g, 0, none⟩) (N - 1) gc)) (w.heap.size + 2) 0 (.int .i64 0) (.int .i64 0) (.int .i64 0) (.int .i64 (updI C.f C.n ((V t).c wh 2) 0))) g (N - 1) (fun i => updI C.f C.n ((V t).c wh 2) (i + 1)) :=
      (((((((((HG.out.set (by omega)).set (by omega)).set (by omega)).set (by omega)).set (by omega)).set (by omega)).set (by omega)).set (by omega)).set (by omega))
    have hN1 : N - 1 = C.n := by have := HNN.out; omega
    have ag : Agree U v2 (store4 (store5 v2 (w.heap.size + 1) (.int .i64 C.gen) (.int .i64 C.cap) (.bool C.used) (.bool C.closed) (.slice (some ⟨g, 0, none⟩) (N - 1) gc)) (w.heap.size + 2) 0 (.int .i64 0) (.int .i64 0) (.int .i64 0) (.int .i64 (updI C.f C.n ((V t).c wh 2) 0))) := (agree_store5 (by omega)).trans (agree_store4 (by omega))
    exact ⟨.agg #[.int .i64 C.gen, .int .i64 C.cap, .bool C.used, .bool C.closed, .slice (some ⟨g, 0, none⟩) (N - 1) gc], ra, rc, ta, tc, rfl, fun w' hw => ⟨some ⟨g, 0, none⟩, gc, by rw [hN1], by have := hg2.far (cap := gc) (by omega) (by omega) w' hw; rw [hN1] at this; exact this⟩, (HF.out.agree ag).mono hBU, (HT.out.agree ag).mono hBU, below_store4 (store5_below HB4.out (by omega)) (by omega)⟩
end Go.Proofs.Ytihpjfhibhpciaa
