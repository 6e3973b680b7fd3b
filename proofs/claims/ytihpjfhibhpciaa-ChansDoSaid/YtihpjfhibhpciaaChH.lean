/- The contract of Shut, over the seat's program. -/
import Derived.Test.YtihpjfhibhpciaaChG
namespace Go.Proofs.Ytihpjfhibhpciaa
open Go.ChangeShapes Go.WideShapes Go.ChangeAt Go.RowKit Go.Joins

/-- What Shut, behind its boxes, has. -/
structure ShutAt (w u : World) (C : CH) (ca : Option Addr) (cc : Nat) (hd : Int) : Prop where
  size : w.heap.size + 3 ≤ u.heap.size
  chan : Box u w.heap.size (.int .i64 C.gen) (.int .i64 C.cap) (.bool C.used) (.bool C.closed) (.slice ca C.n cc)
  num : NumAt u (w.heap.size + 1) hd
  ret : Box u (w.heap.size + 2) (.int .i64 0) (.int .i64 0) (.bool false) (.bool false) (.slice none 0 0)
  bel : Below w.heap.size w u
theorem ShutAt.below {w u u' : World} {C : CH} {ca : Option Addr} {cc : Nat} {hd : Int} (h : ShutAt w u C ca cc hd) (hb : Below u.heap.size u u') : ShutAt w u' C ca cc hd :=
  ⟨Nat.le_trans h.size hb.size, h.chan.below (by have := h.size; omega) hb, h.num.below hb, h.ret.below (by have := h.size; omega) hb, h.bel.trans (hb.mono h.bel.size)⟩
theorem ShutAt.new (w : World) (C : CH) (ca : Option Addr) (cc : Nat) (hd : Int) : ShutAt w (((w.alloc (.cells #[.int .i64 C.gen, .int .i64 C.cap, .bool C.used, .bool C.closed, .slice ca C.n cc] 44)).alloc (.cells #[.int .i64 hd] 3)).alloc (.cells #[.int .i64 0, .int .i64 0, .bool false, .bool false, .slice none 0 0] 44)) C ca cc hd := by
  have b1 : ∀ (W : World) o, Below W.heap.size W (W.alloc o) := fun W o => (Below.refl _ _).alloc (Nat.le_refl _) _
  refine ⟨by simp, ?_, ?_, ?_, (((Below.refl _ _).alloc (Nat.le_refl _) _).alloc (by simp) _).alloc (by simp; omega) _⟩
  · exact ((Box.new w _).below (by simp) (b1 _ _)).below (by simp; omega) (b1 _ _)
  · have := NumAt.new (w.alloc (.cells #[.int .i64 C.gen, .int .i64 C.cap, .bool C.used, .bool C.closed, .slice ca C.n cc] 44)) hd
    rw [World.size_alloc] at this
    exact this.below (b1 _ _)
  · have := Box.new (a := .int .i64 0) (b := .int .i64 0) (c := .bool false) (d := .bool false) (e := .slice none 0 0) ((w.alloc (.cells #[.int .i64 C.gen, .int .i64 C.cap, .bool C.used, .bool C.closed, .slice ca C.n cc] 44)).alloc (.cells #[.int .i64 hd] 3)) 44
    rw [World.size_alloc, World.size_alloc] at this
    exact this
theorem ShutAt.set {w u : World} {C : CH} {ca : Option Addr} {cc : Nat} {hd : Int} {D o : Nat} {x : Value} (h : ShutAt w u C ca cc hd) (hD : w.heap.size + 3 ≤ D) : ShutAt w (u.setCell ⟨D, o, none⟩ x) C ca cc hd :=
  ⟨by simpa using h.size, h.chan.set_far (by omega), h.num.set (by omega), h.ret.set_far (by omega), h.bel.setCell (by show _ ≤ D; omega) _⟩
theorem Box.set3 {w : World} {p : Nat} {a b c d e : Value} (h : Box w p a b c d e) (x : Value) : Box (w.setCell ⟨p, 3, none⟩ x) p a b c x e := by
  obtain ⟨h0, h1, h2, h3, h4, hf⟩ := h
  exact ⟨by rw [cell_set_ne (.inr (by decide))]; exact h0, by rw [cell_set_ne (.inr (by decide))]; exact h1, by rw [cell_set_ne (.inr (by decide))]; exact h2, World.cell?_setCell_same _ _ _ h3, by rw [cell_set_ne (.inr (by decide))]; exact h4, fun i => by simpa using hf i⟩
set_option maxRecDepth 100000 in
set_option maxHeartbeats 3200000 in
theorem shut_no (v : Value) (C : CH) (a : Option Addr) (n cap : Nat) (hd : Int) (w : World) (hc : ∃ ca cc, v = .agg #[.int .i64 C.gen, .int .i64 C.cap, .bool C.used, .bool C.closed, .slice ca C.n cc]) (hr : C.used = false ∨ C.closed = true) :
    Calls Try.prog 39 #[v, .int .i64 hd, .slice a n cap] w fun e w' => e = .returned (.tuple #[.agg #[.int .i64 0, .int .i64 0, .bool false, .bool false, .slice none 0 0], .slice none 0 0, .int .i64 9, .slice none 0 0]) ∧ Below w.heap.size w w' := by
  obtain ⟨ca, cc, rfl⟩ := hc
  have HX := Lib.hid (ShutAt.new w C ca cc hd)
  by_cases hu : C.used = false
  · clear hr
    go_enter Try.func39, Try.ntmps39
    go_upto_region 1 with (fail)
    go_wp2
    exact bodyPost_ret (v := .tuple #[.agg #[.int .i64 0, .int .i64 0, .bool false, .bool false, .slice none 0 0], .slice none 0 0, .int .i64 9, .slice none 0 0]) (by simp only [results, Try.results39]; go_simp) rfl ⟨rfl, (((Below.refl _ _).alloc (Nat.le_refl _) _).alloc (by simp) _).alloc (by simp; omega) _⟩
  · have hu : C.used = true := by simpa using hu
    have hcl : C.closed = true := by
      rcases hr with h | h
      · rw [hu] at h; cases h
      · exact h
    clear hr
    go_enter Try.func39, Try.ntmps39
    go_upto_region 1 with (fail)
    go_wp2
    exact bodyPost_ret (v := .tuple #[.agg #[.int .i64 0, .int .i64 0, .bool false, .bool false, .slice none 0 0], .slice none 0 0, .int .i64 9, .slice none 0 0]) (by simp only [results, Try.results39]; go_simp) rfl ⟨rfl, (((Below.refl _ _).alloc (Nat.le_refl _) _).alloc (by simp) _).alloc (by simp; omega) _⟩
/-- What comes back of a channel that is closed. -/
def ShutRet (B : Nat) (C : CH) (V : Nat → WV) (n : Nat) (hd : Int) (w : World) (e : Ending) (w' : World) : Prop :=
  ∃ m f cv ra rc ta tc, OnIs V hd n m f ∧ e = .returned (.tuple #[cv, .slice ra n rc, .int .i64 0, .slice ta m tc]) ∧ FarC B w' cv ⟨C.gen, C.cap, C.used, true, C.n, C.f⟩ ∧ FarW B w' ra n rc (zeroAt V f m) ∧ FarT B w' ta m tc (toldT V f (fun i => idxH (V i) hd) 9 0) ∧ Below B w w'
set_option maxRecDepth 100000 in
set_option maxHeartbeats 3200000 in
theorem shut_yes (v : Value) (C : CH) (a : Option Addr) (n cap : Nat) (V : Nat → WV) (hd : Int) (w : World) (hc : ChanAt w v C) (h : WaitsAt w a n cap V) (hu : C.used = true) (hcl : C.closed = false) :
    Calls Try.prog 39 #[v, .int .i64 hd, .slice a n cap] w (ShutRet w.heap.size C V n hd w) := by
  have hn := h.1
  obtain ⟨ca, cc, rfl, hrow⟩ := hc
  have HC := Lib.hid (show ChanAt w (.agg #[.int .i64 C.gen, .int .i64 C.cap, .bool C.used, .bool C.closed, .slice ca C.n cc]) C from ⟨ca, cc, rfl, hrow⟩)
  have HC8 := Lib.hid (show C.n * 8 ≤ 140737488355328 from Nat.le_trans hrow.1 (by decide))
  have HS := Lib.hid h
  have HX := Lib.hid (ShutAt.new w C ca cc hd)
  clear hrow h
  go_enter Try.func39, Try.ntmps39
  have HU := Lib.hid hu
  have HCL := Lib.hid hcl
  clear hu hcl
  go_upto_region 1 with (fail)
  revert HX
  generalize ((w.alloc (.cells #[.int .i64 C.gen, .int .i64 C.cap, .bool C.used, .bool C.closed, .slice ca C.n cc] 44)).alloc (.cells #[.int .i64 hd] 3)).alloc (.cells #[.int .i64 0, .int .i64 0, .bool false, .bool false, .slice none 0 0] 44) = u
  intro HX
  (obtain ⟨x0, x1, x2, x3, x4, xf⟩ := HX.out.chan)
  clear xf
  have x2' := x2
  have x3' := x3
  rw [HU.out] at x2
  rw [HCL.out] at x3
  go_upto_region 3 with (fail)
  clear x2 x3
  go_upto_region 4 with (go_at_call 70; go_loud ((with_reducible refine (ccopy_any _ C u (HC.out.below HX.out.bel)).mono ?_); rintro e w1 ⟨⟨v1, rfl, ho⟩, hb⟩; obtain ⟨ba, bc, rfl, ho⟩ := ho; have HO := Lib.hid ho; have HX1 := Lib.hid (HX.out.below hb); clear ho hb x0 x1 x2' x3' x4))
  have hu2 := HX.out.size
  have HA := Lib.hid ((Below.refl w1.heap.size w1).alloc (Nat.le_refl _) (.cells #[.int .i64 C.gen, .int .i64 C.cap, .bool C.used, .bool C.closed, .slice ba C.n bc] 44))
  have HX2 := Lib.hid (HX1.out.below HA.out)
  have HD2 := Lib.hid (Box.new (a := .int .i64 C.gen) (b := .int .i64 C.cap) (c := .bool C.used) (d := .bool C.closed) (e := .slice ba C.n bc) w1 44)
  have HO2 := Lib.hid (ownsRow_le (own_below HO.out HA.out) (show w.heap.size + 3 ≤ u.heap.size + 2 by omega))
  have hne := Lib.hid (show (Value.slice ba C.n bc).ownBlock ≠ some w1.heap.size from fun e => by have := (HO.out.lt _ e).2; omega)
  have hq : w1.heap.size < (w1.alloc (.cells #[.int .i64 C.gen, .int .i64 C.cap, .bool C.used, .bool C.closed, .slice ba C.n bc] 44)).heap.size := by simp
  have hq2 : w.heap.size + 3 ≤ w1.heap.size := HX1.out.size
  clear HX HX1 HO HA hu2
  revert HX2 HD2 HO2 hne hq hq2
  generalize w1.alloc (.cells #[.int .i64 C.gen, .int .i64 C.cap, .bool C.used, .bool C.closed, .slice ba C.n bc] 44) = u2
  generalize w1.heap.size = D
  intro HX2 HD2 HO2 hne hq hq2
  (obtain ⟨d0, d1, d2, d3, d4, df⟩ := HD2.out)
  have df3 := df 3
  clear df
  go_upto_region 5 with (fail)
  refine abstract_code (fun v2 => ShutAt w v2 C ca cc hd ∧ Box v2 D (.int .i64 C.gen) (.int .i64 C.cap) (.bool C.used) (.bool true) (.slice ba C.n bc) ∧ v2.ownsRow (w.heap.size + 3) 3 1 (.slice ba C.n bc) C.n (rowL .i64 C.f C.n) ∧ D < v2.heap.size)
    ⟨HX2.out.set (by omega), HD2.out.set3 _, own_setne HO2.out hne.out, by simpa using hq⟩ ?_
  clear HX2 HD2 HO2 hq d0 d1 d2 d3 d4 df3 hne
  rintro v2 ⟨hx, hd2, ho2, hq⟩
  have HX3 := Lib.hid hx
  have HD3 := Lib.hid hd2
  have HO3 := Lib.hid ho2
  have c0 := hx.num.2
  clear hx hd2 ho2
  go_upto_region 6 with (first
    | (go_at_call 24; go_loud ((with_reducible refine (on_any a n cap V hd _ (HS.out.below HX3.out.bel)).mono ?_); rintro e w3 ⟨oa, m, oc, f, rfl, hro, hon, hb⟩; have HX4 := Lib.hid (HX3.out.below hb); have HD4 := Lib.hid (HD3.out.below hq hb); have HO4 := Lib.hid (own_below HO3.out hb); have hq4 := Nat.lt_of_lt_of_le hq hb.size; have HON := Lib.hid hon; have HE := Lib.hid (end_shut (w.heap.size + 1) a n cap V oa m oc f (fun i => idxH (V i) hd) 9 0 w3 (HS.out.below HX4.out.bel) hro (fun j hj => (hon.are j hj).elim fun i h => ⟨i, h.1, h.2.1⟩) hon.few (fun i W ca cc _ hb hr => shut_came (V i) ca cc hd (w.heap.size + 1) W (HX4.out.num.below hb) hr)); clear hro hon hb c0 HX3 HD3 HO3 hq))
    | (go_at_call 75; go_loud ((with_reducible refine HE.out.mono ?_); rintro e w4 ⟨ra, rc, ta, tc, rfl, hfw, hft, hb⟩; have HX5 := Lib.hid (HX4.out.below hb); have HD5 := Lib.hid (HD4.out.below hq4 hb); have HO5 := Lib.hid (own_below HO4.out hb); have HFW := Lib.hid hfw; have HFT := Lib.hid hft; have hs3 := HX4.out.size; clear hfw hft hb HX4 HD4 HO4 HE)))
  (obtain ⟨d0, d1, d2, d3, d4, df⟩ := HD5.out)
  clear df
  (obtain ⟨y0, y1, y2, y3, y4, yf⟩ := HX5.out.ret)
  have f0 := yf 0
  have f1 := yf 1
  have f2 := yf 2
  have f3 := yf 3
  have f4 := yf 4
  clear yf
  go_wp2
  refine bodyPost_ret (v := .tuple #[.agg #[.int .i64 C.gen, .int .i64 C.cap, .bool C.used, .bool true, .slice ba C.n bc], .slice ra n rc, .int .i64 0, .slice ta m tc]) (by simp only [results, Try.results39]; go_simp) rfl ?_
  have ag : Agree w3.heap.size w4 (store5 w4 (w.heap.size + 2) (.int .i64 C.gen) (.int .i64 C.cap) (.bool C.used) (.bool true) (.slice ba C.n bc)) := agree_store5 (by omega)
  have lt := HO5.out.lt
  exact ⟨m, f, _, ra, rc, ta, tc, HON.out, rfl, (chan_far (C := ⟨C.gen, C.cap, C.used, true, C.n, C.f⟩) HC8.out ⟨ba, bc, rfl, own_store5 HO5.out (fun e => by have := (lt _ e).1; omega)⟩).mono (by omega), (HFW.out.agree ag).mono (by omega), (HFT.out.agree ag).mono (by omega), store5_below HX5.out.bel (by omega)⟩
end Go.Proofs.Ytihpjfhibhpciaa
