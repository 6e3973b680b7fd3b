/- The walk of ChansDo over the seat's program. -/
import Derived.Test.YtihpjfhibhpciaaChY
import Derived.Test.YtihpjfhibhpciaaWtF
namespace Go.Proofs.Ytihpjfhibhpciaa
open Go.ChangeShapes Go.WideShapes Go.ChangeAt Go.RowKit Go.Joins

theorem OwnP.isZ {P : Nat → Prop} {w : World} {n c : Nat} {a : Option Addr} {f : Nat → Int} (hl : n * 8 ≤ 140737488355328) (h : OwnP P w 3 1 (.slice a n c) n (rowL .i64 f n)) : RowZ w a n c f := by
  obtain ⟨a', c', e, hr⟩ := h.rowZ hl
  simp only [Value.slice.injEq, true_and] at e
  obtain ⟨rfl, rfl⟩ := e
  exact hr
structure LA (W v : World) (C : CH) (ca : Option Addr) (cc : Nat) (a : Option Addr) (n cap : Nat) (V : Nat → WV) (D1 : Nat) (wa : Option Addr) (wc : Nat) (wra : Option Addr) (wrc : Nat) : Prop where
  chan : Box v W.heap.size (.int .i64 C.gen) (.int .i64 C.cap) (.bool C.used) (.bool C.closed) (.slice ca C.n cc)
  was : Box v D1 (.int .i64 C.gen) (.int .i64 C.cap) (.bool C.used) (.bool C.closed) (.slice wa C.n wc)
  row : RowAt .i64 v ca C.n cc C.f
  wrow : RowZ v wa C.n wc C.f
  wts : WaitsAt v a n cap V
  wwts : WaitsAt v wra n wrc V
  bel : Below W.heap.size W v
  lt : W.heap.size < v.heap.size ∧ D1 < v.heap.size
theorem LA.below {W v v' : World} {C : CH} {ca : Option Addr} {cc : Nat} {a : Option Addr} {n cap : Nat} {V : Nat → WV} {D1 : Nat} {wa : Option Addr} {wc : Nat} {wra : Option Addr} {wrc : Nat} (h : LA W v C ca cc a n cap V D1 wa wc wra wrc) (hb : Below v.heap.size v v') : LA W v' C ca cc a n cap V D1 wa wc wra wrc :=
  ⟨h.chan.below h.lt.1 hb, h.was.below h.lt.2 hb, h.row.below hb, h.wrow.below hb, h.wts.below hb, h.wwts.below hb, h.bel.trans (hb.mono h.bel.size), Nat.lt_of_lt_of_le h.lt.1 hb.size, Nat.lt_of_lt_of_le h.lt.2 hb.size⟩
theorem LA.is {W v : World} {C : CH} {ca : Option Addr} {cc : Nat} {a : Option Addr} {n cap : Nat} {V : Nat → WV} {D1 : Nat} {wa : Option Addr} {wc : Nat} {wra : Option Addr} {wrc : Nat} (h : LA W v C ca cc a n cap V D1 wa wc wra wrc) : ChanAt v (.agg #[.int .i64 C.gen, .int .i64 C.cap, .bool C.used, .bool C.closed, .slice ca C.n cc]) C := ⟨ca, cc, rfl, h.row⟩
theorem bool_same {p q : Bool} {P : Prop} (h : p = true ↔ P) (h' : q = true ↔ P) : q = p := by
  cases p <;> cases q <;> simp_all
structure LB (v : World) (C1 : CH) (D2 : Nat) (aa : Option Addr) (ac : Nat) (ra : Option Addr) (n rc : Nat) (V1 : Nat → WV) (c1 r1 : Int) (ta : Option Addr) (m1 tc : Nat) (T : Nat → Nat → Int) : Prop where
  chan : Box v D2 (.int .i64 C1.gen) (.int .i64 C1.cap) (.bool C1.used) (.bool C1.closed) (.slice aa C1.n ac)
  res : Box4 v (D2 + 1) (.int .i64 0) (.int .i64 0) (.int .i64 c1) (.int .i64 r1)
  row : RowZ v aa C1.n ac C1.f
  wts : WaitsAt v ra n rc V1
  told : RowS 5 v ta m1 tc T
  lt : D2 + 1 < v.heap.size
theorem LB.below {v v' : World} {C1 : CH} {D2 : Nat} {aa : Option Addr} {ac : Nat} {ra : Option Addr} {n rc : Nat} {V1 : Nat → WV} {c1 r1 : Int} {ta : Option Addr} {m1 tc : Nat} {T : Nat → Nat → Int} (h : LB v C1 D2 aa ac ra n rc V1 c1 r1 ta m1 tc T) (hb : Below v.heap.size v v') : LB v' C1 D2 aa ac ra n rc V1 c1 r1 ta m1 tc T :=
  ⟨h.chan.below (by have := h.lt; omega) hb, h.res.below h.lt hb, h.row.below hb, h.wts.below hb, h.told.below hb, Nat.lt_of_lt_of_le h.lt hb.size⟩
structure LG (v : World) (C1 : CH) (D3 : Nat) (ga : Option Addr) (gc : Nat) (gra : Option Addr) (n grc : Nat) (V1 : Nat → WV) (c1 r1 : Int) (gta : Option Addr) (m1 gtc : Nat) (T : Nat → Nat → Int) : Prop where
  got : G11 v D3 C1 (.slice ga C1.n gc) (.slice gra n grc) c1 r1 (.slice gta m1 gtc)
  row : RowZ v ga C1.n gc C1.f
  wts : WaitsAt v gra n grc V1
  told : RowS 5 v gta m1 gtc T
  lt : D3 < v.heap.size
theorem LG.below {v v' : World} {C1 : CH} {D3 : Nat} {ga : Option Addr} {gc : Nat} {gra : Option Addr} {n grc : Nat} {V1 : Nat → WV} {c1 r1 : Int} {gta : Option Addr} {m1 gtc : Nat} {T : Nat → Nat → Int} (h : LG v C1 D3 ga gc gra n grc V1 c1 r1 gta m1 gtc T) (hb : Below v.heap.size v v') : LG v' C1 D3 ga gc gra n grc V1 c1 r1 gta m1 gtc T :=
  ⟨h.got.below h.lt hb, h.row.below hb, h.wts.below hb, h.told.below hb, Nat.lt_of_lt_of_le h.lt hb.size⟩
theorem G11.lay (w : World) (C : CH) (bv L td : Value) (code val : Int) (t : TypeId) : G11 (w.alloc (.cells #[.int .i64 C.gen, .int .i64 C.cap, .bool C.used, .bool C.closed, bv, L, .int .i64 0, .int .i64 0, .int .i64 code, .int .i64 val, td] t)) w.heap.size C bv L code val td := by
  refine ⟨?_, ?_, ?_, ?_, ?_, ?_, ?_, ?_, ?_, ?_, ?_, fun i => frozen_of_row _ _ _ _ t (heap_alloc_new w _)⟩ <;> (rw [cell_of_row _ _ _ _ t (0, 0) (heap_alloc_new w _)]; rfl)
set_option maxRecDepth 100000 in
set_option maxHeartbeats 3200000 in
theorem do_walk (ca : Option Addr) (cc : Nat) (C : CH) (hd : Int) (a : Option Addr) (n cap : Nat) (V : Nat → WV) (dir x : Int) (W : World) (hc : ChanAt W (.agg #[.int .i64 C.gen, .int .i64 C.cap, .bool C.used, .bool C.closed, .slice ca C.n cc]) C) (h : WaitsAt W a n cap V) :
    Calls Try.prog 7 #[.agg #[.int .i64 C.gen, .int .i64 C.cap, .bool C.used, .bool C.closed, .slice ca C.n cc], .int .i64 hd, .slice a n cap, .int .i64 dir, .int .i64 x] W fun e w' => e = .returned (.bool true) ∧ Below W.heap.size W w' := by
  have hn := h.1
  have hrow : RowAt .i64 W ca C.n cc C.f := by
    obtain ⟨_, _, e, hr⟩ := hc
    simp only [Value.agg.injEq, Array.mk.injEq, List.cons.injEq, Value.slice.injEq, true_and, and_true] at e
    obtain ⟨rfl, rfl⟩ := e
    exact hr
  have hC8 := hrow.1
  have hm : C.n ≤ maxLen := by unfold maxLen; omega
  have HB0 := Lib.hid ((Below.refl W.heap.size W).alloc (Nat.le_refl _) (.cells #[.int .i64 C.gen, .int .i64 C.cap, .bool C.used, .bool C.closed, .slice ca C.n cc] 44))
  have HX := Lib.hid (Box.new (a := .int .i64 C.gen) (b := .int .i64 C.cap) (c := .bool C.used) (d := .bool C.closed) (e := .slice ca C.n cc) W 44)
  have HROW := Lib.hid (hrow.below HB0.out)
  have HS := Lib.hid (h.below HB0.out)
  have hz : W.heap.size < (W.alloc (.cells #[.int .i64 C.gen, .int .i64 C.cap, .bool C.used, .bool C.closed, .slice ca C.n cc] 44)).heap.size := by simp
  clear hc h hrow
  go_enter Try.func7, Try.ntmps7
  go_upto_region 1 with (fail)
  revert HB0 HX HROW HS hz
  generalize W.alloc (.cells #[.int .i64 C.gen, .int .i64 C.cap, .bool C.used, .bool C.closed, .slice ca C.n cc] 44) = u
  intro HB0 HX HROW HS hz
  (obtain ⟨x0, x1, x2, x3, x4, xf⟩ := HX.out)
  clear xf
  go_upto_region 2 with (first
    | (go_at_call 30; go_loud ((with_reducible refine (rchan_copy ca cc C u HROW.out.z hm).mono ?_); rintro e w1 ⟨⟨wa, wc, rfl, ho⟩, hb⟩; have HWR := Lib.hid (ho.isZ (by omega)); have HB1 := Lib.hid (HB0.out.trans (hb.mono HB0.out.size)); have HS1 := Lib.hid (HS.out.below hb); have HR1 := Lib.hid (HROW.out.below hb); have HX1 := Lib.hid (HX.out.below hz hb); have hz1 := Nat.lt_of_lt_of_le hz hb.size; clear ho hb x0 x1 x2 x3 x4))
    | (go_at_call 14; go_loud ((with_reducible refine ((rcopy_any _ _ _ _ _ HS1.out).mono fun _ _ hr => hr.at hn).mono ?_); rintro e w2 ⟨wra, wrc, rfl, hww, hb⟩; have HWW := Lib.hid hww; have HWR2 := Lib.hid (HWR.out.below hb); have HB2 := Lib.hid (HB1.out.trans (hb.mono HB1.out.size)); have HS2 := Lib.hid (HS1.out.below hb); have HR2 := Lib.hid (HR1.out.below hb); have HX2 := Lib.hid (HX1.out.below hz1 hb); have hz2 := Nat.lt_of_lt_of_le hz1 hb.size; clear hww hb)))
  have hAA : Below w2.heap.size w2 (w2.alloc (.cells #[.int .i64 C.gen, .int .i64 C.cap, .bool C.used, .bool C.closed, .slice wa C.n wc] 44)) := (Below.refl _ _).alloc (Nat.le_refl _) _
  refine abstract_code (fun v => LA W v C ca cc a n cap V w2.heap.size wa wc wra wrc) ⟨HX2.out.below hz2 hAA, Box.new w2 _, HR2.out.below hAA, HWR2.out.below hAA, HS2.out.below hAA, HWW.out.below hAA, HB2.out.trans (hAA.mono HB2.out.size), by simp; omega, by simp⟩ ?_
  generalize w2.heap.size = D1
  clear hAA HX HX1 HX2 HB0 HB1 HB2 HS HS1 HS2 HROW HR1 HR2 HWR HWR2 HWW hz hz1 hz2
  intro v1 h1
  have HA1 := Lib.hid h1
  (obtain ⟨x0, x1, x2, x3, x4, _⟩ := h1.chan)
  clear h1
  go_upto_region 3 with (go_at_call 31; go_loud ((with_reducible refine (do_any _ C _ n cap V hd dir x v1 HA1.out.is HA1.out.wts hC8).mono ?_); rintro e w3 ⟨C1, V1, c1, r1, m1, T1, hi, cv, ra, rc, ta, tc, rfl, hfc, hfw, hft, hb⟩; obtain ⟨aa, ac, rfl, hz3⟩ := hfc.at; have HI := Lib.hid hi; have HZ3 := Lib.hid hz3; have HW3 := Lib.hid hfw.at; have HT3 := Lib.hid hft.at; have HA3 := Lib.hid (HA1.out.below hb); clear hi hfc hfw hft hb hz3 x0 x1 x2 x3 x4))
  have hAA : Below w3.heap.size w3 ((w3.alloc (.cells #[.int .i64 C1.gen, .int .i64 C1.cap, .bool C1.used, .bool C1.closed, .slice aa C1.n ac] 44)).alloc (.cells #[.int .i64 0, .int .i64 0, .int .i64 c1, .int .i64 r1] 48)) := ((Below.refl _ _).alloc (Nat.le_refl _) _).alloc (by simp) _
  have hr4 := Box4.new (a := .int .i64 0) (b := .int .i64 0) (c := .int .i64 c1) (d := .int .i64 r1) (w3.alloc (.cells #[.int .i64 C1.gen, .int .i64 C1.cap, .bool C1.used, .bool C1.closed, .slice aa C1.n ac] 44)) 48
  rw [World.size_alloc] at hr4
  refine abstract_code (fun v => LA W v C ca cc a n cap V D1 wa wc wra wrc ∧ LB v C1 w3.heap.size aa ac ra n rc V1 c1 r1 ta m1 tc T1) ⟨HA3.out.below hAA, (Box.new w3 _).below (by simp) ((Below.refl _ _).alloc (Nat.le_refl _) _), hr4, HZ3.out.below hAA, HW3.out.below hAA, HT3.out.below hAA, by simp⟩ ?_
  generalize w3.heap.size = D2
  clear hAA hr4 HA1 HA3 HZ3 HW3 HT3
  rintro v4 ⟨h4, k4⟩
  have HA4 := Lib.hid h4
  have HB4 := Lib.hid k4
  (obtain ⟨x0, x1, x2, x3, x4, _⟩ := h4.chan)
  clear h4 k4
  go_upto_region 4 with (go_at_call 32; go_loud ((with_reducible refine (rdo_any ca cc C hd a n cap V dir x v4 HA4.out.row HA4.out.wts).mono ?_); rintro e w5 ⟨C2, V2, c2, r2, m2, T2, ga, gc, gra, grc, gta, gtc, hi2, rfl, hz5, hw5, ht5, hb⟩; obtain ⟨e1, e2, e3, e4, e5, hT⟩ := HI.out.one hi2; subst e1 e2 e3 e4 e5; have HZ5 := Lib.hid hz5; have HW5 := Lib.hid hw5; have HT5 := Lib.hid (ht5.same (fun i j hi _ => (hT i j hi).symm)); have HA5 := Lib.hid (HA4.out.below hb); have HB5 := Lib.hid (HB4.out.below hb); clear hi2 hz5 hw5 ht5 hb hT x0 x1 x2 x3 x4))
  have hAA : Below w5.heap.size w5 (w5.alloc (.cells #[.int .i64 C1.gen, .int .i64 C1.cap, .bool C1.used, .bool C1.closed, .slice ga C1.n gc, .slice gra n grc, .int .i64 0, .int .i64 0, .int .i64 c1, .int .i64 r1, .slice gta m1 gtc] 53)) := (Below.refl _ _).alloc (Nat.le_refl _) _
  refine abstract_code (fun v => LA W v C ca cc a n cap V D1 wa wc wra wrc ∧ LB v C1 D2 aa ac ra n rc V1 c1 r1 ta m1 tc T1 ∧ LG v C1 w5.heap.size ga gc gra n grc V1 c1 r1 gta m1 gtc T1) ⟨HA5.out.below hAA, HB5.out.below hAA, G11.lay w5 C1 _ _ _ _ _ _, HZ5.out.below hAA, HW5.out.below hAA, HT5.out.below hAA, by simp⟩ ?_
  generalize w5.heap.size = D3
  clear hAA HA4 HB4 HA5 HB5 HZ5 HW5 HT5 HI
  rintro v6 ⟨hA, hB, hG⟩
  have HA0 := Lib.hid (hA.below (Below.drew (Below.refl _ _)))
  have HB0 := Lib.hid (hB.below (Below.drew (Below.refl _ _)))
  have HG0 := Lib.hid (hG.below (Below.drew (Below.refl _ _)))
  (obtain ⟨x0, x1, x2, x3, x4, _⟩ := hA.chan)
  (obtain ⟨w0, w1, w2, w3, w4, _⟩ := hA.was)
  (obtain ⟨y0, y1, y2, y3, y4, _⟩ := hB.chan)
  (obtain ⟨z0, z1, z2, z3, _⟩ := hB.res)
  (obtain ⟨g0, g1, g2, g3, g4, g5, g6, g7, g8, g9, g10, _⟩ := hG.got)
  clear hA hB hG
  go_region_held3 (fun ww => ww.cell? ⟨W.heap.size, 0, none⟩ = some (.int .i64 C.gen) ∧ ww.cell? ⟨W.heap.size, 1, none⟩ = some (.int .i64 C.cap) ∧ ww.cell? ⟨W.heap.size, 2, none⟩ = some (.bool C.used) ∧ ww.cell? ⟨W.heap.size, 3, none⟩ = some (.bool C.closed) ∧ ww.cell? ⟨W.heap.size, 4, none⟩ = some (.slice ca C.n cc) ∧ ww.cell? ⟨D1, 0, none⟩ = some (.int .i64 C.gen) ∧ ww.cell? ⟨D1, 1, none⟩ = some (.int .i64 C.cap) ∧ ww.cell? ⟨D1, 2, none⟩ = some (.bool C.used) ∧ ww.cell? ⟨D1, 3, none⟩ = some (.bool C.closed) ∧ ww.cell? ⟨D1, 4, none⟩ = some (.slice wa C.n wc) ∧ ww.cell? ⟨D2, 0, none⟩ = some (.int .i64 C1.gen) ∧ ww.cell? ⟨D2, 1, none⟩ = some (.int .i64 C1.cap) ∧ ww.cell? ⟨D2, 2, none⟩ = some (.bool C1.used) ∧ ww.cell? ⟨D2, 3, none⟩ = some (.bool C1.closed) ∧ ww.cell? ⟨D2, 4, none⟩ = some (.slice aa C1.n ac) ∧ ww.cell? ⟨(D2 + 1), 0, none⟩ = some (.int .i64 0) ∧ ww.cell? ⟨(D2 + 1), 1, none⟩ = some (.int .i64 0) ∧ ww.cell? ⟨(D2 + 1), 2, none⟩ = some (.int .i64 c1) ∧ ww.cell? ⟨(D2 + 1), 3, none⟩ = some (.int .i64 r1) ∧ ww.cell? ⟨D3, 0, none⟩ = some (.int .i64 C1.gen) ∧ ww.cell? ⟨D3, 1, none⟩ = some (.int .i64 C1.cap) ∧ ww.cell? ⟨D3, 2, none⟩ = some (.bool C1.used) ∧ ww.cell? ⟨D3, 3, none⟩ = some (.bool C1.closed) ∧ ww.cell? ⟨D3, 4, none⟩ = some (.slice ga C1.n gc) ∧ ww.cell? ⟨D3, 5, none⟩ = some (.slice gra n grc) ∧ ww.cell? ⟨D3, 6, none⟩ = some (.int .i64 0) ∧ ww.cell? ⟨D3, 7, none⟩ = some (.int .i64 0) ∧ ww.cell? ⟨D3, 8, none⟩ = some (.int .i64 c1) ∧ ww.cell? ⟨D3, 9, none⟩ = some (.int .i64 r1) ∧ ww.cell? ⟨D3, 10, none⟩ = some (.slice gta m1 gtc))
    (first | with_reducible exact ⟨x0, x1, x2, x3, x4, w0, w1, w2, w3, w4, y0, y1, y2, y3, y4, z0, z1, z2, z3, g0, g1, g2, g3, g4, g5, g6, g7, g8, g9, g10⟩ | (go_simp; done) | go_keep)
    (first
      | (go_at_call 33; (with_reducible refine (ready_any _ C a n cap V hd dir _ HA0.out.is HA0.out.wts).mono ?_); rintro e v7 ⟨⟨q1, rfl, hq1⟩, hb⟩; have HQ1 := Lib.hid hq1; clear hq1; have HA1 := Lib.hid (HA0.out.below hb); have HB1 := Lib.hid (HB0.out.below hb); have HG1 := Lib.hid (HG0.out.below hb); clear hb x0 x1 x2 x3 x4 w0 w1 w2 w3 w4 y0 y1 y2 y3 y4 z0 z1 z2 z3 g0 g1 g2 g3 g4 g5 g6 g7 g8 g9 g10; obtain ⟨x0, x1, x2, x3, x4, _⟩ := HA1.out.chan; obtain ⟨w0, w1, w2, w3, w4, _⟩ := HA1.out.was; obtain ⟨y0, y1, y2, y3, y4, _⟩ := HB1.out.chan; obtain ⟨z0, z1, z2, z3, _⟩ := HB1.out.res; obtain ⟨g0, g1, g2, g3, g4, g5, g6, g7, g8, g9, g10, _⟩ := HG1.out.got)
      | (go_at_call 34; (with_reducible refine (rready_any _ C a n cap V hd dir _ HA1.out.is HA1.out.wts).mono ?_); rintro e v8 ⟨⟨q2, rfl, hq2⟩, hb⟩; obtain rfl : q2 = q1 := bool_same HQ1.out hq2; have eq1 : (q2 == q2) = true := (beq_self_eq_true q2); clear hq2 HQ1; have HA2 := Lib.hid (HA1.out.below hb); have HB2 := Lib.hid (HB1.out.below hb); have HG2 := Lib.hid (HG1.out.below hb); clear hb x0 x1 x2 x3 x4 w0 w1 w2 w3 w4 y0 y1 y2 y3 y4 z0 z1 z2 z3 g0 g1 g2 g3 g4 g5 g6 g7 g8 g9 g10; obtain ⟨x0, x1, x2, x3, x4, _⟩ := HA2.out.chan; obtain ⟨w0, w1, w2, w3, w4, _⟩ := HA2.out.was; obtain ⟨y0, y1, y2, y3, y4, _⟩ := HB2.out.chan; obtain ⟨z0, z1, z2, z3, _⟩ := HB2.out.res; obtain ⟨g0, g1, g2, g3, g4, g5, g6, g7, g8, g9, g10, _⟩ := HG2.out.got)
      | (go_at_call 35; (with_reducible refine (chan_yes C1 aa ga ac gc C1.f _ HB2.out.row HG2.out.row (fun _ _ => rfl)).mono ?_); rintro e v9 ⟨rfl, hb⟩; have HA3 := Lib.hid (HA2.out.below hb); have HB3 := Lib.hid (HB2.out.below hb); have HG3 := Lib.hid (HG2.out.below hb); clear hb x0 x1 x2 x3 x4 w0 w1 w2 w3 w4 y0 y1 y2 y3 y4 z0 z1 z2 z3 g0 g1 g2 g3 g4 g5 g6 g7 g8 g9 g10; obtain ⟨x0, x1, x2, x3, x4, _⟩ := HA3.out.chan; obtain ⟨w0, w1, w2, w3, w4, _⟩ := HA3.out.was; obtain ⟨y0, y1, y2, y3, y4, _⟩ := HB3.out.chan; obtain ⟨z0, z1, z2, z3, _⟩ := HB3.out.res; obtain ⟨g0, g1, g2, g3, g4, g5, g6, g7, g8, g9, g10, _⟩ := HG3.out.got)
      | (go_at_call 19; (with_reducible refine (waits_yes _ _ _ _ _ _ _ HB3.out.wts HG3.out.wts).mono ?_); rintro e v10 ⟨rfl, hb⟩; have HA4 := Lib.hid (HA3.out.below hb); have HB4 := Lib.hid (HB3.out.below hb); have HG4 := Lib.hid (HG3.out.below hb); clear hb x0 x1 x2 x3 x4 w0 w1 w2 w3 w4 y0 y1 y2 y3 y4 z0 z1 z2 z3 g0 g1 g2 g3 g4 g5 g6 g7 g8 g9 g10; obtain ⟨x0, x1, x2, x3, x4, _⟩ := HA4.out.chan; obtain ⟨w0, w1, w2, w3, w4, _⟩ := HA4.out.was; obtain ⟨y0, y1, y2, y3, y4, _⟩ := HB4.out.chan; obtain ⟨z0, z1, z2, z3, _⟩ := HB4.out.res; obtain ⟨g0, g1, g2, g3, g4, g5, g6, g7, g8, g9, g10, _⟩ := HG4.out.got)
      | (go_at_call 36; (with_reducible refine (res_yes _ _ _ _ _).mono ?_); rintro e v11 ⟨rfl, hb⟩; have HA5 := Lib.hid (HA4.out.below hb); have HB5 := Lib.hid (HB4.out.below hb); have HG5 := Lib.hid (HG4.out.below hb); clear hb x0 x1 x2 x3 x4 w0 w1 w2 w3 w4 y0 y1 y2 y3 y4 z0 z1 z2 z3 g0 g1 g2 g3 g4 g5 g6 g7 g8 g9 g10; obtain ⟨x0, x1, x2, x3, x4, _⟩ := HA5.out.chan; obtain ⟨w0, w1, w2, w3, w4, _⟩ := HA5.out.was; obtain ⟨y0, y1, y2, y3, y4, _⟩ := HB5.out.chan; obtain ⟨z0, z1, z2, z3, _⟩ := HB5.out.res; obtain ⟨g0, g1, g2, g3, g4, g5, g6, g7, g8, g9, g10, _⟩ := HG5.out.got)
      | (go_at_call 37; (with_reducible refine (told_yes _ _ _ _ _ _ _ _ HB5.out.told HG5.out.told (fun _ _ _ _ => rfl)).mono ?_); rintro e v12 ⟨rfl, hb⟩; have HA6 := Lib.hid (HA5.out.below hb); have HB6 := Lib.hid (HB5.out.below hb); have HG6 := Lib.hid (HG5.out.below hb); clear hb x0 x1 x2 x3 x4 w0 w1 w2 w3 w4 y0 y1 y2 y3 y4 z0 z1 z2 z3 g0 g1 g2 g3 g4 g5 g6 g7 g8 g9 g10; obtain ⟨x0, x1, x2, x3, x4, _⟩ := HA6.out.chan; obtain ⟨w0, w1, w2, w3, w4, _⟩ := HA6.out.was; obtain ⟨y0, y1, y2, y3, y4, _⟩ := HB6.out.chan; obtain ⟨z0, z1, z2, z3, _⟩ := HB6.out.res; obtain ⟨g0, g1, g2, g3, g4, g5, g6, g7, g8, g9, g10, _⟩ := HG6.out.got)
      | (go_at_call 35; (with_reducible refine (chan_yes C ca wa cc wc C.f _ HA6.out.row.z HA6.out.wrow (fun _ _ => rfl)).mono ?_); rintro e v13 ⟨rfl, hb⟩; have HA7 := Lib.hid (HA6.out.below hb); have HB7 := Lib.hid (HB6.out.below hb); have HG7 := Lib.hid (HG6.out.below hb); clear hb x0 x1 x2 x3 x4 w0 w1 w2 w3 w4 y0 y1 y2 y3 y4 z0 z1 z2 z3 g0 g1 g2 g3 g4 g5 g6 g7 g8 g9 g10; obtain ⟨x0, x1, x2, x3, x4, _⟩ := HA7.out.chan; obtain ⟨w0, w1, w2, w3, w4, _⟩ := HA7.out.was; obtain ⟨y0, y1, y2, y3, y4, _⟩ := HB7.out.chan; obtain ⟨z0, z1, z2, z3, _⟩ := HB7.out.res; obtain ⟨g0, g1, g2, g3, g4, g5, g6, g7, g8, g9, g10, _⟩ := HG7.out.got)
      | (go_at_call 19; (with_reducible refine (waits_yes _ _ _ _ _ _ _ HA7.out.wts HA7.out.wwts).mono ?_); rintro e v14 ⟨rfl, hb⟩; have HA8 := Lib.hid (HA7.out.below hb); have HB8 := Lib.hid (HB7.out.below hb); have HG8 := Lib.hid (HG7.out.below hb); clear hb x0 x1 x2 x3 x4 w0 w1 w2 w3 w4 y0 y1 y2 y3 y4 z0 z1 z2 z3 g0 g1 g2 g3 g4 g5 g6 g7 g8 g9 g10; obtain ⟨x0, x1, x2, x3, x4, _⟩ := HA8.out.chan; obtain ⟨w0, w1, w2, w3, w4, _⟩ := HA8.out.was; obtain ⟨y0, y1, y2, y3, y4, _⟩ := HB8.out.chan; obtain ⟨z0, z1, z2, z3, _⟩ := HB8.out.res; obtain ⟨g0, g1, g2, g3, g4, g5, g6, g7, g8, g9, g10, _⟩ := HG8.out.got)
      | (go_at_call 38; (with_reducible refine (cawake_any _).mono ?_); rintro e v15 ⟨rfl, hb⟩; have HZ := Lib.hid (HA8.out.bel.trans (hb.mono HA8.out.bel.size)); have HA9 := Lib.hid (HA8.out.below hb); have HB9 := Lib.hid (HB8.out.below hb); have HG9 := Lib.hid (HG8.out.below hb); clear hb x0 x1 x2 x3 x4 w0 w1 w2 w3 w4 y0 y1 y2 y3 y4 z0 z1 z2 z3 g0 g1 g2 g3 g4 g5 g6 g7 g8 g9 g10; obtain ⟨x0, x1, x2, x3, x4, _⟩ := HA9.out.chan; obtain ⟨w0, w1, w2, w3, w4, _⟩ := HA9.out.was; obtain ⟨y0, y1, y2, y3, y4, _⟩ := HB9.out.chan; obtain ⟨z0, z1, z2, z3, _⟩ := HB9.out.res; obtain ⟨g0, g1, g2, g3, g4, g5, g6, g7, g8, g9, g10, _⟩ := HG9.out.got))
  go_wp2
  go_ret
  exact ⟨rfl, HZ.out⟩
end Go.Proofs.Ytihpjfhibhpciaa
