/- The contract of Do, over the seat's program. -/
import Derived.Test.YtihpjfhibhpciaaChE
namespace Go.Proofs.Ytihpjfhibhpciaa
open Go.ChangeShapes Go.WideShapes Go.ChangeAt Go.RowKit Go.Joins

theorem FarC.agree {B : Nat} {w w' : World} {v : Value} {C : CH} (h : FarC B w v C) (hw : Agree B w w') : FarC B w' v C := fun w2 h2 => h w2 (hw.trans h2)
theorem FarC.mono {B B' : Nat} {w : World} {v : Value} {C : CH} (h : FarC B' w v C) (hB : B ≤ B') : FarC B w v C := fun w' hw => h w' (hw.mono hB)
theorem FarC.at {B : Nat} {w : World} {v : Value} {C : CH} (h : FarC B w v C) : ChanZ w v C := h w (Agree.refl _ _)
theorem WaitsAt.low {w : World} {a : Option Addr} {n cap : Nat} {V : Nat → WV} (h : WaitsAt w a n cap V) {B : Nat} (hB : w.heap.size ≤ B) : ∀ w1, Below w.heap.size w w1 → LowW B w1 a n cap V := fun _ h1 _ h2 => h.below (h1.trans (h2.mono hB))
theorem RecvAt.past {w u u' : World} {C : CH} {bv : Value} (h : RecvAt w u C bv) (hb : Below (w.heap.size + 3) u u') : RecvAt w u' C bv := by
  have hk : ∀ q, w.heap.size ≤ q → q < w.heap.size + 3 → ∀ o, u'.cell? ⟨q, o, none⟩ = u.cell? ⟨q, o, none⟩ ∧ u'.frozen? ⟨q, o, none⟩ = u.frozen? ⟨q, o, none⟩ := fun q _ h2 o => ⟨hb.cell (p := ⟨q, o, none⟩) h2, hb.frozen (p := ⟨q, o, none⟩) h2⟩
  exact ⟨Nat.le_trans h.size hb.size, h.chan.like (hk _ (Nat.le_refl _) (by omega)), h.ret.like (hk _ (by omega) (by omega)), h.res.like (hk _ (by omega) (by omega))⟩
set_option maxRecDepth 100000 in
set_option maxHeartbeats 3200000 in
theorem do_wait (v : Value) (C : CH) (a : Option Addr) (n cap : Nat) (V : Nat → WV) (hd dir x : Int) (w : World) (hc : ChanAt w v C) (h : WaitsAt w a n cap V) (hC : C.n * 8 ≤ 140737488355328) (hr : ¬ Rdy C V n hd dir) :
    Calls Try.prog 31 #[v, .int .i64 hd, .slice a n cap, .int .i64 dir, .int .i64 x] w (DoAny w.heap.size C V n hd dir x w) := by
  have hn := h.1
  obtain ⟨ca, cc, rfl, hrow⟩ := hc
  have HC := Lib.hid (show ChanAt w (.agg #[.int .i64 C.gen, .int .i64 C.cap, .bool C.used, .bool C.closed, .slice ca C.n cc]) C from ⟨ca, cc, rfl, hrow⟩)
  have HS := Lib.hid h
  have HB0 := Lib.hid (RecvAt.new w C ca cc).1
  have HX := Lib.hid (RecvAt.new w C ca cc).2
  have HRD := Lib.hid hr
  clear hrow h hr
  go_enter Try.func31, Try.ntmps31
  go_upto_region 1 with (fail)
  revert HX HB0
  generalize ((w.alloc (.cells #[.int .i64 C.gen, .int .i64 C.cap, .bool C.used, .bool C.closed, .slice ca C.n cc] 44)).alloc (.cells #[.int .i64 0, .int .i64 0, .bool false, .bool false, .slice none 0 0] 44)).alloc (.cells #[.int .i64 0, .int .i64 0, .int .i64 0, .int .i64 0] 48) = u
  intro HB0 HX
  (obtain ⟨x0, x1, x2, x3, x4, xf⟩ := HX.out.chan)
  clear xf
  go_upto_region 2 with (go_at_call 70; go_loud ((with_reducible refine (ccopy_any _ C u (HC.out.below HB0.out)).mono ?_); rintro e w1 ⟨⟨v1, rfl, ho⟩, hb⟩; obtain ⟨ba, bc, rfl, ho⟩ := ho; have HO := Lib.hid ho; have HX1 := Lib.hid (HX.out.below hb); have HB1 := Lib.hid (HB0.out.trans (hb.mono HB0.out.size)); clear ho hb x0 x1 x2 x3 x4))
  have hu := HX.out.size
  have HA := Lib.hid ((Below.refl w1.heap.size w1).alloc (Nat.le_refl _) (.cells #[.int .i64 C.gen, .int .i64 C.cap, .bool C.used, .bool C.closed, .slice ba C.n bc] 44))
  have HX2 := Lib.hid (HX1.out.below HA.out)
  have HB2 := Lib.hid (HB1.out.trans (HA.out.mono HB1.out.size))
  have HD2 := Lib.hid (Box.new (a := .int .i64 C.gen) (b := .int .i64 C.cap) (c := .bool C.used) (d := .bool C.closed) (e := .slice ba C.n bc) w1 44)
  have HO2 := Lib.hid (show ChanOwn (w.heap.size + 3) (w1.alloc (.cells #[.int .i64 C.gen, .int .i64 C.cap, .bool C.used, .bool C.closed, .slice ba C.n bc] 44)) (.agg #[.int .i64 C.gen, .int .i64 C.cap, .bool C.used, .bool C.closed, .slice ba C.n bc]) C from ⟨ba, bc, rfl, ownsRow_le (own_below HO.out HA.out) (by omega)⟩)
  have hq : w1.heap.size < (w1.alloc (.cells #[.int .i64 C.gen, .int .i64 C.cap, .bool C.used, .bool C.closed, .slice ba C.n bc] 44)).heap.size := by simp
  have hq2 : w.heap.size + 3 ≤ w1.heap.size := HX1.out.size
  clear HX HB0 HX1 HB1 HO HA hu
  revert HX2 HB2 HD2 HO2 hq hq2
  generalize w1.alloc (.cells #[.int .i64 C.gen, .int .i64 C.cap, .bool C.used, .bool C.closed, .slice ba C.n bc] 44) = u2
  generalize w1.heap.size = D
  intro HX2 HB2 HD2 HO2 hq hq2
  (obtain ⟨x0, x1, x2, x3, x4, xf⟩ := HX2.out.chan)
  clear xf
  go_upto_region 3 with (go_at_call 33; go_loud ((with_reducible refine (ready_any _ C a n cap V hd dir _ (HC.out.below HB2.out) (HS.out.below HB2.out)).mono ?_); rintro e w3 ⟨⟨y, rfl, hy⟩, hb⟩; obtain rfl : y = false := (by cases y with | false => rfl | true => exact absurd (hy.1 rfl) HRD.out); have HX3 := Lib.hid (HX2.out.below hb); have HB3 := Lib.hid (HB2.out.trans (hb.mono HB2.out.size)); have HD3 := Lib.hid (HD2.out.below hq hb); have HO3 := Lib.hid (HO2.out.below hb); have hq3 := Nat.lt_of_lt_of_le hq hb.size; clear hy hb HX2 HB2 HD2 HO2 x0 x1 x2 x3 x4))
  (obtain ⟨d0, d1, d2, d3, d4, df⟩ := HD3.out)
  clear df
  go_region_law (first
    | (go_simp; go_at_call 29; go_loud ((with_reducible refine (copy_any a n cap V _ (HS.out.below (by first | exact HB3.out | exact Below.drew HB3.out | exact below_drewN HB3.out _))).mono ?_); rintro e w4 ⟨vv, A, CC, rfl, ho4, hc4, hb4⟩; obtain ⟨ra, rc, rfl⟩ := ho4.form; have HFW := Lib.hid (waits_far hn ho4 hc4); have hb5 : Below w3.heap.size w3 w4 := (by first | exact hb4 | exact (Below.drew (Below.refl _ _)).trans (hb4.mono (Nat.le_refl _))); have HX4 := Lib.hid (HX3.out.below hb5); have HO4 := Lib.hid (HO3.out.below hb5); have HB4 := Lib.hid (HB3.out.trans (hb5.mono HB3.out.size)); have hs4 := hb5.size; have hd4 := HD3.out.below hq3 hb5; clear d0 d1 d2 d3 d4 ho4 hc4 hb4 hb5 HX3 HD3; obtain ⟨d0, d1, d2, d3, d4, df⟩ := hd4; clear df; obtain ⟨y0, y1, y2, y3, y4, yf⟩ := HX4.out.ret; obtain ⟨z0, z1, z2, z3, zf⟩ := HX4.out.res; have f0 := yf 0; have f1 := yf 1; have f2 := yf 2; have f3 := yf 3; have f4 := yf 4; have g0 := zf 0; have g1 := zf 1; have g2 := zf 2; have g3 := zf 3; clear yf zf;  clear hn)))
  all_goals go_wp2
  all_goals refine bodyPost_ret (v := .tuple #[.agg #[.int .i64 C.gen, .int .i64 C.cap, .bool C.used, .bool C.closed, .slice ba C.n bc], .slice ra n rc, .agg #[.int .i64 0, .int .i64 0, .int .i64 10, .int .i64 0], .slice none 0 0]) (by simp only [results, Try.results31]; go_simp) rfl ?_
  all_goals exact DoAny.of (.wait (fun _ _ => 0) HRD.out) ⟨_, ra, rc, none, 0, rfl, ((chan_far hC HO4.out).agree ((agree_store5 (p := w.heap.size + 1) (by omega)).trans (agree_store4 (p := w.heap.size + 2) (by omega)))).mono (by omega), (HFW.out.agree ((agree_store5 (p := w.heap.size + 1) (by show _ < w3.heap.size; omega)).trans (agree_store4 (p := w.heap.size + 2) (by show _ < w3.heap.size; omega)))).mono (by show _ ≤ w3.heap.size; omega), fun w' _ => RowS.nil rfl rfl, below_store4 (store5_below HB4.out (by omega)) (by omega)⟩
set_option maxRecDepth 100000 in
set_option maxHeartbeats 3200000 in
theorem do_shut (v : Value) (C : CH) (a : Option Addr) (n cap : Nat) (V : Nat → WV) (hd  x : Int) (w : World) (hc : ChanAt w v C) (h : WaitsAt w a n cap V) (hC : C.n * 8 ≤ 140737488355328) (hr : Rdy C V n hd 1) (hcl : C.closed = true) :
    Calls Try.prog 31 #[v, .int .i64 hd, .slice a n cap, .int .i64 1, .int .i64 x] w (DoAny w.heap.size C V n hd 1 x w) := by
  have hn := h.1
  obtain ⟨ca, cc, rfl, hrow⟩ := hc
  have HC := Lib.hid (show ChanAt w (.agg #[.int .i64 C.gen, .int .i64 C.cap, .bool C.used, .bool C.closed, .slice ca C.n cc]) C from ⟨ca, cc, rfl, hrow⟩)
  have HS := Lib.hid h
  have HB0 := Lib.hid (RecvAt.new w C ca cc).1
  have HX := Lib.hid (RecvAt.new w C ca cc).2
  have HRD := Lib.hid hr
  have HCL := Lib.hid hcl
  clear hcl
  clear hrow h hr
  go_enter Try.func31, Try.ntmps31
  go_upto_region 1 with (fail)
  revert HX HB0
  generalize ((w.alloc (.cells #[.int .i64 C.gen, .int .i64 C.cap, .bool C.used, .bool C.closed, .slice ca C.n cc] 44)).alloc (.cells #[.int .i64 0, .int .i64 0, .bool false, .bool false, .slice none 0 0] 44)).alloc (.cells #[.int .i64 0, .int .i64 0, .int .i64 0, .int .i64 0] 48) = u
  intro HB0 HX
  (obtain ⟨x0, x1, x2, x3, x4, xf⟩ := HX.out.chan)
  clear xf
  go_upto_region 2 with (go_at_call 70; go_loud ((with_reducible refine (ccopy_any _ C u (HC.out.below HB0.out)).mono ?_); rintro e w1 ⟨⟨v1, rfl, ho⟩, hb⟩; obtain ⟨ba, bc, rfl, ho⟩ := ho; have HO := Lib.hid ho; have HX1 := Lib.hid (HX.out.below hb); have HB1 := Lib.hid (HB0.out.trans (hb.mono HB0.out.size)); clear ho hb x0 x1 x2 x3 x4))
  have hu := HX.out.size
  have HA := Lib.hid ((Below.refl w1.heap.size w1).alloc (Nat.le_refl _) (.cells #[.int .i64 C.gen, .int .i64 C.cap, .bool C.used, .bool C.closed, .slice ba C.n bc] 44))
  have HX2 := Lib.hid (HX1.out.below HA.out)
  have HB2 := Lib.hid (HB1.out.trans (HA.out.mono HB1.out.size))
  have HD2 := Lib.hid (Box.new (a := .int .i64 C.gen) (b := .int .i64 C.cap) (c := .bool C.used) (d := .bool C.closed) (e := .slice ba C.n bc) w1 44)
  have HO2 := Lib.hid (show ChanOwn (w.heap.size + 3) (w1.alloc (.cells #[.int .i64 C.gen, .int .i64 C.cap, .bool C.used, .bool C.closed, .slice ba C.n bc] 44)) (.agg #[.int .i64 C.gen, .int .i64 C.cap, .bool C.used, .bool C.closed, .slice ba C.n bc]) C from ⟨ba, bc, rfl, ownsRow_le (own_below HO.out HA.out) (by omega)⟩)
  have hq : w1.heap.size < (w1.alloc (.cells #[.int .i64 C.gen, .int .i64 C.cap, .bool C.used, .bool C.closed, .slice ba C.n bc] 44)).heap.size := by simp
  have hq2 : w.heap.size + 3 ≤ w1.heap.size := HX1.out.size
  clear HX HB0 HX1 HB1 HO HA hu
  revert HX2 HB2 HD2 HO2 hq hq2
  generalize w1.alloc (.cells #[.int .i64 C.gen, .int .i64 C.cap, .bool C.used, .bool C.closed, .slice ba C.n bc] 44) = u2
  generalize w1.heap.size = D
  intro HX2 HB2 HD2 HO2 hq hq2
  (obtain ⟨x0, x1, x2, x3, x4, xf⟩ := HX2.out.chan)
  clear xf
  go_upto_region 7 with (go_at_call 33; go_loud ((with_reducible refine (ready_any _ C a n cap V hd 1 _ (HC.out.below HB2.out) (HS.out.below HB2.out)).mono ?_); rintro e w3 ⟨⟨y, rfl, hy⟩, hb⟩; obtain rfl : y = true := hy.2 HRD.out; have HX3 := Lib.hid (HX2.out.below hb); have HB3 := Lib.hid (HB2.out.trans (hb.mono HB2.out.size)); have HD3 := Lib.hid (HD2.out.below hq hb); have HO3 := Lib.hid (HO2.out.below hb); have hq3 := Nat.lt_of_lt_of_le hq hb.size; clear hy hb HX2 HB2 HD2 HO2 x0 x1 x2 x3 x4; obtain ⟨x0, x1, x2, x3, x4, xf⟩ := HX3.out.chan; clear xf; have hcl := HCL.out; rw [hcl] at x3))
  clear hcl
  (obtain ⟨d0, d1, d2, d3, d4, df⟩ := HD3.out)
  clear df
  go_region_law (first
    | (go_simp; go_at_call 29; go_loud ((with_reducible refine (copy_any a n cap V _ (HS.out.below (by first | exact HB3.out | exact Below.drew HB3.out | exact below_drewN HB3.out _))).mono ?_); rintro e w4 ⟨vv, A, CC, rfl, ho4, hc4, hb4⟩; obtain ⟨ra, rc, rfl⟩ := ho4.form; have HFW := Lib.hid (waits_far hn ho4 hc4); have hb5 : Below w3.heap.size w3 w4 := (by first | exact hb4 | exact (Below.drew (Below.refl _ _)).trans (hb4.mono (Nat.le_refl _))); have HX4 := Lib.hid (HX3.out.below hb5); have HO4 := Lib.hid (HO3.out.below hb5); have HB4 := Lib.hid (HB3.out.trans (hb5.mono HB3.out.size)); have hs4 := hb5.size; have hd4 := HD3.out.below hq3 hb5; clear d0 d1 d2 d3 d4 ho4 hc4 hb4 hb5 HX3 HD3; obtain ⟨d0, d1, d2, d3, d4, df⟩ := hd4; clear df; obtain ⟨y0, y1, y2, y3, y4, yf⟩ := HX4.out.ret; obtain ⟨z0, z1, z2, z3, zf⟩ := HX4.out.res; have f0 := yf 0; have f1 := yf 1; have f2 := yf 2; have f3 := yf 3; have f4 := yf 4; have g0 := zf 0; have g1 := zf 1; have g2 := zf 2; have g3 := zf 3; clear yf zf;  clear hn)))
  all_goals go_wp2
  all_goals refine bodyPost_ret (v := .tuple #[.agg #[.int .i64 C.gen, .int .i64 C.cap, .bool C.used, .bool C.closed, .slice ba C.n bc], .slice ra n rc, .agg #[.int .i64 0, .int .i64 0, .int .i64 9, .int .i64 0], .slice none 0 0]) (by simp only [results, Try.results31]; go_simp) rfl ?_
  all_goals exact DoAny.of (.shut (fun _ _ => 0) HRD.out rfl HCL.out) ⟨_, ra, rc, none, 0, rfl, ((chan_far hC HO4.out).agree ((agree_store5 (p := w.heap.size + 1) (by omega)).trans (agree_store4 (p := w.heap.size + 2) (by omega)))).mono (by omega), (HFW.out.agree ((agree_store5 (p := w.heap.size + 1) (by show _ < w3.heap.size; omega)).trans (agree_store4 (p := w.heap.size + 2) (by show _ < w3.heap.size; omega)))).mono (by show _ ≤ w3.heap.size; omega), fun w' _ => RowS.nil rfl rfl, below_store4 (store5_below HB4.out (by omega)) (by omega)⟩
set_option maxRecDepth 100000 in
set_option maxHeartbeats 3200000 in
theorem do_recv (v : Value) (C : CH) (a : Option Addr) (n cap : Nat) (V : Nat → WV) (hd  x : Int) (w : World) (hc : ChanAt w v C) (h : WaitsAt w a n cap V) (hC : (C.n + 1) * 8 ≤ 140737488355328) (hr : Rdy C V n hd 2) :
    Calls Try.prog 31 #[v, .int .i64 hd, .slice a n cap, .int .i64 2, .int .i64 x] w (DoAny w.heap.size C V n hd 2 x w) := by
  have hn := h.1
  obtain ⟨ca, cc, rfl, hrow⟩ := hc
  have HC := Lib.hid (show ChanAt w (.agg #[.int .i64 C.gen, .int .i64 C.cap, .bool C.used, .bool C.closed, .slice ca C.n cc]) C from ⟨ca, cc, rfl, hrow⟩)
  have HS := Lib.hid h
  have HB0 := Lib.hid (RecvAt.new w C ca cc).1
  have HX := Lib.hid (RecvAt.new w C ca cc).2
  have HRD := Lib.hid hr
  clear hrow h hr
  go_enter Try.func31, Try.ntmps31
  go_upto_region 1 with (fail)
  revert HX HB0
  generalize ((w.alloc (.cells #[.int .i64 C.gen, .int .i64 C.cap, .bool C.used, .bool C.closed, .slice ca C.n cc] 44)).alloc (.cells #[.int .i64 0, .int .i64 0, .bool false, .bool false, .slice none 0 0] 44)).alloc (.cells #[.int .i64 0, .int .i64 0, .int .i64 0, .int .i64 0] 48) = u
  intro HB0 HX
  (obtain ⟨x0, x1, x2, x3, x4, xf⟩ := HX.out.chan)
  clear xf
  go_upto_region 2 with (go_at_call 70; go_loud ((with_reducible refine (ccopy_any _ C u (HC.out.below HB0.out)).mono ?_); rintro e w1 ⟨⟨v1, rfl, ho⟩, hb⟩; obtain ⟨ba, bc, rfl, ho⟩ := ho; have HO := Lib.hid ho; have HX1 := Lib.hid (HX.out.below hb); have HB1 := Lib.hid (HB0.out.trans (hb.mono HB0.out.size)); clear ho hb x0 x1 x2 x3 x4))
  have hu := HX.out.size
  have HA := Lib.hid ((Below.refl w1.heap.size w1).alloc (Nat.le_refl _) (.cells #[.int .i64 C.gen, .int .i64 C.cap, .bool C.used, .bool C.closed, .slice ba C.n bc] 44))
  have HX2 := Lib.hid (HX1.out.below HA.out)
  have HB2 := Lib.hid (HB1.out.trans (HA.out.mono HB1.out.size))
  have HD2 := Lib.hid (Box.new (a := .int .i64 C.gen) (b := .int .i64 C.cap) (c := .bool C.used) (d := .bool C.closed) (e := .slice ba C.n bc) w1 44)
  have HO2 := Lib.hid (show ChanOwn (w.heap.size + 3) (w1.alloc (.cells #[.int .i64 C.gen, .int .i64 C.cap, .bool C.used, .bool C.closed, .slice ba C.n bc] 44)) (.agg #[.int .i64 C.gen, .int .i64 C.cap, .bool C.used, .bool C.closed, .slice ba C.n bc]) C from ⟨ba, bc, rfl, ownsRow_le (own_below HO.out HA.out) (by omega)⟩)
  have hq : w1.heap.size < (w1.alloc (.cells #[.int .i64 C.gen, .int .i64 C.cap, .bool C.used, .bool C.closed, .slice ba C.n bc] 44)).heap.size := by simp
  have hq2 : w.heap.size + 3 ≤ w1.heap.size := HX1.out.size
  clear HX HB0 HX1 HB1 HO HA hu
  revert HX2 HB2 HD2 HO2 hq hq2
  generalize w1.alloc (.cells #[.int .i64 C.gen, .int .i64 C.cap, .bool C.used, .bool C.closed, .slice ba C.n bc] 44) = u2
  generalize w1.heap.size = D
  intro HX2 HB2 HD2 HO2 hq hq2
  (obtain ⟨x0, x1, x2, x3, x4, xf⟩ := HX2.out.chan)
  clear xf
  go_upto_region 5 with (go_at_call 33; go_loud ((with_reducible refine (ready_any _ C a n cap V hd 2 _ (HC.out.below HB2.out) (HS.out.below HB2.out)).mono ?_); rintro e w3 ⟨⟨y, rfl, hy⟩, hb⟩; obtain rfl : y = true := hy.2 HRD.out; have HX3 := Lib.hid (HX2.out.below hb); have HB3 := Lib.hid (HB2.out.trans (hb.mono HB2.out.size)); have HD3 := Lib.hid (HD2.out.below hq hb); have HO3 := Lib.hid (HO2.out.below hb); have hq3 := Nat.lt_of_lt_of_le hq hb.size; clear hy hb HX2 HB2 HD2 HO2 x0 x1 x2 x3 x4))
  (obtain ⟨d0, d1, d2, d3, d4, df⟩ := HD3.out)
  clear df
  have hq4 := HX3.out.size
  go_wp2_with (go_at_call 71; go_loud ((with_reducible refine (receive_any (w.heap.size + 3) _ C a n cap V hd x _ (by omega) HO3.out hC (HS.out.low (by omega) _ HB3.out) HRD.out).mono ?_); rintro e w4 ⟨C', V', code, rv, m, T, hi, cv, ra, rc, ta, tc, rfl, hfc, hfw, hft, hb⟩; have HI := Lib.hid hi; obtain ⟨ca', cc', rfl, _⟩ := hfc.at; have HFC := Lib.hid hfc; have HFW := Lib.hid hfw; have HFT := Lib.hid hft; have HX4 := Lib.hid (HX3.out.past hb); have HB4 := Lib.hid (HB3.out.trans (hb.mono (by omega))); have hs4 := HX4.out.size; clear hi hfc hfw hft hb d0 d1 d2 d3 d4 HX3; obtain ⟨y0, y1, y2, y3, y4, yf⟩ := HX4.out.ret; obtain ⟨z0, z1, z2, z3, zf⟩ := HX4.out.res; have f0 := yf 0; have f1 := yf 1; have f2 := yf 2; have f3 := yf 3; have f4 := yf 4; have g0 := zf 0; have g1 := zf 1; have g2 := zf 2; have g3 := zf 3; clear yf zf;  skip))
  refine bodyPost_ret (v := .tuple #[.agg #[.int .i64 C'.gen, .int .i64 C'.cap, .bool C'.used, .bool C'.closed, .slice ca' C'.n cc'], .slice ra n rc, .agg #[.int .i64 0, .int .i64 0, .int .i64 code, .int .i64 rv], .slice ta m tc]) (by simp only [results, Try.results31]; go_simp) rfl ?_
  have ag : Agree (w.heap.size + 3) w4 (store4 (store5 w4 (w.heap.size + 1) (.int .i64 C'.gen) (.int .i64 C'.cap) (.bool C'.used) (.bool C'.closed) (.slice ca' C'.n cc')) (w.heap.size + 2) 0 (.int .i64 0) (.int .i64 0) (.int .i64 code) (.int .i64 rv)) := (agree_store5 (by omega)).trans (agree_store4 (by omega))
  exact DoAny.of HI.out ⟨_, ra, rc, ta, tc, rfl, (HFC.out.agree ag).mono (by omega), (HFW.out.agree ag).mono (by omega), (HFT.out.agree ag).mono (by omega), below_store4 (store5_below HB4.out (by omega)) (by omega)⟩
set_option maxRecDepth 100000 in
set_option maxHeartbeats 3200000 in
theorem do_send (v : Value) (C : CH) (a : Option Addr) (n cap : Nat) (V : Nat → WV) (hd  x : Int) (w : World) (hc : ChanAt w v C) (h : WaitsAt w a n cap V) (hC : (C.n + 1) * 8 ≤ 140737488355328) (hr : Rdy C V n hd 1) (hcl : C.closed = false) :
    Calls Try.prog 31 #[v, .int .i64 hd, .slice a n cap, .int .i64 1, .int .i64 x] w (DoAny w.heap.size C V n hd 1 x w) := by
  have hn := h.1
  obtain ⟨ca, cc, rfl, hrow⟩ := hc
  have HC := Lib.hid (show ChanAt w (.agg #[.int .i64 C.gen, .int .i64 C.cap, .bool C.used, .bool C.closed, .slice ca C.n cc]) C from ⟨ca, cc, rfl, hrow⟩)
  have HS := Lib.hid h
  have HB0 := Lib.hid (RecvAt.new w C ca cc).1
  have HX := Lib.hid (RecvAt.new w C ca cc).2
  have HRD := Lib.hid hr
  have HCL := Lib.hid hcl
  clear hcl
  clear hrow h hr
  go_enter Try.func31, Try.ntmps31
  go_upto_region 1 with (fail)
  revert HX HB0
  generalize ((w.alloc (.cells #[.int .i64 C.gen, .int .i64 C.cap, .bool C.used, .bool C.closed, .slice ca C.n cc] 44)).alloc (.cells #[.int .i64 0, .int .i64 0, .bool false, .bool false, .slice none 0 0] 44)).alloc (.cells #[.int .i64 0, .int .i64 0, .int .i64 0, .int .i64 0] 48) = u
  intro HB0 HX
  (obtain ⟨x0, x1, x2, x3, x4, xf⟩ := HX.out.chan)
  clear xf
  go_upto_region 2 with (go_at_call 70; go_loud ((with_reducible refine (ccopy_any _ C u (HC.out.below HB0.out)).mono ?_); rintro e w1 ⟨⟨v1, rfl, ho⟩, hb⟩; obtain ⟨ba, bc, rfl, ho⟩ := ho; have HO := Lib.hid ho; have HX1 := Lib.hid (HX.out.below hb); have HB1 := Lib.hid (HB0.out.trans (hb.mono HB0.out.size)); clear ho hb x0 x1 x2 x3 x4))
  have hu := HX.out.size
  have HA := Lib.hid ((Below.refl w1.heap.size w1).alloc (Nat.le_refl _) (.cells #[.int .i64 C.gen, .int .i64 C.cap, .bool C.used, .bool C.closed, .slice ba C.n bc] 44))
  have HX2 := Lib.hid (HX1.out.below HA.out)
  have HB2 := Lib.hid (HB1.out.trans (HA.out.mono HB1.out.size))
  have HD2 := Lib.hid (Box.new (a := .int .i64 C.gen) (b := .int .i64 C.cap) (c := .bool C.used) (d := .bool C.closed) (e := .slice ba C.n bc) w1 44)
  have HO2 := Lib.hid (show ChanOwn (w.heap.size + 3) (w1.alloc (.cells #[.int .i64 C.gen, .int .i64 C.cap, .bool C.used, .bool C.closed, .slice ba C.n bc] 44)) (.agg #[.int .i64 C.gen, .int .i64 C.cap, .bool C.used, .bool C.closed, .slice ba C.n bc]) C from ⟨ba, bc, rfl, ownsRow_le (own_below HO.out HA.out) (by omega)⟩)
  have hq : w1.heap.size < (w1.alloc (.cells #[.int .i64 C.gen, .int .i64 C.cap, .bool C.used, .bool C.closed, .slice ba C.n bc] 44)).heap.size := by simp
  have hq2 : w.heap.size + 3 ≤ w1.heap.size := HX1.out.size
  clear HX HB0 HX1 HB1 HO HA hu
  revert HX2 HB2 HD2 HO2 hq hq2
  generalize w1.alloc (.cells #[.int .i64 C.gen, .int .i64 C.cap, .bool C.used, .bool C.closed, .slice ba C.n bc] 44) = u2
  generalize w1.heap.size = D
  intro HX2 HB2 HD2 HO2 hq hq2
  (obtain ⟨x0, x1, x2, x3, x4, xf⟩ := HX2.out.chan)
  clear xf
  go_upto_region 8 with (go_at_call 33; go_loud ((with_reducible refine (ready_any _ C a n cap V hd 1 _ (HC.out.below HB2.out) (HS.out.below HB2.out)).mono ?_); rintro e w3 ⟨⟨y, rfl, hy⟩, hb⟩; obtain rfl : y = true := hy.2 HRD.out; have HX3 := Lib.hid (HX2.out.below hb); have HB3 := Lib.hid (HB2.out.trans (hb.mono HB2.out.size)); have HD3 := Lib.hid (HD2.out.below hq hb); have HO3 := Lib.hid (HO2.out.below hb); have hq3 := Nat.lt_of_lt_of_le hq hb.size; clear hy hb HX2 HB2 HD2 HO2 x0 x1 x2 x3 x4; obtain ⟨x0, x1, x2, x3, x4, xf⟩ := HX3.out.chan; clear xf; have hcl := HCL.out; rw [hcl] at x3))
  clear hcl
  (obtain ⟨d0, d1, d2, d3, d4, df⟩ := HD3.out)
  clear df
  have hq4 := HX3.out.size
  go_wp2_with (go_at_call 72; go_loud ((with_reducible refine (send_any (w.heap.size + 3) _ C a n cap V hd x _ (by omega) HO3.out hC (HS.out.low (by omega) _ HB3.out) HRD.out HCL.out).mono ?_); rintro e w4 ⟨C', V', code, rv, m, T, hi, cv, ra, rc, ta, tc, rfl, hfc, hfw, hft, hb⟩; have HI := Lib.hid hi; obtain ⟨ca', cc', rfl, _⟩ := hfc.at; have HFC := Lib.hid hfc; have HFW := Lib.hid hfw; have HFT := Lib.hid hft; have HX4 := Lib.hid (HX3.out.past hb); have HB4 := Lib.hid (HB3.out.trans (hb.mono (by omega))); have hs4 := HX4.out.size; clear hi hfc hfw hft hb d0 d1 d2 d3 d4 HX3; obtain ⟨y0, y1, y2, y3, y4, yf⟩ := HX4.out.ret; obtain ⟨z0, z1, z2, z3, zf⟩ := HX4.out.res; have f0 := yf 0; have f1 := yf 1; have f2 := yf 2; have f3 := yf 3; have f4 := yf 4; have g0 := zf 0; have g1 := zf 1; have g2 := zf 2; have g3 := zf 3; clear yf zf;  skip))
  refine bodyPost_ret (v := .tuple #[.agg #[.int .i64 C'.gen, .int .i64 C'.cap, .bool C'.used, .bool C'.closed, .slice ca' C'.n cc'], .slice ra n rc, .agg #[.int .i64 0, .int .i64 0, .int .i64 code, .int .i64 rv], .slice ta m tc]) (by simp only [results, Try.results31]; go_simp) rfl ?_
  have ag : Agree (w.heap.size + 3) w4 (store4 (store5 w4 (w.heap.size + 1) (.int .i64 C'.gen) (.int .i64 C'.cap) (.bool C'.used) (.bool C'.closed) (.slice ca' C'.n cc')) (w.heap.size + 2) 0 (.int .i64 0) (.int .i64 0) (.int .i64 code) (.int .i64 rv)) := (agree_store5 (by omega)).trans (agree_store4 (by omega))
  exact DoAny.of HI.out ⟨_, ra, rc, ta, tc, rfl, (HFC.out.agree ag).mono (by omega), (HFW.out.agree ag).mono (by omega), (HFT.out.agree ag).mono (by omega), below_store4 (store5_below HB4.out (by omega)) (by omega)⟩
theorem do_any (v : Value) (C : CH) (a : Option Addr) (n cap : Nat) (V : Nat → WV) (hd dir x : Int) (w : World) (hc : ChanAt w v C) (h : WaitsAt w a n cap V) (hC : C.n * 8 ≤ 140737488351232) :
    Calls Try.prog 31 #[v, .int .i64 hd, .slice a n cap, .int .i64 dir, .int .i64 x] w (DoAny w.heap.size C V n hd dir x w) := by
  by_cases hr : Rdy C V n hd dir
  · rcases hr.2.1 with rfl | rfl
    · cases hcl : C.closed with
      | true => exact do_shut v C a n cap V hd x w hc h (by omega) hr hcl
      | false => exact do_send v C a n cap V hd x w hc h (by omega) hr hcl
    · exact do_recv v C a n cap V hd x w hc h (by omega) hr
  · exact do_wait v C a n cap V hd dir x w hc h (by omega) hr
end Go.Proofs.Ytihpjfhibhpciaa
