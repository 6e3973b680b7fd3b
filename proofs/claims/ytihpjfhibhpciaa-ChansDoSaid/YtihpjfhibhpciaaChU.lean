/- The contract of the reference's Do where a value moves, over the seat's program. -/
import Derived.Test.YtihpjfhibhpciaaChT
namespace Go.Proofs.Ytihpjfhibhpciaa
open Go.ChangeShapes Go.WideShapes Go.ChangeAt Go.RowKit Go.Joins

set_option maxRecDepth 100000 in
set_option maxHeartbeats 6400000 in
theorem rdo_push (ca : Option Addr) (cc : Nat) (C : CH) (hd : Int) (a : Option Addr) (n cap : Nat) (V : Nat → WV) (x : Int) (w : World) (hrow : RowAt .i64 w ca C.n cc C.f) (hm : C.n ≤ maxLen) (h : WaitsAt w a n cap V) (hr : Rdy C V n hd 1) (hcl : C.closed = false) (hno : ∀ i, i < n → ¬ Fit V 2 hd i) :
    Calls Try.prog 32 #[.agg #[.int .i64 C.gen, .int .i64 C.cap, .bool C.used, .bool C.closed, .slice ca C.n cc], .int .i64 hd, .slice a n cap, .int .i64 1, .int .i64 x] w (RDoRet C V n hd 1 x w) := by
  have hn := h.1
  have hC8 := hrow.1
  have HROW := Lib.hid hrow
  have HCA := Lib.hid (show ChanAt w (.agg #[.int .i64 C.gen, .int .i64 C.cap, .bool C.used, .bool C.closed, .slice ca C.n cc]) C from ⟨ca, cc, rfl, hrow⟩)
  have HS := Lib.hid h
  have HB0 := Lib.hid (show Below w.heap.size w ((w.alloc (.cells #[.int .i64 C.gen, .int .i64 C.cap, .bool C.used, .bool C.closed, .slice ca C.n cc] 44)).alloc (.cells #[.int .i64 0, .int .i64 0, .bool false, .bool false, .slice none 0 0, .slice none 0 0, .int .i64 0, .int .i64 0, .int .i64 0, .int .i64 0, .slice none 0 0] 53)) from ((Below.refl _ _).alloc (Nat.le_refl _) _).alloc (by simp) _)
  have HX := Lib.hid ((Box.new (a := .int .i64 C.gen) (b := .int .i64 C.cap) (c := .bool C.used) (d := .bool C.closed) (e := .slice ca C.n cc) w 44).below (by simp) ((Below.refl _ _).alloc (Nat.le_refl _) (.cells #[.int .i64 0, .int .i64 0, .bool false, .bool false, .slice none 0 0, .slice none 0 0, .int .i64 0, .int .i64 0, .int .i64 0, .int .i64 0, .slice none 0 0] 53)))
  have HZ := Lib.hid (G11.new (w.alloc (.cells #[.int .i64 C.gen, .int .i64 C.cap, .bool C.used, .bool C.closed, .slice ca C.n cc] 44)) ⟨0, 0, false, false, 0, fun _ => 0⟩ (.slice none 0 0) (.slice none 0 0) 53)
  have hsz : w.heap.size + 2 = ((w.alloc (.cells #[.int .i64 C.gen, .int .i64 C.cap, .bool C.used, .bool C.closed, .slice ca C.n cc] 44)).alloc (.cells #[.int .i64 0, .int .i64 0, .bool false, .bool false, .slice none 0 0, .slice none 0 0, .int .i64 0, .int .i64 0, .int .i64 0, .int .i64 0, .slice none 0 0] 53)).heap.size := by simp
  rw [World.size_alloc] at HZ
  have HRD := Lib.hid hr
  have HCL0 := Lib.hid hcl
  have HNO := Lib.hid hno
  clear hr hcl hno
  clear h hrow
  go_enter Try.func32, Try.ntmps32
  go_upto_region 1 with (fail)
  revert HB0 HX HZ hsz
  generalize (w.alloc (.cells #[.int .i64 C.gen, .int .i64 C.cap, .bool C.used, .bool C.closed, .slice ca C.n cc] 44)).alloc (.cells #[.int .i64 0, .int .i64 0, .bool false, .bool false, .slice none 0 0, .slice none 0 0, .int .i64 0, .int .i64 0, .int .i64 0, .int .i64 0, .slice none 0 0] 53) = u
  intro HB0 HX HZ hsz
  (obtain ⟨x0, x1, x2, x3, x4, _⟩ := HX.out)
  go_upto_region 2 with (first
    | (go_at_call 30; go_loud ((with_reducible refine (rchan_copy ca cc C u (HROW.out.below HB0.out).z hm).mono ?_); rintro e w1 ⟨⟨ba, bc, rfl, ho⟩, hb⟩; have HO1 := Lib.hid ho; have HX1 := Lib.hid (HX.out.below (by omega) hb); have HZ1 := Lib.hid (HZ.out.below (by omega) hb); have HB1 := Lib.hid (HB0.out.trans (hb.mono HB0.out.size)); have hs1 := hb.size; clear ho hb x0 x1 x2 x3 x4))
    | (go_at_call 14; go_loud ((with_reducible refine (rcopy_any a n cap V _ (HS.out.below HB1.out)).mono ?_); rintro e w2 ⟨vv, A, CC', rfl, hol, hcl, hb⟩; obtain ⟨ra, rc, rfl⟩ := hol.form; have HL := Lib.hid hol; have HCL := Lib.hid hcl; have HO2 := Lib.hid (HO1.out.below hb); have HX2 := Lib.hid (HX1.out.below (by omega) hb); have HZ2 := Lib.hid (HZ1.out.below (by omega) hb); have HB2 := Lib.hid (HB1.out.trans (hb.mono HB1.out.size)); have hs2 := hb.size; have HBX := Lib.hid hb; clear hol hcl hb)))
  have hAA : Below w2.heap.size w2 (w2.alloc (.cells #[.int .i64 C.gen, .int .i64 C.cap, .bool C.used, .bool C.closed, .slice ba C.n bc, .slice ra n rc, .int .i64 0, .int .i64 0, .int .i64 0, .int .i64 0, .slice none 0 0] 53)) := (Below.refl _ _).alloc (Nat.le_refl _) _
  refine abstract_code (fun v => RAt w v w2 C ca cc w1.heap.size w2.heap.size ba bc (.slice ra n rc)) ⟨HX2.out.below (by omega) hAA, ⟨_, HZ2.out.below (by omega) hAA⟩, G11.new w2 C _ _ _, (HO1.out.imp (fun b hb' hb => ⟨Nat.le_trans (by omega) hb, hb'⟩)).below (HBX.out.trans (hAA.mono hs2)), Agree.of hAA, HB2.out.trans (hAA.mono HB2.out.size), by omega, by simp, rfl, by omega, hs2⟩ ?_
  have hD : w.heap.size + 2 ≤ w2.heap.size := by omega
  have hw1 : w.heap.size + 2 ≤ w1.heap.size := by omega
  clear hAA HX HX1 HX2 HZ HZ1 HZ2 HO1 HO2 HBX HB0 HB1 HB2 hs1 hs2 hsz
  intro v hv
  have hlt := hv.lt
  have HA := Lib.hid hv
  (obtain ⟨x0, x1, x2, x3, x4, _⟩ := hv.chan)
  clear hv
  go_upto_region 5 with (go_at_call 34; go_loud ((with_reducible refine (rready_any _ C a n cap V hd _ _ (HCA.out.below HA.out.bel) (HS.out.below HA.out.bel)).mono ?_); rintro e v3 ⟨⟨y, rfl, hy⟩, hb⟩; obtain rfl : y = true := hy.2 HRD.out; have HA3 := Lib.hid (HA.out.below hb); clear hy hb x0 x1 x2 x3 x4; obtain ⟨x0, x1, x2, x3, x4, _⟩ := HA3.out.chan; have hcl := HCL0.out; rw [hcl] at x3))
  go_upto_region 6 with (go_at_call 22; go_loud ((with_reducible refine (rfirst_any _ _ _ _ _ _ _ (HS.out.below HA3.out.bel)).mono ?_); rintro e v4 ⟨⟨t', wh', ok, rfl, hf⟩, hb⟩; obtain rfl : ok = false := (by cases ok with | false => rfl | true => exact absurd (hf.ok_iff.1 rfl) (fun ⟨i, hi, hff⟩ => HNO.out i hi hff)); have HA4 := Lib.hid (HA3.out.below hb); clear hf hb x0 x1 x2 x3 x4; obtain ⟨x0, x1, x2, x3, x4, _⟩ := HA4.out.chan; rw [hcl] at x3))
  go_upto_region 7 with (fail)
  clear hcl x0 x1 x2 x3 x4
  (obtain ⟨d0, d1, d2, d3, d4, d5, d6, d7, d8, d9, d10, df⟩ := HA4.out.got)
  have df4 := df 4
  have df5 := df 5
  have df8 := df 8
  have df9 := df 9
  have df10 := df 10
  clear df
  have hlt4 := HA4.out.lt
  go_upto_region 13 with (at_builtin; go_loud (refine push_one (fun b => w.heap.size + 2 ≤ b ∧ b < w1.heap.size) rfl _ _ rfl (.slice ba C.n bc) C.n (updI C.f C.n x) x upd_at.symm rfl (by rw [upd_same]; exact HA4.out.row) v4.heap.size rfl rfl (by omega) ?_; intro gg gc v5 r ho hg hr0; have hr : ∀ b, r = some b → w.heap.size + 2 ≤ b ∧ b < w1.heap.size := hr0; clear hr0; have HO5 := Lib.hid ho; have HG5 := Lib.hid hg; have HR5 := Lib.hid hr; have hq5 := HA4.out.got.like (fun o => ⟨hg.cell_far ⟨w2.heap.size, o, none⟩ (show w2.heap.size < v4.heap.size by omega) (fun e => absurd (hr w2.heap.size e.symm).2 (by omega)), hg.frozen_far ⟨w2.heap.size, o, none⟩ (show w2.heap.size < v4.heap.size by omega) (fun e => absurd (hr w2.heap.size e.symm).2 (by omega))⟩); clear ho hg hr d0 d1 d2 d3 d4 d5 d6 d7 d8 d9 d10 df4 df5 df8 df9 df10; have HQ5 := Lib.hid hq5; have d4 := hq5.2.2.2.2.1; have df4 := hq5.2.2.2.2.2.2.2.2.2.2.2 4; clear hq5))
  have HL2 := Lib.hid (waits_far hn HL.out HCL.out)
  have hs5 := HG5.out.size
  refine abstract_code (fun vf => RFin w vf ⟨C.gen, C.cap, C.used, C.closed, C.n + 1, updI C.f C.n x⟩ V n w2.heap.size 0 0 0 (fun _ _ => 0) (some ⟨gg, 0, none⟩) gc ra rc none 0) ⟨HA4.out.ret.imp fun _ g => (g.like (fun o => ⟨HG5.out.cell_far ⟨w.heap.size + 1, o, none⟩ (show w.heap.size + 1 < v4.heap.size by omega) (fun e => absurd (HR5.out (w.heap.size + 1) e.symm).1 (by omega)), HG5.out.frozen_far ⟨w.heap.size + 1, o, none⟩ (show w.heap.size + 1 < v4.heap.size by omega) (fun e => absurd (HR5.out (w.heap.size + 1) e.symm).1 (by omega))⟩)).far (by omega), HQ5.out.set4 _, (HO5.out.set (fun e => by omega)).farZ (by show (C.n + 1) * 8 ≤ _; omega) (fun b hb => by omega), (HL2.out.agree (((HA4.out.agr.trans (Agree.grownr HG5.out (fun b e => (HR5.out b e).2))).set_new (by omega)))).mono hw1, fun w' _ => RowS.nil rfl rfl, (HA4.out.bel.grown HG5.out (by omega) (fun b e => by have := HR5.out b e; omega)).setCell (by show _ ≤ w2.heap.size; omega) _, hD, by simp; omega⟩ ?_
  generalize w2.heap.size = D
  clear HL HCL HL2 HA4 HA3 HA hlt hlt4 HQ5 HO5 HG5 HR5 hs5 d4 df4
  intro vf hf
  (obtain ⟨d0, d1, d2, d3, d4, d5, d6, d7, d8, d9, d10, df⟩ := hf.got)
  have df4 := df 4
  have df5 := df 5
  have df8 := df 8
  have df9 := df 9
  have df10 := df 10
  clear df
  (obtain ⟨C0, hz⟩ := hf.ret)
  (obtain ⟨z0, z1, z2, z3, z4, z5, z6, z7, z8, z9, z10, zf⟩ := hz)
  have zf0 := zf 0
  have zf1 := zf 1
  have zf2 := zf 2
  have zf3 := zf 3
  have zf4 := zf 4
  have zf5 := zf 5
  have zf6 := zf 6
  have zf7 := zf 7
  have zf8 := zf 8
  have zf9 := zf 9
  have zf10 := zf 10
  clear zf
  have HF := Lib.hid hf
  have hD2 := hf.lt
  clear hf
  dsimp only at d0 d1 d2 d3 d4
  go_wp2
  have ag := agree_store11 (w := vf) (p := w.heap.size + 1) (B := w.heap.size + 2) (x0 := .int .i64 C.gen) (x1 := .int .i64 C.cap) (x2 := .bool C.used) (x3 := .bool C.closed) (x4 := .slice (some ⟨gg, 0, none⟩) (C.n + 1) gc) (x5 := .slice ra n rc) (x6 := .int .i64 0) (x7 := .int .i64 0) (x8 := .int .i64 0) (x9 := .int .i64 (0)) (x10 := .slice none 0 0) (by omega)
  have bl := below_store11 (p := w.heap.size + 1) (x0 := .int .i64 C.gen) (x1 := .int .i64 C.cap) (x2 := .bool C.used) (x3 := .bool C.closed) (x4 := .slice (some ⟨gg, 0, none⟩) (C.n + 1) gc) (x5 := .slice ra n rc) (x6 := .int .i64 0) (x7 := .int .i64 0) (x8 := .int .i64 0) (x9 := .int .i64 (0)) (x10 := .slice none 0 0) HF.out.bel (by omega)
  exact bodyPost_ret (v := .agg #[.int .i64 C.gen, .int .i64 C.cap, .bool C.used, .bool C.closed, .slice (some ⟨gg, 0, none⟩) (C.n + 1) gc, .slice ra n rc, .int .i64 0, .int .i64 0, .int .i64 0, .int .i64 (0), .slice none 0 0]) (by simp only [results, Try.results32]; go_simp) rfl ⟨_, _, _, _, _, _, (some ⟨gg, 0, none⟩), gc, ra, rc, none, 0, .push (fun _ _ => 0) HRD.out rfl HCL0.out HNO.out, rfl, HF.out.row _ ag, HF.out.wts _ ag, HF.out.told _ ag, bl⟩
end Go.Proofs.Ytihpjfhibhpciaa
