/- The contract of the reference's Do where a value comes and one is taken, over the seat's program. -/
import Derived.Test.YtihpjfhibhpciaaChW
namespace Go.Proofs.Ytihpjfhibhpciaa
open Go.ChangeShapes Go.WideShapes Go.ChangeAt Go.RowKit Go.Joins

theorem step_push {ops : Array Oper} {o : Oper} {a : Act} {K : Act → World → Prop} {Q : Exit → Act → World → Prop} {E' : Prop} {W : World} (P : Nat → Prop) (hgd : o.guard = none) (s x : Operand)
    (ho : o.op = .call { callee := .builtin .append, args := #[s, x], argTypes := #[36, 36] })
    (v : Value) (n : Nat) (f : Nat → Int) (X : Int) (hX : X = f n) (hs : a.eval s = v) (hown : OwnP P W 3 1 v n (rowL .i64 f n)) (H : Nat) (hx : a.eval x = .slice (some ⟨H, 0, none⟩) 1 1)
    (hnews : ∀ j u, [Value.int .i64 X][j]? = some u → W.cell? ((⟨H, 0, none⟩ : Addr).add j) = some u) (hn : (n + 1) * 8 ≤ 140737488355328)
    (h : ∀ g cap w' r, OwnP (fun b => P b ∨ W.heap.size ≤ b) w' 3 1 (.slice (some ⟨g, 0, none⟩) (n + 1) cap) (n + 1) (rowL .i64 f (n + 1)) → W.grownBy w' r → (∀ b, r = some b → P b) → K (a.put o.dst (.slice (some ⟨g, 0, none⟩) (n + 1) cap)) w') :
    if Region.wanted o (yielded ops a.tmps) = true then Oper.wp Try.prog o a W K Q else E' := by
  rcases hown with ⟨rfl, q, rfl⟩ | ⟨B, h0, hp⟩
  · refine nstep_copy hgd s x 36 ho 3 (.int .i64 0) 1 8 Try.underlying36 Try.info_int rfl (by decide) q hs (some ⟨H, 0, none⟩) 1 1 [.int .i64 X] hx rfl (fun e => by cases e) (fun ad e j u hu => ?_) (by unfold maxLen; omega) (by omega) ?_
    · injection e with e
      subst e
      exact hnews j u hu
    · intro l' c' w' ho' hg
      rcases ho' with ⟨h1, _⟩ | ⟨B, ho', hp'⟩
      · exact absurd h1 (by decide)
      · have ho2 := ho'
        rcases ho'.2 with ⟨_, h2⟩ | ⟨g, cap, cur, hv, _⟩
        · exact absurd h2 (by decide)
        · simp only [Value.slice.injEq] at hv
          obtain ⟨rfl, _, rfl⟩ := hv
          refine h g c' w' none (.inr ⟨B, ?_, fun b hb => .inr (hp' b hb)⟩) hg (fun b e => by cases e)
          rw [show rowL .i64 f (0 + 1) = [.int .i64 X] by simp [rowL, hX]]
          exact ho2
  · obtain ⟨i, hi, hz, hz1, hz2⟩ := info_parts Try.info_int
    refine step_append_lies W hgd s x 36 ho (min B W.heap.size) 3 i _ 1 8 Try.underlying36 hi hz hz1 hz2 rfl (by omega) v n (rowL .i64 f n) hs (ownsRow_le h0 (Nat.min_le_left _ _)) ⟨H, 0, none⟩ 1 1 [.int .i64 X] hx rfl hnews (by simp [Value.oneCell']) (by omega) (by unfold maxLen; omega) hn (Nat.min_le_right _ _) W.heap.size rfl ?_
    intro g cap w' ho' hg hat _
    refine h g cap w' v.ownBlock (.inr ⟨_, (by rw [rowL_succ, ← hX]; exact ho'), fun b e => ?_⟩) hg hp
    obtain rfl : g = b := by injection e
    rcases hat with e | e
    · exact .inl (hp _ e)
    · exact .inr (Nat.le_of_eq e.symm)
theorem RMid.push {W v vb wz : World} {C1 : CH} {U D : Nat} {ba : Option Addr} {bc : Nat} {L : Value} {rv : Int} {g gc : Nat} {X : Int} {r : Option Nat} (h : RMid W v wz C1 U D ba bc L rv 0 (fun _ _ => 0) none 0) (hg : v.grownBy vb r) (hr : ∀ b, r = some b → (W.heap.size + 2 ≤ b ∧ b < U) ∨ D < b)
    (ho : OwnP (fun b => ((W.heap.size + 2 ≤ b ∧ b < U) ∨ D < b) ∨ v.heap.size ≤ b) vb 3 1 (.slice (some ⟨g, 0, none⟩) (C1.n + 1) gc) (C1.n + 1) (rowL .i64 (updI C1.f C1.n X) (C1.n + 1))) :
    RMid W (vb.setCell ⟨D, 4, none⟩ (.slice (some ⟨g, 0, none⟩) (C1.n + 1) gc)) wz ⟨C1.gen, C1.cap, C1.used, C1.closed, C1.n + 1, updI C1.f C1.n X⟩ U D (some ⟨g, 0, none⟩) gc L rv 0 (fun _ _ => 0) none 0 ∧ G11 vb D C1 (.slice ba C1.n bc) L 0 rv (.slice none 0 0) := by
  have hl := h.lt
  have nD : some D ≠ r := fun e => by have := hr D e.symm; omega
  have nR : some (W.heap.size + 1) ≠ r := fun e => by have := hr _ e.symm; omega
  have hgD : G11 vb D C1 (.slice ba C1.n bc) L 0 rv (.slice none 0 0) := h.got.like fun o => ⟨hg.cell_far ⟨D, o, none⟩ hl.1 nD, hg.frozen_far ⟨D, o, none⟩ hl.1 nD⟩
  refine ⟨⟨h.ret.imp fun _ g => (g.like fun o => ⟨hg.cell_far ⟨W.heap.size + 1, o, none⟩ (show W.heap.size + 1 < v.heap.size by omega) nR, hg.frozen_far ⟨W.heap.size + 1, o, none⟩ (show W.heap.size + 1 < v.heap.size by omega) nR⟩).far (by omega), hgD.set4 _, (ho.imp (fun b _ hb => by omega)).set (fun e => by omega), ?_, fun _ _ => RowS.nil rfl rfl, (h.bel.grown hg (by omega) (fun b e => by have := hr b e; omega)).setCell (by show _ ≤ D; omega) _, ?_, hl.2.1, hl.2.2.1, hl.2.2.2⟩, hgD⟩
  · refine Agree.set_new ⟨Nat.le_trans h.agr.1 hg.size, fun q o h1 h2 => ?_⟩ (Nat.le_of_eq hl.2.1)
    have nq : some q ≠ r := fun e => by have := hr q e.symm; omega
    have := h.agr.2 q o h1 h2
    exact ⟨(hg.cell_far ⟨q, o, none⟩ (show q < v.heap.size by omega) nq).trans this.1, (hg.frozen_far ⟨q, o, none⟩ (show q < v.heap.size by omega) nq).trans this.2⟩
  · have := hg.size
    simp
    omega
set_option maxRecDepth 100000 in
set_option maxHeartbeats 1600000 in
theorem rdo_swap (ca : Option Addr) (cc : Nat) (C : CH) (hd : Int) (a : Option Addr) (n cap : Nat) (V : Nat → WV) (x : Int) (w : World) (hrow : RowAt .i64 w ca C.n cc C.f) (hm : C.n ≤ maxLen) (h : WaitsAt w a n cap V) (hr : Rdy C V n hd 2) (t wh : Nat) (ht : t < n) (hwh : wh < (V t).m) (hf0 : FirstIs V n 1 hd t wh true) :
    Calls Try.prog 32 #[.agg #[.int .i64 C.gen, .int .i64 C.cap, .bool C.used, .bool C.closed, .slice ca C.n cc], .int .i64 hd, .slice a n cap, .int .i64 2, .int .i64 x] w (RDoRet C V n hd 2 x w) := by
  have hn := h.1
  have hC8 := hrow.1
  have HROW := Lib.hid hrow
  have HCA := Lib.hid (show ChanAt w (.agg #[.int .i64 C.gen, .int .i64 C.cap, .bool C.used, .bool C.closed, .slice ca C.n cc]) C from ⟨ca, cc, rfl, hrow⟩)
  have HS := Lib.hid h
  have HB0 := Lib.hid (show Below w.heap.size w ((w.alloc (.cells #[.int .i64 C.gen, .int .i64 C.cap, .bool C.used, .bool C.closed, .slice ca C.n cc] 44)).alloc (.cells #[.int .i64 0, .int .i64 0, .bool false, .bool false, .slice none 0 0, .slice none 0 0, .int .i64 0, .int .i64 0, .int .i64 0, .int .i64 0, .slice none 0 0] 53)) from ((Below.refl _ _).alloc (Nat.le_refl _) _).alloc (by simp) _)
  have HX := Lib.hid ((Box.new (a := .int .i64 C.gen) (b := .int .i64 C.cap) (c := .bool C.used) (d := .bool C.closed) (e := .slice ca C.n cc) w 44).below (by simp) ((Below.refl _ _).alloc (Nat.le_refl _) (.cells #[.int .i64 0, .int .i64 0, .bool false, .bool false, .slice none 0 0, .slice none 0 0, .int .i64 0, .int .i64 0, .int .i64 0, .int .i64 0, .slice none 0 0] 53)))
  have HZ := Lib.hid (G11.new (w.alloc (.cells #[.int .i64 C.gen, .int .i64 C.cap, .bool C.used, .bool C.closed, .slice ca C.n cc] 44)) ⟨0, 0, false, false, 0, fun _ => 0⟩ (.slice none 0 0) (.slice none 0 0) 53)
  have hsz : w.heap.size + 2 = ((w.alloc (.cells #[.int .i64 C.gen, .int .i64 C.cap, .bool C.used, .bool C.closed, .slice ca C.n cc] 44)).alloc (.cells #[.int .i64 0, .int .i64 0, .bool false, .bool false, .slice none 0 0, .slice none 0 0, .int .i64 0, .int .i64 0, .int .i64 0, .int .i64 0, .slice none 0 0] 53)).heap.size := by simp
  rw [World.size_alloc] at HZ
  have HRD := Lib.hid hr
  have HF0 := Lib.hid hf0
  clear hr hf0
  clear h hrow
  go_enter Try.func32, Try.ntmps32
  go_upto_region 1 with (fail)
  revert HB0 HX HZ hsz
  generalize (w.alloc (.cells #[.int .i64 C.gen, .int .i64 C.cap, .bool C.used, .bool C.closed, .slice ca C.n cc] 44)).alloc (.cells #[.int .i64 0, .int .i64 0, .bool false, .bool false, .slice none 0 0, .slice none 0 0, .int .i64 0, .int .i64 0, .int .i64 0, .int .i64 0, .slice none 0 0] 53) = u
  intro HB0 HX HZ hsz
  (obtain ⟨x0, x1, x2, x3, x4, _⟩ := HX.out)
  go_upto_region 2 with (first
    | (go_at_call 30; go_loud ((with_reducible refine (rchan_copy ca cc C u (HROW.out.below HB0.out).z hm).mono ?_); rintro e w1 ⟨⟨ba, bc, rfl, ho⟩, hb⟩; have HO1 := Lib.hid ho; have HX1 := Lib.hid (HX.out.below (by omega) hb); have HZ1 := Lib.hid (HZ.out.below (by omega) hb); have HB1 := Lib.hid (HB0.out.trans (hb.mono HB0.out.size)); have hs1 := hb.size; clear ho hb x0 x1 x2 x3 x4))
    | (go_at_call 14; go_loud ((with_reducible refine (rcopy_any a n cap V _ (HS.out.below HB1.out)).mono ?_); rintro e w2 ⟨vv, A, CC', rfl, hol, hcl, hb⟩; obtain ⟨ra, rc, rfl⟩ := hol.form; have HL := Lib.hid hol; have HCL := Lib.hid hcl; have HO2 := Lib.hid (HO1.out.below hb); have HX2 := Lib.hid (HX1.out.below (by omega) hb); have HZ2 := Lib.hid (HZ1.out.below (by omega) hb); have HB2 := Lib.hid (HB1.out.trans (hb.mono HB1.out.size)); have hs2 := hb.size; have HBX := Lib.hid hb; clear hol hcl hb)))
  have hAA : Below w2.heap.size w2 (w2.alloc (.cells #[.int .i64 C.gen, .int .i64 C.cap, .bool C.used, .bool C.closed, .slice ba C.n bc, .slice ra n rc, .int .i64 0, .int .i64 0, .int .i64 0, .int .i64 0, .slice none 0 0] 53)) := (Below.refl _ _).alloc (Nat.le_refl _) _
  refine abstract_code (fun v => RAt w v w2 C ca cc w1.heap.size w2.heap.size ba bc (.slice ra n rc)) ⟨HX2.out.below (by omega) hAA, ⟨_, HZ2.out.below (by omega) hAA⟩, G11.new w2 C _ _ _, (HO1.out.imp (fun b hb' hb => ⟨Nat.le_trans (by omega) hb, hb'⟩)).below (HBX.out.trans (hAA.mono hs2)), Agree.of hAA, HB2.out.trans (hAA.mono HB2.out.size), by omega, by simp, rfl, by omega, hs2⟩ ?_
  have hD : w.heap.size + 2 ≤ w2.heap.size := by omega
  have hw1 : w.heap.size + 2 ≤ w1.heap.size := by omega
  clear hAA HX HX1 HX2 HZ HZ1 HZ2 HO1 HO2 HBX HB0 HB1 HB2 hs1 hs2 hsz
  intro v hv
  have hlt := hv.lt
  have HA := Lib.hid hv
  (obtain ⟨x0, x1, x2, x3, x4, _⟩ := hv.chan)
  clear hv
  obtain ⟨gd, cap', hvv, hgb, _, hcl4, hfr4⟩ := HL.out.get (by omega)
  simp only [Value.slice.injEq] at hvv
  obtain ⟨rfl, _, rfl⟩ := hvv
  have HC4 := Lib.hid hcl4
  have HF4 := Lib.hid hfr4
  have HGR := Lib.hid hgb
  clear hcl4 hfr4 hgb
  have t0 : (0 : Int) ≤ (t : Int) := by omega
  have t1 : (t : Int) < (n : Int) := by omega
  go_upto_region 5 with (go_at_call 34; go_loud ((with_reducible refine (rready_any _ C a n cap V hd _ _ (HCA.out.below HA.out.bel) (HS.out.below HA.out.bel)).mono ?_); rintro e v3 ⟨⟨y, rfl, hy⟩, hb⟩; obtain rfl : y = true := hy.2 HRD.out; have HA3 := Lib.hid (HA.out.below hb); clear hy hb x0 x1 x2 x3 x4))
  go_upto_region 14 with (go_at_call 22; go_loud ((with_reducible refine (rfirst_any _ _ _ _ _ _ _ (HS.out.below HA3.out.bel)).mono ?_); rintro e v4 ⟨⟨t', wh', ok, rfl, hf⟩, hb⟩; obtain ⟨rfl, rfl, rfl⟩ := first_unique HF0.out hf; have HA4 := Lib.hid (HA3.out.below hb); clear hf hb))
  go_upto_region 15 with (fail)
  have HM := Lib.hid HA4.out.mid
  have HFW := Lib.hid (wts_zero hn ht HL.out HCL.out)
  clear HA HA3 HA4 HL HCL hlt
  have hlm := HM.out.lt
  have hDl : w2.heap.size < v4.heap.size := hlm.1
  (obtain ⟨d0, d1, d2, d3, d4, d5, d6, d7, d8, d9, d10, df⟩ := HM.out.got)
  have df4 := df 4
  have df5 := df 5
  have df8 := df 8
  have df9 := df 9
  have df10 := df 10
  clear df
  clear d0 d1 d2 d3 d5 d6 d7 d8 d9 d10 df5 df8 df9 df10
  obtain ⟨lb, lo, rfl, zl, hlc⟩ := (HS.out.below HM.out.bel).get ht
  obtain ⟨qa, qc, _, _, _, l3, hq⟩ := hlc t ht
  obtain ⟨kb, ko, rfl, zk, hkc⟩ := hq.get hwh
  have k2 := hkc wh 2 hwh (by omega)
  have u0 : (0 : Int) ≤ (wh : Int) := by omega
  have u1 : (wh : Int) < ((V t).m : Int) := by omega
  have HRA := Lib.hid (show OwnP (fun b => (w.heap.size + 2 ≤ b ∧ b < w1.heap.size) ∨ w2.heap.size < b) (v4.alloc (.cells #[.int .i64 ((V t).c wh 2)] 3)) 3 1 (.slice ba C.n bc) C.n (rowL .i64 (updI C.f C.n ((V t).c wh 2)) C.n) from by rw [upd_same]; exact HM.out.row.below ((Below.refl _ _).alloc (Nat.le_refl _) _))
  clear hlc hq hkc
  go_cut [] from 15 (fun wc => ∃ bg bgc, RMid w wc w2 ⟨C.gen, C.cap, C.used, C.closed, C.n + 1, updI C.f C.n ((V t).c wh 2)⟩ w1.heap.size w2.heap.size (some ⟨bg, 0, none⟩) bgc (.slice (some ⟨gd, 0, none⟩) n rc) 0 0 (fun _ _ => 0) none 0)
  case first =>
    go_region_law (first
      | (go_loud (refine step_push (fun b => (w.heap.size + 2 ≤ b ∧ b < w1.heap.size) ∨ w2.heap.size < b) (by rfl) _ _ (by rfl) (.slice ba C.n bc) C.n (updI C.f C.n ((V t).c wh 2)) ((V t).c wh 2) upd_at.symm (by rfl) (by first | exact HRA.out | exact HRA.out.below (Below.drew (Below.refl _ _))) v4.heap.size (by rfl) (World.news_of_block (cs := #[.int .i64 ((V t).c wh 2)]) (t := 3) (fr := (0, 0)) (heap_alloc_new v4 _)) (by omega) ?_; intro bg bgc vb r ho hg hr0; have hg4 : v4.grownBy vb r := (World.grownBy_alloc v4 _ r).trans ⟨hg.os, hg.tape, hg.output, hg.size, hg.block⟩; have hpp := HM.out.push hg4 hr0 (ho.imp (fun b _ hb => hb.imp id (fun e => Nat.le_trans (by simp) e))); have HMp := Lib.hid hpp.1; have d4 := hpp.2.2.2.2.2.1; have df4 := hpp.2.2.2.2.2.2.2.2.2.2.2.2 4; clear ho hg hg4 hr0 hpp)))
    all_goals go_wp2
    all_goals go_meet
    all_goals (case rel => exact ⟨bg, bgc, HMp.out⟩)
  case rest =>
    obtain ⟨bg, bc, hm5⟩ := hcut
    clear HM hlm hDl d4 df4 l3 k2 HRA u0 u1
    have HM := Lib.hid hm5
    clear hm5
    go_upto_region 16 with (fail)
    have hlm := HM.out.lt
    have hDl : w2.heap.size < wc.heap.size := hlm.1
    (obtain ⟨d0, d1, d2, d3, d4, d5, d6, d7, d8, d9, d10, df⟩ := HM.out.got)
    have df4 := df 4
    have df5 := df 5
    have df8 := df 8
    have df9 := df 9
    have df10 := df 10
    clear df
    obtain ⟨ti, hti, htz, htz1, htz2⟩ := info_parts Try.info_told
    have HTI := Lib.hid (And.intro hti (And.intro htz (And.intro htz1 htz2)))
    clear hti htz htz1 htz2 d0 d1 d2 d3 d4 d5 d6 d7 d8 d9 df4 df5 df8 df9
    go_cut [] from 15 (fun wc2 => ∃ gg gc, RMid w wc2 w2 ⟨C.gen, C.cap, C.used, C.closed, C.n + 1, updI C.f C.n ((V t).c wh 2)⟩ w1.heap.size w2.heap.size (some ⟨bg, 0, none⟩) bc (.slice (some ⟨gd, 0, none⟩) n rc) 0 1 (toldT V (fun _ => (t : Int)) (fun _ => (wh : Int)) 0 0) (some ⟨gg, 0, none⟩) gc)
    case first =>
      go_region_law (first
        | (go_loud (refine step_append_lies _ (by rfl) _ _ _ (by rfl) (w2.heap.size + 1) 64 ti (.agg #[.int .i64 0, .int .i64 0, .int .i64 0, .int .i64 0, .int .i64 0]) 5 40 Try.underlying49 HTI.out.1 HTI.out.2.1 HTI.out.2.2.1 HTI.out.2.2.2 rfl (by omega) (.slice none 0 0) 0 [] (by rfl) (World.ownsRow_nil _ _ _ _) ⟨vt.heap.size, 0, none⟩ 1 1 [.int .i64 (t : Int), .int .i64 (V t).sq, .int .i64 (wh : Int), .int .i64 0, .int .i64 0] (by rfl) (by rfl) (World.news_of_block (cs := #[.int .i64 (t : Int), .int .i64 (V t).sq, .int .i64 (wh : Int), .int .i64 0, .int .i64 0]) (t := 64) (fr := (0, 0)) (heap_alloc_new vt _)) (by simp [Value.oneCell']) (by omega) (by unfold maxLen; omega) (by omega) (by simp; omega) (vt.heap.size + 1) (by simp) ?_; intro gg gc vu ho hg hat hl; have hg4 : vt.grownBy vu none := (World.grownBy_alloc vt _ none).trans ⟨hg.os, hg.tape, hg.output, hg.size, hg.block⟩; have hbu := below_of_grown hg4; have HMu := Lib.hid (HMt.out.below hbu); have HTO := Lib.hid (told_one ho); have d10 := HMu.out.got.2.2.2.2.2.2.2.2.2.2.1; have df10 := HMu.out.got.2.2.2.2.2.2.2.2.2.2.2 10; clear ho hg hg4 hbu hat hl))
        | (go_simp; go_at_call 73; go_loud ((with_reducible refine (rtold_any _ n cap V t wh 0 0 _ (HS.out.below (by first | exact HM.out.bel | exact Below.drew HM.out.bel | exact below_drewN HM.out.bel _)) ht).mono ?_); rintro e vt ⟨rfl, hb⟩; have hbt : Below wc.heap.size wc vt := (by first | exact hb | exact (Below.drew (Below.refl _ _)).trans (hb.mono (Nat.le_refl _))); have HMt := Lib.hid (HM.out.below hbt); have hst := hbt.size; have hDt := Nat.lt_of_lt_of_le hDl hst; clear hb hbt d10 df10; have d10 := HMt.out.got.2.2.2.2.2.2.2.2.2.2.1; have df10 := HMt.out.got.2.2.2.2.2.2.2.2.2.2.2 10)))
      all_goals go_wp2
      all_goals go_meet
      all_goals (case rel => exact ⟨gg, gc, HMu.out.set10 HTO.out⟩)
    case rest =>
      obtain ⟨gg, gc, h7⟩ := hcut
      clear d10 df10 HM hlm hDl
      have HM7 := Lib.hid h7
      have d5 := h7.got.2.2.2.2.2.1
      have hl7 := h7.lt
      have g1 := HGR.out.1
      have g2 := HGR.out.2
      have y0 := (h7.agr.2 gd (t * 4) g1 g2).1.trans (HC4.out t 0 ht (by omega))
      have y1 := (h7.agr.2 gd (t * 4 + 1) g1 g2).1.trans (HC4.out t 1 ht (by omega))
      have y2 := (h7.agr.2 gd (t * 4 + 2) g1 g2).1.trans (HC4.out t 2 ht (by omega))
      have y3 := (h7.agr.2 gd (t * 4 + 3) g1 g2).1.trans (HC4.out t 3 ht (by omega))
      have e0 := (h7.agr.2 gd (t * 4) g1 g2).2.trans (HF4.out _)
      have e1 := (h7.agr.2 gd (t * 4 + 1) g1 g2).2.trans (HF4.out _)
      have e2 := (h7.agr.2 gd (t * 4 + 2) g1 g2).2.trans (HF4.out _)
      have e3 := (h7.agr.2 gd (t * 4 + 3) g1 g2).2.trans (HF4.out _)
      clear h7
      go_upto_region 18 with (fail)
      refine abstract_code (fun v8 => RMid w v8 (store4 w2 gd (t * 4) (.bool false) (.int .i64 0) (.int .i64 0) (.slice none 0 0)) ⟨C.gen, C.cap, C.used, C.closed, C.n + 1, updI C.f C.n ((V t).c wh 2)⟩ w1.heap.size w2.heap.size (some ⟨bg, 0, none⟩) bc (.slice (some ⟨gd, 0, none⟩) n rc) 0 1 (toldT V (fun _ => (t : Int)) (fun _ => (wh : Int)) 0 0) (some ⟨gg, 0, none⟩) gc) (HM7.out.zero g1 g2 (fun j hj => ⟨_, HC4.out t j ht hj⟩)) ?_
      clear y0 y1 y2 y3 e0 e1 e2 e3 d5 HM7 hl7
      intro v8 h8
      obtain ⟨N, hN⟩ : ∃ N, N = C.n + 1 := ⟨_, rfl⟩
      obtain ⟨F, hF⟩ : ∃ F, F = updI C.f C.n ((V t).c wh 2) := ⟨_, rfl⟩
      rw [← hN, ← hF] at h8
      have HW := Lib.hid (show DoIs C V n hd 2 x ⟨C.gen, C.cap, C.used, C.closed, N - 1, fun i => F (i + 1)⟩ (zeroAt V (fun _ => (t : Int)) 1) 0 (F 0) 1 (toldT V (fun _ => (t : Int)) (fun _ => (wh : Int)) 0 0) from by
        rw [hN, hF, Nat.add_sub_cancel]
        exact .swap t wh HRD.out rfl ht hwh HF0.out)
      have HM := Lib.hid h8
      have h0 : 0 < N := by omega
      have hNb : N * 8 ≤ 140737488355328 := by omega
      clear h8 HC4 HF4 HGR g1 g2 hN hF
      revert HM HFW
      generalize store4 w2 gd (t * 4) (.bool false) (.int .i64 0) (.int .i64 0) (.slice none 0 0) = wz
      generalize (some ⟨gd, 0, none⟩ : Option Addr) = ra
      generalize (some ⟨bg, 0, none⟩ : Option Addr) = ba
      intro HFW HM
      have hlm := HM.out.lt
      obtain ⟨gb, rfl, hnb, ⟨hgD, hgl⟩, hgc⟩ : ∃ gb, ba = some ⟨gb, 0, none⟩ ∧ N ≤ bc ∧ (gb ≠ w2.heap.size ∧ gb < v8.heap.size) ∧ ∀ i, i < N → v8.cell? ⟨gb, i, none⟩ = some (.int .i64 (F i)) := by
        rcases HM.out.row with ⟨h1, _⟩ | ⟨B, ho, hp⟩
        · exact absurd h1 (by show ¬ (N) = 0; omega)
        · have ho' := ho
          rcases ho.2 with ⟨_, h2⟩ | ⟨g, cap, cur, hv, _, _, hnc, _⟩
          · exact absurd h2 (by show ¬ (N) = 0; omega)
          · simp only [Value.slice.injEq] at hv
            obtain ⟨rfl, _, rfl⟩ := hv
            have hpg := hp g rfl
            exact ⟨g, rfl, hnc, ⟨by omega, (ho'.lt g rfl).2⟩, fun i hi => (ho'.cellAt i (by show i < (N) * 1; omega)).trans (rowL_get hi)⟩
      have c0 := hgc 0 (by omega)
      (obtain ⟨d0, d1, d2, d3, d4, d5, d6, d7, d8, d9, d10, df⟩ := HM.out.got)
      have df4 := df 4
      have df5 := df 5
      have df8 := df 8
      have df9 := df 9
      have df10 := df 10
      clear df
      dsimp only at d0 d1 d2 d3 d4
      have nz : ((N : Int) == 0) = false := by simp; omega
      have i1 : (0 : Int) < (N : Int) := by omega
      go_upto_region 22 with (fail)
      clear nz i1
      refine abstract_code (fun v9 => RMid w v9 wz ⟨C.gen, C.cap, C.used, C.closed, N, F⟩ w1.heap.size w2.heap.size (some ⟨gb, 0, none⟩) bc (.slice ra n rc) (F 0) 1 (toldT V (fun _ => (t : Int)) (fun _ => (wh : Int)) 0 0) (some ⟨gg, 0, none⟩) gc ∧ (∀ i, i < N → v9.cell? ⟨gb, i, none⟩ = some (.int .i64 (F i))) ∧ gb < v9.heap.size) ⟨HM.out.set9 (F 0), fun i hi => by rw [cell_set_ne (.inl (Ne.symm hgD))]; exact hgc i hi, by simpa using hgl⟩ ?_
      clear HM hgc hgl c0 hlm hgD d0 d1 d2 d3 d4 d5 d6 d7 d8 d9 d10 df4 df5 df8 df9 df10
      rintro v9 ⟨h9, hgc, hgl⟩
      have HM9 := Lib.hid h9
      have hl9 := h9.lt
      (obtain ⟨d0, d1, d2, d3, d4, d5, d6, d7, d8, d9, d10, df⟩ := h9.got)
      have df4 := df 4
      have df5 := df 5
      have df8 := df 8
      have df9 := df 9
      have df10 := df 10
      clear df
      dsimp only at d0 d1 d2 d3 d4
      clear h9
      have j1 : (1 : Int) ≤ ((N : Nat) : Int) := by omega
      have HGC := Lib.hid hgc
      have hD9 : w2.heap.size < v9.heap.size := hl9.1
      have hwz : wz.heap.size = w2.heap.size := hl9.2.1
      have hU1 : w1.heap.size ≤ w2.heap.size := hl9.2.2.2
      clear hgc
      by_cases hcap : bc = 1
      · subst hcap
        have e2 : N - 1 = 0 := by omega
        go_upto_region 23 with (fail)
        refine abstract_code (fun vf => RFin w vf ⟨C.gen, C.cap, C.used, C.closed, N - 1, fun i => F (i + 1)⟩ (zeroAt V (fun _ => (t : Int)) 1) n w2.heap.size 0 (F 0) 1 (toldT V (fun _ => (t : Int)) (fun _ => (wh : Int)) 0 0) (some ⟨v9.heap.size, 0, none⟩) 0 ra rc (some ⟨gg, 0, none⟩) gc) ⟨HM9.out.ret.imp fun _ g => (g.far (by omega)).below (by simp; omega) ((Below.refl _ _).alloc (Nat.le_refl _) _), ?_, fun w' _ => ⟨by show (N - 1) * 8 ≤ _; omega, (fun e => by cases e), fun h => absurd (show 0 < N - 1 from h) (by omega)⟩, (HFW.out.agree (((HM9.out.agr.set_new (by omega))).trans (Agree.of ((Below.refl _ _).alloc (Nat.le_refl _) _)))).mono hw1, ((HM9.out.told.agree (Agree.set (by omega))).agree (Agree.of ((Below.refl _ _).alloc (Nat.le_refl _) _))).mono (by omega), (HM9.out.bel.setCell (by show _ ≤ w2.heap.size; omega) _).alloc (by have := HM9.out.bel.size; simp; omega) _, hD, by simp; omega⟩ ?_
        · have hg := ((HM9.out.got.set4 (.slice (some ⟨v9.heap.size, 0, none⟩) 0 0)).below (by simp; omega) ((Below.refl _ _).alloc (Nat.le_refl _) (.cells #[] 3)))
          show G11 _ _ _ (.slice (some ⟨v9.heap.size, 0, none⟩) (N - 1) 0) _ _ _ _
          rw [e2]
          exact hg
        generalize v9.heap.size = gz
        generalize w2.heap.size = D
        clear HM9 hl9 hD9 hwz hU1 HGC HFW d0 d1 d2 d3 d4 d5 d6 d7 d8 d9 d10 df4 df5 df8 df9 df10 e2 hnb 
        intro vf hf
        (obtain ⟨d0, d1, d2, d3, d4, d5, d6, d7, d8, d9, d10, df⟩ := hf.got)
        have df4 := df 4
        have df5 := df 5
        have df8 := df 8
        have df9 := df 9
        have df10 := df 10
        clear df
        (obtain ⟨C0, hz⟩ := hf.ret)
        (obtain ⟨z0, z1, z2, z3, z4, z5, z6, z7, z8, z9, z10, zf⟩ := hz)
        have zf0 := zf 0
        have zf1 := zf 1
        have zf2 := zf 2
        have zf3 := zf 3
        have zf4 := zf 4
        have zf5 := zf 5
        have zf6 := zf 6
        have zf7 := zf 7
        have zf8 := zf 8
        have zf9 := zf 9
        have zf10 := zf 10
        clear zf
        have HF := Lib.hid hf
        have hD2 := hf.lt
        clear hf
        dsimp only at d0 d1 d2 d3 d4
        go_wp2
        have ag := agree_store11 (w := vf) (p := w.heap.size + 1) (B := w.heap.size + 2) (x0 := .int .i64 C.gen) (x1 := .int .i64 C.cap) (x2 := .bool C.used) (x3 := .bool C.closed) (x4 := .slice (some ⟨gz, 0, none⟩) (N - 1) 0) (x5 := .slice ra n rc) (x6 := .int .i64 0) (x7 := .int .i64 0) (x8 := .int .i64 0) (x9 := .int .i64 (F 0)) (x10 := .slice ((some ⟨gg, 0, none⟩)) 1 (gc)) (by omega)
        have bl := below_store11 (p := w.heap.size + 1) (x0 := .int .i64 C.gen) (x1 := .int .i64 C.cap) (x2 := .bool C.used) (x3 := .bool C.closed) (x4 := .slice (some ⟨gz, 0, none⟩) (N - 1) 0) (x5 := .slice ra n rc) (x6 := .int .i64 0) (x7 := .int .i64 0) (x8 := .int .i64 0) (x9 := .int .i64 (F 0)) (x10 := .slice ((some ⟨gg, 0, none⟩)) 1 (gc)) HF.out.bel (by omega)
        exact bodyPost_ret (v := .agg #[.int .i64 C.gen, .int .i64 C.cap, .bool C.used, .bool C.closed, .slice (some ⟨gz, 0, none⟩) (N - 1) 0, .slice ra n rc, .int .i64 0, .int .i64 0, .int .i64 0, .int .i64 (F 0), .slice ((some ⟨gg, 0, none⟩)) 1 (gc)]) (by simp only [results, Try.results32]; go_simp) rfl ⟨_, _, _, _, _, _, (some ⟨gz, 0, none⟩), 0, ra, rc, ((some ⟨gg, 0, none⟩)), (gc), HW.out, rfl, HF.out.row _ ag, HF.out.wts _ ag, HF.out.told _ ag, bl⟩
      · have HNE := Lib.hid (show ∀ ad : Addr, (some ⟨gb, 1, none⟩ : Option Addr) = some ad → ∀ j u, (rowL .i64 (fun i => F (i + 1)) (N - 1))[j]? = some u → (v9.alloc (.cells #[] 3)).cell? (ad.add j) = some u from fun ad e j u hu => by
          injection e with e
          subst e
          have hj : j < N - 1 := by
            have := (List.getElem?_eq_some_iff.1 hu).1
            simpa [rowL] using this
          rw [rowL_get hj] at hu
          rw [show ((⟨gb, 1, none⟩ : Addr).add j) = ⟨gb, 1 + j, none⟩ from Go.WideShapes.add_plain .., World.cell?_alloc_past _ _ _ hgl, HGC.out (1 + j) (by omega), ← hu]
          rw [Nat.add_comm 1 j])
        go_upto_region 23 with (at_builtin; go_loud (refine nlist_copy rfl _ _ 36 rfl 3 (.int .i64 0) 1 8 Try.underlying36 Try.info_int rfl (by decide) v9.heap.size rfl (some ⟨gb, 1, none⟩) (N - 1) (bc - 1) (rowL .i64 (fun i => F (i + 1)) (N - 1)) rfl (by simp [rowL]) (fun e => by cases e) HNE.out (by unfold maxLen; omega) (by omega) ?_; intro l' c' w10 ho hg; have HO10 := Lib.hid ho; have hb10 := (show Below v9.heap.size v9 (v9.alloc (.cells #[] 3)) from (Below.refl _ _).alloc (Nat.le_refl _) _).trans ((below_of_grown hg).mono (by simp)); have HM10 := Lib.hid (HM9.out.below hb10); have hs10 := hb10.size; clear ho hg hb10 d0 d1 d2 d3 d4 d5 d6 d7 d8 d9 d10 df4 df5 df8 df9 df10; have d4 := HM10.out.got.2.2.2.2.1; have df4 := HM10.out.got.2.2.2.2.2.2.2.2.2.2.2 4))
        have hX : v9.heap.size + 1 = (v9.alloc (.cells #[] 3)).heap.size := by simp
        refine abstract_code (fun vf => RFin w vf ⟨C.gen, C.cap, C.used, C.closed, N - 1, fun i => F (i + 1)⟩ (zeroAt V (fun _ => (t : Int)) 1) n w2.heap.size 0 (F 0) 1 (toldT V (fun _ => (t : Int)) (fun _ => (wh : Int)) 0 0) l' c' ra rc (some ⟨gg, 0, none⟩) gc) ⟨HM10.out.ret.imp fun _ g => g.far (by omega), HM10.out.got.set4 (.slice l' (N - 1) c'), ((HO10.out.imp (fun b _ hb => show w2.heap.size < b from Nat.lt_of_lt_of_le (by omega) hb)).set (Nat.lt_irrefl _)).farZ (by show (N - 1) * 8 ≤ _; omega) (fun b hb => by omega), (HFW.out.agree (HM10.out.agr.set_new (by omega))).mono hw1, (HM10.out.told.agree (Agree.set (by omega))).mono (by omega), HM10.out.bel.setCell (by show _ ≤ w2.heap.size; omega) _, hD, by simp; omega⟩ ?_
        generalize w2.heap.size = D
        clear HM10 HM9 hl9 hD9 hwz hU1 HGC HFW HNE HO10 hX hs10 d4 df4 hnb 
        intro vf hf
        (obtain ⟨d0, d1, d2, d3, d4, d5, d6, d7, d8, d9, d10, df⟩ := hf.got)
        have df4 := df 4
        have df5 := df 5
        have df8 := df 8
        have df9 := df 9
        have df10 := df 10
        clear df
        (obtain ⟨C0, hz⟩ := hf.ret)
        (obtain ⟨z0, z1, z2, z3, z4, z5, z6, z7, z8, z9, z10, zf⟩ := hz)
        have zf0 := zf 0
        have zf1 := zf 1
        have zf2 := zf 2
        have zf3 := zf 3
        have zf4 := zf 4
        have zf5 := zf 5
        have zf6 := zf 6
        have zf7 := zf 7
        have zf8 := zf 8
        have zf9 := zf 9
        have zf10 := zf 10
        clear zf
        have HF := Lib.hid hf
        have hD2 := hf.lt
        clear hf
        dsimp only at d0 d1 d2 d3 d4
        go_wp2
        have ag := agree_store11 (w := vf) (p := w.heap.size + 1) (B := w.heap.size + 2) (x0 := .int .i64 C.gen) (x1 := .int .i64 C.cap) (x2 := .bool C.used) (x3 := .bool C.closed) (x4 := .slice l' (N - 1) c') (x5 := .slice ra n rc) (x6 := .int .i64 0) (x7 := .int .i64 0) (x8 := .int .i64 0) (x9 := .int .i64 (F 0)) (x10 := .slice ((some ⟨gg, 0, none⟩)) 1 (gc)) (by omega)
        have bl := below_store11 (p := w.heap.size + 1) (x0 := .int .i64 C.gen) (x1 := .int .i64 C.cap) (x2 := .bool C.used) (x3 := .bool C.closed) (x4 := .slice l' (N - 1) c') (x5 := .slice ra n rc) (x6 := .int .i64 0) (x7 := .int .i64 0) (x8 := .int .i64 0) (x9 := .int .i64 (F 0)) (x10 := .slice ((some ⟨gg, 0, none⟩)) 1 (gc)) HF.out.bel (by omega)
        exact bodyPost_ret (v := .agg #[.int .i64 C.gen, .int .i64 C.cap, .bool C.used, .bool C.closed, .slice l' (N - 1) c', .slice ra n rc, .int .i64 0, .int .i64 0, .int .i64 0, .int .i64 (F 0), .slice ((some ⟨gg, 0, none⟩)) 1 (gc)]) (by simp only [results, Try.results32]; go_simp) rfl ⟨_, _, _, _, _, _, l', c', ra, rc, ((some ⟨gg, 0, none⟩)), (gc), HW.out, rfl, HF.out.row _ ag, HF.out.wts _ ag, HF.out.told _ ag, bl⟩
end Go.Proofs.Ytihpjfhibhpciaa
