/- The contract of the reference's Do where a value is taken, over the seat's program. -/
import Derived.Test.YtihpjfhibhpciaaChU
namespace Go.Proofs.Ytihpjfhibhpciaa
open Go.ChangeShapes Go.WideShapes Go.ChangeAt Go.RowKit Go.Joins

/-- What the reference's Do has while values move. -/
structure RMid (W v wz : World) (C1 : CH) (U D : Nat) (ba : Option Addr) (bc : Nat) (L : Value) (rv : Int) (m : Nat) (T : Nat → Nat → Int) (ta : Option Addr) (tc : Nat) : Prop where
  ret : ∃ C0 : CH, G11 v (W.heap.size + 1) C0 (.slice none 0 0) (.slice none 0 0) 0 0 (.slice none 0 0)
  got : G11 v D C1 (.slice ba C1.n bc) L 0 rv (.slice ta m tc)
  row : OwnP (fun b => (W.heap.size + 2 ≤ b ∧ b < U) ∨ D < b) v 3 1 (.slice ba C1.n bc) C1.n (rowL .i64 C1.f C1.n)
  agr : Agree U wz v
  told : FarT (D + 1) v ta m tc T
  bel : Below W.heap.size W v
  lt : D < v.heap.size ∧ wz.heap.size = D ∧ W.heap.size + 2 ≤ U ∧ U ≤ D
theorem RAt.mid {W v w2 : World} {C : CH} {ca ba : Option Addr} {cc U D bc : Nat} {L : Value} (h : RAt W v w2 C ca cc U D ba bc L) : RMid W v w2 C U D ba bc L 0 0 (fun _ _ => 0) none 0 :=
  ⟨h.ret, h.got, h.row.imp (fun _ _ hb => .inl hb), h.agr, fun _ _ => RowS.nil rfl rfl, h.bel, h.lt.2.1, h.lt.2.2.1, h.lt.2.2.2.1, h.lt.2.2.2.2⟩
section
variable {W v v' wz : World} {C1 : CH} {U D : Nat} {ba : Option Addr} {bc : Nat} {L : Value} {rv : Int} {m : Nat} {T : Nat → Nat → Int} {ta : Option Addr} {tc : Nat}
theorem RMid.set9 (h : RMid W v wz C1 U D ba bc L rv m T ta tc) (y : Int) : RMid W (v.setCell ⟨D, 9, none⟩ (.int .i64 y)) wz C1 U D ba bc L y m T ta tc :=
  ⟨h.ret.imp fun _ g => g.far (by have := h.lt; omega), h.got.set9 y, h.row.set (fun e => by have := h.lt; omega), h.agr.set_new (Nat.le_of_eq h.lt.2.1), h.told.agree (Agree.set (by omega)), h.bel.setCell (by have := h.lt; show _ ≤ D; omega) _, by simpa using h.lt.1, h.lt.2.1, h.lt.2.2.1, h.lt.2.2.2⟩
theorem RMid.below (h : RMid W v wz C1 U D ba bc L rv m T ta tc) (hb : Below v.heap.size v v') : RMid W v' wz C1 U D ba bc L rv m T ta tc :=
  ⟨h.ret.imp fun _ g => g.below (by have := h.lt; omega) hb, h.got.below h.lt.1 hb, h.row.below hb, h.agr.trans (Agree.of hb), h.told.agree (Agree.of hb), h.bel.trans (hb.mono h.bel.size), Nat.lt_of_lt_of_le h.lt.1 hb.size, h.lt.2.1, h.lt.2.2.1, h.lt.2.2.2⟩
end
set_option maxRecDepth 100000 in
set_option maxHeartbeats 1600000 in
theorem rdo_pop (ca : Option Addr) (cc : Nat) (C : CH) (hd : Int) (a : Option Addr) (n cap : Nat) (V : Nat → WV) (x : Int) (w : World) (hrow : RowAt .i64 w ca C.n cc C.f) (hm : C.n ≤ maxLen) (h : WaitsAt w a n cap V) (hr : Rdy C V n hd 2) (hno : ∀ i, i < n → ¬ Fit V 1 hd i) (h0 : 0 < C.n) :
    Calls Try.prog 32 #[.agg #[.int .i64 C.gen, .int .i64 C.cap, .bool C.used, .bool C.closed, .slice ca C.n cc], .int .i64 hd, .slice a n cap, .int .i64 2, .int .i64 x] w (RDoRet C V n hd 2 x w) := by
  have hn := h.1
  have hC8 := hrow.1
  have HROW := Lib.hid hrow
  have HCA := Lib.hid (show ChanAt w (.agg #[.int .i64 C.gen, .int .i64 C.cap, .bool C.used, .bool C.closed, .slice ca C.n cc]) C from ⟨ca, cc, rfl, hrow⟩)
  have HS := Lib.hid h
  have HB0 := Lib.hid (show Below w.heap.size w ((w.alloc (.cells #[.int .i64 C.gen, .int .i64 C.cap, .bool C.used, .bool C.closed, .slice ca C.n cc] 44)).alloc (.cells #[.int .i64 0, .int .i64 0, .bool false, .bool false, .slice none 0 0, .slice none 0 0, .int .i64 0, .int .i64 0, .int .i64 0, .int .i64 0, .slice none 0 0] 53)) from ((Below.refl _ _).alloc (Nat.le_refl _) _).alloc (by simp) _)
  have HX := Lib.hid ((Box.new (a := .int .i64 C.gen) (b := .int .i64 C.cap) (c := .bool C.used) (d := .bool C.closed) (e := .slice ca C.n cc) w 44).below (by simp) ((Below.refl _ _).alloc (Nat.le_refl _) (.cells #[.int .i64 0, .int .i64 0, .bool false, .bool false, .slice none 0 0, .slice none 0 0, .int .i64 0, .int .i64 0, .int .i64 0, .int .i64 0, .slice none 0 0] 53)))
  have HZ := Lib.hid (G11.new (w.alloc (.cells #[.int .i64 C.gen, .int .i64 C.cap, .bool C.used, .bool C.closed, .slice ca C.n cc] 44)) ⟨0, 0, false, false, 0, fun _ => 0⟩ (.slice none 0 0) (.slice none 0 0) 53)
  have hsz : w.heap.size + 2 = ((w.alloc (.cells #[.int .i64 C.gen, .int .i64 C.cap, .bool C.used, .bool C.closed, .slice ca C.n cc] 44)).alloc (.cells #[.int .i64 0, .int .i64 0, .bool false, .bool false, .slice none 0 0, .slice none 0 0, .int .i64 0, .int .i64 0, .int .i64 0, .int .i64 0, .slice none 0 0] 53)).heap.size := by simp
  rw [World.size_alloc] at HZ
  have HRD := Lib.hid hr
  have HNO := Lib.hid hno
  have H0 := Lib.hid h0
  clear hr hno h0
  clear h hrow
  go_enter Try.func32, Try.ntmps32
  go_upto_region 1 with (fail)
  revert HB0 HX HZ hsz
  generalize (w.alloc (.cells #[.int .i64 C.gen, .int .i64 C.cap, .bool C.used, .bool C.closed, .slice ca C.n cc] 44)).alloc (.cells #[.int .i64 0, .int .i64 0, .bool false, .bool false, .slice none 0 0, .slice none 0 0, .int .i64 0, .int .i64 0, .int .i64 0, .int .i64 0, .slice none 0 0] 53) = u
  intro HB0 HX HZ hsz
  (obtain ⟨x0, x1, x2, x3, x4, _⟩ := HX.out)
  go_upto_region 2 with (first
    | (go_at_call 30; go_loud ((with_reducible refine (rchan_copy ca cc C u (HROW.out.below HB0.out).z hm).mono ?_); rintro e w1 ⟨⟨ba, bc, rfl, ho⟩, hb⟩; have HO1 := Lib.hid ho; have HX1 := Lib.hid (HX.out.below (by omega) hb); have HZ1 := Lib.hid (HZ.out.below (by omega) hb); have HB1 := Lib.hid (HB0.out.trans (hb.mono HB0.out.size)); have hs1 := hb.size; clear ho hb x0 x1 x2 x3 x4))
    | (go_at_call 14; go_loud ((with_reducible refine (rcopy_any a n cap V _ (HS.out.below HB1.out)).mono ?_); rintro e w2 ⟨vv, A, CC', rfl, hol, hcl, hb⟩; obtain ⟨ra, rc, rfl⟩ := hol.form; have HL := Lib.hid hol; have HCL := Lib.hid hcl; have HO2 := Lib.hid (HO1.out.below hb); have HX2 := Lib.hid (HX1.out.below (by omega) hb); have HZ2 := Lib.hid (HZ1.out.below (by omega) hb); have HB2 := Lib.hid (HB1.out.trans (hb.mono HB1.out.size)); have hs2 := hb.size; have HBX := Lib.hid hb; clear hol hcl hb)))
  have hAA : Below w2.heap.size w2 (w2.alloc (.cells #[.int .i64 C.gen, .int .i64 C.cap, .bool C.used, .bool C.closed, .slice ba C.n bc, .slice ra n rc, .int .i64 0, .int .i64 0, .int .i64 0, .int .i64 0, .slice none 0 0] 53)) := (Below.refl _ _).alloc (Nat.le_refl _) _
  refine abstract_code (fun v => RAt w v w2 C ca cc w1.heap.size w2.heap.size ba bc (.slice ra n rc)) ⟨HX2.out.below (by omega) hAA, ⟨_, HZ2.out.below (by omega) hAA⟩, G11.new w2 C _ _ _, (HO1.out.imp (fun b hb' hb => ⟨Nat.le_trans (by omega) hb, hb'⟩)).below (HBX.out.trans (hAA.mono hs2)), Agree.of hAA, HB2.out.trans (hAA.mono HB2.out.size), by omega, by simp, rfl, by omega, hs2⟩ ?_
  have hD : w.heap.size + 2 ≤ w2.heap.size := by omega
  have hw1 : w.heap.size + 2 ≤ w1.heap.size := by omega
  clear hAA HX HX1 HX2 HZ HZ1 HZ2 HO1 HO2 HBX HB0 HB1 HB2 hs1 hs2 hsz
  intro v hv
  have hlt := hv.lt
  have HA := Lib.hid hv
  (obtain ⟨x0, x1, x2, x3, x4, _⟩ := hv.chan)
  clear hv
  go_upto_region 5 with (go_at_call 34; go_loud ((with_reducible refine (rready_any _ C a n cap V hd _ _ (HCA.out.below HA.out.bel) (HS.out.below HA.out.bel)).mono ?_); rintro e v3 ⟨⟨y, rfl, hy⟩, hb⟩; obtain rfl : y = true := hy.2 HRD.out; have HA3 := Lib.hid (HA.out.below hb); clear hy hb x0 x1 x2 x3 x4))
  go_upto_region 14 with (go_at_call 22; go_loud ((with_reducible refine (rfirst_any _ _ _ _ _ _ _ (HS.out.below HA3.out.bel)).mono ?_); rintro e v4 ⟨⟨t', wh', ok, rfl, hf⟩, hb⟩; obtain rfl : ok = false := (by cases ok with | false => rfl | true => exact absurd (hf.ok_iff.1 rfl) (fun ⟨i, hi, hff⟩ => HNO.out i hi hff)); have HA4 := Lib.hid (HA3.out.below hb); clear hf hb))
  have HM := Lib.hid HA4.out.mid
  have HFW := Lib.hid (waits_far hn HL.out HCL.out)
  have h0 := H0.out
  clear HA HA3 HA4 HL HCL hlt
  have hlm := HM.out.lt
  obtain ⟨gb, rfl, hnb, ⟨hgD, hgl⟩, hgc⟩ : ∃ gb, ba = some ⟨gb, 0, none⟩ ∧ C.n ≤ bc ∧ (gb ≠ w2.heap.size ∧ gb < v4.heap.size) ∧ ∀ i, i < C.n → v4.cell? ⟨gb, i, none⟩ = some (.int .i64 (C.f i)) := by
    rcases HM.out.row with ⟨h1, _⟩ | ⟨B, ho, hp⟩
    · exact absurd h1 (by show ¬ (C.n) = 0; omega)
    · have ho' := ho
      rcases ho.2 with ⟨_, h2⟩ | ⟨g, cap, cur, hv, _, _, hnc, _⟩
      · exact absurd h2 (by show ¬ (C.n) = 0; omega)
      · simp only [Value.slice.injEq] at hv
        obtain ⟨rfl, _, rfl⟩ := hv
        have hpg := hp g rfl
        exact ⟨g, rfl, hnc, ⟨by omega, (ho'.lt g rfl).2⟩, fun i hi => (ho'.cellAt i (by show i < (C.n) * 1; omega)).trans (rowL_get hi)⟩
  have c0 := hgc 0 (by omega)
  (obtain ⟨d0, d1, d2, d3, d4, d5, d6, d7, d8, d9, d10, df⟩ := HM.out.got)
  have df4 := df 4
  have df5 := df 5
  have df8 := df 8
  have df9 := df 9
  have df10 := df 10
  clear df
  have nz : ((C.n : Int) == 0) = false := by simp; omega
  have i1 : (0 : Int) < (C.n : Int) := by omega
  go_upto_region 22 with (fail)
  clear nz i1
  refine abstract_code (fun v9 => RMid w v9 w2 C w1.heap.size w2.heap.size (some ⟨gb, 0, none⟩) bc (.slice ra n rc) (C.f 0) 0 (fun _ _ => 0) none 0 ∧ (∀ i, i < C.n → v9.cell? ⟨gb, i, none⟩ = some (.int .i64 (C.f i))) ∧ gb < v9.heap.size) ⟨HM.out.set9 (C.f 0), fun i hi => by rw [cell_set_ne (.inl (Ne.symm hgD))]; exact hgc i hi, by simpa using hgl⟩ ?_
  clear HM hgc hgl c0 hlm hgD d0 d1 d2 d3 d4 d5 d6 d7 d8 d9 d10 df4 df5 df8 df9 df10
  rintro v9 ⟨h9, hgc, hgl⟩
  have HM9 := Lib.hid h9
  have hl9 := h9.lt
  (obtain ⟨d0, d1, d2, d3, d4, d5, d6, d7, d8, d9, d10, df⟩ := h9.got)
  have df4 := df 4
  have df5 := df 5
  have df8 := df 8
  have df9 := df 9
  have df10 := df 10
  clear df
  clear h9
  have j1 : (1 : Int) ≤ ((C.n : Nat) : Int) := by omega
  have HGC := Lib.hid hgc
  have hD9 : w2.heap.size < v9.heap.size := hl9.1
  have hwz : w2.heap.size = w2.heap.size := hl9.2.1
  have hU1 : w1.heap.size ≤ w2.heap.size := hl9.2.2.2
  clear hgc
  by_cases hcap : bc = 1
  · subst hcap
    have e2 : C.n - 1 = 0 := by omega
    go_upto_region 23 with (fail)
    refine abstract_code (fun vf => RFin w vf ⟨C.gen, C.cap, C.used, C.closed, C.n - 1, fun i => C.f (i + 1)⟩ V n w2.heap.size 0 (C.f 0) 0 (fun _ _ => 0) (some ⟨v9.heap.size, 0, none⟩) 0 ra rc none 0) ⟨HM9.out.ret.imp fun _ g => (g.far (by omega)).below (by simp; omega) ((Below.refl _ _).alloc (Nat.le_refl _) _), ?_, fun w' _ => ⟨by show (C.n - 1) * 8 ≤ _; omega, (fun e => by cases e), fun h => absurd (show 0 < C.n - 1 from h) (by omega)⟩, (HFW.out.agree (((HM9.out.agr.set_new (by omega))).trans (Agree.of ((Below.refl _ _).alloc (Nat.le_refl _) _)))).mono hw1, ((HM9.out.told.agree (Agree.set (by omega))).agree (Agree.of ((Below.refl _ _).alloc (Nat.le_refl _) _))).mono (by omega), (HM9.out.bel.setCell (by show _ ≤ w2.heap.size; omega) _).alloc (by have := HM9.out.bel.size; simp; omega) _, hD, by simp; omega⟩ ?_
    · have hg := ((HM9.out.got.set4 (.slice (some ⟨v9.heap.size, 0, none⟩) 0 0)).below (by simp; omega) ((Below.refl _ _).alloc (Nat.le_refl _) (.cells #[] 3)))
      show G11 _ _ _ (.slice (some ⟨v9.heap.size, 0, none⟩) (C.n - 1) 0) _ _ _ _
      rw [e2]
      exact hg
    generalize v9.heap.size = gz
    generalize w2.heap.size = D
    clear HM9 hl9 hD9 hwz hU1 HGC HFW d0 d1 d2 d3 d4 d5 d6 d7 d8 d9 d10 df4 df5 df8 df9 df10 e2 hnb 
    intro vf hf
    (obtain ⟨d0, d1, d2, d3, d4, d5, d6, d7, d8, d9, d10, df⟩ := hf.got)
    have df4 := df 4
    have df5 := df 5
    have df8 := df 8
    have df9 := df 9
    have df10 := df 10
    clear df
    (obtain ⟨C0, hz⟩ := hf.ret)
    (obtain ⟨z0, z1, z2, z3, z4, z5, z6, z7, z8, z9, z10, zf⟩ := hz)
    have zf0 := zf 0
    have zf1 := zf 1
    have zf2 := zf 2
    have zf3 := zf 3
    have zf4 := zf 4
    have zf5 := zf 5
    have zf6 := zf 6
    have zf7 := zf 7
    have zf8 := zf 8
    have zf9 := zf 9
    have zf10 := zf 10
    clear zf
    have HF := Lib.hid hf
    have hD2 := hf.lt
    clear hf
    dsimp only at d0 d1 d2 d3 d4
    go_wp2
    have ag := agree_store11 (w := vf) (p := w.heap.size + 1) (B := w.heap.size + 2) (x0 := .int .i64 C.gen) (x1 := .int .i64 C.cap) (x2 := .bool C.used) (x3 := .bool C.closed) (x4 := .slice (some ⟨gz, 0, none⟩) (C.n - 1) 0) (x5 := .slice ra n rc) (x6 := .int .i64 0) (x7 := .int .i64 0) (x8 := .int .i64 0) (x9 := .int .i64 (C.f 0)) (x10 := .slice (none) 0 (0)) (by omega)
    have bl := below_store11 (p := w.heap.size + 1) (x0 := .int .i64 C.gen) (x1 := .int .i64 C.cap) (x2 := .bool C.used) (x3 := .bool C.closed) (x4 := .slice (some ⟨gz, 0, none⟩) (C.n - 1) 0) (x5 := .slice ra n rc) (x6 := .int .i64 0) (x7 := .int .i64 0) (x8 := .int .i64 0) (x9 := .int .i64 (C.f 0)) (x10 := .slice (none) 0 (0)) HF.out.bel (by omega)
    exact bodyPost_ret (v := .agg #[.int .i64 C.gen, .int .i64 C.cap, .bool C.used, .bool C.closed, .slice (some ⟨gz, 0, none⟩) (C.n - 1) 0, .slice ra n rc, .int .i64 0, .int .i64 0, .int .i64 0, .int .i64 (C.f 0), .slice (none) 0 (0)]) (by simp only [results, Try.results32]; go_simp) rfl ⟨_, _, _, _, _, _, (some ⟨gz, 0, none⟩), 0, ra, rc, (none), (0), .pop (fun _ _ => 0) HRD.out rfl HNO.out H0.out, rfl, HF.out.row _ ag, HF.out.wts _ ag, HF.out.told _ ag, bl⟩
  · have HNE := Lib.hid (show ∀ ad : Addr, (some ⟨gb, 1, none⟩ : Option Addr) = some ad → ∀ j u, (rowL .i64 (fun i => C.f (i + 1)) (C.n - 1))[j]? = some u → (v9.alloc (.cells #[] 3)).cell? (ad.add j) = some u from fun ad e j u hu => by
      injection e with e
      subst e
      have hj : j < C.n - 1 := by
        have := (List.getElem?_eq_some_iff.1 hu).1
        simpa [rowL] using this
      rw [rowL_get hj] at hu
      rw [show ((⟨gb, 1, none⟩ : Addr).add j) = ⟨gb, 1 + j, none⟩ from Go.WideShapes.add_plain .., World.cell?_alloc_past _ _ _ hgl, HGC.out (1 + j) (by omega), ← hu]
      rw [Nat.add_comm 1 j])
    go_upto_region 23 with (at_builtin; go_loud (refine nlist_copy rfl _ _ 36 rfl 3 (.int .i64 0) 1 8 Try.underlying36 Try.info_int rfl (by decide) v9.heap.size rfl (some ⟨gb, 1, none⟩) (C.n - 1) (bc - 1) (rowL .i64 (fun i => C.f (i + 1)) (C.n - 1)) rfl (by simp [rowL]) (fun e => by cases e) HNE.out (by unfold maxLen; omega) (by omega) ?_; intro l' c' w10 ho hg; have HO10 := Lib.hid ho; have hb10 := (show Below v9.heap.size v9 (v9.alloc (.cells #[] 3)) from (Below.refl _ _).alloc (Nat.le_refl _) _).trans ((below_of_grown hg).mono (by simp)); have HM10 := Lib.hid (HM9.out.below hb10); have hs10 := hb10.size; clear ho hg hb10 d0 d1 d2 d3 d4 d5 d6 d7 d8 d9 d10 df4 df5 df8 df9 df10; have d4 := HM10.out.got.2.2.2.2.1; have df4 := HM10.out.got.2.2.2.2.2.2.2.2.2.2.2 4))
    have hX : v9.heap.size + 1 = (v9.alloc (.cells #[] 3)).heap.size := by simp
    refine abstract_code (fun vf => RFin w vf ⟨C.gen, C.cap, C.used, C.closed, C.n - 1, fun i => C.f (i + 1)⟩ V n w2.heap.size 0 (C.f 0) 0 (fun _ _ => 0) l' c' ra rc none 0) ⟨HM10.out.ret.imp fun _ g => g.far (by omega), HM10.out.got.set4 (.slice l' (C.n - 1) c'), ((HO10.out.imp (fun b _ hb => show w2.heap.size < b from Nat.lt_of_lt_of_le (by omega) hb)).set (Nat.lt_irrefl _)).farZ (by show (C.n - 1) * 8 ≤ _; omega) (fun b hb => by omega), (HFW.out.agree (HM10.out.agr.set_new (by omega))).mono hw1, (HM10.out.told.agree (Agree.set (by omega))).mono (by omega), HM10.out.bel.setCell (by show _ ≤ w2.heap.size; omega) _, hD, by simp; omega⟩ ?_
    generalize w2.heap.size = D
    clear HM10 HM9 hl9 hD9 hwz hU1 HGC HFW HNE HO10 hX hs10 d4 df4 hnb 
    intro vf hf
    (obtain ⟨d0, d1, d2, d3, d4, d5, d6, d7, d8, d9, d10, df⟩ := hf.got)
    have df4 := df 4
    have df5 := df 5
    have df8 := df 8
    have df9 := df 9
    have df10 := df 10
    clear df
    (obtain ⟨C0, hz⟩ := hf.ret)
    (obtain ⟨z0, z1, z2, z3, z4, z5, z6, z7, z8, z9, z10, zf⟩ := hz)
    have zf0 := zf 0
    have zf1 := zf 1
    have zf2 := zf 2
    have zf3 := zf 3
    have zf4 := zf 4
    have zf5 := zf 5
    have zf6 := zf 6
    have zf7 := zf 7
    have zf8 := zf 8
    have zf9 := zf 9
    have zf10 := zf 10
    clear zf
    have HF := Lib.hid hf
    have hD2 := hf.lt
    clear hf
    dsimp only at d0 d1 d2 d3 d4
    go_wp2
    have ag := agree_store11 (w := vf) (p := w.heap.size + 1) (B := w.heap.size + 2) (x0 := .int .i64 C.gen) (x1 := .int .i64 C.cap) (x2 := .bool C.used) (x3 := .bool C.closed) (x4 := .slice l' (C.n - 1) c') (x5 := .slice ra n rc) (x6 := .int .i64 0) (x7 := .int .i64 0) (x8 := .int .i64 0) (x9 := .int .i64 (C.f 0)) (x10 := .slice (none) 0 (0)) (by omega)
    have bl := below_store11 (p := w.heap.size + 1) (x0 := .int .i64 C.gen) (x1 := .int .i64 C.cap) (x2 := .bool C.used) (x3 := .bool C.closed) (x4 := .slice l' (C.n - 1) c') (x5 := .slice ra n rc) (x6 := .int .i64 0) (x7 := .int .i64 0) (x8 := .int .i64 0) (x9 := .int .i64 (C.f 0)) (x10 := .slice (none) 0 (0)) HF.out.bel (by omega)
    exact bodyPost_ret (v := .agg #[.int .i64 C.gen, .int .i64 C.cap, .bool C.used, .bool C.closed, .slice l' (C.n - 1) c', .slice ra n rc, .int .i64 0, .int .i64 0, .int .i64 0, .int .i64 (C.f 0), .slice (none) 0 (0)]) (by simp only [results, Try.results32]; go_simp) rfl ⟨_, _, _, _, _, _, l', c', ra, rc, (none), (0), .pop (fun _ _ => 0) HRD.out rfl HNO.out H0.out, rfl, HF.out.row _ ag, HF.out.wts _ ag, HF.out.told _ ag, bl⟩
end Go.Proofs.Ytihpjfhibhpciaa
