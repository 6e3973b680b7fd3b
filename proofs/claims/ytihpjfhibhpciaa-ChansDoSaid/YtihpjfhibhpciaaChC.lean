/- What a call that waited is told by a send, or a receive; the contract of send, over the seat's program. -/
import Derived.Test.YtihpjfhibhpciaaChB
namespace Go.Proofs.Ytihpjfhibhpciaa
open Go.ChangeShapes Go.WideShapes Go.ChangeAt Go.RowKit Go.Joins

set_option maxRecDepth 100000 in
set_option maxHeartbeats 3200000 in
theorem recv_came (U : WV) (ca : Option Addr) (cc : Nat) (wh : Int) (p : Nat) (w : World) (hp : NumAt w p wh) : Calls Try.prog 100 #[.agg #[.bool U.on, .int .i64 U.tk, .int .i64 U.sq, .slice ca U.m cc], .pointer (some ⟨p, 0, none⟩)] w fun e w' => e = .returned (.agg #[.int .i64 0, .int .i64 wh, .int .i64 0, .int .i64 0]) ∧ Below w.heap.size w w' := by
  have HB := Lib.hid (((Below.refl w.heap.size w).alloc (Nat.le_refl _) (.cells #[.bool U.on, .int .i64 U.tk, .int .i64 U.sq, .slice ca U.m cc] 25)).alloc (by simp) (.cells #[.int .i64 0, .int .i64 wh, .int .i64 0, .int .i64 0] 48))
  have zp := hp.1
  have c0 := hp.2
  clear hp
  go_enter Try.func100, Try.ntmps100
  go_wp2
  refine bodyPost_ret (v := .agg #[.int .i64 0, .int .i64 wh, .int .i64 0, .int .i64 0]) (by simp only [results, Try.results100]; go_simp) rfl ⟨rfl, HB.out⟩
set_option maxRecDepth 100000 in
set_option maxHeartbeats 3200000 in
theorem send_came (U : WV) (ca : Option Addr) (cc : Nat) (wh x : Int) (p q : Nat) (w : World) (hp : NumAt w p wh) (hq : NumAt w q x) : Calls Try.prog 102 #[.agg #[.bool U.on, .int .i64 U.tk, .int .i64 U.sq, .slice ca U.m cc], .pointer (some ⟨p, 0, none⟩), .pointer (some ⟨q, 0, none⟩)] w fun e w' => e = .returned (.agg #[.int .i64 0, .int .i64 wh, .int .i64 0, .int .i64 x]) ∧ Below w.heap.size w w' := by
  have HB := Lib.hid (((Below.refl w.heap.size w).alloc (Nat.le_refl _) (.cells #[.bool U.on, .int .i64 U.tk, .int .i64 U.sq, .slice ca U.m cc] 25)).alloc (by simp) (.cells #[.int .i64 0, .int .i64 wh, .int .i64 0, .int .i64 x] 48))
  have zp := hp.1
  have c0 := hp.2
  have zq := hq.1
  have c1 := hq.2
  clear hp hq
  go_enter Try.func102, Try.ntmps102
  go_wp2
  refine bodyPost_ret (v := .agg #[.int .i64 0, .int .i64 wh, .int .i64 0, .int .i64 x]) (by simp only [results, Try.results102]; go_simp) rfl ⟨rfl, HB.out⟩
set_option maxRecDepth 100000 in
set_option maxHeartbeats 6400000 in
theorem end_send (p q : Nat) (a : Option Addr) (n cap : Nat) (V : Nat → WV) (fa : Option Addr) (m fc : Nat) (f : Nat → Int) (K : Nat → Int) (cd val : Int) (w : World) (h : WaitsAt w a n cap V) (hf : RowAt .i64 w fa m fc f) (hfi : ∀ j, j < m → ∃ i : Nat, i < n ∧ f j = (i : Int)) (hmn : m ≤ n)
    (hcame : ∀ (i : Nat) (W : World) (ca : Option Addr) (cc : Nat), (∃ j, j < m ∧ f j = (i : Int)) → Below w.heap.size w W → RowS 3 W ca (V i).m cc (V i).c → Calls Try.prog 102 #[.agg #[.bool (V i).on, .int .i64 (V i).tk, .int .i64 (V i).sq, .slice ca (V i).m cc], .pointer (some ⟨p, 0, none⟩), .pointer (some ⟨q, 0, none⟩)] W fun e w' => e = .returned (.agg #[.int .i64 0, .int .i64 (K i), .int .i64 cd, .int .i64 val]) ∧ Below W.heap.size W w') :
    Calls Try.prog 75 #[.slice a n cap, .slice fa m fc, .func (.func 102) #[] #[.pointer (some ⟨p, 0, none⟩), .pointer (some ⟨q, 0, none⟩)]] w (EndRet V n f m K cd val w) := by
  have hn := h.1
  have HS := Lib.hid h
  have HF := Lib.hid hf
  have HFI := Lib.hid hfi
  have HK := Lib.hid hcame
  have HC := Lib.hid (copy_any a n cap V w h)
  obtain ⟨ti, hti, htz, htz1, htz2⟩ := info_parts Try.info_told
  clear h hf hfi hcame hti htz htz1 htz2
  go_enter Try.func75, Try.ntmps75
  go_upto_region 2 with (go_at_call 29; go_loud ((with_reducible refine HC.out.mono ?_); rintro e w1 ⟨v1, A, C, rfl, ho, hc, hb⟩; have HO := Lib.hid ho; have HCS := Lib.hid hc; have HB1 := Lib.hid hb; obtain ⟨da, dc, rfl⟩ := ho.form; clear ho hc hb))
  go_wp2
  go_loopw [9, 17] (fun tv iv wr => ∃ k : Nat, k ≤ m ∧ iv = .int .i64 k ∧ wr.ownsRow w1.heap.size 64 5 tv k (flatL 5 (toldT V f K cd val) k) ∧ Ends w w1 wr da dc n V f k A C) (fun _ iv _ => m - (intOf iv).toNat)
  case atStart => exact ⟨0, Nat.zero_le _, rfl, by rw [flatL_zero]; exact World.ownsRow_nil _ _ _ _, Ends.start HB1.out HO.out⟩
  case round =>
    obtain ⟨k, hk, rfl, ht, hx⟩ := hrel
    obtain ⟨ta, tc, rfl⟩ := own_form ht
    have HT := Lib.hid ht
    have HX := Lib.hid hx
    have HR := Lib.hid (HS.out.below hx.bel)
    have HFR := Lib.hid (HF.out.below hx.bel)
    clear ht hx
    by_cases hlt : k < m
    · obtain ⟨i, hin, hfk⟩ := HFI.out k hlt
      obtain ⟨gd, hgd⟩ := HX.out.some (by omega)
      obtain ⟨rfl, hg1, hg2⟩ := hgd
      obtain ⟨fb, fo, rfl, _, hfc⟩ := HFR.out.get hlt
      have z0 := hfc k hlt
      rw [hfk] at z0
      obtain ⟨b, off, rfl, zb, hc⟩ := HR.out.get hin
      obtain ⟨ca, cc, x0, x1, x2, x3, hr⟩ := hc i hin
      have HKI := Lib.hid (HK.out i wr ca cc ⟨k, hlt, hfk⟩ HX.out.bel hr)
      have i0 : (0 : Int) ≤ (i : Int) := by omega
      have i1 : (i : Int) < (n : Int) := by omega
      have j0 : (0 : Int) ≤ (k : Int) := by omega
      have j1 : (k : Int) < (m : Int) := by omega
      have HFK := Lib.hid hfk
      have hgr := HX.out.size
      have hgt := HT.out.lt
      clear hfc hc hr hfk
      go_upto_region 8 with (go_at_call 102; go_loud ((with_reducible refine HKI.out.mono ?_); rintro e w2 ⟨rfl, hb2⟩; have HB2 := Lib.hid hb2; have x2 := ((bcell hb2).1 _ _ zb).trans x2; have zb := Nat.lt_of_lt_of_le zb hb2.size; clear hb2 x0 x1 x3 z0))
      have HT2 := Lib.hid (own_below HT.out HB2.out)
      have h2s := HB2.out.size
      go_upto_region 9 with (at_builtin; go_loud (refine app_cells w1.heap.size 64 49 rfl _ _ rfl Try.underlying49 _ 5 40 Try.info_told rfl (by decide) (.slice ta k tc) k (flatL 5 (toldT V f K cd val) k) #[.int .i64 (i : Int), .int .i64 (V i).sq, .int .i64 (K i), .int .i64 cd, .int .i64 val] rfl (by simp [Value.oneCell']) rfl (HT2.out.alloc _) (w2.heap.size + 1) (by simp) rfl (by omega) (by unfold maxLen; omega) (by simp; omega) ?_; intro gg gc w3 ho3 hg3 _ _; have HT3 := Lib.hid ho3; have HG3 := Lib.hid ((below_grownBy (HB2.out.alloc h2s _) (Value.slice ta k tc).ownBlock).trans hg3); clear ho3 hg3))
      have HX3 := Lib.hid (HX.out.grown HG3.out (fun q hq => (hgt q hq).1) (by omega))
      obtain ⟨hs3, hf3⟩ := HX3.out.soft hin
      obtain ⟨u0, e0⟩ := hs3 0 (by omega)
      obtain ⟨u1, e1⟩ := hs3 1 (by omega)
      obtain ⟨u2, e2⟩ := hs3 2 (by omega)
      obtain ⟨u3, e3⟩ := hs3 3 (by omega)
      rw [Nat.add_zero] at e0
      have f0 := hf3 (i * 4)
      have f1 := hf3 (i * 4 + 1)
      have f2 := hf3 (i * 4 + 2)
      have f3 := hf3 (i * 4 + 3)
      clear hs3 hf3
      go_wp2
      go_roundw
      case rel => exact ⟨k + 1, by omega, by go_num, (by rw [← told_row HFK.out]; exact ownsRow_setCell_below (ownsRow_setCell_below (ownsRow_setCell_below (ownsRow_setCell_below HT3.out hg2 _) hg2 _) hg2 _) hg2 _), HX3.out.store hin HFK.out⟩
      case measure => simp [intOf]; omega
    · obtain rfl : k = m := by omega
      have HRW := Lib.hid (told_far (by omega) HT.out HX.out.up)
      go_wp2
      refine bodyPost_ret (v := .tuple #[.slice da n dc, .slice ta k tc]) (by simp only [results, Try.results75]; go_simp) rfl ⟨da, dc, ta, tc, rfl, HX.out.done hn HCS.out, HRW.out, HX.out.bel⟩
/-- A channel whose values lie from a block on; calls that wait that lie below one. -/
def RowZ (w : World) (a : Option Addr) (n cap : Nat) (f : Nat → Int) : Prop :=
  n * 8 ≤ 140737488355328 ∧ (a = none → n = 0 ∧ cap = 0) ∧ (0 < n → ∃ b off, a = some ⟨b, off, none⟩ ∧ b < w.heap.size ∧ ∀ i, i < n → w.cell? ⟨b, off + i, none⟩ = some (.int .i64 (f i)))
theorem RowZ.below {w w' : World} {a : Option Addr} {n cap : Nat} {f : Nat → Int} (h : RowZ w a n cap f) (hw : Below w.heap.size w w') : RowZ w' a n cap f := by
  refine ⟨h.1, h.2.1, fun h0 => ?_⟩
  obtain ⟨b, off, ha, hb, hi⟩ := h.2.2 h0
  exact ⟨b, off, ha, Nat.lt_of_lt_of_le hb hw.size, fun i h => by rw [(bcell hw).1 _ _ hb]; exact hi i h⟩
theorem RowAt.z {w : World} {a : Option Addr} {n cap : Nat} {f : Nat → Int} (h : RowAt .i64 w a n cap f) : RowZ w a n cap f := ⟨Nat.le_trans h.1 (by decide), h.2⟩
theorem RowZ.at {w : World} {a : Option Addr} {n cap : Nat} {f : Nat → Int} (hn : n * 8 ≤ 140737488351232) (h : RowZ w a n cap f) : RowAt .i64 w a n cap f := ⟨hn, h.2⟩
def ChanZ (w : World) (v : Value) (C : CH) : Prop := ∃ a c, v = .agg #[.int .i64 C.gen, .int .i64 C.cap, .bool C.used, .bool C.closed, .slice a C.n c] ∧ RowZ w a C.n c C.f
theorem ChanAt.z {w : World} {v : Value} {C : CH} (h : ChanAt w v C) : ChanZ w v C := by
  obtain ⟨a, c, hv, hr⟩ := h
  exact ⟨a, c, hv, hr.z⟩
theorem ChanZ.at {w : World} {v : Value} {C : CH} (hn : C.n * 8 ≤ 140737488351232) (h : ChanZ w v C) : ChanAt w v C := by
  obtain ⟨a, c, hv, hr⟩ := h
  exact ⟨a, c, hv, hr.at hn⟩
theorem ChanZ.below {w w' : World} {v : Value} {C : CH} (h : ChanZ w v C) (hb : Below w.heap.size w w') : ChanZ w' v C := by
  obtain ⟨a, c, hv, hr⟩ := h
  exact ⟨a, c, hv, hr.below hb⟩
theorem own_rowZ {w : World} {B n : Nat} {a : Option Addr} {c : Nat} {f : Nat → Int} (hn : n * 8 ≤ 140737488355328) (h : w.ownsRow B 3 1 (.slice a n c) n (rowL .i64 f n)) : RowZ w a n c f := by
  have h' := h
  rcases h.2 with ⟨h1, h2⟩ | ⟨gb, cap', cur, hv, hb, hg, hnc, hcm, hcs, hct⟩
  · simp only [Value.slice.injEq] at h1
    obtain ⟨rfl, _, rfl⟩ := h1
    exact ⟨hn, fun _ => ⟨h2, rfl⟩, fun h0 => absurd h0 (by omega)⟩
  · simp only [Value.slice.injEq] at hv
    obtain ⟨rfl, _, rfl⟩ := hv
    exact ⟨hn, (fun e => by cases e), fun _ => ⟨gb, 0, rfl, (Array.getElem?_eq_some_iff.1 hg).1, fun i hi => by rw [Nat.zero_add, h'.cellAt i (by omega), rowL_get hi]⟩⟩
def FarC (B : Nat) (w : World) (v : Value) (C : CH) : Prop := ∀ w', Agree B w w' → ChanZ w' v C
def LowW (B : Nat) (w : World) (a : Option Addr) (n cap : Nat) (V : Nat → WV) : Prop := ∀ w', Below B w w' → WaitsAt w' a n cap V
theorem LowW.below {B : Nat} {w w' : World} {a : Option Addr} {n cap : Nat} {V : Nat → WV} (h : LowW B w a n cap V) (hb : Below B w w') : LowW B w' a n cap V := fun w2 h2 => h w2 (hb.trans h2)
theorem LowW.get {B : Nat} {w w' : World} {a : Option Addr} {n cap : Nat} {V : Nat → WV} (h : LowW B w a n cap V) (hb : Below B w w') : WaitsAt w' a n cap V := h w' hb
theorem LowW.at {B : Nat} {w : World} {a : Option Addr} {n cap : Nat} {V : Nat → WV} (h : LowW B w a n cap V) : WaitsAt w a n cap V := h w (Below.refl _ _)
theorem FarW.mono {B B' : Nat} {w : World} {a : Option Addr} {n cap : Nat} {V : Nat → WV} (h : FarW B' w a n cap V) (hB : B ≤ B') : FarW B w a n cap V := fun w' hw => h w' (hw.mono hB)
theorem FarT.mono {B B' : Nat} {w : World} {a : Option Addr} {n cap : Nat} {T : Nat → Nat → Int} (h : FarT B' w a n cap T) (hB : B ≤ B') : FarT B w a n cap T := fun w' hw => h w' (hw.mono hB)
theorem chan_far {B : Nat} {w : World} {v : Value} {C : CH} (hn : C.n * 8 ≤ 140737488355328) (h : ChanOwn B w v C) : FarC B w v C := fun w' hw => by
  obtain ⟨a, c, hv, hr⟩ := h
  refine ⟨a, c, hv, ?_⟩
  have hl := hr.lt
  obtain ⟨h1, h2, h3⟩ := own_rowZ hn hr
  refine ⟨h1, h2, fun h0 => ?_⟩
  obtain ⟨b, off, hab, hb, hcl⟩ := h3 h0
  have := (hl b (by rw [hab]; rfl)).1
  exact ⟨b, off, hab, Nat.lt_of_lt_of_le hb hw.1, fun i hi => (hw.2 b _ (by omega) hb).1.trans (hcl i hi)⟩
theorem set_grown (w : World) (p o : Nat) (x : Value) : w.grownBy (w.setCell ⟨p, o, none⟩ x) (some p) :=
  ⟨rfl, by simp, rfl, by simp, fun k _ hne => Below.heap_setCell _ _ _ _ (fun e => hne (by rw [e]))⟩
theorem own_setne {w : World} {B E s n : Nat} {v : Value} {xs : List Value} {p o : Nat} {x : Value} (h : w.ownsRow B E s v n xs) (hne : v.ownBlock ≠ some p) : (w.setCell ⟨p, o, none⟩ x).ownsRow B E s v n xs := h.kept (set_grown w p o x) (.inr hne)
theorem own_store5 {w : World} {B E s n : Nat} {v : Value} {xs : List Value} {p : Nat} {a b c d e : Value} (h : w.ownsRow B E s v n xs) (hne : v.ownBlock ≠ some p) : (store5 w p a b c d e).ownsRow B E s v n xs := own_setne (own_setne (own_setne (own_setne (own_setne h hne) hne) hne) hne) hne
theorem upd_same {f : Nat → Int} {n : Nat} {x : Int} : rowL .i64 (updI f n x) n = rowL .i64 f n := rowL_same (fun i hi => by unfold updI; rw [if_neg (by omega)])
theorem upd_at {f : Nat → Int} {n : Nat} {x : Int} : updI f n x n = x := by unfold updI; rw [if_pos rfl]
theorem own_store4 {w : World} {B E s n : Nat} {v : Value} {xs : List Value} {p : Nat} {a b c d : Value} (h : w.ownsRow B E s v n xs) (hne : v.ownBlock ≠ some p) : (store4 w p 0 a b c d).ownsRow B E s v n xs := own_setne (own_setne (own_setne (own_setne h hne) hne) hne) hne
theorem agree_store5 {B p : Nat} {w : World} {a b c d e : Value} (hp : p < B) : Agree B w (store5 w p a b c d e) := ((((Agree.set hp).trans (Agree.set hp)).trans (Agree.set hp)).trans (Agree.set hp)).trans (Agree.set hp)
theorem agree_store4 {B p : Nat} {w : World} {a b c d : Value} (hp : p < B) : Agree B w (store4 w p 0 a b c d) := (((Agree.set hp).trans (Agree.set hp)).trans (Agree.set hp)).trans (Agree.set hp)
theorem below_store4 {B p : Nat} {o w : World} {a b c d : Value} (h : Below B o w) (hp : B ≤ p) : Below B o (store4 w p 0 a b c d) := (((h.setCell hp _).setCell hp _).setCell hp _).setCell hp _
/-- What becomes of a channel, of calls that wait, and what is told. -/
def DoRet (B : Nat) (C : CH) (V : Nat → WV) (n : Nat) (code rv : Int) (m : Nat) (T : Nat → Nat → Int) (w : World) (e : Ending) (w' : World) : Prop :=
  ∃ cv ra rc ta tc, e = .returned (.tuple #[cv, .slice ra n rc, .agg #[.int .i64 0, .int .i64 0, .int .i64 code, .int .i64 rv], .slice ta m tc]) ∧ FarC B w' cv C ∧ FarW B w' ra n rc V ∧ FarT B w' ta m tc T ∧ Below B w w'
theorem NumAt.new (w : World) (x : Int) : NumAt (w.alloc (.cells #[.int .i64 x] 3)) w.heap.size x := ⟨by simp, by rw [cell_of_row _ _ _ _ 3 (0, 0) (heap_alloc_new w _)]; rfl⟩
theorem row_one (w : World) (x : Int) : RowAt .i64 (w.alloc (.cells #[.int .i64 x] 3)) (some ⟨w.heap.size, 0, none⟩) 1 1 (fun _ => x) :=
  ⟨by omega, (fun h => by cases h), fun _ => ⟨w.heap.size, 0, rfl, by simp, fun i hi => by
    obtain rfl : i = 0 := by omega
    simp⟩⟩
/-- What send, behind its boxes, has. -/
structure SendAt (w u : World) (C : CH) (ca : Option Addr) (cc : Nat) (x : Int) : Prop where
  bel : Below w.heap.size w u
  size : w.heap.size + 4 ≤ u.heap.size
  chan : Box u w.heap.size (.int .i64 C.gen) (.int .i64 C.cap) (.bool C.used) (.bool C.closed) (.slice ca C.n cc)
  num : NumAt u (w.heap.size + 1) x
  ret : Box u (w.heap.size + 2) (.int .i64 0) (.int .i64 0) (.bool false) (.bool false) (.slice none 0 0)
  res : Box4 u (w.heap.size + 3) (.int .i64 0) (.int .i64 0) (.int .i64 0) (.int .i64 0)
theorem SendAt.below {w u u' : World} {C : CH} {ca : Option Addr} {cc : Nat} {x : Int} (h : SendAt w u C ca cc x) (hb : Below u.heap.size u u') : SendAt w u' C ca cc x :=
  ⟨h.bel.trans (hb.mono h.bel.size), Nat.le_trans h.size hb.size, h.chan.below (by have := h.size; omega) hb, h.num.below hb, h.ret.below (by have := h.size; omega) hb, h.res.below (by have := h.size; omega) hb⟩
theorem Box.like {w w' : World} {p : Nat} {a b c d e : Value} (h : Box w p a b c d e) (hp : ∀ o, w'.cell? ⟨p, o, none⟩ = w.cell? ⟨p, o, none⟩ ∧ w'.frozen? ⟨p, o, none⟩ = w.frozen? ⟨p, o, none⟩) : Box w' p a b c d e := by
  obtain ⟨h0, h1, h2, h3, h4, hf⟩ := h
  exact ⟨(hp 0).1.trans h0, (hp 1).1.trans h1, (hp 2).1.trans h2, (hp 3).1.trans h3, (hp 4).1.trans h4, fun i => (hp i).2.trans (hf i)⟩
theorem Box4.like {w w' : World} {p : Nat} {a b c d : Value} (h : Box4 w p a b c d) (hp : ∀ o, w'.cell? ⟨p, o, none⟩ = w.cell? ⟨p, o, none⟩ ∧ w'.frozen? ⟨p, o, none⟩ = w.frozen? ⟨p, o, none⟩) : Box4 w' p a b c d := by
  obtain ⟨h0, h1, h2, h3, hf⟩ := h
  exact ⟨(hp 0).1.trans h0, (hp 1).1.trans h1, (hp 2).1.trans h2, (hp 3).1.trans h3, fun i => (hp i).2.trans (hf i)⟩
theorem Box4.set_far {w : World} {p q i : Nat} {a b c d x : Value} (h : Box4 w q a b c d) (hne : p ≠ q) : Box4 (w.setCell ⟨p, i, none⟩ x) q a b c d := by
  obtain ⟨h0, h1, h2, h3, hf⟩ := h
  exact ⟨by rw [cell_set_ne (.inl hne)]; exact h0, by rw [cell_set_ne (.inl hne)]; exact h1, by rw [cell_set_ne (.inl hne)]; exact h2, by rw [cell_set_ne (.inl hne)]; exact h3, fun i => by simpa using hf i⟩
theorem Box.set4 {w : World} {p : Nat} {a b c d e : Value} (h : Box w p a b c d e) (x : Value) : Box (w.setCell ⟨p, 4, none⟩ x) p a b c d x := by
  obtain ⟨h0, h1, h2, h3, h4, hf⟩ := h
  exact ⟨by rw [cell_set_ne (.inr (by decide))]; exact h0, by rw [cell_set_ne (.inr (by decide))]; exact h1, by rw [cell_set_ne (.inr (by decide))]; exact h2, by rw [cell_set_ne (.inr (by decide))]; exact h3, World.cell?_setCell_same _ _ _ h4, fun i => by simpa using hf i⟩
theorem SendAt.far {w v w2 : World} {C : CH} {ca : Option Addr} {cc : Nat} {x : Int} (_ : SendAt w v C ca cc x) {r : Option Nat} (hg : v.grownBy w2 r) (hr : ∀ q, r = some q → q < w.heap.size) : ∀ q o, w.heap.size ≤ q → q < v.heap.size → w2.cell? ⟨q, o, none⟩ = v.cell? ⟨q, o, none⟩ ∧ w2.frozen? ⟨q, o, none⟩ = v.frozen? ⟨q, o, none⟩ := fun q o h1 h2 => by
  have ne : some q ≠ r := fun e => by have := hr q e.symm; omega
  exact ⟨hg.cell_far ⟨q, o, none⟩ h2 ne, hg.frozen_far ⟨q, o, none⟩ h2 ne⟩
theorem SendAt.new (w : World) (C : CH) (ca : Option Addr) (cc : Nat) (x : Int) : SendAt w ((((w.alloc (.cells #[.int .i64 C.gen, .int .i64 C.cap, .bool C.used, .bool C.closed, .slice ca C.n cc] 44)).alloc (.cells #[.int .i64 x] 3)).alloc (.cells #[.int .i64 0, .int .i64 0, .bool false, .bool false, .slice none 0 0] 44)).alloc (.cells #[.int .i64 0, .int .i64 0, .int .i64 0, .int .i64 0] 48)) C ca cc x := by
  have b1 : ∀ (W : World) o, Below W.heap.size W (W.alloc o) := fun W o => (Below.refl _ _).alloc (Nat.le_refl _) _
  refine ⟨(((((Below.refl _ _).alloc (Nat.le_refl _) _).alloc (by simp) _).alloc (by simp; omega) _).alloc (by simp; omega) _), by simp, ?_, ?_, ?_, ?_⟩
  · exact (((Box.new w _).below (by simp) (b1 _ _)).below (by simp; omega) (b1 _ _)).below (by simp; omega) (b1 _ _)
  · have := NumAt.new (w.alloc (.cells #[.int .i64 C.gen, .int .i64 C.cap, .bool C.used, .bool C.closed, .slice ca C.n cc] 44)) x
    rw [World.size_alloc] at this
    exact (this.below (b1 _ _)).below (b1 _ _)
  · have := Box.new (a := .int .i64 0) (b := .int .i64 0) (c := .bool false) (d := .bool false) (e := .slice none 0 0) ((w.alloc (.cells #[.int .i64 C.gen, .int .i64 C.cap, .bool C.used, .bool C.closed, .slice ca C.n cc] 44)).alloc (.cells #[.int .i64 x] 3)) 44
    rw [World.size_alloc, World.size_alloc] at this
    exact this.below (by simp) (b1 _ _)
  · have := Box4.new (a := .int .i64 0) (b := .int .i64 0) (c := .int .i64 0) (d := .int .i64 0) (((w.alloc (.cells #[.int .i64 C.gen, .int .i64 C.cap, .bool C.used, .bool C.closed, .slice ca C.n cc] 44)).alloc (.cells #[.int .i64 x] 3)).alloc (.cells #[.int .i64 0, .int .i64 0, .bool false, .bool false, .slice none 0 0] 44)) 48
    rw [World.size_alloc, World.size_alloc, World.size_alloc] at this
    exact this
set_option maxRecDepth 100000 in
set_option maxHeartbeats 3200000 in
theorem send_yes (B : Nat) (v : Value) (C : CH) (a : Option Addr) (n cap : Nat) (V : Nat → WV) (hd x : Int) (w : World) (hB : B ≤ w.heap.size) (hc : ChanOwn B w v C) (hC : C.n * 8 ≤ 140737488355328) (h : LowW B w a n cap V) (t wh : Nat) (ht : t < n) (hfi : ∀ t' wh' ok, FirstIs V n 2 hd t' wh' ok → t' = (t : Int) ∧ wh' = (wh : Int) ∧ ok = true) :
    Calls Try.prog 72 #[v, .int .i64 hd, .slice a n cap, .int .i64 x] w (DoRet B C (zeroAt V (fun _ => (t : Int)) 1) n 0 0 1 (toldT V (fun _ => (t : Int)) (fun _ => (wh : Int)) 0 x) w) := by
  obtain ⟨ca, cc, rfl, hrow⟩ := hc
  have HS := Lib.hid h
  have HFI := Lib.hid hfi
  have HR := Lib.hid hrow
  have HX := Lib.hid (SendAt.new w C ca cc x)
  clear hrow h hfi
  go_enter Try.func72, Try.ntmps72
  go_upto_region 1 with (fail)
  revert HX
  generalize (((w.alloc (.cells #[.int .i64 C.gen, .int .i64 C.cap, .bool C.used, .bool C.closed, .slice ca C.n cc] 44)).alloc (.cells #[.int .i64 x] 3)).alloc (.cells #[.int .i64 0, .int .i64 0, .bool false, .bool false, .slice none 0 0] 44)).alloc (.cells #[.int .i64 0, .int .i64 0, .int .i64 0, .int .i64 0] 48) = u
  intro HX
  go_upto_region 2 with (go_at_call 21; go_loud ((with_reducible refine (first_any _ _ _ _ _ _ _ (HS.out.get (HX.out.bel.mono hB))).mono ?_); rintro e w1 ⟨⟨t', wh', ok, rfl, hf⟩, hb⟩; obtain ⟨rfl, rfl, rfl⟩ := HFI.out _ _ _ hf; have HX1 := Lib.hid (HX.out.below hb); clear hf hb))
  have hA1 := (Below.refl w1.heap.size w1).alloc (Nat.le_refl _) (.cells #[.int .i64 (wh : Int)] 3)
  have hA := hA1.alloc (by simp) (.cells #[.int .i64 (t : Int)] 3)
  have HX2 := Lib.hid (HX1.out.below hA)
  have HNW := Lib.hid (((NumAt.new w1 (wh : Int))).below ((Below.refl (w1.alloc (.cells #[.int .i64 (wh : Int)] 3)).heap.size _).alloc (Nat.le_refl _) (.cells #[.int .i64 (t : Int)] 3)))
  have HE := Lib.hid (end_send w1.heap.size (w.heap.size + 1) a n cap V (some ⟨(w1.alloc (.cells #[.int .i64 (wh : Int)] 3)).heap.size, 0, none⟩) 1 1 (fun _ => (t : Int)) (fun _ => (wh : Int)) 0 x ((w1.alloc (.cells #[.int .i64 (wh : Int)] 3)).alloc (.cells #[.int .i64 (t : Int)] 3)) (HS.out.get (HX2.out.bel.mono hB)) (row_one _ _) (fun j _ => ⟨t, ht, rfl⟩) (by omega)
    (fun i W ca cc hex hb hr => send_came (V i) ca cc (wh : Int) x w1.heap.size (w.heap.size + 1) W (HNW.out.below hb) (HX2.out.num.below hb)))
  rw [World.size_alloc] at HE
  clear hA1 hA HNW
  go_upto_region 6 with (go_at_call 75; go_loud ((with_reducible refine HE.out.mono ?_); rintro e w3 ⟨ra, rc, ta, tc, rfl, hfw, hft, hb⟩; have HX3 := Lib.hid (HX2.out.below hb); have HFW := Lib.hid hfw; have HFT := Lib.hid hft; clear hfw hft hb))
  have HR3 := Lib.hid (own_below HR.out HX3.out.bel)
  have hlt := HR.out.lt
  (obtain ⟨x0, x1, x2, x3, x4, _⟩ := HX3.out.chan)
  (obtain ⟨y0, y1, y2, y3, y4, yf⟩ := HX3.out.ret)
  (obtain ⟨z0, z1, z2, z3, zf⟩ := HX3.out.res)
  have f0 := yf 0
  have f1 := yf 1
  have f2 := yf 2
  have f3 := yf 3
  have f4 := yf 4
  have g0 := zf 0
  have g1 := zf 1
  have g2 := zf 2
  have g3 := zf 3
  have hu := HX1.out.size
  clear yf zf HE HX HX1 HX2
  go_wp2
  refine bodyPost_ret (v := .tuple #[.agg #[.int .i64 C.gen, .int .i64 C.cap, .bool C.used, .bool C.closed, .slice ca C.n cc], .slice ra n rc, .agg #[.int .i64 0, .int .i64 0, .int .i64 0, .int .i64 0], .slice ta 1 tc]) (by simp only [results, Try.results72]; go_simp) rfl ?_
  have k2 : w.heap.size + 2 < (w1.alloc (.cells #[.int .i64 (wh : Int)] 3)).heap.size + 1 := by simp; omega
  have k3 : w.heap.size + 3 < (w1.alloc (.cells #[.int .i64 (wh : Int)] 3)).heap.size + 1 := by simp; omega
  have ag : Agree ((w1.alloc (.cells #[.int .i64 (wh : Int)] 3)).alloc (.cells #[.int .i64 (t : Int)] 3)).heap.size w3 (store4 (store5 w3 (w.heap.size + 2) (.int .i64 C.gen) (.int .i64 C.cap) (.bool C.used) (.bool C.closed) (.slice ca C.n cc)) (w.heap.size + 3) 0 (.int .i64 0) (.int .i64 0) (.int .i64 0) (.int .i64 0)) := (agree_store5 (by rw [World.size_alloc]; exact k2)).trans (agree_store4 (by rw [World.size_alloc]; exact k3))
  have hBu : B ≤ ((w1.alloc (.cells #[.int .i64 (wh : Int)] 3)).alloc (.cells #[.int .i64 (t : Int)] 3)).heap.size := by simp; omega
  refine ⟨_, ra, rc, ta, tc, rfl, chan_far hC ⟨ca, cc, rfl, own_store4 (own_store5 HR3.out (fun e => ?_)) (fun e => ?_)⟩, (HFW.out.agree ag).mono hBu, (HFT.out.agree ag).mono hBu, below_store4 (store5_below (HX3.out.bel.mono hB) (by omega)) (by omega)⟩
  · have := (hlt _ e).2; omega
  · have := (hlt _ e).2; omega
set_option maxRecDepth 100000 in
set_option maxHeartbeats 3200000 in
theorem send_no (B : Nat) (v : Value) (C : CH) (a : Option Addr) (n cap : Nat) (V : Nat → WV) (hd x : Int) (w : World) (hB : B ≤ w.heap.size) (hc : ChanOwn B w v C) (hC : (C.n + 1) * 8 ≤ 140737488355328) (h : LowW B w a n cap V) (hno : ∀ i, i < n → ¬ Fit V 2 hd i) :
    Calls Try.prog 72 #[v, .int .i64 hd, .slice a n cap, .int .i64 x] w (DoRet B ⟨C.gen, C.cap, C.used, C.closed, C.n + 1, updI C.f C.n x⟩ V n 0 0 0 (fun _ _ => 0) w) := by
  obtain ⟨ca, cc, rfl, hrow⟩ := hc
  have HS := Lib.hid h
  have HNO := Lib.hid hno
  have HR := Lib.hid hrow
  have HX := Lib.hid (SendAt.new w C ca cc x)
  have hlt := hrow.lt
  clear hrow h hno
  go_enter Try.func72, Try.ntmps72
  go_upto_region 1 with (fail)
  revert HX
  generalize (((w.alloc (.cells #[.int .i64 C.gen, .int .i64 C.cap, .bool C.used, .bool C.closed, .slice ca C.n cc] 44)).alloc (.cells #[.int .i64 x] 3)).alloc (.cells #[.int .i64 0, .int .i64 0, .bool false, .bool false, .slice none 0 0] 44)).alloc (.cells #[.int .i64 0, .int .i64 0, .int .i64 0, .int .i64 0] 48) = u
  intro HX
  go_upto_region 3 with (go_at_call 21; go_loud ((with_reducible refine (first_any _ _ _ _ _ _ _ (HS.out.get (HX.out.bel.mono hB))).mono ?_); rintro e w1 ⟨⟨t', wh', ok, rfl, hf⟩, hb⟩; obtain rfl : ok = false := (by cases ok with | false => rfl | true => exact absurd (hf.ok_iff.1 rfl) (fun ⟨i, hi, hff⟩ => HNO.out i hi hff)); have HX1 := Lib.hid (HX.out.below hb); clear hf hb))
  have HX2 := Lib.hid (HX1.out.below ((Below.refl w1.heap.size w1).alloc (Nat.le_refl _) (.cells #[.int .i64 wh'] 3)))
  refine abstract_code (fun v => SendAt w v C ca cc x) HX2.out ?_
  intro v hv
  have HX3 := Lib.hid hv
  have HR3 := Lib.hid (own_below HR.out hv.bel)
  (obtain ⟨x0, x1, x2, x3, x4, xf⟩ := hv.chan)
  have c0 := hv.num.2
  have zc := hv.num.1
  have hsz := hv.size
  have f4 := xf 4
  clear hv xf HX HX1 HX2
  go_upto_region 4 with (at_builtin; go_loud (refine app_one B 3 36 rfl _ _ rfl Try.underlying36 Try.info_int (.slice ca C.n cc) C.n (updI C.f C.n x) x upd_at.symm rfl (by rw [upd_same]; exact HR3.out) v.heap.size rfl rfl (by omega) (by omega) ?_; intro gg gc w2 ho hg hat _; have HGG := Lib.hid hat; have HO2 := Lib.hid ho; have HG2 := Lib.hid hg; have HP2 := Lib.hid (HX3.out.far hg (fun q hq => (hlt q hq).2)); have HB2 := Lib.hid ((HX3.out.bel.mono hB).grown hg (by omega) (fun q hq => (hlt q hq).1)); have f4 := (HP2.out (w.heap.size) 4 (Nat.le_refl _) (by omega)).2.trans f4; have x0 := (HP2.out (w.heap.size) 0 (Nat.le_refl _) (by omega)).1.trans x0; have x1 := (HP2.out (w.heap.size) 1 (Nat.le_refl _) (by omega)).1.trans x1; have x2 := (HP2.out (w.heap.size) 2 (Nat.le_refl _) (by omega)).1.trans x2; have x3 := (HP2.out (w.heap.size) 3 (Nat.le_refl _) (by omega)).1.trans x3; have x4 := (HP2.out (w.heap.size) 4 (Nat.le_refl _) (by omega)).1.trans x4; clear ho hg c0))
  have hng : ∀ q, w.heap.size ≤ q → q < v.heap.size → gg ≠ q := fun q h1 h2 e => by
    rcases HGG.out with h | h
    · have := (hlt gg h).2; omega
    · omega
  have hw2 := HG2.out.size
  have n2 : (Value.slice (some ⟨gg, 0, none⟩) (C.n + 1) gc).ownBlock ≠ some (w.heap.size + 2) := fun e => hng (w.heap.size + 2) (by omega) (by omega) (by injection e)
  have n3 : (Value.slice (some ⟨gg, 0, none⟩) (C.n + 1) gc).ownBlock ≠ some (w.heap.size + 3) := fun e => hng (w.heap.size + 3) (by omega) (by omega) (by injection e)
  have HNE := Lib.hid (And.intro n2 n3)
  clear n2 n3
  refine abstract_code (fun v2 => Box v2 w.heap.size (.int .i64 C.gen) (.int .i64 C.cap) (.bool C.used) (.bool C.closed) (.slice (some ⟨gg, 0, none⟩) (C.n + 1) gc) ∧ Box v2 (w.heap.size + 2) (.int .i64 0) (.int .i64 0) (.bool false) (.bool false) (.slice none 0 0) ∧ Box4 v2 (w.heap.size + 3) (.int .i64 0) (.int .i64 0) (.int .i64 0) (.int .i64 0) ∧ v2.ownsRow B 3 1 (.slice (some ⟨gg, 0, none⟩) (C.n + 1) gc) (C.n + 1) (rowL .i64 (updI C.f C.n x) (C.n + 1)) ∧ Below B w v2 ∧ w.heap.size + 4 ≤ v2.heap.size)
    ⟨(HX3.out.chan.like (fun o => HP2.out _ o (Nat.le_refl _) (by omega))).set4 _, (HX3.out.ret.like (fun o => HP2.out _ o (by omega) (by omega))).set_far (by omega), (HX3.out.res.like (fun o => HP2.out _ o (by omega) (by omega))).set_far (by omega), own_setne HO2.out (fun e => hng _ (Nat.le_refl _) (by omega) (by injection e)), HB2.out.setCell hB _, by simp; omega⟩ ?_
  clear HR HR3 HX3 HO2 HG2 HP2 HB2 HGG hw2 hsz zc hlt f4 x0 x1 x2 x3 x4 hng
  rintro v2 ⟨hx, hy, hz, ho, hb, hs⟩
  have HX := Lib.hid hx
  have HY := Lib.hid hy
  have HZ := Lib.hid hz
  have HO := Lib.hid ho
  have HB2 := Lib.hid hb
  (obtain ⟨x0, x1, x2, x3, x4, _⟩ := hx)
  clear hy hz ho hb
  have hn : n * 48 ≤ 140737488355328 := HS.out.at.1
  go_region_law (first
    | (go_simp; go_at_call 29; go_loud ((with_reducible refine (copy_any a n cap V _ (HS.out.get (by first | exact HB2.out | exact Below.drew HB2.out | exact below_drewN HB2.out _))).mono ?_); rintro e w4 ⟨vv, A, CC, rfl, ho4, hc4, hb4⟩; obtain ⟨ra, rc, rfl⟩ := ho4.form; have HFW := Lib.hid (waits_far hn ho4 hc4); have hb5 : Below v2.heap.size v2 w4 := (by first | exact hb4 | exact (Below.drew (Below.refl _ _)).trans (hb4.mono (Nat.le_refl _))); have hx := HX.out.below (by omega) hb5; have hy := HY.out.below (by omega) hb5; have hz := HZ.out.below (by omega) hb5; have HO4 := Lib.hid (own_below HO.out hb5); have HB4 := Lib.hid (HB2.out.trans (hb5.mono (Nat.le_trans hB (by omega)))); have hs4 := hb5.size; clear x0 x1 x2 x3 x4 ho4 hc4 hb4 hb5; obtain ⟨x0, x1, x2, x3, x4, _⟩ := hx; obtain ⟨y0, y1, y2, y3, y4, yf⟩ := hy; obtain ⟨z0, z1, z2, z3, zf⟩ := hz; have f0 := yf 0; have f1 := yf 1; have f2 := yf 2; have f3 := yf 3; have f4 := yf 4; have g0 := zf 0; have g1 := zf 1; have g2 := zf 2; have g3 := zf 3; clear yf zf)))
  all_goals go_wp2
  all_goals refine bodyPost_ret (v := .tuple #[.agg #[.int .i64 C.gen, .int .i64 C.cap, .bool C.used, .bool C.closed, .slice (some ⟨gg, 0, none⟩) (C.n + 1) gc], .slice ra n rc, .agg #[.int .i64 0, .int .i64 0, .int .i64 0, .int .i64 0], .slice none 0 0]) (by simp only [results, Try.results72]; go_simp) rfl ?_
  all_goals exact ⟨_, ra, rc, none, 0, rfl, chan_far (C := ⟨C.gen, C.cap, C.used, C.closed, C.n + 1, updI C.f C.n x⟩) hC ⟨some ⟨gg, 0, none⟩, gc, rfl, own_store4 (own_store5 HO4.out HNE.out.1) HNE.out.2⟩, (HFW.out.agree ((agree_store5 (p := w.heap.size + 2) (by show _ < v2.heap.size; omega)).trans (agree_store4 (p := w.heap.size + 3) (by show _ < v2.heap.size; omega)))).mono (by show B ≤ v2.heap.size; omega), fun w' _ => RowS.nil rfl rfl, below_store4 (store5_below HB4.out (by omega)) (by omega)⟩
end Go.Proofs.Ytihpjfhibhpciaa
