/- The contract of the reference's Put of calls that wait, over the seat's program. -/
import Derived.Test.YtihpjfhibhpciaaWtH
namespace Go.Proofs.Ytihpjfhibhpciaa
open Go.ChangeShapes Go.WideShapes Go.ChangeAt Go.RowKit Go.Joins

set_option maxRecDepth 100000 in
set_option maxHeartbeats 3200000 in
theorem rput_no (a : Option Addr) (n cap : Nat) (V : Nat → WV) (t : Int) (wv : Value) (U : WV) (w : World) (h : WaitsAt w a n cap V) (hu : OneAt w wv U) (hno : ¬ (0 ≤ t ∧ t < n ∧ (V t.toNat).on = false)) : Calls Try.prog 16 #[.slice a n cap, .int .i64 t, wv] w (RetWB n V false w) := by
  have hn := h.1
  have HL := Lib.hid h
  obtain ⟨ca, cc, rfl, _⟩ := hu
  have HA := Lib.hid ((Below.refl w.heap.size w).alloc (Nat.le_refl _) (.cells #[.bool U.on, .int .i64 U.tk, .int .i64 U.sq, .slice ca U.m cc] 25))
  have HC := Lib.hid (rcopy_any a n cap V (w.alloc (.cells #[.bool U.on, .int .i64 U.tk, .int .i64 U.sq, .slice ca U.m cc] 25)) (h.below HA.out))
  clear h
  go_enter Try.func16, Try.ntmps16
  go_upto_region 2 with (go_at_call 14; go_loud ((with_reducible refine HC.out.mono ?_); rintro e w1 ⟨v1, A, C, rfl, ho, hc, hb⟩; have HO := Lib.hid (ho.mono (B' := w.heap.size) (by simp)); have HCS := Lib.hid (fun i hi => (hc i hi).mono (B' := w.heap.size) (by simp)); have HB := Lib.hid (HA.out.trans (hb.mono HA.out.size)); obtain ⟨da, dc, rfl⟩ := ho.form; clear ho hc hb))
  by_cases t0 : t < 0
  · clear hno
    go_wp2
    refine bodyPost_ret (v := .tuple #[.slice da n dc, .bool false]) (by simp only [results, Try.results16]; go_simp) rfl ⟨_, A, C, rfl, HO.out, HCS.out, HB.out⟩
  by_cases t1 : (n : Int) ≤ t
  · have t2 : 0 ≤ t := by omega
    clear hno t0
    go_wp2
    refine bodyPost_ret (v := .tuple #[.slice da n dc, .bool false]) (by simp only [results, Try.results16]; go_simp) rfl ⟨_, A, C, rfl, HO.out, HCS.out, HB.out⟩
  obtain ⟨i, rfl⟩ : ∃ i : Nat, t = (i : Int) := ⟨t.toNat, by omega⟩
  have him : i < n := by omega
  have hoff : (V i).on = true := by
    cases hv : (V i).on with
    | true => rfl
    | false => exact absurd ⟨by omega, by omega, by simpa using hv⟩ hno
  obtain ⟨b, off, rfl, zb, hcl⟩ := (HL.out.below HB.out).get him
  obtain ⟨la, lc, y0, y1, y2, y3, _⟩ := hcl i him
  rw [hoff] at y0
  have i0 : (0 : Int) ≤ (i : Int) := by omega
  have i1 : (i : Int) < (n : Int) := by omega
  clear hno t0 t1 hoff hcl
  go_wp2
  refine bodyPost_ret (v := .tuple #[.slice da n dc, .bool false]) (by simp only [results, Try.results16]; go_simp) rfl ⟨_, A, C, rfl, HO.out, HCS.out, HB.out⟩
set_option maxRecDepth 100000 in
set_option maxHeartbeats 3200000 in
theorem rput_yes (a : Option Addr) (n cap : Nat) (V : Nat → WV) (i : Nat) (wv : Value) (U : WV) (w : World) (h : WaitsAt w a n cap V) (hu : OneAt w wv U) (him : i < n) (hon : (V i).on = false) : Calls Try.prog 16 #[.slice a n cap, .int .i64 i, wv] w (RetWB n (setV V i U.up) true w) := by
  have hn := h.1
  have HL := Lib.hid h
  obtain ⟨ca, cc, rfl, hru⟩ := hu
  have HA := Lib.hid ((Below.refl w.heap.size w).alloc (Nat.le_refl _) (.cells #[.bool U.on, .int .i64 U.tk, .int .i64 U.sq, .slice ca U.m cc] 25))
  have HC := Lib.hid (rcopy_any a n cap V (w.alloc (.cells #[.bool U.on, .int .i64 U.tk, .int .i64 U.sq, .slice ca U.m cc] 25)) (h.below HA.out))
  have HX0 := Lib.hid (Box4.new (a := .bool U.on) (b := .int .i64 U.tk) (c := .int .i64 U.sq) (d := .slice ca U.m cc) w 25)
  have HRU := Lib.hid hru
  clear h hru
  go_enter Try.func16, Try.ntmps16
  go_upto_region 2 with (go_at_call 14; go_loud ((with_reducible refine HC.out.mono ?_); rintro e w1 ⟨v1, A, C, rfl, ho, hc, hb⟩; have HO := Lib.hid (ho.mono (B' := w.heap.size + 1) (by simp)); have HCS := Lib.hid (fun i hi => (hc i hi).mono (B' := w.heap.size + 1) (by simp)); have HB := Lib.hid (HA.out.trans (hb.mono HA.out.size)); have HX := Lib.hid (HX0.out.below (by simp) hb); obtain ⟨da, dc, rfl⟩ := ho.form; clear ho hc hb))
  obtain ⟨gd, cap', hv, hgb, hnc, hcl, _⟩ := HO.out.get (by omega)
  simp only [Value.slice.injEq] at hv
  obtain ⟨rfl, _, rfl⟩ := hv
  clear hcl
  obtain ⟨b, off, rfl, zb, hcl⟩ := (HL.out.below HB.out).get him
  obtain ⟨la, lc, y0, y1, y2, y3, _⟩ := hcl i him
  rw [hon] at y0
  have i0 : (0 : Int) ≤ (i : Int) := by omega
  have i1 : (i : Int) < (n : Int) := by omega
  have HG := Lib.hid hgb
  obtain ⟨b0, b1, b2, b3, bf⟩ := HX.out
  have bf0 := bf 0
  clear hcl hon hgb bf
  go_upto_region 5 with (fail)
  have hz1 : w.heap.size < w1.heap.size := by have := HG.out; omega
  refine abstract_code (fun u => Box4 u w.heap.size (.bool true) (.int .i64 U.tk) (.int .i64 U.sq) (.slice ca U.m cc) ∧ OwnW (w.heap.size + 1) u (.slice (some ⟨gd, 0, none⟩) n dc) n (wcell V A C) ∧ (∀ i, i < n → CaseNew (w.heap.size + 1) u (.slice (some ⟨gd, 0, none⟩) n dc) (V i) (A i) (C i)) ∧ Below w.heap.size w u ∧ w.heap.size < u.heap.size) ⟨HX.out.set0 _, HO.out.set_far (by omega), fun i hi => (HCS.out i hi).set_far (by omega), HB.out.setCell (by simp) _, by simp; exact hz1⟩ ?_
  clear HX HO HCS HB y0 y1 y2 y3 b0 b1 b2 b3 bf0 hz1 HC HX0 HG
  rintro u ⟨hx, ho, hc, hb, zu⟩
  have HX := Lib.hid hx
  have HO := Lib.hid ho
  have HCS := Lib.hid hc
  have HB := Lib.hid hb
  have HRW := Lib.hid (HRU.out.below hb)
  obtain ⟨b0, b1, b2, b3, bf⟩ := hx
  clear bf ho hc hb
  have hmu := HRW.out.1
  have HNL := Lib.hid HRW.out.2.1
  have HC3 := Lib.hid (show ∀ ad, ca = some ad → ∀ j u', (flatL 3 U.c U.m)[j]? = some u' → (u.alloc (.cells #[] 41)).cell? (ad.add j) = some u' from fun ad had j u' hu' => HRW.out.alloc_at (.cells #[] 41) had hu')
  go_upto_region 6 with (at_builtin; go_loud (refine list_copy rfl _ _ 23 rfl 41 (.agg #[.int .i64 0, .int .i64 0, .int .i64 0]) 3 24 Try.underlying23 Try.info_case' rfl (by decide) u.heap.size u.heap.size (Nat.le_refl _) (by simp) (by first | rfl | simp) ca U.m cc (flatL 3 U.c U.m) (by first | rfl | simp) flatL_len HNL.out HC3.out (by unfold maxLen; omega) (by omega) ?_; intro l1 c1 w3 ho hg; have hb3 := below_of_grown hg; have HBN := Lib.hid (((Below.refl u.heap.size u).alloc (Nat.le_refl _) (.cells #[] 41)).trans (hb3.mono (by simp))); have HE := Lib.hid ho; have HX3 := Lib.hid (HX.out.below zu HBN.out); clear ho hg hb3 b0 b1 b2 b3; (obtain ⟨b0, b1, b2, b3, bf⟩ := HX3.out); have bf3 := bf 3; clear bf))
  obtain ⟨a3, c3, hv3, hr30, hq30⟩ := HE.out.rowS hmu
  simp only [Value.slice.injEq] at hv3
  obtain ⟨rfl, _, rfl⟩ := hv3
  have hs := HBN.out.size
  have hr3 : RowS 3 w3 l1 U.m c1 U.c ∧ ∀ q, (Value.slice l1 U.m c1).ownBlock = some q → u.heap.size ≤ q := ⟨hr30, fun q hq => (hq30 q hq).1⟩
  obtain ⟨gd', cap', hv, hgb, hnc', hcl, hf⟩ := HO.out.get (by omega)
  simp only [Value.slice.injEq, Option.some.injEq, Addr.mk.injEq, and_true, true_and] at hv
  obtain ⟨rfl, rfl⟩ := hv
  refine abstract_code (fun u3 => Box4 u3 w.heap.size (.bool true) (.int .i64 U.tk) (.int .i64 U.sq) (.slice l1 U.m c1) ∧ OwnW (w.heap.size + 1) u3 (.slice (some ⟨gd, 0, none⟩) n dc) n (wcell V A C) ∧ (∀ i, i < n → CaseNew (w.heap.size + 1) u3 (.slice (some ⟨gd, 0, none⟩) n dc) (V i) (A i) (C i)) ∧ Below w.heap.size w u3 ∧ CaseNew (w.heap.size + 1) u3 (.slice (some ⟨gd, 0, none⟩) n dc) U.up l1 c1) ⟨HX3.out.set3 _, (HO.out.below HBN.out).set_far (by omega), fun i hi => ((HCS.out i hi).below HBN.out).set_far (by omega), (HB.out.trans (HBN.out.mono HB.out.size)).setCell (by simp) _, ⟨rowS_set_far hr3.1 (fun q hq => by have := hr3.2 q hq; omega), fun q hq => ⟨by have := hr3.2 q hq; omega, fun e => by simp only [Value.ownBlock, Option.some.injEq] at e; have := hr3.2 q hq; omega⟩⟩⟩ ?_
  clear HX HO HCS HB HRW HE HNL HC3 hmu HBN HX3 b0 b1 b2 b3 bf3 hs hr3 hr30 hq30 hgb hcl hf zu
  rintro u3 ⟨⟨b0, b1, b2, b3, _⟩, ho, hc, hb, hcu⟩
  have HO := Lib.hid ho
  have HCS := Lib.hid hc
  have HB := Lib.hid hb
  have HCU := Lib.hid hcu
  obtain ⟨gd', cap', hv, hgb, _, hcl, hf⟩ := ho.get (by omega)
  simp only [Value.slice.injEq, Option.some.injEq, Addr.mk.injEq, and_true, true_and] at hv
  obtain ⟨rfl, rfl⟩ := hv
  have x0 : u3.cell? ⟨gd, i * 4, none⟩ = some (.bool (V i).on) := hcl i 0 him (by omega)
  have x1 : u3.cell? ⟨gd, i * 4 + 1, none⟩ = some (.int .i64 (V i).tk) := hcl i 1 him (by omega)
  have x2 : u3.cell? ⟨gd, i * 4 + 2, none⟩ = some (.int .i64 (V i).sq) := hcl i 2 him (by omega)
  have x3 : u3.cell? ⟨gd, i * 4 + 3, none⟩ = some (.slice (A i) (V i).m (C i)) := hcl i 3 him (by omega)
  have f0 := hf (i * 4)
  have f1 := hf (i * 4 + 1)
  have f2 := hf (i * 4 + 2)
  have f3 := hf (i * 4 + 3)
  have HG := Lib.hid hgb
  clear hcl hf hgb ho hc hb hcu
  go_wp2
  refine bodyPost_ret (v := .tuple #[.slice (some ⟨gd, 0, none⟩) n dc, .bool true]) (by simp only [results, Try.results16]; go_simp) rfl ⟨_, fun j => if j = i then l1 else A j, fun j => if j = i then c1 else C j, rfl, (HO.out.store4 him U.up l1 c1).mono (by omega), fun j hj => ?_, ?_⟩
  · by_cases e : j = i
    · subst e
      dsimp only [setV]
      rw [if_pos rfl, if_pos rfl, if_pos rfl]
      exact (HCU.out.store4).mono (by omega)
    · dsimp only [setV]
      rw [if_neg e, if_neg e, if_neg e]
      exact ((HCS.out j hj).store4).mono (by omega)
  · exact (((HB.out.setCell (by have := HG.out; simp; omega) _).setCell (by have := HG.out; simp; omega) _).setCell (by have := HG.out; simp; omega) _).setCell (by have := HG.out; simp; omega) _
end Go.Proofs.Ytihpjfhibhpciaa
