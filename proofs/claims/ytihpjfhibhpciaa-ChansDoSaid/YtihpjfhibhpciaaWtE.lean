/- The contract of Put of calls that wait, over the seat's program. -/
import Derived.Test.YtihpjfhibhpciaaWtD
namespace Go.Proofs.Ytihpjfhibhpciaa
open Go.ChangeShapes Go.WideShapes Go.ChangeAt Go.RowKit Go.Joins

def WV.up (U : WV) : WV := ⟨true, U.tk, U.sq, U.m, U.c⟩
set_option maxRecDepth 100000 in
set_option maxHeartbeats 3200000 in
theorem put_no (a : Option Addr) (n cap : Nat) (V : Nat → WV) (t : Int) (wv : Value) (U : WV) (w : World) (h : WaitsAt w a n cap V) (hu : OneAt w wv U) (hno : ¬ (0 ≤ t ∧ t < n ∧ (V t.toNat).on = false)) : Calls Try.prog 15 #[.slice a n cap, .int .i64 t, wv] w (RetWB n V false w) := by
  have hn := h.1
  obtain ⟨ca, cc, rfl, _⟩ := hu
  have HA := Lib.hid ((Below.refl w.heap.size w).alloc (Nat.le_refl _) (.cells #[.bool U.on, .int .i64 U.tk, .int .i64 U.sq, .slice ca U.m cc] 25))
  have HC := Lib.hid (copy_any a n cap V (w.alloc (.cells #[.bool U.on, .int .i64 U.tk, .int .i64 U.sq, .slice ca U.m cc] 25)) (h.below HA.out))
  clear h
  go_enter Try.func15, Try.ntmps15
  go_upto_region 2 with (go_at_call 29; go_loud ((with_reducible refine HC.out.mono ?_); rintro e w1 ⟨v1, A, C, rfl, ho, hc, hb⟩; have HO := Lib.hid (ho.mono (B' := w.heap.size) (by simp)); have HCS := Lib.hid (fun i hi => (hc i hi).mono (B' := w.heap.size) (by simp)); have HB := Lib.hid (HA.out.trans (hb.mono HA.out.size)); obtain ⟨da, dc, rfl⟩ := ho.form; clear ho hc hb))
  by_cases t0 : t < 0
  · clear hno
    go_wp2
    refine bodyPost_ret (v := .tuple #[.slice da n dc, .bool false]) (by simp only [results, Try.results15]; go_simp) rfl ⟨_, A, C, rfl, HO.out, HCS.out, HB.out⟩
  by_cases t1 : (n : Int) ≤ t
  · have t2 : 0 ≤ t := by omega
    clear hno t0
    go_wp2
    refine bodyPost_ret (v := .tuple #[.slice da n dc, .bool false]) (by simp only [results, Try.results15]; go_simp) rfl ⟨_, A, C, rfl, HO.out, HCS.out, HB.out⟩
  obtain ⟨i, rfl⟩ : ∃ i : Nat, t = (i : Int) := ⟨t.toNat, by omega⟩
  have him : i < n := by omega
  have hoff : (V i).on = true := by
    cases hv : (V i).on with
    | true => rfl
    | false => exact absurd ⟨by omega, by omega, by simpa using hv⟩ hno
  obtain ⟨gd, cap', hv, hgb, hnc, hcl, _⟩ := HO.out.get (by omega)
  simp only [Value.slice.injEq] at hv
  obtain ⟨rfl, _, rfl⟩ := hv
  have x0 : w1.cell? ⟨gd, i * 4, none⟩ = some (.bool true) := by rw [show (some (.bool true) : Option Value) = some (wcell V A C i 0) by rw [← hoff]; rfl]; exact hcl i 0 him (by omega)
  have i0 : (0 : Int) ≤ (i : Int) := by omega
  have i1 : (i : Int) < (n : Int) := by omega
  clear hno t0 t1 hoff hcl
  go_wp2
  refine bodyPost_ret (v := .tuple #[.slice (some ⟨gd, 0, none⟩) n dc, .bool false]) (by simp only [results, Try.results15]; go_simp) rfl ⟨_, A, C, rfl, HO.out, HCS.out, HB.out⟩
/-- Four cells that may be written. -/
def Box4 (w : World) (p : Nat) (a b c d : Value) : Prop :=
  w.cell? ⟨p, 0, none⟩ = some a ∧ w.cell? ⟨p, 1, none⟩ = some b ∧ w.cell? ⟨p, 2, none⟩ = some c ∧ w.cell? ⟨p, 3, none⟩ = some d ∧ ∀ i, w.frozen? ⟨p, i, none⟩ = false
section
variable {w w' : World} {p q : Nat} {a b c d : Value}
theorem Box4.below (h : Box4 w p a b c d) (hp : p < w.heap.size) (hb : Below w.heap.size w w') : Box4 w' p a b c d := by
  obtain ⟨h0, h1, h2, h3, hf⟩ := h
  obtain ⟨hc, hg⟩ := bcell hb
  exact ⟨(hc _ _ hp).trans h0, (hc _ _ hp).trans h1, (hc _ _ hp).trans h2, (hc _ _ hp).trans h3, fun i => (hg _ _ hp).trans (hf i)⟩
theorem Box4.new (w : World) (t : TypeId) : Box4 (w.alloc (.cells #[a, b, c, d] t)) w.heap.size a b c d := by
  refine ⟨?_, ?_, ?_, ?_, fun i => frozen_of_row _ _ _ _ t (heap_alloc_new w _)⟩ <;> (rw [cell_of_row _ _ _ _ t (0, 0) (heap_alloc_new w _)]; rfl)
theorem Box4.set0 (h : Box4 w p a b c d) (x : Value) : Box4 (w.setCell ⟨p, 0, none⟩ x) p x b c d := by
  obtain ⟨h0, h1, h2, h3, hf⟩ := h
  exact ⟨World.cell?_setCell_same _ _ _ h0, by rw [cell_set_ne (.inr (by decide))]; exact h1, by rw [cell_set_ne (.inr (by decide))]; exact h2, by rw [cell_set_ne (.inr (by decide))]; exact h3, fun i => by simpa using hf i⟩
theorem Box4.set3 (h : Box4 w p a b c d) (x : Value) : Box4 (w.setCell ⟨p, 3, none⟩ x) p a b c x := by
  obtain ⟨h0, h1, h2, h3, hf⟩ := h
  exact ⟨by rw [cell_set_ne (.inr (by decide))]; exact h0, by rw [cell_set_ne (.inr (by decide))]; exact h1, by rw [cell_set_ne (.inr (by decide))]; exact h2, World.cell?_setCell_same _ _ _ h3, fun i => by simpa using hf i⟩
end
theorem OwnW.set_far {B : Nat} {w : World} {v : Value} {n : Nat} {F : Nat → Nat → Value} (h : OwnW B w v n F) {p i : Nat} {x : Value} (hp : p < B) : OwnW B (w.setCell ⟨p, i, none⟩ x) v n F := by
  rcases h with h | ⟨gd, cap, hv, hb, hnc, hc, hf⟩
  · exact .inl h
  · exact .inr ⟨gd, cap, hv, ⟨hb.1, by simpa using hb.2⟩, hnc, fun i j hi hj => by rw [cell_set_ne (.inl (by omega))]; exact hc i j hi hj, fun o => by simpa using hf o⟩
theorem rowS_set_far {s : Nat} {w : World} {d : Option Addr} {m c : Nat} {g : Nat → Nat → Int} {p i : Nat} {x : Value} (h : RowS s w d m c g) (hd : ∀ q, (Value.slice d m c).ownBlock = some q → p ≠ q) : RowS s (w.setCell ⟨p, i, none⟩ x) d m c g := by
  obtain ⟨h1, h2, h3, h4⟩ := h
  refine ⟨h1, h2, h3, fun h0 => ?_⟩
  obtain ⟨b, off, rfl, hbs, hc⟩ := h4 h0
  exact ⟨b, off, rfl, by simpa using hbs, fun i j hi hj => by rw [cell_set_ne (.inl (hd b rfl))]; exact hc i j hi hj⟩
theorem CaseNew.set_far {B : Nat} {w : World} {v : Value} {V : WV} {a : Option Addr} {c p i : Nat} {x : Value} (h : CaseNew B w v V a c) (hp : p < B) : CaseNew B (w.setCell ⟨p, i, none⟩ x) v V a c :=
  ⟨rowS_set_far h.1 (fun q hq => by have := (h.2 q hq).1; omega), h.2⟩
set_option maxRecDepth 100000 in
set_option maxHeartbeats 3200000 in
theorem put_yes (a : Option Addr) (n cap : Nat) (V : Nat → WV) (i : Nat) (wv : Value) (U : WV) (w : World) (h : WaitsAt w a n cap V) (hu : OneAt w wv U) (him : i < n) (hon : (V i).on = false) : Calls Try.prog 15 #[.slice a n cap, .int .i64 i, wv] w (RetWB n (setV V i U.up) true w) := by
  have hn := h.1
  obtain ⟨ca, cc, rfl, hru⟩ := hu
  have HA := Lib.hid ((Below.refl w.heap.size w).alloc (Nat.le_refl _) (.cells #[.bool U.on, .int .i64 U.tk, .int .i64 U.sq, .slice ca U.m cc] 25))
  have HC := Lib.hid (copy_any a n cap V (w.alloc (.cells #[.bool U.on, .int .i64 U.tk, .int .i64 U.sq, .slice ca U.m cc] 25)) (h.below HA.out))
  have HX0 := Lib.hid (Box4.new (a := .bool U.on) (b := .int .i64 U.tk) (c := .int .i64 U.sq) (d := .slice ca U.m cc) w 25)
  have HRU := Lib.hid hru
  clear h hru
  go_enter Try.func15, Try.ntmps15
  go_upto_region 2 with (go_at_call 29; go_loud ((with_reducible refine HC.out.mono ?_); rintro e w1 ⟨v1, A, C, rfl, ho, hc, hb⟩; have HO := Lib.hid (ho.mono (B' := w.heap.size + 1) (by simp)); have HCS := Lib.hid (fun i hi => (hc i hi).mono (B' := w.heap.size + 1) (by simp)); have HB := Lib.hid (HA.out.trans (hb.mono HA.out.size)); have HX := Lib.hid (HX0.out.below (by simp) hb); obtain ⟨da, dc, rfl⟩ := ho.form; clear ho hc hb))
  obtain ⟨gd, cap', hv, hgb, hnc, hcl, _⟩ := HO.out.get (by omega)
  simp only [Value.slice.injEq] at hv
  obtain ⟨rfl, _, rfl⟩ := hv
  have x0 : w1.cell? ⟨gd, i * 4, none⟩ = some (.bool false) := by rw [show (some (.bool false) : Option Value) = some (wcell V A C i 0) by rw [← hon]; rfl]; exact hcl i 0 him (by omega)
  have i0 : (0 : Int) ≤ (i : Int) := by omega
  have i1 : (i : Int) < (n : Int) := by omega
  have HG := Lib.hid hgb
  obtain ⟨b0, b1, b2, b3, bf⟩ := HX.out
  have bf0 := bf 0
  clear hcl hon hgb bf
  go_upto_region 5 with (fail)
  have hz1 : w.heap.size < w1.heap.size := by have := HG.out; omega
  refine abstract_code (fun u => Box4 u w.heap.size (.bool true) (.int .i64 U.tk) (.int .i64 U.sq) (.slice ca U.m cc) ∧ OwnW (w.heap.size + 1) u (.slice (some ⟨gd, 0, none⟩) n dc) n (wcell V A C) ∧ (∀ i, i < n → CaseNew (w.heap.size + 1) u (.slice (some ⟨gd, 0, none⟩) n dc) (V i) (A i) (C i)) ∧ Below w.heap.size w u ∧ w.heap.size < u.heap.size) ⟨HX.out.set0 _, HO.out.set_far (by omega), fun i hi => (HCS.out i hi).set_far (by omega), HB.out.setCell (by simp) _, by simp; exact hz1⟩ ?_
  clear HX HO HCS HB x0 b0 b1 b2 b3 bf0 hz1 HC HX0 HG
  rintro u ⟨hx, ho, hc, hb, zu⟩
  have HX := Lib.hid hx
  have HO := Lib.hid ho
  have HCS := Lib.hid hc
  have HB := Lib.hid hb
  have HRW := Lib.hid (HRU.out.below hb)
  obtain ⟨b0, b1, b2, b3, bf⟩ := hx
  clear bf ho hc hb
  go_upto_region 6 with (go_at_call 56; go_loud ((with_reducible refine (clone_case_any _ _ _ _ _ HRW.out).mono ?_); rintro e w3 ⟨v3, rfl, ho3, hb3⟩; obtain ⟨a3, c3, rfl⟩ := own_form ho3; have HN3 := Lib.hid ho3; have HBN := Lib.hid hb3; have HX3 := Lib.hid (HX.out.below zu hb3); clear ho3 hb3 b0 b1 b2 b3; (obtain ⟨b0, b1, b2, b3, bf⟩ := HX3.out); have bf3 := bf 3; clear bf))
  have hs := HBN.out.size
  have hr3 : RowS 3 w3 a3 U.m c3 U.c ∧ ∀ q, (Value.slice a3 U.m c3).ownBlock = some q → u.heap.size ≤ q := by
    obtain ⟨a4, c4, hv4, hr4⟩ := RowS.of (by have := HRW.out.1; omega) HN3.out
    simp only [Value.slice.injEq] at hv4
    obtain ⟨rfl, _, rfl⟩ := hv4
    exact ⟨hr4, fun q hq => (HN3.out.lt q hq).1⟩
  obtain ⟨gd', cap', hv, hgb, hnc', hcl, hf⟩ := HO.out.get (by omega)
  simp only [Value.slice.injEq, Option.some.injEq, Addr.mk.injEq, and_true, true_and] at hv
  obtain ⟨rfl, rfl⟩ := hv
  refine abstract_code (fun u3 => Box4 u3 w.heap.size (.bool true) (.int .i64 U.tk) (.int .i64 U.sq) (.slice a3 U.m c3) ∧ OwnW (w.heap.size + 1) u3 (.slice (some ⟨gd, 0, none⟩) n dc) n (wcell V A C) ∧ (∀ i, i < n → CaseNew (w.heap.size + 1) u3 (.slice (some ⟨gd, 0, none⟩) n dc) (V i) (A i) (C i)) ∧ Below w.heap.size w u3 ∧ CaseNew (w.heap.size + 1) u3 (.slice (some ⟨gd, 0, none⟩) n dc) U.up a3 c3) ⟨HX3.out.set3 _, (HO.out.below HBN.out).set_far (by omega), fun i hi => ((HCS.out i hi).below HBN.out).set_far (by omega), (HB.out.trans (HBN.out.mono HB.out.size)).setCell (by simp) _, ⟨rowS_set_far hr3.1 (fun q hq => by have := hr3.2 q hq; omega), fun q hq => ⟨by have := hr3.2 q hq; omega, fun e => by simp only [Value.ownBlock, Option.some.injEq] at e; have := hr3.2 q hq; omega⟩⟩⟩ ?_
  clear HX HO HCS HB HRW HN3 HBN HX3 b0 b1 b2 b3 bf3 hs hr3 hgb hcl hf zu
  rintro u3 ⟨⟨b0, b1, b2, b3, _⟩, ho, hc, hb, hcu⟩
  have HO := Lib.hid ho
  have HCS := Lib.hid hc
  have HB := Lib.hid hb
  have HCU := Lib.hid hcu
  obtain ⟨gd', cap', hv, hgb, _, hcl, hf⟩ := ho.get (by omega)
  simp only [Value.slice.injEq, Option.some.injEq, Addr.mk.injEq, and_true, true_and] at hv
  obtain ⟨rfl, rfl⟩ := hv
  have x0 : u3.cell? ⟨gd, i * 4, none⟩ = some (.bool (V i).on) := hcl i 0 him (by omega)
  have x1 : u3.cell? ⟨gd, i * 4 + 1, none⟩ = some (.int .i64 (V i).tk) := hcl i 1 him (by omega)
  have x2 : u3.cell? ⟨gd, i * 4 + 2, none⟩ = some (.int .i64 (V i).sq) := hcl i 2 him (by omega)
  have x3 : u3.cell? ⟨gd, i * 4 + 3, none⟩ = some (.slice (A i) (V i).m (C i)) := hcl i 3 him (by omega)
  have f0 := hf (i * 4)
  have f1 := hf (i * 4 + 1)
  have f2 := hf (i * 4 + 2)
  have f3 := hf (i * 4 + 3)
  have HG := Lib.hid hgb
  clear hcl hf hgb ho hc hb hcu
  go_wp2
  refine bodyPost_ret (v := .tuple #[.slice (some ⟨gd, 0, none⟩) n dc, .bool true]) (by simp only [results, Try.results15]; go_simp) rfl ⟨_, fun j => if j = i then a3 else A j, fun j => if j = i then c3 else C j, rfl, (HO.out.store4 him U.up a3 c3).mono (by omega), fun j hj => ?_, ?_⟩
  · by_cases e : j = i
    · subst e
      dsimp only [setV]
      rw [if_pos rfl, if_pos rfl, if_pos rfl]
      exact (HCU.out.store4).mono (by omega)
    · dsimp only [setV]
      rw [if_neg e, if_neg e, if_neg e]
      exact ((HCS.out j hj).store4).mono (by omega)
  · exact (((HB.out.setCell (by have := HG.out; simp; omega) _).setCell (by have := HG.out; simp; omega) _).setCell (by have := HG.out; simp; omega) _).setCell (by have := HG.out; simp; omega) _
end Go.Proofs.Ytihpjfhibhpciaa
