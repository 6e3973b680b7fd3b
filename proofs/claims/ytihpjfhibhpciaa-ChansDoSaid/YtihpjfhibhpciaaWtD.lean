/- The contracts of Put and Cut of calls that wait, over the seat's program. -/
import Derived.Test.YtihpjfhibhpciaaWtC
import Derived.Deep.Cut
namespace Go.Proofs.Ytihpjfhibhpciaa
open Go.ChangeShapes Go.WideShapes Go.ChangeAt Go.RowKit Go.Joins

theorem abstract_code {P : Program} {c : Code} {Q : Exit → Act → World → Prop} {a : Act} {W : World} (A : World → Prop) (hA : A W) (h : ∀ W', A W' → Code.wp P c Q a W') : Code.wp P c Q a W := h W hA
def WV.zero : WV := ⟨false, 0, 0, 0, fun _ _ => 0⟩
def setV (V : Nat → WV) (t : Nat) (U : WV) : Nat → WV := fun i => if i = t then U else V i
/-- 'v' reads as a call that waits. -/
def OneAt (w : World) (v : Value) (U : WV) : Prop := ∃ a c, v = .agg #[.bool U.on, .int .i64 U.tk, .int .i64 U.sq, .slice a U.m c] ∧ RowS 3 w a U.m c U.c
/-- What is returned is calls that wait, and their cases, in new memory, and a bool. -/
def RetWB (n : Nat) (V : Nat → WV) (ok : Bool) (w : World) (e : Ending) (w' : World) : Prop :=
  ∃ v A C, e = .returned (.tuple #[v, .bool ok]) ∧ OwnW w.heap.size w' v n (wcell V A C) ∧ (∀ i, i < n → CaseNew w.heap.size w' v (V i) (A i) (C i)) ∧ Below w.heap.size w w'
theorem OwnW.mono {B B' : Nat} {w : World} {v : Value} {n : Nat} {F : Nat → Nat → Value} (h : OwnW B w v n F) (hB : B' ≤ B) : OwnW B' w v n F := by
  rcases h with h | ⟨gd, cap, hv, hb, r⟩
  · exact .inl h
  · exact .inr ⟨gd, cap, hv, ⟨by omega, hb.2⟩, r⟩
theorem CaseNew.mono {B B' : Nat} {w : World} {v : Value} {V : WV} {a : Option Addr} {c : Nat} (h : CaseNew B w v V a c) (hB : B' ≤ B) : CaseNew B' w v V a c := ⟨h.1, fun q hq => ⟨by have := (h.2 q hq).1; omega, (h.2 q hq).2⟩⟩
theorem OwnW.form {B : Nat} {w : World} {v : Value} {n : Nat} {F : Nat → Nat → Value} (h : OwnW B w v n F) : ∃ a cap, v = .slice a n cap := by
  rcases h with ⟨rfl, a, cap, hv, _⟩ | ⟨gd, cap, hv, _⟩
  · exact ⟨a, cap, hv⟩
  · exact ⟨_, cap, hv⟩
set_option maxRecDepth 100000 in
set_option maxHeartbeats 3200000 in
theorem cut_no (a : Option Addr) (n cap : Nat) (V : Nat → WV) (t : Int) (w : World) (h : WaitsAt w a n cap V) (hno : ¬ (0 ≤ t ∧ t < n ∧ (V t.toNat).on = true)) : Calls Try.prog 17 #[.slice a n cap, .int .i64 t] w (RetWB n V false w) := by
  have hn := h.1
  have HC := Lib.hid (copy_any a n cap V w h)
  clear h
  go_enter Try.func17, Try.ntmps17
  go_upto_region 2 with (go_at_call 29; go_loud ((with_reducible refine HC.out.mono ?_); rintro e w1 ⟨v1, A, C, rfl, ho, hc, hb⟩; have HO := Lib.hid ho; have HCS := Lib.hid hc; have HB := Lib.hid hb; obtain ⟨da, dc, rfl⟩ := ho.form; clear ho hc hb))
  by_cases t0 : t < 0
  · clear hno
    go_wp2
    refine bodyPost_ret (v := .tuple #[.slice da n dc, .bool false]) (by simp only [results, Try.results17]; go_simp) rfl ⟨_, A, C, rfl, HO.out, HCS.out, HB.out⟩
  by_cases t1 : (n : Int) ≤ t
  · have t2 : 0 ≤ t := by omega
    clear hno t0
    go_wp2
    refine bodyPost_ret (v := .tuple #[.slice da n dc, .bool false]) (by simp only [results, Try.results17]; go_simp) rfl ⟨_, A, C, rfl, HO.out, HCS.out, HB.out⟩
  obtain ⟨i, rfl⟩ : ∃ i : Nat, t = (i : Int) := ⟨t.toNat, by omega⟩
  have him : i < n := by omega
  have hoff : (V i).on = false := by
    cases hv : (V i).on with
    | false => rfl
    | true => exact absurd ⟨by omega, by omega, by simpa using hv⟩ hno
  obtain ⟨gd, cap', hv, hgb, hnc, hcl, _⟩ := HO.out.get (by omega)
  simp only [Value.slice.injEq] at hv
  obtain ⟨rfl, _, rfl⟩ := hv
  have x0 : w1.cell? ⟨gd, i * 4, none⟩ = some (.bool false) := by rw [show (some (.bool false) : Option Value) = some (wcell V A C i 0) by rw [← hoff]; rfl]; exact hcl i 0 him (by omega)
  have i0 : (0 : Int) ≤ (i : Int) := by omega
  have i1 : (i : Int) < (n : Int) := by omega
  clear hno t0 t1 hoff hcl
  go_wp2
  refine bodyPost_ret (v := .tuple #[.slice (some ⟨gd, 0, none⟩) n dc, .bool false]) (by simp only [results, Try.results17]; go_simp) rfl ⟨_, A, C, rfl, HO.out, HCS.out, HB.out⟩
/-- Four stores into a row of calls that wait. -/
def store4 (w : World) (g o : Nat) (a b c d : Value) : World := (((w.setCell ⟨g, o, none⟩ a).setCell ⟨g, o + 1, none⟩ b).setCell ⟨g, o + 2, none⟩ c).setCell ⟨g, o + 3, none⟩ d
theorem OwnW.store4 {B : Nat} {w : World} {gd cap n : Nat} {V : Nat → WV} {A : Nat → Option Addr} {C : Nat → Nat} (h : OwnW B w (.slice (some ⟨gd, 0, none⟩) n cap) n (wcell V A C)) {i : Nat} (hi : i < n) (U : WV) (a3 : Option Addr) (c3 : Nat) :
    OwnW B (store4 w gd (i * 4) (.bool U.on) (.int .i64 U.tk) (.int .i64 U.sq) (.slice a3 U.m c3)) (.slice (some ⟨gd, 0, none⟩) n cap) n (wcell (setV V i U) (fun j => if j = i then a3 else A j) (fun j => if j = i then c3 else C j)) := by
  refine ((((h.set (i := i) (j := 0) hi (by omega) (.bool U.on)).set (i := i) (j := 1) hi (by omega) (.int .i64 U.tk)).set (i := i) (j := 2) hi (by omega) (.int .i64 U.sq)).set (i := i) (j := 3) hi (by omega) (.slice a3 U.m c3)).same (fun i' j hi' hj => ?_)
  unfold wcell setV
  by_cases e : i' = i
  · subst e
    match j, hj with
    | 0, _ => simp
    | 1, _ => simp
    | 2, _ => simp
    | 3, _ => simp
  · simp [e]
theorem CaseNew.store4 {B : Nat} {w : World} {gd n cap o : Nat} {V : WV} {a : Option Addr} {c : Nat} {x0 x1 x2 x3 : Value} (h : CaseNew B w (.slice (some ⟨gd, 0, none⟩) n cap) V a c) : CaseNew B (store4 w gd o x0 x1 x2 x3) (.slice (some ⟨gd, 0, none⟩) n cap) V a c := (((h.set).set).set).set
set_option maxRecDepth 100000 in
set_option maxHeartbeats 3200000 in
theorem cut_yes (a : Option Addr) (n cap : Nat) (V : Nat → WV) (i : Nat) (w : World) (h : WaitsAt w a n cap V) (him : i < n) (hon : (V i).on = true) : Calls Try.prog 17 #[.slice a n cap, .int .i64 i] w (RetWB n (setV V i WV.zero) true w) := by
  have hn := h.1
  have HC := Lib.hid (copy_any a n cap V w h)
  clear h
  go_enter Try.func17, Try.ntmps17
  go_upto_region 2 with (go_at_call 29; go_loud ((with_reducible refine HC.out.mono ?_); rintro e w1 ⟨v1, A, C, rfl, ho, hc, hb⟩; have HO := Lib.hid ho; have HCS := Lib.hid hc; have HB := Lib.hid hb; obtain ⟨da, dc, rfl⟩ := ho.form; clear ho hc hb))
  obtain ⟨gd, cap', hv, hgb, hnc, hcl, hf⟩ := HO.out.get (by omega)
  simp only [Value.slice.injEq] at hv
  obtain ⟨rfl, _, rfl⟩ := hv
  have x0 : w1.cell? ⟨gd, i * 4, none⟩ = some (.bool true) := by rw [show (some (.bool true) : Option Value) = some (wcell V A C i 0) by rw [← hon]; rfl]; exact hcl i 0 him (by omega)
  have x1 : w1.cell? ⟨gd, i * 4 + 1, none⟩ = some (.int .i64 (V i).tk) := hcl i 1 him (by omega)
  have x2 : w1.cell? ⟨gd, i * 4 + 2, none⟩ = some (.int .i64 (V i).sq) := hcl i 2 him (by omega)
  have x3 : w1.cell? ⟨gd, i * 4 + 3, none⟩ = some (.slice (A i) (V i).m (C i)) := hcl i 3 him (by omega)
  have f0 := hf (i * 4)
  have f1 := hf (i * 4 + 1)
  have f2 := hf (i * 4 + 2)
  have f3 := hf (i * 4 + 3)
  have i0 : (0 : Int) ≤ (i : Int) := by omega
  have i1 : (i : Int) < (n : Int) := by omega
  have HG := Lib.hid hgb
  clear hcl hf hon hgb
  go_wp2
  refine bodyPost_ret (v := .tuple #[.slice (some ⟨gd, 0, none⟩) n dc, .bool true]) (by simp only [results, Try.results17]; go_simp) rfl ⟨_, fun j => if j = i then none else A j, fun j => if j = i then 0 else C j, rfl, HO.out.store4 him WV.zero none 0, fun j hj => ?_, ?_⟩
  · by_cases e : j = i
    · subst e
      dsimp only [setV]
      rw [if_pos rfl, if_pos rfl, if_pos rfl]
      exact ⟨RowS.nil rfl rfl, fun q hq => by cases hq⟩
    · dsimp only [setV]
      rw [if_neg e, if_neg e, if_neg e]
      exact (HCS.out j hj).store4
  · exact (((HB.out.setCell (by have := HG.out; simp; omega) _).setCell (by have := HG.out; simp; omega) _).setCell (by have := HG.out; simp; omega) _).setCell (by have := HG.out; simp; omega) _
end Go.Proofs.Ytihpjfhibhpciaa
