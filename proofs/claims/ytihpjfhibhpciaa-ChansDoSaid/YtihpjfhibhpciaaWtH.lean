/- The contract of the reference's Cut of calls that wait, over the seat's program. -/
import Derived.Test.YtihpjfhibhpciaaWtG
namespace Go.Proofs.Ytihpjfhibhpciaa
open Go.ChangeShapes Go.WideShapes Go.ChangeAt Go.RowKit Go.Joins

set_option maxRecDepth 100000 in
set_option maxHeartbeats 3200000 in
theorem rcut_no (a : Option Addr) (n cap : Nat) (V : Nat → WV) (t : Int) (w : World) (h : WaitsAt w a n cap V) (hno : ¬ (0 ≤ t ∧ t < n ∧ (V t.toNat).on = true)) : Calls Try.prog 18 #[.slice a n cap, .int .i64 t] w (RetWB n V false w) := by
  have hn := h.1
  have HC := Lib.hid (rcopy_any a n cap V w h)
  have HL := Lib.hid h
  clear h
  go_enter Try.func18, Try.ntmps18
  go_upto_region 2 with (go_at_call 14; go_loud ((with_reducible refine HC.out.mono ?_); rintro e w1 ⟨v1, A, C, rfl, ho, hc, hb⟩; have HO := Lib.hid ho; have HCS := Lib.hid hc; have HB := Lib.hid hb; obtain ⟨da, dc, rfl⟩ := ho.form; clear ho hc hb))
  by_cases t0 : t < 0
  · clear hno
    go_wp2
    refine bodyPost_ret (v := .tuple #[.slice da n dc, .bool false]) (by simp only [results, Try.results18]; go_simp) rfl ⟨_, A, C, rfl, HO.out, HCS.out, HB.out⟩
  by_cases t1 : (n : Int) ≤ t
  · have t2 : 0 ≤ t := by omega
    clear hno t0
    go_wp2
    refine bodyPost_ret (v := .tuple #[.slice da n dc, .bool false]) (by simp only [results, Try.results18]; go_simp) rfl ⟨_, A, C, rfl, HO.out, HCS.out, HB.out⟩
  obtain ⟨i, rfl⟩ : ∃ i : Nat, t = (i : Int) := ⟨t.toNat, by omega⟩
  have him : i < n := by omega
  have hoff : (V i).on = false := by
    cases hv : (V i).on with
    | false => rfl
    | true => exact absurd ⟨by omega, by omega, by simpa using hv⟩ hno
  obtain ⟨b, off, rfl, zb, hcl⟩ := (HL.out.below HB.out).get him
  obtain ⟨ca, cc, y0, y1, y2, y3, _⟩ := hcl i him
  rw [hoff] at y0
  have i0 : (0 : Int) ≤ (i : Int) := by omega
  have i1 : (i : Int) < (n : Int) := by omega
  clear hno t0 t1 hoff hcl
  go_wp2
  refine bodyPost_ret (v := .tuple #[.slice da n dc, .bool false]) (by simp only [results, Try.results18]; go_simp) rfl ⟨_, A, C, rfl, HO.out, HCS.out, HB.out⟩
set_option maxRecDepth 100000 in
set_option maxHeartbeats 3200000 in
theorem rcut_yes (a : Option Addr) (n cap : Nat) (V : Nat → WV) (i : Nat) (w : World) (h : WaitsAt w a n cap V) (him : i < n) (hon : (V i).on = true) : Calls Try.prog 18 #[.slice a n cap, .int .i64 i] w (RetWB n (setV V i WV.zero) true w) := by
  have hn := h.1
  have HC := Lib.hid (rcopy_any a n cap V w h)
  have HL := Lib.hid h
  clear h
  go_enter Try.func18, Try.ntmps18
  go_upto_region 2 with (go_at_call 14; go_loud ((with_reducible refine HC.out.mono ?_); rintro e w1 ⟨v1, A, C, rfl, ho, hc, hb⟩; have HO := Lib.hid ho; have HCS := Lib.hid hc; have HB := Lib.hid hb; obtain ⟨da, dc, rfl⟩ := ho.form; clear ho hc hb))
  obtain ⟨gd, cap', hv, hgb, hnc, hcl, hf⟩ := HO.out.get (by omega)
  simp only [Value.slice.injEq] at hv
  obtain ⟨rfl, _, rfl⟩ := hv
  have x0 : w1.cell? ⟨gd, i * 4, none⟩ = some (.bool true) := by rw [show (some (.bool true) : Option Value) = some (wcell V A C i 0) by rw [← hon]; rfl]; exact hcl i 0 him (by omega)
  have x1 : w1.cell? ⟨gd, i * 4 + 1, none⟩ = some (.int .i64 (V i).tk) := hcl i 1 him (by omega)
  have x2 : w1.cell? ⟨gd, i * 4 + 2, none⟩ = some (.int .i64 (V i).sq) := hcl i 2 him (by omega)
  have x3 : w1.cell? ⟨gd, i * 4 + 3, none⟩ = some (.slice (A i) (V i).m (C i)) := hcl i 3 him (by omega)
  have f0 := hf (i * 4)
  have f1 := hf (i * 4 + 1)
  have f2 := hf (i * 4 + 2)
  have f3 := hf (i * 4 + 3)
  clear hcl
  obtain ⟨b, off, rfl, zb, hcl⟩ := (HL.out.below HB.out).get him
  obtain ⟨ca, cc, y0, y1, y2, y3, _⟩ := hcl i him
  rw [hon] at y0
  have i0 : (0 : Int) ≤ (i : Int) := by omega
  have i1 : (i : Int) < (n : Int) := by omega
  have HG := Lib.hid hgb
  clear hcl hf hon hgb
  go_wp2
  refine bodyPost_ret (v := .tuple #[.slice (some ⟨gd, 0, none⟩) n dc, .bool true]) (by simp only [results, Try.results18]; go_simp) rfl ⟨_, fun j => if j = i then none else A j, fun j => if j = i then 0 else C j, rfl, HO.out.store4 him WV.zero none 0, fun j hj => ?_, ?_⟩
  · by_cases e : j = i
    · subst e
      dsimp only [setV]
      rw [if_pos rfl, if_pos rfl, if_pos rfl]
      exact ⟨RowS.nil rfl rfl, fun q hq => by cases hq⟩
    · dsimp only [setV]
      rw [if_neg e, if_neg e, if_neg e]
      exact (HCS.out j hj).store4
  · exact (((HB.out.setCell (by have := HG.out; simp; omega) _).setCell (by have := HG.out; simp; omega) _).setCell (by have := HG.out; simp; omega) _).setCell (by have := HG.out; simp; omega) _
end Go.Proofs.Ytihpjfhibhpciaa
