/- The contract of plain.Pool where both pools are the same, over the seat's program. -/
import Derived.Test.YtdfbddepeacebaaRtG
namespace Go.Proofs.Ytdfbddepeacebaa
open Go.ChangeShapes Go.WideShapes Go.ChangeAt Go.RowKit Go.Joins

theorem Box.drewN {w : World} {p : Nat} {a b c d e : Value} (h : Box w p a b c d e) (n : Nat) : Box (w.drewN n) p a b c d e := h
theorem RowS.drewN {s : Nat} {w : World} {a : Option Addr} {n cap : Nat} {f : Nat → Nat → Int} (h : RowS s w a n cap f) (m : Nat) : RowS s (w.drewN m) a n cap f := h.below (below_drewN (Below.refl _ _) m)
def Same5 (w : World) (fa : Option Addr) (fc : Nat) (oa : Option Addr) (oc : Nat) (ga : Option Addr) (gc : Nat) (ha : Option Addr) (hc : Nat) (pi pt : Int) (nf : Nat) (ff : Nat → Nat → Int) (no : Nat) (fo : Nat → Nat → Int) (ps : Int) (u : World) : Prop :=
  Box u w.heap.size (.int .i64 pi) (.int .i64 pt) (.slice fa nf fc) (.slice oa no oc) (.int .i64 ps) ∧ Box u (w.heap.size + 1) (.int .i64 pi) (.int .i64 pt) (.slice ga nf gc) (.slice ha no hc) (.int .i64 ps) ∧ RowS 2 u fa nf fc ff ∧ RowS 2 u ga nf gc ff ∧ RowS 3 u oa no oc fo ∧ RowS 3 u ha no hc fo ∧ Below w.heap.size w u

set_option maxRecDepth 100000 in
set_option maxHeartbeats 3200000 in
theorem pool_yes (v v' : Value) (P : PV) (w : World) (h : PoolAt w v P) (h' : PoolAt w v' P) : Calls Try.prog 10 #[v, v'] w fun e w' => e = .returned (.bool true) ∧ Below w.heap.size w w' := by
  obtain ⟨fa, fc, oa, oc, rfl, hf, ho⟩ := h
  obtain ⟨ga, gc, ha, hc0, rfl, hg, hh⟩ := h'
  obtain ⟨pi, pt, nf, ff, no, fo, ps⟩ := P
  dsimp only at hf ho hg hh ⊢
  have hn1 := hf.1
  have hn2 := ho.1
  have hB : Below w.heap.size w ((w.alloc (.cells #[.int .i64 pi, .int .i64 pt, .slice fa nf fc, .slice oa no oc, .int .i64 ps] 27)).alloc (.cells #[.int .i64 pi, .int .i64 pt, .slice ga nf gc, .slice ha no hc0, .int .i64 ps] 27)) := ((Below.refl _ _).alloc (Nat.le_refl _) _).alloc (by simp) _
  have HS := Lib.hid (show Same5 w fa fc oa oc ga gc ha hc0 pi pt nf ff no fo ps ((w.alloc (.cells #[.int .i64 pi, .int .i64 pt, .slice fa nf fc, .slice oa no oc, .int .i64 ps] 27)).alloc (.cells #[.int .i64 pi, .int .i64 pt, .slice ga nf gc, .slice ha no hc0, .int .i64 ps] 27)) from ⟨(Box.new w _).below (by simp) ((Below.refl _ _).alloc (Nat.le_refl _) _), by have := Box.new (a := .int .i64 pi) (b := .int .i64 pt) (c := .slice ga nf gc) (d := .slice ha no hc0) (e := .int .i64 ps) (w.alloc (.cells #[.int .i64 pi, .int .i64 pt, .slice fa nf fc, .slice oa no oc, .int .i64 ps] 27)) 27; simpa using this, hf.below hB, hg.below hB, ho.below hB, hh.below hB, hB⟩)
  clear hf ho hg hh hB
  go_enter Try.func10, Try.ntmps10
  go_wp2
  go_loopw [40] (fun i wr => ∃ k : Nat, k ≤ nf ∧ i = .int .i64 k ∧ Same5 w fa fc oa oc ga gc ha hc0 pi pt nf ff no fo ps wr) (fun i _ => nf - (intOf i).toNat)
  case atStart => exact ⟨0, Nat.zero_le _, rfl, HS.out⟩
  case round =>
    obtain ⟨k, hk, rfl, hX, hY, hF, hG, hO, hH, hB⟩ := hrel
    have HX := Lib.hid hX
    have HY := Lib.hid hY
    have HF := Lib.hid hF
    have HG := Lib.hid hG
    have HO := Lib.hid hO
    have HH := Lib.hid hH
    have HB := Lib.hid hB
    have q1 := hX.2.2.1
    have q2 := hY.2.2.1
    clear hX hY hF hG hO hH hB
    by_cases hlt : k < nf
    · obtain ⟨b, off, rfl, _, hc⟩ := HF.out.get hlt
      obtain ⟨b', off', rfl, _, hc'⟩ := HG.out.get hlt
      generalize ff = f at *
      have x0 : wr.cell? ⟨b, off + k * 2, none⟩ = some (.int .i64 (f k 0)) := hc k 0 hlt (by omega)
      have y0 : wr.cell? ⟨b', off' + k * 2, none⟩ = some (.int .i64 (f k 0)) := hc' k 0 hlt (by omega)
      have x1 : wr.cell? ⟨b, off + k * 2 + 1, none⟩ = some (.int .i64 (f k 1)) := hc k 1 hlt (by omega)
      have y1 : wr.cell? ⟨b', off' + k * 2 + 1, none⟩ = some (.int .i64 (f k 1)) := hc' k 1 hlt (by omega)
      have i0 : (0 : Int) ≤ (k : Int) := by omega
      have i1 : (k : Int) < (nf : Int) := by omega
      clear hc hc'
      go_wp2
      go_quiet (fail)
      go_wp2
      go_roundw
      case rel => exact ⟨k + 1, by omega, by go_num, HX.out.drewN _, HY.out.drewN _, HF.out.drewN _, HG.out.drewN _, HO.out.drewN _, HH.out.drewN _, below_drewN HB.out _⟩
      case measure => simp [intOf]; omega
    · clear q1 q2
      have q3 := HX.out.2.2.2.1
      go_wp2
      go_loopw [58] (fun i wr => ∃ k : Nat, k ≤ no ∧ i = .int .i64 k ∧ Same5 w fa fc oa oc ga gc ha hc0 pi pt nf ff no fo ps wr) (fun i _ => no - (intOf i).toNat)
      case atStart => exact ⟨0, Nat.zero_le _, rfl, ⟨HX.out, HY.out, HF.out, HG.out, HO.out, HH.out, HB.out⟩⟩
      case round =>
        clear HX HY HF HG HO HH HB
        obtain ⟨k, hk, rfl, hX, hY, hF, hG, hO, hH, hB⟩ := hrel
        have HX := Lib.hid hX
        have HY := Lib.hid hY
        have HF := Lib.hid hF
        have HG := Lib.hid hG
        have HO := Lib.hid hO
        have HH := Lib.hid hH
        have HB := Lib.hid hB
        have q1 := hX.2.2.2.1
        have q2 := hY.2.2.2.1
        clear hX hY hF hG hO hH hB
        by_cases hlt : k < no
        · obtain ⟨b, off, rfl, _, hc⟩ := HO.out.get hlt
          obtain ⟨b', off', rfl, _, hc'⟩ := HH.out.get hlt
          generalize fo = f at *
          have x0 : wr.cell? ⟨b, off + k * 3, none⟩ = some (.int .i64 (f k 0)) := hc k 0 hlt (by omega)
          have y0 : wr.cell? ⟨b', off' + k * 3, none⟩ = some (.int .i64 (f k 0)) := hc' k 0 hlt (by omega)
          have x1 : wr.cell? ⟨b, off + k * 3 + 1, none⟩ = some (.int .i64 (f k 1)) := hc k 1 hlt (by omega)
          have y1 : wr.cell? ⟨b', off' + k * 3 + 1, none⟩ = some (.int .i64 (f k 1)) := hc' k 1 hlt (by omega)
          have x2 : wr.cell? ⟨b, off + k * 3 + 2, none⟩ = some (.int .i64 (f k 2)) := hc k 2 hlt (by omega)
          have y2 : wr.cell? ⟨b', off' + k * 3 + 2, none⟩ = some (.int .i64 (f k 2)) := hc' k 2 hlt (by omega)
          have i0 : (0 : Int) ≤ (k : Int) := by omega
          have i1 : (k : Int) < (no : Int) := by omega
          clear hc hc'
          go_wp2
          go_quiet (fail)
          go_wp2
          go_roundw
          case rel => exact ⟨k + 1, by omega, by go_num, HX.out.drewN _, HY.out.drewN _, HF.out.drewN _, HG.out.drewN _, HO.out.drewN _, HH.out.drewN _, below_drewN HB.out _⟩
          case measure => simp [intOf]; omega

        · go_wp2
          go_ret
          exact ⟨rfl, HB.out⟩
end Go.Proofs.Ytdfbddepeacebaa
