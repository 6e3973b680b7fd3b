/- The contracts of plain's Cases and Waits where both are the same, over the seat's program. -/
import Derived.Test.YtihpjfhibhpciaaWtE
namespace Go.Proofs.Ytihpjfhibhpciaa
open Go.ChangeShapes Go.WideShapes Go.ChangeAt Go.RowKit Go.Joins

set_option maxRecDepth 100000 in
set_option maxHeartbeats 3200000 in
theorem cases_yes (a a' : Option Addr) (m cap cap' : Nat) (g : Nat → Nat → Int) (w : World) (h : RowS 3 w a m cap g) (h' : RowS 3 w a' m cap' g) :
    Calls Try.prog 57 #[.slice a m cap, .slice a' m cap'] w fun e w' => e = .returned (.bool true) ∧ Below w.heap.size w w' := by
  have hm := h.1
  have HC := Lib.hid h
  have HC' := Lib.hid h'
  clear h h'
  go_enter Try.func57, Try.ntmps57
  go_wp2
  go_loopw [13] (fun i wr => ∃ k : Nat, k ≤ m ∧ i = .int .i64 k ∧ Below w.heap.size w wr) (fun i _ => m - (intOf i).toNat)
  case atStart => exact ⟨0, Nat.zero_le _, rfl, Below.refl _ _⟩
  case round =>
    obtain ⟨k, hk, rfl, hb⟩ := hrel
    have HB := Lib.hid hb
    have HR := Lib.hid (HC.out.below hb)
    have HR' := Lib.hid (HC'.out.below hb)
    clear hb
    by_cases hlt : k < m
    · obtain ⟨b, off, rfl, zb, hc⟩ := HR.out.get hlt
      obtain ⟨b', off', rfl, zb', hc'⟩ := HR'.out.get hlt
      have x0 : wr.cell? ⟨b, off + k * 3, none⟩ = some (.int .i64 (g k 0)) := hc k 0 hlt (by omega)
      have x1 : wr.cell? ⟨b, off + k * 3 + 1, none⟩ = some (.int .i64 (g k 1)) := hc k 1 hlt (by omega)
      have x2 : wr.cell? ⟨b, off + k * 3 + 2, none⟩ = some (.int .i64 (g k 2)) := hc k 2 hlt (by omega)
      have y0 : wr.cell? ⟨b', off' + k * 3, none⟩ = some (.int .i64 (g k 0)) := hc' k 0 hlt (by omega)
      have y1 : wr.cell? ⟨b', off' + k * 3 + 1, none⟩ = some (.int .i64 (g k 1)) := hc' k 1 hlt (by omega)
      have y2 : wr.cell? ⟨b', off' + k * 3 + 2, none⟩ = some (.int .i64 (g k 2)) := hc' k 2 hlt (by omega)
      have i0 : (0 : Int) ≤ (k : Int) := by omega
      have i1 : (k : Int) < (m : Int) := by omega
      have e0 : (g k 0 == g k 0) = true := by simp
      have e1 : (g k 1 == g k 1) = true := by simp
      have e2 : (g k 2 == g k 2) = true := by simp
      clear hc hc'
      go_wp2
      go_quiet (fail)
      go_wp2
      go_roundw
      case rel => exact ⟨k + 1, by omega, by go_num, below_drewN HB.out _⟩
      case measure => simp [intOf]; omega
    · go_wp2
      go_ret
      exact ⟨rfl, HB.out⟩

set_option maxRecDepth 100000 in
set_option maxHeartbeats 3200000 in
theorem waits_yes (a a' : Option Addr) (m cap cap' : Nat) (V : Nat → WV) (w : World) (h : WaitsAt w a m cap V) (h' : WaitsAt w a' m cap' V) :
    Calls Try.prog 19 #[.slice a m cap, .slice a' m cap'] w fun e w' => e = .returned (.bool true) ∧ Below w.heap.size w w' := by
  have hm := h.1
  have HC := Lib.hid h
  have HC' := Lib.hid h'
  clear h h'
  go_enter Try.func19, Try.ntmps19
  go_wp2
  go_loopw [13] (fun i wr => ∃ k : Nat, k ≤ m ∧ i = .int .i64 k ∧ Below w.heap.size w wr) (fun i _ => m - (intOf i).toNat)
  case atStart => exact ⟨0, Nat.zero_le _, rfl, Below.refl _ _⟩
  case round =>
    obtain ⟨k, hk, rfl, hb⟩ := hrel
    have HB := Lib.hid hb
    have HR := Lib.hid (HC.out.below hb)
    have HR' := Lib.hid (HC'.out.below hb)
    clear hb
    by_cases hlt : k < m
    · obtain ⟨b, off, rfl, zb, hc⟩ := HR.out.get hlt
      obtain ⟨b', off', rfl, zb', hc'⟩ := HR'.out.get hlt
      obtain ⟨ca, cc, x0, x1, x2, x3, hr⟩ := hc k hlt
      obtain ⟨ca', cc', y0, y1, y2, y3, hr'⟩ := hc' k hlt
      have HK := Lib.hid hr
      have HK' := Lib.hid hr'
      have i0 : (0 : Int) ≤ (k : Int) := by omega
      have i1 : (k : Int) < (m : Int) := by omega
      have e0 : ((V k).on == (V k).on) = true := by simp
      have e1 : ((V k).tk == (V k).tk) = true := by simp
      have e2 : ((V k).sq == (V k).sq) = true := by simp
      clear hc hc' hr hr'
      go_wp2
      go_region_held3 (fun W => W.cell? ⟨b, off + k * 4, none⟩ = some (.bool (V k).on) ∧ W.cell? ⟨b, off + k * 4 + 1, none⟩ = some (.int .i64 (V k).tk) ∧ W.cell? ⟨b, off + k * 4 + 2, none⟩ = some (.int .i64 (V k).sq) ∧ W.cell? ⟨b, off + k * 4 + 3, none⟩ = some (.slice ca (V k).m cc) ∧ W.cell? ⟨b', off' + k * 4, none⟩ = some (.bool (V k).on) ∧ W.cell? ⟨b', off' + k * 4 + 1, none⟩ = some (.int .i64 (V k).tk) ∧ W.cell? ⟨b', off' + k * 4 + 2, none⟩ = some (.int .i64 (V k).sq) ∧ W.cell? ⟨b', off' + k * 4 + 3, none⟩ = some (.slice ca' (V k).m cc'))
        (first | with_reducible exact ⟨x0, x1, x2, x3, y0, y1, y2, y3⟩ | (go_simp; done) | go_keep)
        ((go_at_call 57; (with_reducible refine (cases_yes _ _ _ _ _ _ _ (HK.out.below (Below.drew (Below.refl _ _))) (HK'.out.below (Below.drew (Below.refl _ _)))).mono ?_); rintro e w1 ⟨rfl, hb⟩; have HB1 := Lib.hid (show Below wr.heap.size wr w1 from (Below.drew (Below.refl _ _)).trans (hb.mono (Nat.le_refl _))); have x0 := ((bcell HB1.out).1 _ _ zb).trans x0; have x1 := ((bcell HB1.out).1 _ _ zb).trans x1; have x2 := ((bcell HB1.out).1 _ _ zb).trans x2; have x3 := ((bcell HB1.out).1 _ _ zb).trans x3; have y0 := ((bcell HB1.out).1 _ _ zb').trans y0; have y1 := ((bcell HB1.out).1 _ _ zb').trans y1; have y2 := ((bcell HB1.out).1 _ _ zb').trans y2; have y3 := ((bcell HB1.out).1 _ _ zb').trans y3; clear hb))
      go_wp2
      go_roundw
      case rel => exact ⟨k + 1, by omega, by go_num, HB.out.trans (HB1.out.mono HB.out.size)⟩
      case measure => simp [intOf]; omega
    · go_wp2
      go_ret
      exact ⟨rfl, HB.out⟩
end Go.Proofs.Ytihpjfhibhpciaa
