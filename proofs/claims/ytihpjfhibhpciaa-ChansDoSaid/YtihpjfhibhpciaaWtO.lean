/- The contracts of cmp.Compare at int and of On's second closure, over the seat's program. -/
import Derived.Test.YtihpjfhibhpciaaWtN
namespace Go.Proofs.Ytihpjfhibhpciaa
open Go.ChangeShapes Go.WideShapes Go.ChangeAt Go.RowKit Go.Joins

def cmpI (x y : Int) : Int := if x < y then -1 else if y < x then 1 else 0
theorem nan_any (x : Int) (w : World) : Calls Try.prog 97 #[.int .i64 x] w fun e w' => e = .returned (.bool false) ∧ SomeDraws w w' := by
  have e0 : (x != x) = false := by simp
  go_enter Try.func97, Try.ntmps97
  go_wp2
  go_ret
  exact ⟨by simp, 0, rfl⟩
set_option maxHeartbeats 3200000 in
theorem cmp_any (x y : Int) (w : World) : Calls Try.prog 66 #[.int .i64 x, .int .i64 y] w fun e w' => e = .returned (.int .i64 (cmpI x y)) ∧ Below w.heap.size w w' := by
  by_cases h1 : x < y
  · have HE := Lib.hid (show cmpI x y = -1 by rw [cmpI, if_pos h1])
    go_enter Try.func66, Try.ntmps66
    go_wp2_with (go_at_call 97; (with_reducible refine (nan_any _ _).mono ?_); rintro e w1 ⟨rfl, ⟨m, rfl⟩⟩)
    go_ret
    exact ⟨by rw [HE.out]; rfl, by first | exact Below.refl _ _ | exact below_drewN (Below.refl _ _) _ | exact below_drewN (below_drewN (Below.refl _ _) _) _⟩
  · by_cases h2 : y < x
    · have HE := Lib.hid (show cmpI x y = 1 by rw [cmpI, if_neg h1, if_pos h2])
      have h3 : y ≤ x := by omega
      clear h1
      go_enter Try.func66, Try.ntmps66
      go_wp2_with (go_at_call 97; (with_reducible refine (nan_any _ _).mono ?_); rintro e w1 ⟨rfl, ⟨m, rfl⟩⟩)
      go_ret
      exact ⟨by rw [HE.out]; rfl, by first | exact Below.refl _ _ | exact below_drewN (Below.refl _ _) _ | exact below_drewN (below_drewN (Below.refl _ _) _) _⟩
    · obtain rfl : x = y := by omega
      have HE := Lib.hid (show cmpI x x = 0 by rw [cmpI, if_neg h1, if_neg h1])
      have h3 : x ≤ x := by omega
      clear h1 h2
      go_enter Try.func66, Try.ntmps66
      go_wp2_with (go_at_call 97; (with_reducible refine (nan_any _ _).mono ?_); rintro e w1 ⟨rfl, ⟨m, rfl⟩⟩)
      go_ret
      exact ⟨by rw [HE.out]; rfl, by first | exact Below.refl _ _ | exact below_drewN (Below.refl _ _) _ | exact below_drewN (below_drewN (Below.refl _ _) _) _⟩
/-- A cell that holds a row's slice. -/
def SliceIn (w : World) (p : Nat) (a : Option Addr) (n cap : Nat) : Prop := p < w.heap.size ∧ w.cell? ⟨p, 0, none⟩ = some (.slice a n cap)
theorem SliceIn.below {w w' : World} {p : Nat} {a : Option Addr} {n cap : Nat} (h : SliceIn w p a n cap) (hb : Below w.heap.size w w') : SliceIn w' p a n cap := ⟨Nat.lt_of_lt_of_le h.1 hb.size, ((bcell hb).1 _ _ h.1).trans h.2⟩
set_option maxHeartbeats 3200000 in
theorem less_any (a : Option Addr) (n cap : Nat) (V : Nat → WV) (i j : Nat) (p : Nat) (w : World) (h : WaitsAt w a n cap V) (hp : SliceIn w p a n cap) (hi : i < n) (hj : j < n) : Calls Try.prog 65 #[.int .i64 i, .int .i64 j, .pointer (some ⟨p, 0, none⟩)] w fun e w' => e = .returned (.int .i64 (cmpI (V i).tk (V j).tk)) ∧ Below w.heap.size w w' := by
  have hn := h.1
  obtain ⟨b, off, rfl, zb, hc⟩ := h.get hi
  obtain ⟨_, _, _, x1, _, _, _⟩ := hc i hi
  obtain ⟨_, _, _, y1, _, _, _⟩ := hc j hj
  have c0 := hp.2
  have zp := hp.1
  have i0 : (0 : Int) ≤ (i : Int) := by omega
  have i1 : (i : Int) < (n : Int) := by omega
  have j0 : (0 : Int) ≤ (j : Int) := by omega
  have j1 : (j : Int) < (n : Int) := by omega
  clear h hp hc
  go_enter Try.func65, Try.ntmps65
  go_wp2
  go_region_held3 (fun W => W.cell? ⟨p, 0, none⟩ = some (.slice (some ⟨b, off, none⟩) n cap) ∧ W.cell? ⟨b, off + i * 4 + 1, none⟩ = some (.int .i64 (V i).tk) ∧ W.cell? ⟨b, off + j * 4 + 1, none⟩ = some (.int .i64 (V j).tk))
    (first | with_reducible exact ⟨c0, x1, y1⟩ | (go_simp; done) | go_keep)
    ((go_at_call 66; (with_reducible refine (cmp_any _ _ _).mono ?_); rintro e w1 ⟨rfl, hb⟩; have HB1 := Lib.hid (show Below w.heap.size w w1 from (Below.drew (Below.refl _ _)).trans (hb.mono (Nat.le_refl _))); have c0 := ((bcell HB1.out).1 _ _ zp).trans c0; have x1 := ((bcell HB1.out).1 _ _ zb).trans x1; have y1 := ((bcell HB1.out).1 _ _ zb).trans y1; clear hb))
  go_wp2
  go_ret
  exact ⟨rfl, HB1.out⟩
end Go.Proofs.Ytihpjfhibhpciaa
