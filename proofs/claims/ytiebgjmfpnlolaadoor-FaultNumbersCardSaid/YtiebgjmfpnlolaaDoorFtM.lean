/- Deep, Place, Path. -/
import Derived.Test.YtiebgjmfpnlolaaDoorFtL
import Derived.Test.YtiebgjmfpnlolaaDoorFtO
import Derived.Deep.LoopGhost
import Derived.Test.YtiebgjmfpnlolaaDoorShelf
namespace Go.Proofs.YtiebgjmfpnlolaaDoor
open Go.RowKit Go.Extern.Stop Go.Stop Go.Extern
set_option maxRecDepth 100000

/-- A row of values that lies in memory. -/
def RowV (w : World) (a : Option Addr) (n : Nat) (x : Nat → Value) : Prop := 0 < n → ∃ g, a = some ⟨g, 0, none⟩ ∧ g < w.heap.size ∧ ∀ i, i < n → w.cell? ⟨g, i, none⟩ = some (x i)
theorem RowV.below {w w' : World} {a : Option Addr} {n : Nat} {x : Nat → Value} (h : RowV w a n x) (hb : Below w.heap.size w w') : RowV w' a n x := fun h0 => by
  obtain ⟨g, ha, hg, hi⟩ := h h0
  exact ⟨g, ha, Nat.lt_of_lt_of_le hg hb.size, fun i h => ((bcell hb).1 _ _ hg).trans (hi i h)⟩
def vals (x : Nat → Value) (k : Nat) : List Value := (List.range k).map x
theorem vals_succ (x : Nat → Value) (k : Nat) : vals x (k + 1) = vals x k ++ [x k] := by simp [vals, List.range_succ]
theorem own_vals {E B n : Nat} {v : Value} {w : World} {x : Nat → Value} (h : w.ownsRow B E 1 v n (vals x n)) : ∃ a cap, v = .slice a n cap ∧ n ≤ cap ∧ RowV w a n x := by
  have h' := h
  rcases h.2 with ⟨rfl, rfl⟩ | ⟨q, cap, cur, rfl, hb, hg, hnc, _, _, _⟩
  · exact ⟨none, 0, rfl, Nat.le_refl _, fun h0 => absurd h0 (by omega)⟩
  · refine ⟨some ⟨q, 0, none⟩, cap, rfl, hnc, fun _ => ⟨q, rfl, (Array.getElem?_eq_some_iff.1 hg).1, fun i hi => ?_⟩⟩
    rw [h'.cellAt i (by omega)]
    simp [vals, List.getElem?_map, List.getElem?_range hi]
theorem own_ptrs {E B n : Nat} {v : Value} {w : World} {fb : Nat → Nat} (h : w.ownsRow B E 1 v n (ptrs fb n)) : ∃ a cap, v = .slice a n cap ∧ n ≤ cap ∧ RowV w a n fun i => .pointer (some ⟨fb i, 0, none⟩) := own_vals h
theorem Deep_any (n : Nat) (hn : n ≤ 63) (fb : Nat → Nat) (fs : Nat → ByteArray) (fp : Nat → Int) (bot : Value) (w : World) (hg : Laid w) (hc : Chain w n fb fs fp bot) (hb : NoFault w bot) : Calls Tryd.prog 12 #[lk n fb bot 0] w fun r w' => r = .returned (.int .i64 n) ∧ Below w.heap.size w w' := by
  have HQ := Lib.hid (show Calls Tryd.prog 23 #[lk n fb bot 0] w fun r w' => ∃ v, r = .returned v ∧ w'.ownsRow w.heap.size 44 1 v n (ptrs fb n) ∧ Below w.heap.size w w' from faults_any n hn fb fs fp bot w hg hc hb)
  clear hc hb hg
  go_enter Tryd.func12, Tryd.ntmps12
  go_wp2_with (go_at_call 23; (with_reducible refine HQ.out.mono ?_); rintro r w1 ⟨v, rfl, ho, hb⟩; obtain ⟨a1, k1, rfl, hk1, hr⟩ := own_ptrs ho; have HB1 := Lib.hid hb; have HR1 := Lib.hid hr; clear ho hb hr)
  go_ret
  exact ⟨rfl, HB1.out⟩
/-- The place of the innermost of the first 'k' faults of a name. -/
def plc (fs : Nat → ByteArray) (fp : Nat → Int) (s : ByteArray) : Nat → Int × Bool
  | 0 => (0, false)
  | k + 1 => if ((fs k).toList == s.toList) = true then (fp k, true) else plc fs fp s k
theorem plc_yes {fs : Nat → ByteArray} {fp : Nat → Int} {s : ByteArray} {k : Nat} (h : ((fs k).toList == s.toList) = true) : plc fs fp s (k + 1) = (fp k, true) := by simp [plc, h]
theorem plc_no {fs : Nat → ByteArray} {fp : Nat → Int} {s : ByteArray} {k : Nat} (h : ((fs k).toList == s.toList) = false) : plc fs fp s (k + 1) = plc fs fp s k := by simp [plc, h]
set_option maxHeartbeats 1600000 in
theorem Place_any (n : Nat) (hn : n ≤ 63) (fb : Nat → Nat) (fs : Nat → ByteArray) (fp : Nat → Int) (bot : Value) (s : ByteArray) (w : World) (hg : Laid w) (hc : Chain w n fb fs fp bot) (hb : NoFault w bot) : Calls Tryd.prog 13 #[lk n fb bot 0, .string s] w fun r w' => r = .returned (.tuple #[.int .i64 (plc fs fp s n).1, .bool (plc fs fp s n).2]) ∧ Below w.heap.size w w' := by
  have HQ := Lib.hid (show Calls Tryd.prog 23 #[lk n fb bot 0] w fun r w' => ∃ v, r = .returned v ∧ w'.ownsRow w.heap.size 44 1 v n (ptrs fb n) ∧ Below w.heap.size w w' from faults_any n hn fb fs fp bot w hg hc hb)
  have HC := Lib.hid (fun W hW => (hc.below hW : Chain W n fb fs fp bot))
  clear hc hb hg
  go_enter Tryd.func13, Tryd.ntmps13
  go_wp2_with (go_at_call 23; (with_reducible refine HQ.out.mono ?_); rintro r w1 ⟨v, rfl, ho, hb⟩; obtain ⟨a1, k1, rfl, hk1, hr⟩ := own_ptrs ho; have HB1 := Lib.hid hb; have HR1 := Lib.hid hr; clear ho hb hr)
  go_loopw [6, 7, 13] (fun p ok i wr => ∃ k : Nat, k ≤ n ∧ i = .int .i64 k ∧ p = .int .i64 (plc fs fp s k).1 ∧ ok = .bool (plc fs fp s k).2 ∧ wr = w1) (fun _ _ i _ => n - (intOf i).toNat)
  case atStart => exact ⟨0, Nat.zero_le _, rfl, rfl, rfl, rfl⟩
  case round =>
    obtain ⟨k, hk, rfl, rfl, rfl, rfl⟩ := hrel
    by_cases hkn : k < n
    · obtain ⟨g, rfl, hg, hi⟩ := HR1.out (by omega)
      have x0 := hi k hkn
      obtain ⟨_, c0, c1, _⟩ := HC.out _ HB1.out k hkn
      have i0 : (0 : Int) ≤ (k : Int) := by omega
      have i1 : (k : Int) < (n : Int) := by omega
      clear hi
      cases hs : ((fs k).toList == s.toList)
      · have HP := Lib.hid (plc_no (fp := fp) hs)
        go_wp2_with fail
        go_roundw
        case rel => exact ⟨k + 1, by omega, by go_num, by simp only [HP.out], by simp only [HP.out], trivial⟩
        case measure => simp [intOf]; omega
      · have HP := Lib.hid (plc_yes (fp := fp) hs)
        go_wp2_with fail
        go_roundw
        case rel => exact ⟨k + 1, by omega, by go_num, by simp only [HP.out], by simp only [HP.out], trivial⟩
        case measure => simp [intOf]; omega
    · obtain rfl : k = n := by omega
      go_wp2_with fail
      refine bodyPost_ret (v := .tuple #[.int .i64 (plc fs fp s k).1, .bool (plc fs fp s k).2]) ?_ rfl ?_
      · simp only [results, Tryd.results13]; go_simp
      · exact ⟨rfl, HB1.out⟩
end Go.Proofs.YtiebgjmfpnlolaaDoor
