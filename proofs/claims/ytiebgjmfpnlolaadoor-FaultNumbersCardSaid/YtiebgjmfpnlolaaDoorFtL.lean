/- The faults of an error, from without. -/
import Derived.Test.YtiebgjmfpnlolaaDoorFtK
import Derived.Test.YtiebgjmfpnlolaaDoorFtApp
import Derived.Test.YtiebgjmfpnlolaaDoorFtO
import Derived.Deep.LoopGhost
import Derived.Test.YtiebgjmfpnlolaaDoorShelf
namespace Go.Proofs.YtiebgjmfpnlolaaDoor
open Go.RowKit Go.Extern.Stop Go.Stop Go.Extern
set_option maxRecDepth 100000

/-- Pointers to faults. -/
def ptrs (fb : Nat → Nat) (k : Nat) : List Value := (List.range k).map fun i => .pointer (some ⟨fb i, 0, none⟩)
theorem ptrs_succ (fb : Nat → Nat) (k : Nat) : ptrs fb (k + 1) = ptrs fb k ++ [.pointer (some ⟨fb k, 0, none⟩)] := by simp [ptrs, List.range_succ]
theorem ptrs_get {fb : Nat → Nat} {k i : Nat} (h : i < k) : (ptrs fb k)[i]? = some (.pointer (some ⟨fb i, 0, none⟩)) := by simp [ptrs, List.getElem?_map, List.getElem?_range h]
/-- What has no fault in it. -/
def NoFault (w : World) (bot : Value) : Prop := ∀ W, Below w.heap.size w W → Calls Tryd.prog 32 #[bot] W fun r w' => r = .returned (.tuple #[.pointer none, .bool false]) ∧ Below W.heap.size W w'
theorem NoFault.at {w : World} {bot : Value} (h : NoFault w bot) (W : World) (hW : Below w.heap.size w W) : Calls Tryd.prog 32 #[bot] W fun r w' => r = .returned (.tuple #[.pointer none, .bool false]) ∧ Below W.heap.size W w' := h W hW
theorem noFault_E (x : Int) {w : World} (hg : Laid w) : NoFault w (.iface 23 (.int .i64 x)) := fun W hW => first_no 23 (.int .i64 x) W fun V q hV _ _ _ => AsF_noE x q V (hg.below (below_next hW hV))
theorem noFault_S (x : Addr) {w : World} (hg : Laid w) : NoFault w (.iface 62 (.pointer (some x))) := fun W hW => first_no 62 (.pointer (some x)) W fun V q hV _ _ _ => AsF_noS x q V (hg.below (below_next hW hV))
theorem noFault_nil {w : World} : NoFault w .nilIface := fun W _ => first_no_nil W fun V q _ _ _ _ => (As_nil _ V).mono fun r w' h => ⟨h.1, by rw [h.2]; exact Below.refl _ _⟩
theorem first_at (b : Nat) {w : World} (hg : Laid w) (W : World) (hW : Below w.heap.size w W) : Calls Tryd.prog 32 #[.iface 44 (.pointer (some ⟨b, 0, none⟩))] W fun r w' => r = .returned (.tuple #[.pointer (some ⟨b, 0, none⟩), .bool true]) ∧ Below W.heap.size W w' :=
  first_yes 44 (.pointer (some ⟨b, 0, none⟩)) b W fun V q hV ht hf hq => AsF_set b q _ V (hg.below (below_next hW hV)) ht hf hq
/-- A row of pointers to faults. -/
def RetPtrs (w : World) (fb : Nat → Nat) (n : Nat) (r : Ending) (w' : World) : Prop := ∃ v, r = .returned v ∧ w'.ownsRow w.heap.size 44 1 v n (ptrs fb n) ∧ Below w.heap.size w w'
theorem below_grownBy {w w' : World} (h : Below w.heap.size w w') (row : Option Nat) : w.grownBy w' row := ⟨h.os, h.tape, h.output, h.size, fun k hk _ => h.block k hk⟩
theorem own_below {w w' : World} {B E s n : Nat} {v : Value} {xs : List Value} (h : w.ownsRow B E s v n xs) (hb : Below w.heap.size w w') : w'.ownsRow B E s v n xs :=
  h.kept (below_grownBy hb none) (by cases hv : v.ownBlock <;> simp)
set_option maxHeartbeats 1600000 in
theorem faults_any (n : Nat) (hn : n ≤ 63) (fb : Nat → Nat) (fs : Nat → ByteArray) (fp : Nat → Int) (bot : Value) (w : World) (hg : Laid w) (hc : Chain w n fb fs fp bot) (hb : NoFault w bot) : Calls Tryd.prog 23 #[lk n fb bot 0] w (RetPtrs w fb n) := by
  have HC := Lib.hid (fun W hW => (hc.below hW : Chain W n fb fs fp bot))
  have HZ := Lib.hid (fun i hi => (hc i hi).1)
  have HN := Lib.hid (fun W hW => hb.at W hW)
  have HG := Lib.hid hg
  clear hc hb hg
  go_enter Tryd.func23, Tryd.ntmps23
  go_wp2
  go_loopw [0, 3, 6] (fun err l i wr => ∃ k : Nat, k ≤ n ∧ i = .int .i64 k ∧ err = lk n fb bot k ∧ ∃ la lc, l = .slice la k lc ∧ wr.ownsRow w.heap.size 44 1 (.slice la k lc) k (ptrs fb k) ∧ Below w.heap.size w wr) (fun _ _ i _ => n + 1 - (intOf i).toNat)
  case atStart => exact ⟨0, Nat.zero_le _, rfl, rfl, none, 0, rfl, World.ownsRow_nil _ _ _ _, Below.refl _ _⟩
  case round =>
    obtain ⟨k, hk, rfl, rfl, la, lc, rfl, ho, hb⟩ := hrel
    have HOk := Lib.hid ho
    have HB := Lib.hid hb
    clear ho hb
    have i1 : (k : Int) < 64 := by omega
    by_cases hkn : k < n
    · rw [lk_in hkn]
      obtain ⟨h0, _, _, h2⟩ := HC.out _ HB.out k hkn
      have HF := Lib.hid (first_at (fb k) HG.out wr HB.out)
      go_wp2_with (first
        | (go_at_call 32; (with_reducible refine HF.out.mono ?_); rintro r w2 ⟨rfl, hb⟩; have HB2 := Lib.hid (HB.out.trans (hb.mono HB.out.size)); have HO := Lib.hid (own_below HOk.out hb); have h2 := ((bcell hb).1 _ _ h0).trans h2; have z2 := HB2.out.size; have h0 := Nat.lt_of_lt_of_le h0 hb.size; clear hb)
        | (at_builtin; go_loud (refine app_cells w.heap.size 44 53 rfl _ _ rfl Tryd.underlying53 (.pointer none) 1 8 (by kernel_rfl) rfl (by omega) (.slice la k lc) k (ptrs fb k) #[.pointer (some ⟨fb k, 0, none⟩)] rfl (by simp [Value.oneCell']) rfl HO.out _ (by first | rfl | (simp; done)) rfl (by omega) (by unfold maxLen; omega) (by first | omega | (simp; done) | (simp; omega)) ?_; intro gg cap' w4 hown hgrow hat hlt'; have HO4 := Lib.hid hown; have HB4 := Lib.hid (Below.grown HB2.out hgrow (by omega) (fun j hj => (HO.out.lt j hj).1)); have c2 := (hgrow.cell_far ⟨fb k, 2, none⟩ h0 (fun e => absurd (HO.out.lt _ e.symm).1 (by have := HZ.out k hkn; simp; omega))).trans h2; clear hown hgrow hat hlt')))
      go_roundw
      case rel => exact ⟨k + 1, by omega, by go_num, rfl, some ⟨gg, 0, none⟩, cap', rfl, by rw [ptrs_succ]; exact HO4.out, HB4.out⟩
      case measure => simp [intOf]; omega
    · obtain rfl : k = n := by omega
      rw [lk_end]
      have HF := Lib.hid (HN.out wr HB.out)
      go_wp2_with (go_at_call 32; (with_reducible refine HF.out.mono ?_); rintro r w2 ⟨rfl, hb⟩; have HB2 := Lib.hid (HB.out.trans (hb.mono HB.out.size)); have HO := Lib.hid (own_below HOk.out hb); clear hb)
      go_ret
      exact ⟨_, rfl, HO.out, HB2.out⟩
end Go.Proofs.YtiebgjmfpnlolaaDoor
