/- Path. -/
import Derived.Test.YtiebgjmfpnlolaaDoorFtM
import Derived.Test.YtiebgjmfpnlolaaDoorFtO
import Derived.Deep.LoopGhost
import Derived.Test.YtiebgjmfpnlolaaDoorShelf
namespace Go.Proofs.YtiebgjmfpnlolaaDoor
open Go.RowKit Go.Extern.Stop Go.Stop Go.Extern
set_option maxRecDepth 100000

/-- So many texts, one text between. -/
def joinS (x : Nat → ByteArray) (n : Nat) (sep : ByteArray) : List UInt8 := Lib.join ((List.range n).map fun i => (x i).data.toList) sep.data.toList
theorem Join_any (a : Option Addr) (n c : Nat) (x : Nat → ByteArray) (sep : ByteArray) (w : World) (h : RowV w a n fun i => .string (x i)) (hn : n ≤ 63) (hc : n ≤ c) (hl : (joinS x n sep).length ≤ 140737488355328) :
    Calls Tryd.prog 25 #[.slice a n c, .string sep] w fun r w' => r = .returned (.string ⟨(joinS x n sep).toArray⟩) ∧ Below w.heap.size w w' := by
  rcases Nat.eq_zero_or_pos n with h0 | h0
  · subst h0
    exact (Tryd.strings_Join_none a c sep w).mono fun r w' hh => ⟨hh.1, by rw [hh.2]; exact Below.refl _ _⟩
  · obtain ⟨g, rfl, hg, hi⟩ := h h0
    have hx : ((List.range n).map x).length = n := by simp
    have hm : ((List.range n).map x).map (·.data.toList) = (List.range n).map fun i => (x i).data.toList := by rw [List.map_map]; rfl
    have := Tryd.strings_Join g 0 c ((List.range n).map x) sep w (fun j y hj => by
      have hjn : j < n := by
        have := (List.getElem?_eq_some_iff.1 hj).1
        simpa using this
      rw [Nat.zero_add, hi j hjn]
      rw [List.getElem?_map, List.getElem?_range hjn] at hj
      simp at hj
      show some (Value.string (x j)) = some (Value.string y)
      rw [hj]) hg (by rw [hx]; omega) (by rw [hx]; exact hc) (by rw [hm]; exact hl)
    rw [hx, hm] at this
    exact this
/-- A fault's name and place, as text. -/
def hd (fs tx : Nat → ByteArray) (i : Nat) : ByteArray := fs i ++ ⟨#[32]⟩ ++ tx i
set_option maxHeartbeats 1600000 in
theorem Path_any (n : Nat) (hn : n ≤ 63) (fb : Nat → Nat) (fs : Nat → ByteArray) (fp : Nat → Int) (bot : Value) (tx : Nat → ByteArray) (w : World) (hg : Laid w) (hc : Chain w n fb fs fp bot) (hb : NoFault w bot)
    (ht : ∀ i, i < n → HasText w (fp i) (tx i)) (hs : ∀ i, i < n → (fs i).size + (tx i).size + 1 ≤ 281474976710656) (hl : (joinS (hd fs tx) n ⟨#[47]⟩).length ≤ 140737488355328) :
    Calls Tryd.prog 10 #[lk n fb bot 0] w fun r w' => r = .returned (.string ⟨(joinS (hd fs tx) n ⟨#[47]⟩).toArray⟩) ∧ Below w.heap.size w w' := by
  have HQ := Lib.hid (show Calls Tryd.prog 23 #[lk n fb bot 0] w fun r w' => ∃ v, r = .returned v ∧ w'.ownsRow w.heap.size 44 1 v n (ptrs fb n) ∧ Below w.heap.size w w' from faults_any n hn fb fs fp bot w hg hc hb)
  have HC := Lib.hid (fun W hW => (hc.below hW : Chain W n fb fs fp bot))
  have HT := Lib.hid ht
  have HS := Lib.hid hs
  have HL := Lib.hid hl
  clear hc hb hg ht hs hl
  go_enter Tryd.func10, Tryd.ntmps10
  go_wp2_with (go_at_call 23; (with_reducible refine HQ.out.mono ?_); rintro r w1 ⟨v, rfl, ho, hb⟩; obtain ⟨a1, k1, rfl, hk1, hr⟩ := own_ptrs ho; have HB1 := Lib.hid hb; have HR1 := Lib.hid hr; clear ho hb hr)
  have hz1 := HB1.out.size
  go_loopw [3, 9] (fun l i wr => ∃ k : Nat, k ≤ n ∧ i = .int .i64 k ∧ ∃ la lc, l = .slice la k lc ∧ wr.ownsRow w1.heap.size 9 1 (.slice la k lc) k (vals (fun i => .string (hd fs tx i)) k) ∧ Below w1.heap.size w1 wr) (fun _ i _ => n - (intOf i).toNat)
  case atStart => exact ⟨0, Nat.zero_le _, rfl, none, 0, rfl, World.ownsRow_nil _ _ _ _, Below.refl _ _⟩
  case round =>
    obtain ⟨k, hk, rfl, la, lc, rfl, ho, hb⟩ := hrel
    have HOk := Lib.hid ho
    have HB := Lib.hid hb
    clear ho hb
    by_cases hkn : k < n
    · obtain ⟨g, rfl, hg, hi⟩ := (HR1.out.below HB.out) (by omega)
      have x0 := hi k hkn
      have HBW := Lib.hid (below_next HB1.out HB.out)
      obtain ⟨z0, c0, c1, _⟩ := HC.out _ HBW.out k hkn
      have HH := Lib.hid (show Calls Tryd.prog 24 #[.pointer (some ⟨fb k, 0, none⟩)] wr fun r w' => r = .returned (.string (hd fs tx k)) ∧ Below wr.heap.size wr w' from head_any (fb k) (fs k) (tx k) (fp k) wr c0 c1 ((HT.out k hkn).below HBW.out) z0 (HS.out k hkn))
      have i0 : (0 : Int) ≤ (k : Int) := by omega
      have i1 : (k : Int) < (n : Int) := by omega
      clear hi c0 c1
      obtain ⟨hk', hkE⟩ : ∃ y, y = hd fs tx k := ⟨_, rfl⟩
      rw [← hkE] at HH
      have HE := Lib.hid hkE
      clear hkE
      go_wp2_with (first
        | (go_at_call 24; (with_reducible refine HH.out.mono ?_); rintro r w2 ⟨rfl, hb⟩; have HB2 := Lib.hid (below_next HB.out hb); have HO := Lib.hid (own_below HOk.out hb); have hz2 := hb.size; clear hb)
        | (at_builtin; go_loud (refine app_cells w1.heap.size 9 52 rfl _ _ rfl Tryd.underlying52 (.string ⟨#[]⟩) 1 16 (by kernel_rfl) rfl (by omega) (.slice la k lc) k (vals (fun i => .string (hd fs tx i)) k) #[.string hk'] rfl (by simp [Value.oneCell']) rfl HO.out _ (by first | rfl | (simp; done)) rfl (by omega) (by unfold maxLen; omega) (by have := HB.out.size; omega) ?_; intro gg cap' w4 hown hgrow hat hlt'; have HO4 := Lib.hid hown; have HB4 := Lib.hid (Below.grown HB2.out hgrow (by have := HB.out.size; omega) (fun j hj => (HO.out.lt j hj).1)); clear hown hgrow hat hlt')))
      go_roundw
      case rel => exact ⟨k + 1, by omega, by go_num, some ⟨gg, 0, none⟩, cap', rfl, by rw [vals_succ, ← HE.out]; exact HO4.out, HB4.out⟩
      case measure => simp [intOf]; omega
    · obtain rfl : k = n := by omega
      obtain ⟨a5, k5, hv5, hk5, HV⟩ := own_vals HOk.out
      simp only [Value.slice.injEq] at hv5
      obtain ⟨rfl, _, rfl⟩ := hv5
      have HJ := Lib.hid (Join_any la k lc (hd fs tx) ⟨#[47]⟩ wr HV hn hk5 HL.out)
      clear HV
      go_wp2_with (go_at_call 25; (with_reducible refine HJ.out.mono ?_); rintro r w2 ⟨rfl, hb⟩; have HB2 := Lib.hid (below_next (below_next HB1.out HB.out) hb); clear hb)
      go_ret
      exact ⟨rfl, HB2.out⟩
end Go.Proofs.YtiebgjmfpnlolaaDoor
