/- A fault's text. -/
import Derived.Test.YtiebgjmfpnlolaaDoorFtQ
import Derived.Stop.IfaceNil
import Derived.Test.YtiebgjmfpnlolaaDoorFtO
import Derived.Deep.LoopGhost
import Derived.Test.YtiebgjmfpnlolaaDoorShelf
namespace Go.Proofs.YtiebgjmfpnlolaaDoor
open Go.RowKit Go.Extern.Stop Go.Stop Go.Extern
set_option maxRecDepth 100000

/-- The heads of the first 'k' faults, ': ' behind each. -/
def tot (fs tx : Nat → ByteArray) : Nat → List UInt8
  | 0 => []
  | k + 1 => tot fs tx k ++ (hd fs tx k ++ ⟨#[58, 32]⟩).data.toList
theorem tot_le {fs tx : Nat → ByteArray} {k n : Nat} (h : k ≤ n) : (tot fs tx k).length ≤ (tot fs tx n).length := by
  induction n with
  | zero => obtain rfl : k = 0 := by omega
            exact Nat.le_refl _
  | succ n ih =>
    rcases Nat.lt_or_ge k (n + 1) with hl | hl
    · refine Nat.le_trans (ih (by omega)) ?_
      simp [tot]
    · obtain rfl : k = n + 1 := by omega
      exact Nat.le_refl _
theorem hd_size (fs tx : Nat → ByteArray) (k : Nat) : (hd fs tx k).size = (fs k).size + 1 + (tx k).size := by
  unfold hd
  rw [ByteArray.size_append, ByteArray.size_append]
  rfl
theorem builder_app {B b : Nat} {l : List UInt8} {s : ByteArray} {w : World} (h : Lib.BuilderAt 68 5 B b (.pointer (some ⟨b, 0, none⟩)) (Lib.byteCells l ++ Lib.strCells s) w) : Lib.IsBuilder 68 5 B b (Lib.byteCells (l ++ s.data.toList)) w := by
  refine .inr ?_
  rw [Lib.strCells_eq] at h
  rw [show Lib.byteCells (l ++ s.data.toList) = Lib.byteCells l ++ Lib.byteCells s.data.toList by simp [Lib.byteCells]]
  exact h
theorem write_any (B b : Nat) (l : List UInt8) (s : ByteArray) (w : World) (h : Lib.IsBuilder 68 5 B b (Lib.byteCells l) w) (hl : l.length + s.size ≤ 140737488355328) (hB : B ≤ w.heap.size) :
    Calls Tryd.prog 31 #[.pointer (some ⟨b, 0, none⟩), .string s] w fun r w' => r = .returned (.tuple #[.int .i64 s.size, .nilIface]) ∧ Lib.IsBuilder 68 5 B b (Lib.byteCells (l ++ s.data.toList)) w' ∧ Below B w w' :=
  (Tryd.Builder_WriteString B b (Lib.byteCells l) s w h (by rw [Lib.byteCells_length]; exact hl) hB).mono fun r w' hh => ⟨hh.1, builder_app hh.2.1, hh.2.2⟩
set_option maxHeartbeats 3200000 in
theorem Error_any (n : Nat) (h0 : 0 < n) (fb : Nat → Nat) (fs : Nat → ByteArray) (fp : Nat → Int) (bt : TypeId) (bv : Value) (hne : 44 ≠ bt) (tx : Nat → ByteArray) (bs : ByteArray) (w : World) (hg : Laid w) (hc : Chain w n fb fs fp (.iface bt bv)) (hb : NoFault w (.iface bt bv))
    (ht : ∀ i, i < n → HasText w (fp i) (tx i)) (hs : ∀ i, i < n → (fs i).size + (tx i).size + 3 ≤ 281474976710656) (hl : (tot fs tx n).length + bs.size ≤ 140737488355328)
    (hx : ∀ W, Below w.heap.size w W → Calls Tryd.prog 33 #[.iface bt bv] W fun r w' => r = .returned (.string bs) ∧ Below W.heap.size W w') :
    Calls Tryd.prog 19 #[.pointer (some ⟨fb 0, 0, none⟩)] w fun r w' => r = .returned (.string ⟨(tot fs tx n ++ bs.data.toList).toArray⟩) ∧ Below w.heap.size w w' := by
  have HC := Lib.hid (fun W hW => (hc.below hW : Chain W n fb fs fp (.iface bt bv)))
  have HN := Lib.hid (fun W hW => hb.at W hW)
  have HX := Lib.hid hx
  have HG := Lib.hid hg
  have HT := Lib.hid ht
  have HS := Lib.hid hs
  have HL := Lib.hid hl
  have HNE := Lib.hid (fun v w => neq_types 44 bt v bv hne w)
  clear hc hb hg ht hs hl hx hne
  go_enter Tryd.func19, Tryd.ntmps19
  go_wp2
  go_loopg [0] (n + 1) (fun gk f wr => ∃ k, k < n ∧ gk = n + 1 - k ∧ f = .pointer (some ⟨fb k, 0, none⟩) ∧ Lib.IsBuilder 68 5 w.heap.size w.heap.size (Lib.byteCells (tot fs tx k)) wr ∧ Below w.heap.size w wr ∧ w.heap.size < wr.heap.size)
  case atStart => exact ⟨0, h0, rfl, rfl, Lib.fresh_isBuilder 68 5 w, (Below.refl _ _).alloc (Nat.le_refl _) _, by simp⟩
  case round =>
    obtain ⟨k, hk, rfl, rfl, hbd, hb, hz⟩ := hrel
    have HBD := Lib.hid hbd
    have HB := Lib.hid hb
    clear hbd hb
    obtain ⟨z0, c0, c1, c2⟩ := HC.out _ HB.out k hk
    have z0w := (HC.out _ (Below.refl _ _) k hk).1
    have HH := Lib.hid (show Calls Tryd.prog 24 #[.pointer (some ⟨fb k, 0, none⟩)] wr fun r w' => r = .returned (.string (hd fs tx k)) ∧ Below wr.heap.size wr w' from head_any (fb k) (fs k) (tx k) (fp k) wr c0 c1 ((HT.out k hk).below HB.out) z0 (by have := HS.out k hk; omega))
    have hsz := hd_size fs tx k
    have a1 : ∀ W, (Op.stringOp .add (hd fs tx k) ⟨#[58, 32]⟩).run Tryd.prog W = .ok (.string (hd fs tx k ++ ⟨#[58, 32]⟩)) W := fun W => run_string_add_sum W (hd fs tx k) ⟨#[58, 32]⟩ (by have := HS.out k hk; rw [hsz]; show _ + 2 ≤ _; omega)
    have hlen : (tot fs tx k).length + (hd fs tx k ++ ⟨#[58, 32]⟩).size ≤ 140737488355328 := by
      have h1 : (tot fs tx (k + 1)).length ≤ (tot fs tx n).length := tot_le (by omega)
      have h2 : (tot fs tx (k + 1)).length = (tot fs tx k).length + (hd fs tx k ++ ⟨#[58, 32]⟩).size := by
        rw [show tot fs tx (k + 1) = tot fs tx k ++ (hd fs tx k ++ ⟨#[58, 32]⟩).data.toList from rfl, List.length_append, Array.length_toList]
        rfl
      have := HL.out
      omega
    clear hsz c0 c1
    have n1 : (binOp .neq 25 (lk n fb (.iface bt bv) (k + 1)) .nilIface).run Tryd.prog wr = .ok (.bool true) wr := by
      unfold lk
      split <;> exact run_neq_iface_nil wr 25 (by kernel_rfl) _ _
    by_cases hk1 : k + 1 < n
    · rw [lk_in hk1] at c2 n1
      go_wp2_with (first
        | (go_at_call 24; (with_reducible refine HH.out.mono ?_); rintro r w2 ⟨rfl, hb⟩; have HBD2 := Lib.hid (builder_below HBD.out hb); have HB2 := Lib.hid (HB.out.trans (hb.mono HB.out.size)); have hz2 := Nat.lt_of_lt_of_le hz hb.size; have c2 := ((bcell hb).1 _ _ z0).trans c2; clear hb)
        | (go_at_call 31; (with_reducible refine (write_any w.heap.size w.heap.size (tot fs tx k) _ _ HBD2.out hlen (by omega)).mono ?_); rintro r w3 ⟨rfl, hbd, hb⟩; have HBD3 := Lib.hid hbd; have HB3 := Lib.hid (HB2.out.trans hb); have hz3 := Nat.lt_of_lt_of_le hz2 hb.size; have c2 := (hb.cell (p := ⟨fb k, 2, none⟩) z0w).trans c2; clear hbd hb)
        | (go_at_call 32; (with_reducible refine (first_at (fb (k + 1)) HG.out _ HB3.out).mono ?_); rintro r w4 ⟨rfl, hb⟩; have HBD4 := Lib.hid (builder_below HBD3.out hb); have HB4 := Lib.hid (HB3.out.trans (hb.mono HB3.out.size)); have hz4 := Nat.lt_of_lt_of_le hz3 hb.size; have c2 := ((bcell hb).1 _ _ (Nat.lt_of_lt_of_le z0w HB3.out.size)).trans c2; have n2 := neq_F ⟨fb (k + 1), 0, none⟩ w4; clear hb))
      go_roundg (n - k)
      case measure => omega
      case rel => exact ⟨k + 1, hk1, by omega, rfl, HBD4.out, HB4.out, hz4⟩
    · obtain rfl : n = k + 1 := by omega
      rw [lk_end] at c2 n1
      go_wp2_with (first
        | (go_at_call 24; (with_reducible refine HH.out.mono ?_); rintro r w2 ⟨rfl, hb⟩; have HBD2 := Lib.hid (builder_below HBD.out hb); have HB2 := Lib.hid (HB.out.trans (hb.mono HB.out.size)); have hz2 := Nat.lt_of_lt_of_le hz hb.size; have c2 := ((bcell hb).1 _ _ z0).trans c2; clear hb)
        | (go_at_call 31; (with_reducible refine (write_any w.heap.size w.heap.size (tot fs tx k) _ _ HBD2.out hlen (by omega)).mono ?_); rintro r w3 ⟨rfl, hbd, hb⟩; have HBD3 := Lib.hid hbd; have HB3 := Lib.hid (HB2.out.trans hb); have hz3 := Nat.lt_of_lt_of_le hz2 hb.size; have c2 := (hb.cell (p := ⟨fb k, 2, none⟩) z0w).trans c2; clear hbd hb)
        | (go_at_call 32; (with_reducible refine (HN.out _ HB3.out).mono ?_); rintro r w4 ⟨rfl, hb⟩; have HBD4 := Lib.hid (builder_below HBD3.out hb); have HB4 := Lib.hid (HB3.out.trans (hb.mono HB3.out.size)); have hz4 := Nat.lt_of_lt_of_le hz3 hb.size; have c2 := ((bcell hb).1 _ _ (Nat.lt_of_lt_of_le z0w HB3.out.size)).trans c2; have n2 := HNE.out (.pointer none) w4; clear hb)
        | (go_at_call 33; (with_reducible refine (HX.out _ HB4.out).mono ?_); rintro r w5 ⟨rfl, hb⟩; have HBD5 := Lib.hid (show Lib.IsBuilder 68 5 w.heap.size w.heap.size (Lib.byteCells (tot fs tx (k + 1))) w5 from builder_below HBD4.out hb); have HB5 := Lib.hid (HB4.out.trans (hb.mono HB4.out.size)); have hz5 := Nat.lt_of_lt_of_le hz4 hb.size; clear hb)
        | (go_at_call 31; (with_reducible refine (write_any w.heap.size w.heap.size (tot fs tx (k + 1)) bs _ HBD5.out HL.out (by omega)).mono ?_); rintro r w6 ⟨rfl, hbd, hb⟩; have HBD6 := Lib.hid hbd; have HB6 := Lib.hid (HB5.out.trans hb); clear hbd hb)
        | (go_at_call 34; (with_reducible refine (Tryd.Builder_String_any w.heap.size w.heap.size (tot fs tx (k + 1) ++ bs.data.toList) _ HBD6.out (by have := HB6.out.size; omega)).mono ?_); rintro r w7 ⟨rfl, hb⟩; have HB7 := Lib.hid (HB6.out.trans hb); clear hb))
      go_ret
      exact ⟨rfl, HB7.out⟩
end Go.Proofs.YtiebgjmfpnlolaaDoor
