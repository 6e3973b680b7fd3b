/- The contracts of slices.IndexFunc with First's closure, over the seat's program. -/
import Derived.Test.YtihpjfhibhpciaaWtJ
namespace Go.Proofs.Ytihpjfhibhpciaa
open Go.ChangeShapes Go.WideShapes Go.ChangeAt Go.RowKit Go.Joins

/-- A cell that holds a number. -/
def NumAt (w : World) (p : Nat) (x : Int) : Prop := p < w.heap.size ∧ w.cell? ⟨p, 0, none⟩ = some (.int .i64 x)
theorem NumAt.below {w w' : World} {p : Nat} {x : Int} (h : NumAt w p x) (hb : Below w.heap.size w w') : NumAt w' p x := ⟨Nat.lt_of_lt_of_le h.1 hb.size, ((bcell hb).1 _ _ h.1).trans h.2⟩
/-- A case with a direction and a handle. -/
def Hit (f : Nat → Nat → Int) (d hd : Int) (i : Nat) : Prop := f i 0 = d ∧ f i 1 = hd
def IsIdx (f : Nat → Nat → Int) (m : Nat) (d hd r : Int) : Prop := (r = -1 ∧ ∀ i, i < m → ¬ Hit f d hd i) ∨ ∃ i : Nat, i < m ∧ r = (i : Int) ∧ Hit f d hd i ∧ ∀ j, j < i → ¬ Hit f d hd j
set_option maxHeartbeats 3200000 in
theorem pred_any (a b c d hd : Int) (p q : Nat) (w : World) (hp : NumAt w p d) (hq : NumAt w q hd) : Calls Try.prog 58 #[.agg #[.int .i64 a, .int .i64 b, .int .i64 c], .pointer (some ⟨p, 0, none⟩), .pointer (some ⟨q, 0, none⟩)] w fun e w' => (∃ y, e = .returned (.bool y) ∧ (y = true ↔ a = d ∧ b = hd)) ∧ Below w.heap.size w w' := by
  have HA := Lib.hid ((Below.refl w.heap.size w).alloc (Nat.le_refl _) (.cells #[.int .i64 a, .int .i64 b, .int .i64 c] 41))
  have hp1 := hp.1
  have hq1 := hq.1
  have np : p ≠ w.heap.size := by omega
  have nq : q ≠ w.heap.size := by omega
  have c0 := hp.2
  have c1 := hq.2
  clear hp hq
  by_cases e0 : a = d
  · have b0 : (a == d) = true := by simpa using e0
    by_cases e1 : b = hd
    · have b1 : (b == hd) = true := by simpa using e1
      have HR := Lib.hid (And.intro e0 e1)
      clear e0 e1
      go_enter Try.func58, Try.ntmps58
      go_wp2
      go_ret
      exact ⟨⟨true, rfl, fun _ => HR.out, fun _ => rfl⟩, HA.out⟩
    · have b1 : (b == hd) = false := by simpa using e1
      have HR := Lib.hid e1
      clear e0 e1
      go_enter Try.func58, Try.ntmps58
      go_wp2
      go_ret
      exact ⟨⟨false, rfl, (fun h => absurd h (by decide)), fun h => absurd h.2 HR.out⟩, HA.out⟩
  · have b0 : (a == d) = false := by simpa using e0
    have HR := Lib.hid e0
    clear e0
    go_enter Try.func58, Try.ntmps58
    go_wp2
    go_ret
    exact ⟨⟨false, rfl, (fun h => absurd h (by decide)), fun h => absurd h.1 HR.out⟩, HA.out⟩

set_option maxRecDepth 100000 in
set_option maxHeartbeats 3200000 in
theorem index_any (a : Option Addr) (m cap : Nat) (f : Nat → Nat → Int) (d hd : Int) (p q : Nat) (w : World) (h : RowS 3 w a m cap f) (hp : NumAt w p d) (hq : NumAt w q hd) :
    Calls Try.prog 59 #[.slice a m cap, .func (.func 58) #[] #[.pointer (some ⟨p, 0, none⟩), .pointer (some ⟨q, 0, none⟩)]] w fun e w' => (∃ r, e = .returned (.int .i64 r) ∧ IsIdx f m d hd r) ∧ Below w.heap.size w w' := by
  have hm := h.1
  have HC := Lib.hid h
  have HP := Lib.hid hp
  have HQ := Lib.hid hq
  clear h hp hq
  go_enter Try.func59, Try.ntmps59
  go_wp2
  go_loopw [8] (fun i wr => ∃ k : Nat, k ≤ m ∧ i = .int .i64 k ∧ Below w.heap.size w wr ∧ ∀ j, j < k → ¬ Hit f d hd j) (fun i _ => m - (intOf i).toNat)
  case atStart => exact ⟨0, Nat.zero_le _, rfl, Below.refl _ _, fun j hj => absurd hj (by omega)⟩
  case round =>
    obtain ⟨k, hk, rfl, hb, hno⟩ := hrel
    have HB := Lib.hid hb
    have HR := Lib.hid (HC.out.below hb)
    have HP' := Lib.hid (HP.out.below hb)
    have HQ' := Lib.hid (HQ.out.below hb)
    have HN := Lib.hid hno
    clear hb hno
    by_cases hlt : k < m
    · obtain ⟨b, off, rfl, zb, hc⟩ := HR.out.get hlt
      have x0 : wr.cell? ⟨b, off + k * 3, none⟩ = some (.int .i64 (f k 0)) := hc k 0 hlt (by omega)
      have x1 : wr.cell? ⟨b, off + k * 3 + 1, none⟩ = some (.int .i64 (f k 1)) := hc k 1 hlt (by omega)
      have x2 : wr.cell? ⟨b, off + k * 3 + 2, none⟩ = some (.int .i64 (f k 2)) := hc k 2 hlt (by omega)
      have i0 : (0 : Int) ≤ (k : Int) := by omega
      have i1 : (k : Int) < (m : Int) := by omega
      have HY := Lib.hid (pred_any (f k 0) (f k 1) (f k 2) d hd p q wr HP'.out HQ'.out)
      clear hc
      by_cases e : Hit f d hd k
      · go_wp2_with (go_at_call 58; go_loud ((with_reducible refine HY.out.mono ?_); rintro e w1 ⟨⟨y, rfl, hy⟩, hb1⟩; obtain rfl : y = true := hy.2 e; clear hy; have HB1 := Lib.hid (HB.out.trans (hb1.mono HB.out.size)); clear hb1 x0 x1 x2))
        go_ret
        exact ⟨⟨k, rfl, .inr ⟨k, hlt, rfl, e, HN.out⟩⟩, HB1.out⟩
      · go_wp2_with (go_at_call 58; go_loud ((with_reducible refine HY.out.mono ?_); rintro e' w1 ⟨⟨y, rfl, hy⟩, hb1⟩; obtain rfl : y = false := (by cases y with | false => rfl | true => exact absurd (hy.1 rfl) e); clear hy; have HB1 := Lib.hid (HB.out.trans (hb1.mono HB.out.size)); clear hb1 x0 x1 x2))
        go_roundw
        case rel =>
          refine ⟨k + 1, by omega, by go_num, HB1.out, fun j hj => ?_⟩
          rcases Nat.lt_or_ge j k with h | h
          · exact HN.out j h
          · obtain rfl : j = k := by omega
            exact e
        case measure => simp [intOf]; omega
    · obtain rfl : k = m := by omega
      go_wp2
      go_ret
      exact ⟨⟨-1, rfl, .inl ⟨rfl, HN.out⟩⟩, HB.out⟩
end Go.Proofs.Ytihpjfhibhpciaa
