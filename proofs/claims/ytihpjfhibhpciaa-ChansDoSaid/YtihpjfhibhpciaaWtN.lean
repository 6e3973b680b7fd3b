/- The contracts of slices.IndexFunc and ContainsFunc with On's closure, over the seat's program. -/
import Derived.Test.YtihpjfhibhpciaaWtM
namespace Go.Proofs.Ytihpjfhibhpciaa
open Go.ChangeShapes Go.WideShapes Go.ChangeAt Go.RowKit Go.Joins

def HitH (f : Nat → Nat → Int) (hd : Int) (i : Nat) : Prop := f i 1 = hd
def IsIdxH (f : Nat → Nat → Int) (m : Nat) (hd r : Int) : Prop := (r = -1 ∧ ∀ i, i < m → ¬ HitH f hd i) ∨ ∃ i : Nat, i < m ∧ r = (i : Int) ∧ HitH f hd i ∧ ∀ j, j < i → ¬ HitH f hd j
set_option maxHeartbeats 3200000 in
theorem hpred_any (a b c hd : Int) (q : Nat) (w : World) (hq : NumAt w q hd) : Calls Try.prog 63 #[.agg #[.int .i64 a, .int .i64 b, .int .i64 c], .pointer (some ⟨q, 0, none⟩)] w fun e w' => (∃ y, e = .returned (.bool y) ∧ (y = true ↔ b = hd)) ∧ Below w.heap.size w w' := by
  have HA := Lib.hid ((Below.refl w.heap.size w).alloc (Nat.le_refl _) (.cells #[.int .i64 a, .int .i64 b, .int .i64 c] 41))
  have hq1 := hq.1
  have nq : q ≠ w.heap.size := by omega
  have c1 := hq.2
  clear hq
  by_cases e1 : b = hd
  · have b1 : (b == hd) = true := by simpa using e1
    have HR := Lib.hid e1
    clear e1
    go_enter Try.func63, Try.ntmps63
    go_wp2
    go_ret
    exact ⟨⟨true, by simp, fun _ => HR.out, fun _ => rfl⟩, HA.out⟩
  · have b1 : (b == hd) = false := by simpa using e1
    have HR := Lib.hid e1
    clear e1
    go_enter Try.func63, Try.ntmps63
    go_wp2
    go_ret
    exact ⟨⟨false, by simp, (fun h => absurd h (by decide)), fun h => absurd h HR.out⟩, HA.out⟩

set_option maxRecDepth 100000 in
set_option maxHeartbeats 3200000 in
theorem hindex_any (a : Option Addr) (m cap : Nat) (f : Nat → Nat → Int) (hd : Int) (q : Nat) (w : World) (h : RowS 3 w a m cap f) (hq : NumAt w q hd) :
    Calls Try.prog 59 #[.slice a m cap, .func (.func 63) #[] #[.pointer (some ⟨q, 0, none⟩)]] w fun e w' => (∃ r, e = .returned (.int .i64 r) ∧ IsIdxH f m hd r) ∧ Below w.heap.size w w' := by
  have hm := h.1
  have HC := Lib.hid h
  have HQ := Lib.hid hq
  clear h hq
  go_enter Try.func59, Try.ntmps59
  go_wp2
  go_loopw [8] (fun i wr => ∃ k : Nat, k ≤ m ∧ i = .int .i64 k ∧ Below w.heap.size w wr ∧ ∀ j, j < k → ¬ HitH f hd j) (fun i _ => m - (intOf i).toNat)
  case atStart => exact ⟨0, Nat.zero_le _, rfl, Below.refl _ _, fun j hj => absurd hj (by omega)⟩
  case round =>
    obtain ⟨k, hk, rfl, hb, hno⟩ := hrel
    have HB := Lib.hid hb
    have HR := Lib.hid (HC.out.below hb)
    have HQ' := Lib.hid (HQ.out.below hb)
    have HN := Lib.hid hno
    clear hb hno
    by_cases hlt : k < m
    · obtain ⟨b, off, rfl, zb, hc⟩ := HR.out.get hlt
      have x0 : wr.cell? ⟨b, off + k * 3, none⟩ = some (.int .i64 (f k 0)) := hc k 0 hlt (by omega)
      have x1 : wr.cell? ⟨b, off + k * 3 + 1, none⟩ = some (.int .i64 (f k 1)) := hc k 1 hlt (by omega)
      have x2 : wr.cell? ⟨b, off + k * 3 + 2, none⟩ = some (.int .i64 (f k 2)) := hc k 2 hlt (by omega)
      have i0 : (0 : Int) ≤ (k : Int) := by omega
      have i1 : (k : Int) < (m : Int) := by omega
      have HY := Lib.hid (hpred_any (f k 0) (f k 1) (f k 2) hd q wr HQ'.out)
      clear hc
      by_cases e : HitH f hd k
      · go_wp2_with (go_at_call 63; go_loud ((with_reducible refine HY.out.mono ?_); rintro e w1 ⟨⟨y, rfl, hy⟩, hb1⟩; obtain rfl : y = true := hy.2 e; clear hy; have HB1 := Lib.hid (HB.out.trans (hb1.mono HB.out.size)); clear hb1 x0 x1 x2))
        go_ret
        exact ⟨⟨k, rfl, .inr ⟨k, hlt, rfl, e, HN.out⟩⟩, HB1.out⟩
      · go_wp2_with (go_at_call 63; go_loud ((with_reducible refine HY.out.mono ?_); rintro e' w1 ⟨⟨y, rfl, hy⟩, hb1⟩; obtain rfl : y = false := (by cases y with | false => rfl | true => exact absurd (hy.1 rfl) e); clear hy; have HB1 := Lib.hid (HB.out.trans (hb1.mono HB.out.size)); clear hb1 x0 x1 x2))
        go_roundw
        case rel =>
          refine ⟨k + 1, by omega, by go_num, HB1.out, fun j hj => ?_⟩
          rcases Nat.lt_or_ge j k with h | h
          · exact HN.out j h
          · obtain rfl : j = k := by omega
            exact e
        case measure => simp [intOf]; omega
    · obtain rfl : k = m := by omega
      go_wp2
      go_ret
      exact ⟨⟨-1, rfl, .inl ⟨rfl, HN.out⟩⟩, HB.out⟩

/-- Whether some case is by a handle. -/
def HasH (f : Nat → Nat → Int) (m : Nat) (hd : Int) : Prop := ∃ i, i < m ∧ HitH f hd i
theorem IsIdxH.some {f : Nat → Nat → Int} {m : Nat} {hd r : Int} (h : IsIdxH f m hd r) (hf : HasH f m hd) : ∃ j : Nat, r = (j : Int) := by
  rcases h with ⟨_, h⟩ | ⟨j, _, h, _⟩
  · obtain ⟨j, hj, hh⟩ := hf
    exact absurd hh (h j hj)
  · exact ⟨j, h⟩
theorem IsIdxH.none {f : Nat → Nat → Int} {m : Nat} {hd r : Int} (h : IsIdxH f m hd r) (hf : ¬ HasH f m hd) : r = -1 := by
  rcases h with ⟨h, _⟩ | ⟨j, hj, _, hh, _⟩
  · exact h
  · exact absurd ⟨j, hj, hh⟩ hf
set_option maxRecDepth 100000 in
set_option maxHeartbeats 3200000 in
theorem contains_any (a : Option Addr) (m cap : Nat) (f : Nat → Nat → Int) (hd : Int) (q : Nat) (w : World) (h : RowS 3 w a m cap f) (hq : NumAt w q hd) :
    Calls Try.prog 62 #[.slice a m cap, .func (.func 63) #[] #[.pointer (some ⟨q, 0, none⟩)]] w fun e w' => (∃ y, e = .returned (.bool y) ∧ (y = true ↔ HasH f m hd)) ∧ Below w.heap.size w w' := by
  have HI := Lib.hid (hindex_any a m cap f hd q w h hq)
  clear h hq
  by_cases e0 : HasH f m hd
  · go_enter Try.func62, Try.ntmps62
    go_wp2_with (go_at_call 59; go_loud ((with_reducible refine HI.out.mono ?_); rintro e w1 ⟨⟨r, rfl, hr⟩, hb1⟩; obtain ⟨j, rfl⟩ := hr.some e0; have j2 := Int.natCast_nonneg j; have HB1 := Lib.hid hb1; clear hb1 hr))
    go_ret
    exact ⟨⟨true, by simp, fun _ => e0, fun _ => rfl⟩, HB1.out⟩
  · go_enter Try.func62, Try.ntmps62
    go_wp2_with (go_at_call 59; go_loud ((with_reducible refine HI.out.mono ?_); rintro e w1 ⟨⟨r, rfl, hr⟩, hb1⟩; obtain rfl := hr.none e0; have HB1 := Lib.hid hb1; clear hb1 hr))
    go_ret
    exact ⟨⟨false, by simp, (fun h => absurd h (by decide)), fun h => absurd h e0⟩, HB1.out⟩
end Go.Proofs.Ytihpjfhibhpciaa
