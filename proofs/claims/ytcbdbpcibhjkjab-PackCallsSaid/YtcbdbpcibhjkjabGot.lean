/- The contracts of ReadCall, for any words, and of Req, for two calls that are one, over the seat's program. -/
import Derived.Test.YtcbdbpcibhjkjabRead
namespace Go.Proofs.Ytcbdbpcibhjkjab
open Go.ChangeShapes Go.WideShapes Go.ChangeAt Go.RowKit Go.Joins

def casesOf (l0 l1 l2 l3 : Int) : List C3 := (List.range (ncase l0)).map fun i => caseOf ([l1, l2, l3].getD i 0)
def readG (xs : List Int) : Got :=
  match xs with
  | [l0, l1, l2, l3, l4] =>
    if callL (l0 % 256) (l0 / 65536 % 65536) (l0 / 4294967296) (l0 / 4096 % 2 == 1) (casesOf l0 l1 l2 l3) (wrap64 l4) = [l0, l1, l2, l3, l4] then
      ⟨l0 % 256, l0 / 65536 % 65536, l0 / 4294967296, l0 / 4096 % 2 == 1, casesOf l0 l1 l2 l3, wrap64 l4, true⟩ else Got.none
  | _ => Got.none

theorem readG_short {xs : List Int} (h : xs.length ≠ 5) : readG xs = Got.none := by
  match xs, h with
  | [], _ => rfl
  | [_], _ => rfl
  | [_, _], _ => rfl
  | [_, _, _], _ => rfl
  | [_, _, _, _], _ => rfl
  | [_, _, _, _, _], h => exact absurd rfl h
  | _ :: _ :: _ :: _ :: _ :: _ :: _, _ => rfl

theorem readCall_any {v : Value} {xs : List Int} (w : World) (h : WordsAt w v xs) (hx : ∀ x ∈ xs, 0 ≤ x ∧ x < 18446744073709551616) : Calls Try.prog 23 #[v] w (RetGot (readG xs) w) := by
  by_cases hl : xs.length = 5
  · match xs, hl with
    | [l0, l1, l2, l3, l4], _ =>
      rcases h with ⟨h0, _⟩ | ⟨b, off, cap, rfl, hb, hm, hc⟩
      · cases h0
      have c0 := hc 0 (by simp)
      have c1 := hc 1 (by simp)
      have c2 := hc 2 (by simp)
      have c3 := hc 3 (by simp)
      have c4 := hc 4 (by simp)
      by_cases hq : callL (l0 % 256) (l0 / 65536 % 65536) (l0 / 4294967296) (l0 / 4096 % 2 == 1) (casesOf l0 l1 l2 l3) (wrap64 l4) = [l0, l1, l2, l3, l4]
      · simp only [readG]
        rw [if_pos hq]
        exact readCall_yes b off cap l0 l1 l2 l3 l4 _ w hb hx c0 c1 c2 c3 c4 hm.2 rfl hq
      · simp only [readG]
        rw [if_neg hq]
        exact readCall_no b off cap l0 l1 l2 l3 l4 _ w hb hx c0 c1 c2 c3 c4 hm.2 rfl hq
  · rw [readG_short hl]
    exact readCall_short w h hl

theorem req_same (k a x : Int) (d : Bool) {v v' : Value} {cs : List C3} (w : World) (h : CasesAt w v cs) (h' : CasesAt w v' cs) :
    Calls Try.prog 30 #[.agg #[.int .i64 k, .int .i64 a, .int .i64 x, .bool d, v], .agg #[.int .i64 k, .int .i64 a, .int .i64 x, .bool d, v']] w fun e w' => e = .returned (.bool true) ∧ Below w.heap.size w w' := by
  obtain ⟨a1, c1, rfl⟩ := h.form
  obtain ⟨a2, c2, rfl⟩ := h'.form
  have hB : Below w.heap.size w ((w.alloc (.cells #[.int .i64 k, .int .i64 a, .int .i64 x, .bool d, .slice a1 cs.length c1] 37)).alloc (.cells #[.int .i64 k, .int .i64 a, .int .i64 x, .bool d, .slice a2 cs.length c2] 37)) :=
    ((Below.refl _ _).alloc (Nat.le_refl _) _).alloc (by simp) _
  have HC := Lib.hid (cases_any _ (h.below hB) (h'.below hB))
  have HB := Lib.hid hB
  clear h h' hB
  generalize cs.length = n at *
  go_enter Try.func30, Try.ntmps30
  go_wp2_with (go_at_call 42; (with_reducible refine HC.out.mono ?_); rintro e w1 ⟨rfl, q, rfl⟩; rw [decide_eq_true rfl])
  go_ret
  exact ⟨rfl, below_drewN HB.out _⟩
end Go.Proofs.Ytcbdbpcibhjkjab
