/- Contracts of Enter, Leave, Next, the reference's With and Next, and of Words, over the seat's program. -/
import Derived.Test.YtiadkhdcnipfbaaEpB
import Derived.Test.YtiadkhdcnipfbaaOwn
namespace Go.Proofs.Ytiadkhdcnipfbaa
open Go.ChangeShapes Go.WideShapes Go.ChangeAt Go.RowKit Go.Joins

/-- A row with another word at a place. -/
def withF (f : Nat → Int) (t x : Int) : Nat → Int := fun i => if (i : Int) = t then x else f i
theorem withF_upd (f : Nat → Int) (k : Nat) (x : Int) (i : Nat) : updI f k x i = withF f (k : Int) x i := by
  unfold updI withF
  by_cases h : i = k
  · simp [h]
  · rw [if_neg h, if_neg (by omega)]

set_option maxHeartbeats 1600000 in
theorem with_any (a : Option Addr) (n cap : Nat) (f : Nat → Int) (t x : Int) (w : World) (h : RowAt .u64 w a n cap f) :
    Calls Try.prog 26 #[.slice a n cap, .int .i64 t, .int .u64 x] w (RetOwn .u64 w.heap.size n (withF f t x) w) := by
  have HC := Lib.hid (clone_any a n cap f w h)
  have hn := h.1
  clear h
  by_cases ht : 0 ≤ t ∧ t < n
  · obtain ⟨k, rfl⟩ : ∃ k : Nat, t = k := ⟨t.toNat, by omega⟩
    have hk : k < n := by omega
    have i0 : (0 : Int) ≤ (k : Int) := by omega
    have i1 : (k : Int) < (n : Int) := by omega
    clear ht
    go_enter Try.func26, Try.ntmps26
    go_wp2_with (go_at_call 28; (with_reducible refine HC.out.mono ?_); rintro e w1 ⟨a', cap', rfl, ho, hb⟩; obtain ⟨b, rfl, hbb, hc⟩ := ho.get hk; have c1 := (hc k hk).1; have f1 := (hc k hk).2; have HO := Lib.hid ho; have HB := Lib.hid (And.intro hb hbb); clear ho hb hbb hc)
    go_ret
    exact ⟨_, _, rfl, (HO.out.set k hk x).same (fun i _ => withF_upd f k x i), HB.out.1.setCell HB.out.2.1 _⟩
  · have HS := Lib.hid (show ∀ i, i < n → f i = withF f t x i from fun i hi => by unfold withF; rw [if_neg (by omega)])
    by_cases h0 : 0 ≤ t
    · have e1 : decide (t < (n : Int)) = false := by simp; omega
      clear ht
      go_enter Try.func26, Try.ntmps26
      go_wp2_with (go_at_call 28; (with_reducible refine HC.out.mono ?_); rintro e w1 ⟨a', cap', rfl, ho, hb⟩; have HO := Lib.hid ho; have HB := Lib.hid hb; clear ho hb)
      go_ret
      exact ⟨_, _, rfl, HO.out.same HS.out, HB.out⟩
    · have e1 : decide (0 ≤ t) = false := by simp; omega
      clear ht h0
      go_enter Try.func26, Try.ntmps26
      go_wp2_with (go_at_call 28; (with_reducible refine HC.out.mono ?_); rintro e w1 ⟨a', cap', rfl, ho, hb⟩; have HO := Lib.hid ho; have HB := Lib.hid hb; clear ho hb)
      go_ret
      exact ⟨_, _, rfl, HO.out.same HS.out, HB.out⟩
theorem enter_any (a : Option Addr) (n cap : Nat) (f : Nat → Int) (t g : Int) (w : World) (h : RowAt .u64 w a n cap f) :
    Calls Try.prog 17 #[.slice a n cap, .int .i64 t, .int .i64 g] w (RetOwn .u64 w.heap.size n (withF f t (epI g)) w) := by
  have HC := Lib.hid (with_any a n cap f t (epI g) w h)
  clear h
  go_enter Try.func17, Try.ntmps17
  go_wp2_with (first
    | (go_at_call 27; (with_reducible refine (epoch_any g _).mono ?_); rintro e w1 ⟨rfl, rfl⟩)
    | (go_at_call 26; (with_reducible refine HC.out.mono ?_); rintro e w1 ⟨a', cap', rfl, ho, hb⟩; have HO := Lib.hid (And.intro ho hb); clear ho hb))
  go_ret
  exact ⟨_, _, rfl, HO.out⟩
theorem leave_any (a : Option Addr) (n cap : Nat) (f : Nat → Int) (t : Int) (w : World) (h : RowAt .u64 w a n cap f) :
    Calls Try.prog 18 #[.slice a n cap, .int .i64 t] w (RetOwn .u64 w.heap.size n (withF f t 0) w) := by
  have HC := Lib.hid (with_any a n cap f t 0 w h)
  clear h
  go_enter Try.func18, Try.ntmps18
  go_wp2_with (go_at_call 26; (with_reducible refine HC.out.mono ?_); rintro e w1 ⟨a', cap', rfl, ho, hb⟩; have HO := Lib.hid (And.intro ho hb); clear ho hb)
  go_ret
  exact ⟨_, _, rfl, HO.out⟩

set_option maxHeartbeats 3200000 in
theorem rwith_any (a : Option Addr) (n cap : Nat) (f : Nat → Int) (t x : Int) (w : World) (h : RowAt .u64 w a n cap f) :
    Calls Try.prog 20 #[.slice a n cap, .int .i64 t, .int .u64 x] w (RetOwn .u64 w.heap.size n (withF f t x) w) := by
  obtain ⟨i0, hi0, hz0, hz1, hz2⟩ := info_parts Try.infoW
  have HI := Lib.hid (And.intro hi0 (And.intro hz0 (And.intro hz1 hz2)))
  have hn := h.1
  have HR := Lib.hid h
  clear h hi0 hz0 hz1 hz2
  go_enter Try.func20, Try.ntmps20
  go_wp2
  go_loopw [7, 12] (fun v i wr => ∃ k : Nat, k ≤ n ∧ i = .int .i64 k ∧ wr.ownsRow w.heap.size 35 1 v k (rowL .u64 (withF f t x) k) ∧ Below w.heap.size w wr) (fun _ i _ => n - (intOf i).toNat)
  case atStart => exact ⟨0, Nat.zero_le _, rfl, World.ownsRow_nil _ _ _ _, Below.refl _ _⟩
  case round =>
    obtain ⟨k, hk, rfl, hown, hb⟩ := hrel
    have HO := Lib.hid hown
    have HB := Lib.hid hb
    have hsz := hb.size
    clear hown hb
    by_cases hlt : k < n
    · obtain ⟨b, off, rfl, hbb, hc⟩ := (HR.out.below HB.out).get hlt
      have c1 := hc k hlt
      have j0 : (0 : Int) ≤ (k : Int) := by omega
      have j1 : (k : Int) < (n : Int) := by omega
      clear hc
      by_cases hm : (k : Int) = t
      · have e1 : ((k : Int) == t) = true := by simp [hm]
        have HM := Lib.hid (show x = withF f t x k by unfold withF; rw [if_pos hm])
        clear hm
        go_wp2_with (at_builtin; refine wpList_append_own _ rfl _ _ 22 rfl w.heap.size 35 i0 (.int .u64 0) 1 8 Try.underlying22 HI.out.1 HI.out.2.1 HI.out.2.2.1 HI.out.2.2.2 rfl (by decide) _ _ _ rfl (HO.out.alloc _) ⟨wr.heap.size, 0, none⟩ 1 1 [.int .u64 x] rfl rfl ?c1 ?c2 ?c3 ?c4 ?c5 ?_)
        case c1 =>
          intro j u hj
          match j, hj with
          | 0, hj => simp at hj; subst hj; simp [Addr.add]
        case c2 => intro u hu; simp at hu; subst hu; rfl
        case c3 => unfold maxLen; omega
        case c4 => omega
        case c5 => simp; omega
        intro v' w1 hown' hgrow _
        have HO' := Lib.hid (show w1.ownsRow w.heap.size 35 1 v' (k + 1) (rowL .u64 (withF f t x) (k + 1)) by rw [rowL_succ, ← HM.out]; exact hown')
        have HB' := Lib.hid (Below.grown (HB.out.alloc hsz (.cells #[.int .u64 x] 35)) hgrow (by simp; omega) (fun j hj => (HO.out.lt j hj).1))
        clear hown' hgrow
        go_wp2
        go_roundw
        case rel => exact ⟨k + 1, by omega, by go_num, HO'.out, HB'.out⟩
        case measure => simp [intOf]; omega
      · have e1 : ((k : Int) == t) = false := by simp [hm]
        have HM := Lib.hid (show f k = withF f t x k by unfold withF; rw [if_neg hm])
        clear hm
        go_wp2_with (at_builtin; refine wpList_append_own _ rfl _ _ 22 rfl w.heap.size 35 i0 (.int .u64 0) 1 8 Try.underlying22 HI.out.1 HI.out.2.1 HI.out.2.2.1 HI.out.2.2.2 rfl (by decide) _ _ _ rfl (HO.out.alloc _) ⟨wr.heap.size, 0, none⟩ 1 1 [.int .u64 (f k)] rfl rfl ?c1 ?c2 ?c3 ?c4 ?c5 ?_)
        case c1 =>
          intro j u hj
          match j, hj with
          | 0, hj => simp at hj; subst hj; simp [Addr.add]
        case c2 => intro u hu; simp at hu; subst hu; rfl
        case c3 => unfold maxLen; omega
        case c4 => omega
        case c5 => simp; omega
        intro v' w1 hown' hgrow _
        have HO' := Lib.hid (show w1.ownsRow w.heap.size 35 1 v' (k + 1) (rowL .u64 (withF f t x) (k + 1)) by rw [rowL_succ, ← HM.out]; exact hown')
        have HB' := Lib.hid (Below.grown (HB.out.alloc hsz (.cells #[.int .u64 (f k)] 35)) hgrow (by simp; omega) (fun j hj => (HO.out.lt j hj).1))
        clear hown' hgrow
        go_wp2
        go_roundw
        case rel => exact ⟨k + 1, by omega, by go_num, HO'.out, HB'.out⟩
        case measure => simp [intOf]; omega
    · obtain rfl : k = n := by omega
      obtain ⟨a', cap', rfl, ho⟩ := OwnAt.of hn HO.out
      go_wp2
      go_ret
      exact ⟨_, _, rfl, ho, HB.out⟩

/-- The epoch behind an epoch, if it may end. -/
def nextI (n : Nat) (f : Nat → Int) (me g : Int) : Int := if g < 0 ∨ g = 4611686018427387904 ∨ allB n f me g = false then g else wrap64 (g + 1)
theorem all_eq {x : Bool} (a : Option Addr) (n cap : Nat) (f : Nat → Int) (me g : Int) (hx : allB n f me g = x) (w : World) (h : RowAt .u64 w a n cap f) :
    Calls Try.prog 9 #[.slice a n cap, .int .i64 me, .int .i64 g] w fun e w' => e = .returned (.bool x) ∧ w = w' := by rw [← hx]; exact all_any a n cap f me g w h
theorem rall_eq {x : Bool} (a : Option Addr) (n cap : Nat) (f : Nat → Int) (me g : Int) (hx : allB n f me g = x) (w : World) (h : RowAt .u64 w a n cap f) :
    Calls Try.prog 10 #[.slice a n cap, .int .i64 me, .int .i64 g] w fun e w' => e = .returned (.bool x) ∧ SomeDraws w w' := by rw [← hx]; exact rall_any a n cap f me g w h
theorem next_any (a : Option Addr) (n cap : Nat) (f : Nat → Int) (me g : Int) (w : World) (h : RowAt .u64 w a n cap f) :
    Calls Try.prog 22 #[.slice a n cap, .int .i64 me, .int .i64 g] w fun e w' => e = .returned (.int .i64 (nextI n f me g)) ∧ w = w' := by
  have HA := Lib.hid (fun x hx => all_eq (x := x) a n cap f me g hx w h)
  clear h
  by_cases h0 : g < 0
  · have HE := Lib.hid (show nextI n f me g = g by simp [nextI, h0])
    go_enter Try.func22, Try.ntmps22
    go_wp2
    go_ret
    exact ⟨ret_int HE.out, rfl⟩
  · have e0 : decide (g < 0) = false := by simpa using h0
    by_cases h1 : g = 4611686018427387904
    · have HE := Lib.hid (show nextI n f me g = g by simp [nextI, h1])
      have e1 : (g == 4611686018427387904) = true := by simp [h1]
      clear h0 h1
      go_enter Try.func22, Try.ntmps22
      go_wp2
      go_ret
      exact ⟨ret_int HE.out, rfl⟩
    · have e1 : (g == 4611686018427387904) = false := by simp [h1]
      cases hA : allB n f me g
      · have HE := Lib.hid (show nextI n f me g = g by simp [nextI, hA])
        have HB := Lib.hid (HA.out _ hA)
        clear h0 h1 hA
        go_enter Try.func22, Try.ntmps22
        go_wp2_with (go_at_call 9; (with_reducible refine HB.out.mono ?_); rintro e w1 ⟨rfl, rfl⟩)
        go_ret
        exact ⟨ret_int HE.out, rfl⟩
      · have HE := Lib.hid (show nextI n f me g = wrap64 (g + 1) by simp [nextI, hA, h0, h1])
        have HB := Lib.hid (HA.out _ hA)
        clear h0 h1 hA
        go_enter Try.func22, Try.ntmps22
        go_wp2_with (go_at_call 9; (with_reducible refine HB.out.mono ?_); rintro e w1 ⟨rfl, rfl⟩)
        go_ret
        exact ⟨ret_int HE.out, rfl⟩
theorem rnext_any (a : Option Addr) (n cap : Nat) (f : Nat → Int) (me g : Int) (w : World) (h : RowAt .u64 w a n cap f) :
    Calls Try.prog 23 #[.slice a n cap, .int .i64 me, .int .i64 g] w fun e w' => e = .returned (.int .i64 (nextI n f me g)) ∧ SomeDraws w w' := by
  have HA := Lib.hid (fun x hx => rall_eq (x := x) a n cap f me g hx w h)
  clear h
  by_cases h0 : g < 0
  · have HE := Lib.hid (show nextI n f me g = g by simp [nextI, h0])
    go_enter Try.func23, Try.ntmps23
    go_wp2
    go_ret
    exact ⟨ret_int HE.out, 0, rfl⟩
  · have e0 : decide (0 ≤ g) = true := by simp; omega
    by_cases h1 : g = 4611686018427387904
    · have HE := Lib.hid (show nextI n f me g = g by simp [nextI, h1])
      have e1 : (g != 4611686018427387904) = false := by simp [h1]
      clear h0 h1
      go_enter Try.func23, Try.ntmps23
      go_wp2
      go_ret
      exact ⟨ret_int HE.out, 0, rfl⟩
    · have e1 : (g != 4611686018427387904) = true := by simp [h1]
      cases hA : allB n f me g
      · have HE := Lib.hid (show nextI n f me g = g by simp [nextI, hA])
        have HB := Lib.hid (HA.out _ hA)
        clear h0 h1 hA
        go_enter Try.func23, Try.ntmps23
        go_wp2_with (go_at_call 10; (with_reducible refine HB.out.mono ?_); rintro e w1 ⟨rfl, hd⟩)
        go_ret
        exact ⟨ret_int HE.out, hd⟩
      · have HE := Lib.hid (show nextI n f me g = wrap64 (g + 1) by simp [nextI, hA, h0, h1])
        have HB := Lib.hid (HA.out _ hA)
        clear h0 h1 hA
        go_enter Try.func23, Try.ntmps23
        go_wp2_with (go_at_call 10; (with_reducible refine HB.out.mono ?_); rintro e w1 ⟨rfl, hd⟩)
        go_ret
        exact ⟨ret_int HE.out, hd⟩
end Go.Proofs.Ytiadkhdcnipfbaa
