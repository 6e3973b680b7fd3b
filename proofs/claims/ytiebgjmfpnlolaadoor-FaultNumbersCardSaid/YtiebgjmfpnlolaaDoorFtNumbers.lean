/- FaultNumbers: the walk. -/
import Derived.Test.YtiebgjmfpnlolaaDoorFtT
import Derived.Test.YtiebgjmfpnlolaaDoorFtO
import Derived.Deep.LoopGhost
import Derived.Test.YtiebgjmfpnlolaaDoorShelf
namespace Go.Proofs.YtiebgjmfpnlolaaDoor
open Go.RowKit Go.Extern.Stop Go.Stop Go.Extern
set_option maxRecDepth 100000

set_option maxHeartbeats 6400000 in
theorem numbers_walk (a : Option Addr) (n cap : Nat) (fs : Nat → ByteArray) (fp : Nat → Int) (x o : Int) (w : World) (hg : Laid w) (hr : RowO w a n fs fp) : Calls Tryd.prog 4 #[.slice a n cap, .int .i64 x, .int .i64 o] w fun r w' => r = .returned (.bool true) ∧ Below w.heap.size w w' := by
  have HG := Lib.hid hg
  clear hg
  rcases Nat.eq_zero_or_pos n with h0 | h0
  · subst h0
    clear hr
    go_enter Tryd.func4, Tryd.ntmps4
    go_wp2_with (first
      | (go_at_call 16; (with_reducible refine (FIs_nil o _).mono ?_); rintro r w1 ⟨rfl, hb⟩; have HB1 := Lib.hid hb; clear hb)
      | (go_at_call 15; (with_reducible refine (Code_nil _).mono ?_); rintro r w2 ⟨rfl, hb⟩; have HB2 := Lib.hid (below_next HB1.out hb); clear hb)
      | (go_at_call 7; (with_reducible refine (awake_any _ (HG.out.below HB2.out)).mono ?_); rintro r w3 ⟨rfl, hb⟩; have HB3 := Lib.hid (below_next HB2.out hb); clear hb))
    go_ret
    exact ⟨rfl, HB3.out⟩
  have e0 : ((n : Int) == 0) = false := by simp; omega
  rcases Nat.lt_or_ge 60 n with h1 | h1
  · have e1 : decide ((60 : Int) < (n : Int)) = true := by simp; omega
    have e1' : decide (60 < n) = true := by simp; omega
    clear hr
    go_enter Tryd.func4, Tryd.ntmps4
    go_wp2_with (first
      | (go_at_call 16; (with_reducible refine (FIs_nil o _).mono ?_); rintro r w1 ⟨rfl, hb⟩; have HB1 := Lib.hid hb; clear hb)
      | (go_at_call 15; (with_reducible refine (Code_nil _).mono ?_); rintro r w2 ⟨rfl, hb⟩; have HB2 := Lib.hid (below_next HB1.out hb); clear hb)
      | (go_at_call 7; (with_reducible refine (awake_any _ (HG.out.below HB2.out)).mono ?_); rintro r w3 ⟨rfl, hb⟩; have HB3 := Lib.hid (below_next HB2.out hb); clear hb))
    go_ret
    exact ⟨rfl, HB3.out⟩
  have e1 : decide ((60 : Int) < (n : Int)) = false := by simp; omega
  have e1' : decide (60 < n) = false := by simp; omega
  by_cases hx : x = 0
  · subst hx
    clear hr
    go_enter Tryd.func4, Tryd.ntmps4
    go_wp2_with (first
      | (go_at_call 16; (with_reducible refine (FIs_nil o _).mono ?_); rintro r w1 ⟨rfl, hb⟩; have HB1 := Lib.hid hb; clear hb)
      | (go_at_call 15; (with_reducible refine (Code_nil _).mono ?_); rintro r w2 ⟨rfl, hb⟩; have HB2 := Lib.hid (below_next HB1.out hb); clear hb)
      | (go_at_call 7; (with_reducible refine (awake_any _ (HG.out.below HB2.out)).mono ?_); rintro r w3 ⟨rfl, hb⟩; have HB3 := Lib.hid (below_next HB2.out hb); clear hb))
    go_ret
    exact ⟨rfl, HB3.out⟩
  have e2 : (x == 0) = false := by simpa using hx
  have HM := Lib.hid (show Calls Tryd.prog 6 #[.slice a n cap, .int .i64 x] w fun r w' => ∃ fb, r = .returned (lk n fb (.iface 23 (.int .i64 x)) 0) ∧ Chain w' n fb fs fp (.iface 23 (.int .i64 x)) ∧ Below w.heap.size w w' from made_any a n cap fs fp x hx w h0 h1 hr)
  have HXX := Lib.hid (show (x == x) = true by simp)
  clear hr
  cases hd : (x == o)
  · have HD := Lib.hid hd
    go_enter Tryd.func4, Tryd.ntmps4
    · go_wp2_with (first
        | (go_at_call 6; (with_reducible refine HM.out.mono ?_); rintro r w1 ⟨fb, rfl, hc, hb⟩; have HC1 := Lib.hid hc; have HB1 := Lib.hid hb; clear hc hb)
        | (go_at_call 16; (with_reducible refine (FIs_chain x x true HXX.out n fb fs fp _ HC1.out).mono ?_); rintro r w2 ⟨rfl, hb⟩; have HC2 := Lib.hid (HC1.out.below hb); have HB2 := Lib.hid (below_next HB1.out hb); clear hb)
        | (go_at_call 16; (with_reducible refine (FIs_chain x o false HD.out n fb fs fp _ HC2.out).mono ?_); rintro r w3 ⟨rfl, hb⟩; have HB3 := Lib.hid (below_next HB2.out hb); clear hb)
        | (go_at_call 7; (with_reducible refine (awake_any _ (HG.out.below HB3.out)).mono ?_); rintro r w4 ⟨rfl, hb⟩; have HB4 := Lib.hid (below_next HB3.out hb); clear hb))
      go_ret
      exact ⟨rfl, HB4.out⟩
  · have HD := Lib.hid hd
    go_enter Tryd.func4, Tryd.ntmps4
    · go_wp2_with (first
        | (go_at_call 6; (with_reducible refine HM.out.mono ?_); rintro r w1 ⟨fb, rfl, hc, hb⟩; have HC1 := Lib.hid hc; have HB1 := Lib.hid hb; clear hc hb)
        | (go_at_call 16; (with_reducible refine (FIs_chain x x true HXX.out n fb fs fp _ HC1.out).mono ?_); rintro r w2 ⟨rfl, hb⟩; have HC2 := Lib.hid (HC1.out.below hb); have HB2 := Lib.hid (below_next HB1.out hb); clear hb)
        | (go_at_call 16; (with_reducible refine (FIs_chain x o true HD.out n fb fs fp _ HC2.out).mono ?_); rintro r w3 ⟨rfl, hb⟩; have HB3 := Lib.hid (below_next HB2.out hb); clear hb)
        | (go_at_call 7; (with_reducible refine (awake_any _ (HG.out.below HB3.out)).mono ?_); rintro r w4 ⟨rfl, hb⟩; have HB4 := Lib.hid (below_next HB3.out hb); clear hb))
      go_ret
      exact ⟨rfl, HB4.out⟩
end Go.Proofs.YtiebgjmfpnlolaaDoor
