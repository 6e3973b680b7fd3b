/- errors.Is, asked for a number, down faults in one another. -/
import Derived.Test.YtiebgjmfpnlolaaDoorFtF
import Derived.Lib.IfaceEq
import Derived.Test.YtiebgjmfpnlolaaDoorFtO
import Derived.Deep.LoopGhost
import Derived.Test.YtiebgjmfpnlolaaDoorShelf
namespace Go.Proofs.YtiebgjmfpnlolaaDoor
open Go.RowKit Go.Extern.Stop Go.Stop Go.Extern
set_option maxRecDepth 100000

theorem tOfE (v : Value) (w : World) : (ReflectliteType.typeOf #[.iface 23 v]).run Tryd.prog w = .ok (.iface 91 (.agg #[.pointer (some ⟨5, 23, none⟩)])) w := typeOfE v w
theorem cmpE (w : World) : (callFunc 90 #[.agg #[.pointer (some ⟨5, 23, none⟩)]]).run Tryd.prog w = .ok (.value (.bool true)) w := by
  rw [@run_callFunc_extern Tryd.prog 90 _ (ReflectliteType.method fun t => do Rtype.noPackHeld "Comparable" t; pure (.bool (← typeInfo t).comparable)) Tryd.func90 (by kernel_rfl) (by kernel_rfl) (by kernel_rfl) (by kernel_rfl)]
  kernel_rfl
theorem eqEE (a b : Int) (w : World) : (binOp .eql 25 (.iface 23 (.int .i64 a)) (.iface 23 (.int .i64 b))).run Tryd.prog w = .ok (.bool (a == b)) w := Lib.run_eql_iface_int w a b Tryd.underlying25 (by kernel_rfl) Tryd.underlying23
theorem eqFE (v u : Value) (w : World) : (binOp .eql 25 (.iface 44 v) (.iface 23 u)).run Tryd.prog w = .ok (.bool false) w := run_eql_iface_types 44 23 v u Tryd.underlying25 (by decide) w
theorem eqSE (v u : Value) (w : World) : (binOp .eql 25 (.iface 62 v) (.iface 23 u)).run Tryd.prog w = .ok (.bool false) w := run_eql_iface_types 62 23 v u Tryd.underlying25 (by decide) w
theorem Is_nil (x : Value) (w : World) : Calls Tryd.prog 30 #[.nilIface, .iface 23 x] w fun r w' => r = .returned (.bool false) ∧ w' = w := by
  have hn := run_eql_iface_nil_left (P := Tryd.prog) w 23 x Tryd.underlying25
  go_enter Tryd.func30, Tryd.ntmps30
  go_wp2
  go_ret
  exact ⟨rfl, rfl⟩
set_option maxHeartbeats 4000000 in
theorem is_chainE (x : Int) (o : Int) (n : Nat) (fb : Nat → Nat) (fs : Nat → ByteArray) (fp : Nat → Int) (w : World) (hc : Chain w n fb fs fp (.iface 23 (.int .i64 x))) (d : Bool) (hd : (x == o) = d) :
    Calls Tryd.prog 43 #[lk n fb (.iface 23 (.int .i64 x)) 0, .iface 23 (.int .i64 o), .bool true] w fun r w' => r = .returned (.bool d) ∧ w' = w := by
  have HC := Lib.hid hc
  clear hc
  have f0 := @rmUnwrap
  have f1 := @noIsF
  have f2 := @hasUnF
  have f3 := @eqFE
  have f4 := @noIsE
  have f5 := @noUnE
  have f6 := @noUnsE
  have f7 := eqEE x o
  rw [hd] at f7
  go_enter Tryd.func43, Tryd.ntmps43
  go_wp2
  go_loopg [0] (n + 1) (fun gk err wr => ∃ i, i ≤ n ∧ gk = n + 1 - i ∧ err = lk n fb (.iface 23 (.int .i64 x)) i ∧ wr = w)
  case atStart => exact ⟨0, Nat.zero_le _, rfl, rfl, rfl⟩
  case round =>
    obtain ⟨i, hi, rfl, rfl, rfl⟩ := hrel
    by_cases hin : i < n
    · rw [lk_in hin]
      obtain ⟨_, _, _, c2⟩ := HC.out i hin
      by_cases hin2 : i + 1 < n
      · rw [lk_in hin2] at c2
        go_wp2_with (go_at_call 20; (with_reducible refine (unwrap_any _ _ _ c2).mono ?_); rintro r w2 ⟨rfl, rfl⟩)
        go_roundg (n - i)
        case measure => omega
        case rel => exact ⟨i + 1, by omega, by omega, (lk_in hin2).symm, rfl⟩
      · obtain rfl : n = i + 1 := by omega
        rw [lk_end] at c2
        go_wp2_with (go_at_call 20; (with_reducible refine (unwrap_any _ _ _ c2).mono ?_); rintro r w2 ⟨rfl, rfl⟩)
        go_roundg 1
        case measure => omega
        case rel => exact ⟨i + 1, by omega, by omega, lk_end.symm, rfl⟩
    · obtain rfl : i = n := by omega
      rw [lk_end]
      cases d <;> (go_wp2; go_ret; exact ⟨rfl, rfl⟩)

set_option maxHeartbeats 4000000 in
theorem Is_chainE (x : Int) (o : Int) (n : Nat) (fb : Nat → Nat) (fs : Nat → ByteArray) (fp : Nat → Int) (w : World) (hc : Chain w n fb fs fp (.iface 23 (.int .i64 x))) (d : Bool) (hd : (x == o) = d) :
    Calls Tryd.prog 30 #[lk n fb (.iface 23 (.int .i64 x)) 0, .iface 23 (.int .i64 o)] w fun r w' => r = .returned (.bool d) ∧ w' = w := by
  have xTO := @run_callFunc_extern Tryd.prog 42 _ (ReflectliteType.typeOf) Tryd.func42 (by kernel_rfl) (by kernel_rfl) (by kernel_rfl) (by kernel_rfl)
  have f1 := @tOfE
  have f2 := @cmpE
  have f3 := @rmComparable
  have HK := Lib.hid (is_chainE x o n fb fs fp w hc d hd)
  clear hc
  obtain ⟨b, u, hv⟩ : ∃ b u, lk n fb (.iface 23 (.int .i64 x)) 0 = .iface b u := by
    unfold lk
    split <;> exact ⟨_, _, rfl⟩
  rw [hv] at HK ⊢
  go_enter Tryd.func30, Tryd.ntmps30
  go_wp2_with (go_at_call 43; (with_reducible refine HK.out.mono ?_); rintro r w2 ⟨rfl, rfl⟩)
  go_ret
  exact ⟨rfl, rfl⟩
set_option maxHeartbeats 4000000 in
theorem is_chainS (x : Addr) (o : Int) (n : Nat) (fb : Nat → Nat) (fs : Nat → ByteArray) (fp : Nat → Int) (w : World) (hc : Chain w n fb fs fp (.iface 62 (.pointer (some x)))) :
    Calls Tryd.prog 43 #[lk n fb (.iface 62 (.pointer (some x))) 0, .iface 23 (.int .i64 o), .bool true] w fun r w' => r = .returned (.bool false) ∧ w' = w := by
  have HC := Lib.hid hc
  clear hc
  have f0 := @rmUnwrap
  have f1 := @noIsF
  have f2 := @hasUnF
  have f3 := @eqFE
  have f4 := @noIsS
  have f5 := @noUnS
  have f6 := @noUnsS
  have f7 := @eqSE
  go_enter Tryd.func43, Tryd.ntmps43
  go_wp2
  go_loopg [0] (n + 1) (fun gk err wr => ∃ i, i ≤ n ∧ gk = n + 1 - i ∧ err = lk n fb (.iface 62 (.pointer (some x))) i ∧ wr = w)
  case atStart => exact ⟨0, Nat.zero_le _, rfl, rfl, rfl⟩
  case round =>
    obtain ⟨i, hi, rfl, rfl, rfl⟩ := hrel
    by_cases hin : i < n
    · rw [lk_in hin]
      obtain ⟨_, _, _, c2⟩ := HC.out i hin
      by_cases hin2 : i + 1 < n
      · rw [lk_in hin2] at c2
        go_wp2_with (go_at_call 20; (with_reducible refine (unwrap_any _ _ _ c2).mono ?_); rintro r w2 ⟨rfl, rfl⟩)
        go_roundg (n - i)
        case measure => omega
        case rel => exact ⟨i + 1, by omega, by omega, (lk_in hin2).symm, rfl⟩
      · obtain rfl : n = i + 1 := by omega
        rw [lk_end] at c2
        go_wp2_with (go_at_call 20; (with_reducible refine (unwrap_any _ _ _ c2).mono ?_); rintro r w2 ⟨rfl, rfl⟩)
        go_roundg 1
        case measure => omega
        case rel => exact ⟨i + 1, by omega, by omega, lk_end.symm, rfl⟩
    · obtain rfl : i = n := by omega
      rw [lk_end]
      go_wp2
      go_ret
      exact ⟨rfl, rfl⟩
set_option maxHeartbeats 4000000 in
theorem Is_chainS (x : Addr) (o : Int) (n : Nat) (fb : Nat → Nat) (fs : Nat → ByteArray) (fp : Nat → Int) (w : World) (hc : Chain w n fb fs fp (.iface 62 (.pointer (some x)))) :
    Calls Tryd.prog 30 #[lk n fb (.iface 62 (.pointer (some x))) 0, .iface 23 (.int .i64 o)] w fun r w' => r = .returned (.bool false) ∧ w' = w := by
  have xTO := @run_callFunc_extern Tryd.prog 42 _ (ReflectliteType.typeOf) Tryd.func42 (by kernel_rfl) (by kernel_rfl) (by kernel_rfl) (by kernel_rfl)
  have f1 := @tOfE
  have f2 := @cmpE
  have f3 := @rmComparable
  have HK := Lib.hid (is_chainS x o n fb fs fp w hc )
  clear hc
  obtain ⟨b, u, hv⟩ : ∃ b u, lk n fb (.iface 62 (.pointer (some x))) 0 = .iface b u := by
    unfold lk
    split <;> exact ⟨_, _, rfl⟩
  rw [hv] at HK ⊢
  go_enter Tryd.func30, Tryd.ntmps30
  go_wp2_with (go_at_call 43; (with_reducible refine HK.out.mono ?_); rintro r w2 ⟨rfl, rfl⟩)
  go_ret
  exact ⟨rfl, rfl⟩
end Go.Proofs.YtiebgjmfpnlolaaDoor
