/- errors.as where nothing is hit, and down faults in one another; errors.As. -/
import Derived.Test.YtiebgjmfpnlolaaDoorFtD
import Derived.Test.YtiebgjmfpnlolaaDoorFtO
import Derived.Deep.LoopGhost
import Derived.Test.YtiebgjmfpnlolaaDoorShelf
namespace Go.Proofs.YtiebgjmfpnlolaaDoor
open Go.RowKit Go.Extern.Stop Go.Stop Go.Extern
set_option maxRecDepth 100000

theorem Chain.below {w w' : World} {n : Nat} {fb : Nat → Nat} {fs : Nat → ByteArray} {fp : Nat → Int} {bot : Value} (h : Chain w n fb fs fp bot) (hb : Below w.heap.size w w') : Chain w' n fb fs fp bot := fun i hi => by
  obtain ⟨h0, h1, h2, h3⟩ := h i hi
  exact ⟨Nat.lt_of_lt_of_le h0 hb.size, ((bcell hb).1 _ _ h0).trans h1, ((bcell hb).1 _ _ h0).trans h2, ((bcell hb).1 _ _ h0).trans h3⟩
set_option maxHeartbeats 4000000 in
theorem as_F_noE (x : Int) (a : Addr) (t : Value) (w : World) :
    Calls Tryd.prog 41 #[.iface 23 (.int .i64 x), t, .agg #[.pointer (some ⟨5, 88, none⟩), .pointer (some a), .int .u64 150], .iface 91 (.agg #[.pointer (some ⟨5, 44, none⟩)])] w fun r w' => r = .returned (.bool false) ∧ w' = w.alloc (.cells #[.pointer (some ⟨5, 88, none⟩), .pointer (some a), .int .u64 150] 77) := by
  have xVO := @run_callFunc_extern Tryd.prog 38 _ (fun args => ReflectliteValue.unpack (args.getD 0 (.tuple #[]))) Tryd.func38 (by kernel_rfl) (by kernel_rfl) (by kernel_rfl) (by kernel_rfl)
  have xTO := @run_callFunc_extern Tryd.prog 42 _ (ReflectliteType.typeOf) Tryd.func42 (by kernel_rfl) (by kernel_rfl) (by kernel_rfl) (by kernel_rfl)
  have xAg := @run_callFunc_extern Tryd.prog 89 _ (ReflectliteType.relation "AssignableTo" ReflectliteType.assignableTo) Tryd.func89 (by kernel_rfl) (by kernel_rfl) (by kernel_rfl) (by kernel_rfl)
  have xEV := @run_callFunc_extern Tryd.prog 49 _ (ReflectliteValue.method (ReflectliteValue.valueError "reflectlite.Value.Elem" 0) ReflectliteValue.elem) Tryd.func49 (by kernel_rfl) (by kernel_rfl) (by kernel_rfl) (by kernel_rfl)
  have xSt := @run_callFunc_extern Tryd.prog 50 _ (ReflectliteValue.set) Tryd.func50 (by kernel_rfl) (by kernel_rfl) (by kernel_rfl) (by kernel_rfl)
  have f0 := @rmAssignable
  have f1E := @typeOfE
  have f2E := @asgEF
  have f3E := @noAsE
  have f4E := @noUnE
  have f5E := @noUnsE
  go_enter Tryd.func41, Tryd.ntmps41
  go_wp2
  refine wp_loop_rounds 1 ?_
  rw [rounds_succ]
  go_wp2
  go_ret
  exact ⟨rfl, rfl⟩
set_option maxHeartbeats 4000000 in
theorem as_F_noS (x : Addr) (a : Addr) (t : Value) (w : World) :
    Calls Tryd.prog 41 #[.iface 62 (.pointer (some x)), t, .agg #[.pointer (some ⟨5, 88, none⟩), .pointer (some a), .int .u64 150], .iface 91 (.agg #[.pointer (some ⟨5, 44, none⟩)])] w fun r w' => r = .returned (.bool false) ∧ w' = w.alloc (.cells #[.pointer (some ⟨5, 88, none⟩), .pointer (some a), .int .u64 150] 77) := by
  have xVO := @run_callFunc_extern Tryd.prog 38 _ (fun args => ReflectliteValue.unpack (args.getD 0 (.tuple #[]))) Tryd.func38 (by kernel_rfl) (by kernel_rfl) (by kernel_rfl) (by kernel_rfl)
  have xTO := @run_callFunc_extern Tryd.prog 42 _ (ReflectliteType.typeOf) Tryd.func42 (by kernel_rfl) (by kernel_rfl) (by kernel_rfl) (by kernel_rfl)
  have xAg := @run_callFunc_extern Tryd.prog 89 _ (ReflectliteType.relation "AssignableTo" ReflectliteType.assignableTo) Tryd.func89 (by kernel_rfl) (by kernel_rfl) (by kernel_rfl) (by kernel_rfl)
  have xEV := @run_callFunc_extern Tryd.prog 49 _ (ReflectliteValue.method (ReflectliteValue.valueError "reflectlite.Value.Elem" 0) ReflectliteValue.elem) Tryd.func49 (by kernel_rfl) (by kernel_rfl) (by kernel_rfl) (by kernel_rfl)
  have xSt := @run_callFunc_extern Tryd.prog 50 _ (ReflectliteValue.set) Tryd.func50 (by kernel_rfl) (by kernel_rfl) (by kernel_rfl) (by kernel_rfl)
  have f0 := @rmAssignable
  have f1S := @typeOfS
  have f2S := @asgSF
  have f3S := @noAsS
  have f4S := @noUnS
  have f5S := @noUnsS
  go_enter Tryd.func41, Tryd.ntmps41
  go_wp2
  refine wp_loop_rounds 1 ?_
  rw [rounds_succ]
  go_wp2
  go_ret
  exact ⟨rfl, rfl⟩
set_option maxHeartbeats 4000000 in
theorem as_E_noS (x : Addr) (a : Addr) (t : Value) (w : World) :
    Calls Tryd.prog 41 #[.iface 62 (.pointer (some x)), t, .agg #[.pointer (some ⟨5, 60, none⟩), .pointer (some a), .int .u64 150], .iface 91 (.agg #[.pointer (some ⟨5, 23, none⟩)])] w fun r w' => r = .returned (.bool false) ∧ w' = w.alloc (.cells #[.pointer (some ⟨5, 60, none⟩), .pointer (some a), .int .u64 150] 77) := by
  have xVO := @run_callFunc_extern Tryd.prog 38 _ (fun args => ReflectliteValue.unpack (args.getD 0 (.tuple #[]))) Tryd.func38 (by kernel_rfl) (by kernel_rfl) (by kernel_rfl) (by kernel_rfl)
  have xTO := @run_callFunc_extern Tryd.prog 42 _ (ReflectliteType.typeOf) Tryd.func42 (by kernel_rfl) (by kernel_rfl) (by kernel_rfl) (by kernel_rfl)
  have xAg := @run_callFunc_extern Tryd.prog 89 _ (ReflectliteType.relation "AssignableTo" ReflectliteType.assignableTo) Tryd.func89 (by kernel_rfl) (by kernel_rfl) (by kernel_rfl) (by kernel_rfl)
  have xEV := @run_callFunc_extern Tryd.prog 49 _ (ReflectliteValue.method (ReflectliteValue.valueError "reflectlite.Value.Elem" 0) ReflectliteValue.elem) Tryd.func49 (by kernel_rfl) (by kernel_rfl) (by kernel_rfl) (by kernel_rfl)
  have xSt := @run_callFunc_extern Tryd.prog 50 _ (ReflectliteValue.set) Tryd.func50 (by kernel_rfl) (by kernel_rfl) (by kernel_rfl) (by kernel_rfl)
  have f0 := @rmAssignable
  have f1S := @typeOfS
  have f2S := @asgSE
  have f3S := @noAsS
  have f4S := @noUnS
  have f5S := @noUnsS
  go_enter Tryd.func41, Tryd.ntmps41
  go_wp2
  refine wp_loop_rounds 1 ?_
  rw [rounds_succ]
  go_wp2
  go_ret
  exact ⟨rfl, rfl⟩
set_option maxHeartbeats 4000000 in
theorem as_E_chainE (x : Int) (n : Nat) (fb : Nat → Nat) (fs : Nat → ByteArray) (fp : Nat → Int) (a t : Addr) (old : Value) (w : World) (hc : Chain w n fb fs fp (.iface 23 (.int .i64 x))) (ha : w.cell? a = some (.pointer (some t))) (ht : w.cell? t = some old) (hf : w.frozen? t = false) (la : a.block < w.heap.size) (lt : t.block < w.heap.size) :
    Calls Tryd.prog 41 #[lk n fb (.iface 23 (.int .i64 x)) 0, .iface 60 (.pointer (some t)), .agg #[.pointer (some ⟨5, 60, none⟩), .pointer (some a), .int .u64 150], .iface 91 (.agg #[.pointer (some ⟨5, 23, none⟩)])] w fun r w' => r = .returned (.bool true) ∧ w' = ((w.alloc (.cells #[.pointer (some ⟨5, 60, none⟩), .pointer (some a), .int .u64 150] 77)).alloc (.cells #[.int .i64 x] 23)).setCell t (.int .i64 x) := by
  have HC := Lib.hid (hc.below ((Below.refl _ _).alloc (Nat.le_refl _) (.cells #[.pointer (some ⟨5, 60, none⟩), .pointer (some a), .int .u64 150] 77)))
  clear hc
  have xVO := @run_callFunc_extern Tryd.prog 38 _ (fun args => ReflectliteValue.unpack (args.getD 0 (.tuple #[]))) Tryd.func38 (by kernel_rfl) (by kernel_rfl) (by kernel_rfl) (by kernel_rfl)
  have xTO := @run_callFunc_extern Tryd.prog 42 _ (ReflectliteType.typeOf) Tryd.func42 (by kernel_rfl) (by kernel_rfl) (by kernel_rfl) (by kernel_rfl)
  have xAg := @run_callFunc_extern Tryd.prog 89 _ (ReflectliteType.relation "AssignableTo" ReflectliteType.assignableTo) Tryd.func89 (by kernel_rfl) (by kernel_rfl) (by kernel_rfl) (by kernel_rfl)
  have xEV := @run_callFunc_extern Tryd.prog 49 _ (ReflectliteValue.method (ReflectliteValue.valueError "reflectlite.Value.Elem" 0) ReflectliteValue.elem) Tryd.func49 (by kernel_rfl) (by kernel_rfl) (by kernel_rfl) (by kernel_rfl)
  have xSt := @run_callFunc_extern Tryd.prog 50 _ (ReflectliteValue.set) Tryd.func50 (by kernel_rfl) (by kernel_rfl) (by kernel_rfl) (by kernel_rfl)
  have f0 := @rmAssignable
  have f00 := @rmUnwrap
  have f1F := @typeOfF
  have f2F := @asgFE
  have f3F := @noAsF
  have f4F := @hasUnF
  have f1E := @typeOfE
  have f2E := @asgEE
  have f6 := @vOfE
  have f7 := elVE a t (w.alloc (.cells #[.pointer (some ⟨5, 60, none⟩), .pointer (some a), .int .u64 150] 77)) (by rw [World.cell?_alloc_lt _ _ a la]; exact ha)
  have f8 := setE t ⟨w.heap.size + 1, 0, none⟩ x old ((w.alloc (.cells #[.pointer (some ⟨5, 60, none⟩), .pointer (some a), .int .u64 150] 77)).alloc (.cells #[.int .i64 x] 23)) (by simp) (by rw [World.cell?_alloc_lt _ _ t (by simp; omega), World.cell?_alloc_lt _ _ t lt]; exact ht) (by rw [World.frozen?_alloc_old _ _ t (by simp; omega), World.frozen?_alloc_old _ _ t (Nat.ne_of_lt lt)]; exact hf)
  go_enter Tryd.func41, Tryd.ntmps41
  go_wp2
  go_loopg [0] (n + 1) (fun gk err wr => ∃ i, i ≤ n ∧ gk = n + 1 - i ∧ err = lk n fb (.iface 23 (.int .i64 x)) i ∧ wr = w.alloc (.cells #[.pointer (some ⟨5, 60, none⟩), .pointer (some a), .int .u64 150] 77))
  case atStart => exact ⟨0, Nat.zero_le _, rfl, rfl, rfl⟩
  case round =>
    obtain ⟨i, hi, rfl, rfl, rfl⟩ := hrel
    by_cases hin : i < n
    · rw [lk_in hin]
      obtain ⟨_, _, _, c2⟩ := HC.out i hin
      by_cases hin2 : i + 1 < n
      · rw [lk_in hin2] at c2
        go_wp2_with (go_at_call 20; (with_reducible refine (unwrap_any _ _ _ c2).mono ?_); rintro r w2 ⟨rfl, rfl⟩)
        go_roundg (n - i)
        case measure => omega
        case rel => exact ⟨i + 1, by omega, by omega, (lk_in hin2).symm, rfl⟩
      · obtain rfl : n = i + 1 := by omega
        rw [lk_end] at c2
        go_wp2_with (go_at_call 20; (with_reducible refine (unwrap_any _ _ _ c2).mono ?_); rintro r w2 ⟨rfl, rfl⟩)
        go_roundg 1
        case measure => omega
        case rel => exact ⟨i + 1, by omega, by omega, lk_end.symm, rfl⟩
    · obtain rfl : i = n := by omega
      rw [lk_end]
      go_wp2
      go_ret
      exact ⟨rfl, rfl⟩
set_option maxHeartbeats 4000000 in
theorem as_E_chainS (x : Addr) (n : Nat) (fb : Nat → Nat) (fs : Nat → ByteArray) (fp : Nat → Int) (a t : Addr) (w : World) (hc : Chain w n fb fs fp (.iface 62 (.pointer (some x)))) :
    Calls Tryd.prog 41 #[lk n fb (.iface 62 (.pointer (some x))) 0, .iface 60 (.pointer (some t)), .agg #[.pointer (some ⟨5, 60, none⟩), .pointer (some a), .int .u64 150], .iface 91 (.agg #[.pointer (some ⟨5, 23, none⟩)])] w fun r w' => r = .returned (.bool false) ∧ w' = w.alloc (.cells #[.pointer (some ⟨5, 60, none⟩), .pointer (some a), .int .u64 150] 77) := by
  have HC := Lib.hid (hc.below ((Below.refl _ _).alloc (Nat.le_refl _) (.cells #[.pointer (some ⟨5, 60, none⟩), .pointer (some a), .int .u64 150] 77)))
  clear hc
  have xVO := @run_callFunc_extern Tryd.prog 38 _ (fun args => ReflectliteValue.unpack (args.getD 0 (.tuple #[]))) Tryd.func38 (by kernel_rfl) (by kernel_rfl) (by kernel_rfl) (by kernel_rfl)
  have xTO := @run_callFunc_extern Tryd.prog 42 _ (ReflectliteType.typeOf) Tryd.func42 (by kernel_rfl) (by kernel_rfl) (by kernel_rfl) (by kernel_rfl)
  have xAg := @run_callFunc_extern Tryd.prog 89 _ (ReflectliteType.relation "AssignableTo" ReflectliteType.assignableTo) Tryd.func89 (by kernel_rfl) (by kernel_rfl) (by kernel_rfl) (by kernel_rfl)
  have xEV := @run_callFunc_extern Tryd.prog 49 _ (ReflectliteValue.method (ReflectliteValue.valueError "reflectlite.Value.Elem" 0) ReflectliteValue.elem) Tryd.func49 (by kernel_rfl) (by kernel_rfl) (by kernel_rfl) (by kernel_rfl)
  have xSt := @run_callFunc_extern Tryd.prog 50 _ (ReflectliteValue.set) Tryd.func50 (by kernel_rfl) (by kernel_rfl) (by kernel_rfl) (by kernel_rfl)
  have f0 := @rmAssignable
  have f00 := @rmUnwrap
  have f1F := @typeOfF
  have f2F := @asgFE
  have f3F := @noAsF
  have f4F := @hasUnF
  have f1S := @typeOfS
  have f2S := @asgSE
  have f3S := @noAsS
  have f4S := @noUnS
  have f5S := @noUnsS
  go_enter Tryd.func41, Tryd.ntmps41
  go_wp2
  go_loopg [0] (n + 1) (fun gk err wr => ∃ i, i ≤ n ∧ gk = n + 1 - i ∧ err = lk n fb (.iface 62 (.pointer (some x))) i ∧ wr = w.alloc (.cells #[.pointer (some ⟨5, 60, none⟩), .pointer (some a), .int .u64 150] 77))
  case atStart => exact ⟨0, Nat.zero_le _, rfl, rfl, rfl⟩
  case round =>
    obtain ⟨i, hi, rfl, rfl, rfl⟩ := hrel
    by_cases hin : i < n
    · rw [lk_in hin]
      obtain ⟨_, _, _, c2⟩ := HC.out i hin
      by_cases hin2 : i + 1 < n
      · rw [lk_in hin2] at c2
        go_wp2_with (go_at_call 20; (with_reducible refine (unwrap_any _ _ _ c2).mono ?_); rintro r w2 ⟨rfl, rfl⟩)
        go_roundg (n - i)
        case measure => omega
        case rel => exact ⟨i + 1, by omega, by omega, (lk_in hin2).symm, rfl⟩
      · obtain rfl : n = i + 1 := by omega
        rw [lk_end] at c2
        go_wp2_with (go_at_call 20; (with_reducible refine (unwrap_any _ _ _ c2).mono ?_); rintro r w2 ⟨rfl, rfl⟩)
        go_roundg 1
        case measure => omega
        case rel => exact ⟨i + 1, by omega, by omega, lk_end.symm, rfl⟩
    · obtain rfl : i = n := by omega
      rw [lk_end]
      go_wp2
      go_ret
      exact ⟨rfl, rfl⟩
end Go.Proofs.YtiebgjmfpnlolaaDoor
