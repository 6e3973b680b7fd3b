/- errors.As at a fault, a number, an error of errors.New, and at faults in one another. -/
import Derived.Test.YtiebgjmfpnlolaaDoorFtC
import Derived.Test.YtiebgjmfpnlolaaDoorFtO
import Derived.Deep.LoopGhost
import Derived.Test.YtiebgjmfpnlolaaDoorShelf
namespace Go.Proofs.YtiebgjmfpnlolaaDoor
open Go.RowKit Go.Extern.Stop Go.Stop Go.Extern
set_option maxRecDepth 100000

/-- The value at depth i of faults in one another. -/
def lk (n : Nat) (fb : Nat → Nat) (bot : Value) (i : Nat) : Value := if i < n then .iface 44 (.pointer (some ⟨fb i, 0, none⟩)) else bot
theorem lk_in {n : Nat} {fb : Nat → Nat} {bot : Value} {i : Nat} (h : i < n) : lk n fb bot i = .iface 44 (.pointer (some ⟨fb i, 0, none⟩)) := if_pos h
theorem lk_end {n : Nat} {fb : Nat → Nat} {bot : Value} : lk n fb bot n = bot := if_neg (Nat.lt_irrefl _)
/-- Faults in one another, and what lies in the innermost one. -/
def Chain (w : World) (n : Nat) (fb : Nat → Nat) (fs : Nat → ByteArray) (fp : Nat → Int) (bot : Value) : Prop :=
  ∀ i, i < n → fb i < w.heap.size ∧ w.cell? ⟨fb i, 0, none⟩ = some (.string (fs i)) ∧ w.cell? ⟨fb i, 1, none⟩ = some (.int .i64 (fp i)) ∧ w.cell? ⟨fb i, 2, none⟩ = some (lk n fb bot (i + 1))
theorem unwrap_any (b : Nat) (u : Value) (w : World) (h : w.cell? ⟨b, 2, none⟩ = some u) : Calls Tryd.prog 20 #[.pointer (some ⟨b, 0, none⟩)] w fun r w' => r = .returned u ∧ w' = w := by
  go_enter Tryd.func20, Tryd.ntmps20
  go_wp2
  go_ret
  exact ⟨rfl, rfl⟩
set_option maxHeartbeats 4000000 in
theorem as_F (x : Addr) (a t : Addr) (old : Value) (w : World) (ha : w.cell? a = some (.pointer (some t))) (ht : w.cell? t = some old) (hf : w.frozen? t = false) (la : a.block < w.heap.size) (lt : t.block < w.heap.size) :
    Calls Tryd.prog 41 #[.iface 44 (.pointer (some x)), .iface 88 (.pointer (some t)), .agg #[.pointer (some ⟨5, 88, none⟩), .pointer (some a), .int .u64 150], .iface 91 (.agg #[.pointer (some ⟨5, 44, none⟩)])] w fun r w' => r = .returned (.bool true) ∧ w' = ((w.alloc (.cells #[.pointer (some ⟨5, 88, none⟩), .pointer (some a), .int .u64 150] 77)).alloc (.cells #[.pointer (some x)] 44)).setCell t (.pointer (some x)) := by
  have xVO := @run_callFunc_extern Tryd.prog 38 _ (fun args => ReflectliteValue.unpack (args.getD 0 (.tuple #[]))) Tryd.func38 (by kernel_rfl) (by kernel_rfl) (by kernel_rfl) (by kernel_rfl)
  have xTO := @run_callFunc_extern Tryd.prog 42 _ (ReflectliteType.typeOf) Tryd.func42 (by kernel_rfl) (by kernel_rfl) (by kernel_rfl) (by kernel_rfl)
  have xAg := @run_callFunc_extern Tryd.prog 89 _ (ReflectliteType.relation "AssignableTo" ReflectliteType.assignableTo) Tryd.func89 (by kernel_rfl) (by kernel_rfl) (by kernel_rfl) (by kernel_rfl)
  have xEV := @run_callFunc_extern Tryd.prog 49 _ (ReflectliteValue.method (ReflectliteValue.valueError "reflectlite.Value.Elem" 0) ReflectliteValue.elem) Tryd.func49 (by kernel_rfl) (by kernel_rfl) (by kernel_rfl) (by kernel_rfl)
  have xSt := @run_callFunc_extern Tryd.prog 50 _ (ReflectliteValue.set) Tryd.func50 (by kernel_rfl) (by kernel_rfl) (by kernel_rfl) (by kernel_rfl)
  have f1 := @typeOfF
  have f2 := @rmAssignable
  have f3 := @asgFF
  have f4 := @vOfF
  have f5 := elVF a t (w.alloc (.cells #[.pointer (some ⟨5, 88, none⟩), .pointer (some a), .int .u64 150] 77)) (by rw [World.cell?_alloc_lt _ _ a la]; exact ha)
  have f6 := setF t ⟨w.heap.size + 1, 0, none⟩ x old ((w.alloc (.cells #[.pointer (some ⟨5, 88, none⟩), .pointer (some a), .int .u64 150] 77)).alloc (.cells #[.pointer (some x)] 44)) (by simp) (by rw [World.cell?_alloc_lt _ _ t (by simp; omega), World.cell?_alloc_lt _ _ t lt]; exact ht) (by rw [World.frozen?_alloc_old _ _ t (by simp; omega), World.frozen?_alloc_old _ _ t (Nat.ne_of_lt lt)]; exact hf)
  go_enter Tryd.func41, Tryd.ntmps41
  go_wp2
  refine wp_loop_rounds 1 ?_
  rw [rounds_succ]
  go_wp2
  go_ret
  exact ⟨rfl, rfl⟩
set_option maxHeartbeats 4000000 in
theorem as_E (x : Int) (a t : Addr) (old : Value) (w : World) (ha : w.cell? a = some (.pointer (some t))) (ht : w.cell? t = some old) (hf : w.frozen? t = false) (la : a.block < w.heap.size) (lt : t.block < w.heap.size) :
    Calls Tryd.prog 41 #[.iface 23 (.int .i64 x), .iface 60 (.pointer (some t)), .agg #[.pointer (some ⟨5, 60, none⟩), .pointer (some a), .int .u64 150], .iface 91 (.agg #[.pointer (some ⟨5, 23, none⟩)])] w fun r w' => r = .returned (.bool true) ∧ w' = ((w.alloc (.cells #[.pointer (some ⟨5, 60, none⟩), .pointer (some a), .int .u64 150] 77)).alloc (.cells #[.int .i64 x] 23)).setCell t (.int .i64 x) := by
  have xVO := @run_callFunc_extern Tryd.prog 38 _ (fun args => ReflectliteValue.unpack (args.getD 0 (.tuple #[]))) Tryd.func38 (by kernel_rfl) (by kernel_rfl) (by kernel_rfl) (by kernel_rfl)
  have xTO := @run_callFunc_extern Tryd.prog 42 _ (ReflectliteType.typeOf) Tryd.func42 (by kernel_rfl) (by kernel_rfl) (by kernel_rfl) (by kernel_rfl)
  have xAg := @run_callFunc_extern Tryd.prog 89 _ (ReflectliteType.relation "AssignableTo" ReflectliteType.assignableTo) Tryd.func89 (by kernel_rfl) (by kernel_rfl) (by kernel_rfl) (by kernel_rfl)
  have xEV := @run_callFunc_extern Tryd.prog 49 _ (ReflectliteValue.method (ReflectliteValue.valueError "reflectlite.Value.Elem" 0) ReflectliteValue.elem) Tryd.func49 (by kernel_rfl) (by kernel_rfl) (by kernel_rfl) (by kernel_rfl)
  have xSt := @run_callFunc_extern Tryd.prog 50 _ (ReflectliteValue.set) Tryd.func50 (by kernel_rfl) (by kernel_rfl) (by kernel_rfl) (by kernel_rfl)
  have f1 := @typeOfE
  have f2 := @rmAssignable
  have f3 := @asgEE
  have f4 := @vOfE
  have f5 := elVE a t (w.alloc (.cells #[.pointer (some ⟨5, 60, none⟩), .pointer (some a), .int .u64 150] 77)) (by rw [World.cell?_alloc_lt _ _ a la]; exact ha)
  have f6 := setE t ⟨w.heap.size + 1, 0, none⟩ x old ((w.alloc (.cells #[.pointer (some ⟨5, 60, none⟩), .pointer (some a), .int .u64 150] 77)).alloc (.cells #[.int .i64 x] 23)) (by simp) (by rw [World.cell?_alloc_lt _ _ t (by simp; omega), World.cell?_alloc_lt _ _ t lt]; exact ht) (by rw [World.frozen?_alloc_old _ _ t (by simp; omega), World.frozen?_alloc_old _ _ t (Nat.ne_of_lt lt)]; exact hf)
  go_enter Tryd.func41, Tryd.ntmps41
  go_wp2
  refine wp_loop_rounds 1 ?_
  rw [rounds_succ]
  go_wp2
  go_ret
  exact ⟨rfl, rfl⟩
end Go.Proofs.YtiebgjmfpnlolaaDoor
