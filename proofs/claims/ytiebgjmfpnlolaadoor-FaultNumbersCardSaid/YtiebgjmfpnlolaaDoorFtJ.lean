/- first and Code. -/
import Derived.Test.YtiebgjmfpnlolaaDoorFtI
import Derived.Test.YtiebgjmfpnlolaaDoorFtO
import Derived.Deep.LoopGhost
import Derived.Test.YtiebgjmfpnlolaaDoorShelf
namespace Go.Proofs.YtiebgjmfpnlolaaDoor
open Go.RowKit Go.Extern.Stop Go.Stop Go.Extern
set_option maxRecDepth 100000

set_option maxHeartbeats 1600000 in
theorem first_no (bt : TypeId) (u : Value) (w : World) (hK : ∀ W q, Below w.heap.size w W → W.cell? ⟨q, 0, none⟩ = some (.pointer none) → W.frozen? ⟨q, 0, none⟩ = false → q < W.heap.size → Calls Tryd.prog 28 #[(.iface bt u), .iface 88 (.pointer (some ⟨q, 0, none⟩))] W fun r w' => r = .returned (.bool false) ∧ Below W.heap.size W w') :
    Calls Tryd.prog 32 #[(.iface bt u)] w fun r w' => r = .returned (.tuple #[.pointer none, .bool false]) ∧ Below w.heap.size w w' := by
  have hmf : ∀ (fn : Fn) (first cap : Array Value) (w : World), (Instr.makeFunc fn first cap).run Tryd.prog w = .ok (.func fn first cap) w := fun _ _ _ _ => rfl
  have HA := Lib.hid (show Below w.heap.size w ((w.alloc (.cells #[(.iface bt u)] 25)).alloc (.cells #[.pointer none] 44)) from ((Below.refl _ _).alloc (Nat.le_refl _) _).alloc (by simp) _)
  have HB := Lib.hid (show Below w.heap.size w (((w.alloc (.cells #[(.iface bt u)] 25)).alloc (.cells #[.pointer none] 44)).alloc (.cells #[.bool false] 4)) from HA.out.alloc (by simp; omega) _)
  have cE : (((w.alloc (.cells #[(.iface bt u)] 25)).alloc (.cells #[.pointer none] 44)).alloc (.cells #[.bool false] 4)).cell? ⟨w.heap.size, 0, none⟩ = some (.iface bt u) := by go_simp
  have cT : (((w.alloc (.cells #[(.iface bt u)] 25)).alloc (.cells #[.pointer none] 44)).alloc (.cells #[.bool false] 4)).cell? ⟨w.heap.size + 1, 0, none⟩ = some (.pointer none) := by go_simp
  have cF : (((w.alloc (.cells #[(.iface bt u)] 25)).alloc (.cells #[.pointer none] 44)).alloc (.cells #[.bool false] 4)).frozen? ⟨w.heap.size + 1, 0, none⟩ = false := by go_simp
  have cZ : w.heap.size + 1 < (((w.alloc (.cells #[(.iface bt u)] 25)).alloc (.cells #[.pointer none] 44)).alloc (.cells #[.bool false] 4)).heap.size := by simp
  have HQ := Lib.hid (askF_far (.pointer (some ⟨w.heap.size, 0, none⟩)) (.pointer (some ⟨w.heap.size + 1, 0, none⟩)) false ((w.alloc (.cells #[(.iface bt u)] 25)).alloc (.cells #[.pointer none] 44)) (firstQ (.iface bt u) false ⟨w.heap.size, 0, none⟩ ⟨w.heap.size + 1, 0, none⟩ (((w.alloc (.cells #[(.iface bt u)] 25)).alloc (.cells #[.pointer none] 44)).alloc (.cells #[.bool false] 4)) (fun w' => Below (((w.alloc (.cells #[(.iface bt u)] 25)).alloc (.cells #[.pointer none] 44)).alloc (.cells #[.bool false] 4)).heap.size (((w.alloc (.cells #[(.iface bt u)] 25)).alloc (.cells #[.pointer none] 44)).alloc (.cells #[.bool false] 4)) w') cE (hK _ _ HB.out cT cF cZ)))
  clear hK cE cT cF cZ
  go_enter Tryd.func32, Tryd.ntmps32
  go_wp2_with (go_at_call 26; (with_reducible refine HQ.out.mono ?_); rintro r w2 ⟨rfl, hb⟩; have HR := Lib.hid (HA.out.trans (hb.mono HA.out.size)); clear hb)
  refine bodyPost_ret (v := .tuple #[.pointer none, .bool false]) ?_ rfl ?_
  · simp only [results, Tryd.results32]; go_simp
  · exact ⟨rfl, HR.out⟩
set_option maxHeartbeats 1600000 in
theorem first_yes (bt : TypeId) (u : Value) (b : Nat) (w : World) (hK : ∀ W q, Below w.heap.size w W → W.cell? ⟨q, 0, none⟩ = some (.pointer none) → W.frozen? ⟨q, 0, none⟩ = false → q < W.heap.size → Calls Tryd.prog 28 #[(.iface bt u), .iface 88 (.pointer (some ⟨q, 0, none⟩))] W fun r w' => r = .returned (.bool true) ∧ Set1 q (.pointer (some ⟨b, 0, none⟩)) W w') :
    Calls Tryd.prog 32 #[(.iface bt u)] w fun r w' => r = .returned (.tuple #[.pointer (some ⟨b, 0, none⟩), .bool true]) ∧ Below w.heap.size w w' := by
  have hmf : ∀ (fn : Fn) (first cap : Array Value) (w : World), (Instr.makeFunc fn first cap).run Tryd.prog w = .ok (.func fn first cap) w := fun _ _ _ _ => rfl
  have HA := Lib.hid (show Below w.heap.size w ((w.alloc (.cells #[(.iface bt u)] 25)).alloc (.cells #[.pointer none] 44)) from ((Below.refl _ _).alloc (Nat.le_refl _) _).alloc (by simp) _)
  have HB := Lib.hid (show Below w.heap.size w (((w.alloc (.cells #[(.iface bt u)] 25)).alloc (.cells #[.pointer none] 44)).alloc (.cells #[.bool false] 4)) from HA.out.alloc (by simp; omega) _)
  have cE : (((w.alloc (.cells #[(.iface bt u)] 25)).alloc (.cells #[.pointer none] 44)).alloc (.cells #[.bool false] 4)).cell? ⟨w.heap.size, 0, none⟩ = some (.iface bt u) := by go_simp
  have cT : (((w.alloc (.cells #[(.iface bt u)] 25)).alloc (.cells #[.pointer none] 44)).alloc (.cells #[.bool false] 4)).cell? ⟨w.heap.size + 1, 0, none⟩ = some (.pointer none) := by go_simp
  have cF : (((w.alloc (.cells #[(.iface bt u)] 25)).alloc (.cells #[.pointer none] 44)).alloc (.cells #[.bool false] 4)).frozen? ⟨w.heap.size + 1, 0, none⟩ = false := by go_simp
  have cZ : w.heap.size + 1 < (((w.alloc (.cells #[(.iface bt u)] 25)).alloc (.cells #[.pointer none] 44)).alloc (.cells #[.bool false] 4)).heap.size := by simp
  have HQ := Lib.hid (askF_set (.pointer (some ⟨w.heap.size, 0, none⟩)) (.pointer (some ⟨w.heap.size + 1, 0, none⟩)) (.pointer (some ⟨b, 0, none⟩)) (w.heap.size + 1) ((w.alloc (.cells #[(.iface bt u)] 25)).alloc (.cells #[.pointer none] 44)) (by simp) (firstQ (.iface bt u) true ⟨w.heap.size, 0, none⟩ ⟨w.heap.size + 1, 0, none⟩ (((w.alloc (.cells #[(.iface bt u)] 25)).alloc (.cells #[.pointer none] 44)).alloc (.cells #[.bool false] 4)) (fun w' => Set1 (w.heap.size + 1) (.pointer (some ⟨b, 0, none⟩)) (((w.alloc (.cells #[(.iface bt u)] 25)).alloc (.cells #[.pointer none] 44)).alloc (.cells #[.bool false] 4)) w') cE (hK _ _ HB.out cT cF cZ)))
  clear hK cE cT cF cZ
  go_enter Tryd.func32, Tryd.ntmps32
  go_wp2_with (go_at_call 26; (with_reducible refine HQ.out.mono ?_); rintro r w2 ⟨rfl, hb⟩; have HR := Lib.hid (HA.out.trans (hb.2.2.2.2 w.heap.size (by omega))); have c0 := hb.1; clear hb)
  refine bodyPost_ret (v := .tuple #[.pointer (some ⟨b, 0, none⟩), .bool true]) ?_ rfl ?_
  · simp only [results, Tryd.results32]; go_simp
  · exact ⟨rfl, HR.out⟩
set_option maxHeartbeats 1600000 in
theorem first_no_nil  (w : World) (hK : ∀ W q, Below w.heap.size w W → W.cell? ⟨q, 0, none⟩ = some (.pointer none) → W.frozen? ⟨q, 0, none⟩ = false → q < W.heap.size → Calls Tryd.prog 28 #[.nilIface, .iface 88 (.pointer (some ⟨q, 0, none⟩))] W fun r w' => r = .returned (.bool false) ∧ Below W.heap.size W w') :
    Calls Tryd.prog 32 #[.nilIface] w fun r w' => r = .returned (.tuple #[.pointer none, .bool false]) ∧ Below w.heap.size w w' := by
  have hmf : ∀ (fn : Fn) (first cap : Array Value) (w : World), (Instr.makeFunc fn first cap).run Tryd.prog w = .ok (.func fn first cap) w := fun _ _ _ _ => rfl
  have HA := Lib.hid (show Below w.heap.size w ((w.alloc (.cells #[.nilIface] 25)).alloc (.cells #[.pointer none] 44)) from ((Below.refl _ _).alloc (Nat.le_refl _) _).alloc (by simp) _)
  have HB := Lib.hid (show Below w.heap.size w (((w.alloc (.cells #[.nilIface] 25)).alloc (.cells #[.pointer none] 44)).alloc (.cells #[.bool false] 4)) from HA.out.alloc (by simp; omega) _)
  have cE : (((w.alloc (.cells #[.nilIface] 25)).alloc (.cells #[.pointer none] 44)).alloc (.cells #[.bool false] 4)).cell? ⟨w.heap.size, 0, none⟩ = some .nilIface := by go_simp
  have cT : (((w.alloc (.cells #[.nilIface] 25)).alloc (.cells #[.pointer none] 44)).alloc (.cells #[.bool false] 4)).cell? ⟨w.heap.size + 1, 0, none⟩ = some (.pointer none) := by go_simp
  have cF : (((w.alloc (.cells #[.nilIface] 25)).alloc (.cells #[.pointer none] 44)).alloc (.cells #[.bool false] 4)).frozen? ⟨w.heap.size + 1, 0, none⟩ = false := by go_simp
  have cZ : w.heap.size + 1 < (((w.alloc (.cells #[.nilIface] 25)).alloc (.cells #[.pointer none] 44)).alloc (.cells #[.bool false] 4)).heap.size := by simp
  have HQ := Lib.hid (askF_far (.pointer (some ⟨w.heap.size, 0, none⟩)) (.pointer (some ⟨w.heap.size + 1, 0, none⟩)) false ((w.alloc (.cells #[.nilIface] 25)).alloc (.cells #[.pointer none] 44)) (firstQ .nilIface false ⟨w.heap.size, 0, none⟩ ⟨w.heap.size + 1, 0, none⟩ (((w.alloc (.cells #[.nilIface] 25)).alloc (.cells #[.pointer none] 44)).alloc (.cells #[.bool false] 4)) (fun w' => Below (((w.alloc (.cells #[.nilIface] 25)).alloc (.cells #[.pointer none] 44)).alloc (.cells #[.bool false] 4)).heap.size (((w.alloc (.cells #[.nilIface] 25)).alloc (.cells #[.pointer none] 44)).alloc (.cells #[.bool false] 4)) w') cE (hK _ _ HB.out cT cF cZ)))
  clear hK cE cT cF cZ
  go_enter Tryd.func32, Tryd.ntmps32
  go_wp2_with (go_at_call 26; (with_reducible refine HQ.out.mono ?_); rintro r w2 ⟨rfl, hb⟩; have HR := Lib.hid (HA.out.trans (hb.mono HA.out.size)); clear hb)
  refine bodyPost_ret (v := .tuple #[.pointer none, .bool false]) ?_ rfl ?_
  · simp only [results, Tryd.results32]; go_simp
  · exact ⟨rfl, HR.out⟩
set_option maxHeartbeats 1600000 in
theorem Code_no (bt : TypeId) (u : Value) (w : World) (hK : ∀ W q, Below w.heap.size w W → W.cell? ⟨q, 0, none⟩ = some (.int .i64 0) → W.frozen? ⟨q, 0, none⟩ = false → q < W.heap.size → Calls Tryd.prog 28 #[(.iface bt u), .iface 60 (.pointer (some ⟨q, 0, none⟩))] W fun r w' => r = .returned (.bool false) ∧ Below W.heap.size W w') :
    Calls Tryd.prog 15 #[(.iface bt u)] w fun r w' => r = .returned (.int .i64 3) ∧ Below w.heap.size w w' := by
  have hmf : ∀ (fn : Fn) (first cap : Array Value) (w : World), (Instr.makeFunc fn first cap).run Tryd.prog w = .ok (.func fn first cap) w := fun _ _ _ _ => rfl
  have HA := Lib.hid (show Below w.heap.size w ((w.alloc (.cells #[(.iface bt u)] 25)).alloc (.cells #[.int .i64 0] 23)) from ((Below.refl _ _).alloc (Nat.le_refl _) _).alloc (by simp) _)
  have HB := Lib.hid (show Below w.heap.size w (((w.alloc (.cells #[(.iface bt u)] 25)).alloc (.cells #[.int .i64 0] 23)).alloc (.cells #[.bool false] 4)) from HA.out.alloc (by simp; omega) _)
  have cE : (((w.alloc (.cells #[(.iface bt u)] 25)).alloc (.cells #[.int .i64 0] 23)).alloc (.cells #[.bool false] 4)).cell? ⟨w.heap.size, 0, none⟩ = some (.iface bt u) := by go_simp
  have cT : (((w.alloc (.cells #[(.iface bt u)] 25)).alloc (.cells #[.int .i64 0] 23)).alloc (.cells #[.bool false] 4)).cell? ⟨w.heap.size + 1, 0, none⟩ = some (.int .i64 0) := by go_simp
  have cF : (((w.alloc (.cells #[(.iface bt u)] 25)).alloc (.cells #[.int .i64 0] 23)).alloc (.cells #[.bool false] 4)).frozen? ⟨w.heap.size + 1, 0, none⟩ = false := by go_simp
  have cZ : w.heap.size + 1 < (((w.alloc (.cells #[(.iface bt u)] 25)).alloc (.cells #[.int .i64 0] 23)).alloc (.cells #[.bool false] 4)).heap.size := by simp
  have HQ := Lib.hid (askC_far (.pointer (some ⟨w.heap.size, 0, none⟩)) (.pointer (some ⟨w.heap.size + 1, 0, none⟩)) false ((w.alloc (.cells #[(.iface bt u)] 25)).alloc (.cells #[.int .i64 0] 23)) (codeQ (.iface bt u) false ⟨w.heap.size, 0, none⟩ ⟨w.heap.size + 1, 0, none⟩ (((w.alloc (.cells #[(.iface bt u)] 25)).alloc (.cells #[.int .i64 0] 23)).alloc (.cells #[.bool false] 4)) (fun w' => Below (((w.alloc (.cells #[(.iface bt u)] 25)).alloc (.cells #[.int .i64 0] 23)).alloc (.cells #[.bool false] 4)).heap.size (((w.alloc (.cells #[(.iface bt u)] 25)).alloc (.cells #[.int .i64 0] 23)).alloc (.cells #[.bool false] 4)) w') cE (hK _ _ HB.out cT cF cZ)))
  clear hK cE cT cF cZ
  go_enter Tryd.func15, Tryd.ntmps15
  go_wp2_with (go_at_call 26; (with_reducible refine HQ.out.mono ?_); rintro r w2 ⟨rfl, hb⟩; have HR := Lib.hid (HA.out.trans (hb.mono HA.out.size)); clear hb)
  go_ret
  exact ⟨rfl, HR.out⟩
set_option maxHeartbeats 1600000 in
theorem Code_yes (bt : TypeId) (u : Value) (x : Int) (w : World) (hK : ∀ W q, Below w.heap.size w W → W.cell? ⟨q, 0, none⟩ = some (.int .i64 0) → W.frozen? ⟨q, 0, none⟩ = false → q < W.heap.size → Calls Tryd.prog 28 #[(.iface bt u), .iface 60 (.pointer (some ⟨q, 0, none⟩))] W fun r w' => r = .returned (.bool true) ∧ Set1 q (.int .i64 x) W w') :
    Calls Tryd.prog 15 #[(.iface bt u)] w fun r w' => r = .returned (.int .i64 x) ∧ Below w.heap.size w w' := by
  have hmf : ∀ (fn : Fn) (first cap : Array Value) (w : World), (Instr.makeFunc fn first cap).run Tryd.prog w = .ok (.func fn first cap) w := fun _ _ _ _ => rfl
  have HA := Lib.hid (show Below w.heap.size w ((w.alloc (.cells #[(.iface bt u)] 25)).alloc (.cells #[.int .i64 0] 23)) from ((Below.refl _ _).alloc (Nat.le_refl _) _).alloc (by simp) _)
  have HB := Lib.hid (show Below w.heap.size w (((w.alloc (.cells #[(.iface bt u)] 25)).alloc (.cells #[.int .i64 0] 23)).alloc (.cells #[.bool false] 4)) from HA.out.alloc (by simp; omega) _)
  have cE : (((w.alloc (.cells #[(.iface bt u)] 25)).alloc (.cells #[.int .i64 0] 23)).alloc (.cells #[.bool false] 4)).cell? ⟨w.heap.size, 0, none⟩ = some (.iface bt u) := by go_simp
  have cT : (((w.alloc (.cells #[(.iface bt u)] 25)).alloc (.cells #[.int .i64 0] 23)).alloc (.cells #[.bool false] 4)).cell? ⟨w.heap.size + 1, 0, none⟩ = some (.int .i64 0) := by go_simp
  have cF : (((w.alloc (.cells #[(.iface bt u)] 25)).alloc (.cells #[.int .i64 0] 23)).alloc (.cells #[.bool false] 4)).frozen? ⟨w.heap.size + 1, 0, none⟩ = false := by go_simp
  have cZ : w.heap.size + 1 < (((w.alloc (.cells #[(.iface bt u)] 25)).alloc (.cells #[.int .i64 0] 23)).alloc (.cells #[.bool false] 4)).heap.size := by simp
  have HQ := Lib.hid (askC_set (.pointer (some ⟨w.heap.size, 0, none⟩)) (.pointer (some ⟨w.heap.size + 1, 0, none⟩)) (.int .i64 x) (w.heap.size + 1) ((w.alloc (.cells #[(.iface bt u)] 25)).alloc (.cells #[.int .i64 0] 23)) (by simp) (codeQ (.iface bt u) true ⟨w.heap.size, 0, none⟩ ⟨w.heap.size + 1, 0, none⟩ (((w.alloc (.cells #[(.iface bt u)] 25)).alloc (.cells #[.int .i64 0] 23)).alloc (.cells #[.bool false] 4)) (fun w' => Set1 (w.heap.size + 1) (.int .i64 x) (((w.alloc (.cells #[(.iface bt u)] 25)).alloc (.cells #[.int .i64 0] 23)).alloc (.cells #[.bool false] 4)) w') cE (hK _ _ HB.out cT cF cZ)))
  clear hK cE cT cF cZ
  go_enter Tryd.func15, Tryd.ntmps15
  go_wp2_with (go_at_call 26; (with_reducible refine HQ.out.mono ?_); rintro r w2 ⟨rfl, hb⟩; have HR := Lib.hid (HA.out.trans (hb.2.2.2.2 w.heap.size (by omega))); have c0 := hb.1; clear hb)
  go_ret
  exact ⟨rfl, HR.out⟩
theorem Code_nil (w : World) : Calls Tryd.prog 15 #[.nilIface] w fun r w' => r = .returned (.int .i64 0) ∧ Below w.heap.size w w' := by
  go_enter Tryd.func15, Tryd.ntmps15
  go_wp2
  go_ret
  exact ⟨rfl, (Below.refl _ _).alloc (Nat.le_refl _) _⟩
end Go.Proofs.YtiebgjmfpnlolaaDoor
