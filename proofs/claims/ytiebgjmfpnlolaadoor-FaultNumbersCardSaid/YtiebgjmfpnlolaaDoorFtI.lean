/- Is, Code, first. -/
import Derived.Test.YtiebgjmfpnlolaaDoorFtH
import Derived.Test.YtiebgjmfpnlolaaDoorFtO
import Derived.Deep.LoopGhost
import Derived.Test.YtiebgjmfpnlolaaDoorShelf
namespace Go.Proofs.YtiebgjmfpnlolaaDoor
open Go.RowKit Go.Extern.Stop Go.Stop Go.Extern
set_option maxRecDepth 100000

theorem AsF_set (b q : Nat) (old : Value) (w : World) (hg : Laid w) (ht : w.cell? ⟨q, 0, none⟩ = some old) (hf : w.frozen? ⟨q, 0, none⟩ = false) (lt : q < w.heap.size) :
    Calls Tryd.prog 28 #[.iface 44 (.pointer (some ⟨b, 0, none⟩)), .iface 88 (.pointer (some ⟨q, 0, none⟩))] w fun r w' => r = .returned (.bool true) ∧ Set1 q (.pointer (some ⟨b, 0, none⟩)) w w' := by
  refine (As_F ⟨b, 0, none⟩ ⟨q, 0, none⟩ w hg old ht hf lt).mono ?_
  rintro r w' ⟨rfl, rfl⟩
  exact ⟨rfl, Set1.of (((((Below.refl _ _).alloc (Nat.le_refl _) _).alloc (by simp) _).alloc (by simp; omega) _).alloc (by simp; omega) _) lt ht hf⟩
theorem AsF_noE (x : Int) (q : Nat) (w : World) (hg : Laid w) :
    Calls Tryd.prog 28 #[.iface 23 (.int .i64 x), .iface 88 (.pointer (some ⟨q, 0, none⟩))] w fun r w' => r = .returned (.bool false) ∧ Below w.heap.size w w' := by
  refine (As_F_noE x ⟨q, 0, none⟩ w hg).mono ?_
  rintro r w' ⟨rfl, rfl⟩
  exact ⟨rfl, (((Below.refl _ _).alloc (Nat.le_refl _) _).alloc (by simp) _).alloc (by simp; omega) _⟩
theorem AsF_noS (x : Addr) (q : Nat) (w : World) (hg : Laid w) :
    Calls Tryd.prog 28 #[.iface 62 (.pointer (some x)), .iface 88 (.pointer (some ⟨q, 0, none⟩))] w fun r w' => r = .returned (.bool false) ∧ Below w.heap.size w w' := by
  refine (As_F_noS x ⟨q, 0, none⟩ w hg).mono ?_
  rintro r w' ⟨rfl, rfl⟩
  exact ⟨rfl, (((Below.refl _ _).alloc (Nat.le_refl _) _).alloc (by simp) _).alloc (by simp; omega) _⟩
theorem AsE_set (x : Int) (n : Nat) (fb : Nat → Nat) (fs : Nat → ByteArray) (fp : Nat → Int) (q : Nat) (old : Value) (w : World) (hg : Laid w) (hc : Chain w n fb fs fp (.iface 23 (.int .i64 x))) (ht : w.cell? ⟨q, 0, none⟩ = some old) (hf : w.frozen? ⟨q, 0, none⟩ = false) (lt : q < w.heap.size) :
    Calls Tryd.prog 28 #[lk n fb (.iface 23 (.int .i64 x)) 0, .iface 60 (.pointer (some ⟨q, 0, none⟩))] w fun r w' => r = .returned (.bool true) ∧ Set1 q (.int .i64 x) w w' := by
  refine (As_E_chainE x n fb fs fp ⟨q, 0, none⟩ w hg hc old ht hf lt).mono ?_
  rintro r w' ⟨rfl, rfl⟩
  exact ⟨rfl, Set1.of (((((Below.refl _ _).alloc (Nat.le_refl _) _).alloc (by simp) _).alloc (by simp; omega) _).alloc (by simp; omega) _) lt ht hf⟩
theorem AsE_no (x : Addr) (n : Nat) (fb : Nat → Nat) (fs : Nat → ByteArray) (fp : Nat → Int) (q : Nat) (w : World) (hg : Laid w) (hc : Chain w n fb fs fp (.iface 62 (.pointer (some x)))) :
    Calls Tryd.prog 28 #[lk n fb (.iface 62 (.pointer (some x))) 0, .iface 60 (.pointer (some ⟨q, 0, none⟩))] w fun r w' => r = .returned (.bool false) ∧ Below w.heap.size w w' := by
  refine (As_E_chainS x n fb fs fp ⟨q, 0, none⟩ w hg hc).mono ?_
  rintro r w' ⟨rfl, rfl⟩
  exact ⟨rfl, (((Below.refl _ _).alloc (Nat.le_refl _) _).alloc (by simp) _).alloc (by simp; omega) _⟩
theorem isQ (err : Value) (o : Int) (d : Bool) (pe pn : Addr) (w : World) (R : World → Prop) (h0 : w.cell? pe = some err) (h1 : w.cell? pn = some (.int .i64 o)) (hK : Calls Tryd.prog 30 #[err, .iface 23 (.int .i64 o)] w fun r w' => r = .returned (.bool d) ∧ R w') :
    Calls Tryd.prog 29 #[.pointer (some pe), .pointer (some pn)] w fun r w' => r = .returned (.bool d) ∧ R w' := by
  have HK := Lib.hid hK
  clear hK
  go_enter Tryd.func29, Tryd.ntmps29
  go_wp2_with (go_at_call 30; (with_reducible refine HK.out.mono ?_); rintro r w2 ⟨rfl, hb⟩; have HR := Lib.hid hb; clear hb)
  go_ret
  exact ⟨rfl, HR.out⟩
theorem codeQ (err : Value) (d : Bool) (pe pt : Addr) (w : World) (R : World → Prop) (h0 : w.cell? pe = some err) (hK : Calls Tryd.prog 28 #[err, .iface 60 (.pointer (some pt))] w fun r w' => r = .returned (.bool d) ∧ R w') :
    Calls Tryd.prog 27 #[.pointer (some pe), .pointer (some pt)] w fun r w' => r = .returned (.bool d) ∧ R w' := by
  have HK := Lib.hid hK
  clear hK
  go_enter Tryd.func27, Tryd.ntmps27
  go_wp2_with (go_at_call 28; (with_reducible refine HK.out.mono ?_); rintro r w2 ⟨rfl, hb⟩; have HR := Lib.hid hb; clear hb)
  go_ret
  exact ⟨rfl, HR.out⟩
theorem firstQ (err : Value) (d : Bool) (pe pt : Addr) (w : World) (R : World → Prop) (h0 : w.cell? pe = some err) (hK : Calls Tryd.prog 28 #[err, .iface 88 (.pointer (some pt))] w fun r w' => r = .returned (.bool d) ∧ R w') :
    Calls Tryd.prog 45 #[.pointer (some pe), .pointer (some pt)] w fun r w' => r = .returned (.bool d) ∧ R w' := by
  have HK := Lib.hid hK
  clear hK
  go_enter Tryd.func45, Tryd.ntmps45
  go_wp2_with (go_at_call 28; (with_reducible refine HK.out.mono ?_); rintro r w2 ⟨rfl, hb⟩; have HR := Lib.hid hb; clear hb)
  go_ret
  exact ⟨rfl, HR.out⟩
set_option maxHeartbeats 1600000 in
theorem Is_far (bt : TypeId) (u : Value) (o : Int) (d : Bool) (w : World) (hK : ∀ W, Below w.heap.size w W → Calls Tryd.prog 30 #[(.iface bt u), .iface 23 (.int .i64 o)] W fun r w' => r = .returned (.bool d) ∧ w' = W) :
    Calls Tryd.prog 16 #[(.iface bt u), .int .i64 o] w fun r w' => r = .returned (.bool d) ∧ Below w.heap.size w w' := by
  have hmf : ∀ (fn : Fn) (first cap : Array Value) (w : World), (Instr.makeFunc fn first cap).run Tryd.prog w = .ok (.func fn first cap) w := fun _ _ _ _ => rfl
  have HA := Lib.hid (show Below w.heap.size w ((w.alloc (.cells #[(.iface bt u)] 25)).alloc (.cells #[.int .i64 o] 23)) from ((Below.refl _ _).alloc (Nat.le_refl _) _).alloc (by simp) _)
  have HB := Lib.hid (show Below w.heap.size w (((w.alloc (.cells #[(.iface bt u)] 25)).alloc (.cells #[.int .i64 o] 23)).alloc (.cells #[.bool false] 4)) from HA.out.alloc (by simp; omega) _)
  have cE : (((w.alloc (.cells #[(.iface bt u)] 25)).alloc (.cells #[.int .i64 o] 23)).alloc (.cells #[.bool false] 4)).cell? ⟨w.heap.size, 0, none⟩ = some (.iface bt u) := by go_simp
  have cN : (((w.alloc (.cells #[(.iface bt u)] 25)).alloc (.cells #[.int .i64 o] 23)).alloc (.cells #[.bool false] 4)).cell? ⟨w.heap.size + 1, 0, none⟩ = some (.int .i64 o) := by go_simp
  have HQ := Lib.hid (askI_far (.pointer (some ⟨w.heap.size, 0, none⟩)) (.pointer (some ⟨w.heap.size + 1, 0, none⟩)) d ((w.alloc (.cells #[(.iface bt u)] 25)).alloc (.cells #[.int .i64 o] 23)) ((isQ (.iface bt u) o d ⟨w.heap.size, 0, none⟩ ⟨w.heap.size + 1, 0, none⟩ (((w.alloc (.cells #[(.iface bt u)] 25)).alloc (.cells #[.int .i64 o] 23)).alloc (.cells #[.bool false] 4)) (fun w' => w' = ((w.alloc (.cells #[(.iface bt u)] 25)).alloc (.cells #[.int .i64 o] 23)).alloc (.cells #[.bool false] 4)) cE cN (hK _ HB.out)).mono fun r w' h => ⟨h.1, by rw [h.2]; exact Below.refl _ _⟩))
  clear hK cE cN
  go_enter Tryd.func16, Tryd.ntmps16
  go_wp2_with (go_at_call 26; (with_reducible refine HQ.out.mono ?_); rintro r w2 ⟨rfl, hb⟩; have HR := Lib.hid (HA.out.trans (hb.mono HA.out.size)); clear hb)
  go_ret
  exact ⟨rfl, HR.out⟩
set_option maxHeartbeats 1600000 in
theorem Is_far_nil  (o : Int) (d : Bool) (w : World) (hK : ∀ W, Below w.heap.size w W → Calls Tryd.prog 30 #[.nilIface, .iface 23 (.int .i64 o)] W fun r w' => r = .returned (.bool d) ∧ w' = W) :
    Calls Tryd.prog 16 #[.nilIface, .int .i64 o] w fun r w' => r = .returned (.bool d) ∧ Below w.heap.size w w' := by
  have hmf : ∀ (fn : Fn) (first cap : Array Value) (w : World), (Instr.makeFunc fn first cap).run Tryd.prog w = .ok (.func fn first cap) w := fun _ _ _ _ => rfl
  have HA := Lib.hid (show Below w.heap.size w ((w.alloc (.cells #[.nilIface] 25)).alloc (.cells #[.int .i64 o] 23)) from ((Below.refl _ _).alloc (Nat.le_refl _) _).alloc (by simp) _)
  have HB := Lib.hid (show Below w.heap.size w (((w.alloc (.cells #[.nilIface] 25)).alloc (.cells #[.int .i64 o] 23)).alloc (.cells #[.bool false] 4)) from HA.out.alloc (by simp; omega) _)
  have cE : (((w.alloc (.cells #[.nilIface] 25)).alloc (.cells #[.int .i64 o] 23)).alloc (.cells #[.bool false] 4)).cell? ⟨w.heap.size, 0, none⟩ = some .nilIface := by go_simp
  have cN : (((w.alloc (.cells #[.nilIface] 25)).alloc (.cells #[.int .i64 o] 23)).alloc (.cells #[.bool false] 4)).cell? ⟨w.heap.size + 1, 0, none⟩ = some (.int .i64 o) := by go_simp
  have HQ := Lib.hid (askI_far (.pointer (some ⟨w.heap.size, 0, none⟩)) (.pointer (some ⟨w.heap.size + 1, 0, none⟩)) d ((w.alloc (.cells #[.nilIface] 25)).alloc (.cells #[.int .i64 o] 23)) ((isQ .nilIface o d ⟨w.heap.size, 0, none⟩ ⟨w.heap.size + 1, 0, none⟩ (((w.alloc (.cells #[.nilIface] 25)).alloc (.cells #[.int .i64 o] 23)).alloc (.cells #[.bool false] 4)) (fun w' => w' = ((w.alloc (.cells #[.nilIface] 25)).alloc (.cells #[.int .i64 o] 23)).alloc (.cells #[.bool false] 4)) cE cN (hK _ HB.out)).mono fun r w' h => ⟨h.1, by rw [h.2]; exact Below.refl _ _⟩))
  clear hK cE cN
  go_enter Tryd.func16, Tryd.ntmps16
  go_wp2_with (go_at_call 26; (with_reducible refine HQ.out.mono ?_); rintro r w2 ⟨rfl, hb⟩; have HR := Lib.hid (HA.out.trans (hb.mono HA.out.size)); clear hb)
  go_ret
  exact ⟨rfl, HR.out⟩
end Go.Proofs.YtiebgjmfpnlolaaDoor
