/- Questions that are asked, and that may panic. -/
import Derived.Test.YtiebgjmfpnlolaaDoorFtG
import Derived.Defers
import Derived.Recover
import Derived.Test.YtiebgjmfpnlolaaDoorFtO
import Derived.Deep.LoopGhost
import Derived.Test.YtiebgjmfpnlolaaDoorShelf
namespace Go.Proofs.YtiebgjmfpnlolaaDoor
open Go.RowKit Go.Extern.Stop Go.Stop Go.Extern
set_option maxRecDepth 100000

/-- One variable is set; what else was there is as it was. -/
def Set1 (b : Nat) (v : Value) (w w' : World) : Prop :=
  w'.cell? ⟨b, 0, none⟩ = some v ∧ w'.frozen? ⟨b, 0, none⟩ = false ∧ w.heap.size ≤ w'.heap.size ∧ (∀ q o, q < w.heap.size → q ≠ b → w'.cell? ⟨q, o, none⟩ = w.cell? ⟨q, o, none⟩ ∧ w'.frozen? ⟨q, o, none⟩ = w.frozen? ⟨q, o, none⟩) ∧ ∀ B, B ≤ b → Below B w w'
theorem Set1.of {b : Nat} {v old : Value} {w w1 : World} (h : Below w.heap.size w w1) (hb : b < w.heap.size) (ht : w.cell? ⟨b, 0, none⟩ = some old) (hf : w.frozen? ⟨b, 0, none⟩ = false) : Set1 b v w (w1.setCell ⟨b, 0, none⟩ v) := by
  have h1 := ((bcell h).1 b 0 hb).trans ht
  have h2 := ((bcell h).2 b 0 hb).trans hf
  refine ⟨World.cell?_setCell_same _ _ _ h1, by simp [h2], by simpa using h.size, fun q o hq hn => ⟨?_, ?_⟩, fun B hB => (h.mono (by omega)).setCell hB _⟩
  · rw [World.cell?_setCell_far _ _ _ _ (by simpa using fun e => hn e.symm)]
    exact (bcell h).1 q o hq
  · simp
    exact (bcell h).2 q o hq
theorem neq_nil_any (w : World) : (binOp .neq 20 .nilIface .nilIface).run Tryd.prog w = .ok (.bool false) w := by kernel_rfl
theorem asked_idle (p : Addr) (w : World) :
    CallsD Tryd.prog 37 #[.pointer (some p)] .returning w fun e u' w' => e = .returned (.tuple #[]) ∧ u' = .returning ∧ w' = w := by
  refine callsD_of_wpS Tryd.func37 rfl fun c₀ cs hu => ?_
  apply wpS_seq
  apply wpS_region
  simp [wpOpsS, go_sem, recoverD, hu, Tryd.ntmps37, Exit.thenS]
  refine wpS_cond (t := false) (by simp [Act.eval, Array.replicate]) ?_
  simp only [Bool.false_eq_true, if_false]
  refine wpS_of_wp (wp_skip ?_)
  cases c₀
  simp_all [bodyPostS, results, Tryd.results37]
theorem set1_on {b : Nat} {v : Value} {w w1 w2 : World} {x : Value} (hb : b < w.heap.size) (h1 : Below w.heap.size w w1) (h2 : Set1 b v w1 w2) : Set1 b v w (w2.setCell ⟨w.heap.size, 0, none⟩ x) := by
  obtain ⟨c, f, s, k, B⟩ := h2
  have hs := h1.size
  refine ⟨by rw [World.cell?_setCell_far _ _ _ _ (by simp; omega)]; exact c, by simp [f], by simpa using (by omega : w.heap.size ≤ w2.heap.size), fun q o hq hn => ⟨?_, ?_⟩, fun D hD => ((h1.mono (by omega)).trans (B D hD)).setCell (by simp; omega) _⟩
  · rw [World.cell?_setCell_far _ _ _ _ (by simp; omega)]
    exact (k q o (by omega) hn).1.trans ((bcell h1).1 q o hq)
  · simp
    exact (k q o (by omega) hn).2.trans ((bcell h1).2 q o hq)
set_option maxHeartbeats 1600000 in
theorem askI_far (p0 p1 : Value) (d : Bool) (w : World) (hc : Calls Tryd.prog 29 #[p0, p1] (w.alloc (.cells #[.bool false] 4)) fun r w2 => r = .returned (.bool d) ∧ Below (w.alloc (.cells #[.bool false] 4)).heap.size (w.alloc (.cells #[.bool false] 4)) w2) :
    Calls Tryd.prog 26 #[.func (.func 29) #[] #[p0, p1]] w fun r w' => r = .returned (.bool d) ∧ Below w.heap.size w w' := by
  have hmf : ∀ (fn : Fn) (first cap : Array Value) (w : World), (Instr.makeFunc fn first cap).run Tryd.prog w = .ok (.func fn first cap) w := fun _ _ _ _ => rfl
  have HA := Lib.hid (show Below w.heap.size w (w.alloc (.cells #[.bool false] 4)) from (Below.refl _ _).alloc (Nat.le_refl _) _)
  have HC0 := Lib.hid (show (w.alloc (.cells #[.bool false] 4)).cell? ⟨w.heap.size, 0, none⟩ = some (.bool false) by go_simp)
  have HCF := Lib.hid (show (w.alloc (.cells #[.bool false] 4)).frozen? ⟨w.heap.size, 0, none⟩ = false by go_simp)
  have HK := Lib.hid hc
  clear hc
  go_enter_defers Tryd.func26, Tryd.ntmps26
  go_wp2_with (go_at_call 29; (with_reducible refine HK.out.mono ?_); rintro r w1 ⟨rfl, hb⟩; have HB := Lib.hid (HA.out.trans (hb.mono HA.out.size)); have c1 := ((bcell hb).1 _ _ (by simp)).trans HC0.out; have cf1 := ((bcell hb).2 _ _ (by simp)).trans HCF.out; clear hb)
  refine leaves_cons (f := 37) (args := #[.pointer (some ⟨w.heap.size, 0, none⟩)]) (by simp) (by simp [go_sem]) ?_
  refine (asked_idle ⟨w.heap.size, 0, none⟩ _).mono ?_
  rintro r u' w2 ⟨rfl, rfl, rfl⟩
  have c2 := World.cell?_setCell_same w1 ⟨w.heap.size, 0, none⟩ (.bool d) c1
  simp [Leaves, settle, results, Tryd.results26, go_sem, c2]
  exact HB.out.setCell (by simp) _
set_option maxHeartbeats 1600000 in
theorem askI_set (p0 p1 v : Value) (b : Nat) (w : World) (hbw : b < w.heap.size) (hc : Calls Tryd.prog 29 #[p0, p1] (w.alloc (.cells #[.bool false] 4)) fun r w2 => r = .returned (.bool true) ∧ Set1 b v (w.alloc (.cells #[.bool false] 4)) w2) :
    Calls Tryd.prog 26 #[.func (.func 29) #[] #[p0, p1]] w fun r w' => r = .returned (.bool true) ∧ Set1 b v w w' := by
  have hmf : ∀ (fn : Fn) (first cap : Array Value) (w : World), (Instr.makeFunc fn first cap).run Tryd.prog w = .ok (.func fn first cap) w := fun _ _ _ _ => rfl
  have HA := Lib.hid (show Below w.heap.size w (w.alloc (.cells #[.bool false] 4)) from (Below.refl _ _).alloc (Nat.le_refl _) _)
  have HC0 := Lib.hid (show (w.alloc (.cells #[.bool false] 4)).cell? ⟨w.heap.size, 0, none⟩ = some (.bool false) by go_simp)
  have HCF := Lib.hid (show (w.alloc (.cells #[.bool false] 4)).frozen? ⟨w.heap.size, 0, none⟩ = false by go_simp)
  have HK := Lib.hid hc
  clear hc
  go_enter_defers Tryd.func26, Tryd.ntmps26
  go_wp2_with (go_at_call 29; (with_reducible refine HK.out.mono ?_); rintro r w1 ⟨rfl, hb⟩; have HS := Lib.hid hb; have c1 := (hb.2.2.2.1 w.heap.size 0 (by simp) (by omega)).1.trans HC0.out; have cf1 := (hb.2.2.2.1 w.heap.size 0 (by simp) (by omega)).2.trans HCF.out; clear hb)
  refine leaves_cons (f := 37) (args := #[.pointer (some ⟨w.heap.size, 0, none⟩)]) (by simp) (by simp [go_sem]) ?_
  refine (asked_idle ⟨w.heap.size, 0, none⟩ _).mono ?_
  rintro r u' w2 ⟨rfl, rfl, rfl⟩
  have c2 := World.cell?_setCell_same w1 ⟨w.heap.size, 0, none⟩ (.bool true) c1
  simp [Leaves, settle, results, Tryd.results26, go_sem, c2]
  exact set1_on hbw HA.out HS.out
set_option maxHeartbeats 1600000 in
theorem askC_far (p0 p1 : Value) (d : Bool) (w : World) (hc : Calls Tryd.prog 27 #[p0, p1] (w.alloc (.cells #[.bool false] 4)) fun r w2 => r = .returned (.bool d) ∧ Below (w.alloc (.cells #[.bool false] 4)).heap.size (w.alloc (.cells #[.bool false] 4)) w2) :
    Calls Tryd.prog 26 #[.func (.func 27) #[] #[p0, p1]] w fun r w' => r = .returned (.bool d) ∧ Below w.heap.size w w' := by
  have hmf : ∀ (fn : Fn) (first cap : Array Value) (w : World), (Instr.makeFunc fn first cap).run Tryd.prog w = .ok (.func fn first cap) w := fun _ _ _ _ => rfl
  have HA := Lib.hid (show Below w.heap.size w (w.alloc (.cells #[.bool false] 4)) from (Below.refl _ _).alloc (Nat.le_refl _) _)
  have HC0 := Lib.hid (show (w.alloc (.cells #[.bool false] 4)).cell? ⟨w.heap.size, 0, none⟩ = some (.bool false) by go_simp)
  have HCF := Lib.hid (show (w.alloc (.cells #[.bool false] 4)).frozen? ⟨w.heap.size, 0, none⟩ = false by go_simp)
  have HK := Lib.hid hc
  clear hc
  go_enter_defers Tryd.func26, Tryd.ntmps26
  go_wp2_with (go_at_call 27; (with_reducible refine HK.out.mono ?_); rintro r w1 ⟨rfl, hb⟩; have HB := Lib.hid (HA.out.trans (hb.mono HA.out.size)); have c1 := ((bcell hb).1 _ _ (by simp)).trans HC0.out; have cf1 := ((bcell hb).2 _ _ (by simp)).trans HCF.out; clear hb)
  refine leaves_cons (f := 37) (args := #[.pointer (some ⟨w.heap.size, 0, none⟩)]) (by simp) (by simp [go_sem]) ?_
  refine (asked_idle ⟨w.heap.size, 0, none⟩ _).mono ?_
  rintro r u' w2 ⟨rfl, rfl, rfl⟩
  have c2 := World.cell?_setCell_same w1 ⟨w.heap.size, 0, none⟩ (.bool d) c1
  simp [Leaves, settle, results, Tryd.results26, go_sem, c2]
  exact HB.out.setCell (by simp) _
set_option maxHeartbeats 1600000 in
theorem askC_set (p0 p1 v : Value) (b : Nat) (w : World) (hbw : b < w.heap.size) (hc : Calls Tryd.prog 27 #[p0, p1] (w.alloc (.cells #[.bool false] 4)) fun r w2 => r = .returned (.bool true) ∧ Set1 b v (w.alloc (.cells #[.bool false] 4)) w2) :
    Calls Tryd.prog 26 #[.func (.func 27) #[] #[p0, p1]] w fun r w' => r = .returned (.bool true) ∧ Set1 b v w w' := by
  have hmf : ∀ (fn : Fn) (first cap : Array Value) (w : World), (Instr.makeFunc fn first cap).run Tryd.prog w = .ok (.func fn first cap) w := fun _ _ _ _ => rfl
  have HA := Lib.hid (show Below w.heap.size w (w.alloc (.cells #[.bool false] 4)) from (Below.refl _ _).alloc (Nat.le_refl _) _)
  have HC0 := Lib.hid (show (w.alloc (.cells #[.bool false] 4)).cell? ⟨w.heap.size, 0, none⟩ = some (.bool false) by go_simp)
  have HCF := Lib.hid (show (w.alloc (.cells #[.bool false] 4)).frozen? ⟨w.heap.size, 0, none⟩ = false by go_simp)
  have HK := Lib.hid hc
  clear hc
  go_enter_defers Tryd.func26, Tryd.ntmps26
  go_wp2_with (go_at_call 27; (with_reducible refine HK.out.mono ?_); rintro r w1 ⟨rfl, hb⟩; have HS := Lib.hid hb; have c1 := (hb.2.2.2.1 w.heap.size 0 (by simp) (by omega)).1.trans HC0.out; have cf1 := (hb.2.2.2.1 w.heap.size 0 (by simp) (by omega)).2.trans HCF.out; clear hb)
  refine leaves_cons (f := 37) (args := #[.pointer (some ⟨w.heap.size, 0, none⟩)]) (by simp) (by simp [go_sem]) ?_
  refine (asked_idle ⟨w.heap.size, 0, none⟩ _).mono ?_
  rintro r u' w2 ⟨rfl, rfl, rfl⟩
  have c2 := World.cell?_setCell_same w1 ⟨w.heap.size, 0, none⟩ (.bool true) c1
  simp [Leaves, settle, results, Tryd.results26, go_sem, c2]
  exact set1_on hbw HA.out HS.out
set_option maxHeartbeats 1600000 in
theorem askF_far (p0 p1 : Value) (d : Bool) (w : World) (hc : Calls Tryd.prog 45 #[p0, p1] (w.alloc (.cells #[.bool false] 4)) fun r w2 => r = .returned (.bool d) ∧ Below (w.alloc (.cells #[.bool false] 4)).heap.size (w.alloc (.cells #[.bool false] 4)) w2) :
    Calls Tryd.prog 26 #[.func (.func 45) #[] #[p0, p1]] w fun r w' => r = .returned (.bool d) ∧ Below w.heap.size w w' := by
  have hmf : ∀ (fn : Fn) (first cap : Array Value) (w : World), (Instr.makeFunc fn first cap).run Tryd.prog w = .ok (.func fn first cap) w := fun _ _ _ _ => rfl
  have HA := Lib.hid (show Below w.heap.size w (w.alloc (.cells #[.bool false] 4)) from (Below.refl _ _).alloc (Nat.le_refl _) _)
  have HC0 := Lib.hid (show (w.alloc (.cells #[.bool false] 4)).cell? ⟨w.heap.size, 0, none⟩ = some (.bool false) by go_simp)
  have HCF := Lib.hid (show (w.alloc (.cells #[.bool false] 4)).frozen? ⟨w.heap.size, 0, none⟩ = false by go_simp)
  have HK := Lib.hid hc
  clear hc
  go_enter_defers Tryd.func26, Tryd.ntmps26
  go_wp2_with (go_at_call 45; (with_reducible refine HK.out.mono ?_); rintro r w1 ⟨rfl, hb⟩; have HB := Lib.hid (HA.out.trans (hb.mono HA.out.size)); have c1 := ((bcell hb).1 _ _ (by simp)).trans HC0.out; have cf1 := ((bcell hb).2 _ _ (by simp)).trans HCF.out; clear hb)
  refine leaves_cons (f := 37) (args := #[.pointer (some ⟨w.heap.size, 0, none⟩)]) (by simp) (by simp [go_sem]) ?_
  refine (asked_idle ⟨w.heap.size, 0, none⟩ _).mono ?_
  rintro r u' w2 ⟨rfl, rfl, rfl⟩
  have c2 := World.cell?_setCell_same w1 ⟨w.heap.size, 0, none⟩ (.bool d) c1
  simp [Leaves, settle, results, Tryd.results26, go_sem, c2]
  exact HB.out.setCell (by simp) _
set_option maxHeartbeats 1600000 in
theorem askF_set (p0 p1 v : Value) (b : Nat) (w : World) (hbw : b < w.heap.size) (hc : Calls Tryd.prog 45 #[p0, p1] (w.alloc (.cells #[.bool false] 4)) fun r w2 => r = .returned (.bool true) ∧ Set1 b v (w.alloc (.cells #[.bool false] 4)) w2) :
    Calls Tryd.prog 26 #[.func (.func 45) #[] #[p0, p1]] w fun r w' => r = .returned (.bool true) ∧ Set1 b v w w' := by
  have hmf : ∀ (fn : Fn) (first cap : Array Value) (w : World), (Instr.makeFunc fn first cap).run Tryd.prog w = .ok (.func fn first cap) w := fun _ _ _ _ => rfl
  have HA := Lib.hid (show Below w.heap.size w (w.alloc (.cells #[.bool false] 4)) from (Below.refl _ _).alloc (Nat.le_refl _) _)
  have HC0 := Lib.hid (show (w.alloc (.cells #[.bool false] 4)).cell? ⟨w.heap.size, 0, none⟩ = some (.bool false) by go_simp)
  have HCF := Lib.hid (show (w.alloc (.cells #[.bool false] 4)).frozen? ⟨w.heap.size, 0, none⟩ = false by go_simp)
  have HK := Lib.hid hc
  clear hc
  go_enter_defers Tryd.func26, Tryd.ntmps26
  go_wp2_with (go_at_call 45; (with_reducible refine HK.out.mono ?_); rintro r w1 ⟨rfl, hb⟩; have HS := Lib.hid hb; have c1 := (hb.2.2.2.1 w.heap.size 0 (by simp) (by omega)).1.trans HC0.out; have cf1 := (hb.2.2.2.1 w.heap.size 0 (by simp) (by omega)).2.trans HCF.out; clear hb)
  refine leaves_cons (f := 37) (args := #[.pointer (some ⟨w.heap.size, 0, none⟩)]) (by simp) (by simp [go_sem]) ?_
  refine (asked_idle ⟨w.heap.size, 0, none⟩ _).mono ?_
  rintro r u' w2 ⟨rfl, rfl, rfl⟩
  have c2 := World.cell?_setCell_same w1 ⟨w.heap.size, 0, none⟩ (.bool true) c1
  simp [Leaves, settle, results, Tryd.results26, go_sem, c2]
  exact set1_on hbw HA.out HS.out
end Go.Proofs.YtiebgjmfpnlolaaDoor
