/- Code and Is of faults in one another; the example. -/
import Derived.Test.YtiebgjmfpnlolaaDoorFtR
import Derived.Test.YtiebgjmfpnlolaaDoorFtO
import Derived.Deep.LoopGhost
import Derived.Test.YtiebgjmfpnlolaaDoorShelf
namespace Go.Proofs.YtiebgjmfpnlolaaDoor
open Go.RowKit Go.Extern.Stop Go.Stop Go.Extern
set_option maxRecDepth 100000

theorem lk_iface (n : Nat) (fb : Nat → Nat) (t : TypeId) (v : Value) : ∃ b u, lk n fb (.iface t v) 0 = .iface b u := by
  unfold lk
  split <;> exact ⟨_, _, rfl⟩
theorem Code_chain (x : Int) (n : Nat) (fb : Nat → Nat) (fs : Nat → ByteArray) (fp : Nat → Int) (w : World) (hg : Laid w) (hc : Chain w n fb fs fp (.iface 23 (.int .i64 x))) :
    Calls Tryd.prog 15 #[lk n fb (.iface 23 (.int .i64 x)) 0] w fun r w' => r = .returned (.int .i64 x) ∧ Below w.heap.size w w' := by
  obtain ⟨b, u, hv⟩ := lk_iface n fb 23 (.int .i64 x)
  rw [hv]
  exact Code_yes b u x w fun W q hW ht hf hq => by rw [← hv]; exact AsE_set x n fb fs fp q _ W (hg.below hW) (hc.below hW) ht hf hq
theorem Code_chainS (x : Addr) (n : Nat) (fb : Nat → Nat) (fs : Nat → ByteArray) (fp : Nat → Int) (w : World) (hg : Laid w) (hc : Chain w n fb fs fp (.iface 62 (.pointer (some x)))) :
    Calls Tryd.prog 15 #[lk n fb (.iface 62 (.pointer (some x))) 0] w fun r w' => r = .returned (.int .i64 3) ∧ Below w.heap.size w w' := by
  obtain ⟨b, u, hv⟩ := lk_iface n fb 62 (.pointer (some x))
  rw [hv]
  exact Code_no b u w fun W q hW _ _ _ => by rw [← hv]; exact AsE_no x n fb fs fp q W (hg.below hW) (hc.below hW)
theorem FIs_chain (x o : Int) (d : Bool) (hd : (x == o) = d) (n : Nat) (fb : Nat → Nat) (fs : Nat → ByteArray) (fp : Nat → Int) (w : World) (hc : Chain w n fb fs fp (.iface 23 (.int .i64 x))) :
    Calls Tryd.prog 16 #[lk n fb (.iface 23 (.int .i64 x)) 0, .int .i64 o] w fun r w' => r = .returned (.bool d) ∧ Below w.heap.size w w' := by
  obtain ⟨b, u, hv⟩ := lk_iface n fb 23 (.int .i64 x)
  rw [hv]
  exact Is_far b u o d w fun W hW => by rw [← hv]; exact Is_chainE x o n fb fs fp W (hc.below hW) d hd
theorem FIs_chainS (x : Addr) (o : Int) (n : Nat) (fb : Nat → Nat) (fs : Nat → ByteArray) (fp : Nat → Int) (w : World) (hc : Chain w n fb fs fp (.iface 62 (.pointer (some x)))) :
    Calls Tryd.prog 16 #[lk n fb (.iface 62 (.pointer (some x))) 0, .int .i64 o] w fun r w' => r = .returned (.bool false) ∧ Below w.heap.size w w' := by
  obtain ⟨b, u, hv⟩ := lk_iface n fb 62 (.pointer (some x))
  rw [hv]
  exact Is_far b u o false w fun W hW => by rw [← hv]; exact Is_chainS x o n fb fs fp W (hc.below hW)
theorem FIs_nil (o : Int) (w : World) : Calls Tryd.prog 16 #[.nilIface, .int .i64 o] w fun r w' => r = .returned (.bool false) ∧ Below w.heap.size w w' := Is_far_nil o false w fun W _ => Is_nil (.int .i64 o) W
def aS (i : Nat) : ByteArray := if i = 0 then ⟨#[101, 118, 101, 110, 116]⟩ else ⟨#[108, 105, 110, 101]⟩
def aP (i : Nat) : Int := if i = 0 then 2 else 5
def aT (i : Nat) : ByteArray := if i = 0 then ⟨(Lib.decDigits 2).toArray⟩ else ⟨(Lib.decDigits 5).toArray⟩
theorem aText (w : World) (i : Nat) (hi : i < 2) : HasText w (aP i) (aT i) := by
  match i, hi with
  | 0, _ => exact hasText_small w 2 (by omega)
  | 1, _ => exact hasText_small w 5 (by omega)
theorem aSmall (i : Nat) (hi : i < 2) : (aS i).size + (aT i).size + 3 ≤ 281474976710656 := by
  match i, hi with
  | 0, _ => exact of_decide_eq_true (by kernel_rfl)
  | 1, _ => exact of_decide_eq_true (by kernel_rfl)
theorem aErr (fb : Nat → Nat) (w : World) (hg : Laid w) (hc : Chain w 2 fb aS aP (.iface 23 (.int .i64 17))) : Calls Tryd.prog 19 #[.pointer (some ⟨fb 0, 0, none⟩)] w fun r w' => r = .returned (.string ⟨#[101, 118, 101, 110, 116, 32, 50, 58, 32, 108, 105, 110, 101, 32, 53, 58, 32, 101, 114, 114, 111, 114, 32, 49, 55]⟩) ∧ Below w.heap.size w w' := by
  have h := Error_any 2 (by omega) fb aS aP 23 (.int .i64 17) (by decide) aT (errS ⟨(Lib.decDigits 17).toArray⟩) w hg hc (noFault_E 17 hg) (fun i hi => aText w i hi) aSmall (of_decide_eq_true (by kernel_rfl)) fun W _ => text_E 17 ⟨(Lib.decDigits 17).toArray⟩ W (hasText_small W 17 (by omega)) (of_decide_eq_true (by kernel_rfl))
  rw [show (⟨(tot aS aT 2 ++ (errS ⟨(Lib.decDigits 17).toArray⟩).data.toList).toArray⟩ : ByteArray) = ⟨#[101, 118, 101, 110, 116, 32, 50, 58, 32, 108, 105, 110, 101, 32, 53, 58, 32, 101, 114, 114, 111, 114, 32, 49, 55]⟩ by kernel_rfl] at h
  exact h
theorem aPath (fb : Nat → Nat) (w : World) (hg : Laid w) (hc : Chain w 2 fb aS aP (.iface 23 (.int .i64 17))) : Calls Tryd.prog 10 #[.iface 44 (.pointer (some ⟨fb 0, 0, none⟩))] w fun r w' => r = .returned (.string ⟨#[101, 118, 101, 110, 116, 32, 50, 47, 108, 105, 110, 101, 32, 53]⟩) ∧ Below w.heap.size w w' := by
  have h := Path_any 2 (by omega) fb aS aP (.iface 23 (.int .i64 17)) aT w hg hc (noFault_E 17 hg) (fun i hi => aText w i hi) (fun i hi => by have := aSmall i hi; omega) (of_decide_eq_true (by kernel_rfl))
  rw [show (⟨(joinS (hd aS aT) 2 ⟨#[47]⟩).toArray⟩ : ByteArray) = ⟨#[101, 118, 101, 110, 116, 32, 50, 47, 108, 105, 110, 101, 32, 53]⟩ by kernel_rfl] at h
  exact h
theorem aPlace (fb : Nat → Nat) (w : World) (hg : Laid w) (hc : Chain w 2 fb aS aP (.iface 23 (.int .i64 17))) : Calls Tryd.prog 13 #[.iface 44 (.pointer (some ⟨fb 0, 0, none⟩)), .string ⟨#[108, 105, 110, 101]⟩] w fun r w' => r = .returned (.tuple #[.int .i64 5, .bool true]) ∧ Below w.heap.size w w' := by
  have h := Place_any 2 (by omega) fb aS aP (.iface 23 (.int .i64 17)) ⟨#[108, 105, 110, 101]⟩ w hg hc (noFault_E 17 hg)
  rw [plc_yes (show ((aS 1).toList == (⟨#[108, 105, 110, 101]⟩ : ByteArray).toList) = true by unfold aS; simp)] at h
  exact h
theorem aCode (fb : Nat → Nat) (w : World) (hg : Laid w) (hc : Chain w 2 fb aS aP (.iface 23 (.int .i64 17))) : Calls Tryd.prog 15 #[.iface 44 (.pointer (some ⟨fb 0, 0, none⟩))] w fun r w' => r = .returned (.int .i64 17) ∧ Below w.heap.size w w' := Code_chain 17 2 fb aS aP w hg hc
theorem aDeep (fb : Nat → Nat) (w : World) (hg : Laid w) (hc : Chain w 2 fb aS aP (.iface 23 (.int .i64 17))) : Calls Tryd.prog 12 #[.iface 44 (.pointer (some ⟨fb 0, 0, none⟩))] w fun r w' => r = .returned (.int .i64 2) ∧ Below w.heap.size w w' := Deep_any 2 (by omega) fb aS aP _ w hg hc (noFault_E 17 hg)
def aB (h : Nat) (i : Nat) : Nat := if i = 0 then h + 1 else h
theorem aChain (w : World) : Chain ((w.alloc (.cells #[.string ⟨#[108, 105, 110, 101]⟩, .int .i64 5, .iface 23 (.int .i64 17)] 57)).alloc (.cells #[.string ⟨#[101, 118, 101, 110, 116]⟩, .int .i64 2, .iface 44 (.pointer (some ⟨w.heap.size, 0, none⟩))] 57)) 2 (aB w.heap.size) aS aP (.iface 23 (.int .i64 17)) := fun i hi => by
  match i, hi with
  | 0, _ => exact ⟨by simp [aB], by simp [aB, aS], by simp [aB, aP], by simp [aB, lk]⟩
  | 1, _ => exact ⟨by simp [aB]; omega, by simp [aB, aS], by simp [aB, aP], by simp [aB, lk]⟩
set_option maxHeartbeats 6400000 in
theorem awake_any (w : World) (hg : Laid w) : Calls Tryd.prog 7 #[] w fun r w' => r = .returned (.bool true) ∧ Below w.heap.size w w' := by
  have hm := @rmErrorF
  have HW := Lib.hid (show Below w.heap.size w ((w.alloc (.cells #[.string ⟨#[108, 105, 110, 101]⟩, .int .i64 5, .iface 23 (.int .i64 17)] 57)).alloc (.cells #[.string ⟨#[101, 118, 101, 110, 116]⟩, .int .i64 2, .iface 44 (.pointer (some ⟨w.heap.size, 0, none⟩))] 57)) from ((Below.refl _ _).alloc (Nat.le_refl _) _).alloc (by simp) _)
  have HCH := Lib.hid (fun V hV => ((aChain w).below hV : Chain V 2 (aB w.heap.size) aS aP (.iface 23 (.int .i64 17))))
  have HG := Lib.hid (fun V (hV : Below ((w.alloc (.cells #[.string ⟨#[108, 105, 110, 101]⟩, .int .i64 5, .iface 23 (.int .i64 17)] 57)).alloc (.cells #[.string ⟨#[101, 118, 101, 110, 116]⟩, .int .i64 2, .iface 44 (.pointer (some ⟨w.heap.size, 0, none⟩))] 57)).heap.size ((w.alloc (.cells #[.string ⟨#[108, 105, 110, 101]⟩, .int .i64 5, .iface 23 (.int .i64 17)] 57)).alloc (.cells #[.string ⟨#[101, 118, 101, 110, 116]⟩, .int .i64 2, .iface 44 (.pointer (some ⟨w.heap.size, 0, none⟩))] 57)) V) => hg.below (below_next HW.out hV))
  have HPl := Lib.hid (show Calls Tryd.prog 13 #[.iface 44 (.pointer (some ⟨w.heap.size + 1, 0, none⟩)), .string ⟨#[108, 105, 110, 101]⟩] ((w.alloc (.cells #[.string ⟨#[108, 105, 110, 101]⟩, .int .i64 5, .iface 23 (.int .i64 17)] 57)).alloc (.cells #[.string ⟨#[101, 118, 101, 110, 116]⟩, .int .i64 2, .iface 44 (.pointer (some ⟨w.heap.size, 0, none⟩))] 57)) fun r w' => r = .returned (.tuple #[.int .i64 5, .bool true]) ∧ Below ((w.alloc (.cells #[.string ⟨#[108, 105, 110, 101]⟩, .int .i64 5, .iface 23 (.int .i64 17)] 57)).alloc (.cells #[.string ⟨#[101, 118, 101, 110, 116]⟩, .int .i64 2, .iface 44 (.pointer (some ⟨w.heap.size, 0, none⟩))] 57)).heap.size ((w.alloc (.cells #[.string ⟨#[108, 105, 110, 101]⟩, .int .i64 5, .iface 23 (.int .i64 17)] 57)).alloc (.cells #[.string ⟨#[101, 118, 101, 110, 116]⟩, .int .i64 2, .iface 44 (.pointer (some ⟨w.heap.size, 0, none⟩))] 57)) w' from aPlace (aB w.heap.size) _ (HG.out _ (Below.refl _ _)) (HCH.out _ (Below.refl _ _)))
  have HEr := Lib.hid (fun V (hV : Below ((w.alloc (.cells #[.string ⟨#[108, 105, 110, 101]⟩, .int .i64 5, .iface 23 (.int .i64 17)] 57)).alloc (.cells #[.string ⟨#[101, 118, 101, 110, 116]⟩, .int .i64 2, .iface 44 (.pointer (some ⟨w.heap.size, 0, none⟩))] 57)).heap.size ((w.alloc (.cells #[.string ⟨#[108, 105, 110, 101]⟩, .int .i64 5, .iface 23 (.int .i64 17)] 57)).alloc (.cells #[.string ⟨#[101, 118, 101, 110, 116]⟩, .int .i64 2, .iface 44 (.pointer (some ⟨w.heap.size, 0, none⟩))] 57)) V) => show Calls Tryd.prog 19 #[.pointer (some ⟨w.heap.size + 1, 0, none⟩)] V fun r w' => r = .returned (.string ⟨#[101, 118, 101, 110, 116, 32, 50, 58, 32, 108, 105, 110, 101, 32, 53, 58, 32, 101, 114, 114, 111, 114, 32, 49, 55]⟩) ∧ Below V.heap.size V w' from aErr (aB w.heap.size) V (HG.out V hV) (HCH.out V hV))
  have HCo := Lib.hid (fun V (hV : Below ((w.alloc (.cells #[.string ⟨#[108, 105, 110, 101]⟩, .int .i64 5, .iface 23 (.int .i64 17)] 57)).alloc (.cells #[.string ⟨#[101, 118, 101, 110, 116]⟩, .int .i64 2, .iface 44 (.pointer (some ⟨w.heap.size, 0, none⟩))] 57)).heap.size ((w.alloc (.cells #[.string ⟨#[108, 105, 110, 101]⟩, .int .i64 5, .iface 23 (.int .i64 17)] 57)).alloc (.cells #[.string ⟨#[101, 118, 101, 110, 116]⟩, .int .i64 2, .iface 44 (.pointer (some ⟨w.heap.size, 0, none⟩))] 57)) V) => show Calls Tryd.prog 15 #[.iface 44 (.pointer (some ⟨w.heap.size + 1, 0, none⟩))] V fun r w' => r = .returned (.int .i64 17) ∧ Below V.heap.size V w' from aCode (aB w.heap.size) V (HG.out V hV) (HCH.out V hV))
  have HPa := Lib.hid (fun V (hV : Below ((w.alloc (.cells #[.string ⟨#[108, 105, 110, 101]⟩, .int .i64 5, .iface 23 (.int .i64 17)] 57)).alloc (.cells #[.string ⟨#[101, 118, 101, 110, 116]⟩, .int .i64 2, .iface 44 (.pointer (some ⟨w.heap.size, 0, none⟩))] 57)).heap.size ((w.alloc (.cells #[.string ⟨#[108, 105, 110, 101]⟩, .int .i64 5, .iface 23 (.int .i64 17)] 57)).alloc (.cells #[.string ⟨#[101, 118, 101, 110, 116]⟩, .int .i64 2, .iface 44 (.pointer (some ⟨w.heap.size, 0, none⟩))] 57)) V) => show Calls Tryd.prog 10 #[.iface 44 (.pointer (some ⟨w.heap.size + 1, 0, none⟩))] V fun r w' => r = .returned (.string ⟨#[101, 118, 101, 110, 116, 32, 50, 47, 108, 105, 110, 101, 32, 53]⟩) ∧ Below V.heap.size V w' from aPath (aB w.heap.size) V (HG.out V hV) (HCH.out V hV))
  have HDe := Lib.hid (fun V (hV : Below ((w.alloc (.cells #[.string ⟨#[108, 105, 110, 101]⟩, .int .i64 5, .iface 23 (.int .i64 17)] 57)).alloc (.cells #[.string ⟨#[101, 118, 101, 110, 116]⟩, .int .i64 2, .iface 44 (.pointer (some ⟨w.heap.size, 0, none⟩))] 57)).heap.size ((w.alloc (.cells #[.string ⟨#[108, 105, 110, 101]⟩, .int .i64 5, .iface 23 (.int .i64 17)] 57)).alloc (.cells #[.string ⟨#[101, 118, 101, 110, 116]⟩, .int .i64 2, .iface 44 (.pointer (some ⟨w.heap.size, 0, none⟩))] 57)) V) => show Calls Tryd.prog 12 #[.iface 44 (.pointer (some ⟨w.heap.size + 1, 0, none⟩))] V fun r w' => r = .returned (.int .i64 2) ∧ Below V.heap.size V w' from aDeep (aB w.heap.size) V (HG.out V hV) (HCH.out V hV))
  clear hg HG HCH
  go_enter Tryd.func7, Tryd.ntmps7
  go_wp2_with (first
    | (go_at_call 21; (with_reducible refine (At_some _ _ 17 (by decide) _).mono ?_); rintro r w2 ⟨rfl, rfl⟩)
    | (go_at_call 17; (with_reducible refine (In_some _ _ _ _ _).mono ?_); rintro r w2 ⟨rfl, rfl⟩)
    | (go_at_call 13; (with_reducible refine HPl.out.mono ?_); rintro r w3 ⟨rfl, hb⟩; have HB3 := Lib.hid hb; clear hb)
    | (go_at_call 19; (with_reducible refine (HEr.out _ HB3.out).mono ?_); rintro r w4 ⟨rfl, hb⟩; have HB4 := Lib.hid (below_next HB3.out hb); clear hb)
    | (go_at_call 15; (with_reducible refine (HCo.out _ HB4.out).mono ?_); rintro r w5 ⟨rfl, hb⟩; have HB5 := Lib.hid (below_next HB4.out hb); clear hb)
    | (go_at_call 10; (with_reducible refine (HPa.out _ HB5.out).mono ?_); rintro r w6 ⟨rfl, hb⟩; have HB6 := Lib.hid (below_next HB5.out hb); clear hb)
    | (go_at_call 12; (with_reducible refine (HDe.out _ HB6.out).mono ?_); rintro r w7 ⟨rfl, hb⟩; have HB7 := Lib.hid (below_next HB6.out hb); clear hb))
  set_option pp.deepTerms true in set_option pp.maxSteps 1000000 in trace_state
  go_ret
  exact ⟨rfl, below_next HW.out HB7.out⟩
end Go.Proofs.YtiebgjmfpnlolaaDoor
