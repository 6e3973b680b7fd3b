/- In, At, head. -/
import Derived.Test.YtiebgjmfpnlolaaDoorFtJ
import Derived.Test.YtiebgjmfpnlolaaDoorFtO
import Derived.Deep.LoopGhost
import Derived.Test.YtiebgjmfpnlolaaDoorShelf
namespace Go.Proofs.YtiebgjmfpnlolaaDoor
open Go.RowKit Go.Extern.Stop Go.Stop Go.Extern
set_option maxRecDepth 100000

theorem below_next {a W w3 : World} (h : Below a.heap.size a W) (hb : Below W.heap.size W w3) : Below a.heap.size a w3 := h.trans (hb.mono h.size)
/-- A new fault around an error. -/
def RetFault (s : ByteArray) (p : Int) (u : Value) (w : World) (r : Ending) (w' : World) : Prop :=
  r = .returned (.iface 44 (.pointer (some ⟨w.heap.size, 0, none⟩))) ∧ w' = w.alloc (.cells #[.string s, .int .i64 p, u] 57)
theorem In_some (s : ByteArray) (p : Int) (t : TypeId) (u : Value) (w : World) : Calls Tryd.prog 17 #[.string s, .int .i64 p, .iface t u] w (RetFault s p (.iface t u) w) := by
  go_enter Tryd.func17, Tryd.ntmps17
  go_wp2
  go_ret
  exact ⟨rfl, rfl⟩
theorem In_nil (s : ByteArray) (p : Int) (w : World) : Calls Tryd.prog 17 #[.string s, .int .i64 p, .nilIface] w fun r w' => r = .returned .nilIface ∧ w' = w := by
  go_enter Tryd.func17, Tryd.ntmps17
  go_wp2
  go_ret
  exact ⟨rfl, rfl⟩
theorem At_some (s : ByteArray) (p n : Int) (hn : n ≠ 0) (w : World) : Calls Tryd.prog 21 #[.string s, .int .i64 p, .int .i64 n] w (RetFault s p (.iface 23 (.int .i64 n)) w) := by
  have e0 : (n == 0) = false := by simpa using hn
  go_enter Tryd.func21, Tryd.ntmps21
  go_wp2_with (go_at_call 17; (with_reducible refine (In_some _ _ _ _ _).mono ?_); rintro r w2 ⟨rfl, rfl⟩)
  go_ret
  exact ⟨rfl, rfl⟩
theorem At_nil (s : ByteArray) (p : Int) (w : World) : Calls Tryd.prog 21 #[.string s, .int .i64 p, .int .i64 0] w fun r w' => r = .returned .nilIface ∧ w' = w := by
  go_enter Tryd.func21, Tryd.ntmps21
  go_wp2
  go_ret
  exact ⟨rfl, rfl⟩
/-- A number's text, in every later world. -/
def HasText (w : World) (n : Int) (s : ByteArray) : Prop := ∀ W, Below w.heap.size w W → Calls Tryd.prog 35 #[.int .i64 n] W fun r w' => r = .returned (.string s) ∧ Below W.heap.size W w'
theorem HasText.at {w : World} {n : Int} {s : ByteArray} (h : HasText w n s) (W : World) (hW : Below w.heap.size w W) : Calls Tryd.prog 35 #[.int .i64 n] W fun r w' => r = .returned (.string s) ∧ Below W.heap.size W w' := h W hW
theorem HasText.below {w w' : World} {n : Int} {s : ByteArray} (h : HasText w n s) (hb : Below w.heap.size w w') : HasText w' n s := fun W hW => h W (hb.trans (hW.mono hb.size))
theorem hasText_small (w : World) (i : Nat) (hi : i < 100) : HasText w i ⟨(Lib.decDigits i).toArray⟩ := fun W _ => (Tryd.strconv_Itoa_small i hi W).mono fun r w' h => ⟨h.1, by rw [h.2]; exact Below.refl _ _⟩
theorem head_any (b : Nat) (s t : ByteArray) (p : Int) (w : World) (h0 : w.cell? ⟨b, 0, none⟩ = some (.string s)) (h1 : w.cell? ⟨b, 1, none⟩ = some (.int .i64 p)) (ht : HasText w p t) (hb : b < w.heap.size) (hl : s.size + t.size + 1 ≤ 281474976710656) :
    Calls Tryd.prog 24 #[.pointer (some ⟨b, 0, none⟩)] w fun r w' => r = .returned (.string (s ++ ⟨#[32]⟩ ++ t)) ∧ Below w.heap.size w w' := by
  have HT := Lib.hid (fun W hW => ht.at W hW)
  clear ht
  have a1 : ∀ W, (Op.stringOp .add s ⟨#[32]⟩).run Tryd.prog W = .ok (.string (s ++ ⟨#[32]⟩)) W := fun W => run_string_add_sum W s ⟨#[32]⟩ (by show s.size + 1 ≤ _; omega)
  have a2 : ∀ W, (Op.stringOp .add (s ++ ⟨#[32]⟩) t).run Tryd.prog W = .ok (.string (s ++ ⟨#[32]⟩ ++ t)) W := fun W => run_string_add_sum W (s ++ ⟨#[32]⟩) t (by rw [ByteArray.size_append]; show s.size + 1 + t.size ≤ _; omega)
  go_enter Tryd.func24, Tryd.ntmps24
  go_wp2_with fail
  go_region_held3 (fun W => W.cell? ⟨b, 0, none⟩ = some (.string s) ∧ W.cell? ⟨b, 1, none⟩ = some (.int .i64 p))
    (first | with_reducible exact ⟨h0, h1⟩ | (go_simp; done) | go_keep)
    ((go_at_call 35; (with_reducible refine (HT.out _ ?_).mono ?_); (repeat' (with_reducible refine Below.drew ?_)); with_reducible exact Below.refl _ _; rintro r w2 ⟨rfl, hw⟩; have HR := Lib.hid (show Below w.heap.size w w2 from below_next (by repeat' (first | with_reducible exact Below.refl _ _ | with_reducible refine Below.drew ?_)) hw); have h0 := ((bcell HR.out).1 _ _ hb).trans h0; have h1 := ((bcell HR.out).1 _ _ hb).trans h1; clear hw))
  set_option pp.deepTerms true in set_option pp.maxSteps 1000000 in trace_state
  go_wp2_with fail
  go_ret
  exact ⟨rfl, HR.out⟩
end Go.Proofs.YtiebgjmfpnlolaaDoor
