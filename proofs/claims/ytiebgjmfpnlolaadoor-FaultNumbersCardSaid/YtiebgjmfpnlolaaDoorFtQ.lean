/- Texts of errors. -/
import Derived.Test.YtiebgjmfpnlolaaDoorFtP
import Derived.Test.YtiebgjmfpnlolaaDoorFtB
import Derived.Defers
import Derived.Recover
import Derived.Test.YtiebgjmfpnlolaaDoorFtO
import Derived.Deep.LoopGhost
import Derived.Test.YtiebgjmfpnlolaaDoorShelf
namespace Go.Proofs.YtiebgjmfpnlolaaDoor
open Go.RowKit Go.Extern.Stop Go.Stop Go.Extern
set_option maxRecDepth 100000

/-- A number's error, as text. -/
def errS (t : ByteArray) : ByteArray := ⟨#[101, 114, 114, 111, 114, 32]⟩ ++ t
theorem errno_text (x : Int) (t : ByteArray) (w : World) (ht : HasText w x t) (hl : t.size + 6 ≤ 281474976710656) : Calls Tryd.prog 82 #[.int .i64 x] w fun r w' => r = .returned (.string (errS t)) ∧ Below w.heap.size w w' := by
  have a1 : ∀ W, (Op.stringOp .add ⟨#[101, 114, 114, 111, 114, 32]⟩ t).run Tryd.prog W = .ok (.string (errS t)) W := fun W => run_string_add_sum W ⟨#[101, 114, 114, 111, 114, 32]⟩ t (by show 6 + t.size ≤ _; omega)
  have HT := Lib.hid (ht.at w (Below.refl _ _))
  clear ht
  go_enter Tryd.func82, Tryd.ntmps82
  go_wp2_with (go_at_call 35; (with_reducible refine HT.out.mono ?_); rintro r w2 ⟨rfl, hb⟩; have HB := Lib.hid hb; clear hb)
  go_ret
  exact ⟨rfl, HB.out⟩
theorem rmErrorE (x : Value) (w : World) : (Go.method 252 23 x "Error").run Tryd.prog w = .ok (82, x) w := by kernel_rfl
theorem rmErrorF (x : Value) (w : World) : (Go.method 252 44 x "Error").run Tryd.prog w = .ok (19, x) w := by kernel_rfl
theorem text_idle (p : Addr) (w : World) :
    CallsD Tryd.prog 46 #[.pointer (some p)] .returning w fun e u' w' => e = .returned (.tuple #[]) ∧ u' = .returning ∧ w' = w := by
  refine callsD_of_wpS Tryd.func46 rfl fun c₀ cs hu => ?_
  apply wpS_seq
  apply wpS_region
  simp [wpOpsS, go_sem, recoverD, hu, Tryd.ntmps46, Exit.thenS]
  refine wpS_cond (t := false) (by simp [Act.eval, Array.replicate]) ?_
  simp only [Bool.false_eq_true, if_false]
  refine wpS_of_wp (wp_skip ?_)
  cases c₀
  simp_all [bodyPostS, results, Tryd.results46]
set_option maxHeartbeats 1600000 in
theorem text_E (x : Int) (t : ByteArray) (w : World) (ht : HasText w x t) (hl : t.size + 6 ≤ 281474976710656) : Calls Tryd.prog 33 #[.iface 23 (.int .i64 x)] w fun r w' => r = .returned (.string (errS t)) ∧ Below w.heap.size w w' := by
  have hmf : ∀ (fn : Fn) (first cap : Array Value) (w : World), (Instr.makeFunc fn first cap).run Tryd.prog w = .ok (.func fn first cap) w := fun _ _ _ _ => rfl
  have hm := @rmErrorE
  have HA := Lib.hid (show Below w.heap.size w (w.alloc (.cells #[.string ⟨#[]⟩] 9)) from (Below.refl _ _).alloc (Nat.le_refl _) _)
  have HC0 := Lib.hid (show (w.alloc (.cells #[.string ⟨#[]⟩] 9)).cell? ⟨w.heap.size, 0, none⟩ = some (.string ⟨#[]⟩) by go_simp)
  have HCF := Lib.hid (show (w.alloc (.cells #[.string ⟨#[]⟩] 9)).frozen? ⟨w.heap.size, 0, none⟩ = false by go_simp)
  have HK := Lib.hid (errno_text x t (w.alloc (.cells #[.string ⟨#[]⟩] 9)) (ht.below HA.out) hl)
  clear ht
  go_enter_defers Tryd.func33, Tryd.ntmps33
  go_wp2_with (go_at_call 82; (with_reducible refine HK.out.mono ?_); rintro r w1 ⟨rfl, hb⟩; have HB := Lib.hid (HA.out.trans (hb.mono HA.out.size)); have c1 := ((bcell hb).1 _ _ (by simp)).trans HC0.out; have cf1 := ((bcell hb).2 _ _ (by simp)).trans HCF.out; clear hb)
  refine leaves_cons (f := 46) (args := #[.pointer (some ⟨w.heap.size, 0, none⟩)]) (by simp) (by simp [go_sem]) ?_
  refine (text_idle ⟨w.heap.size, 0, none⟩ _).mono ?_
  rintro r u' w2 ⟨rfl, rfl, rfl⟩
  have c2 := World.cell?_setCell_same w1 ⟨w.heap.size, 0, none⟩ (.string (errS t)) c1
  simp [Leaves, settle, results, Tryd.results33, go_sem, c2]
  exact HB.out.setCell (by simp) _
theorem neq_F (a : Addr) (w : World) : (binOp .neq 25 (.iface 44 (.pointer (some a))) (.iface 44 (.pointer (some a)))).run Tryd.prog w = .ok (.bool false) w := by
  obtain ⟨i, hi, hc⟩ := Option.map_eq_some_iff.1 (show (Tryd.prog.info? 44).map (·.comparable) = some true by kernel_rfl)
  obtain ⟨j, hj, _⟩ := Option.map_eq_some_iff.1 (show (Tryd.prog.info? 57).map (·.size) = some 3 by kernel_rfl)
  simp only [binOp]
  simp [Op.equal, Op.maxDepth, run_equalIn_iface_ptr_same w 9998 a Tryd.underlying25 Tryd.underlying44 hi hc hj]
theorem neq_types (tx ty : TypeId) (vx vy : Value) (hne : tx ≠ ty) (w : World) : (binOp .neq 25 (.iface tx vx) (.iface ty vy)).run Tryd.prog w = .ok (.bool true) w := by
  have h : ∀ d : Nat, (Op.equalIn (d + 1) 25 (.iface tx vx) (.iface ty vy)).run Tryd.prog w = .ok false w := fun d => by simp [Op.equalIn, run_underlying Tryd.underlying25, hne]
  simp only [binOp]
  simp [Op.equal, Op.maxDepth, h 9999]
theorem builder_below {B b : Nat} {bs : List Value} {w w' : World} (h : Lib.IsBuilder 68 5 B b bs w) (hb : Below w.heap.size w w') : Lib.IsBuilder 68 5 B b bs w' := by
  have go : ∀ {p : Value}, Lib.BuilderAt 68 5 B b p bs w → Lib.BuilderAt 68 5 B b p bs w' := fun h => by
    have hlt := h.lt
    obtain ⟨h0, v, h1, h2, h3⟩ := h
    exact ⟨h0, v, by rw [hb.block b hlt]; exact h1, own_below h2 hb, h3⟩
  exact h.imp go go
end Go.Proofs.YtiebgjmfpnlolaaDoor
