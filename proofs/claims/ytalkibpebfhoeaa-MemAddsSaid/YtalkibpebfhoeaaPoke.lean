/- The contract of Poke of one word into an object of one word, over the seat's program. -/
import Derived.Test.YtalkibpebfhoeaaLoad
import Derived.Laws.IdiomCopy
namespace Go.Proofs.Ytalkibpebfhoeaa
open Go.ChangeShapes Go.WideShapes Go.ChangeAt Go.RowKit Go.Joins
attribute [local go_sem ↓] Go.wp_at_zero Go.wp_at_succ
theorem Try.size22 : (Try.prog.info? 22).map (·.size) = some 1 := by kernel_rfl
theorem copy_one (bw b : Nat) (y x : Int) (w : World) (hy : w.cell? ⟨bw, 0, none⟩ = some (.int .u64 y)) (hf : w.frozen? ⟨bw, 0, none⟩ = false) (hx : w.cell? ⟨b, 0, none⟩ = some (.int .u64 x)) :
    (Builtin.copy_ #[36, 36] 3 #[.slice (some ⟨bw, 0, none⟩) 1 1, .slice (some ⟨b, 0, none⟩) 1 1]).run Try.prog w = .ok (.int .i64 1) (w.setCell ⟨bw, 0, none⟩ (.int .u64 x)) :=
  run_copy_cells w 36 36 3 22 bw 0 1 1 ⟨b, 0, none⟩ 1 1 [.int .u64 x] Try.underlying36 Try.size22 rfl
    (fun j v hj => by
      match j, hj with
      | 0, hj => simp at hj; subst hj; exact hx
      | j + 1, hj => simp at hj)
    (fun j hj => by obtain rfl : j = 0 := by simpa using hj
                    simp [hy])
    (fun j hj => by obtain rfl : j = 0 := by simpa using hj
                    exact hf)
    (by simp [Value.oneCell'])

set_option maxHeartbeats 1600000 in
theorem poke_one (B p bw : Nat) (lv : Value) (cnt f : Nat → Int) (x : Int) (keep : Bool) (b : Nat) (w : World) (h : MObj w B p bw 1 lv cnt keep f) (hx : w.cell? ⟨b, 0, none⟩ = some (.int .u64 x)) :
    Calls Try.prog 7 #[.pointer (some ⟨p, 0, none⟩), .int .i64 0, .slice (some ⟨b, 0, none⟩) 1 1] w fun e w' => e = .returned (.int .i64 0) ∧ MObj w' B p bw 1 lv cnt keep (upd f 0 x) ∧ Below B w w' := by
  have c0 := h.words
  have HM := Lib.hid (made_yes p bw 1 h.hn.1 w c0)
  have hcopy := copy_one bw b _ x w (h.row 0 (by omega)) (h.rowfree 0 (by omega)) hx
  have HO := Lib.hid (h.setWord 0 (by omega) x)
  have HB := Lib.hid (Below.setCell (Below.refl B w) (p := ⟨bw, 0, none⟩) h.hbw.1 (.int .u64 x))
  clear h hx
  go_enter Try.func7, Try.ntmps7
  go_wp2_with (go_at_call 20; (with_reducible refine HM.out.mono ?_); rintro e w1 ⟨rfl, rfl⟩)
  go_ret
  exact ⟨rfl, HO.out, HB.out⟩
end Go.Proofs.Ytalkibpebfhoeaa
