/- The contract of do, over the seat's program. -/
import Derived.Test.YtmghbcddnmiamaaFfC
namespace Go.Proofs.Ytmghbcddnmiamaa
open Go.ChangeShapes Go.WideShapes Go.ChangeAt Go.RowKit Go.Joins

set_option maxRecDepth 100000 in
set_option maxHeartbeats 1600000 in
theorem do_len (C : CV) (lv dv : Value) (ar x : Int) (df : Bool) (ka : Option Addr) (kn kc : Nat) (w : World) (hl : ∃ B, w.ownsRow B 3 1 lv C.n (rowL .i64 C.f C.n)) (hd : ∃ da dc, dv = .slice da C.m dc) (hn : (C.n + 1) * 8 ≤ 140737488355328) :
    Calls Try.prog 21 #[.agg #[.int .i64 C.cap, lv, dv], reqV 5 ar x df ka kn kc] w (RetDo (C.after false 5 x) (C.told false 5) lv w) := by
  obtain ⟨B, hown⟩ := hl
  obtain ⟨da, dc, rfl⟩ := hd
  obtain ⟨la, lc, rfl⟩ := own_form hown
  obtain ⟨cp, n, f, m, g⟩ := C
  dsimp only at *
  have HO := Lib.hid hown
  rw [show CV.after ⟨cp, n, f, m, g⟩ false 5 x = ⟨cp, n, f, m, g⟩ from rfl, show CV.told ⟨cp, n, f, m, g⟩ false 5 = (n : Int) from rfl]
  obtain ⟨W, hW⟩ : ∃ W, W = ((w.alloc (.cells #[.int .i64 cp, .slice la n lc, .slice da m dc] 25)).alloc (.cells #[.int .i64 5, .int .i64 ar, .int .i64 x, .bool df, .slice ka kn kc] 28)) := ⟨_, rfl⟩
  have hB : Below w.heap.size w W := by rw [hW]; exact ((Below.refl _ _).alloc (Nat.le_refl _) _).alloc (by simp) _
  have HB := Lib.hid hB
  have HW := Lib.hid hW
  have c0 : W.cell? ⟨w.heap.size, 0, none⟩ = some (.int .i64 cp) := by rw [hW]; go_simp
  have c1 : W.cell? ⟨w.heap.size, 1, none⟩ = some (.slice la n lc) := by rw [hW]; go_simp
  unfold reqV
  clear hown hW hB
  go_enter Try.func21, Try.ntmps21
  go_wp2
  rw [← HW.out]
  go_quiet (fail)
  go_wp2
  refine bodyPost_ret (v := .tuple #[.slice la n lc, .int .i64 (n : Int)]) (by simp only [results, Try.results21]; go_simp) rfl ⟨_, _, rfl, ?_, ?_⟩
  · obtain ⟨a, cap, hv, hp⟩ := RowP.of (by omega) HO.out
    simp only [Value.slice.injEq] at hv
    obtain ⟨rfl, _, rfl⟩ := hv
    have hp' := (hp.imp (Q := fun b => Value.ownBlock (.slice la n lc) = some b ∨ w.heap.size ≤ b) (fun b _ e => .inl e)).below HB.out
    exact hp'.below (below_drewN (Below.refl _ _) _)
  · exact grown_drewN (below_grownBy HB.out _) _

set_option maxRecDepth 100000 in
set_option maxHeartbeats 1600000 in
theorem do_cap (C : CV) (lv dv : Value) (ar x : Int) (df : Bool) (ka : Option Addr) (kn kc : Nat) (w : World) (hl : ∃ B, w.ownsRow B 3 1 lv C.n (rowL .i64 C.f C.n)) (hd : ∃ da dc, dv = .slice da C.m dc) (hn : (C.n + 1) * 8 ≤ 140737488355328) :
    Calls Try.prog 21 #[.agg #[.int .i64 C.cap, lv, dv], reqV 6 ar x df ka kn kc] w (RetDo (C.after false 6 x) (C.told false 6) lv w) := by
  obtain ⟨B, hown⟩ := hl
  obtain ⟨da, dc, rfl⟩ := hd
  obtain ⟨la, lc, rfl⟩ := own_form hown
  obtain ⟨cp, n, f, m, g⟩ := C
  dsimp only at *
  have HO := Lib.hid hown
  rw [show CV.after ⟨cp, n, f, m, g⟩ false 6 x = ⟨cp, n, f, m, g⟩ from rfl, show CV.told ⟨cp, n, f, m, g⟩ false 6 = cp from rfl]
  obtain ⟨W, hW⟩ : ∃ W, W = ((w.alloc (.cells #[.int .i64 cp, .slice la n lc, .slice da m dc] 25)).alloc (.cells #[.int .i64 6, .int .i64 ar, .int .i64 x, .bool df, .slice ka kn kc] 28)) := ⟨_, rfl⟩
  have hB : Below w.heap.size w W := by rw [hW]; exact ((Below.refl _ _).alloc (Nat.le_refl _) _).alloc (by simp) _
  have HB := Lib.hid hB
  have HW := Lib.hid hW
  have c0 : W.cell? ⟨w.heap.size, 0, none⟩ = some (.int .i64 cp) := by rw [hW]; go_simp
  have c1 : W.cell? ⟨w.heap.size, 1, none⟩ = some (.slice la n lc) := by rw [hW]; go_simp
  unfold reqV
  clear hown hW hB
  go_enter Try.func21, Try.ntmps21
  go_wp2
  rw [← HW.out]
  go_quiet (fail)
  go_wp2
  refine bodyPost_ret (v := .tuple #[.slice la n lc, .int .i64 cp]) (by simp only [results, Try.results21]; go_simp) rfl ⟨_, _, rfl, ?_, ?_⟩
  · obtain ⟨a, cap, hv, hp⟩ := RowP.of (by omega) HO.out
    simp only [Value.slice.injEq] at hv
    obtain ⟨rfl, _, rfl⟩ := hv
    have hp' := (hp.imp (Q := fun b => Value.ownBlock (.slice la n lc) = some b ∨ w.heap.size ≤ b) (fun b _ e => .inl e)).below HB.out
    exact hp'.below (below_drewN (Below.refl _ _) _)
  · exact grown_drewN (below_grownBy HB.out _) _

theorem do_any (C : CV) (lv dv : Value) (k ar x : Int) (df : Bool) (ka : Option Addr) (kn kc : Nat) (w : World) (hl : ∃ B, w.ownsRow B 3 1 lv C.n (rowL .i64 C.f C.n)) (hd : ∃ da dc, dv = .slice da C.m dc) (hn : (C.n + 1) * 8 ≤ 140737488355328) (hc : C.code k = 0) :
    Calls Try.prog 21 #[.agg #[.int .i64 C.cap, lv, dv], reqV k ar x df ka kn kc] w (RetDo (C.after false k x) (C.told false k) lv w) := by
  by_cases h8 : k = 8
  · subst h8
    exact do_put C lv dv ar x df ka kn kc w hl hd hn (by by_cases h : (C.n : Int) < C.cap; exact h; simp [CV.code, h] at hc)
  by_cases h9 : k = 9
  · subst h9
    exact do_take C lv dv ar x df ka kn kc w hl hd hn (fun h => by simp [CV.code, h] at hc)
  by_cases h5 : k = 5
  · subst h5
    exact do_len C lv dv ar x df ka kn kc w hl hd hn
  by_cases h6 : k = 6
  · subst h6
    exact do_cap C lv dv ar x df ka kn kc w hl hd hn
  simp [CV.code, h8, h9, h5, h6] at hc
theorem after_idle {C : CV} {last : Bool} {k x : Int} (hc : C.code k ≠ 0) : C.after last k x = C ∧ C.told last k = 0 := by
  unfold CV.code at hc
  unfold CV.after CV.told
  by_cases h8 : k = 8
  · subst h8
    simp at hc ⊢
    intro h
    exact absurd h (by omega)
  by_cases h9 : k = 9
  · subst h9
    simp at hc ⊢
    refine ⟨fun h => absurd hc h, fun h => absurd hc h⟩
  by_cases h5 : k = 5
  · subst h5
    simp at hc
  by_cases h6 : k = 6
  · subst h6
    simp at hc
  simp [h8, h9, h5, h6]
end Go.Proofs.Ytmghbcddnmiamaa
