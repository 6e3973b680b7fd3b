/- Contracts of all methods at an object that no call made, nil or the zero object, over the seat's program. -/
import Derived.Test.YtalkibpebfhoeaaNewC
import Derived.Test.YtalkibpebfhoeaaAwake
namespace Go.Proofs.Ytalkibpebfhoeaa
open Go.ChangeShapes Go.WideShapes Go.ChangeAt Go.RowKit Go.Joins
attribute [local go_sem ↓] Go.wp_at_zero Go.wp_at_succ

/-- 'v' is nil, or points to an object that has no words. -/
def Nobody (w : World) (v : Value) : Prop := v = .pointer none ∨ ∃ p, v = .pointer (some ⟨p, 0, none⟩) ∧ p < w.heap.size ∧ w.cell? ⟨p, 0, none⟩ = some (.slice none 0 0)
theorem Nobody.below {w w' : World} {v : Value} (h : Nobody w v) (hb : Below w.heap.size w w') : Nobody w' v := by
  rcases h with h | ⟨p, h, hp, hc⟩
  · exact .inl h
  · exact .inr ⟨p, h, Nat.lt_of_lt_of_le hp hb.size, by rw [(bcell hb).1 _ _ hp]; exact hc⟩
theorem Nobody.alloc {w : World} {v : Value} (h : Nobody w v) (o : Go.Obj) : Nobody (w.alloc o) v := h.below ((Below.refl _ _).alloc (Nat.le_refl _) _)
theorem made_no (v : Value) (w : World) (h : Nobody w v) : Calls Try.prog 20 #[v] w fun e w' => e = .returned (.bool false) ∧ w = w' := by
  rcases h with rfl | ⟨p, rfl, _, hc⟩
  · exact made_nil w
  · exact made_none p w hc
theorem size_no (v : Value) (w : World) (h : Nobody w v) : Calls Try.prog 15 #[v] w fun e w' => e = .returned (.int .i64 0) ∧ w = w' := by
  have HM := Lib.hid (made_no v w h)
  go_enter Try.func15, Try.ntmps15
  go_wp2_with (go_at_call 20; (with_reducible refine HM.out.mono ?_); rintro e w1 ⟨rfl, rfl⟩)
  go_ret
  exact ⟨rfl, rfl⟩
theorem has_no (v : Value) (x : Int) (w : World) (h : Nobody w v) : Calls Try.prog 23 #[v, .int .i64 x] w fun e w' => e = .returned (.bool false) ∧ w = w' := by
  have HM := Lib.hid (size_no v w h)
  by_cases h0 : 0 ≤ x
  · have h1 : decide (x < 0) = false := by simp; omega
    go_enter Try.func23, Try.ntmps23
    go_wp2_with (go_at_call 15; (with_reducible refine HM.out.mono ?_); rintro e w1 ⟨rfl, rfl⟩)
    go_ret
    exact ⟨rfl, rfl⟩
  · go_enter Try.func23, Try.ntmps23
    go_wp2_with (go_at_call 15; (with_reducible refine HM.out.mono ?_); rintro e w1 ⟨rfl, rfl⟩)
    go_ret
    exact ⟨rfl, rfl⟩
theorem peek_no (v : Value) (x : Int) (w : World) (h : Nobody w v) : Calls Try.prog 9 #[v, .int .i64 x] w fun e w' => e = .returned (.int .u64 0) ∧ w = w' := by
  have HM := Lib.hid (has_no v x w h)
  go_enter Try.func9, Try.ntmps9
  go_wp2_with (go_at_call 23; (with_reducible refine HM.out.mono ?_); rintro e w1 ⟨rfl, rfl⟩)
  go_ret
  exact ⟨rfl, rfl⟩
theorem keep_no (v : Value) (x : Bool) (w : World) (h : Nobody w v) : Calls Try.prog 13 #[v, .bool x] w fun e w' => e = .returned (.tuple #[]) ∧ w = w' := by
  have HM := Lib.hid (made_no v w h)
  go_enter Try.func13, Try.ntmps13
  go_wp2_with (go_at_call 20; (with_reducible refine HM.out.mono ?_); rintro e w1 ⟨rfl, rfl⟩)
  go_end0
  exact ⟨rfl, rfl⟩
theorem poke_no (v a : Value) (x : Int) (w : World) (h : Nobody w v) : Calls Try.prog 7 #[v, .int .i64 x, a] w fun e w' => e = .returned (.int .i64 2) ∧ w = w' := by
  have HM := Lib.hid (made_no v w h)
  go_enter Try.func7, Try.ntmps7
  go_wp2_with (go_at_call 20; (with_reducible refine HM.out.mono ?_); rintro e w1 ⟨rfl, rfl⟩)
  go_ret
  exact ⟨rfl, rfl⟩
theorem all_no (v : Value) (w : World) (h : Nobody w v) : Calls Try.prog 16 #[v] w fun e w' => e = .returned (.slice none 0 0) ∧ w = w' := by
  have HM := Lib.hid (made_no v w h)
  go_enter Try.func16, Try.ntmps16
  go_wp2_with (go_at_call 20; (with_reducible refine HM.out.mono ?_); rintro e w1 ⟨rfl, rfl⟩)
  go_ret
  exact ⟨rfl, rfl⟩
theorem log_no (v : Value) (w : World) (h : Nobody w v) : Calls Try.prog 17 #[v] w fun e w' => e = .returned (.slice none 0 0) ∧ w = w' := by
  have HM := Lib.hid (made_no v w h)
  go_enter Try.func17, Try.ntmps17
  go_wp2_with (go_at_call 20; (with_reducible refine HM.out.mono ?_); rintro e w1 ⟨rfl, rfl⟩)
  go_ret
  exact ⟨rfl, rfl⟩
theorem count_no (v : Value) (x : Int) (w : World) (h : Nobody w v) : Calls Try.prog 18 #[v, .int .i64 x] w fun e w' => e = .returned (.int .i64 0) ∧ w = w' := by
  have HM := Lib.hid (made_no v w h)
  go_enter Try.func18, Try.ntmps18
  go_wp2_with (go_at_call 20; (with_reducible refine HM.out.mono ?_); rintro e w1 ⟨rfl, rfl⟩)
  go_ret
  exact ⟨rfl, rfl⟩
theorem copy_no (v : Value) (w : World) (h : Nobody w v) : Calls Try.prog 19 #[v] w fun e w' => e = .returned (.pointer none) ∧ w = w' := by
  have HM := Lib.hid (made_no v w h)
  go_enter Try.func19, Try.ntmps19
  go_wp2_with (go_at_call 20; (with_reducible refine HM.out.mono ?_); rintro e w1 ⟨rfl, rfl⟩)
  go_ret
  exact ⟨rfl, rfl⟩

set_option maxHeartbeats 1600000 in
theorem access_no (v c : Value) (t k a x : Int) (w : World) (h : Nobody w v) :
    Calls Try.prog 21 #[v, .agg #[.int .i64 t, .int .i64 k, .int .i64 a, .int .u64 x, .int .u64 0, .int .u64 0, .bool false], c] w
      fun e w' => e = .returned (.tuple #[.agg #[.int .i64 0, .int .i64 0, .int .i64 0, .int .u64 0, .int .u64 0, .int .u64 0, .bool false], .int .i64 2]) ∧ Below w.heap.size w w' := by
  have HM := Lib.hid (fun W (h : Nobody W v) => made_no v W h)
  have HN := Lib.hid h
  clear h
  go_enter Try.func21, Try.ntmps21
  go_wp2_with (go_at_call 20; (with_reducible refine (HM.out _ ((HN.out.alloc _).alloc _)).mono ?_); rintro e w1 ⟨rfl, rfl⟩)
  refine bodyPost_ret (v := .tuple #[.agg #[.int .i64 0, .int .i64 0, .int .i64 0, .int .u64 0, .int .u64 0, .int .u64 0, .bool false], .int .i64 2]) (by simp [results, Try.results21, go_sem]) rfl ⟨rfl, ?_⟩
  repeat' (first | with_reducible exact Below.refl _ _ | with_reducible refine Below.drew ?_ | with_reducible refine Below.alloc ?_ ?_ _ | with_reducible refine Below.setCell ?_ ?_ _ | (simp; done) | (simp; omega) | omega)
set_option maxHeartbeats 1600000 in
theorem load_no (v : Value) (t a : Int) (w : World) (h : Nobody w v) : Calls Try.prog 12 #[v, .int .i64 t, .int .i64 a] w fun e w' => e = .returned (.tuple #[.int .u64 0, .int .i64 2]) ∧ Below w.heap.size w w' := by
  have HA := Lib.hid (access_no v (.func (.func 25) #[] #[]) t 1 a 0 w h)
  go_enter Try.func12, Try.ntmps12
  go_wp2_with (go_at_call 21; (with_reducible refine HA.out.mono ?_); rintro e w1 ⟨rfl, hb⟩; have HB := Lib.hid hb; have hz := hb.size; clear hb)
  go_ret2
  exact ⟨rfl, Below.alloc HB.out hz _⟩
set_option maxHeartbeats 1600000 in
theorem add_no (v : Value) (t a x : Int) (w : World) (h : Nobody w v) : Calls Try.prog 11 #[v, .int .i64 t, .int .i64 a, .int .u64 x] w fun e w' => e = .returned (.tuple #[.int .u64 0, .int .i64 2]) ∧ Below w.heap.size w w' := by
  have HA := Lib.hid (access_no v (.func (.func 24) #[] #[.pointer (some ⟨w.heap.size, 0, none⟩)]) t 4 a 0 (w.alloc (.cells #[.int .u64 x] 22)) (h.alloc _))
  go_enter Try.func11, Try.ntmps11
  go_wp2_with (go_at_call 21; (with_reducible refine HA.out.mono ?_); rintro e w1 ⟨rfl, hb⟩; have HB := Lib.hid (Below.trans ((Below.refl w.heap.size w).alloc (Nat.le_refl _) (.cells #[.int .u64 x] 22)) (hb.mono (by simp))); have hz := HB.out.size; clear hb)
  go_ret2
  exact ⟨rfl, Below.alloc HB.out hz _⟩
set_option maxHeartbeats 1600000 in
theorem store_no (v : Value) (t a x : Int) (w : World) (h : Nobody w v) : Calls Try.prog 14 #[v, .int .i64 t, .int .i64 a, .int .u64 x] w fun e w' => e = .returned (.int .i64 2) ∧ Below w.heap.size w w' := by
  have HA := Lib.hid (access_no v (.func (.func 26) #[] #[.pointer (some ⟨w.heap.size, 0, none⟩)]) t 2 a 0 (w.alloc (.cells #[.int .u64 x] 22)) (h.alloc _))
  go_enter Try.func14, Try.ntmps14
  go_wp2_with (go_at_call 21; (with_reducible refine HA.out.mono ?_); rintro e w1 ⟨rfl, hb⟩; have HB := Lib.hid (Below.trans ((Below.refl w.heap.size w).alloc (Nat.le_refl _) (.cells #[.int .u64 x] 22)) (hb.mono (by simp))); have hz := HB.out.size; clear hb)
  go_ret
  exact ⟨rfl, Below.alloc HB.out hz _⟩
set_option maxHeartbeats 1600000 in
theorem swap_no (v : Value) (t a x y : Int) (w : World) (h : Nobody w v) : Calls Try.prog 8 #[v, .int .i64 t, .int .i64 a, .int .u64 x, .int .u64 y] w fun e w' => e = .returned (.tuple #[.bool false, .int .i64 2]) ∧ Below w.heap.size w w' := by
  have HA := Lib.hid (access_no v (.func (.func 22) #[] #[.pointer (some ⟨w.heap.size, 0, none⟩), .pointer (some ⟨w.heap.size + 1, 0, none⟩)]) t 3 a x ((w.alloc (.cells #[.int .u64 x] 22)).alloc (.cells #[.int .u64 y] 22)) ((h.alloc _).alloc _))
  go_enter Try.func8, Try.ntmps8
  go_wp2_with (go_at_call 21; (with_reducible refine HA.out.mono ?_); rintro e w1 ⟨rfl, hb⟩; have HB := Lib.hid (Below.trans (((Below.refl w.heap.size w).alloc (Nat.le_refl _) (.cells #[.int .u64 x] 22)).alloc (by simp) (.cells #[.int .u64 y] 22)) (hb.mono (by simp; omega))); have hz := HB.out.size; clear hb)
  go_ret2
  exact ⟨rfl, Below.alloc HB.out hz _⟩

set_option maxHeartbeats 1600000 in
theorem new_none (n : Int) (h : n < 1 ∨ 1048576 < n) (w : World) : Calls Try.prog 6 #[.int .i64 n] w fun e w' => e = .returned (.pointer none) ∧ w = w' := by
  by_cases h0 : n < 1
  · go_enter Try.func6, Try.ntmps6
    go_wp2
    go_ret
    exact ⟨rfl, rfl⟩
  · have e1 : decide (n < 1) = false := by simp; omega
    have e2 : 1048576 < n := by omega
    clear h0 h
    go_enter Try.func6, Try.ntmps6
    go_wp2
    go_ret
    exact ⟨rfl, rfl⟩
end Go.Proofs.Ytalkibpebfhoeaa
