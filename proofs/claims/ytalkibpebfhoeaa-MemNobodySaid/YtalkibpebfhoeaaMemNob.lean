/- The walk of MemNobody over the seat's program: for every input it returns true, and makes new memory alone. -/
import Derived.Test.YtalkibpebfhoeaaMemNone
namespace Go.Proofs.Ytalkibpebfhoeaa
open Go.ChangeShapes Go.WideShapes Go.ChangeAt Go.RowKit Go.Joins
attribute [local go_sem ↓] Go.wp_at_zero Go.wp_at_succ
attribute [local go_sem] Try.zero40

/-- The two objects that no call made lie in a row. -/
def NobRel (z b : Nat) (w wr : World) : Prop :=
  wr.cell? ⟨b, 0, none⟩ = some (.pointer none) ∧ wr.cell? ⟨b, 1, none⟩ = some (.pointer (some ⟨z, 0, none⟩)) ∧ (z < b ∧ b < wr.heap.size) ∧ wr.cell? ⟨z, 0, none⟩ = some (.slice none 0 0) ∧ Below w.heap.size w wr
theorem NobRel.get {z b : Nat} {w wr : World} (h : NobRel z b w wr) (k : Nat) (hk : k < 2) : ∃ v, wr.cell? ⟨b, k, none⟩ = some v ∧ Nobody wr v ∧ b < wr.heap.size := by
  obtain ⟨h0, h1, ⟨hz, hb⟩, hc, _⟩ := h
  match k, hk with
  | 0, _ => exact ⟨_, h0, .inl rfl, hb⟩
  | 1, _ => exact ⟨_, h1, .inr ⟨z, rfl, by omega, hc⟩, hb⟩
theorem NobRel.below {z b : Nat} {w wr w' : World} (h : NobRel z b w wr) (hw : Below wr.heap.size wr w') : NobRel z b w w' := by
  obtain ⟨h0, h1, ⟨hz, hb⟩, hc, hB⟩ := h
  obtain ⟨g, _⟩ := bcell hw
  exact ⟨by rw [g _ _ hb]; exact h0, by rw [g _ _ hb]; exact h1, ⟨hz, Nat.lt_of_lt_of_le hb hw.size⟩, by rw [g _ _ (by omega)]; exact hc, hB.trans (hw.mono hB.size)⟩
theorem NobRel.start (w w1 : World) (hb : Below (w.heap.size + 1) (w.alloc (.cells Z0 40)) w1) (hz : w.heap.size + 1 ≤ w1.heap.size) :
    NobRel w.heap.size w1.heap.size w (w1.alloc (.cells #[.pointer none, .pointer (some ⟨w.heap.size, 0, none⟩)] 23)) := by
  have hB : Below w.heap.size w w1 := ((Below.refl w.heap.size w).alloc (Nat.le_refl _) _).trans (hb.mono (by omega))
  have hA := (Below.refl w1.heap.size w1).alloc (Nat.le_refl _) (.cells #[.pointer none, .pointer (some ⟨w.heap.size, 0, none⟩)] 23)
  refine ⟨cell_of_row _ _ _ _ 23 (0, 0) (heap_alloc_new w1 _), cell_of_row _ _ _ _ 23 (0, 0) (heap_alloc_new w1 _), ⟨by omega, by simp⟩, ?_, hB.alloc (by omega) _⟩
  rw [(bcell hA).1 _ _ (by omega), hb.cell (p := ⟨w.heap.size, 0, none⟩) (by show w.heap.size < w.heap.size + 1; omega), cell_of_row _ _ _ _ 40 (0, 0) (heap_alloc_new w _)]
  simp [Z0]

set_option maxRecDepth 100000 in
set_option maxHeartbeats 6400000 in
theorem nobody_low (n t a x : Int) (h : n < 1) (w : World) : Calls Try.prog 5 #[.int .i64 n, .int .i64 t, .int .i64 a, .int .u64 x] w fun e w' => e = .returned (.bool true) ∧ Below w.heap.size w w' := by
  have HN := Lib.hid (fun W => new_none n (.inl h) W)
  have HS := Lib.hid (NobRel.start w (w.alloc (.cells Z0 40)) (Below.refl _ _) (by simp))
  go_enter Try.func5, Try.ntmps5
  go_wp2_with (go_at_call 6; (with_reducible refine (HN.out _).mono ?_); rintro e w1 ⟨rfl, rfl⟩)
  go_loopw [31, 10] (fun i ok wr => ∃ k : Nat, k ≤ 2 ∧ i = .int .i64 k ∧ ok = .bool true ∧ NobRel w.heap.size (w.heap.size + 1) w wr) (fun i _ _ => 2 - (intOf i).toNat)
  case atStart => exact ⟨0, by omega, rfl, rfl, (by simpa using HS.out)⟩
  case round =>
    obtain ⟨k, hk, rfl, rfl, hrel⟩ := hrel
    have HR := Lib.hid hrel
    clear hrel
    by_cases hlt : k < 2
    · obtain ⟨v, hv, hN, hwz⟩ := HR.out.get k hlt
      have HV := Lib.hid hN
      clear hN
      have i0 : (0 : Int) ≤ (k : Int) := by omega
      have i1 : (k : Int) < 2 := by omega
      go_wp2_with (first
        | (go_at_call 12; (with_reducible refine (load_no v t a _ HV.out).mono ?_); rintro e w1 ⟨rfl, hb⟩; have HB1 := Lib.hid hb; have HV1 := Lib.hid (HV.out.below hb); clear hb)
        | (go_at_call 8; (with_reducible refine (swap_no v t a x x _ HV1.out).mono ?_); rintro e w2 ⟨rfl, hb⟩; have HB2 := Lib.hid (HB1.out.trans (hb.mono HB1.out.size)); have HV2 := Lib.hid (HV1.out.below hb); clear hb)
        | (go_at_call 11; (with_reducible refine (add_no v t a x _ HV2.out).mono ?_); rintro e w3 ⟨rfl, hb⟩; have HB3 := Lib.hid (HB2.out.trans (hb.mono HB2.out.size)); have HV3 := Lib.hid (HV2.out.below hb); clear hb)
        | (go_at_call 13; (with_reducible refine (keep_no v true _ HV3.out).mono ?_); rintro e w4 ⟨rfl, rfl⟩)
        | (go_at_call 14; (with_reducible refine (store_no v t a x _ HV3.out).mono ?_); rintro e w5 ⟨rfl, hb⟩; have HB5 := Lib.hid (HB3.out.trans (hb.mono HB3.out.size)); have HV5 := Lib.hid (HV3.out.below hb); clear hb)
        | (go_at_call 7; (with_reducible refine (poke_no v _ a _ (HV5.out.alloc _)).mono ?_); rintro e w6 ⟨rfl, rfl⟩)
        | (go_at_call 15; (with_reducible refine (size_no v _ (HV5.out.alloc _)).mono ?_); rintro e w6 ⟨rfl, rfl⟩)
        | (go_at_call 16; (with_reducible refine (all_no v _ (HV5.out.alloc _)).mono ?_); rintro e w6 ⟨rfl, rfl⟩)
        | (go_at_call 17; (with_reducible refine (log_no v _ (HV5.out.alloc _)).mono ?_); rintro e w6 ⟨rfl, rfl⟩)
        | (go_at_call 18; (with_reducible refine (count_no v t _ (HV5.out.alloc _)).mono ?_); rintro e w6 ⟨rfl, rfl⟩)
        | (go_at_call 9; (with_reducible refine (peek_no v a _ (HV5.out.alloc _)).mono ?_); rintro e w6 ⟨rfl, rfl⟩)
        | (go_at_call 19; (with_reducible refine (copy_no v _ (HV5.out.alloc _)).mono ?_); rintro e w6 ⟨rfl, rfl⟩))
      go_roundw
      case rel => exact ⟨k + 1, by omega, by go_num, rfl, HR.out.below ((HB5.out).alloc HB5.out.size _)⟩
      case measure => simp [intOf]; omega
    · obtain rfl : k = 2 := by omega
      go_wp2_with (go_at_call 10; (with_reducible refine (awake_any _).mono ?_); rintro e w6 ⟨rfl, hb6⟩; have HB6 := Lib.hid (HR.out.2.2.2.2.trans (hb6.mono HR.out.2.2.2.2.size)); clear hb6)
      go_ret
      exact ⟨rfl, HB6.out⟩

set_option maxRecDepth 100000 in
set_option maxHeartbeats 6400000 in
theorem nobody_high (n t a x : Int) (h : 1048576 < n) (w : World) : Calls Try.prog 5 #[.int .i64 n, .int .i64 t, .int .i64 a, .int .u64 x] w fun e w' => e = .returned (.bool true) ∧ Below w.heap.size w w' := by
  have HN := Lib.hid (fun W => new_none n (.inr h) W)
  have HS := Lib.hid (NobRel.start w (w.alloc (.cells Z0 40)) (Below.refl _ _) (by simp))
  have e1 : decide (n < 1) = false := by simp; omega
  go_enter Try.func5, Try.ntmps5
  go_wp2_with (go_at_call 6; (with_reducible refine (HN.out _).mono ?_); rintro e w1 ⟨rfl, rfl⟩)
  go_loopw [31, 10] (fun i ok wr => ∃ k : Nat, k ≤ 2 ∧ i = .int .i64 k ∧ ok = .bool true ∧ NobRel w.heap.size (w.heap.size + 1) w wr) (fun i _ _ => 2 - (intOf i).toNat)
  case atStart => exact ⟨0, by omega, rfl, rfl, (by simpa using HS.out)⟩
  case round =>
    obtain ⟨k, hk, rfl, rfl, hrel⟩ := hrel
    have HR := Lib.hid hrel
    clear hrel
    by_cases hlt : k < 2
    · obtain ⟨v, hv, hN, hwz⟩ := HR.out.get k hlt
      have HV := Lib.hid hN
      clear hN
      have i0 : (0 : Int) ≤ (k : Int) := by omega
      have i1 : (k : Int) < 2 := by omega
      go_wp2_with (first
        | (go_at_call 12; (with_reducible refine (load_no v t a _ HV.out).mono ?_); rintro e w1 ⟨rfl, hb⟩; have HB1 := Lib.hid hb; have HV1 := Lib.hid (HV.out.below hb); clear hb)
        | (go_at_call 8; (with_reducible refine (swap_no v t a x x _ HV1.out).mono ?_); rintro e w2 ⟨rfl, hb⟩; have HB2 := Lib.hid (HB1.out.trans (hb.mono HB1.out.size)); have HV2 := Lib.hid (HV1.out.below hb); clear hb)
        | (go_at_call 11; (with_reducible refine (add_no v t a x _ HV2.out).mono ?_); rintro e w3 ⟨rfl, hb⟩; have HB3 := Lib.hid (HB2.out.trans (hb.mono HB2.out.size)); have HV3 := Lib.hid (HV2.out.below hb); clear hb)
        | (go_at_call 13; (with_reducible refine (keep_no v true _ HV3.out).mono ?_); rintro e w4 ⟨rfl, rfl⟩)
        | (go_at_call 14; (with_reducible refine (store_no v t a x _ HV3.out).mono ?_); rintro e w5 ⟨rfl, hb⟩; have HB5 := Lib.hid (HB3.out.trans (hb.mono HB3.out.size)); have HV5 := Lib.hid (HV3.out.below hb); clear hb)
        | (go_at_call 7; (with_reducible refine (poke_no v _ a _ (HV5.out.alloc _)).mono ?_); rintro e w6 ⟨rfl, rfl⟩)
        | (go_at_call 15; (with_reducible refine (size_no v _ (HV5.out.alloc _)).mono ?_); rintro e w6 ⟨rfl, rfl⟩)
        | (go_at_call 16; (with_reducible refine (all_no v _ (HV5.out.alloc _)).mono ?_); rintro e w6 ⟨rfl, rfl⟩)
        | (go_at_call 17; (with_reducible refine (log_no v _ (HV5.out.alloc _)).mono ?_); rintro e w6 ⟨rfl, rfl⟩)
        | (go_at_call 18; (with_reducible refine (count_no v t _ (HV5.out.alloc _)).mono ?_); rintro e w6 ⟨rfl, rfl⟩)
        | (go_at_call 9; (with_reducible refine (peek_no v a _ (HV5.out.alloc _)).mono ?_); rintro e w6 ⟨rfl, rfl⟩)
        | (go_at_call 19; (with_reducible refine (copy_no v _ (HV5.out.alloc _)).mono ?_); rintro e w6 ⟨rfl, rfl⟩))
      go_roundw
      case rel => exact ⟨k + 1, by omega, by go_num, rfl, HR.out.below ((HB5.out).alloc HB5.out.size _)⟩
      case measure => simp [intOf]; omega
    · obtain rfl : k = 2 := by omega
      go_wp2_with (go_at_call 10; (with_reducible refine (awake_any _).mono ?_); rintro e w6 ⟨rfl, hb6⟩; have HB6 := Lib.hid (HR.out.2.2.2.2.trans (hb6.mono HR.out.2.2.2.2.size)); clear hb6)
      go_ret
      exact ⟨rfl, HB6.out⟩

set_option maxRecDepth 100000 in
set_option maxHeartbeats 6400000 in
theorem nobody_in (n : Nat) (t a x : Int) (h0 : 0 < n) (h1 : n ≤ 1048576) (w : World) : Calls Try.prog 5 #[.int .i64 n, .int .i64 t, .int .i64 a, .int .u64 x] w fun e w' => e = .returned (.bool true) ∧ Below w.heap.size w w' := by
  have HN := Lib.hid (fun W => new_some n h0 h1 W)
  have e1 : decide ((n : Int) < 1) = false := by simp; omega
  have e2 : decide (1048576 < (n : Int)) = false := by simp; omega
  go_enter Try.func5, Try.ntmps5
  go_wp2_with (go_at_call 6; (with_reducible refine (HN.out _).mono ?_); rintro e w0 ⟨p, rfl, _, hb0⟩; have HS := Lib.hid (NobRel.start w w0 (by simpa using hb0) (by simpa using hb0.size)); clear hb0)
  go_loopw [31, 10] (fun i ok wr => ∃ k : Nat, k ≤ 2 ∧ i = .int .i64 k ∧ ok = .bool true ∧ NobRel w.heap.size w0.heap.size w wr) (fun i _ _ => 2 - (intOf i).toNat)
  case atStart => exact ⟨0, by omega, rfl, rfl, HS.out⟩
  case round =>
    obtain ⟨k, hk, rfl, rfl, hrel⟩ := hrel
    have HR := Lib.hid hrel
    clear hrel
    by_cases hlt : k < 2
    · obtain ⟨v, hv, hN, hwz⟩ := HR.out.get k hlt
      have HV := Lib.hid hN
      clear hN
      have i0 : (0 : Int) ≤ (k : Int) := by omega
      have i1 : (k : Int) < 2 := by omega
      go_wp2_with (first
        | (go_at_call 12; (with_reducible refine (load_no v t a _ HV.out).mono ?_); rintro e w1 ⟨rfl, hb⟩; have HB1 := Lib.hid hb; have HV1 := Lib.hid (HV.out.below hb); clear hb)
        | (go_at_call 8; (with_reducible refine (swap_no v t a x x _ HV1.out).mono ?_); rintro e w2 ⟨rfl, hb⟩; have HB2 := Lib.hid (HB1.out.trans (hb.mono HB1.out.size)); have HV2 := Lib.hid (HV1.out.below hb); clear hb)
        | (go_at_call 11; (with_reducible refine (add_no v t a x _ HV2.out).mono ?_); rintro e w3 ⟨rfl, hb⟩; have HB3 := Lib.hid (HB2.out.trans (hb.mono HB2.out.size)); have HV3 := Lib.hid (HV2.out.below hb); clear hb)
        | (go_at_call 13; (with_reducible refine (keep_no v true _ HV3.out).mono ?_); rintro e w4 ⟨rfl, rfl⟩)
        | (go_at_call 14; (with_reducible refine (store_no v t a x _ HV3.out).mono ?_); rintro e w5 ⟨rfl, hb⟩; have HB5 := Lib.hid (HB3.out.trans (hb.mono HB3.out.size)); have HV5 := Lib.hid (HV3.out.below hb); clear hb)
        | (go_at_call 7; (with_reducible refine (poke_no v _ a _ (HV5.out.alloc _)).mono ?_); rintro e w6 ⟨rfl, rfl⟩)
        | (go_at_call 15; (with_reducible refine (size_no v _ (HV5.out.alloc _)).mono ?_); rintro e w6 ⟨rfl, rfl⟩)
        | (go_at_call 16; (with_reducible refine (all_no v _ (HV5.out.alloc _)).mono ?_); rintro e w6 ⟨rfl, rfl⟩)
        | (go_at_call 17; (with_reducible refine (log_no v _ (HV5.out.alloc _)).mono ?_); rintro e w6 ⟨rfl, rfl⟩)
        | (go_at_call 18; (with_reducible refine (count_no v t _ (HV5.out.alloc _)).mono ?_); rintro e w6 ⟨rfl, rfl⟩)
        | (go_at_call 9; (with_reducible refine (peek_no v a _ (HV5.out.alloc _)).mono ?_); rintro e w6 ⟨rfl, rfl⟩)
        | (go_at_call 19; (with_reducible refine (copy_no v _ (HV5.out.alloc _)).mono ?_); rintro e w6 ⟨rfl, rfl⟩))
      go_roundw
      case rel => exact ⟨k + 1, by omega, by go_num, rfl, HR.out.below ((HB5.out).alloc HB5.out.size _)⟩
      case measure => simp [intOf]; omega
    · obtain rfl : k = 2 := by omega
      go_wp2_with (go_at_call 10; (with_reducible refine (awake_any _).mono ?_); rintro e w6 ⟨rfl, hb6⟩; have HB6 := Lib.hid (HR.out.2.2.2.2.trans (hb6.mono HR.out.2.2.2.2.size)); clear hb6)
      go_ret
      exact ⟨rfl, HB6.out⟩

theorem nobody_walk (n t a x : Int) (w : World) (_ : -9223372036854775808 ≤ n) (_ : n ≤ 9223372036854775807) (_ : -9223372036854775808 ≤ t) (_ : t ≤ 9223372036854775807) (_ : -9223372036854775808 ≤ a) (_ : a ≤ 9223372036854775807) (_ : 0 ≤ x) (_ : x ≤ 18446744073709551615) :
    Calls Try.prog 5 #[.int .i64 n, .int .i64 t, .int .i64 a, .int .u64 x] w fun e w' => e = .returned (.bool true) ∧ Below w.heap.size w w' := by
  by_cases h0 : n < 1
  · exact nobody_low n t a x h0 w
  · by_cases h1 : 1048576 < n
    · exact nobody_high n t a x h1 w
    · obtain ⟨k, rfl⟩ : ∃ k : Nat, n = k := ⟨n.toNat, by omega⟩
      exact nobody_in k t a x (by omega) (by omega) w
end Go.Proofs.Ytalkibpebfhoeaa
