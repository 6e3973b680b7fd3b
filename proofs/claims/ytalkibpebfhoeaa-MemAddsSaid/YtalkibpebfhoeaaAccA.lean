/- Contracts of access by Add over the seat's program, where nothing is noted, for a thread that is not counted. -/
import Derived.Test.YtalkibpebfhoeaaAcc
namespace Go.Proofs.Ytalkibpebfhoeaa
open Go.ChangeShapes Go.WideShapes Go.ChangeAt Go.RowKit Go.Joins
attribute [local go_sem ↓] Go.wp_at_zero Go.wp_at_succ

set_option maxRecDepth 100000 in
set_option maxHeartbeats 3200000 in
theorem acc24_low (B p bw n i : Nat) (lv : Value) (cnt f : Nat → Int) (x : Int) (kind want now : Int) (ok : Bool) (cb : Nat) (t : Int) (ht : t < 0) (hi : i < n) (hx : f i = x) (w : World) (hB : B ≤ w.heap.size) (h : MObj w B p bw n lv cnt false f)
    (hF : ∀ W, (∀ b o, b < w.heap.size → W.cell? ⟨b, o, none⟩ = w.cell? ⟨b, o, none⟩) → Calls Try.prog 24 #[.int .u64 x, .pointer (some ⟨cb, 0, none⟩)] W fun e w' => e = .returned (.tuple #[.int .u64 now, .bool ok]) ∧ W = w') :
    Calls Try.prog 21 #[.pointer (some ⟨p, 0, none⟩), .agg #[.int .i64 t, .int .i64 kind, .int .i64 i, .int .u64 want, .int .u64 0, .int .u64 0, .bool false], .func (.func 24) #[] #[.pointer (some ⟨cb, 0, none⟩)]] w
      (AccPost w B p bw n lv cnt false (upd f i now) (.agg #[.int .i64 t, .int .i64 kind, .int .i64 i, .int .u64 want, .int .u64 x, .int .u64 now, .bool ok])) := by
  have HF := Lib.hid hF
  have HO := Lib.hid h
  have HB := Lib.hid hB
  have c0 := h.words
  have ck := h.keep
  have cx := h.row i hi
  have fx := h.rowfree i hi
  rw [hx] at cx
  obtain ⟨p0, p1⟩ := h.hp
  obtain ⟨b0, b1⟩ := h.hbw
  have ne := h.ne
  obtain ⟨n0, n1⟩ := h.hn
  have HM := Lib.hid (fun W (h : W.cell? ⟨p, 0, none⟩ = some (.slice (some ⟨bw, 0, none⟩) n n)) => made_yes p bw n n0 W h)
  have HH := Lib.hid (fun W (h : W.cell? ⟨p, 0, none⟩ = some (.slice (some ⟨bw, 0, none⟩) n n)) => show Calls Try.prog 23 #[.pointer (some ⟨p, 0, none⟩), .int .i64 i] W fun e w' => e = .returned (.bool true) ∧ W = w' by
    have := has_yes p bw n i n0 W h
    rw [show (decide (0 ≤ (i : Int)) && decide ((i : Int) < n)) = true by simp; omega] at this
    exact this)
  have i0 : (0 : Int) ≤ (i : Int) := by omega
  have i1 : (i : Int) < (n : Int) := by omega
  have k0 : decide (0 ≤ t) = false := by simp; omega
  have p2 : p < w.heap.size + 1 := by omega
  have b2 : bw < w.heap.size + 1 := by omega
  have pn : w.heap.size ≠ p := by omega
  have bn : w.heap.size ≠ bw := by omega
  clear hF h hB
  go_enter Try.func21, Try.ntmps21
  go_wp2_with (first
    | (go_at_call 20; (with_reducible refine (HM.out _ (by go_simp)).mono ?_); rintro e w1 ⟨rfl, rfl⟩)
    | (go_at_call 23; (with_reducible refine (HH.out _ (by go_simp)).mono ?_); rintro e w1 ⟨rfl, rfl⟩))
  go_region_held3 (fun w' => w'.cell? ⟨p, 0, none⟩ = some (.slice (some ⟨bw, 0, none⟩) n n) ∧ w'.cell? ⟨w.heap.size, 2, none⟩ = some (.int .i64 i) ∧ w'.cell? ⟨bw, i, none⟩ = some (.int .u64 x))
    (first | (go_simp; done) | go_keep)
    (fail)
  all_goals go_wp2_with (go_at_call 24; (with_reducible refine (HF.out _ (bcell (by repeat' (first | with_reducible exact Below.refl _ _ | with_reducible refine Below.drew ?_ | with_reducible refine Below.alloc ?_ ?_ _ | (simp; done) | (simp; omega) | omega))).1).mono ?_); rintro e w1 ⟨rfl, rfl⟩)
  go_region_held3 (fun w' => w'.cell? ⟨p, 0, none⟩ = some (.slice (some ⟨bw, 0, none⟩) n n) ∧ w'.cell? ⟨w.heap.size, 2, none⟩ = some (.int .i64 i) ∧ w'.cell? ⟨w.heap.size, 5, none⟩ = some (.int .u64 now))
    (first | (go_simp; done) | go_keep)
    (fail)
  all_goals go_wp2_with fail
  have hB := HB.out
  refine bodyPost_ret (v := .tuple #[.agg #[.int .i64 t, .int .i64 kind, .int .i64 i, .int .u64 want, .int .u64 x, .int .u64 now, .bool ok], .int .i64 0]) (by simp [results, Try.results21, go_sem]) rfl ⟨rfl, (((HO.out.setWord i hi now).alloc _).alloc _).drew.drew, ?_⟩
  repeat' (first | with_reducible exact Below.refl _ _ | with_reducible refine Below.drew ?_ | with_reducible refine Below.alloc ?_ ?_ _ | with_reducible refine Below.setCell ?_ ?_ _ | (simp; done) | (simp; omega) | omega)

set_option maxRecDepth 100000 in
set_option maxHeartbeats 3200000 in
theorem acc24_high (B p bw n i : Nat) (lv : Value) (cnt f : Nat → Int) (x : Int) (kind want now : Int) (ok : Bool) (cb : Nat) (t : Int) (ht : 64 ≤ t) (hi : i < n) (hx : f i = x) (w : World) (hB : B ≤ w.heap.size) (h : MObj w B p bw n lv cnt false f)
    (hF : ∀ W, (∀ b o, b < w.heap.size → W.cell? ⟨b, o, none⟩ = w.cell? ⟨b, o, none⟩) → Calls Try.prog 24 #[.int .u64 x, .pointer (some ⟨cb, 0, none⟩)] W fun e w' => e = .returned (.tuple #[.int .u64 now, .bool ok]) ∧ W = w') :
    Calls Try.prog 21 #[.pointer (some ⟨p, 0, none⟩), .agg #[.int .i64 t, .int .i64 kind, .int .i64 i, .int .u64 want, .int .u64 0, .int .u64 0, .bool false], .func (.func 24) #[] #[.pointer (some ⟨cb, 0, none⟩)]] w
      (AccPost w B p bw n lv cnt false (upd f i now) (.agg #[.int .i64 t, .int .i64 kind, .int .i64 i, .int .u64 want, .int .u64 x, .int .u64 now, .bool ok])) := by
  have HF := Lib.hid hF
  have HO := Lib.hid h
  have HB := Lib.hid hB
  have c0 := h.words
  have ck := h.keep
  have cx := h.row i hi
  have fx := h.rowfree i hi
  rw [hx] at cx
  obtain ⟨p0, p1⟩ := h.hp
  obtain ⟨b0, b1⟩ := h.hbw
  have ne := h.ne
  obtain ⟨n0, n1⟩ := h.hn
  have HM := Lib.hid (fun W (h : W.cell? ⟨p, 0, none⟩ = some (.slice (some ⟨bw, 0, none⟩) n n)) => made_yes p bw n n0 W h)
  have HH := Lib.hid (fun W (h : W.cell? ⟨p, 0, none⟩ = some (.slice (some ⟨bw, 0, none⟩) n n)) => show Calls Try.prog 23 #[.pointer (some ⟨p, 0, none⟩), .int .i64 i] W fun e w' => e = .returned (.bool true) ∧ W = w' by
    have := has_yes p bw n i n0 W h
    rw [show (decide (0 ≤ (i : Int)) && decide ((i : Int) < n)) = true by simp; omega] at this
    exact this)
  have i0 : (0 : Int) ≤ (i : Int) := by omega
  have i1 : (i : Int) < (n : Int) := by omega
  have k0 : 0 ≤ t := by omega
  have k1 : decide (t < 64) = false := by simp; omega
  have p2 : p < w.heap.size + 1 := by omega
  have b2 : bw < w.heap.size + 1 := by omega
  have pn : w.heap.size ≠ p := by omega
  have bn : w.heap.size ≠ bw := by omega
  clear hF h hB
  go_enter Try.func21, Try.ntmps21
  go_wp2_with (first
    | (go_at_call 20; (with_reducible refine (HM.out _ (by go_simp)).mono ?_); rintro e w1 ⟨rfl, rfl⟩)
    | (go_at_call 23; (with_reducible refine (HH.out _ (by go_simp)).mono ?_); rintro e w1 ⟨rfl, rfl⟩))
  go_region_held3 (fun w' => w'.cell? ⟨p, 0, none⟩ = some (.slice (some ⟨bw, 0, none⟩) n n) ∧ w'.cell? ⟨w.heap.size, 2, none⟩ = some (.int .i64 i) ∧ w'.cell? ⟨bw, i, none⟩ = some (.int .u64 x))
    (first | (go_simp; done) | go_keep)
    (fail)
  all_goals go_wp2_with (go_at_call 24; (with_reducible refine (HF.out _ (bcell (by repeat' (first | with_reducible exact Below.refl _ _ | with_reducible refine Below.drew ?_ | with_reducible refine Below.alloc ?_ ?_ _ | (simp; done) | (simp; omega) | omega))).1).mono ?_); rintro e w1 ⟨rfl, rfl⟩)
  go_region_held3 (fun w' => w'.cell? ⟨p, 0, none⟩ = some (.slice (some ⟨bw, 0, none⟩) n n) ∧ w'.cell? ⟨w.heap.size, 2, none⟩ = some (.int .i64 i) ∧ w'.cell? ⟨w.heap.size, 5, none⟩ = some (.int .u64 now))
    (first | (go_simp; done) | go_keep)
    (fail)
  all_goals go_wp2_with fail
  have hB := HB.out
  refine bodyPost_ret (v := .tuple #[.agg #[.int .i64 t, .int .i64 kind, .int .i64 i, .int .u64 want, .int .u64 x, .int .u64 now, .bool ok], .int .i64 0]) (by simp [results, Try.results21, go_sem]) rfl ⟨rfl, (((HO.out.setWord i hi now).alloc _).alloc _).drew.drew, ?_⟩
  repeat' (first | with_reducible exact Below.refl _ _ | with_reducible refine Below.drew ?_ | with_reducible refine Below.alloc ?_ ?_ _ | with_reducible refine Below.setCell ?_ ?_ _ | (simp; done) | (simp; omega) | omega)
end Go.Proofs.Ytalkibpebfhoeaa
