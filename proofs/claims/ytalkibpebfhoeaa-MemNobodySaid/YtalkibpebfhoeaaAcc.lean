/- Contracts of access over the seat's program, where nothing is noted. -/
import Derived.Test.YtalkibpebfhoeaaClos
namespace Go.Proofs.Ytalkibpebfhoeaa
open Go.ChangeShapes Go.WideShapes Go.ChangeAt Go.RowKit Go.Joins
attribute [local go_sem ↓] Go.wp_at_zero Go.wp_at_succ

/-- An object that a call made: its words, its notes, its counts, whether it notes. -/
structure MObj (w : World) (B p bw n : Nat) (lv : Value) (cnt : Nat → Int) (keep : Bool) (f : Nat → Int) : Prop where
  words : w.cell? ⟨p, 0, none⟩ = some (.slice (some ⟨bw, 0, none⟩) n n)
  log : w.cell? ⟨p, 1, none⟩ = some lv
  count : ∀ i, i < 64 → w.cell? ⟨p, 2 + i, none⟩ = some (.int .i64 (cnt i))
  keep : w.cell? ⟨p, 66, none⟩ = some (.bool keep)
  free : ∀ i, i < 67 → w.frozen? ⟨p, i, none⟩ = false
  row : ∀ i, i < n → w.cell? ⟨bw, i, none⟩ = some (.int .u64 (f i))
  rowfree : ∀ i, i < n → w.frozen? ⟨bw, i, none⟩ = false
  hp : B ≤ p ∧ p < w.heap.size
  hbw : B ≤ bw ∧ bw < w.heap.size
  ne : bw ≠ p
  hn : 0 < n ∧ n ≤ 9223372036854775807
def upd (f : Nat → Int) (i : Nat) (x : Int) : Nat → Int := fun j => if j = i then x else f j

section
variable {w : World} {B p bw n : Nat} {lv : Value} {cnt f : Nat → Int} {keep : Bool}
theorem MObj.cells (h : MObj w B p bw n lv cnt keep f) {w' : World} (hp : ∀ o, w'.cell? ⟨p, o, none⟩ = w.cell? ⟨p, o, none⟩) (hb : ∀ o, w'.cell? ⟨bw, o, none⟩ = w.cell? ⟨bw, o, none⟩)
    (gp : ∀ o, w'.frozen? ⟨p, o, none⟩ = w.frozen? ⟨p, o, none⟩) (gb : ∀ o, w'.frozen? ⟨bw, o, none⟩ = w.frozen? ⟨bw, o, none⟩) (hs : w.heap.size ≤ w'.heap.size) : MObj w' B p bw n lv cnt keep f :=
  ⟨by rw [hp]; exact h.words, by rw [hp]; exact h.log, fun i hi => by rw [hp]; exact h.count i hi, by rw [hp]; exact h.keep, fun i hi => by rw [gp]; exact h.free i hi, fun i hi => by rw [hb]; exact h.row i hi,
    fun i hi => by rw [gb]; exact h.rowfree i hi, ⟨h.hp.1, Nat.lt_of_lt_of_le h.hp.2 hs⟩, ⟨h.hbw.1, Nat.lt_of_lt_of_le h.hbw.2 hs⟩, h.ne, h.hn⟩
theorem MObj.below (h : MObj w B p bw n lv cnt keep f) {w' : World} (hw : Below w.heap.size w w') : MObj w' B p bw n lv cnt keep f :=
  h.cells (fun _ => (bcell hw).1 _ _ h.hp.2) (fun _ => (bcell hw).1 _ _ h.hbw.2) (fun _ => (bcell hw).2 _ _ h.hp.2) (fun _ => (bcell hw).2 _ _ h.hbw.2) hw.size
theorem MObj.drew (h : MObj w B p bw n lv cnt keep f) : MObj w.drew B p bw n lv cnt keep f := h.cells (fun _ => rfl) (fun _ => rfl) (fun _ => rfl) (fun _ => rfl) (Nat.le_refl _)
theorem MObj.alloc (h : MObj w B p bw n lv cnt keep f) (o : Go.Obj) : MObj (w.alloc o) B p bw n lv cnt keep f := h.below ((Below.refl _ _).alloc (Nat.le_refl _) _)
theorem size_set (w : World) (a : Addr) (u : Value) : (w.setCell a u).heap.size = w.heap.size := by simp
theorem MObj.setFar (h : MObj w B p bw n lv cnt keep f) {b : Nat} (j : Nat) (u : Value) (h1 : b ≠ p) (h2 : b ≠ bw) : MObj (w.setCell ⟨b, j, none⟩ u) B p bw n lv cnt keep f :=
  h.cells (fun _ => World.cell?_setCell_far _ _ _ _ h1) (fun _ => World.cell?_setCell_far _ _ _ _ h2) (fun _ => by simp) (fun _ => by simp) (Nat.le_of_eq (size_set _ _ _).symm)
theorem MObj.setWord (h : MObj w B p bw n lv cnt keep f) (i : Nat) (hi : i < n) (x : Int) : MObj (w.setCell ⟨bw, i, none⟩ (.int .u64 x)) B p bw n lv cnt keep (upd f i x) := by
  have hp : ∀ o, (w.setCell ⟨bw, i, none⟩ (.int .u64 x)).cell? ⟨p, o, none⟩ = w.cell? ⟨p, o, none⟩ := fun o => World.cell?_setCell_far _ _ _ _ h.ne
  have g : ∀ a, (w.setCell ⟨bw, i, none⟩ (.int .u64 x)).frozen? a = w.frozen? a := fun a => by simp
  refine ⟨by rw [hp]; exact h.words, by rw [hp]; exact h.log, fun i hi => by rw [hp]; exact h.count i hi, by rw [hp]; exact h.keep, fun i hi => by rw [g]; exact h.free i hi, fun j hj => ?_,
    fun i hi => by rw [g]; exact h.rowfree i hi, ⟨h.hp.1, by rw [size_set]; exact h.hp.2⟩, ⟨h.hbw.1, by rw [size_set]; exact h.hbw.2⟩, h.ne, h.hn⟩
  unfold upd
  by_cases e : j = i
  · subst e
    rw [if_pos rfl]
    exact World.cell?_setCell_same _ _ _ (h.row j hj)
  · rw [if_neg e, World.cell?_setCell_other _ _ _ _ (fun e2 => e (by injection e2 with _ e3; exact e3.symm))]
    exact h.row j hj
theorem MObj.setCount (h : MObj w B p bw n lv cnt keep f) (k : Nat) (hk : k < 64) (x : Int) : MObj (w.setCell ⟨p, 2 + k, none⟩ (.int .i64 x)) B p bw n lv (upd cnt k x) keep f := by
  have hb : ∀ o, (w.setCell ⟨p, 2 + k, none⟩ (.int .i64 x)).cell? ⟨bw, o, none⟩ = w.cell? ⟨bw, o, none⟩ := fun o => World.cell?_setCell_far _ _ _ _ (Ne.symm h.ne)
  have hp : ∀ o, o ≠ 2 + k → (w.setCell ⟨p, 2 + k, none⟩ (.int .i64 x)).cell? ⟨p, o, none⟩ = w.cell? ⟨p, o, none⟩ := fun o ho => World.cell?_setCell_other _ _ _ _ (fun e => ho (by injection e with _ e2; exact e2.symm))
  have g : ∀ a, (w.setCell ⟨p, 2 + k, none⟩ (.int .i64 x)).frozen? a = w.frozen? a := fun a => by simp
  refine ⟨by rw [hp _ (by omega)]; exact h.words, by rw [hp _ (by omega)]; exact h.log, fun j hj => ?_, by rw [hp _ (by omega)]; exact h.keep, fun i hi => by rw [g]; exact h.free i hi, fun j hj => by rw [hb]; exact h.row j hj,
    fun i hi => by rw [g]; exact h.rowfree i hi, ⟨h.hp.1, by rw [size_set]; exact h.hp.2⟩, ⟨h.hbw.1, by rw [size_set]; exact h.hbw.2⟩, h.ne, h.hn⟩
  unfold upd
  by_cases e : j = k
  · subst e
    rw [if_pos rfl]
    exact World.cell?_setCell_same _ _ _ (h.count j hj)
  · rw [if_neg e, hp _ (by omega)]
    exact h.count j hj
end

def AccPost (w : World) (B p bw n : Nat) (lv : Value) (cnt : Nat → Int) (keep : Bool) (f : Nat → Int) (av : Value) (e : Ending) (w' : World) : Prop :=
  e = .returned (.tuple #[av, .int .i64 0]) ∧ MObj w' B p bw n lv cnt keep f ∧ Below B w w'

set_option maxRecDepth 100000 in
set_option maxHeartbeats 3200000 in
theorem acc24_in (B p bw n i : Nat) (lv : Value) (cnt f : Nat → Int) (x : Int) (kind want now : Int) (ok : Bool) (cb : Nat) (k : Nat) (hk : k < 64) (hi : i < n) (hx : f i = x) (w : World) (hB : B ≤ w.heap.size) (h : MObj w B p bw n lv cnt false f)
    (hF : ∀ W, (∀ b o, b < w.heap.size → W.cell? ⟨b, o, none⟩ = w.cell? ⟨b, o, none⟩) → Calls Try.prog 24 #[.int .u64 x, .pointer (some ⟨cb, 0, none⟩)] W fun e w' => e = .returned (.tuple #[.int .u64 now, .bool ok]) ∧ W = w') :
    Calls Try.prog 21 #[.pointer (some ⟨p, 0, none⟩), .agg #[.int .i64 (k : Int), .int .i64 kind, .int .i64 i, .int .u64 want, .int .u64 0, .int .u64 0, .bool false], .func (.func 24) #[] #[.pointer (some ⟨cb, 0, none⟩)]] w
      (AccPost w B p bw n lv (upd cnt k (wrap64 (cnt k + 1))) false (upd f i now) (.agg #[.int .i64 (k : Int), .int .i64 kind, .int .i64 i, .int .u64 want, .int .u64 x, .int .u64 now, .bool ok])) := by
  have HF := Lib.hid hF
  have HO := Lib.hid h
  have HB := Lib.hid hB
  have c0 := h.words
  have ck := h.keep
  have cx := h.row i hi
  have fx := h.rowfree i hi
  have cc := h.count k hk
  have fc := h.free (2 + k) (by omega)
  rw [hx] at cx
  obtain ⟨p0, p1⟩ := h.hp
  obtain ⟨b0, b1⟩ := h.hbw
  have ne := h.ne
  obtain ⟨n0, n1⟩ := h.hn
  have HM := Lib.hid (fun W (h : W.cell? ⟨p, 0, none⟩ = some (.slice (some ⟨bw, 0, none⟩) n n)) => made_yes p bw n n0 W h)
  have HH := Lib.hid (fun W (h : W.cell? ⟨p, 0, none⟩ = some (.slice (some ⟨bw, 0, none⟩) n n)) => show Calls Try.prog 23 #[.pointer (some ⟨p, 0, none⟩), .int .i64 i] W fun e w' => e = .returned (.bool true) ∧ W = w' by
    have := has_yes p bw n i n0 W h
    rw [show (decide (0 ≤ (i : Int)) && decide ((i : Int) < n)) = true by simp; omega] at this
    exact this)
  have i0 : (0 : Int) ≤ (i : Int) := by omega
  have i1 : (i : Int) < (n : Int) := by omega
  have k0 : (0 : Int) ≤ (k : Int) := by omega
  have k1 : (k : Int) < 64 := by omega
  have p2 : p < w.heap.size + 1 := by omega
  have b2 : bw < w.heap.size + 1 := by omega
  have pn : w.heap.size ≠ p := by omega
  have bn : w.heap.size ≠ bw := by omega
  clear hF h hB
  go_enter Try.func21, Try.ntmps21
  go_wp2_with (first
    | (go_at_call 20; (with_reducible refine (HM.out _ (by go_simp)).mono ?_); rintro e w1 ⟨rfl, rfl⟩)
    | (go_at_call 23; (with_reducible refine (HH.out _ (by go_simp)).mono ?_); rintro e w1 ⟨rfl, rfl⟩))
  go_region_held3 (fun w' => w'.cell? ⟨p, 0, none⟩ = some (.slice (some ⟨bw, 0, none⟩) n n) ∧ w'.cell? ⟨w.heap.size, 2, none⟩ = some (.int .i64 i) ∧ w'.cell? ⟨bw, i, none⟩ = some (.int .u64 x))
    (first | (go_simp; done) | go_keep)
    (fail)
  all_goals go_wp2_with (go_at_call 24; (with_reducible refine (HF.out _ (bcell (by repeat' (first | with_reducible exact Below.refl _ _ | with_reducible refine Below.drew ?_ | with_reducible refine Below.alloc ?_ ?_ _ | (simp; done) | (simp; omega) | omega))).1).mono ?_); rintro e w1 ⟨rfl, rfl⟩)
  go_region_held3 (fun w' => w'.cell? ⟨p, 0, none⟩ = some (.slice (some ⟨bw, 0, none⟩) n n) ∧ w'.cell? ⟨w.heap.size, 2, none⟩ = some (.int .i64 i) ∧ w'.cell? ⟨w.heap.size, 5, none⟩ = some (.int .u64 now))
    (first | (go_simp; done) | go_keep)
    (fail)
  all_goals go_wp2_with fail
  go_region
  all_goals go_wp2_with fail
  have hB := HB.out
  refine bodyPost_ret (v := .tuple #[.agg #[.int .i64 (k : Int), .int .i64 kind, .int .i64 i, .int .u64 want, .int .u64 x, .int .u64 now, .bool ok], .int .i64 0]) (by simp [results, Try.results21, go_sem]) rfl ⟨rfl, ((((HO.out.setWord i hi now).setCount k hk _).alloc _).alloc _).drew.drew.drew, ?_⟩
  repeat' (first | with_reducible exact Below.refl _ _ | with_reducible refine Below.drew ?_ | with_reducible refine Below.alloc ?_ ?_ _ | with_reducible refine Below.setCell ?_ ?_ _ | (simp; done) | (simp; omega) | omega)

end Go.Proofs.Ytalkibpebfhoeaa
