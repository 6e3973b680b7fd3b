/- The contract of the reference's Turned; LifoTurned over the seat's program: it answers true. -/
import Derived.Test.YtlgnkkjbbaaokaaLfK
import Derived.Deep.RegionLaw
namespace Go.Proofs.Ytlgnkkjbbaaokaa
open Go.ChangeShapes Go.WideShapes Go.ChangeAt Go.RowKit Go.Joins

/-- A box that holds cells without values, and a copy of what calls came to. -/
def CopiedD (u : World) (cp : Int) (m : Nat) (g : Nat → Nat → Int) (s : Value) (w : World) : Prop :=
  ∃ p d c', ∃ PD : Nat → Prop, s = .pointer (some ⟨p, 0, none⟩) ∧ (u.heap.size ≤ p ∧ p < w.heap.size) ∧ Below u.heap.size u w ∧ Box3 w p (.int .i64 cp) (.slice none 0 0) (.slice d m c') ∧ OwnE PD w 39 4 (.slice d m c') m (flatL 4 g m) ∧ (∀ b, PD b → u.heap.size ≤ b ∧ b ≠ p ∧ b < w.heap.size)
theorem copiedD_last {u w : World} {cp : Int} {m X2 Y2 c' : Nat} {d : Option Addr} {g : Nat → Nat → Int} {t : TypeId} (hb : Below u.heap.size u w) (hw : OwnE (fun b => X2 ≤ b ∧ b < Y2) w 39 4 (.slice d m c') m (flatL 4 g m))
    (ho : u.heap.size ≤ X2 ∧ Y2 ≤ w.heap.size) : CopiedD u cp m g (.pointer (some ⟨w.heap.size, 0, none⟩)) (w.alloc (.cells #[.int .i64 cp, .slice none 0 0, .slice d m c'] t)) := by
  have hs := hb.size
  have hz : (w.alloc (.cells #[.int .i64 cp, .slice none 0 0, .slice d m c'] t)).heap.size = w.heap.size + 1 := World.size_alloc ..
  refine ⟨w.heap.size, d, c', _, rfl, ⟨hs, by omega⟩, hb.alloc hs _, Box3.new _ _, hw.below ((Below.refl _ _).alloc (Nat.le_refl _) _), fun b h => ?_⟩
  obtain ⟨h1, h2⟩ := h
  exact ⟨by omega, by omega, by omega⟩
theorem copiedD_store {u w : World} {cp : Int} {m X2 Y2 c' p : Nat} {d : Option Addr} {g : Nat → Nat → Int} {a0 a1 a2 : Value} (hb : Below u.heap.size u w) (hz : Box3 w p a0 a1 a2) (hw : OwnE (fun b => X2 ≤ b ∧ b < Y2) w 39 4 (.slice d m c') m (flatL 4 g m))
    (ho : u.heap.size ≤ X2 ∧ u.heap.size ≤ p ∧ p < w.heap.size ∧ Y2 ≤ w.heap.size ∧ (Y2 ≤ p ∨ p < X2)) : CopiedD u cp m g (.pointer (some ⟨p, 0, none⟩)) (((w.setCell ⟨p, 0, none⟩ (.int .i64 cp)).setCell ⟨p, 1, none⟩ (.slice none 0 0)).setCell ⟨p, 2, none⟩ (.slice d m c')) := by
  have hs := hb.size
  have hsz : (store3 w p (.int .i64 cp) (.slice none 0 0) (.slice d m c')).heap.size = w.heap.size := store3_size
  have nl : ¬ (X2 ≤ p ∧ p < Y2) := fun h' => by omega
  refine ⟨p, d, c', _, rfl, ⟨by omega, ?_⟩, store3_below hb (by omega), hz.store _ _ _, ((hw.set nl).set nl).set nl, fun b h => ?_⟩
  · show p < (store3 w p _ _ _).heap.size
    rw [hsz]
    omega
  · obtain ⟨h1, h2⟩ := h
    refine ⟨by omega, by omega, ?_⟩
    show b < (store3 w p _ _ _).heap.size
    rw [hsz]
    omega
theorem grown_drew {w w' : World} {r : Option Nat} (h : w.drew.grownBy w' r) : w.grownBy w' r := ⟨h.os, h.tape, h.output, h.size, h.block⟩
theorem own_turn {w : World} {B k : Nat} {v : Value} {x : Int} {F : Nat → Int} (hx : x = F k) (h : w.ownsRow B 3 1 v (k + 1) (rowL .i64 F k ++ [.int .i64 x])) : w.ownsRow B 3 1 v (k + 1) (rowL .i64 F (k + 1)) := by
  rw [rowL_succ, ← hx]
  exact h
/-- The rows of the loop that turns. -/
def TurnAt (u wc : World) (cp : Int) (n m : Nat) (f : Nat → Int) (g : Nat → Nat → Int) (p : Nat) (d : Option Addr) (c' : Nat) (PD : Nat → Prop) (k : Nat) (wr : World) : Prop :=
  ∃ a cap, Box3 wr p (.int .i64 cp) (.slice a k cap) (.slice d m c') ∧ wr.ownsRow wc.heap.size 3 1 (.slice a k cap) k (rowL .i64 (fun j => f (n - 1 - j)) k) ∧ OwnE PD wr 39 4 (.slice d m c') m (flatL 4 g m) ∧ Below u.heap.size u wr ∧ wc.heap.size ≤ wr.heap.size
set_option maxRecDepth 100000 in
set_option maxHeartbeats 6400000 in
theorem rturned_any (v : Value) (C : CV) (w : World) (h : CellsAt w v C) : Calls Try.prog 15 #[v] w (RetAt C.turn w) := by
  obtain ⟨la, lc, da, dc, rfl, hl, hd⟩ := h
  obtain ⟨cp, n, f, m, g⟩ := C
  dsimp only at *
  have hn := hl.1
  have hm := hd.1
  have HNL := Lib.hid (show (flatL 4 g m).length = m * 4 ∧ (da = none → m = 0 ∧ dc = 0) ∧ m ≤ maxLen ∧ m * 32 ≤ 140737488355328 from ⟨by rw [flatL_len], hd.2.1, by unfold maxLen; have := hd.1; omega, by have := hd.1; omega⟩)
  obtain ⟨ti, hi0, hz0, hz1, hz2⟩ := info_parts Try.info_int
  have HI := Lib.hid (And.intro hi0 (And.intro hz0 (And.intro hz1 hz2)))
  clear hi0 hz0 hz1 hz2
  have HL := Lib.hid hl
  have HD := Lib.hid hd
  clear hl hd
  go_enter Try.func15, Try.ntmps15
  go_wp2
  refine abstract_code (fun u => (u.cell? ⟨w.heap.size, 0, none⟩ = some (.int .i64 cp) ∧ u.cell? ⟨w.heap.size, 1, none⟩ = some (.slice la n lc) ∧ u.cell? ⟨w.heap.size, 2, none⟩ = some (.slice da m dc)) ∧ Box3 u (w.heap.size + 1) (.int .i64 0) (.slice none 0 0) (.slice none 0 0) ∧ (RowI u la n lc f ∧ RowS 4 u da m dc g) ∧ Below w.heap.size w u ∧ w.heap.size + 1 < u.heap.size) ?_ ?_
  · have hB : Below w.heap.size w ((w.alloc (.cells #[.int .i64 cp, .slice la n lc, .slice da m dc] 25)).alloc (.cells #[.int .i64 0, .slice none 0 0, .slice none 0 0] 25)) := ((Below.refl _ _).alloc (Nat.le_refl _) _).alloc (by simp) _
    refine ⟨⟨by go_simp, by go_simp, by go_simp⟩, ?_, ⟨HL.out.below hB, HD.out.below hB⟩, hB, by simp⟩
    have := Box3.new (a := .int .i64 0) (b := .slice none 0 0) (c := .slice none 0 0) (w.alloc (.cells #[.int .i64 cp, .slice la n lc, .slice da m dc] 25)) 25
    simpa using this
  rintro u ⟨hc, hz, hr, hB, z2⟩
  clear HL HD
  have HU := Lib.hid (show Below w.heap.size w u ∧ (∀ {W}, Below u.heap.size u W → RowI W la n lc f) from ⟨hB, fun h => hr.1.below h⟩)
  have HCP := Lib.hid (show ∀ W, Below u.heap.size u W → ∀ ad, da = some ad → ∀ j v, (flatL 4 g m)[j]? = some v → W.cell? (ad.add j) = some v from fun W h _ had _ _ hu => (hr.2.below h).news had hu)
  have Q0 := Lib.hid hc
  have HR := Lib.hid hz
  have z0 : w.heap.size < u.heap.size := by omega
  obtain ⟨c0, c1, c2⟩ := hc
  clear hr hB hz
  go_cut [3] from 5 (fun s9 wx => CopiedD u cp m g s9 wx)
  case first =>
    have HB := Lib.hid (show Below u.heap.size u u.drew from Below.drew (Below.refl _ _))
    go_region_held3 (fun W => W.cell? ⟨w.heap.size, 0, none⟩ = some (.int .i64 cp) ∧ W.cell? ⟨w.heap.size, 1, none⟩ = some (.slice la n lc) ∧ W.cell? ⟨w.heap.size, 2, none⟩ = some (.slice da m dc))
      (first | with_reducible exact ⟨c0, c1, c2⟩ | (go_simp; done) | exact ⟨((bcell (W := u) (by (first | with_reducible exact HB.out | (with_reducible refine Below.alloc ?_ ?_ _; (with_reducible exact HB.out); all_goals first | exact HB.out.size | (have := HB.out.size; simp; omega)) | (with_reducible refine Below.alloc ?_ ?_ _; with_reducible refine Below.alloc ?_ ?_ _; (with_reducible exact HB.out); all_goals first | exact HB.out.size | (have := HB.out.size; simp; omega)) | (with_reducible refine Below.alloc ?_ ?_ _; with_reducible refine Below.alloc ?_ ?_ _; with_reducible refine Below.alloc ?_ ?_ _; (with_reducible exact HB.out); all_goals first | exact HB.out.size | (have := HB.out.size; simp; omega)) | (with_reducible refine Below.alloc ?_ ?_ _; with_reducible refine Below.alloc ?_ ?_ _; with_reducible refine Below.alloc ?_ ?_ _; with_reducible refine Below.alloc ?_ ?_ _; (with_reducible exact HB.out); all_goals first | exact HB.out.size | (have := HB.out.size; simp; omega)) | (with_reducible refine Below.drew ?_; with_reducible refine Below.alloc ?_ ?_ _; (with_reducible exact Below.refl _ _); all_goals first | exact Nat.le_refl _ | (simp; done) | (simp; omega)) | (with_reducible refine Below.drew ?_; with_reducible refine Below.alloc ?_ ?_ _; with_reducible refine Below.alloc ?_ ?_ _; (with_reducible exact Below.refl _ _); all_goals first | exact Nat.le_refl _ | (simp; done) | (simp; omega)) | (with_reducible refine Below.drew ?_; with_reducible refine Below.alloc ?_ ?_ _; with_reducible refine Below.alloc ?_ ?_ _; with_reducible refine Below.alloc ?_ ?_ _; (with_reducible exact Below.refl _ _); all_goals first | exact Nat.le_refl _ | (simp; done) | (simp; omega)) | (with_reducible refine Below.drew ?_; with_reducible refine Below.alloc ?_ ?_ _; with_reducible refine Below.alloc ?_ ?_ _; with_reducible refine Below.alloc ?_ ?_ _; with_reducible refine Below.alloc ?_ ?_ _; (with_reducible exact Below.refl _ _); all_goals first | exact Nat.le_refl _ | (simp; done) | (simp; omega))))).1 _ _ z0).trans Q0.out.1, ((bcell (W := u) (by (first | with_reducible exact HB.out | (with_reducible refine Below.alloc ?_ ?_ _; (with_reducible exact HB.out); all_goals first | exact HB.out.size | (have := HB.out.size; simp; omega)) | (with_reducible refine Below.alloc ?_ ?_ _; with_reducible refine Below.alloc ?_ ?_ _; (with_reducible exact HB.out); all_goals first | exact HB.out.size | (have := HB.out.size; simp; omega)) | (with_reducible refine Below.alloc ?_ ?_ _; with_reducible refine Below.alloc ?_ ?_ _; with_reducible refine Below.alloc ?_ ?_ _; (with_reducible exact HB.out); all_goals first | exact HB.out.size | (have := HB.out.size; simp; omega)) | (with_reducible refine Below.alloc ?_ ?_ _; with_reducible refine Below.alloc ?_ ?_ _; with_reducible refine Below.alloc ?_ ?_ _; with_reducible refine Below.alloc ?_ ?_ _; (with_reducible exact HB.out); all_goals first | exact HB.out.size | (have := HB.out.size; simp; omega)) | (with_reducible refine Below.drew ?_; with_reducible refine Below.alloc ?_ ?_ _; (with_reducible exact Below.refl _ _); all_goals first | exact Nat.le_refl _ | (simp; done) | (simp; omega)) | (with_reducible refine Below.drew ?_; with_reducible refine Below.alloc ?_ ?_ _; with_reducible refine Below.alloc ?_ ?_ _; (with_reducible exact Below.refl _ _); all_goals first | exact Nat.le_refl _ | (simp; done) | (simp; omega)) | (with_reducible refine Below.drew ?_; with_reducible refine Below.alloc ?_ ?_ _; with_reducible refine Below.alloc ?_ ?_ _; with_reducible refine Below.alloc ?_ ?_ _; (with_reducible exact Below.refl _ _); all_goals first | exact Nat.le_refl _ | (simp; done) | (simp; omega)) | (with_reducible refine Below.drew ?_; with_reducible refine Below.alloc ?_ ?_ _; with_reducible refine Below.alloc ?_ ?_ _; with_reducible refine Below.alloc ?_ ?_ _; with_reducible refine Below.alloc ?_ ?_ _; (with_reducible exact Below.refl _ _); all_goals first | exact Nat.le_refl _ | (simp; done) | (simp; omega))))).1 _ _ z0).trans Q0.out.2.1, ((bcell (W := u) (by (first | with_reducible exact HB.out | (with_reducible refine Below.alloc ?_ ?_ _; (with_reducible exact HB.out); all_goals first | exact HB.out.size | (have := HB.out.size; simp; omega)) | (with_reducible refine Below.alloc ?_ ?_ _; with_reducible refine Below.alloc ?_ ?_ _; (with_reducible exact HB.out); all_goals first | exact HB.out.size | (have := HB.out.size; simp; omega)) | (with_reducible refine Below.alloc ?_ ?_ _; with_reducible refine Below.alloc ?_ ?_ _; with_reducible refine Below.alloc ?_ ?_ _; (with_reducible exact HB.out); all_goals first | exact HB.out.size | (have := HB.out.size; simp; omega)) | (with_reducible refine Below.alloc ?_ ?_ _; with_reducible refine Below.alloc ?_ ?_ _; with_reducible refine Below.alloc ?_ ?_ _; with_reducible refine Below.alloc ?_ ?_ _; (with_reducible exact HB.out); all_goals first | exact HB.out.size | (have := HB.out.size; simp; omega)) | (with_reducible refine Below.drew ?_; with_reducible refine Below.alloc ?_ ?_ _; (with_reducible exact Below.refl _ _); all_goals first | exact Nat.le_refl _ | (simp; done) | (simp; omega)) | (with_reducible refine Below.drew ?_; with_reducible refine Below.alloc ?_ ?_ _; with_reducible refine Below.alloc ?_ ?_ _; (with_reducible exact Below.refl _ _); all_goals first | exact Nat.le_refl _ | (simp; done) | (simp; omega)) | (with_reducible refine Below.drew ?_; with_reducible refine Below.alloc ?_ ?_ _; with_reducible refine Below.alloc ?_ ?_ _; with_reducible refine Below.alloc ?_ ?_ _; (with_reducible exact Below.refl _ _); all_goals first | exact Nat.le_refl _ | (simp; done) | (simp; omega)) | (with_reducible refine Below.drew ?_; with_reducible refine Below.alloc ?_ ?_ _; with_reducible refine Below.alloc ?_ ?_ _; with_reducible refine Below.alloc ?_ ?_ _; with_reducible refine Below.alloc ?_ ?_ _; (with_reducible exact Below.refl _ _); all_goals first | exact Nat.le_refl _ | (simp; done) | (simp; omega))))).1 _ _ z0).trans Q0.out.2.2⟩ | (refine ⟨?_, ?_, ?_⟩ <;> (rw [cell_set_ne (.inl (by first | omega | (simp; omega))), cell_set_ne (.inl (by first | omega | (simp; omega))), cell_set_ne (.inl (by first | omega | (simp; omega)))]; first | with_reducible assumption | (go_simp; done))) | go_keep)
      ((refine step_copy (by rfl) _ _ 23 (by rfl) 39 (.agg #[.int .i64 0, .int .i64 0, .int .i64 0, .int .i64 0]) 4 32 Try.underlying23 Try.info_res rfl (by decide) _ (by rfl) da m dc (flatL 4 g m) (by rfl) HNL.out.1 HNL.out.2.1 (HCP.out _ (by (first | with_reducible exact HB.out | (with_reducible refine Below.alloc ?_ ?_ _; (with_reducible exact HB.out); all_goals first | exact HB.out.size | (have := HB.out.size; simp; omega)) | (with_reducible refine Below.alloc ?_ ?_ _; with_reducible refine Below.alloc ?_ ?_ _; (with_reducible exact HB.out); all_goals first | exact HB.out.size | (have := HB.out.size; simp; omega)) | (with_reducible refine Below.alloc ?_ ?_ _; with_reducible refine Below.alloc ?_ ?_ _; with_reducible refine Below.alloc ?_ ?_ _; (with_reducible exact HB.out); all_goals first | exact HB.out.size | (have := HB.out.size; simp; omega)) | (with_reducible refine Below.alloc ?_ ?_ _; with_reducible refine Below.alloc ?_ ?_ _; with_reducible refine Below.alloc ?_ ?_ _; with_reducible refine Below.alloc ?_ ?_ _; (with_reducible exact HB.out); all_goals first | exact HB.out.size | (have := HB.out.size; simp; omega)) | (with_reducible refine Below.drew ?_; with_reducible refine Below.alloc ?_ ?_ _; (with_reducible exact Below.refl _ _); all_goals first | exact Nat.le_refl _ | (simp; done) | (simp; omega)) | (with_reducible refine Below.drew ?_; with_reducible refine Below.alloc ?_ ?_ _; with_reducible refine Below.alloc ?_ ?_ _; (with_reducible exact Below.refl _ _); all_goals first | exact Nat.le_refl _ | (simp; done) | (simp; omega)) | (with_reducible refine Below.drew ?_; with_reducible refine Below.alloc ?_ ?_ _; with_reducible refine Below.alloc ?_ ?_ _; with_reducible refine Below.alloc ?_ ?_ _; (with_reducible exact Below.refl _ _); all_goals first | exact Nat.le_refl _ | (simp; done) | (simp; omega)) | (with_reducible refine Below.drew ?_; with_reducible refine Below.alloc ?_ ?_ _; with_reducible refine Below.alloc ?_ ?_ _; with_reducible refine Below.alloc ?_ ?_ _; with_reducible refine Below.alloc ?_ ?_ _; (with_reducible exact Below.refl _ _); all_goals first | exact Nat.le_refl _ | (simp; done) | (simp; omega))))) HNL.out.2.2.1 HNL.out.2.2.2 ?_; intro a1 k1 w1 ho hg; have hb := below_of_grown hg; have hoi := ho.imp (fun b hb h => And.intro h hb); (first | (simp only [World.size_alloc, size_drew] at hoi) | skip); have HW := Lib.hid hoi; clear hoi; have sb := hb.size; (first | (simp at sb) | skip); (first | (have hz9 := (HZ.out.below (by first | omega | (simp; omega)) (below_next (by (first | with_reducible exact Below.refl _ _ | (with_reducible refine Below.alloc ?_ ?_ _; (with_reducible exact Below.refl _ _); all_goals first | exact Nat.le_refl _ | (simp; done) | (simp; omega)) | (with_reducible refine Below.alloc ?_ ?_ _; with_reducible refine Below.alloc ?_ ?_ _; (with_reducible exact Below.refl _ _); all_goals first | exact Nat.le_refl _ | (simp; done) | (simp; omega)) | (with_reducible refine Below.alloc ?_ ?_ _; with_reducible refine Below.alloc ?_ ?_ _; with_reducible refine Below.alloc ?_ ?_ _; (with_reducible exact Below.refl _ _); all_goals first | exact Nat.le_refl _ | (simp; done) | (simp; omega)))) hb)); (first | (simp only [World.size_alloc] at hz9) | skip); have HZ := Lib.hid hz9; clear hz9) | (have hz9 := (Box3.below (Box3.new _ _) (by first | (simp; done) | (simp; omega)) hb); (first | (simp only [World.size_alloc] at hz9) | skip); have HZ := Lib.hid hz9; clear hz9) | (have hz9 := (Box3.below (Box3.alloc (Box3.new _ _) (by first | (simp; done) | (simp; omega)) _) (by first | (simp; done) | (simp; omega)) hb); (first | (simp only [World.size_alloc] at hz9) | skip); have HZ := Lib.hid hz9; clear hz9) | (have hz9 := (Box3.below (Box3.alloc (Box3.alloc (Box3.new _ _) (by first | (simp; done) | (simp; omega)) _) (by first | (simp; done) | (simp; omega)) _) (by first | (simp; done) | (simp; omega)) hb); (first | (simp only [World.size_alloc] at hz9) | skip); have HZ := Lib.hid hz9; clear hz9) | (have hz9 := (Box3.below (Box3.drewn (Box3.new _ _)) (by first | (simp; done) | (simp; omega)) hb); (first | (simp only [World.size_alloc] at hz9) | skip); have HZ := Lib.hid hz9; clear hz9) | (have hz9 := (Box3.below (Box3.drewn (Box3.alloc (Box3.new _ _) (by first | (simp; done) | (simp; omega)) _)) (by first | (simp; done) | (simp; omega)) hb); (first | (simp only [World.size_alloc] at hz9) | skip); have HZ := Lib.hid hz9; clear hz9) | (have hz9 := (Box3.below (Box3.drewn (Box3.alloc (Box3.alloc (Box3.new _ _) (by first | (simp; done) | (simp; omega)) _) (by first | (simp; done) | (simp; omega)) _)) (by first | (simp; done) | (simp; omega)) hb); (first | (simp only [World.size_alloc] at hz9) | skip); have HZ := Lib.hid hz9; clear hz9) | skip); have HB := Lib.hid (show Below u.heap.size u w1 from below_next (by (first | with_reducible exact HB.out | (with_reducible refine Below.alloc ?_ ?_ _; (with_reducible exact HB.out); all_goals first | exact HB.out.size | (have := HB.out.size; simp; omega)) | (with_reducible refine Below.alloc ?_ ?_ _; with_reducible refine Below.alloc ?_ ?_ _; (with_reducible exact HB.out); all_goals first | exact HB.out.size | (have := HB.out.size; simp; omega)) | (with_reducible refine Below.alloc ?_ ?_ _; with_reducible refine Below.alloc ?_ ?_ _; with_reducible refine Below.alloc ?_ ?_ _; (with_reducible exact HB.out); all_goals first | exact HB.out.size | (have := HB.out.size; simp; omega)) | (with_reducible refine Below.alloc ?_ ?_ _; with_reducible refine Below.alloc ?_ ?_ _; with_reducible refine Below.alloc ?_ ?_ _; with_reducible refine Below.alloc ?_ ?_ _; (with_reducible exact HB.out); all_goals first | exact HB.out.size | (have := HB.out.size; simp; omega)) | (with_reducible refine Below.drew ?_; with_reducible refine Below.alloc ?_ ?_ _; (with_reducible exact Below.refl _ _); all_goals first | exact Nat.le_refl _ | (simp; done) | (simp; omega)) | (with_reducible refine Below.drew ?_; with_reducible refine Below.alloc ?_ ?_ _; with_reducible refine Below.alloc ?_ ?_ _; (with_reducible exact Below.refl _ _); all_goals first | exact Nat.le_refl _ | (simp; done) | (simp; omega)) | (with_reducible refine Below.drew ?_; with_reducible refine Below.alloc ?_ ?_ _; with_reducible refine Below.alloc ?_ ?_ _; with_reducible refine Below.alloc ?_ ?_ _; (with_reducible exact Below.refl _ _); all_goals first | exact Nat.le_refl _ | (simp; done) | (simp; omega)) | (with_reducible refine Below.drew ?_; with_reducible refine Below.alloc ?_ ?_ _; with_reducible refine Below.alloc ?_ ?_ _; with_reducible refine Below.alloc ?_ ?_ _; with_reducible refine Below.alloc ?_ ?_ _; (with_reducible exact Below.refl _ _); all_goals first | exact Nat.le_refl _ | (simp; done) | (simp; omega)))) hb); have sB := HB.out.size; have c0 := ((bcell HB.out).1 _ _ z0).trans Q0.out.1; have c1 := ((bcell HB.out).1 _ _ z0).trans Q0.out.2.1; have c2 := ((bcell HB.out).1 _ _ z0).trans Q0.out.2.2; (first | (obtain ⟨d0, d1, d2, df⟩ := HZ.out; have df0 := df 0; have df1 := df 1; have df2 := df 2; clear df) | skip); clear ho hg hb))
    all_goals (go_wp2_with fail)
    all_goals go_meet
    all_goals (first
      | exact copiedD_last HB.out HW.out (by omega)
      | exact copiedD_store HB.out HZ.out HW.out (by omega))
  case rest =>
    clear c0 c1 c2 HCP HNL
    obtain ⟨p, d, c', PD, rfl, ⟨pl, ph⟩, hb, hx, hw, hPD⟩ := hcut
    have HBW := Lib.hid hb
    have HX := Lib.hid hx
    have HW := Lib.hid hw
    have HPD := Lib.hid hPD
    have HB := Lib.hid (HU.out.1.trans (hb.mono HU.out.1.size))
    have HZ := Lib.hid (HR.out.below z2 hb)
    have sw := hb.size
    have c1 := ((bcell hb).1 _ _ z0).trans Q0.out.2.1
    obtain ⟨x0, x1, x2, _⟩ := hx
    clear hw hPD hb
    go_wp2
    go_loopw [4] (fun i wr => ∃ k : Nat, k ≤ n ∧ i = .int .i64 ((n : Int) - 1 - k) ∧ TurnAt u wc cp n m f g p d c' PD k wr) (fun i _ => (intOf i + 1).toNat)
    case atStart => exact ⟨0, Nat.zero_le _, by simp, none, 0, HX.out, World.ownsRow_nil _ _ _ _, HW.out, HBW.out, Nat.le_refl _⟩
    case round =>
      clear x0 x1 x2 c1
      obtain ⟨k, hk, hi, a, cap, hx, ho, hw, hb, hs⟩ := hrel
      have HX1 := Lib.hid hx
      have HO := Lib.hid ho
      have HW1 := Lib.hid hw
      have HB1 := Lib.hid hb
      have c1 := ((bcell hb).1 _ _ z0).trans Q0.out.2.1
      have HR1 := Lib.hid (HU.out.2 hb)
      obtain ⟨x0, x1, x2, xf⟩ := hx
      have xf0 := xf 0
      have xf1 := xf 1
      have xf2 := xf 2
      have zw := hb.size
      clear xf ho hw hb
      by_cases hlt : k < n
      · obtain ⟨j, hj⟩ : ∃ j, j = n - 1 - k := ⟨_, rfl⟩
        have ei : (n : Int) - 1 - (k : Int) = (j : Int) := by omega
        rw [ei] at hi
        subst hi
        obtain ⟨b, off, rfl, zb, hc⟩ := HR1.out.get (k := j) (by omega)
        have zp : p < wr.heap.size := by omega
        have zw0 : w.heap.size < wr.heap.size := by omega
        have y0 := hc j (by omega)
        have i0 : (0 : Int) ≤ (j : Int) := by omega
        have i1 : (j : Int) < (n : Int) := by omega
        have HE := Lib.hid (show f j = (fun j => f (n - 1 - j)) k by dsimp only; rw [← hj])
        have hjn : j + 1 + k = n := by omega
        clear hc hj
        go_wp2
        go_region_law (first
          | (go_loud (refine step_append_lies _ (by rfl) _ _ _ (by rfl) wc.heap.size 3 ti (.int .i64 0) 1 8 Try.underlying22 HI.out.1 HI.out.2.1 HI.out.2.2.1 HI.out.2.2.2 rfl (by omega) (.slice a k cap) k (rowL .i64 (fun j => f (n - 1 - j)) k) (by rfl) ((HO.out.alloc _).drew) ⟨wr.heap.size, 0, none⟩ 1 1 [.int .i64 (f j)] (by rfl) (by rfl) (World.news_of_block (cs := #[.int .i64 (f j)]) (t := 3) (fr := (0, 0)) (heap_alloc_new wr _)) (by simp [Value.oneCell']) (by omega) (by unfold maxLen; omega) (by omega) (by simp; omega) (wr.heap.size + 1) (by simp) ?_; intro gg k1 w3 ho3 hg hat hlt'; have hg4 : wr.grownBy w3 (Value.slice a k cap).ownBlock := (World.grownBy_alloc wr _ _).trans (grown_drew hg); have HO3 := Lib.hid (own_turn (F := fun j => f (n - 1 - j)) HE.out ho3); have HX3 := Lib.hid (HX1.out.grown hg4 (by omega) (fun e => absurd (HO.out.lt _ e.symm).1 (by omega))); have HW3 := Lib.hid (HW1.out.grown hg4 (fun b hb e => absurd (HO.out.lt _ e.symm).1 (by have := HPD.out b hb; omega))); have HB3 := Lib.hid (HB1.out.grown hg4 (by omega) (fun q hq => by have := (HO.out.lt q hq).1; omega)); have s3 := hg4.size; clear ho3 hg hg4 hat hlt' x0 x1 x2 xf0 xf1 xf2; (obtain ⟨x0, x1, x2, xf⟩ := HX3.out); have xf1 := xf 1; clear xf)))
        all_goals go_wp2
        all_goals go_roundw
        all_goals first
          | (simp only [intOf]; omega)
          | exact ⟨k + 1, by omega, by first | go_num | (congr 1; omega) | (congr 1; push_cast; omega), some ⟨gg, 0, none⟩, k1, HX3.out.set1 _, own_set HO3.out (fun e => absurd (HO3.out.lt _ e).1 (by omega)), HW3.out.set (fun h => by have := HPD.out p h; omega), HB3.out.setCell (by simp; omega) _, by simp; omega⟩
      · have hkn : k = n := by omega
        subst hkn
        have ei : (k : Int) - 1 - (k : Int) = -1 := by omega
        rw [ei] at hi
        subst hi
        have HZ1 := Lib.hid (HR.out.below z2 HB1.out)
        obtain ⟨e0, e1, e2, ef⟩ := HZ1.out
        have ef0 := ef 0
        have ef1 := ef 1
        have ef2 := ef 2
        clear ef
        go_wp2
        refine bodyPost_ret (v := .agg #[.int .i64 cp, .slice a k cap, .slice d m c']) (by simp only [results, Try.results15]; go_simp) rfl ⟨_, rfl, ?_, ?_⟩
        · obtain ⟨a9, c9, hv9, hr9⟩ := RowI.of hn (own_store3 HO.out (p := w.heap.size + 1) (a := .int .i64 cp) (b := .slice a k cap) (c := .slice d m c') (fun e => absurd (HO.out.lt _ e).1 (by omega)))
          simp only [Value.slice.injEq] at hv9
          obtain ⟨rfl, _, rfl⟩ := hv9
          obtain ⟨a8, c8, hv8, hr8⟩ := OwnE.rowS hm (((HW1.out.set (p := w.heap.size + 1) (i := 0) (x := .int .i64 cp) (fun h => by have := HPD.out _ h; omega)).set (p := w.heap.size + 1) (i := 1) (x := .slice a k cap) (fun h => by have := HPD.out _ h; omega)).set (p := w.heap.size + 1) (i := 2) (x := .slice d m c') (fun h => by have := HPD.out _ h; omega))
          simp only [Value.slice.injEq] at hv8
          obtain ⟨rfl, _, rfl⟩ := hv8
          exact ⟨a, cap, d, c', rfl, hr9, hr8⟩
        · exact store3_below (HU.out.1.trans (HB1.out.mono HU.out.1.size)) (by omega)

theorem size_of_alloc' {w w' : World} {o : Go.Obj} (hb : Below (w.alloc o).heap.size (w.alloc o) w') : w.heap.size < w'.heap.size := by
  have h := hb.size
  simp at h
  omega
theorem turn_turn (C : CV) {w : World} {v : Value} (h : CellsAt w v C.turn.turn) : CellsAt w v C :=
  h.same rfl rfl rfl (fun i hi => by show C.f (C.n - 1 - (C.n - 1 - i)) = C.f i; have hi' : i < C.n := hi; congr 1; omega) (fun _ _ _ _ => rfl)
set_option maxRecDepth 100000 in
set_option maxHeartbeats 6400000 in
theorem turned_walk (v : Value) (C : CV) (w : World) (h : CellsAt w v C) (_ : C.n * 8 ≤ 140737488351232) : Calls Try.prog 5 #[v] w fun e w' => e = .returned (.bool true) ∧ Below w.heap.size w w' := by
  have HP := Lib.hid (fun W hb => h.below hb : ∀ W, Below w.heap.size w W → CellsAt W v C)
  obtain ⟨la, lc, da, dc, rfl, hl, hd⟩ := h
  obtain ⟨cp, n, f, m, g⟩ := C
  dsimp only at *
  have hn := hl.1
  have HX0 := Lib.hid (Box3.new (a := .int .i64 cp) (b := .slice la n lc) (c := .slice da m dc) w 25)
  have HA := Lib.hid ((Below.refl w.heap.size w).alloc (Nat.le_refl _) (.cells #[.int .i64 cp, .slice la n lc, .slice da m dc] 25))
  have HL := Lib.hid hl
  have HTOP := Lib.hid (show ∀ W, Below w.heap.size w W → Calls Try.prog 12 #[.agg #[.int .i64 cp, .slice la n lc, .slice da m dc]] W fun e w' => e = .returned (.tuple #[.int .i64 (if n = 0 then 0 else f (n - 1)), .bool (!decide (n = 0))]) ∧ Below W.heap.size W w' from fun W hb => top_any _ _ W (HP.out W hb))
  have HTU := Lib.hid (show ∀ W, Below w.heap.size w W → Calls Try.prog 14 #[.agg #[.int .i64 cp, .slice la n lc, .slice da m dc]] W (RetLitN cp n m (CV.turn ⟨cp, n, f, m, g⟩).f g W) from fun W hb => (turned_new _ _ W (HP.out W hb)).mono fun _ _ h => h.lit rfl rfl rfl)
  clear hl hd
  obtain ⟨x, hx⟩ : ∃ x, x = (if n = 0 then 0 else f (n - 1)) := ⟨_, rfl⟩
  have hb0 : (!decide (n = 0)) = decide ((0 : Int) < (n : Int)) := by cases n <;> simp <;> omega
  rw [← hx, hb0] at HTOP
  have HXX := Lib.hid hx
  clear hb0 hx
  go_enter Try.func5, Try.ntmps5
  go_upto_if 19 with (first
    | (go_at_call 14; (with_reducible refine (HTU.out _ HA.out).mono ?_); rintro e w1 ⟨l, c, d, c', rfl, ⟨hl, hd, _⟩, hb⟩; have HL1 := Lib.hid hl.row; have HD1 := Lib.hid hd; have HX1 := Lib.hid (HX0.out.below (by simp) hb); have HB1 := Lib.hid (HA.out.trans (hb.mono HA.out.size)); have zw : w.heap.size < w1.heap.size := size_of_alloc' hb
       have hA1 := (Below.refl w1.heap.size w1).alloc (Nat.le_refl _) (.cells #[.int .i64 cp, .slice l n c, .slice d m c'] 25); have HA1 := Lib.hid hA1; clear hb hl hd hA1; (obtain ⟨c0, c1, c2, _⟩ := HX1.out))
    | (go_at_call 12; (with_reducible refine (HTOP.out _ (HB1.out.trans (HA1.out.mono HB1.out.size))).mono ?_); rintro e w2 ⟨rfl, hb⟩; have HN2 := Lib.hid (below_next HA1.out hb); have HX2 := Lib.hid (HX1.out.below zw HN2.out); have HY2 := Lib.hid ((Box3.new (a := .int .i64 cp) (b := .slice l n c) (c := .slice d m c') w1 25).below (by simp) hb); have z2 : w1.heap.size < w2.heap.size := size_of_alloc' hb
       clear hb c0 c1 c2; (obtain ⟨c0, c1, c2, _⟩ := HX2.out)))
  have HTT := Lib.hid (show ∀ W, Below w2.heap.size w2 W → CellsAt W (.agg #[.int .i64 cp, .slice l n c, .slice d m c']) (CV.turn ⟨cp, n, f, m, g⟩) from fun W hb => ⟨l, c, d, c', rfl, HL1.out.below (HN2.out.trans (hb.mono HN2.out.size)), HD1.out.below (HN2.out.trans (hb.mono HN2.out.size))⟩)
  have HU := Lib.hid (HB1.out.trans (HN2.out.mono HB1.out.size))
  have HLW := Lib.hid (HL.out.below HU.out)
  clear HTOP HTU HL HL1 HD1 HB1 HA1 HX1 HN2 HX0 HA
  go_cut [6] from 8 (fun s6 wx => s6 = .int .i64 x ∧ wx = w2)
  case first =>
    cases n with
    | zero =>
      have hx := HXX.out
      rw [if_pos rfl] at hx
      subst hx
      go_wp2
      all_goals go_meet
      all_goals exact ⟨rfl, rfl⟩
    | succ n' =>
      have hx := HXX.out
      rw [if_neg (by omega)] at hx
      have hx' : x = f n' := hx
      subst hx'
      obtain ⟨b, off, rfl, _, hc⟩ := HLW.out.get (k := n') (by omega)
      have y0 := hc n' (by omega)
      clear hc hx HXX
      go_wp2
      all_goals go_meet
      all_goals exact ⟨rfl, rfl⟩
  case rest =>
    obtain ⟨rfl, rfl⟩ := hcut
    obtain ⟨c3, c4, c5, _⟩ := HY2.out
    have z0 : w.heap.size < wc.heap.size := by omega
    clear HY2 HLW c0 c1 c2
    obtain ⟨c0, c1, c2, _⟩ := HX2.out
    have zq : w1.heap.size < wc.heap.size := z2
    have HU0 := Lib.hid HU.out
    have HN0 := Lib.hid (Below.refl wc.heap.size wc)
    have ex : (x == x) = true := by simp
    clear HX2 z2 zw HU
    generalize w1.heap.size = q at *
    go_upto_region 7 with (fail)
    go_region_held3 (fun W => W.cell? ⟨w.heap.size, 0, none⟩ = some (.int .i64 cp) ∧ W.cell? ⟨w.heap.size, 1, none⟩ = some (.slice la n lc) ∧ W.cell? ⟨w.heap.size, 2, none⟩ = some (.slice da m dc) ∧ W.cell? ⟨q, 0, none⟩ = some (.int .i64 cp) ∧ W.cell? ⟨q, 1, none⟩ = some (.slice l n c) ∧ W.cell? ⟨q, 2, none⟩ = some (.slice d m c'))
      (first | with_reducible exact ⟨c0, c1, c2, c3, c4, c5⟩ | (go_simp; done) | go_keep)
      (first
        | (go_at_call 15; (with_reducible refine (rturned_any _ _ _ (HP.out _ ?_)).mono ?_); (first | (with_reducible refine Below.drew ?_; with_reducible exact HU0.out) | with_reducible exact HU0.out); rintro e w3 ⟨v3, rfl, h3, hb⟩; have HB3 := Lib.hid (show Below wc.heap.size wc w3 from below_next (by first | (with_reducible refine Below.drew ?_; with_reducible exact Below.refl _ _) | with_reducible exact Below.refl _ _) hb); have c0 := ((bcell HB3.out).1 _ _ z0).trans c0; have c1 := ((bcell HB3.out).1 _ _ z0).trans c1; have c2 := ((bcell HB3.out).1 _ _ z0).trans c2; have c3 := ((bcell HB3.out).1 _ _ zq).trans c3; have c4 := ((bcell HB3.out).1 _ _ zq).trans c4; have c5 := ((bcell HB3.out).1 _ _ zq).trans c5; have z0 := Nat.lt_of_lt_of_le z0 HB3.out.size; have zq := Nat.lt_of_lt_of_le zq HB3.out.size; have HU3 := Lib.hid (HU0.out.trans (HB3.out.mono HU0.out.size)); have HN3 := Lib.hid (HN0.out.trans (HB3.out.mono HN0.out.size)); have HV3 := Lib.hid h3; clear hb h3)
        | (go_at_call 6; (with_reducible refine (cells_yes _ _ _ _ (HTT.out _ HN3.out) HV3.out).mono ?_); rintro e w4 ⟨rfl, hb⟩; have HB4 := Lib.hid (show Below w3.heap.size w3 w4 from hb); have c0 := ((bcell HB4.out).1 _ _ z0).trans c0; have c1 := ((bcell HB4.out).1 _ _ z0).trans c1; have c2 := ((bcell HB4.out).1 _ _ z0).trans c2; have c3 := ((bcell HB4.out).1 _ _ zq).trans c3; have c4 := ((bcell HB4.out).1 _ _ zq).trans c4; have c5 := ((bcell HB4.out).1 _ _ zq).trans c5; have z0 := Nat.lt_of_lt_of_le z0 HB4.out.size; have zq := Nat.lt_of_lt_of_le zq HB4.out.size; have HU4 := Lib.hid (HU3.out.trans (HB4.out.mono HU3.out.size)); have HN4 := Lib.hid (HN3.out.trans (HB4.out.mono HN3.out.size)); clear hb HV3)
        | (go_at_call 14; (with_reducible refine (turned_any _ _ _ (HTT.out _ HN4.out)).mono ?_); rintro e w5 ⟨v5, rfl, h5, hb⟩; have HB5 := Lib.hid (show Below w4.heap.size w4 w5 from hb); have c0 := ((bcell HB5.out).1 _ _ z0).trans c0; have c1 := ((bcell HB5.out).1 _ _ z0).trans c1; have c2 := ((bcell HB5.out).1 _ _ z0).trans c2; have c3 := ((bcell HB5.out).1 _ _ zq).trans c3; have c4 := ((bcell HB5.out).1 _ _ zq).trans c4; have c5 := ((bcell HB5.out).1 _ _ zq).trans c5; have z0 := Nat.lt_of_lt_of_le z0 HB5.out.size; have zq := Nat.lt_of_lt_of_le zq HB5.out.size; have HU5 := Lib.hid (HU4.out.trans (HB5.out.mono HU4.out.size)); have HN5 := Lib.hid (HN4.out.trans (HB5.out.mono HN4.out.size)); have HV5 := Lib.hid (turn_turn _ h5); clear hb h5)
        | (go_at_call 6; (with_reducible refine (cells_yes _ _ _ _ HV5.out (HP.out _ HU5.out)).mono ?_); rintro e w6 ⟨rfl, hb⟩; have HB6 := Lib.hid (show Below w5.heap.size w5 w6 from hb); have c0 := ((bcell HB6.out).1 _ _ z0).trans c0; have c1 := ((bcell HB6.out).1 _ _ z0).trans c1; have c2 := ((bcell HB6.out).1 _ _ z0).trans c2; have c3 := ((bcell HB6.out).1 _ _ zq).trans c3; have c4 := ((bcell HB6.out).1 _ _ zq).trans c4; have c5 := ((bcell HB6.out).1 _ _ zq).trans c5; have z0 := Nat.lt_of_lt_of_le z0 HB6.out.size; have zq := Nat.lt_of_lt_of_le zq HB6.out.size; have HU6 := Lib.hid (HU5.out.trans (HB6.out.mono HU5.out.size)); have HN6 := Lib.hid (HN5.out.trans (HB6.out.mono HN5.out.size)); clear hb HV5)
        | (go_at_call 11; (with_reducible refine (awake_any _).mono ?_); rintro e w7 ⟨rfl, hb⟩; have HB7 := Lib.hid (show Below w6.heap.size w6 w7 from hb); have c0 := ((bcell HB7.out).1 _ _ z0).trans c0; have c1 := ((bcell HB7.out).1 _ _ z0).trans c1; have c2 := ((bcell HB7.out).1 _ _ z0).trans c2; have c3 := ((bcell HB7.out).1 _ _ zq).trans c3; have c4 := ((bcell HB7.out).1 _ _ zq).trans c4; have c5 := ((bcell HB7.out).1 _ _ zq).trans c5; have z0 := Nat.lt_of_lt_of_le z0 HB7.out.size; have zq := Nat.lt_of_lt_of_le zq HB7.out.size; have HU7 := Lib.hid (HU6.out.trans (HB7.out.mono HU6.out.size)); have HN7 := Lib.hid (HN6.out.trans (HB7.out.mono HN6.out.size)); clear hb))
    all_goals go_wp2_with fail
    all_goals go_ret
    all_goals exact ⟨rfl, HU7.out⟩

end Go.Proofs.Ytlgnkkjbbaaokaa
