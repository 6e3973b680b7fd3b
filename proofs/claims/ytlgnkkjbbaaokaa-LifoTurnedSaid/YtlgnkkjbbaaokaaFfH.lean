/- A drawn region that copies cells; the contract of the reference's Apply, over the seat's program. -/
import Derived.Test.YtlgnkkjbbaaokaaFfF
import Derived.Test.YtlgnkkjbbaaokaaFfG
import Derived.Deep.CutBlock
namespace Go.Proofs.Ytlgnkkjbbaaokaa
open Go.ChangeShapes Go.WideShapes Go.ChangeAt Go.RowKit Go.Joins

theorem below_of_grown {w w' : World} (h : w.grownBy w' none) : Below w.heap.size w w' := ⟨h.os, h.tape, h.output, h.size, fun k hk => h.block k hk (by simp)⟩
theorem Box3.drewn {w : World} {p : Nat} {a b c : Value} (h : Box3 w p a b c) : Box3 w.drew p a b c := h
theorem RowI.news {w : World} {a : Option Addr} {n cap : Nat} {f : Nat → Int} (h : RowI w a n cap f) {ad : Addr} (had : a = some ad) {j : Nat} {u : Value} (hu : (rowL .i64 f n)[j]? = some u) : w.cell? (ad.add j) = some u := by
  have hj : j < n := by have := (List.getElem?_eq_some_iff.1 hu).1; simpa [rowL_len] using this
  obtain ⟨b, off, hab, hb, hc⟩ := h.get hj
  rw [had] at hab
  injection hab with hab
  subst hab
  rw [rowL_get hj] at hu
  rw [Addr.add_lit, hc j hj, hu]
theorem RowS.news {s : Nat} {w : World} {a : Option Addr} {n cap : Nat} {f : Nat → Nat → Int} (h : RowS s w a n cap f) {ad : Addr} (had : a = some ad) {j : Nat} {u : Value} (hu : (flatL s f n)[j]? = some u) : w.cell? (ad.add j) = some u := by
  have hj : j < n * s := by have := (List.getElem?_eq_some_iff.1 hu).1; simpa [flatL_len] using this
  have hn0 : 0 < n := by
    rcases Nat.eq_zero_or_pos n with e | e
    · subst e; omega
    · exact e
  have hs0 : 0 < s := by
    rcases Nat.eq_zero_or_pos s with e | e
    · subst e; omega
    · exact e
  obtain ⟨b, off, hab, hb, hc⟩ := h.get hn0
  rw [had] at hab
  injection hab with hab
  subst hab
  rw [flatL_at hj] at hu
  have h1 := hc (j / s) (j % s) (Nat.div_lt_of_lt_mul (by rw [Nat.mul_comm]; exact hj)) (Nat.mod_lt _ hs0)
  rw [Nat.add_assoc, show j / s * s + j % s = j by rw [Nat.mul_comm]; exact Nat.div_add_mod _ _] at h1
  rw [Addr.add_lit, h1, hu]
/-- A box that holds a copy of cells, in blocks of the call's own. -/
def CopiedE (u : World) (C : CV) (s : Value) (w : World) : Prop :=
  ∃ p l c d c', ∃ PL PD : Nat → Prop, s = .pointer (some ⟨p, 0, none⟩) ∧ (u.heap.size ≤ p ∧ p < w.heap.size) ∧ Below u.heap.size u w ∧ Box3 w p (.int .i64 C.cap) (.slice l C.n c) (.slice d C.m c') ∧ OwnE PL w 3 1 (.slice l C.n c) C.n (rowL .i64 C.f C.n) ∧ OwnE PD w 39 4 (.slice d C.m c') C.m (flatL 4 C.g C.m) ∧ (∀ b, PL b → u.heap.size ≤ b ∧ b ≠ p ∧ b < w.heap.size ∧ ¬ PD b) ∧ (∀ b, PD b → u.heap.size ≤ b ∧ b ≠ p ∧ b < w.heap.size)
theorem RowP.less {P : Nat → Prop} {w : World} {a : Option Addr} {n cap : Nat} {f : Nat → Int} (h : RowP P w a (n + 1) cap f) : RowP P w a n cap f := by
  obtain ⟨h1, h2, h3, h4⟩ := h
  refine ⟨by omega, fun e => absurd (h2 e).1 (by omega), by omega, fun _ => ?_⟩
  obtain ⟨b, off, ha, hb, hc⟩ := h4 (by omega)
  exact ⟨b, off, ha, hb, fun i hi => hc i (by omega)⟩
theorem RowP.shift {P : Nat → Prop} {w : World} {b off n cap : Nat} {f : Nat → Int} (h : RowP P w (some ⟨b, off, none⟩) (n + 1) cap f) : RowP P w (some ⟨b, off + 1, none⟩) n (cap - 1) (fun i => f (i + 1)) := by
  obtain ⟨h1, _, h3, h4⟩ := h
  obtain ⟨b', off', ha, hb, hc⟩ := h4 (by omega)
  injection ha with ha
  injection ha with ha ho _
  subst ha ho
  refine ⟨by omega, (fun h => by cases h), by omega, fun h0 => ⟨b, off + 1, rfl, hb, fun i hi => ?_⟩⟩
  have := hc (i + 1) (by omega)
  rwa [show off + (i + 1) = off + 1 + i by omega] at this
theorem RowP.empty {P : Nat → Prop} {w : World} {b off cap : Nat} {f : Nat → Int} : RowP P w (some ⟨b, off, none⟩) 0 cap f :=
  ⟨by omega, (fun h => by cases h), by omega, fun h0 => absurd h0 (by omega)⟩
theorem size_drew {w : World} : w.drew.heap.size = w.heap.size := rfl
theorem copied_last {u w : World} {cp : Int} {n m X1 Y1 X2 Y2 c c' : Nat} {l d : Option Addr} {f : Nat → Int} {g : Nat → Nat → Int} {t : TypeId} (hb : Below u.heap.size u w) (hv : OwnE (fun b => X1 ≤ b ∧ b < Y1) w 3 1 (.slice l n c) n (rowL .i64 f n)) (hw : OwnE (fun b => X2 ≤ b ∧ b < Y2) w 39 4 (.slice d m c') m (flatL 4 g m))
    (ho : u.heap.size ≤ X1 ∧ u.heap.size ≤ X2 ∧ Y1 ≤ w.heap.size ∧ Y2 ≤ w.heap.size ∧ (Y1 ≤ X2 ∨ Y2 ≤ X1)) : CopiedE u ⟨cp, n, f, m, g⟩ (.pointer (some ⟨w.heap.size, 0, none⟩)) (w.alloc (.cells #[.int .i64 cp, .slice l n c, .slice d m c'] t)) := by
  have hs := hb.size
  have hz : (w.alloc (.cells #[.int .i64 cp, .slice l n c, .slice d m c'] t)).heap.size = w.heap.size + 1 := World.size_alloc ..
  refine ⟨w.heap.size, l, c, d, c', _, _, rfl, ⟨hs, by omega⟩, hb.alloc hs _, Box3.new _ _, hv.below ((Below.refl _ _).alloc (Nat.le_refl _) _), hw.below ((Below.refl _ _).alloc (Nat.le_refl _) _), fun b h => ?_, fun b h => ?_⟩
  · obtain ⟨h1, h2⟩ := h
    exact ⟨by omega, by omega, by omega, fun h3 => by obtain ⟨h4, h5⟩ := h3; omega⟩
  · obtain ⟨h1, h2⟩ := h
    exact ⟨by omega, by omega, by omega⟩
theorem copied_store {u w : World} {cp : Int} {n m X1 Y1 X2 Y2 c c' p : Nat} {l d : Option Addr} {f : Nat → Int} {g : Nat → Nat → Int} {a0 a1 a2 : Value} (hb : Below u.heap.size u w) (hz : Box3 w p a0 a1 a2) (hv : OwnE (fun b => X1 ≤ b ∧ b < Y1) w 3 1 (.slice l n c) n (rowL .i64 f n)) (hw : OwnE (fun b => X2 ≤ b ∧ b < Y2) w 39 4 (.slice d m c') m (flatL 4 g m))
    (ho : u.heap.size ≤ X1 ∧ u.heap.size ≤ X2 ∧ u.heap.size ≤ p ∧ p < w.heap.size ∧ Y1 ≤ w.heap.size ∧ Y2 ≤ w.heap.size ∧ (Y1 ≤ X2 ∨ Y2 ≤ X1) ∧ (Y1 ≤ p ∨ p < X1) ∧ (Y2 ≤ p ∨ p < X2)) : CopiedE u ⟨cp, n, f, m, g⟩ (.pointer (some ⟨p, 0, none⟩)) (((w.setCell ⟨p, 0, none⟩ (.int .i64 cp)).setCell ⟨p, 1, none⟩ (.slice l n c)).setCell ⟨p, 2, none⟩ (.slice d m c')) := by
  have hs := hb.size
  have hsz : (store3 w p (.int .i64 cp) (.slice l n c) (.slice d m c')).heap.size = w.heap.size := store3_size
  have nl : ∀ {X Y : Nat}, (Y ≤ p ∨ p < X) → ¬ (X ≤ p ∧ p < Y) := fun h h' => by omega
  refine ⟨p, l, c, d, c', _, _, rfl, ⟨by omega, ?_⟩, store3_below hb (by omega), hz.store _ _ _, ((hv.set (nl (by omega))).set (nl (by omega))).set (nl (by omega)), ((hw.set (nl (by omega))).set (nl (by omega))).set (nl (by omega)), fun b h => ?_, fun b h => ?_⟩
  · show p < (store3 w p _ _ _).heap.size
    rw [hsz]
    omega
  · obtain ⟨h1, h2⟩ := h
    refine ⟨by omega, by omega, ?_, fun h3 => by obtain ⟨h4, h5⟩ := h3; omega⟩
    show b < (store3 w p _ _ _).heap.size
    rw [hsz]
    omega
  · obtain ⟨h1, h2⟩ := h
    refine ⟨by omega, by omega, ?_⟩
    show b < (store3 w p _ _ _).heap.size
    rw [hsz]
    omega

set_option maxRecDepth 100000 in
set_option maxHeartbeats 6400000 in
theorem rapply_any (v : Value) (C : CV) (t seq k ar x : Int) (df last : Bool) (ka : Option Addr) (kn kc : Nat) (w : World) (h : CellsAt w v C) (hn : (C.n + 1) * 8 ≤ 140737488355328) :
    Calls Try.prog 8 #[v, .int .i64 t, .int .i64 seq, reqV k ar x df ka kn kc, .bool last] w (RetAt (C.apply last t seq k x) w) := by
  obtain ⟨la, lc, da, dc, rfl, hl, hd⟩ := h
  obtain ⟨cp, n, f, m, g⟩ := C
  dsimp only at *
  have HNL := Lib.hid (show ((rowL .i64 f n).length = n * 1 ∧ (la = none → n = 0 ∧ lc = 0) ∧ n ≤ maxLen ∧ n * 8 ≤ 140737488355328) ∧ ((flatL 4 g m).length = m * 4 ∧ (da = none → m = 0 ∧ dc = 0) ∧ m ≤ maxLen ∧ m * 32 ≤ 140737488355328) from ⟨⟨by rw [rowL_len, Nat.mul_one], hl.2.1, by unfold maxLen; have := hl.1; omega, hl.1⟩, by rw [flatL_len], hd.2.1, by unfold maxLen; have := hd.1; omega, by have := hd.1; omega⟩)
  have HL := Lib.hid hl
  have HD := Lib.hid hd
  clear hl hd
  unfold reqV
  go_enter Try.func8, Try.ntmps8
  go_wp2
  refine abstract_code (fun u => (u.cell? ⟨w.heap.size, 0, none⟩ = some (.int .i64 cp) ∧ u.cell? ⟨w.heap.size, 1, none⟩ = some (.slice la n lc) ∧ u.cell? ⟨w.heap.size, 2, none⟩ = some (.slice da m dc) ∧ u.cell? ⟨w.heap.size + 1, 0, none⟩ = some (.int .i64 k) ∧ u.cell? ⟨w.heap.size + 1, 1, none⟩ = some (.int .i64 ar) ∧ u.cell? ⟨w.heap.size + 1, 2, none⟩ = some (.int .i64 x) ∧ u.cell? ⟨w.heap.size + 1, 3, none⟩ = some (.bool df) ∧ u.cell? ⟨w.heap.size + 1, 4, none⟩ = some (.slice ka kn kc)) ∧ Box3 u (w.heap.size + 2) (.int .i64 0) (.slice none 0 0) (.slice none 0 0) ∧ (RowI u la n lc f ∧ RowS 4 u da m dc g) ∧ Below w.heap.size w u ∧ w.heap.size + 2 < u.heap.size) ?_ ?_
  · have hB : Below w.heap.size w (((w.alloc (.cells #[.int .i64 cp, .slice la n lc, .slice da m dc] 25)).alloc (.cells #[.int .i64 k, .int .i64 ar, .int .i64 x, .bool df, .slice ka kn kc] 28)).alloc (.cells #[.int .i64 0, .slice none 0 0, .slice none 0 0] 25)) := (((Below.refl _ _).alloc (Nat.le_refl _) _).alloc (by simp) _).alloc (by simp; omega) _
    refine ⟨⟨by go_simp, by go_simp, by go_simp, by go_simp, by go_simp, by go_simp, by go_simp, by go_simp⟩, ?_, ⟨HL.out.below hB, HD.out.below hB⟩, hB, by simp⟩
    have := Box3.new (a := .int .i64 0) (b := .slice none 0 0) (c := .slice none 0 0) ((w.alloc (.cells #[.int .i64 cp, .slice la n lc, .slice da m dc] 25)).alloc (.cells #[.int .i64 k, .int .i64 ar, .int .i64 x, .bool df, .slice ka kn kc] 28)) 25
    simpa using this
  rintro u ⟨hc, hz, hr, hB, z2⟩
  clear HL HD
  have HU := Lib.hid (show Below w.heap.size w u ∧ (∀ {W}, Below u.heap.size u W → RowI W la n lc f) ∧ (∀ {W}, Below u.heap.size u W → RowS 4 W da m dc g) from ⟨hB, fun h => hr.1.below h, fun h => hr.2.below h⟩)
  have HCP := Lib.hid (show (∀ {W}, Below u.heap.size u W → ∀ ad, la = some ad → ∀ j v, (rowL .i64 f n)[j]? = some v → W.cell? (ad.add j) = some v) ∧ (∀ {W}, Below u.heap.size u W → ∀ ad, da = some ad → ∀ j v, (flatL 4 g m)[j]? = some v → W.cell? (ad.add j) = some v) from ⟨fun h _ had _ _ hu => (hr.1.below h).news had hu, fun h _ had _ _ hu => (hr.2.below h).news had hu⟩)
  have Q0 := Lib.hid hc
  have HR := Lib.hid hz
  have z0 : w.heap.size < u.heap.size := by omega
  obtain ⟨c0, c1, c2, q0, q1, q2, q3, q4⟩ := hc
  clear hr hB hz
  go_cut [11] from 14 (fun s9 wx => CopiedE u ⟨cp, n, f, m, g⟩ s9 wx)
  case first =>
    have HB := Lib.hid (show Below u.heap.size u u.drew from Below.drew (Below.refl _ _))
    go_region_held3 (fun W => W.cell? ⟨w.heap.size, 0, none⟩ = some (.int .i64 cp) ∧ W.cell? ⟨w.heap.size, 1, none⟩ = some (.slice la n lc) ∧ W.cell? ⟨w.heap.size, 2, none⟩ = some (.slice da m dc))
      (first | with_reducible exact ⟨c0, c1, c2⟩ | (go_simp; done) | exact ⟨((bcell (W := u) (by (first | with_reducible exact HB.out | (with_reducible refine Below.alloc ?_ ?_ _; (with_reducible exact HB.out); all_goals first | exact HB.out.size | (have := HB.out.size; simp; omega)) | (with_reducible refine Below.alloc ?_ ?_ _; with_reducible refine Below.alloc ?_ ?_ _; (with_reducible exact HB.out); all_goals first | exact HB.out.size | (have := HB.out.size; simp; omega)) | (with_reducible refine Below.alloc ?_ ?_ _; with_reducible refine Below.alloc ?_ ?_ _; with_reducible refine Below.alloc ?_ ?_ _; (with_reducible exact HB.out); all_goals first | exact HB.out.size | (have := HB.out.size; simp; omega)) | (with_reducible refine Below.alloc ?_ ?_ _; with_reducible refine Below.alloc ?_ ?_ _; with_reducible refine Below.alloc ?_ ?_ _; with_reducible refine Below.alloc ?_ ?_ _; (with_reducible exact HB.out); all_goals first | exact HB.out.size | (have := HB.out.size; simp; omega)) | (with_reducible refine Below.drew ?_; with_reducible refine Below.alloc ?_ ?_ _; (with_reducible exact Below.refl _ _); all_goals first | exact Nat.le_refl _ | (simp; done) | (simp; omega)) | (with_reducible refine Below.drew ?_; with_reducible refine Below.alloc ?_ ?_ _; with_reducible refine Below.alloc ?_ ?_ _; (with_reducible exact Below.refl _ _); all_goals first | exact Nat.le_refl _ | (simp; done) | (simp; omega)) | (with_reducible refine Below.drew ?_; with_reducible refine Below.alloc ?_ ?_ _; with_reducible refine Below.alloc ?_ ?_ _; with_reducible refine Below.alloc ?_ ?_ _; (with_reducible exact Below.refl _ _); all_goals first | exact Nat.le_refl _ | (simp; done) | (simp; omega)) | (with_reducible refine Below.drew ?_; with_reducible refine Below.alloc ?_ ?_ _; with_reducible refine Below.alloc ?_ ?_ _; with_reducible refine Below.alloc ?_ ?_ _; with_reducible refine Below.alloc ?_ ?_ _; (with_reducible exact Below.refl _ _); all_goals first | exact Nat.le_refl _ | (simp; done) | (simp; omega))))).1 _ _ z0).trans Q0.out.1, ((bcell (W := u) (by (first | with_reducible exact HB.out | (with_reducible refine Below.alloc ?_ ?_ _; (with_reducible exact HB.out); all_goals first | exact HB.out.size | (have := HB.out.size; simp; omega)) | (with_reducible refine Below.alloc ?_ ?_ _; with_reducible refine Below.alloc ?_ ?_ _; (with_reducible exact HB.out); all_goals first | exact HB.out.size | (have := HB.out.size; simp; omega)) | (with_reducible refine Below.alloc ?_ ?_ _; with_reducible refine Below.alloc ?_ ?_ _; with_reducible refine Below.alloc ?_ ?_ _; (with_reducible exact HB.out); all_goals first | exact HB.out.size | (have := HB.out.size; simp; omega)) | (with_reducible refine Below.alloc ?_ ?_ _; with_reducible refine Below.alloc ?_ ?_ _; with_reducible refine Below.alloc ?_ ?_ _; with_reducible refine Below.alloc ?_ ?_ _; (with_reducible exact HB.out); all_goals first | exact HB.out.size | (have := HB.out.size; simp; omega)) | (with_reducible refine Below.drew ?_; with_reducible refine Below.alloc ?_ ?_ _; (with_reducible exact Below.refl _ _); all_goals first | exact Nat.le_refl _ | (simp; done) | (simp; omega)) | (with_reducible refine Below.drew ?_; with_reducible refine Below.alloc ?_ ?_ _; with_reducible refine Below.alloc ?_ ?_ _; (with_reducible exact Below.refl _ _); all_goals first | exact Nat.le_refl _ | (simp; done) | (simp; omega)) | (with_reducible refine Below.drew ?_; with_reducible refine Below.alloc ?_ ?_ _; with_reducible refine Below.alloc ?_ ?_ _; with_reducible refine Below.alloc ?_ ?_ _; (with_reducible exact Below.refl _ _); all_goals first | exact Nat.le_refl _ | (simp; done) | (simp; omega)) | (with_reducible refine Below.drew ?_; with_reducible refine Below.alloc ?_ ?_ _; with_reducible refine Below.alloc ?_ ?_ _; with_reducible refine Below.alloc ?_ ?_ _; with_reducible refine Below.alloc ?_ ?_ _; (with_reducible exact Below.refl _ _); all_goals first | exact Nat.le_refl _ | (simp; done) | (simp; omega))))).1 _ _ z0).trans Q0.out.2.1, ((bcell (W := u) (by (first | with_reducible exact HB.out | (with_reducible refine Below.alloc ?_ ?_ _; (with_reducible exact HB.out); all_goals first | exact HB.out.size | (have := HB.out.size; simp; omega)) | (with_reducible refine Below.alloc ?_ ?_ _; with_reducible refine Below.alloc ?_ ?_ _; (with_reducible exact HB.out); all_goals first | exact HB.out.size | (have := HB.out.size; simp; omega)) | (with_reducible refine Below.alloc ?_ ?_ _; with_reducible refine Below.alloc ?_ ?_ _; with_reducible refine Below.alloc ?_ ?_ _; (with_reducible exact HB.out); all_goals first | exact HB.out.size | (have := HB.out.size; simp; omega)) | (with_reducible refine Below.alloc ?_ ?_ _; with_reducible refine Below.alloc ?_ ?_ _; with_reducible refine Below.alloc ?_ ?_ _; with_reducible refine Below.alloc ?_ ?_ _; (with_reducible exact HB.out); all_goals first | exact HB.out.size | (have := HB.out.size; simp; omega)) | (with_reducible refine Below.drew ?_; with_reducible refine Below.alloc ?_ ?_ _; (with_reducible exact Below.refl _ _); all_goals first | exact Nat.le_refl _ | (simp; done) | (simp; omega)) | (with_reducible refine Below.drew ?_; with_reducible refine Below.alloc ?_ ?_ _; with_reducible refine Below.alloc ?_ ?_ _; (with_reducible exact Below.refl _ _); all_goals first | exact Nat.le_refl _ | (simp; done) | (simp; omega)) | (with_reducible refine Below.drew ?_; with_reducible refine Below.alloc ?_ ?_ _; with_reducible refine Below.alloc ?_ ?_ _; with_reducible refine Below.alloc ?_ ?_ _; (with_reducible exact Below.refl _ _); all_goals first | exact Nat.le_refl _ | (simp; done) | (simp; omega)) | (with_reducible refine Below.drew ?_; with_reducible refine Below.alloc ?_ ?_ _; with_reducible refine Below.alloc ?_ ?_ _; with_reducible refine Below.alloc ?_ ?_ _; with_reducible refine Below.alloc ?_ ?_ _; (with_reducible exact Below.refl _ _); all_goals first | exact Nat.le_refl _ | (simp; done) | (simp; omega))))).1 _ _ z0).trans Q0.out.2.2.1⟩ | (refine ⟨?_, ?_, ?_⟩ <;> (rw [cell_set_ne (.inl (by first | omega | (simp; omega))), cell_set_ne (.inl (by first | omega | (simp; omega))), cell_set_ne (.inl (by first | omega | (simp; omega)))]; first | with_reducible assumption | (go_simp; done))) | go_keep)
      (first
        | (((refine step_copy (by rfl) _ _ 22 (by rfl) 3 (.int .i64 0) 1 8 Try.underlying22 Try.info_int rfl (by decide) _ (by rfl) la n lc (rowL .i64 f n) (by rfl) HNL.out.1.1 HNL.out.1.2.1 (HCP.out.1 (by (first | with_reducible exact HB.out | (with_reducible refine Below.alloc ?_ ?_ _; (with_reducible exact HB.out); all_goals first | exact HB.out.size | (have := HB.out.size; simp; omega)) | (with_reducible refine Below.alloc ?_ ?_ _; with_reducible refine Below.alloc ?_ ?_ _; (with_reducible exact HB.out); all_goals first | exact HB.out.size | (have := HB.out.size; simp; omega)) | (with_reducible refine Below.alloc ?_ ?_ _; with_reducible refine Below.alloc ?_ ?_ _; with_reducible refine Below.alloc ?_ ?_ _; (with_reducible exact HB.out); all_goals first | exact HB.out.size | (have := HB.out.size; simp; omega)) | (with_reducible refine Below.alloc ?_ ?_ _; with_reducible refine Below.alloc ?_ ?_ _; with_reducible refine Below.alloc ?_ ?_ _; with_reducible refine Below.alloc ?_ ?_ _; (with_reducible exact HB.out); all_goals first | exact HB.out.size | (have := HB.out.size; simp; omega)) | (with_reducible refine Below.drew ?_; with_reducible refine Below.alloc ?_ ?_ _; (with_reducible exact Below.refl _ _); all_goals first | exact Nat.le_refl _ | (simp; done) | (simp; omega)) | (with_reducible refine Below.drew ?_; with_reducible refine Below.alloc ?_ ?_ _; with_reducible refine Below.alloc ?_ ?_ _; (with_reducible exact Below.refl _ _); all_goals first | exact Nat.le_refl _ | (simp; done) | (simp; omega)) | (with_reducible refine Below.drew ?_; with_reducible refine Below.alloc ?_ ?_ _; with_reducible refine Below.alloc ?_ ?_ _; with_reducible refine Below.alloc ?_ ?_ _; (with_reducible exact Below.refl _ _); all_goals first | exact Nat.le_refl _ | (simp; done) | (simp; omega)) | (with_reducible refine Below.drew ?_; with_reducible refine Below.alloc ?_ ?_ _; with_reducible refine Below.alloc ?_ ?_ _; with_reducible refine Below.alloc ?_ ?_ _; with_reducible refine Below.alloc ?_ ?_ _; (with_reducible exact Below.refl _ _); all_goals first | exact Nat.le_refl _ | (simp; done) | (simp; omega))))) HNL.out.1.2.2.1 HNL.out.1.2.2.2 ?_; intro a1 k1 w1 ho hg; have hb := below_of_grown hg; have hoi := ho.imp (fun b hb h => And.intro h hb); (first | (simp only [World.size_alloc, size_drew] at hoi) | skip); have HV := Lib.hid hoi; clear hoi; have sb := hb.size; (first | (simp at sb) | skip); (first | (have HW := Lib.hid (HW.out.below (below_next (by (first | with_reducible exact Below.refl _ _ | (with_reducible refine Below.alloc ?_ ?_ _; (with_reducible exact Below.refl _ _); all_goals first | exact Nat.le_refl _ | (simp; done) | (simp; omega)) | (with_reducible refine Below.alloc ?_ ?_ _; with_reducible refine Below.alloc ?_ ?_ _; (with_reducible exact Below.refl _ _); all_goals first | exact Nat.le_refl _ | (simp; done) | (simp; omega)) | (with_reducible refine Below.alloc ?_ ?_ _; with_reducible refine Below.alloc ?_ ?_ _; with_reducible refine Below.alloc ?_ ?_ _; (with_reducible exact Below.refl _ _); all_goals first | exact Nat.le_refl _ | (simp; done) | (simp; omega)))) hb))) | skip); (first | (have hz9 := (HZ.out.below (by first | omega | (simp; omega)) (below_next (by (first | with_reducible exact Below.refl _ _ | (with_reducible refine Below.alloc ?_ ?_ _; (with_reducible exact Below.refl _ _); all_goals first | exact Nat.le_refl _ | (simp; done) | (simp; omega)) | (with_reducible refine Below.alloc ?_ ?_ _; with_reducible refine Below.alloc ?_ ?_ _; (with_reducible exact Below.refl _ _); all_goals first | exact Nat.le_refl _ | (simp; done) | (simp; omega)) | (with_reducible refine Below.alloc ?_ ?_ _; with_reducible refine Below.alloc ?_ ?_ _; with_reducible refine Below.alloc ?_ ?_ _; (with_reducible exact Below.refl _ _); all_goals first | exact Nat.le_refl _ | (simp; done) | (simp; omega)))) hb)); (first | (simp only [World.size_alloc] at hz9) | skip); have HZ := Lib.hid hz9; clear hz9) | (have hz9 := (Box3.below (Box3.new _ _) (by first | (simp; done) | (simp; omega)) hb); (first | (simp only [World.size_alloc] at hz9) | skip); have HZ := Lib.hid hz9; clear hz9) | (have hz9 := (Box3.below (Box3.alloc (Box3.new _ _) (by first | (simp; done) | (simp; omega)) _) (by first | (simp; done) | (simp; omega)) hb); (first | (simp only [World.size_alloc] at hz9) | skip); have HZ := Lib.hid hz9; clear hz9) | (have hz9 := (Box3.below (Box3.alloc (Box3.alloc (Box3.new _ _) (by first | (simp; done) | (simp; omega)) _) (by first | (simp; done) | (simp; omega)) _) (by first | (simp; done) | (simp; omega)) hb); (first | (simp only [World.size_alloc] at hz9) | skip); have HZ := Lib.hid hz9; clear hz9) | (have hz9 := (Box3.below (Box3.drewn (Box3.new _ _)) (by first | (simp; done) | (simp; omega)) hb); (first | (simp only [World.size_alloc] at hz9) | skip); have HZ := Lib.hid hz9; clear hz9) | (have hz9 := (Box3.below (Box3.drewn (Box3.alloc (Box3.new _ _) (by first | (simp; done) | (simp; omega)) _)) (by first | (simp; done) | (simp; omega)) hb); (first | (simp only [World.size_alloc] at hz9) | skip); have HZ := Lib.hid hz9; clear hz9) | (have hz9 := (Box3.below (Box3.drewn (Box3.alloc (Box3.alloc (Box3.new _ _) (by first | (simp; done) | (simp; omega)) _) (by first | (simp; done) | (simp; omega)) _)) (by first | (simp; done) | (simp; omega)) hb); (first | (simp only [World.size_alloc] at hz9) | skip); have HZ := Lib.hid hz9; clear hz9) | skip); have HB := Lib.hid (show Below u.heap.size u w1 from below_next (by (first | with_reducible exact HB.out | (with_reducible refine Below.alloc ?_ ?_ _; (with_reducible exact HB.out); all_goals first | exact HB.out.size | (have := HB.out.size; simp; omega)) | (with_reducible refine Below.alloc ?_ ?_ _; with_reducible refine Below.alloc ?_ ?_ _; (with_reducible exact HB.out); all_goals first | exact HB.out.size | (have := HB.out.size; simp; omega)) | (with_reducible refine Below.alloc ?_ ?_ _; with_reducible refine Below.alloc ?_ ?_ _; with_reducible refine Below.alloc ?_ ?_ _; (with_reducible exact HB.out); all_goals first | exact HB.out.size | (have := HB.out.size; simp; omega)) | (with_reducible refine Below.alloc ?_ ?_ _; with_reducible refine Below.alloc ?_ ?_ _; with_reducible refine Below.alloc ?_ ?_ _; with_reducible refine Below.alloc ?_ ?_ _; (with_reducible exact HB.out); all_goals first | exact HB.out.size | (have := HB.out.size; simp; omega)) | (with_reducible refine Below.drew ?_; with_reducible refine Below.alloc ?_ ?_ _; (with_reducible exact Below.refl _ _); all_goals first | exact Nat.le_refl _ | (simp; done) | (simp; omega)) | (with_reducible refine Below.drew ?_; with_reducible refine Below.alloc ?_ ?_ _; with_reducible refine Below.alloc ?_ ?_ _; (with_reducible exact Below.refl _ _); all_goals first | exact Nat.le_refl _ | (simp; done) | (simp; omega)) | (with_reducible refine Below.drew ?_; with_reducible refine Below.alloc ?_ ?_ _; with_reducible refine Below.alloc ?_ ?_ _; with_reducible refine Below.alloc ?_ ?_ _; (with_reducible exact Below.refl _ _); all_goals first | exact Nat.le_refl _ | (simp; done) | (simp; omega)) | (with_reducible refine Below.drew ?_; with_reducible refine Below.alloc ?_ ?_ _; with_reducible refine Below.alloc ?_ ?_ _; with_reducible refine Below.alloc ?_ ?_ _; with_reducible refine Below.alloc ?_ ?_ _; (with_reducible exact Below.refl _ _); all_goals first | exact Nat.le_refl _ | (simp; done) | (simp; omega)))) hb); have sB := HB.out.size; have c0 := ((bcell HB.out).1 _ _ z0).trans Q0.out.1; have c1 := ((bcell HB.out).1 _ _ z0).trans Q0.out.2.1; have c2 := ((bcell HB.out).1 _ _ z0).trans Q0.out.2.2.1; (first | (obtain ⟨d0, d1, d2, df⟩ := HZ.out; have df0 := df 0; have df1 := df 1; have df2 := df 2; clear df) | skip); clear ho hg hb)))
        | (((refine step_copy (by rfl) _ _ 23 (by rfl) 39 (.agg #[.int .i64 0, .int .i64 0, .int .i64 0, .int .i64 0]) 4 32 Try.underlying23 Try.info_res rfl (by decide) _ (by rfl) da m dc (flatL 4 g m) (by rfl) HNL.out.2.1 HNL.out.2.2.1 (HCP.out.2 (by (first | with_reducible exact HB.out | (with_reducible refine Below.alloc ?_ ?_ _; (with_reducible exact HB.out); all_goals first | exact HB.out.size | (have := HB.out.size; simp; omega)) | (with_reducible refine Below.alloc ?_ ?_ _; with_reducible refine Below.alloc ?_ ?_ _; (with_reducible exact HB.out); all_goals first | exact HB.out.size | (have := HB.out.size; simp; omega)) | (with_reducible refine Below.alloc ?_ ?_ _; with_reducible refine Below.alloc ?_ ?_ _; with_reducible refine Below.alloc ?_ ?_ _; (with_reducible exact HB.out); all_goals first | exact HB.out.size | (have := HB.out.size; simp; omega)) | (with_reducible refine Below.alloc ?_ ?_ _; with_reducible refine Below.alloc ?_ ?_ _; with_reducible refine Below.alloc ?_ ?_ _; with_reducible refine Below.alloc ?_ ?_ _; (with_reducible exact HB.out); all_goals first | exact HB.out.size | (have := HB.out.size; simp; omega)) | (with_reducible refine Below.drew ?_; with_reducible refine Below.alloc ?_ ?_ _; (with_reducible exact Below.refl _ _); all_goals first | exact Nat.le_refl _ | (simp; done) | (simp; omega)) | (with_reducible refine Below.drew ?_; with_reducible refine Below.alloc ?_ ?_ _; with_reducible refine Below.alloc ?_ ?_ _; (with_reducible exact Below.refl _ _); all_goals first | exact Nat.le_refl _ | (simp; done) | (simp; omega)) | (with_reducible refine Below.drew ?_; with_reducible refine Below.alloc ?_ ?_ _; with_reducible refine Below.alloc ?_ ?_ _; with_reducible refine Below.alloc ?_ ?_ _; (with_reducible exact Below.refl _ _); all_goals first | exact Nat.le_refl _ | (simp; done) | (simp; omega)) | (with_reducible refine Below.drew ?_; with_reducible refine Below.alloc ?_ ?_ _; with_reducible refine Below.alloc ?_ ?_ _; with_reducible refine Below.alloc ?_ ?_ _; with_reducible refine Below.alloc ?_ ?_ _; (with_reducible exact Below.refl _ _); all_goals first | exact Nat.le_refl _ | (simp; done) | (simp; omega))))) HNL.out.2.2.2.1 HNL.out.2.2.2.2 ?_; intro a1 k1 w1 ho hg; have hb := below_of_grown hg; have hoi := ho.imp (fun b hb h => And.intro h hb); (first | (simp only [World.size_alloc] at hoi) | skip); have HW := Lib.hid hoi; clear hoi; have sb := hb.size; (first | (simp at sb) | skip); (first | (have HV := Lib.hid (HV.out.below (below_next (by (first | with_reducible exact Below.refl _ _ | (with_reducible refine Below.alloc ?_ ?_ _; (with_reducible exact Below.refl _ _); all_goals first | exact Nat.le_refl _ | (simp; done) | (simp; omega)) | (with_reducible refine Below.alloc ?_ ?_ _; with_reducible refine Below.alloc ?_ ?_ _; (with_reducible exact Below.refl _ _); all_goals first | exact Nat.le_refl _ | (simp; done) | (simp; omega)) | (with_reducible refine Below.alloc ?_ ?_ _; with_reducible refine Below.alloc ?_ ?_ _; with_reducible refine Below.alloc ?_ ?_ _; (with_reducible exact Below.refl _ _); all_goals first | exact Nat.le_refl _ | (simp; done) | (simp; omega)))) hb))) | skip); (first | (have hz9 := (HZ.out.below (by first | omega | (simp; omega)) (below_next (by (first | with_reducible exact Below.refl _ _ | (with_reducible refine Below.alloc ?_ ?_ _; (with_reducible exact Below.refl _ _); all_goals first | exact Nat.le_refl _ | (simp; done) | (simp; omega)) | (with_reducible refine Below.alloc ?_ ?_ _; with_reducible refine Below.alloc ?_ ?_ _; (with_reducible exact Below.refl _ _); all_goals first | exact Nat.le_refl _ | (simp; done) | (simp; omega)) | (with_reducible refine Below.alloc ?_ ?_ _; with_reducible refine Below.alloc ?_ ?_ _; with_reducible refine Below.alloc ?_ ?_ _; (with_reducible exact Below.refl _ _); all_goals first | exact Nat.le_refl _ | (simp; done) | (simp; omega)))) hb)); (first | (simp only [World.size_alloc] at hz9) | skip); have HZ := Lib.hid hz9; clear hz9) | (have hz9 := (Box3.below (Box3.new _ _) (by first | (simp; done) | (simp; omega)) hb); (first | (simp only [World.size_alloc] at hz9) | skip); have HZ := Lib.hid hz9; clear hz9) | (have hz9 := (Box3.below (Box3.alloc (Box3.new _ _) (by first | (simp; done) | (simp; omega)) _) (by first | (simp; done) | (simp; omega)) hb); (first | (simp only [World.size_alloc] at hz9) | skip); have HZ := Lib.hid hz9; clear hz9) | (have hz9 := (Box3.below (Box3.alloc (Box3.alloc (Box3.new _ _) (by first | (simp; done) | (simp; omega)) _) (by first | (simp; done) | (simp; omega)) _) (by first | (simp; done) | (simp; omega)) hb); (first | (simp only [World.size_alloc] at hz9) | skip); have HZ := Lib.hid hz9; clear hz9) | (have hz9 := (Box3.below (Box3.drewn (Box3.new _ _)) (by first | (simp; done) | (simp; omega)) hb); (first | (simp only [World.size_alloc] at hz9) | skip); have HZ := Lib.hid hz9; clear hz9) | (have hz9 := (Box3.below (Box3.drewn (Box3.alloc (Box3.new _ _) (by first | (simp; done) | (simp; omega)) _)) (by first | (simp; done) | (simp; omega)) hb); (first | (simp only [World.size_alloc] at hz9) | skip); have HZ := Lib.hid hz9; clear hz9) | (have hz9 := (Box3.below (Box3.drewn (Box3.alloc (Box3.alloc (Box3.new _ _) (by first | (simp; done) | (simp; omega)) _) (by first | (simp; done) | (simp; omega)) _)) (by first | (simp; done) | (simp; omega)) hb); (first | (simp only [World.size_alloc] at hz9) | skip); have HZ := Lib.hid hz9; clear hz9) | skip); have HB := Lib.hid (show Below u.heap.size u w1 from below_next (by (first | with_reducible exact HB.out | (with_reducible refine Below.alloc ?_ ?_ _; (with_reducible exact HB.out); all_goals first | exact HB.out.size | (have := HB.out.size; simp; omega)) | (with_reducible refine Below.alloc ?_ ?_ _; with_reducible refine Below.alloc ?_ ?_ _; (with_reducible exact HB.out); all_goals first | exact HB.out.size | (have := HB.out.size; simp; omega)) | (with_reducible refine Below.alloc ?_ ?_ _; with_reducible refine Below.alloc ?_ ?_ _; with_reducible refine Below.alloc ?_ ?_ _; (with_reducible exact HB.out); all_goals first | exact HB.out.size | (have := HB.out.size; simp; omega)) | (with_reducible refine Below.alloc ?_ ?_ _; with_reducible refine Below.alloc ?_ ?_ _; with_reducible refine Below.alloc ?_ ?_ _; with_reducible refine Below.alloc ?_ ?_ _; (with_reducible exact HB.out); all_goals first | exact HB.out.size | (have := HB.out.size; simp; omega)) | (with_reducible refine Below.drew ?_; with_reducible refine Below.alloc ?_ ?_ _; (with_reducible exact Below.refl _ _); all_goals first | exact Nat.le_refl _ | (simp; done) | (simp; omega)) | (with_reducible refine Below.drew ?_; with_reducible refine Below.alloc ?_ ?_ _; with_reducible refine Below.alloc ?_ ?_ _; (with_reducible exact Below.refl _ _); all_goals first | exact Nat.le_refl _ | (simp; done) | (simp; omega)) | (with_reducible refine Below.drew ?_; with_reducible refine Below.alloc ?_ ?_ _; with_reducible refine Below.alloc ?_ ?_ _; with_reducible refine Below.alloc ?_ ?_ _; (with_reducible exact Below.refl _ _); all_goals first | exact Nat.le_refl _ | (simp; done) | (simp; omega)) | (with_reducible refine Below.drew ?_; with_reducible refine Below.alloc ?_ ?_ _; with_reducible refine Below.alloc ?_ ?_ _; with_reducible refine Below.alloc ?_ ?_ _; with_reducible refine Below.alloc ?_ ?_ _; (with_reducible exact Below.refl _ _); all_goals first | exact Nat.le_refl _ | (simp; done) | (simp; omega)))) hb); have sB := HB.out.size; have c0 := ((bcell HB.out).1 _ _ z0).trans Q0.out.1; have c1 := ((bcell HB.out).1 _ _ z0).trans Q0.out.2.1; have c2 := ((bcell HB.out).1 _ _ z0).trans Q0.out.2.2.1; (first | (obtain ⟨d0, d1, d2, df⟩ := HZ.out; have df0 := df 0; have df1 := df 1; have df2 := df 2; clear df) | skip); clear ho hg hb))))
    all_goals (go_wp2_with fail)
    all_goals go_meet
    all_goals (first
      | exact copied_last HB.out HV.out HW.out (by omega)
      | exact copied_store HB.out HZ.out HV.out HW.out (by omega))
  case rest =>
    clear c0 c1 c2 q0 q1 q2 q3 q4
    obtain ⟨p, l, c, d, c', PL, PD, rfl, ⟨pl, ph⟩, hb, hx, hv, hw, hPL, hPD⟩ := hcut
    have HB := Lib.hid hb
    have HX := Lib.hid hx
    have HV := Lib.hid hv
    have HW := Lib.hid hw
    have HPL := Lib.hid hPL
    have HPD := Lib.hid hPD
    have sw := hb.size
    have c0 := ((bcell hb).1 _ _ z0).trans Q0.out.1
    have c1 := ((bcell hb).1 _ _ z0).trans Q0.out.2.1
    have q0 := ((bcell hb).1 _ _ (by omega)).trans Q0.out.2.2.2.1
    clear hx hv hw hb hPL hPD
    have zc0 : w.heap.size < wc.heap.size := by omega
    have zc1 : w.heap.size + 1 < wc.heap.size := by omega
    go_upto_block 0 with (fail)
    have HWA := Lib.hid (show Below wc.heap.size wc (wc.alloc (.cells #[.int .i64 seq, .int .i64 0, .int .i64 0, .int .i64 0] 39)) from (Below.refl _ _).alloc (Nat.le_refl _) _)
    have HUA := Lib.hid (HB.out.trans (HWA.out.mono HB.out.size))
    refine abstract_code (fun u2 => Box3 u2 p (.int .i64 cp) (.slice l n c) (.slice d m c') ∧ Box4 u2 wc.heap.size (.int .i64 seq) (.int .i64 0) (.int .i64 0) (.int .i64 0) ∧ (u2.cell? ⟨w.heap.size + 1, 0, none⟩ = some (.int .i64 k) ∧ u2.cell? ⟨w.heap.size + 1, 2, none⟩ = some (.int .i64 x) ∧ u2.cell? ⟨w.heap.size, 0, none⟩ = some (.int .i64 cp) ∧ u2.cell? ⟨w.heap.size, 1, none⟩ = some (.slice la n lc)) ∧ (OwnE PL u2 3 1 (.slice l n c) n (rowL .i64 f n) ∧ OwnE PD u2 39 4 (.slice d m c') m (flatL 4 g m)) ∧ Below w.heap.size w u2 ∧ Box3 u2 (w.heap.size + 2) (.int .i64 0) (.slice none 0 0) (.slice none 0 0) ∧ RowI u2 la n lc f ∧ wc.heap.size < u2.heap.size) ⟨HX.out.below ph HWA.out, Box4.new _ _, ?_, ⟨HV.out.below HWA.out, HW.out.below HWA.out⟩, HU.out.1.trans (HUA.out.mono HU.out.1.size), HR.out.below z2 HUA.out, HU.out.2.1 HUA.out, by simp⟩ ?_
    · obtain ⟨y5, y6, _, y0, y1, y2, y3, y4⟩ := Q0.out
      exact ⟨((bcell HUA.out).1 _ _ (by omega)).trans y0, ((bcell HUA.out).1 _ _ (by omega)).trans y2, ((bcell HUA.out).1 _ _ (by omega)).trans y5, ((bcell HUA.out).1 _ _ (by omega)).trans y6⟩
    clear HWA HUA HX HV HW HB HR Q0 c0 c1 q0 HNL HCP
    rintro u2 ⟨hx, hr, ⟨q0, q2, c5, c6⟩, ⟨hv, hw⟩, hb, hz, hi, zr⟩
    have HX := Lib.hid hx
    have HR := Lib.hid hr
    have HV := Lib.hid hv
    have HW := Lib.hid hw
    have HB := Lib.hid hb
    have HZ := Lib.hid hz
    have HI := Lib.hid hi
    have zw := hb.size
    clear hv hw hb hz hi
    have pw : w.heap.size + 2 < p := by omega
    have HQ := Lib.hid (show (∀ b, PL b → w.heap.size + 2 < b ∧ b ≠ p ∧ b < wc.heap.size ∧ ¬ PD b) ∧ (∀ b, PD b → w.heap.size + 2 < b ∧ b ≠ p ∧ b < wc.heap.size) from ⟨fun b h => by obtain ⟨y1, y2, y3, y4⟩ := HPL.out b h; exact ⟨by omega, y2, y3, y4⟩, fun b h => by obtain ⟨y1, y2, y3⟩ := HPD.out b h; exact ⟨by omega, y2, y3⟩⟩)
    clear HPL HPD pl
    generalize wc.heap.size = r at *
    obtain ⟨A, hA⟩ : ∃ A, A = CV.after ⟨cp, n, f, m, g⟩ last k x := ⟨_, rfl⟩
    have HA := Lib.hid hA
    have HAM := Lib.hid (show A.m = m ∧ A.g = g ∧ A.cap = cp from hA ▸ after_m _ _ _ _)
    have HAN := Lib.hid (show A.n ≤ n + 1 from hA ▸ after_n _ _ _ _)
    clear hA
    obtain ⟨cn, hcn⟩ : ∃ cn, cn = CV.code ⟨cp, n, f, m, g⟩ k := ⟨_, rfl⟩
    have HCN := Lib.hid hcn
    clear hcn
    obtain ⟨tl, htl⟩ : ∃ tl, tl = CV.told ⟨cp, n, f, m, g⟩ last k := ⟨_, rfl⟩
    have HTL := Lib.hid htl
    clear htl
    go_cut [] from 14 (fun wx => ∃ l' lc', Box3 wx p (.int .i64 cp) (.slice l' A.n lc') (.slice d m c') ∧ Box4 wx r (.int .i64 seq) (.int .i64 0) (.int .i64 cn) (.int .i64 tl) ∧ RowP (fun b => w.heap.size + 2 < b ∧ b ≠ p ∧ b ≠ r ∧ ¬ PD b) wx l' A.n lc' A.f ∧ OwnE PD wx 39 4 (.slice d m c') m (flatL 4 g m) ∧ Below w.heap.size w wx ∧ Box3 wx (w.heap.size + 2) (.int .i64 0) (.slice none 0 0) (.slice none 0 0) ∧ r < wx.heap.size)
    case first =>
      obtain ⟨x0, x1, x2, xf⟩ := hx
      have xf1 := xf 1
      obtain ⟨r0, r1, r2, r3, rf⟩ := hr
      have rf2 := rf 2
      have rf3 := rf 3
      clear xf rf
      have HVP := Lib.hid (show RowP (fun b => w.heap.size + 2 < b ∧ b ≠ p ∧ b ≠ r ∧ ¬ PD b) u2 l n c f from by
        obtain ⟨a, cap, hv, hp⟩ := HV.out.rowI (by omega)
        simp only [Value.slice.injEq] at hv
        obtain ⟨rfl, _, rfl⟩ := hv
        exact hp.imp (fun b _ h => ⟨(HQ.out.1 b h).1, (HQ.out.1 b h).2.1, by have := HQ.out.1 b h; omega, (HQ.out.1 b h).2.2.2⟩))
      by_cases h8 : k = 8
      · subst h8
        clear c6 HI
        by_cases hroom : (n : Int) < cp
        · have e1 : A = ⟨cp, n + 1, updI f n x, m, g⟩ := HA.out.trans (by simp [CV.after, hroom])
          have e2 : tl = 0 := HTL.out.trans rfl
          have e0 : cn = 0 := HCN.out.trans (by simp [CV.code, hroom])
          subst e1 e2 e0
          clear HA HTL HCN
          rcases HV.out with ⟨hn0, q', hv⟩ | ⟨B, ho0, hp0⟩
          · subst hn0
            simp only [Value.slice.injEq] at hv
            obtain ⟨rfl, _, rfl⟩ := hv
            go_wp2_with (at_builtin; go_loud (refine list_copy rfl _ _ 22 rfl 3 (.int .i64 0) 1 8 Try.underlying22 Try.info_int rfl (by decide) q' rfl (some ⟨u2.heap.size, 0, none⟩) 1 1 [.int .i64 x] rfl rfl (by simp) (fun ad had => by injection had with had; subst had; exact World.news_of_block (cs := #[.int .i64 x]) (t := 3) (fr := (0, 0)) (heap_alloc_new u2 _)) (by unfold maxLen; omega) (by omega) ?_; intro l1 k1 w3 ho hg; have hg4 : u2.grownBy w3 none := (World.grownBy_alloc u2 _ _).trans hg; have HO := Lib.hid ho; have HX3 := Lib.hid (HX.out.grown hg4 (by omega) (by simp)); have HR3 := Lib.hid (HR.out.grown hg4 zr (by simp)); have HZ3 := Lib.hid (HZ.out.grown hg4 (by omega) (by simp)); have HW3 := Lib.hid (HW.out.grown hg4 (by simp)); have HB3 := Lib.hid (HB.out.grown hg4 zw (by simp)); have s3 := hg4.size; clear ho hg hg4 x0 x1 x2 xf1 r0 r1 r2 r3 rf2 rf3; (obtain ⟨x0, x1, x2, xf⟩ := HX3.out); have xf1 := xf 1; clear xf))
            all_goals go_meet
            case rel =>
              obtain ⟨a, cap, hv, hp⟩ := OwnE.rowI (f := updI f 0 x) (by omega) (show OwnE _ w3 3 1 (.slice l1 1 k1) 1 (rowL .i64 (updI f 0 x) 1) from by rw [show rowL .i64 (updI f 0 x) 1 = [.int .i64 x] by simp [rowL, updI]]; exact HO.out)
              simp only [Value.slice.injEq] at hv
              obtain ⟨rfl, _, rfl⟩ := hv
              have hp' := hp.imp (Q := fun b => w.heap.size + 2 < b ∧ b ≠ p ∧ b ≠ r ∧ ¬ PD b) (fun b _ h => by
                have h' : u2.heap.size < b := by first | exact h | omega | (simp at h; omega)
                exact ⟨by omega, by omega, by omega, fun h2 => by have := HQ.out.2 b h2; omega⟩)
              exact ⟨_, _, HX3.out.set1 _, HR3.out.set_far (by omega), hp'.setCell (fun h => h.2.1 rfl), HW3.out.set (fun h => by have := HQ.out.2 p h; omega), HB3.out.setCell (by simp; omega) _, HZ3.out.set_far (by omega), by simp; omega⟩
          · have HO1 := Lib.hid (show u2.ownsRow 0 3 1 (.slice l n c) n (rowL .i64 (updI f n x) n) from by
              rw [rowL_same (f := updI f n x) (g := f) (fun i hi => by unfold updI; rw [if_neg (by omega)])]
              exact ho0.mono (Nat.zero_le _))
            have HPP := Lib.hid hp0
            clear ho0 hp0
            go_wp2_with (at_builtin; go_loud (refine app_one 0 3 22 rfl _ _ rfl Try.underlying22 Try.info_int (.slice l n c) n (updI f n x) x (by unfold updI; rw [if_pos rfl]) rfl HO1.out u2.heap.size rfl rfl (by omega) (by simp) ?_; intro gg k1 w3 ho hg hat hlt'; have hg4 : u2.grownBy w3 (Value.slice l n c).ownBlock := hg; have HO := Lib.hid ho; have HAT := Lib.hid hat; have HX3 := Lib.hid (HX.out.grown hg4 (by omega) (fun e => by have := HQ.out.1 p (HPP.out p e.symm); omega)); have HR3 := Lib.hid (HR.out.grown hg4 zr (fun e => by have := HQ.out.1 r (HPP.out r e.symm); omega)); have HZ3 := Lib.hid (HZ.out.grown hg4 (by omega) (fun e => by have := HQ.out.1 _ (HPP.out _ e.symm); omega)); have HW3 := Lib.hid (HW.out.grown hg4 (fun b hb e => (HQ.out.1 b (HPP.out b e.symm)).2.2.2 hb)); have HB3 := Lib.hid (HB.out.grown hg4 zw (fun q hq => by have := HQ.out.1 q (HPP.out q hq); omega)); have s3 := hg4.size; clear ho hg hg4 x0 x1 x2 xf1 r0 r1 r2 r3 rf2 rf3; (obtain ⟨x0, x1, x2, xf⟩ := HX3.out); have xf1 := xf 1; clear xf))
            all_goals go_meet
            case rel =>
              obtain ⟨a, cap, hv, hp⟩ := RowP.of (by omega) HO.out
              simp only [Value.slice.injEq] at hv
              obtain ⟨rfl, _, rfl⟩ := hv
              have hp' := hp.imp (Q := fun b => w.heap.size + 2 < b ∧ b ≠ p ∧ b ≠ r ∧ ¬ PD b) (fun b _ e => by
                simp only [Value.ownBlock, Option.some.injEq] at e
                rcases HAT.out with h | h
                · have h1 := HPP.out gg h
                  have h2 := HQ.out.1 gg h1
                  rw [← e]
                  exact ⟨h2.1, h2.2.1, by omega, h2.2.2.2⟩
                · exact ⟨by omega, by omega, by omega, fun h2 => by have := HQ.out.2 b h2; omega⟩)
              exact ⟨_, _, HX3.out.set1 _, HR3.out.set_far (by omega), hp'.setCell (fun h => h.2.1 rfl), HW3.out.set (fun h => by have := HQ.out.2 p h; omega), HB3.out.setCell (by simp; omega) _, HZ3.out.set_far (by omega), by simp; omega⟩
        · have hroom' : cp ≤ (n : Int) := by omega
          have e1 : A = ⟨cp, n, f, m, g⟩ := HA.out.trans (by simp [CV.after, hroom])
          have e2 : tl = 0 := HTL.out.trans rfl
          have e0 : cn = 10 := HCN.out.trans (by simp [CV.code, hroom])
          subst e1 e2 e0
          clear HA HTL HCN hroom
          go_wp2
          go_meet
          case rel => exact ⟨l, c, HX.out.set_far (by omega), HR.out.set2 _, HVP.out.setCell (fun h => h.2.2.1 rfl), HW.out.set (fun h => by have := HQ.out.2 r h; omega), HB.out.setCell (by simp; omega) _, HZ.out.set_far (by omega), by simp; exact zr⟩
      have e8 : (k == 8) = false := by simpa using h8
      by_cases h9 : k = 9
      · subst h9
        clear h8 e8
        by_cases hn0 : n = 0
        · subst hn0
          have e1 : A = ⟨cp, 0, f, m, g⟩ := HA.out.trans (by simp [CV.after])
          have e2 : tl = 0 := HTL.out.trans (by simp [CV.told])
          have e0 : cn = 10 := HCN.out.trans (by simp [CV.code])
          subst e1 e2 e0
          clear HA HTL HCN
          go_wp2
          go_meet
          case rel => exact ⟨l, c, HX.out.set_far (by omega), HR.out.set2 _, HVP.out.setCell (fun h => h.2.2.1 rfl), HW.out.set (fun h => by have := HQ.out.2 r h; omega), HB.out.setCell (by simp; omega) _, HZ.out.set_far (by omega), by simp; exact zr⟩
        · have e1 : A = ⟨cp, n - 1, if last then f else fun i => f (i + 1), m, g⟩ := HA.out.trans (by simp [CV.after, hn0])
          have e2 : tl = if last then f (n - 1) else f 0 := HTL.out.trans (by simp [CV.told, hn0])
          have e0 : cn = 0 := HCN.out.trans (by simp [CV.code, hn0])
          subst e1 e2 e0
          clear HA HTL HCN
          obtain ⟨hb1, hb2, hb3, hb4⟩ := HI.out
          obtain ⟨lb, lo, rfl, hlb, hlc⟩ := hb4 (Nat.pos_of_ne_zero hn0)
          obtain ⟨ob1, ob2, ob3, ob4⟩ := HVP.out
          obtain ⟨vb, vo, rfl, hvb, hvc⟩ := ob4 (Nat.pos_of_ne_zero hn0)
          have i0 : ((n : Int) == 0) = false := by simpa using hn0
          have HVP' := Lib.hid HVP.out
          clear hb1 hb2 hb4 ob1 ob2 ob4 hvc
          obtain ⟨n', rfl⟩ : ∃ n', n = n' + 1 := Nat.exists_eq_succ_of_ne_zero hn0
          cases last with
          | true =>
            have y0 : u2.cell? ⟨lb, lo + n', none⟩ = some (.int .i64 (f n')) := hlc n' (by omega)
            clear hlc
            go_wp2
            go_meet
            case rel => exact ⟨_, _, (HX.out.set_far (by omega)).set1 _, (HR.out.set3 _).set_far (by omega), (HVP'.out.less.setCell (fun h => h.2.2.1 rfl)).setCell (fun h => h.2.1 rfl), (HW.out.set (fun h => by have := HQ.out.2 r h; omega)).set (fun h => by have := HQ.out.2 p h; omega), (HB.out.setCell (by simp; omega) _).setCell (by simp; omega) _, (HZ.out.set_far (by omega)).set_far (by omega), by simp; exact zr⟩
          | false =>
            have y0 : u2.cell? ⟨lb, lo, none⟩ = some (.int .i64 (f 0)) := hlc 0 (by omega)
            clear hlc
            go_wp2
            · go_meet
              case rel =>
                have hn0' : n' = 0 := by omega
                subst hn0'
                exact ⟨_, _, (HX.out.set_far (by omega)).set1 _, (HR.out.set3 _).set_far (by omega), ((RowP.empty (P := fun b => w.heap.size + 2 < b ∧ b ≠ p ∧ b ≠ r ∧ ¬ PD b) (w := u2) (b := vb) (off := vo) (f := fun i => f (i + 1))).setCell (fun h => h.2.2.1 rfl)).setCell (fun h => h.2.1 rfl), (HW.out.set (fun h => by have := HQ.out.2 r h; omega)).set (fun h => by have := HQ.out.2 p h; omega), (HB.out.setCell (by simp; omega) _).setCell (by simp; omega) _, (HZ.out.set_far (by omega)).set_far (by omega), by simp; exact zr⟩
            · go_meet
              case rel => exact ⟨_, _, (HX.out.set_far (by omega)).set1 _, (HR.out.set3 _).set_far (by omega), (HVP'.out.shift.setCell (fun h => h.2.2.1 rfl)).setCell (fun h => h.2.1 rfl), (HW.out.set (fun h => by have := HQ.out.2 r h; omega)).set (fun h => by have := HQ.out.2 p h; omega), (HB.out.setCell (by simp; omega) _).setCell (by simp; omega) _, (HZ.out.set_far (by omega)).set_far (by omega), by simp; exact zr⟩
      have e9 : (k == 9) = false := by simpa using h9
      have e3 := HA.out
      have e4 := HTL.out
      have e5 := HCN.out
      clear HA HTL HCN
      by_cases h5 : k = 5
      · subst h5
        have e1 : A = ⟨cp, n, f, m, g⟩ := e3.trans rfl
        have e2 : tl = (n : Int) := e4.trans rfl
        have e0 : cn = 0 := e5.trans rfl
        subst e1 e2 e0
        clear e3 e4 e5
        go_wp2
        go_meet
        case rel => exact ⟨l, c, HX.out.set_far (by omega), HR.out.set3 _, HVP.out.setCell (fun h => h.2.2.1 rfl), HW.out.set (fun h => by have := HQ.out.2 r h; omega), HB.out.setCell (by simp; omega) _, HZ.out.set_far (by omega), by simp; exact zr⟩
      have e_5 : (k == 5) = false := by simpa using h5
      by_cases h6 : k = 6
      · subst h6
        have e1 : A = ⟨cp, n, f, m, g⟩ := e3.trans rfl
        have e2 : tl = cp := e4.trans rfl
        have e0 : cn = 0 := e5.trans rfl
        subst e1 e2 e0
        clear e3 e4 e5
        go_wp2
        go_meet
        case rel => exact ⟨l, c, HX.out.set_far (by omega), HR.out.set3 _, HVP.out.setCell (fun h => h.2.2.1 rfl), HW.out.set (fun h => by have := HQ.out.2 r h; omega), HB.out.setCell (by simp; omega) _, HZ.out.set_far (by omega), by simp; exact zr⟩
      have e_6 : (k == 6) = false := by simpa using h6
      have e1 : A = ⟨cp, n, f, m, g⟩ := e3.trans (by simp [CV.after, h8, h9])
      have e2 : tl = 0 := e4.trans (by simp [CV.told, h9, h5, h6])
      have e0 : cn = 1 := e5.trans (by simp [CV.code, h8, h9, h5, h6])
      subst e1 e2 e0
      clear e3 e4 e5 h5 h6 h8 h9
      go_wp2
      go_meet
      case rel => exact ⟨l, c, HX.out.set_far (by omega), HR.out.set2 _, HVP.out.setCell (fun h => h.2.2.1 rfl), HW.out.set (fun h => by have := HQ.out.2 r h; omega), HB.out.setCell (by simp; omega) _, HZ.out.set_far (by omega), by simp; exact zr⟩
    case rest =>
      clear hx hr q0 q2 c5 c6 HX HR HV HB HZ HI zw zr
      have HG := Lib.hid (fun b (h : PD b) => show w.heap.size + 2 < b ∧ b ≠ p ∧ b ≠ r from ⟨(HQ.out.2 b h).1, (HQ.out.2 b h).2.1, by have := HQ.out.2 b h; omega⟩)
      obtain ⟨l', lc', hx, hr, hp, hw, hb, hz, zr⟩ := hcut
      have HX := Lib.hid hx
      have HR := Lib.hid hr
      have HP := Lib.hid hp
      have HB := Lib.hid hb
      have HZ := Lib.hid hz
      have zw := hb.size
      have hmb : m * 32 ≤ 140737488355328 := by have := (HU.out.2.2 (Below.refl u.heap.size u)).1; omega
      have HY := Lib.hid (show CV.apply ⟨cp, n, f, m, g⟩ last t seq k x = A.note t (res4 seq cn tl) by unfold CV.apply; rw [← HA.out, ← HTL.out, ← HCN.out])
      clear hp hb HU HA HTL HCN HW
      by_cases hin : 0 ≤ t ∧ t < (m : Int)
      · obtain ⟨t0, t1⟩ := hin
        obtain ⟨i, rfl⟩ : ∃ i : Nat, t = (i : Int) := ⟨t.toNat, by omega⟩
        have him : i < m := by omega
        rcases hw with ⟨h0, _⟩ | ⟨B0, hw, hPD⟩
        · omega
        rcases hw.2 with ⟨_, h0⟩ | ⟨gb, cap, cur, hv, hb, hg, hnc, hcm, hcs, hct⟩
        · omega
        simp only [Value.slice.injEq] at hv
        obtain ⟨rfl, _, rfl⟩ := hv
        have HW := Lib.hid hw
        have hf := fun j => HW.out.frozenAt j
        have hce := fun j hj => HW.out.cellAt j hj
        have g1 := HG.out gb (hPD gb rfl)
        have HPG := Lib.hid (hPD gb rfl)
        have x0 : wc.cell? ⟨gb, i * 4, none⟩ = some (.int .i64 (g i 0)) := by rw [hce (i * 4) (by omega)]; exact flatL_get (j := 0) him (by omega)
        have x1 : wc.cell? ⟨gb, i * 4 + 1, none⟩ = some (.int .i64 (g i 1)) := by rw [hce (i * 4 + 1) (by omega)]; exact flatL_get (j := 1) him (by omega)
        have x2 : wc.cell? ⟨gb, i * 4 + 2, none⟩ = some (.int .i64 (g i 2)) := by rw [hce (i * 4 + 2) (by omega)]; exact flatL_get (j := 2) him (by omega)
        have x3 : wc.cell? ⟨gb, i * 4 + 3, none⟩ = some (.int .i64 (g i 3)) := by rw [hce (i * 4 + 3) (by omega)]; exact flatL_get (j := 3) him (by omega)
        have f0 := hf (i * 4)
        have f1 := hf (i * 4 + 1)
        have f2 := hf (i * 4 + 2)
        have f3 := hf (i * 4 + 3)
        obtain ⟨c0, c1, c2, cf⟩ := hx
        obtain ⟨r0, r1, r2, r3, rf⟩ := hr
        clear cf rf hz hf hce hw hct hcs hPD
        go_upto_region 24 with (fail)
        have gl : gb < wc.heap.size := (Array.getElem?_eq_some_iff.1 hg).1
        refine abstract_code (fun u3 => Box3 u3 p (.int .i64 cp) (.slice l' A.n lc') (.slice (some ⟨gb, 0, none⟩) m c') ∧ RowP (fun b => w.heap.size + 2 < b ∧ b ≠ p ∧ b ≠ r ∧ ¬ PD b) u3 l' A.n lc' A.f ∧ (∀ i' j, i' < m → j < 4 → u3.cell? ⟨gb, i' * 4 + j, none⟩ = some (.int .i64 (if i' = i then res4 seq cn tl j else g i' j))) ∧ Below w.heap.size w u3 ∧ Box3 u3 (w.heap.size + 2) (.int .i64 0) (.slice none 0 0) (.slice none 0 0) ∧ gb < u3.heap.size) ⟨(((HX.out.set_far (by omega)).set_far (by omega)).set_far (by omega)).set_far (by omega), (((HP.out.setCell (fun h => h.2.2.2 HPG.out)).setCell (fun h => h.2.2.2 HPG.out)).setCell (fun h => h.2.2.2 HPG.out)).setCell (fun h => h.2.2.2 HPG.out), fun i' j hi' hj => note_cells (fun q hq => by rw [HW.out.cellAt q hq]) him hi' hj, (((HB.out.setCell (by simp; omega) _).setCell (by simp; omega) _).setCell (by simp; omega) _).setCell (by simp; omega) _, (((HZ.out.set_far (by omega)).set_far (by omega)).set_far (by omega)).set_far (by omega), by simp; exact gl⟩ ?_
        clear HX HR HP HW HB HZ x0 x1 x2 x3 f0 f1 f2 f3 c0 c1 c2 r0 r1 r2 r3 hg hb gl zr HG zw
        rintro u3 ⟨hx, hp, hw, hb, hz, gl⟩
        have HP := Lib.hid hp
        have HW := Lib.hid hw
        have HB := Lib.hid hb
        clear hp hw hb
        obtain ⟨c0, c1, c2, cf⟩ := hx
        obtain ⟨e0, e1, e2, ef⟩ := hz
        have ef0 := ef 0
        have ef1 := ef 1
        have ef2 := ef 2
        clear cf ef
        go_wp2
        refine bodyPost_ret (v := .agg #[.int .i64 cp, .slice l' A.n lc', .slice (some ⟨gb, 0, none⟩) m c']) (by simp only [results, Try.results8]; go_simp) rfl ⟨_, rfl, ?_, ?_⟩
        · rw [HY.out]
          unfold CV.note
          rw [if_pos ⟨t0, by rw [HAM.out.1]; exact t1⟩]
          refine ⟨l', lc', some ⟨gb, 0, none⟩, c', ?_, ?_, ?_⟩
          · show Value.agg _ = Value.agg _
            rw [HAM.out.1, HAM.out.2.2]
          · exact (((HP.out.setCell (fun h => absurd h.1 (by omega))).setCell (fun h => absurd h.1 (by omega))).setCell (fun h => absurd h.1 (by omega))).row
          · dsimp only
            rw [HAM.out.1, HAM.out.2.1]
            refine ⟨by omega, (fun h => by cases h), hnc, fun _ => ⟨gb, 0, rfl, by simp; exact gl, fun i' j hi' hj => ?_⟩⟩
            rw [Nat.zero_add, cell_set_ne (.inl (by omega)), cell_set_ne (.inl (by omega)), cell_set_ne (.inl (by omega)), HW.out i' j hi' hj]
            dsimp only
            by_cases e : i' = i
            · rw [if_pos e, if_pos (by omega)]
            · rw [if_neg e, if_neg (by omega)]
        · exact ((HB.out.setCell (by first | omega | (simp; done) | (simp; omega)) _).setCell (by first | omega | (simp; done) | (simp; omega)) _).setCell (by first | omega | (simp; done) | (simp; omega)) _
      · have HW := Lib.hid hw
        obtain ⟨c0, c1, c2, cf⟩ := hx
        obtain ⟨r0, r1, r2, r3, rf⟩ := hr
        obtain ⟨e0, e1, e2, ef⟩ := hz
        have ef0 := ef 0
        have ef1 := ef 1
        have ef2 := ef 2
        clear cf rf ef
        have HNI := Lib.hid hin
        by_cases t0 : 0 ≤ t
        · have t1 : ¬ t < (m : Int) := fun h => hin ⟨t0, h⟩
          have t2 : (m : Int) ≤ t := by omega
          clear hin t1
          go_wp2
          refine bodyPost_ret (v := .agg #[.int .i64 cp, .slice l' A.n lc', .slice d m c']) (by simp only [results, Try.results8]; go_simp) rfl ⟨_, rfl, ?_, ?_⟩
          · rw [HY.out]
            unfold CV.note
            rw [if_neg (by rw [HAM.out.1]; exact HNI.out)]
            obtain ⟨d2, c2', hd, hr4⟩ := OwnE.rowS (by omega) (((HW.out.set (p := w.heap.size + 2) (i := 0) (x := .int .i64 cp) (fun e => by have := HG.out _ e; omega)).set (p := w.heap.size + 2) (i := 1) (x := .slice l' A.n lc') (fun e => by have := HG.out _ e; omega)).set (p := w.heap.size + 2) (i := 2) (x := .slice d m c') (fun e => by have := HG.out _ e; omega))
            simp only [Value.slice.injEq] at hd
            obtain ⟨rfl, _, rfl⟩ := hd
            refine ⟨l', lc', d, c', ?_, ?_, ?_⟩
            · rw [HAM.out.1, HAM.out.2.2]
            · exact (((HP.out.setCell (fun h => absurd h.1 (by omega))).setCell (fun h => absurd h.1 (by omega))).setCell (fun h => absurd h.1 (by omega))).row
            · rw [HAM.out.1, HAM.out.2.1]
              exact hr4
          · exact ((HB.out.setCell (by first | omega | (simp; done) | (simp; omega)) _).setCell (by first | omega | (simp; done) | (simp; omega)) _).setCell (by first | omega | (simp; done) | (simp; omega)) _
        · have t1 : t < 0 := by omega
          clear hin t0
          go_wp2
          refine bodyPost_ret (v := .agg #[.int .i64 cp, .slice l' A.n lc', .slice d m c']) (by simp only [results, Try.results8]; go_simp) rfl ⟨_, rfl, ?_, ?_⟩
          · rw [HY.out]
            unfold CV.note
            rw [if_neg (by rw [HAM.out.1]; exact HNI.out)]
            obtain ⟨d2, c2', hd, hr4⟩ := OwnE.rowS (by omega) (((HW.out.set (p := w.heap.size + 2) (i := 0) (x := .int .i64 cp) (fun e => by have := HG.out _ e; omega)).set (p := w.heap.size + 2) (i := 1) (x := .slice l' A.n lc') (fun e => by have := HG.out _ e; omega)).set (p := w.heap.size + 2) (i := 2) (x := .slice d m c') (fun e => by have := HG.out _ e; omega))
            simp only [Value.slice.injEq] at hd
            obtain ⟨rfl, _, rfl⟩ := hd
            refine ⟨l', lc', d, c', ?_, ?_, ?_⟩
            · rw [HAM.out.1, HAM.out.2.2]
            · exact (((HP.out.setCell (fun h => absurd h.1 (by omega))).setCell (fun h => absurd h.1 (by omega))).setCell (fun h => absurd h.1 (by omega))).row
            · rw [HAM.out.1, HAM.out.2.1]
              exact hr4
          · exact ((HB.out.setCell (by first | omega | (simp; done) | (simp; omega)) _).setCell (by first | omega | (simp; done) | (simp; omega)) _).setCell (by first | omega | (simp; done) | (simp; omega)) _
end Go.Proofs.Ytlgnkkjbbaaokaa
