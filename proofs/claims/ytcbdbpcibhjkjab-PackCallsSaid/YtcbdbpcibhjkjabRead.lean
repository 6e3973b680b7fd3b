/- The contract of ReadCall over the seat's program: the call, and the phase, whose words these are, just so. -/
import Derived.Test.YtcbdbpcibhjkjabCall
import Derived.Test.YtcbdbpcibhjkjabRc
namespace Go.Proofs.Ytcbdbpcibhjkjab
open Go.ChangeShapes Go.WideShapes Go.ChangeAt Go.RowKit Go.Joins
attribute [local go_sem ↓] Go.wp_at_zero Go.wp_at_succ

structure Got where
  kind : Int
  arg : Int
  value : Int
  d : Bool
  cs : List C3
  phase : Int
  ok : Bool
def Got.none : Got := ⟨0, 0, 0, false, [], 0, false⟩
/-- It hands back this, in new memory alone. -/
def RetGot (g : Got) (w : World) (e : Ending) (w' : World) : Prop :=
  ∃ cv, e = .returned (.tuple #[.agg #[.int .i64 g.kind, .int .i64 g.arg, .int .i64 g.value, .bool g.d, cv], .int .i64 g.phase, .bool g.ok]) ∧ CasesAt w' cv g.cs ∧ Below w.heap.size w w'

theorem readCall_short {v : Value} {xs : List Int} (w : World) (h : WordsAt w v xs) (hl : xs.length ≠ 5) : Calls Try.prog 23 #[v] w (RetGot Got.none w) := by
  obtain ⟨a, cap, rfl⟩ := h.form
  have h1 : ((xs.length : Int) != 5) = true := by simp; omega
  generalize xs.length = n at *
  clear h hl
  go_enter Try.func23, Try.ntmps23
  go_wp2
  refine bodyPost_ret (v := .tuple #[.agg #[.int .i64 0, .int .i64 0, .int .i64 0, .bool false, .slice none 0 0], .int .i64 0, .bool false]) (by simp [results, Try.results23, go_sem]) rfl ⟨_, rfl, .inl ⟨rfl, _, _, rfl⟩, ?_⟩
  exact (Below.refl _ _).alloc (Nat.le_refl _) _

def ncase (l0 : Int) : Nat := if l0 / 256 % 16 ≤ 3 then (l0 / 256 % 16).toNat else 3
theorem readCases_any (b off cap : Nat) (l0 : Int) (f : Nat → Int) (w : World) (hb : b < w.heap.size)
    (hf : ∀ i, i < 3 → 0 ≤ f i ∧ f i < 18446744073709551616) (hc : ∀ i, i < 3 → w.cell? ⟨b, off + i, none⟩ = some (.int .u64 (f i))) :
    Calls Try.prog 36 #[.slice (some ⟨b, off, none⟩) 3 cap, .int .i64 (l0 / 256 % 16)] w (RetCases ((List.range (ncase l0)).map fun i => caseOf (f i)) w) := by
  by_cases h : l0 / 256 % 16 ≤ 3
  · have e : l0 / 256 % 16 = ((ncase l0 : Nat) : Int) := by simp only [ncase, if_pos h]; omega
    rw [e]
    exact readCases_few b off cap (ncase l0) (by simp only [ncase, if_pos h]; omega) f w hb hf hc
  · have e : ncase l0 = 3 := by simp [ncase, h]
    rw [e]
    exact readCases_more b off cap _ (by omega) f w hb hf hc

theorem lt_size {b : Nat} {W w1 : World} (h : b < W.heap.size) (hb : Below W.heap.size W w1) : b < w1.heap.size := Nat.lt_of_lt_of_le h hb.size

theorem abstract_world {P : Program} {f : FuncId} {args : Array Value} {Post : Ending → World → Prop} {W : World} (A : World → Prop) (hA : A W) (h : ∀ W', A W' → Calls P f args W' Post) : Calls P f args W Post := h W hA
theorem World.lt_alloc (w : World) (o : Obj) : w.heap.size < (w.alloc o).heap.size := by simp
theorem CasesAt.setFar {w : World} {v : Value} {cs : List C3} (h : CasesAt w v cs) {p : Nat} (hp : v.ownBlock ≠ some p) (j : Nat) (u : Value) : CasesAt (w.setCell ⟨p, j, none⟩ u) v cs := by
  rcases h with h | ⟨b, off, cap, rfl, hb, hm, hc⟩
  · exact .inl h
  · have hne : p ≠ b := fun e => hp (by rw [e]; rfl)
    refine .inr ⟨b, off, cap, rfl, by simpa [World.setCell] using hb, hm, fun i hi => ?_⟩
    rw [World.cell?_setCell_far _ _ _ _ hne, World.cell?_setCell_far _ _ _ _ hne, World.cell?_setCell_far _ _ _ _ hne]
    exact hc i hi
theorem CasesAt.drewN {w : World} {v : Value} {cs : List C3} (h : CasesAt w v cs) (n : Nat) : CasesAt (w.drewN n) v cs := by
  rcases h with h | ⟨b, off, cap, rfl, hb, hm, hc⟩
  · exact .inl h
  · exact .inr ⟨b, off, cap, rfl, hb, hm, hc⟩
/-- What is to be known of the world when the record has been made: the record, the result's place, the row of cases. -/
def Held (w : World) (p : Nat) (x y z : Int) (d : Bool) (cv : Value) (cs : List C3) (W : World) : Prop :=
  (W.cell? ⟨p, 0, none⟩ = some (.int .i64 x) ∧ W.cell? ⟨p, 1, none⟩ = some (.int .i64 y) ∧ W.cell? ⟨p, 2, none⟩ = some (.int .i64 z) ∧ W.cell? ⟨p, 3, none⟩ = some (.bool d) ∧ W.cell? ⟨p, 4, none⟩ = some cv) ∧
  (W.cell? ⟨w.heap.size, 0, none⟩ = some (.int .i64 0) ∧ W.cell? ⟨w.heap.size, 1, none⟩ = some (.int .i64 0) ∧ W.cell? ⟨w.heap.size, 2, none⟩ = some (.int .i64 0) ∧ W.cell? ⟨w.heap.size, 3, none⟩ = some (.bool false) ∧ W.cell? ⟨w.heap.size, 4, none⟩ = some (.slice none 0 0)) ∧
  (W.frozen? ⟨w.heap.size, 0, none⟩ = false ∧ W.frozen? ⟨w.heap.size, 1, none⟩ = false ∧ W.frozen? ⟨w.heap.size, 2, none⟩ = false ∧ W.frozen? ⟨w.heap.size, 3, none⟩ = false ∧ W.frozen? ⟨w.heap.size, 4, none⟩ = false) ∧
  CasesAt W cv cs ∧ Below w.heap.size w W ∧ w.heap.size < p ∧ p < W.heap.size

set_option maxRecDepth 100000 in
set_option maxHeartbeats 6400000 in
theorem readCall_no (b off cap : Nat) (l0 l1 l2 l3 l4 : Int) (cs0 : List C3) (w : World) (hb : b < w.heap.size) (hl : ∀ x ∈ [l0, l1, l2, l3, l4], 0 ≤ x ∧ x < 18446744073709551616)
    (c0 : w.cell? ⟨b, off, none⟩ = some (.int .u64 l0)) (c1 : w.cell? ⟨b, off + 1, none⟩ = some (.int .u64 l1)) (c2 : w.cell? ⟨b, off + 2, none⟩ = some (.int .u64 l2)) (c3 : w.cell? ⟨b, off + 3, none⟩ = some (.int .u64 l3)) (c4 : w.cell? ⟨b, off + 4, none⟩ = some (.int .u64 l4)) (hcap : 5 ≤ cap)
    (hcs : ((List.range (ncase l0)).map fun i => caseOf ([l1, l2, l3].getD i 0)) = cs0) (hq : ¬ callL (l0 % 256) (l0 / 65536 % 65536) (l0 / 4294967296) (l0 / 4096 % 2 == 1) cs0 (wrap64 l4) = [l0, l1, l2, l3, l4]) :
    Calls Try.prog 23 #[.slice (some ⟨b, off, none⟩) 5 cap] w (RetGot Got.none w) := by
  have g0 := hl l0 (by simp)
  have g1 := hl l1 (by simp)
  have g2 := hl l2 (by simp)
  have g3 := hl l3 (by simp)
  obtain ⟨g4, g5⟩ := hl l4 (by simp)
  have e1 : bits .and .u64 l0 255 = l0 % 256 := band 8 l0 255 rfl g0.1 g0.2 (by omega) (by omega)
  have e2 : bits .and .u64 (l0 / 65536) 65535 = l0 / 65536 % 65536 := band 16 _ 65535 rfl (by omega) (by omega) (by omega) (by omega)
  have e3 : bits .and .u64 (l0 / 4096) 1 = l0 / 4096 % 2 := band 1 _ 1 rfl (by omega) (by omega) (by omega) (by omega)
  have e4 : bits .and .u64 (l0 / 256) 15 = l0 / 256 % 16 := band 4 _ 15 rfl (by omega) (by omega) (by omega) (by omega)
  have w1 : IntKind.i64.wrap (l0 % 256) = l0 % 256 := IntWalk.i64_in _ (by omega)
  have w2 : IntKind.i64.wrap (l0 / 65536 % 65536) = l0 / 65536 % 65536 := IntWalk.i64_in _ (by omega)
  have w3 : IntKind.i64.wrap (l0 / 4294967296) = l0 / 4294967296 := IntWalk.i64_in _ (by omega)
  have w4 : IntKind.i64.wrap (l0 / 256 % 16) = l0 / 256 % 16 := IntWalk.i64_in _ (by omega)
  have hcap' : (4 : Int) ≤ (cap : Int) := by omega
  have hcne : ¬ cap = 1 := by omega
  have hbb1 : b < w.heap.size + 1 := by omega
  have hbb2 : b < w.heap.size + 1 + 1 := by omega
  have HL := Lib.hid (show WordsAt w (.slice (some ⟨b, off, none⟩) 5 cap) [l0, l1, l2, l3, l4] from .inr ⟨b, off, cap, rfl, hb, ⟨by simp, by simpa using hcap⟩, fun i hi => by
    match i, hi with | 0, _ => exact c0 | 1, _ => exact c1 | 2, _ => exact c2 | 3, _ => exact c3 | 4, _ => exact c4⟩)
  have HQ := Lib.hid hq
  have HR := Lib.hid (fun W (hW : Below w.heap.size w W) => readCases_any b (off + 1) (cap - 1) l0 (fun i => [l1, l2, l3].getD i 0) W (Nat.lt_of_lt_of_le hb hW.size)
    (fun i hi => by match i, hi with | 0, _ => exact g1 | 1, _ => exact g2 | 2, _ => exact g3)
    (fun i hi => by rw [(bcell hW).1 _ _ hb]; match i, hi with | 0, _ => exact c1 | 1, _ => exact c2 | 2, _ => exact c3))
  rw [hcs] at HR
  clear hl g0 g1 g2 g3 g4 g5 hcs hq
  go_enter Try.func23, Try.ntmps23
  go_wp2
  go_region_held3 (fun w' => w'.cell? ⟨b, off, none⟩ = some (.int .u64 l0))
    (first | (go_simp; done) | go_keep)
    ((go_at_call 36; (with_reducible refine (HR.out _ (by repeat' (first | with_reducible exact Below.refl _ _ | with_reducible refine Below.drew ?_ | with_reducible refine Below.alloc ?_ ?_ _ | (simp; done) | (simp; omega) | omega))).mono ?_); rintro e w1 ⟨cv, rfl, hcv, hb1, hfr⟩; obtain ⟨ca, cc, rfl⟩ := hcv.form; obtain ⟨hc1, hf1⟩ := bcell hb1; have hbz := lt_size (b := b) (by first | (simp; done) | (simp; omega)) hb1; have hwz := lt_size (b := w.heap.size) (by first | (simp; done) | (simp; omega)) hb1; have hbz' := Nat.lt_succ_of_lt hbz; have hwz' := Nat.lt_succ_of_lt hwz))
  all_goals go_wp2_with fail
  · rename_i hHeld _ _ _ _ _ _
    refine abstract_world (Held w w1.heap.size (l0 % 256) (l0 / 65536 % 65536) (l0 / 4294967296) (l0 / 4096 % 2 == 1) (.slice ca cs0.length cc) cs0) ?_ ?_
    · clear hHeld
      refine ⟨⟨?_, ?_, ?_, ?_, ?_⟩, ⟨?_, ?_, ?_, ?_, ?_⟩, ⟨?_, ?_, ?_, ?_, ?_⟩, hcv.below ((Below.refl _ _).alloc (Nat.le_refl _) _), ?_, hwz, ?_⟩
      all_goals first | (go_simp; done) | skip
      all_goals first | exact World.lt_alloc _ _ | exact Below.trans (Below.trans (((Below.refl _ _).alloc (Nat.le_refl _) _).drew) (hb1.mono (by simp))) ((Below.refl _ _).alloc (Nat.le_of_lt hwz) _)
    · intro W hW
      clear hHeld hcv hc1 hf1 hfr hb1
      obtain ⟨⟨t0, t1, t2, t3, t4⟩, ⟨z0, z1, z2, z3, z4⟩, ⟨y0, y1, y2, y3, y4⟩, hcW, hbW, hpw, hpW⟩ := hW
      have HBW := Lib.hid hbW
      have hwW : w.heap.size < W.heap.size := Nat.lt_trans hpw hpW
      refine (call_any _ _ _ _ _ W hcW).mono ?_
      rintro e w2 ⟨lv, rfl, hlv, hb2⟩
      obtain ⟨hc2, hf2⟩ := bcell hb2
      have HE := Lib.hid (equal_any w2 hlv (HL.out.below (HBW.out.trans (hb2.mono (Nat.le_of_lt hwW)))))
      have u0 := (hc2 _ 0 hpW).trans t0
      have u1 := (hc2 _ 1 hpW).trans t1
      have u2 := (hc2 _ 2 hpW).trans t2
      have u3 := (hc2 _ 3 hpW).trans t3
      have u4 := (hc2 _ 4 hpW).trans t4
      have x0 := (hc2 _ 0 hwW).trans z0
      have x1 := (hc2 _ 1 hwW).trans z1
      have x2 := (hc2 _ 2 hwW).trans z2
      have x3 := (hc2 _ 3 hwW).trans z3
      have x4 := (hc2 _ 4 hwW).trans z4
      have v0 := (hf2 _ 0 hwW).trans y0
      have v1 := (hf2 _ 1 hwW).trans y1
      have v2 := (hf2 _ 2 hwW).trans y2
      have v3 := (hf2 _ 3 hwW).trans y3
      have v4 := (hf2 _ 4 hwW).trans y4
      have HC2 := Lib.hid (hcW.below hb2)
      have HB2 := Lib.hid (HBW.out.trans (hb2.mono (Nat.le_of_lt hwW)))
      have hsz2 := hb2.size
      clear t0 t1 t2 t3 t4 z0 z1 z2 z3 z4 y0 y1 y2 y3 y4 hcW hbW hc2 hf2 hlv hb2
      go_wp2_with (go_at_call 37; (with_reducible refine HE.out.mono ?_); rintro e w3 ⟨rfl, q, rfl⟩; rw [decide_eq_false HQ.out])
      refine bodyPost_ret (v := .tuple #[.agg #[.int .i64 0, .int .i64 0, .int .i64 0, .bool false, .slice none 0 0], .int .i64 0, .bool false]) (by simp [results, Try.results23, go_sem, x0, x1, x2, x3, x4]) rfl ⟨_, rfl, .inl ⟨rfl, _, _, rfl⟩, ?_⟩
      repeat' (first | with_reducible refine Below.setCell ?_ ?_ _ | exact below_drewN HB2.out _ | omega | (simp; done))
  · rename_i hHeld _ _ _ _ _ _
    refine abstract_world (Held w (w.heap.size + 1) (l0 % 256) (l0 / 65536 % 65536) (l0 / 4294967296) (l0 / 4096 % 2 == 1) (.slice ca cs0.length cc) cs0) ?_ ?_
    · clear hHeld
      have hfar : (Value.slice ca cs0.length cc).ownBlock ≠ some (w.heap.size + 1) := fun e => by have := hfr _ e; simp at this; omega
      have hw1z := lt_size (b := w.heap.size + 1) (by simp) hb1
      refine ⟨⟨?_, ?_, ?_, ?_, ?_⟩, ⟨?_, ?_, ?_, ?_, ?_⟩, ⟨?_, ?_, ?_, ?_, ?_⟩, ?_, ?_, Nat.lt_succ_self _, ?_⟩
      all_goals first | (go_simp; done) | skip
      · repeat (refine CasesAt.setFar ?_ hfar _ _)
        exact hcv
      · refine Below.trans (((((Below.refl _ _).alloc (Nat.le_refl _) _).alloc (by simp) _).drew).trans (hb1.mono (by simp; omega))) ?_
        repeat' (first | with_reducible exact Below.refl _ _ | with_reducible refine Below.setCell ?_ ?_ _ | (simp; done) | omega)
    · intro W hW
      clear hHeld hcv hc1 hf1 hfr hb1
      obtain ⟨⟨t0, t1, t2, t3, t4⟩, ⟨z0, z1, z2, z3, z4⟩, ⟨y0, y1, y2, y3, y4⟩, hcW, hbW, hpw, hpW⟩ := hW
      have HBW := Lib.hid hbW
      have hwW : w.heap.size < W.heap.size := Nat.lt_trans hpw hpW
      refine (call_any _ _ _ _ _ W hcW).mono ?_
      rintro e w2 ⟨lv, rfl, hlv, hb2⟩
      obtain ⟨hc2, hf2⟩ := bcell hb2
      have HE := Lib.hid (equal_any w2 hlv (HL.out.below (HBW.out.trans (hb2.mono (Nat.le_of_lt hwW)))))
      have u0 := (hc2 _ 0 hpW).trans t0
      have u1 := (hc2 _ 1 hpW).trans t1
      have u2 := (hc2 _ 2 hpW).trans t2
      have u3 := (hc2 _ 3 hpW).trans t3
      have u4 := (hc2 _ 4 hpW).trans t4
      have x0 := (hc2 _ 0 hwW).trans z0
      have x1 := (hc2 _ 1 hwW).trans z1
      have x2 := (hc2 _ 2 hwW).trans z2
      have x3 := (hc2 _ 3 hwW).trans z3
      have x4 := (hc2 _ 4 hwW).trans z4
      have v0 := (hf2 _ 0 hwW).trans y0
      have v1 := (hf2 _ 1 hwW).trans y1
      have v2 := (hf2 _ 2 hwW).trans y2
      have v3 := (hf2 _ 3 hwW).trans y3
      have v4 := (hf2 _ 4 hwW).trans y4
      have HC2 := Lib.hid (hcW.below hb2)
      have HB2 := Lib.hid (HBW.out.trans (hb2.mono (Nat.le_of_lt hwW)))
      have hsz2 := hb2.size
      clear t0 t1 t2 t3 t4 z0 z1 z2 z3 z4 y0 y1 y2 y3 y4 hcW hbW hc2 hf2 hlv hb2
      go_wp2_with (go_at_call 37; (with_reducible refine HE.out.mono ?_); rintro e w3 ⟨rfl, q, rfl⟩; rw [decide_eq_false HQ.out])
      refine bodyPost_ret (v := .tuple #[.agg #[.int .i64 0, .int .i64 0, .int .i64 0, .bool false, .slice none 0 0], .int .i64 0, .bool false]) (by simp [results, Try.results23, go_sem, x0, x1, x2, x3, x4]) rfl ⟨_, rfl, .inl ⟨rfl, _, _, rfl⟩, ?_⟩
      repeat' (first | with_reducible refine Below.setCell ?_ ?_ _ | exact below_drewN HB2.out _ | omega | (simp; done))

set_option maxRecDepth 100000 in
set_option maxHeartbeats 6400000 in
theorem readCall_yes (b off cap : Nat) (l0 l1 l2 l3 l4 : Int) (cs0 : List C3) (w : World) (hb : b < w.heap.size) (hl : ∀ x ∈ [l0, l1, l2, l3, l4], 0 ≤ x ∧ x < 18446744073709551616)
    (c0 : w.cell? ⟨b, off, none⟩ = some (.int .u64 l0)) (c1 : w.cell? ⟨b, off + 1, none⟩ = some (.int .u64 l1)) (c2 : w.cell? ⟨b, off + 2, none⟩ = some (.int .u64 l2)) (c3 : w.cell? ⟨b, off + 3, none⟩ = some (.int .u64 l3)) (c4 : w.cell? ⟨b, off + 4, none⟩ = some (.int .u64 l4)) (hcap : 5 ≤ cap)
    (hcs : ((List.range (ncase l0)).map fun i => caseOf ([l1, l2, l3].getD i 0)) = cs0) (hq : callL (l0 % 256) (l0 / 65536 % 65536) (l0 / 4294967296) (l0 / 4096 % 2 == 1) cs0 (wrap64 l4) = [l0, l1, l2, l3, l4]) :
    Calls Try.prog 23 #[.slice (some ⟨b, off, none⟩) 5 cap] w (RetGot ⟨l0 % 256, l0 / 65536 % 65536, l0 / 4294967296, l0 / 4096 % 2 == 1, cs0, wrap64 l4, true⟩ w) := by
  have g0 := hl l0 (by simp)
  have g1 := hl l1 (by simp)
  have g2 := hl l2 (by simp)
  have g3 := hl l3 (by simp)
  obtain ⟨g4, g5⟩ := hl l4 (by simp)
  have e1 : bits .and .u64 l0 255 = l0 % 256 := band 8 l0 255 rfl g0.1 g0.2 (by omega) (by omega)
  have e2 : bits .and .u64 (l0 / 65536) 65535 = l0 / 65536 % 65536 := band 16 _ 65535 rfl (by omega) (by omega) (by omega) (by omega)
  have e3 : bits .and .u64 (l0 / 4096) 1 = l0 / 4096 % 2 := band 1 _ 1 rfl (by omega) (by omega) (by omega) (by omega)
  have e4 : bits .and .u64 (l0 / 256) 15 = l0 / 256 % 16 := band 4 _ 15 rfl (by omega) (by omega) (by omega) (by omega)
  have w1 : IntKind.i64.wrap (l0 % 256) = l0 % 256 := IntWalk.i64_in _ (by omega)
  have w2 : IntKind.i64.wrap (l0 / 65536 % 65536) = l0 / 65536 % 65536 := IntWalk.i64_in _ (by omega)
  have w3 : IntKind.i64.wrap (l0 / 4294967296) = l0 / 4294967296 := IntWalk.i64_in _ (by omega)
  have w4 : IntKind.i64.wrap (l0 / 256 % 16) = l0 / 256 % 16 := IntWalk.i64_in _ (by omega)
  have hcap' : (4 : Int) ≤ (cap : Int) := by omega
  have hcne : ¬ cap = 1 := by omega
  have hbb1 : b < w.heap.size + 1 := by omega
  have hbb2 : b < w.heap.size + 1 + 1 := by omega
  have HL := Lib.hid (show WordsAt w (.slice (some ⟨b, off, none⟩) 5 cap) [l0, l1, l2, l3, l4] from .inr ⟨b, off, cap, rfl, hb, ⟨by simp, by simpa using hcap⟩, fun i hi => by
    match i, hi with | 0, _ => exact c0 | 1, _ => exact c1 | 2, _ => exact c2 | 3, _ => exact c3 | 4, _ => exact c4⟩)
  have HQ := Lib.hid hq
  have HR := Lib.hid (fun W (hW : Below w.heap.size w W) => readCases_any b (off + 1) (cap - 1) l0 (fun i => [l1, l2, l3].getD i 0) W (Nat.lt_of_lt_of_le hb hW.size)
    (fun i hi => by match i, hi with | 0, _ => exact g1 | 1, _ => exact g2 | 2, _ => exact g3)
    (fun i hi => by rw [(bcell hW).1 _ _ hb]; match i, hi with | 0, _ => exact c1 | 1, _ => exact c2 | 2, _ => exact c3))
  rw [hcs] at HR
  clear hl g0 g1 g2 g3 g4 g5 hcs hq
  go_enter Try.func23, Try.ntmps23
  go_wp2
  go_region_held3 (fun w' => w'.cell? ⟨b, off, none⟩ = some (.int .u64 l0))
    (first | (go_simp; done) | go_keep)
    ((go_at_call 36; (with_reducible refine (HR.out _ (by repeat' (first | with_reducible exact Below.refl _ _ | with_reducible refine Below.drew ?_ | with_reducible refine Below.alloc ?_ ?_ _ | (simp; done) | (simp; omega) | omega))).mono ?_); rintro e w1 ⟨cv, rfl, hcv, hb1, hfr⟩; obtain ⟨ca, cc, rfl⟩ := hcv.form; obtain ⟨hc1, hf1⟩ := bcell hb1; have hbz := lt_size (b := b) (by first | (simp; done) | (simp; omega)) hb1; have hwz := lt_size (b := w.heap.size) (by first | (simp; done) | (simp; omega)) hb1; have hbz' := Nat.lt_succ_of_lt hbz; have hwz' := Nat.lt_succ_of_lt hwz))
  all_goals go_wp2_with fail
  · rename_i hHeld _ _ _ _ _ _
    refine abstract_world (Held w w1.heap.size (l0 % 256) (l0 / 65536 % 65536) (l0 / 4294967296) (l0 / 4096 % 2 == 1) (.slice ca cs0.length cc) cs0) ?_ ?_
    · clear hHeld
      refine ⟨⟨?_, ?_, ?_, ?_, ?_⟩, ⟨?_, ?_, ?_, ?_, ?_⟩, ⟨?_, ?_, ?_, ?_, ?_⟩, hcv.below ((Below.refl _ _).alloc (Nat.le_refl _) _), ?_, hwz, ?_⟩
      all_goals first | (go_simp; done) | skip
      all_goals first | exact World.lt_alloc _ _ | exact Below.trans (Below.trans (((Below.refl _ _).alloc (Nat.le_refl _) _).drew) (hb1.mono (by simp))) ((Below.refl _ _).alloc (Nat.le_of_lt hwz) _)
    · intro W hW
      have hfar0 : (Value.slice ca cs0.length cc).ownBlock ≠ some w.heap.size := fun e => by have := hfr _ e; simp at this; omega
      clear hHeld hcv hc1 hf1 hfr hb1
      obtain ⟨⟨t0, t1, t2, t3, t4⟩, ⟨z0, z1, z2, z3, z4⟩, ⟨y0, y1, y2, y3, y4⟩, hcW, hbW, hpw, hpW⟩ := hW
      have HBW := Lib.hid hbW
      have hwW : w.heap.size < W.heap.size := Nat.lt_trans hpw hpW
      refine (call_any _ _ _ _ _ W hcW).mono ?_
      rintro e w2 ⟨lv, rfl, hlv, hb2⟩
      obtain ⟨hc2, hf2⟩ := bcell hb2
      have HE := Lib.hid (equal_any w2 hlv (HL.out.below (HBW.out.trans (hb2.mono (Nat.le_of_lt hwW)))))
      have u0 := (hc2 _ 0 hpW).trans t0
      have u1 := (hc2 _ 1 hpW).trans t1
      have u2 := (hc2 _ 2 hpW).trans t2
      have u3 := (hc2 _ 3 hpW).trans t3
      have u4 := (hc2 _ 4 hpW).trans t4
      have x0 := (hc2 _ 0 hwW).trans z0
      have x1 := (hc2 _ 1 hwW).trans z1
      have x2 := (hc2 _ 2 hwW).trans z2
      have x3 := (hc2 _ 3 hwW).trans z3
      have x4 := (hc2 _ 4 hwW).trans z4
      have v0 := (hf2 _ 0 hwW).trans y0
      have v1 := (hf2 _ 1 hwW).trans y1
      have v2 := (hf2 _ 2 hwW).trans y2
      have v3 := (hf2 _ 3 hwW).trans y3
      have v4 := (hf2 _ 4 hwW).trans y4
      have HC2 := Lib.hid (hcW.below hb2)
      have HB2 := Lib.hid (HBW.out.trans (hb2.mono (Nat.le_of_lt hwW)))
      have hsz2 := hb2.size
      clear t0 t1 t2 t3 t4 z0 z1 z2 z3 z4 y0 y1 y2 y3 y4 hcW hbW hc2 hf2 hlv hb2
      go_wp2_with (go_at_call 37; (with_reducible refine HE.out.mono ?_); rintro e w3 ⟨rfl, q, rfl⟩; rw [decide_eq_true HQ.out])
      refine bodyPost_ret (v := .tuple #[.agg #[.int .i64 (l0 % 256), .int .i64 (l0 / 65536 % 65536), .int .i64 (l0 / 4294967296), .bool (l0 / 4096 % 2 == 1), .slice ca cs0.length cc], .int .i64 (wrap64 l4), .bool true]) (by simp [results, Try.results23, go_sem, x0, x1, x2, x3, x4]) rfl ⟨_, rfl, ?_, ?_⟩
      · repeat (refine CasesAt.setFar ?_ hfar0 _ _)
        exact CasesAt.drewN HC2.out q
      · repeat' (first | with_reducible refine Below.setCell ?_ ?_ _ | exact below_drewN HB2.out _ | omega | (simp; done))
  · rename_i hHeld _ _ _ _ _ _
    refine abstract_world (Held w (w.heap.size + 1) (l0 % 256) (l0 / 65536 % 65536) (l0 / 4294967296) (l0 / 4096 % 2 == 1) (.slice ca cs0.length cc) cs0) ?_ ?_
    · clear hHeld
      have hfar : (Value.slice ca cs0.length cc).ownBlock ≠ some (w.heap.size + 1) := fun e => by have := hfr _ e; simp at this; omega
      have hw1z := lt_size (b := w.heap.size + 1) (by simp) hb1
      refine ⟨⟨?_, ?_, ?_, ?_, ?_⟩, ⟨?_, ?_, ?_, ?_, ?_⟩, ⟨?_, ?_, ?_, ?_, ?_⟩, ?_, ?_, Nat.lt_succ_self _, ?_⟩
      all_goals first | (go_simp; done) | skip
      · repeat (refine CasesAt.setFar ?_ hfar _ _)
        exact hcv
      · refine Below.trans (((((Below.refl _ _).alloc (Nat.le_refl _) _).alloc (by simp) _).drew).trans (hb1.mono (by simp; omega))) ?_
        repeat' (first | with_reducible exact Below.refl _ _ | with_reducible refine Below.setCell ?_ ?_ _ | (simp; done) | omega)
    · intro W hW
      have hfar0 : (Value.slice ca cs0.length cc).ownBlock ≠ some w.heap.size := fun e => by have := hfr _ e; simp at this; omega
      clear hHeld hcv hc1 hf1 hfr hb1
      obtain ⟨⟨t0, t1, t2, t3, t4⟩, ⟨z0, z1, z2, z3, z4⟩, ⟨y0, y1, y2, y3, y4⟩, hcW, hbW, hpw, hpW⟩ := hW
      have HBW := Lib.hid hbW
      have hwW : w.heap.size < W.heap.size := Nat.lt_trans hpw hpW
      refine (call_any _ _ _ _ _ W hcW).mono ?_
      rintro e w2 ⟨lv, rfl, hlv, hb2⟩
      obtain ⟨hc2, hf2⟩ := bcell hb2
      have HE := Lib.hid (equal_any w2 hlv (HL.out.below (HBW.out.trans (hb2.mono (Nat.le_of_lt hwW)))))
      have u0 := (hc2 _ 0 hpW).trans t0
      have u1 := (hc2 _ 1 hpW).trans t1
      have u2 := (hc2 _ 2 hpW).trans t2
      have u3 := (hc2 _ 3 hpW).trans t3
      have u4 := (hc2 _ 4 hpW).trans t4
      have x0 := (hc2 _ 0 hwW).trans z0
      have x1 := (hc2 _ 1 hwW).trans z1
      have x2 := (hc2 _ 2 hwW).trans z2
      have x3 := (hc2 _ 3 hwW).trans z3
      have x4 := (hc2 _ 4 hwW).trans z4
      have v0 := (hf2 _ 0 hwW).trans y0
      have v1 := (hf2 _ 1 hwW).trans y1
      have v2 := (hf2 _ 2 hwW).trans y2
      have v3 := (hf2 _ 3 hwW).trans y3
      have v4 := (hf2 _ 4 hwW).trans y4
      have HC2 := Lib.hid (hcW.below hb2)
      have HB2 := Lib.hid (HBW.out.trans (hb2.mono (Nat.le_of_lt hwW)))
      have hsz2 := hb2.size
      clear t0 t1 t2 t3 t4 z0 z1 z2 z3 z4 y0 y1 y2 y3 y4 hcW hbW hc2 hf2 hlv hb2
      go_wp2_with (go_at_call 37; (with_reducible refine HE.out.mono ?_); rintro e w3 ⟨rfl, q, rfl⟩; rw [decide_eq_true HQ.out])
      refine bodyPost_ret (v := .tuple #[.agg #[.int .i64 (l0 % 256), .int .i64 (l0 / 65536 % 65536), .int .i64 (l0 / 4294967296), .bool (l0 / 4096 % 2 == 1), .slice ca cs0.length cc], .int .i64 (wrap64 l4), .bool true]) (by simp [results, Try.results23, go_sem, x0, x1, x2, x3, x4]) rfl ⟨_, rfl, ?_, ?_⟩
      · repeat (refine CasesAt.setFar ?_ hfar0 _ _)
        exact CasesAt.drewN HC2.out q
      · repeat' (first | with_reducible refine Below.setCell ?_ ?_ _ | exact below_drewN HB2.out _ | omega | (simp; done))

end Go.Proofs.Ytcbdbpcibhjkjab
