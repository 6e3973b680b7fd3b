/- Needs and the reference's; the document's example for layer 6, over the seat's program. -/
import Derived.Test.YtdfbddepeacebaaRtV
namespace Go.Proofs.Ytdfbddepeacebaa
open Go.ChangeShapes Go.WideShapes Go.ChangeAt Go.RowKit Go.Joins

/-- Is a pool looked through? -/
def needsB (P : PV) (limit : Int) : Bool := decide (0 < P.no) && (decide (limit ≤ (P.no : Int)) || (decide (P.t = 0) && decide (P.nf = 0)))

set_option maxRecDepth 100000 in
set_option maxHeartbeats 1600000 in
theorem needs_any (v : Value) (P : PV) (limit : Int) (w : World) (h : PoolAt w v P) : Calls Try.prog 19 #[v, .int .i64 limit] w fun e w' => e = .returned (.bool (needsB P limit)) ∧ Below w.heap.size w w' := by
  have HP := Lib.hid (fun W hb => (h.below hb : PoolAt W v P))
  obtain ⟨fa, fc, oa, oc, rfl, _, _⟩ := h
  have HA := Lib.hid (show Below w.heap.size w (w.alloc (.cells #[.int .i64 P.i, .int .i64 P.t, .slice fa P.nf fc, .slice oa P.no oc, .int .i64 P.s] 27)) from (Below.refl _ _).alloc (Nat.le_refl _) _)
  by_cases h0 : P.no = 0
  · have HN := Lib.hid (show needsB P limit = false by simp [needsB, h0])
    obtain ⟨pi, pt, nf, ff, no, fo, ps⟩ := P
    dsimp only at *
    subst h0
    rw [HN.out]
    go_enter Try.func19, Try.ntmps19
    go_wp2
    go_ret
    exact ⟨rfl, HA.out⟩
  · have j1 : (0 : Int) < (P.no : Int) := by omega
    have j2 : ((P.no : Int) == 0) = false := by simp; omega
    by_cases hl : limit ≤ (P.no : Int)
    · have HN := Lib.hid (show needsB P limit = true by simp [needsB, hl]; omega)
      clear h0
      rw [HN.out]
      go_enter Try.func19, Try.ntmps19
      go_wp2
      go_ret
      exact ⟨rfl, HA.out⟩
    · have HN := Lib.hid (show needsB P limit = (decide (P.t = 0) && decide (P.nf = 0)) by simp [needsB, hl]; omega)
      clear h0
      rw [HN.out]
      by_cases ht : P.t = 0
      · by_cases hn : P.nf = 0
        · have hw : P.why != 0 := by simp [PV.why, ht, hn]; split <;> decide
          have e1 : (P.why == 0) = false := by simpa using hw
          have HT := Lib.hid (And.intro ht hn)
          clear ht hn
          go_enter Try.func19, Try.ntmps19
          go_wp2_with (go_at_call 32; (with_reducible refine (why_any _ P _ (HP.out _ HA.out)).mono ?_); rintro e w1 ⟨rfl, hb⟩; have HB := Lib.hid (HA.out.trans (hb.mono HA.out.size)); clear hb)
          go_ret
          exact ⟨ret_bool (by simp [HT.out.1, HT.out.2]), HB.out⟩
        · have hw : P.why = 0 := by simp [PV.why, hn]
          have e1 : (P.why == 0) = true := by simpa using hw
          have HT := Lib.hid hn
          clear ht hn
          go_enter Try.func19, Try.ntmps19
          go_wp2_with (go_at_call 32; (with_reducible refine (why_any _ P _ (HP.out _ HA.out)).mono ?_); rintro e w1 ⟨rfl, hb⟩; have HB := Lib.hid (HA.out.trans (hb.mono HA.out.size)); clear hb)
          go_ret
          exact ⟨ret_bool (by simp [HT.out]), HB.out⟩
      · have hw : P.why = 0 := by simp [PV.why, ht]
        have e1 : (P.why == 0) = true := by simpa using hw
        have HT := Lib.hid ht
        clear ht
        go_enter Try.func19, Try.ntmps19
        go_wp2_with (go_at_call 32; (with_reducible refine (why_any _ P _ (HP.out _ HA.out)).mono ?_); rintro e w1 ⟨rfl, hb⟩; have HB := Lib.hid (HA.out.trans (hb.mono HA.out.size)); clear hb)
        go_ret
        exact ⟨ret_bool (by simp [HT.out]), HB.out⟩

set_option maxRecDepth 100000 in
set_option maxHeartbeats 1600000 in
theorem rneeds_any (v : Value) (P : PV) (limit : Int) (w : World) (h : PoolAt w v P) : Calls Try.prog 20 #[v, .int .i64 limit] w fun e w' => e = .returned (.bool (needsB P limit)) ∧ Below w.heap.size w w' := by
  have HP := Lib.hid (fun W hb => (h.below hb : PoolAt W v P))
  obtain ⟨fa, fc, oa, oc, rfl, _, _⟩ := h
  have HA := Lib.hid (show Below w.heap.size w (w.alloc (.cells #[.int .i64 P.i, .int .i64 P.t, .slice fa P.nf fc, .slice oa P.no oc, .int .i64 P.s] 27)) from (Below.refl _ _).alloc (Nat.le_refl _) _)
  by_cases h0 : P.no = 0
  · have HN := Lib.hid (show needsB P limit = false by simp [needsB, h0])
    obtain ⟨pi, pt, nf, ff, no, fo, ps⟩ := P
    dsimp only at *
    subst h0
    rw [HN.out]
    go_enter Try.func20, Try.ntmps20
    go_wp2
    go_ret
    exact ⟨rfl, HA.out⟩
  · have j1 : (0 : Int) < (P.no : Int) := by omega
    have j2 : ((P.no : Int) == 0) = false := by simp; omega
    by_cases hl : limit ≤ (P.no : Int)
    · have HN := Lib.hid (show needsB P limit = true by simp [needsB, hl]; omega)
      clear h0
      rw [HN.out]
      go_enter Try.func20, Try.ntmps20
      go_wp2
      go_ret
      exact ⟨rfl, HA.out⟩
    · have HN := Lib.hid (show needsB P limit = (decide (P.t = 0) && decide (P.nf = 0)) by simp [needsB, hl]; omega)
      clear h0
      rw [HN.out]
      by_cases ht : P.t = 0
      · by_cases hn : P.nf = 0
        · have e1 : (P.t == 0) = true := by simp [ht]
          have e2 : ((P.nf : Int) == 0) = true := by simp; omega
          have HT := Lib.hid (And.intro ht hn)
          clear ht hn
          go_enter Try.func20, Try.ntmps20
          go_wp2
          go_ret
          exact ⟨ret_bool (by simp [HT.out.1, HT.out.2]), HA.out⟩
        · have e1 : (P.t == 0) = true := by simp [ht]
          have e2 : ((P.nf : Int) == 0) = false := by simp; omega
          have HT := Lib.hid hn
          clear ht hn
          go_enter Try.func20, Try.ntmps20
          go_wp2
          go_ret
          exact ⟨ret_bool (by simp [HT.out]), HA.out⟩
      · have e1 : (P.t == 0) = false := by simp [ht]
        
        have HT := Lib.hid ht
        clear ht
        go_enter Try.func20, Try.ntmps20
        go_wp2
        go_ret
        exact ⟨ret_bool (by simp [HT.out]), HA.out⟩
def exP : PV := ⟨0, 0, 0, fun _ _ => 0, 2, fun i j => if i = 0 then (if j = 2 then 3 else 1) else (if j = 0 then 2 else if j = 1 then 1 else 4), 0⟩
def exF : Nat → Int := fun i => if i = 0 then 0 else 65538

theorem byE_ex (v : Value) (w : World) (h : PoolAt w v exP) : Calls Try.prog 8 #[v, .int .i64 5] w fun e w' => ∃ fa fc b off oc, e = .returned (.tuple #[.agg #[.int .i64 0, .int .i64 0, .slice fa 1 fc, .slice (some ⟨b, off, none⟩) 1 oc, .int .i64 0], .int .i64 1]) ∧ w'.cell? ⟨b, off + 2, none⟩ = some (.int .i64 4) ∧ 1 ≤ oc ∧ b < w'.heap.size ∧ Below w.heap.size w w' := by
  refine (byE_any v exP 5 (by decide) (fun k hk => match k, (show k < 2 from hk) with | 0, _ => (show (3 : Int) ≤ _ by decide) | 1, _ => (show (4 : Int) ≤ _ by decide)) (by decide) w h).mono ?_
  rintro e w1 ⟨fv, ov, rfl, ho, hb⟩
  obtain ⟨fa, fc, oa, oc, hv, hf, hro⟩ := ho.at (by decide +kernel) (by decide +kernel)
  obtain ⟨b, off, rfl, hbb, hcc⟩ := hro.get (k := 0) (by decide +kernel)
  obtain rfl : fv = .slice fa 1 fc := by
    simp only [Value.agg.injEq] at hv
    have := congrArg (fun x => x[2]?) hv
    simpa [show (exP.byE 5).nf = 1 by decide +kernel] using this
  obtain rfl : ov = .slice (some ⟨b, off, none⟩) 1 oc := by
    simp only [Value.agg.injEq] at hv
    have := congrArg (fun x => x[3]?) hv
    simpa [show (exP.byE 5).no = 1 by decide +kernel] using this
  have h0 := hcc 0 2 (by decide +kernel) (by decide)
  rw [show (exP.byE 5).fo 0 2 = 4 by decide +kernel] at h0
  exact ⟨fa, fc, b, off, oc, rfl, by simpa using h0, (by have := hro.2.2.1; rw [show (exP.byE 5).no = 1 by decide +kernel] at this; exact this), hbb, hb⟩

theorem byS_ex (v : Value) (a : Option Addr) (cap : Nat) (w : World) (h : PoolAt w v exP) (hr : RowAt .u64 w a 2 cap exF) : Calls Try.prog 14 #[v, .slice a 2 cap] w fun e w' => ∃ fa fc b off oc, e = .returned (.tuple #[.agg #[.int .i64 0, .int .i64 0, .slice fa 1 fc, .slice (some ⟨b, off, none⟩) 1 oc, .int .i64 0], .int .i64 1]) ∧ w'.cell? ⟨b, off, none⟩ = some (.int .i64 1) ∧ 1 ≤ oc ∧ b < w'.heap.size ∧ Below w.heap.size w w' := by
  refine (byS_any v exP a 2 cap exF (fun i hi => match i, hi with | 0, _ => (by decide) | 1, _ => (by decide)) (by decide) w h hr).mono ?_
  rintro e w1 ⟨fv, ov, rfl, ho, hb⟩
  obtain ⟨fa, fc, oa, oc, hv, hf, hro⟩ := ho.at (by decide +kernel) (by decide +kernel)
  obtain ⟨b, off, rfl, hbb, hcc⟩ := hro.get (k := 0) (by decide +kernel)
  obtain rfl : fv = .slice fa 1 fc := by
    simp only [Value.agg.injEq] at hv
    have := congrArg (fun x => x[2]?) hv
    simpa [show (exP.byS exF 2).nf = 1 by decide +kernel] using this
  obtain rfl : ov = .slice (some ⟨b, off, none⟩) 1 oc := by
    simp only [Value.agg.injEq] at hv
    have := congrArg (fun x => x[3]?) hv
    simpa [show (exP.byS exF 2).no = 1 by decide +kernel] using this
  have h0 := hcc 0 0 (by decide +kernel) (by decide)
  rw [show (exP.byS exF 2).fo 0 0 = 1 by decide +kernel] at h0
  exact ⟨fa, fc, b, off, oc, rfl, by simpa using h0, (by have := hro.2.2.1; rw [show (exP.byS exF 2).no = 1 by decide +kernel] at this; exact this), hbb, hb⟩
theorem row_two (w : World) (x y : Int) (f : Nat → Int) (h0 : f 0 = x) (h1 : f 1 = y) (T : TypeId) : RowAt .u64 (w.alloc (.cells #[.int .u64 x, .int .u64 y] T)) (some ⟨w.heap.size, 0, none⟩) 2 2 f := by
  refine ⟨by decide, (fun h => by cases h), fun _ => ⟨w.heap.size, 0, rfl, by simp, fun i hi => ?_⟩⟩
  rw [Nat.zero_add, cell_of_row _ _ _ _ T (0, 0) (heap_alloc_new w _)]
  match i, hi with
  | 0, _ => rw [h0]; rfl
  | 1, _ => rw [h1]; rfl
theorem ex_pool (w : World) : PoolAt ((w.alloc (.cells #[.int .i64 1, .int .i64 1, .int .i64 3, .int .i64 2, .int .i64 1, .int .i64 4] 44)).alloc (.cells #[.int .i64 0, .int .i64 0, .slice none 0 0, .slice (some ⟨w.heap.size, 0, none⟩) 2 2, .int .i64 0] 27)) (.agg #[.int .i64 0, .int .i64 0, .slice none 0 0, .slice (some ⟨w.heap.size, 0, none⟩) 2 2, .int .i64 0]) exP := by
  refine ⟨none, 0, some ⟨w.heap.size, 0, none⟩, 2, rfl, RowS.nil rfl rfl, by decide, (fun h => by cases h), Nat.le_refl _, fun _ => ⟨w.heap.size, 0, rfl, by simp; omega, fun i j hi hj => ?_⟩⟩
  have hi : i < 2 := hi
  have hb : Below (w.alloc (.cells #[.int .i64 1, .int .i64 1, .int .i64 3, .int .i64 2, .int .i64 1, .int .i64 4] 44)).heap.size (w.alloc (.cells #[.int .i64 1, .int .i64 1, .int .i64 3, .int .i64 2, .int .i64 1, .int .i64 4] 44)) ((w.alloc (.cells #[.int .i64 1, .int .i64 1, .int .i64 3, .int .i64 2, .int .i64 1, .int .i64 4] 44)).alloc (.cells #[.int .i64 0, .int .i64 0, .slice none 0 0, .slice (some ⟨w.heap.size, 0, none⟩) 2 2, .int .i64 0] 27)) := (Below.refl _ _).alloc (Nat.le_refl _) _
  rw [(bcell hb).1 _ _ (by simp), Nat.zero_add, cell_of_row _ _ _ _ 44 (0, 0) (heap_alloc_new w _)]
  match i, hi, j, hj with
  | 0, _, 0, _ => rfl
  | 0, _, 1, _ => rfl
  | 0, _, 2, _ => rfl
  | 1, _, 0, _ => rfl
  | 1, _, 1, _ => rfl
  | 1, _, 2, _ => rfl
set_option maxRecDepth 100000 in
set_option maxHeartbeats 3200000 in
theorem awake_any (w : World) : Calls Try.prog 13 #[] w fun e w' => e = .returned (.bool true) ∧ Below w.heap.size w w' := by
  have HB0 := Lib.hid (show Below w.heap.size w ((w.alloc (.cells #[.int .i64 1, .int .i64 1, .int .i64 3, .int .i64 2, .int .i64 1, .int .i64 4] 44)).alloc (.cells #[.int .i64 0, .int .i64 0, .slice none 0 0, .slice (some ⟨w.heap.size, 0, none⟩) 2 2, .int .i64 0] 27)) from ((Below.refl _ _).alloc (Nat.le_refl _) _).alloc (by simp) _)
  have HX := Lib.hid (show Box ((w.alloc (.cells #[.int .i64 1, .int .i64 1, .int .i64 3, .int .i64 2, .int .i64 1, .int .i64 4] 44)).alloc (.cells #[.int .i64 0, .int .i64 0, .slice none 0 0, .slice (some ⟨w.heap.size, 0, none⟩) 2 2, .int .i64 0] 27)) (w.heap.size + 1) (.int .i64 0) (.int .i64 0) (.slice none 0 0) (.slice (some ⟨w.heap.size, 0, none⟩) 2 2) (.int .i64 0) from by have := Box.new (a := .int .i64 0) (b := .int .i64 0) (c := .slice none 0 0) (d := .slice (some ⟨w.heap.size, 0, none⟩) 2 2) (e := .int .i64 0) (w.alloc (.cells #[.int .i64 1, .int .i64 1, .int .i64 3, .int .i64 2, .int .i64 1, .int .i64 4] 44)) 27; simpa using this)
  go_enter Try.func13, Try.ntmps13
  go_upto_region 2 with (fail)
  refine abstract_code (fun u => Box u (w.heap.size + 1) (.int .i64 0) (.int .i64 0) (.slice none 0 0) (.slice (some ⟨w.heap.size, 0, none⟩) 2 2) (.int .i64 0) ∧ PoolAt u (.agg #[.int .i64 0, .int .i64 0, .slice none 0 0, .slice (some ⟨w.heap.size, 0, none⟩) 2 2, .int .i64 0]) exP ∧ Below w.heap.size w u ∧ w.heap.size + 1 < u.heap.size) ⟨HX.out, ex_pool w, HB0.out, by simp⟩ ?_
  clear HX HB0
  rintro u ⟨hx, hp, hb, hz⟩
  have HX := Lib.hid hx
  have HB := Lib.hid hb
  have HP := Lib.hid (fun W (hb : Below u.heap.size u W) => (hp.below hb : PoolAt W _ exP))
  clear hb hp
  generalize hq : w.heap.size = p at *
  have HPP := Lib.hid hq
  clear hq
  obtain ⟨c0, c1, c2, c3, c4, cf⟩ := hx
  clear cf
  go_wp2_with (first
    | (go_at_call 8; (with_reducible refine (byE_ex _ _ (HP.out _ (Below.refl _ _))).mono ?_); rintro e w2 ⟨fa, fc, b, off, oc, rfl, x2, hoc, hbb, hb⟩; have HW2 := Lib.hid hb; have HA2 := Lib.hid (show Below w2.heap.size w2 (w2.alloc (.cells #[.int .i64 0, .int .i64 0, .slice fa 1 fc, .slice (some ⟨b, off, none⟩) 1 oc, .int .i64 0] 27)) from (Below.refl _ _).alloc (Nat.le_refl _) _); have HX2 := Lib.hid (HX.out.below hz hb); have z2 := Nat.lt_of_lt_of_le hz hb.size; clear hb c0 c1 c2 c3 c4; (obtain ⟨c0, c1, c2, c3, c4, cf⟩ := HX2.out); clear cf)
    | (go_at_call 14; (with_reducible refine (byS_ex _ (some ⟨w2.heap.size + 1, 0, none⟩) 2 _ (HP.out _ (HW2.out.trans ((HA2.out.alloc (by simp) _).mono HW2.out.size))) (by have := row_two (w2.alloc (.cells #[.int .i64 0, .int .i64 0, .slice fa 1 fc, .slice (some ⟨b, off, none⟩) 1 oc, .int .i64 0] 27)) 0 65538 exF rfl rfl 47; simpa using this)).mono ?_); rintro e w3 ⟨ga, gc, b', off', oc', rfl, y2, hoc', hbb', hb⟩; have hbl : Below w2.heap.size w2 w3 := below_next (HA2.out.alloc (by simp) _) hb; have HW3 := Lib.hid (HW2.out.trans (hbl.mono HW2.out.size)); have hbx : Below (w2.alloc (.cells #[.int .i64 0, .int .i64 0, .slice fa 1 fc, .slice (some ⟨b, off, none⟩) 1 oc, .int .i64 0] 27)).heap.size (w2.alloc (.cells #[.int .i64 0, .int .i64 0, .slice fa 1 fc, .slice (some ⟨b, off, none⟩) 1 oc, .int .i64 0] 27)) w3 := below_next ((Below.refl _ _).alloc (Nat.le_refl _) _) hb; have hy := (Box.new (a := .int .i64 0) (b := .int .i64 0) (c := .slice fa 1 fc) (d := .slice (some ⟨b, off, none⟩) 1 oc) (e := .int .i64 0) w2 27).below (by simp) hbx; have x3 := ((bcell hbl).1 _ _ hbb).trans x2; have hb3 := Nat.lt_of_lt_of_le hbb hbl.size; have HX3 := Lib.hid (HX2.out.below z2 hbl); have z3 := Nat.lt_of_lt_of_le z2 hbl.size; have z23 : w2.heap.size < w3.heap.size := (by have := hbx.size; simp at this; omega); clear hb hbl hbx c0 c1 c2 c3 c4 x2; (obtain ⟨c0, c1, c2, c3, c4, cf⟩ := HX3.out); clear cf; (obtain ⟨d0, d1, d2, d3, d4, df⟩ := hy); clear df; have HA3 := Lib.hid (show Below w3.heap.size w3 (w3.alloc (.cells #[.int .i64 0, .int .i64 0, .slice ga 1 gc, .slice (some ⟨b', off', none⟩) 1 oc', .int .i64 0] 27)) from (Below.refl _ _).alloc (Nat.le_refl _) _))
    | (go_at_call 19; (with_reducible refine (needs_any _ exP 2 _ (HP.out _ (HW3.out.trans (HA3.out.mono HW3.out.size)))).mono ?_); rintro e w4 ⟨rfl, hb⟩; have HB4 := Lib.hid ((HB.out.trans (HW3.out.mono (by omega))).trans ((below_next HA3.out hb).mono (by have := HW3.out.size; omega))); (rw [show needsB exP 2 = true by decide]); clear hb)
    | (go_at_call 11; (with_reducible refine (past_any 3 5 (by decide) (by decide) _).mono ?_); rintro e w5 ⟨rfl, rfl⟩; (rw [show pastB 3 5 = true by decide]))
    | (go_at_call 11; (with_reducible refine (past_any 4 5 (by decide) (by decide) _).mono ?_); rintro e w5 ⟨rfl, rfl⟩; (rw [show pastB 4 5 = false by decide])))
  go_ret
  exact ⟨rfl, by rw [HPP.out]; exact HB4.out⟩
end Go.Proofs.Ytdfbddepeacebaa
