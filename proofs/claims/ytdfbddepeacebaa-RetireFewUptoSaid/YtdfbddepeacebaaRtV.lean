/- Words, and the set of those that slots hold, over the seat's program. -/
import Derived.Test.YtdfbddepeacebaaRtU
import Derived.Maps.OwnSet
import Derived.Laws.EntriesVeiled
import Derived.Maps.Views
import Derived.Laws.BitsAllLaws
import Derived.Deep.RegionHeld3
namespace Go.Proofs.Ytdfbddepeacebaa
open Go.ChangeShapes Go.WideShapes Go.ChangeAt Go.RowKit Go.Joins Go.Maps
attribute [local go_sem] Try.neq_nil
/-- Is a number in a row? -/
def hasB (f : Nat → Int) (n : Nat) (x : Int) : Bool := (List.range n).any fun i => f i == x
theorem hasB_yes {f : Nat → Int} {n k : Nat} {x : Int} (hk : k < n) (h : f k = x) : hasB f n x = true := by
  unfold hasB
  rw [List.any_eq_true]
  exact ⟨k, by simpa using hk, by simpa using h⟩
theorem hasB_no {f : Nat → Int} {n : Nat} {x : Int} (h : ∀ i, i < n → f i ≠ x) : hasB f n x = false := by
  unfold hasB
  rw [List.any_eq_false]
  intro i hi
  simpa using h i (by simpa using hi)

def wordI (i t : Int) : Int := if goodB i t = true then t * 65536 + i + 1 else 0
theorem wordI_yes {i t : Int} (h : goodB i t = true) : wordI i t = t * 65536 + i + 1 := by simp [wordI, h]
theorem wordI_no {i t : Int} (h : goodB i t = false) : wordI i t = 0 := by simp [wordI, h]
theorem wordI_in (i t : Int) : 0 ≤ wordI i t ∧ wordI i t ≤ 18446744073709551615 := by
  cases h : goodB i t
  · rw [wordI_no h]; omega
  · rw [wordI_yes h]; have := (goodB_iff _ _).1 h; omega

theorem rgood_any (i t : Int) (w : World) : Calls Try.prog 23 #[.agg #[.int .i64 i, .int .i64 t]] w
    fun e w' => e = .returned (.bool (goodB i t)) ∧ w.alloc (.cells #[.int .i64 i, .int .i64 t] 23) = w' := by
  go_enter Try.func23, Try.ntmps23
  go_wp2
  all_goals
    go_ret
    exact ⟨ret_bool (by simp [goodB]; omega), rfl⟩
theorem rgood_yes (i t : Int) (h : goodB i t = true) (w : World) : Calls Try.prog 23 #[.agg #[.int .i64 i, .int .i64 t]] w
    fun e w' => e = .returned (.bool true) ∧ w.alloc (.cells #[.int .i64 i, .int .i64 t] 23) = w' := by rw [← h]; exact rgood_any i t w
theorem rgood_no (i t : Int) (h : goodB i t = false) (w : World) : Calls Try.prog 23 #[.agg #[.int .i64 i, .int .i64 t]] w
    fun e w' => e = .returned (.bool false) ∧ w.alloc (.cells #[.int .i64 i, .int .i64 t] 23) = w' := by rw [← h]; exact rgood_any i t w

theorem word_any (i t : Int) (w : World) : Calls Try.prog 40 #[.agg #[.int .i64 i, .int .i64 t]] w fun e w' => e = .returned (.int .u64 (wordI i t)) ∧ Below w.heap.size w w' := by
  have HB := Lib.hid (show Below w.heap.size w ((w.alloc (.cells #[.int .i64 i, .int .i64 t] 23)).alloc (.cells #[.int .i64 i, .int .i64 t] 23)) from ((Below.refl _ _).alloc (Nat.le_refl _) _).alloc (by simp) _)
  cases h : goodB i t
  · have HL := Lib.hid (wordI_no h)
    have H := Lib.hid h
    clear h
    go_enter Try.func40, Try.ntmps40
    go_wp2_with (go_at_call 42; refine (good_no _ _ H.out _).mono ?_; rintro e w' ⟨rfl, rfl⟩)
    go_ret
    exact ⟨by rw [HL.out]; rfl, HB.out⟩
  · have HL := Lib.hid (wordI_yes h)
    have H := Lib.hid h
    obtain ⟨g1, g2, g3, g4⟩ := (goodB_iff _ _).1 h
    clear h
    go_enter Try.func40, Try.ntmps40
    go_wp2_with (go_at_call 42; refine (good_yes _ _ H.out _).mono ?_; rintro e w' ⟨rfl, rfl⟩)
    go_ret
    exact ⟨by rw [HL.out]; rfl, HB.out⟩

theorem rword_any (i t : Int) (w : World) : Calls Try.prog 24 #[.agg #[.int .i64 i, .int .i64 t]] w fun e w' => e = .returned (.int .u64 (wordI i t)) ∧ Below w.heap.size w w' := by
  have HB := Lib.hid (show Below w.heap.size w ((w.alloc (.cells #[.int .i64 i, .int .i64 t] 23)).alloc (.cells #[.int .i64 i, .int .i64 t] 23)) from ((Below.refl _ _).alloc (Nat.le_refl _) _).alloc (by simp) _)
  cases h : goodB i t
  · have HL := Lib.hid (wordI_no h)
    have H := Lib.hid h
    clear h
    go_enter Try.func24, Try.ntmps24
    go_wp2_with (go_at_call 23; refine (rgood_no _ _ H.out _).mono ?_; rintro e w' ⟨rfl, rfl⟩)
    go_ret
    exact ⟨by rw [HL.out]; rfl, HB.out⟩
  · have HL := Lib.hid (wordI_yes h)
    have H := Lib.hid h
    obtain ⟨g1, g2, g3, g4⟩ := (goodB_iff _ _).1 h
    clear h
    go_enter Try.func24, Try.ntmps24
    go_wp2_with (go_at_call 23; refine (rgood_yes _ _ H.out _).mono ?_; rintro e w' ⟨rfl, rfl⟩)
    go_ret
    exact ⟨by rw [HL.out]; rfl, HB.out⟩
/-- Words that can be. -/
def Words64 (f : Nat → Int) (n : Nat) : Prop := ∀ i, i < n → 0 ≤ f i ∧ f i ≤ 18446744073709551615
theorem law64 : Keyed Try.prog 47 := int_keyed Try.underlying47
theorem zeroE (w : World) : (zeroValue 62).run Try.prog w = .ok (.agg #[]) w := by kernel_rfl
def keysOf (f : Nat → Int) (n : Nat) : List Lit := (List.range n).map fun i => Lit.int .u64 (f i)
/-- Block 'm' is the set of so many words. -/
def SetAt (w : World) (m n : Nat) (f : Nat → Int) : Prop := w.ownsMap Try.prog 47 (unitElem (H := Unit)) m n (Maps.setOf (.agg []) (keysOf f n))
theorem ownsMap_below {P : Program} {k : TypeId} {R : Value → Option (DataW Unit × List MemPlace)} {w w' : World} {b n : Nat} {D : DataW Unit} (h : w.ownsMap P k R b n D) (hb : Below w.heap.size w w') : w'.ownsMap P k R b n D := by
  have hlt := h.lt
  obtain ⟨es, clock, hh, F, hs, hD⟩ := h
  exact ⟨es, clock, (hb.block b hlt).trans hh, F, hs, hD⟩
theorem SetAt.below {w w' : World} {m n : Nat} {f : Nat → Int} (h : SetAt w m n f) (hb : Below w.heap.size w w') : SetAt w' m n f := ownsMap_below h hb
theorem SetAt.drew {w : World} {m n : Nat} {f : Nat → Int} (h : SetAt w m n f) : SetAt w.drew m n f := h
theorem SetAt.alloc {w : World} {m n : Nat} {f : Nat → Int} (h : SetAt w m n f) (o : Go.Obj) : SetAt (w.alloc o) m n f := h.below ((Below.refl _ _).alloc (Nat.le_refl _) _)
theorem u64_wf {x : Int} (h : 0 ≤ x ∧ x ≤ 18446744073709551615) : (Lit.int .u64 x).wf = true := WalkArith.wf_u64 h
theorem key64 {x : Int} (h : 0 ≤ x ∧ x ≤ 18446744073709551615) : keyOf Try.prog 47 (.int .u64 x) = some (.int .u64 x) := keyOf_int_mk Try.underlying47 (u64_wf h)
theorem has_keys (f : Nat → Int) (n : Nat) (x : Int) : Maps.has (Maps.setOf (.agg [] : DataW Unit) (keysOf f n)) (.int .u64 x) = hasB f n x := by
  rw [Maps.has_setOf _ _ _ (fun y hy => by
    simp only [keysOf, List.mem_map] at hy
    obtain ⟨i, _, rfl⟩ := hy
    trivial)]
  simp only [keysOf, hasB, List.any_map]
  congr 1
  funext i
  rw [Bool.eq_iff_iff]
  simp [Lit.sameKey]
theorem look_set {w : World} {m n : Nat} {f : Nat → Int} (h : SetAt w m n f) {x : Int} (hx : 0 ≤ x ∧ x ≤ 18446744073709551615) : (Instr.lookup 66 (.map (some m)) (.int .u64 x) true).run Try.prog w = .ok (.tuple #[.agg #[], .bool (hasB f n x)]) w := by
  obtain ⟨v, ps, hrun, hv⟩ := World.ownsMap.look_ok h law64 Try.underlying66 (zeroE w) unitElem_mk (key64 hx)
  obtain ⟨rfl, _⟩ := unitElem_inv hv
  rw [hrun, has_keys]
theorem keys_succ (f : Nat → Int) (n : Nat) : Maps.setOf (.agg [] : DataW Unit) (keysOf f (n + 1)) = (Maps.setOf (.agg [] : DataW Unit) (keysOf f n)).put (.int .u64 (f n)) (.agg []) := by
  rw [show keysOf f (n + 1) = keysOf f n ++ [.int .u64 (f n)] by simp [keysOf, List.range_succ], Maps.setOf_snoc]

/-- The test whether a name's word is one of so many, whose set lies in memory. -/
def NamingAt (w : World) (v : Value) (n : Nat) (f : Nat → Int) : Prop := ∃ c m, v = .func (.func 39) #[] #[.pointer (some ⟨c, 0, none⟩)] ∧ c < w.heap.size ∧ w.cell? ⟨c, 0, none⟩ = some (.map (some m)) ∧ SetAt w m n f
theorem NamingAt.below {w w' : World} {v : Value} {n : Nat} {f : Nat → Int} (h : NamingAt w v n f) (hb : Below w.heap.size w w') : NamingAt w' v n f := by
  obtain ⟨c, m, hv, hc, h0, hs⟩ := h
  exact ⟨c, m, hv, Nat.lt_of_lt_of_le hc hb.size, ((bcell hb).1 _ _ hc).trans h0, hs.below hb⟩
set_option maxRecDepth 100000 in
set_option maxHeartbeats 1600000 in
theorem naming_any (a : Option Addr) (n cap : Nat) (f : Nat → Int) (hf : Words64 f n) (w : World) (h : RowAt .u64 w a n cap f) : Calls Try.prog 29 #[.slice a n cap] w fun e w' => ∃ v, e = .returned v ∧ NamingAt w' v n f ∧ Below w.heap.size w w' := by
  have hn := h.1
  have HC := Lib.hid h
  have HF := Lib.hid hf
  have hmm := @run_makeMap Try.prog
  have hmf : ∀ (fn : Fn) (first cap : Array Value) (w : World), (Instr.makeFunc fn first cap).run Try.prog w = .ok (.func fn first cap) w := fun _ _ _ _ => rfl
  clear h hf
  go_enter Try.func29, Try.ntmps29
  go_wp2
  go_loopw [9] (fun i wr => ∃ k : Nat, k ≤ n ∧ i = .int .i64 k ∧ SetAt wr w.heap.size k f ∧ wr.cell? ⟨w.heap.size + 1, 0, none⟩ = some (.map (some w.heap.size)) ∧ Below w.heap.size w wr ∧ w.heap.size + 1 < wr.heap.size) (fun i _ => n - (intOf i).toNat)
  case atStart =>
    refine ⟨0, Nat.zero_le _, rfl, ?_, by go_simp, ((Below.refl _ _).alloc (Nat.le_refl _) _).alloc (by simp) _, by simp⟩
    exact (World.ownsMap_made w Try.prog 47 unitElem).alloc _
  case round =>
    obtain ⟨k, hk, rfl, hs, hc, hb, hz⟩ := hrel
    have HS := Lib.hid hs
    have HB := Lib.hid hb
    have HCC := Lib.hid hc
    clear hs hb
    by_cases hlt : k < n
    · obtain ⟨b, off, hab, _, hcc⟩ := (HC.out.below HB.out).get hlt
      subst hab
      have x0 := hcc k hlt
      have i0 : (0 : Int) ≤ (k : Int) := by omega
      have i1 : (k : Int) < (n : Int) := by omega
      have HK := Lib.hid (key64 (HF.out k hlt))
      clear hcc
      go_wp2_with (at_mapUpdate; go_loud (refine wpList_mapUpdate_own _ rfl _ _ _ 66 rfl 47 62 law64 Try.underlying66 (unitElem (H := Unit)) w.heap.size k _ rfl HS.out (by unfold maxLen; omega) _ _ _ rfl rfl HK.out _ [] unitElem_mk ?_; intro w1 hown1 hgrow1; have HS1 := Lib.hid (show SetAt w1 w.heap.size (k + 1) f by unfold SetAt; rw [keys_succ]; exact hown1); have HB1 := Lib.hid (Below.grown HB.out hgrow1 (by omega) (fun j hj => by cases hj; exact Nat.le_refl _)); have HC1 := Lib.hid ((hgrow1.cell_far ⟨w.heap.size + 1, 0, none⟩ hz (by simp)).trans HCC.out); have hsz := hgrow1.size; clear hown1 hgrow1 hc x0; have hc := HC1.out))
      go_roundw
      case rel => exact ⟨k + 1, by omega, by go_num, HS1.out, HC1.out, HB1.out, by omega⟩
      case measure => simp [intOf]; omega
    · obtain rfl : k = n := by omega
      go_wp2
      go_ret
      exact ⟨_, rfl, ⟨_, _, rfl, hz, HCC.out, HS.out⟩, HB.out⟩
set_option maxRecDepth 100000 in
set_option maxHeartbeats 1600000 in
theorem named_any (c m : Nat) (i t : Int) (n : Nat) (f : Nat → Int) (w : World) (hc : c < w.heap.size) (h0 : w.cell? ⟨c, 0, none⟩ = some (.map (some m))) (hs : SetAt w m n f) :
    Calls Try.prog 39 #[.agg #[.int .i64 i, .int .i64 t], .pointer (some ⟨c, 0, none⟩)] w fun e w' => e = .returned (.bool (hasB f n (wordI i t))) ∧ Below w.heap.size w w' := by
  have HS := Lib.hid hs
  obtain ⟨x, hx⟩ : ∃ x, wordI i t = x := ⟨_, rfl⟩
  have HX := Lib.hid (show 0 ≤ x ∧ x ≤ 18446744073709551615 from hx ▸ wordI_in i t)
  have HW := Lib.hid (fun W => show Calls Try.prog 40 #[.agg #[.int .i64 i, .int .i64 t]] W fun e w' => e = .returned (.int .u64 x) ∧ Below W.heap.size W w' from hx ▸ word_any i t W)
  rw [hx]
  have HA := Lib.hid (show Below w.heap.size w (w.alloc (.cells #[.int .i64 i, .int .i64 t] 23)) from (Below.refl _ _).alloc (Nat.le_refl _) _)
  clear hs hx
  go_enter Try.func39, Try.ntmps39
  go_upto_region 1 with (fail)
  refine abstract_code (fun u => (u.cell? ⟨c, 0, none⟩ = some (.map (some m)) ∧ u.cell? ⟨w.heap.size, 0, none⟩ = some (.int .i64 i) ∧ u.cell? ⟨w.heap.size, 1, none⟩ = some (.int .i64 t)) ∧ SetAt u m n f ∧ Below w.heap.size w u ∧ w.heap.size < u.heap.size) ⟨⟨((bcell HA.out).1 _ _ hc).trans h0, by go_simp, by go_simp⟩, HS.out.below HA.out, HA.out, by simp⟩ ?_
  clear HS HA h0
  rintro u ⟨⟨q0, q1, q2⟩, hs, hb, hz⟩
  have HS := Lib.hid hs
  have HB := Lib.hid hb
  have q3 := look_set hs HX.out
  have zc : c < u.heap.size := by omega
  clear hs hb
  generalize hp : w.heap.size = p at *
  have HPP := Lib.hid hp
  clear hp
  go_region_held3 (fun W => W.cell? ⟨c, 0, none⟩ = some (.map (some m)) ∧ W.cell? ⟨p, 0, none⟩ = some (.int .i64 i) ∧ W.cell? ⟨p, 1, none⟩ = some (.int .i64 t) ∧ (Instr.lookup 66 (.map (some m)) (.int .u64 x) true).run Try.prog W = .ok (.tuple #[.agg #[], .bool (hasB f n x)]) W)
    (first | with_reducible exact ⟨q0, q1, q2, q3⟩ | exact ⟨q0, q1, q2, look_set (SetAt.drew HS.out) HX.out⟩ | exact ⟨by go_keep, by go_keep, by go_keep, look_set (SetAt.drew (SetAt.alloc HS.out _)) HX.out⟩ | exact ⟨by go_keep, by go_keep, by go_keep, look_set (SetAt.alloc (HS.out.below HB2.out) _) HX.out⟩ | go_keep)
    ((go_at_call 40; (with_reducible refine (HW.out _).mono ?_); rintro e w2 ⟨rfl, hb⟩; have HB2 := Lib.hid (show Below u.heap.size u w2 from below_next (by first | with_reducible exact Below.refl _ _ | (with_reducible refine Below.drew ?_; with_reducible exact Below.refl _ _) | exact Below.drew ((Below.refl _ _).alloc (Nat.le_refl _) _)) hb); have q0 := ((bcell HB2.out).1 _ _ zc).trans q0; have q1 := ((bcell HB2.out).1 _ _ hz).trans q1; have q2 := ((bcell HB2.out).1 _ _ hz).trans q2; have q3 := look_set (HS.out.below HB2.out) HX.out; clear hb))
  all_goals go_wp2_with fail
  all_goals go_ret
  all_goals refine ⟨rfl, ?_⟩
  all_goals rw [HPP.out]
  all_goals have hz2 := HB2.out.size
  all_goals first
    | exact (HB.out.trans (HB2.out.mono (Nat.le_of_lt hz))).alloc (by omega) _
    | exact HB.out.trans (HB2.out.mono (Nat.le_of_lt hz))
theorem testB_any (c : Nat) (x y z : Int) (n : Nat) (f : Nat → Int) (v : Value) (w : World) (hc : c < w.heap.size) (h0 : w.cell? ⟨c, 0, none⟩ = some v) (hv : NamingAt w v n f) :
    Calls Try.prog 30 #[.agg #[.int .i64 x, .int .i64 y, .int .i64 z], .pointer (some ⟨c, 0, none⟩)] w fun e w' => e = .returned (.bool (!hasB f n (wordI x y))) ∧ Below w.heap.size w w' := by
  obtain ⟨c1, m, rfl, hc1, h1, hs⟩ := hv
  have HA := Lib.hid (show Below w.heap.size w (w.alloc (.cells #[.int .i64 x, .int .i64 y, .int .i64 z] 44)) from (Below.refl _ _).alloc (Nat.le_refl _) _)
  have HN := Lib.hid (named_any c1 m x y n f (w.alloc (.cells #[.int .i64 x, .int .i64 y, .int .i64 z] 44)) (by simp; omega) (((bcell HA.out).1 _ _ hc1).trans h1) (hs.below HA.out))
  clear h1 hs
  generalize hasB f n (wordI x y) = r at *
  go_enter Try.func30, Try.ntmps30
  go_wp2_with (go_at_call 39; (with_reducible refine HN.out.mono ?_); rintro e w1 ⟨rfl, hb⟩; have HB := Lib.hid (HA.out.trans (hb.mono HA.out.size)); clear hb)
  go_ret
  exact ⟨rfl, HB.out⟩

set_option maxRecDepth 100000 in
set_option maxHeartbeats 1600000 in
theorem tells_slots (c : Addr) (b : Bool) (x y z : Int) (w : World) (HQ0 : Calls Try.prog 30 #[.agg #[.int .i64 x, .int .i64 y, .int .i64 z], .pointer (some c)] ((w.alloc (.cells #[.int .i64 x, .int .i64 y, .int .i64 z] 44)).alloc (.cells #[.bool false] 4)) fun e w' => e = .returned (.bool b) ∧ Below ((w.alloc (.cells #[.int .i64 x, .int .i64 y, .int .i64 z] 44)).alloc (.cells #[.bool false] 4)).heap.size ((w.alloc (.cells #[.int .i64 x, .int .i64 y, .int .i64 z] 44)).alloc (.cells #[.bool false] 4)) w') :
    Calls Try.prog 36 #[.func (.func 30) #[] #[.pointer (some c)], .agg #[.int .i64 x, .int .i64 y, .int .i64 z]] w fun e w' => e = .returned (.bool b) ∧ Below w.heap.size w w' := by
  have hmf : ∀ (fn : Fn) (first cap : Array Value) (w : World), (Instr.makeFunc fn first cap).run Try.prog w = .ok (.func fn first cap) w := fun _ _ _ _ => rfl
  have HA := Lib.hid (show Below w.heap.size w ((w.alloc (.cells #[.int .i64 x, .int .i64 y, .int .i64 z] 44)).alloc (.cells #[.bool false] 4)) from ((Below.refl _ _).alloc (Nat.le_refl _) _).alloc (by simp) _)
  have HQ := Lib.hid HQ0
  clear HQ0
  have c0 : ((w.alloc (.cells #[.int .i64 x, .int .i64 y, .int .i64 z] 44)).alloc (.cells #[.bool false] 4)).cell? ⟨w.heap.size + 1, 0, none⟩ = some (.bool false) := by go_simp
  have cf : ((w.alloc (.cells #[.int .i64 x, .int .i64 y, .int .i64 z] 44)).alloc (.cells #[.bool false] 4)).frozen? ⟨w.heap.size + 1, 0, none⟩ = false := by go_simp
  have HC0 := Lib.hid c0
  have HCF := Lib.hid cf
  clear c0 cf
  go_enter_defers Try.func36, Try.ntmps36
  go_wp2_with (go_at_call 30; (with_reducible refine HQ.out.mono ?_); rintro e w1 ⟨rfl, hb⟩; have HB := Lib.hid (HA.out.trans (hb.mono HA.out.size)); have hz := size2 hb; have c1 := ((bcell hb).1 _ _ (by simp)).trans HC0.out; have cf1 := ((bcell hb).2 _ _ (by simp)).trans HCF.out; clear hb)
  refine leaves_cons (f := 45) (args := #[.pointer (some ⟨w.heap.size + 1, 0, none⟩)]) (by simp) (by simp [go_sem]) ?_
  refine (tells_idle ⟨w.heap.size + 1, 0, none⟩ _).mono ?_
  rintro e u' w'' ⟨rfl, rfl, rfl⟩
  simp [Leaves, settle, results, Try.results36, go_sem, c1]
  exact HB.out.setCell (by simp) _

/-- A pool behind a look by slots. -/
def PV.byS (P : PV) (f : Nat → Int) (n : Nat) : PV := P.back (fun k => !hasB f n (wordI (P.fo k 0) (P.fo k 1))) P.no
set_option maxRecDepth 100000 in
set_option maxHeartbeats 3200000 in
theorem byS_any (v : Value) (P : PV) (a : Option Addr) (n cap : Nat) (f : Nat → Int) (hf : Words64 f n) (hsum : (P.nf + P.no) * 16 ≤ 140737488355328) (w : World) (h : PoolAt w v P) (hr : RowAt .u64 w a n cap f) :
    Calls Try.prog 14 #[v, .slice a n cap] w (RetBack (P.byS f n) ((P.no : Int) - (P.byS f n).no) w) := by
  have hmf : ∀ (fn : Fn) (first cap : Array Value) (w : World), (Instr.makeFunc fn first cap).run Try.prog w = .ok (.func fn first cap) w := fun _ _ _ _ => rfl
  have HP := Lib.hid (fun W hb => (h.below hb : PoolAt W v P))
  have HS := Lib.hid hsum
  obtain ⟨fa, fc, oa, oc, rfl, _, _⟩ := h
  have HB0 := Lib.hid (show Below w.heap.size w ((w.alloc (.cells #[.int .i64 P.i, .int .i64 P.t, .slice fa P.nf fc, .slice oa P.no oc, .int .i64 P.s] 27)).alloc (.cells #[.int .i64 0, .int .i64 0, .slice none 0 0, .slice none 0 0, .int .i64 0] 27)) from ((Below.refl _ _).alloc (Nat.le_refl _) _).alloc (by simp) _)
  have HX := Lib.hid (show Box ((w.alloc (.cells #[.int .i64 P.i, .int .i64 P.t, .slice fa P.nf fc, .slice oa P.no oc, .int .i64 P.s] 27)).alloc (.cells #[.int .i64 0, .int .i64 0, .slice none 0 0, .slice none 0 0, .int .i64 0] 27)) w.heap.size (.int .i64 P.i) (.int .i64 P.t) (.slice fa P.nf fc) (.slice oa P.no oc) (.int .i64 P.s) from (Box.new w _).below (by simp) ((Below.refl _ _).alloc (Nat.le_refl _) _))
  have HY := Lib.hid (show Box ((w.alloc (.cells #[.int .i64 P.i, .int .i64 P.t, .slice fa P.nf fc, .slice oa P.no oc, .int .i64 P.s] 27)).alloc (.cells #[.int .i64 0, .int .i64 0, .slice none 0 0, .slice none 0 0, .int .i64 0] 27)) (w.heap.size + 1) (.int .i64 0) (.int .i64 0) (.slice none 0 0) (.slice none 0 0) (.int .i64 0) from by have := Box.new (a := .int .i64 0) (b := .int .i64 0) (c := .slice none 0 0) (d := .slice none 0 0) (e := .int .i64 0) (w.alloc (.cells #[.int .i64 P.i, .int .i64 P.t, .slice fa P.nf fc, .slice oa P.no oc, .int .i64 P.s] 27)) 27; simpa using this)
  have HNM := Lib.hid (naming_any a n cap f hf ((w.alloc (.cells #[.int .i64 P.i, .int .i64 P.t, .slice fa P.nf fc, .slice oa P.no oc, .int .i64 P.s] 27)).alloc (.cells #[.int .i64 0, .int .i64 0, .slice none 0 0, .slice none 0 0, .int .i64 0] 27)) (hr.below HB0.out))
  obtain ⟨R, hR⟩ : ∃ R, P.byS f n = R := ⟨_, rfl⟩
  have HRR := Lib.hid hR
  rw [hR]
  clear hR hr hf hsum
  go_enter Try.func14, Try.ntmps14
  go_wp2_with fail
  refine HNM.out.mono ?_
  rintro e w1 ⟨nv, rfl, hnv, hb⟩
  obtain ⟨nc, nm, rfl, hnc⟩ := hnv
  have HNV := Lib.hid (show NamingAt w1 (.func (.func 39) #[] #[.pointer (some ⟨nc, 0, none⟩)]) n f from ⟨nc, nm, rfl, hnc⟩)
  have HX1 := Lib.hid (HX.out.below (by first | (simp; done) | (simp; omega)) hb)
  have HY1 := Lib.hid (HY.out.below (by first | (simp; done) | (simp; omega)) hb)
  have HB1 := Lib.hid (HB0.out.trans (hb.mono HB0.out.size))
  have z1 := size2 hb
  clear hb hnc
  go_upto_region 2 with (fail)
  have hA : Below w1.heap.size w1 (w1.alloc (.cells #[.func (.func 39) #[] #[.pointer (some ⟨nc, 0, none⟩)]] 45)) := (Below.refl _ _).alloc (Nat.le_refl _) _
  refine abstract_code (fun u => Box u w.heap.size (.int .i64 P.i) (.int .i64 P.t) (.slice fa P.nf fc) (.slice oa P.no oc) (.int .i64 P.s) ∧ Box u (w.heap.size + 1) (.int .i64 0) (.int .i64 0) (.slice none 0 0) (.slice none 0 0) (.int .i64 0) ∧ u.cell? ⟨w1.heap.size, 0, none⟩ = some (.func (.func 39) #[] #[.pointer (some ⟨nc, 0, none⟩)]) ∧ NamingAt u (.func (.func 39) #[] #[.pointer (some ⟨nc, 0, none⟩)]) n f ∧ Below w.heap.size w u ∧ w.heap.size + 1 < w1.heap.size ∧ w1.heap.size < u.heap.size) ⟨HX1.out.below (by omega) hA, HY1.out.below (by omega) hA, by go_simp, HNV.out.below hA, HB1.out.trans (hA.mono HB1.out.size), z1, by simp⟩ ?_
  clear hA HX1 HY1 HNV HB1 HX HY HB0 HNM
  rintro u ⟨hx, hy, hn, hnv, hb, z1', zq⟩
  have HY := Lib.hid hy
  have HN := Lib.hid hn
  have HNV := Lib.hid hnv
  have HB := Lib.hid hb
  clear hnv hb hy z1
  generalize w1.heap.size = q at *
  obtain ⟨c0, c1, c2, c3, c4, cf⟩ := hx
  clear cf
  have HBACK := Lib.hid (show Calls Try.prog 26 #[.agg #[.int .i64 P.i, .int .i64 P.t, .slice fa P.nf fc, .slice oa P.no oc, .int .i64 P.s], .func (.func 30) #[] #[.pointer (some ⟨q, 0, none⟩)]] u (RetBack R ((P.no : Int) - R.no) u) from by
    rw [← HRR.out]
    refine back_any _ _ P (fun k => !hasB f n (wordI (P.fo k 0) (P.fo k 1))) HS.out _ (HP.out _ HB.out) (fun k W hk hW => ?_)
    have hA : Below W.heap.size W ((W.alloc (.cells #[.int .i64 (P.fo k 0), .int .i64 (P.fo k 1), .int .i64 (P.fo k 2)] 44)).alloc (.cells #[.bool false] 4)) := ((Below.refl _ _).alloc (Nat.le_refl _) _).alloc (by simp) _
    have hWA : Below u.heap.size u _ := hW.trans (hA.mono hW.size)
    exact tells_slots _ _ _ _ _ W (testB_any _ _ _ _ n f _ _ (by have := hWA.size; omega) (((bcell hWA).1 _ _ zq).trans HN.out) (HNV.out.below hWA)))
  clear HP HS HRR hn
  go_wp2_with (go_at_call 26; (with_reducible refine HBACK.out.mono ?_); rintro e w2 ⟨f2, o2, rfl, ho, hb⟩; (obtain ⟨a2, k2, rfl⟩ := own_form ho.1); (obtain ⟨b2, l2, rfl⟩ := own_form ho.2.1); have HO2 := Lib.hid ho; have HY2 := Lib.hid (HY.out.below (by omega) hb); have HB2 := Lib.hid (HB.out.trans (hb.mono HB.out.size)); have hz := hb.size; clear hb ho c0 c1 c2 c3 c4; (obtain ⟨d0, d1, d2, d3, d4, df⟩ := HY2.out); have df0 := df 0; have df1 := df 1; have df2 := df 2; have df3 := df 3; have df4 := df 4; clear df)
  refine bodyPost_ret (v := .tuple #[.agg #[.int .i64 R.i, .int .i64 R.t, .slice a2 R.nf k2, .slice b2 R.no l2, .int .i64 R.s], .int .i64 ((P.no : Int) - R.no)]) ?_ rfl ⟨_, _, rfl, ⟨?_, ?_, HO2.out.2.2⟩, ?_⟩
  · simp only [results, Try.results14]; go_simp
  · exact World.ownsRow.mono (store5_own (HO2.out.1.mono (show w.heap.size + 2 ≤ _ by omega)) (by omega)) (by omega)
  · exact World.ownsRow.mono (store5_own (HO2.out.2.1.mono (show w.heap.size + 2 ≤ _ by omega)) (by omega)) (by omega)
  · exact store5_below HB2.out (by omega)
set_option maxHeartbeats 1000000 in
theorem rnamed_any (i t : Int) (a : Option Addr) (n cap : Nat) (f : Nat → Int) (w : World) (h : RowAt .u64 w a n cap f) :
    Calls Try.prog 31 #[.agg #[.int .i64 i, .int .i64 t], .slice a n cap] w fun e w' => e = .returned (.bool (hasB f n (wordI i t))) ∧ Below w.heap.size w w' := by
  have hn := h.1
  have HA := Lib.hid (show Below w.heap.size w (w.alloc (.cells #[.int .i64 i, .int .i64 t] 23)) from (Below.refl _ _).alloc (Nat.le_refl _) _)
  have HC := Lib.hid (h.below HA.out)
  have HWD := Lib.hid (rword_any i t (w.alloc (.cells #[.int .i64 i, .int .i64 t] 23)))
  have HY := Lib.hid (fun k (hk : k < n) (h : f k = wordI i t) => hasB_yes hk h)
  have HN := Lib.hid (fun (h : ∀ i', i' < n → f i' ≠ wordI i t) => hasB_no h)
  generalize wordI i t = x at *
  generalize hasB f n x = r at *
  clear h
  go_enter Try.func31, Try.ntmps31
  go_wp2_with (go_at_call 24; (with_reducible refine HWD.out.mono ?_); rintro e w1 ⟨rfl, hb⟩; have HC1 := Lib.hid (HC.out.below hb); have HB1 := Lib.hid (HA.out.trans (hb.mono HA.out.size)); clear hb)
  go_loop [12] (fun i => ∃ k : Nat, k ≤ n ∧ i = .int .i64 k ∧ (∀ i, i < k → f i ≠ x)) (fun i => n - (intOf i).toNat)
  case atStart => exact ⟨0, Nat.zero_le _, rfl, fun i hi => absurd hi (by omega)⟩
  case round =>
    obtain ⟨k, hk, rfl, hE⟩ := hrel
    have HE := Lib.hid hE
    clear hE
    by_cases hlt : k < n
    · obtain ⟨b, off, rfl, _, hc⟩ := HC1.out.get hlt
      have x0 := hc k hlt
      have i0 : (0 : Int) ≤ (k : Int) := by omega
      have i1 : (k : Int) < (n : Int) := by omega
      clear hc
      by_cases he : f k = x
      · have e1 : (f k == x) = true := by simpa using he
        have HR := Lib.hid (HY.out k hlt he)
        clear he
        go_wp2
        go_ret
        exact ⟨ret_bool HR.out, HB1.out⟩
      · have e1 : (f k == x) = false := by simpa using he
        have HA := Lib.hid (show ∀ i, i < k + 1 → f i ≠ x from fun i hi => by
          rcases Nat.lt_or_ge i k with h | h
          · exact HE.out i h
          · obtain rfl : i = k := by omega
            exact he)
        clear he
        go_wp2
        go_round
        case rel => exact ⟨k + 1, by omega, by go_num, HA.out⟩
        case measure => simp [intOf]; omega
    · obtain rfl : k = n := by omega
      go_wp2
      go_ret
      exact ⟨ret_bool (HN.out HE.out), HB1.out⟩

set_option maxRecDepth 100000 in
set_option maxHeartbeats 6400000 in
theorem rbyS_any (v : Value) (P : PV) (a : Option Addr) (n cap : Nat) (f : Nat → Int) (hsum : (P.nf + P.no) * 16 ≤ 140737488355328) (w : World) (h : PoolAt w v P) (hr : RowAt .u64 w a n cap f) :
    Calls Try.prog 15 #[v, .slice a n cap] w (RetBack (P.byS f n) ((P.no : Int) - (P.byS f n).no) w) := by
  have HP := Lib.hid (fun W hb => (h.below hb : PoolAt W v P))
  have HS := Lib.hid hsum
  have HR := Lib.hid hr
  obtain ⟨G, hG⟩ : ∃ G : Nat → Bool, (fun k => !hasB f n (wordI (P.fo k 0) (P.fo k 1))) = G := ⟨_, rfl⟩
  have HGK := Lib.hid (fun k => show (fun k => !hasB f n (wordI (P.fo k 0) (P.fo k 1))) k = G k by rw [hG])
  have HRD := Lib.hid (show P.byS f n = P.back G P.no from by rw [← hG]; rfl)
  obtain ⟨fa, fc, oa, oc, rfl, hf, ho⟩ := h
  have hn2 := ho.1
  have HO := Lib.hid ho
  clear hf ho hG hsum
  have HB0 := Lib.hid (show Below w.heap.size w ((w.alloc (.cells #[.int .i64 P.i, .int .i64 P.t, .slice fa P.nf fc, .slice oa P.no oc, .int .i64 P.s] 27)).alloc (.cells #[.int .i64 0, .int .i64 0, .slice none 0 0, .slice none 0 0, .int .i64 0] 27)) from ((Below.refl _ _).alloc (Nat.le_refl _) _).alloc (by simp) _)
  have HX := Lib.hid (show Box ((w.alloc (.cells #[.int .i64 P.i, .int .i64 P.t, .slice fa P.nf fc, .slice oa P.no oc, .int .i64 P.s] 27)).alloc (.cells #[.int .i64 0, .int .i64 0, .slice none 0 0, .slice none 0 0, .int .i64 0] 27)) w.heap.size (.int .i64 P.i) (.int .i64 P.t) (.slice fa P.nf fc) (.slice oa P.no oc) (.int .i64 P.s) from (Box.new w _).below (by simp) ((Below.refl _ _).alloc (Nat.le_refl _) _))
  have HY := Lib.hid (show Box ((w.alloc (.cells #[.int .i64 P.i, .int .i64 P.t, .slice fa P.nf fc, .slice oa P.no oc, .int .i64 P.s] 27)).alloc (.cells #[.int .i64 0, .int .i64 0, .slice none 0 0, .slice none 0 0, .int .i64 0] 27)) (w.heap.size + 1) (.int .i64 0) (.int .i64 0) (.slice none 0 0) (.slice none 0 0) (.int .i64 0) from by have := Box.new (a := .int .i64 0) (b := .int .i64 0) (c := .slice none 0 0) (d := .slice none 0 0) (e := .int .i64 0) (w.alloc (.cells #[.int .i64 P.i, .int .i64 P.t, .slice fa P.nf fc, .slice oa P.no oc, .int .i64 P.s] 27)) 27; simpa using this)
  obtain ⟨R, hR⟩ : ∃ R, P.back G P.no = R := ⟨_, rfl⟩
  rw [HRD.out, hR]
  have HRR := Lib.hid hR
  clear hR HRD
  go_enter Try.func15, Try.ntmps15
  obtain ⟨c0, c1, c2, c3, c4, cf⟩ := HX.out
  clear cf
  go_wp2_with fail
  go_loopw [6, 12] (fun lv i wr => ∃ k : Nat, k ≤ P.no ∧ i = .int .i64 k ∧ EMarkRel P G fa fc oa oc w k lv wr) (fun _ i _ => P.no - (intOf i).toNat)
  case atStart => exact ⟨0, Nat.zero_le _, rfl, none, 0, rfl, HX.out, HY.out, World.ownsRow_nil _ _ _ _, HB0.out, by simp⟩
  case round =>
    clear c0 c1 c2 c3 c4 HX HY HB0
    obtain ⟨k, hk, rfl, la, lc, rfl, hx, hy, how, hb, hz⟩ := hrel
    have HXk := Lib.hid hx
    have HYk := Lib.hid hy
    have HOk := Lib.hid how
    have HBk := Lib.hid hb
    have z0 : w.heap.size < wr.heap.size := by omega
    obtain ⟨c0, c1, c2, c3, c4, cf⟩ := hx
    clear cf how hb hy
    rcases Nat.lt_or_ge k P.no with hlt | hge
    · obtain ⟨b, off, hab, _, hcc⟩ := (HO.out.below HBk.out).get hlt
      subst hab
      have x0 : wr.cell? ⟨b, off + k * 3, none⟩ = some (.int .i64 (P.fo k 0)) := by simpa using hcc k 0 hlt (by omega)
      have x1 := hcc k 1 hlt (by omega)
      have x2 := hcc k 2 hlt (by omega)
      have i0 : (0 : Int) ≤ (k : Int) := by omega
      have i1 : (k : Int) < (P.no : Int) := by omega
      have HRN := Lib.hid (fun W (h : RowAt .u64 W a n cap f) => show Calls Try.prog 31 #[.agg #[.int .i64 (P.fo k 0), .int .i64 (P.fo k 1)], .slice a n cap] W fun e w' => e = .returned (.bool (!G k)) ∧ Below W.heap.size W w' from by
        have e : hasB f n (wordI (P.fo k 0) (P.fo k 1)) = !G k := by rw [← HGK.out k]; simp
        rw [← e]
        exact rnamed_any _ _ a n cap f W h)
      clear hcc
      go_wp2_with (first
        | (go_at_call 31; (with_reducible refine (HRN.out _ (HR.out.below (HBk.out.alloc (Nat.le_of_lt z0) (.cells #[.int .i64 (P.fo k 0), .int .i64 (P.fo k 1), .int .i64 (P.fo k 2)] 44)))).mono ?_); rintro e w2 ⟨rfl, hb⟩; have hd := hb; have HA2 := Lib.hid ((World.grownBy_alloc wr (.cells #[.int .i64 (P.fo k 0), .int .i64 (P.fo k 1), .int .i64 (P.fo k 2)] 44) none)); have hbk : Below wr.heap.size wr w2 := below_next ((Below.refl _ _).alloc (Nat.le_refl _) _) hb; have HX2 := Lib.hid (HXk.out.below z0 hbk); have HY2 := Lib.hid (HYk.out.below hz hbk); have HOk2 := Lib.hid (own_below HOk.out hbk); have HB2 := Lib.hid (HBk.out.trans (hbk.mono HBk.out.size)); have z20 := Nat.lt_of_lt_of_le z0 hbk.size; have z21 := Nat.lt_of_lt_of_le hz hbk.size; clear hb hd hbk)
        | (at_builtin; go_loud (refine app_cells (w.heap.size + 2) 4 53 rfl _ _ rfl Try.underlying53 _ 1 1 Try.info_bool rfl (by omega) (.slice la k lc) k (rowB G k) #[.bool (G k)] rfl (by simp [Value.oneCell']) rfl HOk2.out w2.heap.size rfl rfl (by omega) (by unfold maxLen; omega) (by omega) ?_; intro gg cap' w4 hown hgrow hat hlt'; have hg4 : w2.grownBy w4 _ := hgrow; have HX4 := Lib.hid (HX2.out.grown hg4 z20 (fun e => absurd (HOk.out.lt _ e.symm).1 (by omega))); have HY4 := Lib.hid (HY2.out.grown hg4 z21 (fun e => absurd (HOk.out.lt _ e.symm).1 (by omega))); have HO4 := Lib.hid (own_mark hown); have HB4 := Lib.hid (Below.grown HB2.out hg4 (by omega) (fun j hj => Nat.le_trans (Nat.le_add_right _ 2) (HOk.out.lt j hj).1)); have hsz := hg4.size; clear hown hgrow hat hg4 hlt' c0 c1 c2 c3 c4 x0 x1 x2; obtain ⟨c0, c1, c2, c3, c4, cf⟩ := HX4.out; clear cf)))
      go_roundw
      case rel => exact ⟨k + 1, by omega, by go_num, some ⟨gg, 0, none⟩, cap', rfl, HX4.out, HY4.out, HO4.out, HB4.out, by omega⟩
      case measure => simp [intOf]; omega
    · obtain rfl : k = P.no := by omega
      obtain ⟨ra, rc, hv, hr⟩ := RowB.of (by omega) HOk.out
      cases hv
      have HRBACK := Lib.hid (show Calls Try.prog 28 #[.agg #[.int .i64 P.i, .int .i64 P.t, .slice fa P.nf fc, .slice oa P.no oc, .int .i64 P.s], .slice la P.no lc] wr (RetBack R ((P.no : Int) - R.no) wr) from HRR.out ▸ rback_any _ P G la lc HS.out wr (HP.out _ HBk.out) hr)
      clear hr HO HGK
      go_wp2_with (go_at_call 28; (with_reducible refine HRBACK.out.mono ?_); rintro e w2 ⟨f2, o2, rfl, ho, hb⟩; (obtain ⟨a2, k2, rfl⟩ := own_form ho.1); (obtain ⟨b2, l2, rfl⟩ := own_form ho.2.1); have HO2 := Lib.hid ho; have HY2 := Lib.hid (HYk.out.below hz hb); have HB2 := Lib.hid (HBk.out.trans (hb.mono HBk.out.size)); have hz2 := hb.size; clear hb ho c0 c1 c2 c3 c4; (obtain ⟨d0, d1, d2, d3, d4, df⟩ := HY2.out); have df0 := df 0; have df1 := df 1; have df2 := df 2; have df3 := df 3; have df4 := df 4; clear df)
      refine bodyPost_ret (v := .tuple #[.agg #[.int .i64 R.i, .int .i64 R.t, .slice a2 R.nf k2, .slice b2 R.no l2, .int .i64 R.s], .int .i64 ((P.no : Int) - R.no)]) ?_ rfl ⟨_, _, rfl, ⟨?_, ?_, HO2.out.2.2⟩, ?_⟩
      · simp only [results, Try.results15]; go_simp
      · exact World.ownsRow.mono (store5_own (HO2.out.1.mono (show w.heap.size + 2 ≤ _ by omega)) (by omega)) (by omega)
      · exact World.ownsRow.mono (store5_own (HO2.out.2.1.mono (show w.heap.size + 2 ≤ _ by omega)) (by omega)) (by omega)
      · exact store5_below HB2.out (by omega)
end Go.Proofs.Ytdfbddepeacebaa
