/- Rows of whatever cells: how they read, and the copy of a row of calls that wait. -/
import Derived.Test.YtihpjfhibhpciaaWtA
namespace Go.Proofs.Ytihpjfhibhpciaa
open Go.ChangeShapes Go.WideShapes Go.ChangeAt Go.RowKit Go.Joins

/-- 'n' elements of 's' cells each, whatever they hold, as a list. -/
def flatC (s : Nat) (F : Nat → Nat → Value) (n : Nat) : List Value := (List.range (n * s)).map fun p => F (p / s) (p % s)
section
variable {s : Nat} {F G : Nat → Nat → Value} {n : Nat}
theorem flatC_len : (flatC s F n).length = n * s := by simp [flatC]
theorem flatC_at {p : Nat} (h : p < n * s) : (flatC s F n)[p]? = some (F (p / s) (p % s)) := by simp [flatC, List.getElem?_map, List.getElem?_range h]
theorem flatC_get {i j : Nat} (hi : i < n) (hj : j < s) : (flatC s F n)[i * s + j]? = some (F i j) := by
  rw [flatC_at (flat_lt hi hj), (flat_div hj).1, (flat_div hj).2]
theorem flatC_same (h : ∀ i j, i < n → j < s → F i j = G i j) : flatC s F n = flatC s G n := by
  unfold flatC
  apply List.map_congr_left
  intro p hp
  have hp : p < n * s := by simpa using hp
  have h0 : 0 < s := by
    rcases Nat.eq_zero_or_pos s with e | e
    · subst e; omega
    · exact e
  rw [h (p / s) (p % s) (Nat.div_lt_of_lt_mul (by rw [Nat.mul_comm]; exact hp)) (Nat.mod_lt _ h0)]
theorem flatC_one (h : ∀ i j, j < s → (F i j).oneCell' = true) : ∀ u ∈ flatC s F n, u.oneCell' = true := by
  intro u hu
  simp only [flatC, List.mem_map, List.mem_range] at hu
  obtain ⟨p, hp, rfl⟩ := hu
  have h0 : 0 < s := by
    rcases Nat.eq_zero_or_pos s with e | e
    · subst e; omega
    · exact e
  exact h _ _ (Nat.mod_lt _ h0)
end
/-- The cells of calls that wait. -/
def wcell (V : Nat → WV) (A : Nat → Option Addr) (C : Nat → Nat) (i j : Nat) : Value :=
  if j = 0 then .bool (V i).on else if j = 1 then .int .i64 (V i).tk else if j = 2 then .int .i64 (V i).sq else .slice (A i) (V i).m (C i)
theorem wcell_one (V : Nat → WV) (A : Nat → Option Addr) (C : Nat → Nat) (i j : Nat) : (wcell V A C i j).oneCell' = true := by
  unfold wcell
  split
  · rfl
  · split
    · rfl
    · split <;> rfl
/-- .. with the addresses of their cases. -/
def WaitsAs (w : World) (a : Option Addr) (n cap : Nat) (V : Nat → WV) (A : Nat → Option Addr) (C : Nat → Nat) : Prop :=
  n * 48 ≤ 140737488355328 ∧ (a = none → n = 0 ∧ cap = 0) ∧ n ≤ cap ∧ (0 < n → ∃ b off, a = some ⟨b, off, none⟩ ∧ b < w.heap.size ∧ ∀ i j, i < n → j < 4 → w.cell? ⟨b, off + i * 4 + j, none⟩ = some (wcell V A C i j)) ∧ ∀ i, i < n → RowS 3 w (A i) (V i).m (C i) (V i).c
section
variable {w w' : World} {a : Option Addr} {n cap : Nat} {V : Nat → WV} {A : Nat → Option Addr} {C : Nat → Nat}
theorem WaitsAt.as (h : WaitsAt w a n cap V) : ∃ A C, WaitsAs w a n cap V A C := by
  obtain ⟨h1, h2, h3, h4⟩ := h
  rcases Nat.eq_zero_or_pos n with rfl | hp
  · exact ⟨fun _ => none, fun _ => 0, h1, h2, h3, fun h => absurd h (by omega), fun i hi => absurd hi (by omega)⟩
  · obtain ⟨b, off, ha, hb, hc⟩ := h4 hp
    refine ⟨fun i => if hi : i < n then (hc i hi).choose else none, fun i => if hi : i < n then (hc i hi).choose_spec.choose else 0, h1, h2, h3, fun _ => ⟨b, off, ha, hb, fun i j hi hj => ?_⟩, fun i hi => ?_⟩
    · have hs := (hc i hi).choose_spec.choose_spec
      obtain ⟨e0, e1, e2, e3, _⟩ := hs
      unfold wcell
      simp only [hi, dif_pos]
      match j, hj with
      | 0, _ => simpa using e0
      | 1, _ => simpa using e1
      | 2, _ => simpa using e2
      | 3, _ => simpa using e3
    · have hs := (hc i hi).choose_spec.choose_spec
      simp only [hi, dif_pos]
      exact hs.2.2.2.2
theorem WaitsAs.at (h : WaitsAs w a n cap V A C) : WaitsAt w a n cap V := by
  obtain ⟨h1, h2, h3, h4, h5⟩ := h
  refine ⟨h1, h2, h3, fun h0 => ?_⟩
  obtain ⟨b, off, ha, hb, hc⟩ := h4 h0
  exact ⟨b, off, ha, hb, fun i hi => ⟨A i, C i, hc i 0 hi (by omega), hc i 1 hi (by omega), hc i 2 hi (by omega), hc i 3 hi (by omega), h5 i hi⟩⟩
theorem WaitsAs.news (h : WaitsAs w a n cap V A C) (o : Go.Obj) {ad : Addr} (had : a = some ad) {j : Nat} {u : Value} (hu : (flatC 4 (wcell V A C) n)[j]? = some u) : (w.alloc o).cell? (ad.add j) = some u := by
  have hj : j < n * 4 := by have := (List.getElem?_eq_some_iff.1 hu).1; simpa [flatC_len] using this
  obtain ⟨b, off, hab, hb, hc⟩ := h.2.2.2.1 (by omega)
  rw [had] at hab
  injection hab with hab
  subst hab
  rw [flatC_at hj] at hu
  have h1 := hc (j / 4) (j % 4) (by omega) (by omega)
  rw [Nat.add_assoc, show j / 4 * 4 + j % 4 = j by omega] at h1
  rw [Addr.add_lit, World.cell?_alloc_past _ _ _ hb, h1, hu]
end
/-- What is returned is a row of calls that wait, of the call's own; their cases lie where they lay. -/
def RetC (E B n : Nat) (F : Nat → Nat → Value) (w : World) (e : Ending) (w' : World) : Prop := ∃ v, e = .returned v ∧ w'.ownsRow B E 4 v n (flatC 4 F n) ∧ Below B w w'
theorem Try.info_wait : (Try.prog.info? 25).map (fun i => (i.zero, i.size, i.bytes)) = some (some (.agg #[.bool false, .int .i64 0, .int .i64 0, .slice none 0 0]), 4, 48) := by kernel_rfl
theorem Try.eql_wait (w : World) (a : Option Addr) (l c : Nat) : (binOp .eql 22 (.slice a l c) (.slice none 0 0)).run Try.prog w = .ok (.bool a.isNone) w := by
  simp only [binOp]
  simp [run_equal_slice_nil w 22 25 a l c Try.underlying22]
attribute [local go_sem] Try.eql_wait
set_option maxHeartbeats 3200000 in
theorem clone_wait_any (a : Option Addr) (n cap : Nat) (V : Nat → WV) (A : Nat → Option Addr) (C : Nat → Nat) (w : World) (h : WaitsAs w a n cap V A C) :
    Calls Try.prog 69 #[.slice a n cap] w (RetC 25 w.heap.size n (wcell V A C) w) := by
  obtain ⟨i0, hi0, hz0, hz1, hz2⟩ := info_parts Try.info_wait
  have HI := Lib.hid (And.intro hi0 (And.intro hz0 (And.intro hz1 hz2)))
  have hn := h.1
  have HNL := Lib.hid h.2.1
  have HC := Lib.hid (show ∀ ad, a = some ad → ∀ j u, (flatC 4 (wcell V A C) n)[j]? = some u → (w.alloc (.cells #[] 25)).cell? (ad.add j) = some u from fun ad had j u hu => h.news (.cells #[] 25) had hu)
  clear hi0 hz0 hz1 hz2 h
  by_cases ha : a = none
  · subst ha
    obtain ⟨rfl, rfl⟩ := HNL.out rfl
    go_enter Try.func69, Try.ntmps69
    go_wp2
    go_ret
    exact ⟨_, rfl, World.ownsRow_nil _ _ _ _, Below.refl _ _⟩
  have ha' : a.isNone = false := by cases a <;> simp_all
  clear ha
  go_enter Try.func69, Try.ntmps69
  go_wp2_with (at_builtin; refine wpList_append_src _ rfl _ _ _ rfl w.heap.size 25 i0 (.agg #[.bool false, .int .i64 0, .int .i64 0, .slice none 0 0]) 4 48 Try.underlying22 HI.out.1 HI.out.2.1 HI.out.2.2.1 HI.out.2.2.2 rfl (by decide) _ 0 [] rfl (World.ownsRow_lit w #[] 0 (Nat.le_refl _) (by unfold maxLen; omega) rfl) a n cap (flatC 4 (wcell V A C) n) rfl (by rw [flatC_len]) HNL.out HC.out (flatC_one (fun i j _ => wcell_one _ _ _ _ _)) (by unfold maxLen; omega) (by omega) (by simp) ?_; intro v1 w1 hown1 hgrow)
  have HO := Lib.hid (show w1.ownsRow w.heap.size 25 4 v1 n (flatC 4 (wcell V A C) n) by rw [Nat.zero_add, List.nil_append] at hown1; exact hown1)
  have HB := Lib.hid (show Below w.heap.size w w1 from Below.grown ((Below.refl _ _).alloc (Nat.le_refl _) _) hgrow (by simp) (fun j hj => by injection hj with e; exact Nat.le_of_eq e))
  clear hown1 hgrow
  go_wp2
  go_ret
  exact ⟨_, rfl, HO.out, HB.out⟩
end Go.Proofs.Ytihpjfhibhpciaa
