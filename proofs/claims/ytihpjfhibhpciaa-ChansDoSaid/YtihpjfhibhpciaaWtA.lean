/- Rows of cases: how they read, and their copies; calls that wait: how they read. -/
import Derived.Test.YtihpjfhibhpciaaOwn
namespace Go.Proofs.Ytihpjfhibhpciaa
open Go.ChangeShapes Go.WideShapes Go.ChangeAt Go.RowKit Go.Joins

/-- 'n' elements of 's' integers each lie from an address on. -/
def RowS (s : Nat) (w : World) (a : Option Addr) (n cap : Nat) (f : Nat → Nat → Int) : Prop :=
  n * (s * 8) ≤ 140737488355328 ∧ (a = none → n = 0 ∧ cap = 0) ∧ n ≤ cap ∧ (0 < n → ∃ b off, a = some ⟨b, off, none⟩ ∧ b < w.heap.size ∧ ∀ i j, i < n → j < s → w.cell? ⟨b, off + i * s + j, none⟩ = some (.int .i64 (f i j)))
def flatL (s : Nat) (f : Nat → Nat → Int) (n : Nat) : List Value := (List.range (n * s)).map fun p => Value.int .i64 (f (p / s) (p % s))
section
variable {s : Nat} {f g : Nat → Nat → Int} {n : Nat}
theorem flatL_len : (flatL s f n).length = n * s := by simp [flatL]
theorem flatL_at {p : Nat} (h : p < n * s) : (flatL s f n)[p]? = some (.int .i64 (f (p / s) (p % s))) := by simp [flatL, List.getElem?_map, List.getElem?_range h]
theorem flatL_one : ∀ u ∈ flatL s f n, u.oneCell' = true := by
  intro u hu
  simp only [flatL, List.mem_map] at hu
  obtain ⟨_, _, rfl⟩ := hu
  rfl
theorem flatL_zero : flatL s f 0 = [] := by simp [flatL]
theorem flat_lt {i j : Nat} (hi : i < n) (hj : j < s) : i * s + j < n * s := by
  have : (i + 1) * s ≤ n * s := Nat.mul_le_mul_right s hi
  rw [Nat.succ_mul] at this
  omega
theorem flat_div {i j : Nat} (hj : j < s) : (i * s + j) / s = i ∧ (i * s + j) % s = j := by
  have h0 : 0 < s := by omega
  rw [Nat.add_comm, Nat.add_mul_div_right _ _ h0, Nat.add_mul_mod_self_right, Nat.div_eq_of_lt hj, Nat.mod_eq_of_lt hj]
  omega
theorem flatL_get {i j : Nat} (hi : i < n) (hj : j < s) : (flatL s f n)[i * s + j]? = some (.int .i64 (f i j)) := by
  rw [flatL_at (flat_lt hi hj), (flat_div hj).1, (flat_div hj).2]
theorem flatL_same (h : ∀ i j, i < n → j < s → f i j = g i j) : flatL s f n = flatL s g n := by
  unfold flatL
  apply List.map_congr_left
  intro p hp
  have hp : p < n * s := by simpa using hp
  have h0 : 0 < s := by
    rcases Nat.eq_zero_or_pos s with e | e
    · subst e; omega
    · exact e
  rw [h (p / s) (p % s) (Nat.div_lt_of_lt_mul (by rw [Nat.mul_comm]; exact hp)) (Nat.mod_lt _ h0)]
theorem flat2_succ {f : Nat → Nat → Int} : flatL 2 f (n + 1) = flatL 2 f n ++ [.int .i64 (f n 0), .int .i64 (f n 1)] := by
  have e0 : n * 2 / 2 = n ∧ n * 2 % 2 = 0 ∧ (n * 2 + 1) / 2 = n ∧ (n * 2 + 1) % 2 = 1 := by omega
  rw [flatL, flatL, show (n + 1) * 2 = n * 2 + 1 + 1 by omega, List.range_succ, List.range_succ]
  simp [e0]
theorem flat3_succ {f : Nat → Nat → Int} : flatL 3 f (n + 1) = flatL 3 f n ++ [.int .i64 (f n 0), .int .i64 (f n 1), .int .i64 (f n 2)] := by
  have e0 : n * 3 / 3 = n ∧ n * 3 % 3 = 0 ∧ (n * 3 + 1) / 3 = n ∧ (n * 3 + 1) % 3 = 1 ∧ (n * 3 + 2) / 3 = n ∧ (n * 3 + 2) % 3 = 2 := by omega
  rw [flatL, flatL, show (n + 1) * 3 = n * 3 + 1 + 1 + 1 by omega, List.range_succ, List.range_succ, List.range_succ]
  simp [e0]
end
section
variable {s : Nat} {w w' : World} {a : Option Addr} {n cap : Nat} {f g : Nat → Nat → Int}
theorem RowS.below (h : RowS s w a n cap f) (hw : Below w.heap.size w w') : RowS s w' a n cap f := by
  refine ⟨h.1, h.2.1, h.2.2.1, fun h0 => ?_⟩
  obtain ⟨b, off, ha, hb, hi⟩ := h.2.2.2 h0
  exact ⟨b, off, ha, Nat.lt_of_lt_of_le hb hw.size, fun i j h h' => by rw [(bcell hw).1 _ _ hb]; exact hi i j h h'⟩
theorem RowS.get (h : RowS s w a n cap f) {k : Nat} (hk : k < n) : ∃ b off, a = some ⟨b, off, none⟩ ∧ b < w.heap.size ∧ ∀ i j, i < n → j < s → w.cell? ⟨b, off + i * s + j, none⟩ = some (.int .i64 (f i j)) := h.2.2.2 (by omega)
theorem RowS.same (h : RowS s w a n cap f) (hg : ∀ i j, i < n → j < s → f i j = g i j) : RowS s w a n cap g := by
  refine ⟨h.1, h.2.1, h.2.2.1, fun h0 => ?_⟩
  obtain ⟨b, off, ha, hb, hi⟩ := h.2.2.2 h0
  exact ⟨b, off, ha, hb, fun i j h h' => by rw [← hg i j h h']; exact hi i j h h'⟩
theorem RowS.nil (h : n = 0) (hc : cap = 0) : RowS s w none n cap f := ⟨by subst h; omega, fun _ => ⟨h, hc⟩, by omega, fun h0 => absurd h0 (by omega)⟩
theorem RowS.shift {b off cap n : Nat} (h : RowS s w (some ⟨b, off, none⟩) (n + 1) cap f) : RowS s w (some ⟨b, off + s, none⟩) n (cap - 1) (fun i j => f (i + 1) j) := by
  obtain ⟨h1, _, h3, h4⟩ := h
  obtain ⟨b', off', ha, hb, hc⟩ := h4 (by omega)
  injection ha with ha
  injection ha with ha ho _
  subst ha ho
  refine ⟨?_, (fun h => by cases h), by omega, fun h0 => ⟨b, off + s, rfl, hb, fun i j hi hj => ?_⟩⟩
  · rw [Nat.succ_mul] at h1
    omega
  · have := hc (i + 1) j (by omega) hj
    rwa [Nat.succ_mul, show off + (i * s + s) + j = off + s + i * s + j by omega] at this
theorem RowS.none_left {b off cap : Nat} {f' : Nat → Nat → Int} (hc : cap = 0) : RowS s w (some ⟨b, off, none⟩) 0 cap f' := by
  refine ⟨by omega, (fun h => by cases h), by omega, fun h0 => absurd h0 (by omega)⟩
theorem RowS.alloc_at (h : RowS s w a n cap f) (o : Go.Obj) {ad : Addr} (had : a = some ad) {j : Nat} {u : Value} (hu : (flatL s f n)[j]? = some u) : (w.alloc o).cell? (ad.add j) = some u := by
  have hj : j < n * s := by have := (List.getElem?_eq_some_iff.1 hu).1; simpa [flatL_len] using this
  have hn0 : 0 < n := by
    rcases Nat.eq_zero_or_pos n with e | e
    · subst e; omega
    · exact e
  have hs0 : 0 < s := by
    rcases Nat.eq_zero_or_pos s with e | e
    · subst e; omega
    · exact e
  obtain ⟨b, off, hab, hb, hc⟩ := h.get hn0
  rw [had] at hab
  injection hab with hab
  subst hab
  rw [flatL_at hj] at hu
  have h1 := hc (j / s) (j % s) (Nat.div_lt_of_lt_mul (by rw [Nat.mul_comm]; exact hj)) (Nat.mod_lt _ hs0)
  rw [Nat.add_assoc, show j / s * s + j % s = j by rw [Nat.mul_comm]; exact Nat.div_add_mod _ _] at h1
  rw [Addr.add_lit, World.cell?_alloc_past _ _ _ hb, h1, hu]
theorem RowS.of {E B : Nat} {v : Value} (hl : n * (s * 8) ≤ 140737488355328) (h : w.ownsRow B E s v n (flatL s f n)) : ∃ a cap, v = .slice a n cap ∧ RowS s w a n cap f := by
  have h' := h
  rcases h.2 with ⟨rfl, rfl⟩ | ⟨g, cap, cur, rfl, hb, hg, hnc, _, _, _⟩
  · exact ⟨none, 0, rfl, RowS.nil rfl rfl⟩
  · refine ⟨some ⟨g, 0, none⟩, cap, rfl, hl, (fun h => by cases h), hnc, fun _ => ⟨g, 0, rfl, (Array.getElem?_eq_some_iff.1 hg).1, fun i j hi hj => ?_⟩⟩
    rw [Nat.zero_add, h'.cellAt _ (flat_lt hi hj), flatL_get hi hj]
end

/-- What is returned is a row of the call's own. -/
def RetS (s E B n : Nat) (f : Nat → Nat → Int) (w : World) (e : Ending) (w' : World) : Prop := ∃ v, e = .returned v ∧ w'.ownsRow B E s v n (flatL s f n) ∧ Below B w w'

theorem Try.info_case : (Try.prog.info? 41).map (fun i => (i.zero, i.size, i.bytes)) = some (some (.agg #[.int .i64 0, .int .i64 0, .int .i64 0]), 3, 24) := by kernel_rfl
theorem Try.eql_case (w : World) (a : Option Addr) (l c : Nat) : (binOp .eql 23 (.slice a l c) (.slice none 0 0)).run Try.prog w = .ok (.bool a.isNone) w := by
  simp only [binOp]
  simp [run_equal_slice_nil w 23 41 a l c Try.underlying23]
attribute [local go_sem] Try.eql_case

set_option maxHeartbeats 3200000 in
theorem clone_case_any (a : Option Addr) (n cap : Nat) (f : Nat → Nat → Int) (w : World) (h : RowS 3 w a n cap f) :
    Calls Try.prog 56 #[.slice a n cap] w (RetS 3 41 w.heap.size n f w) := by
  obtain ⟨i0, hi0, hz0, hz1, hz2⟩ := info_parts Try.info_case
  have HI := Lib.hid (And.intro hi0 (And.intro hz0 (And.intro hz1 hz2)))
  have hn := h.1
  have HNL := Lib.hid h.2.1
  have HC := Lib.hid (show ∀ ad, a = some ad → ∀ j u, (flatL 3 f n)[j]? = some u → (w.alloc (.cells #[] 41)).cell? (ad.add j) = some u from fun ad had j u hu => h.alloc_at (.cells #[] 41) had hu)
  clear hi0 hz0 hz1 hz2 h
  by_cases ha : a = none
  · subst ha
    obtain ⟨rfl, rfl⟩ := HNL.out rfl
    go_enter Try.func56, Try.ntmps56
    go_wp2
    go_ret
    exact ⟨_, rfl, World.ownsRow_nil _ _ _ _, Below.refl _ _⟩
  have ha' : a.isNone = false := by cases a <;> simp_all
  clear ha
  go_enter Try.func56, Try.ntmps56
  go_wp2_with (at_builtin; refine wpList_append_src _ rfl _ _ _ rfl w.heap.size 41 i0 (.agg #[.int .i64 0, .int .i64 0, .int .i64 0]) 3 24 Try.underlying23 HI.out.1 HI.out.2.1 HI.out.2.2.1 HI.out.2.2.2 rfl (by decide) _ 0 [] rfl (World.ownsRow_lit w #[] 0 (Nat.le_refl _) (by unfold maxLen; omega) rfl) a n cap (flatL 3 f n) rfl (by rw [flatL_len]) HNL.out HC.out flatL_one (by unfold maxLen; omega) (by omega) (by simp) ?_; intro v1 w1 hown1 hgrow)
  have HO := Lib.hid (show w1.ownsRow w.heap.size 41 3 v1 n (flatL 3 f n) by rw [Nat.zero_add, List.nil_append] at hown1; exact hown1)
  have HB := Lib.hid (show Below w.heap.size w w1 from Below.grown ((Below.refl _ _).alloc (Nat.le_refl _) _) hgrow (by simp) (fun j hj => by injection hj with e; exact Nat.le_of_eq e))
  clear hown1 hgrow
  go_wp2
  go_ret
  exact ⟨_, rfl, HO.out, HB.out⟩

/-- A call that waits. -/
structure WV where
  on : Bool
  tk : Int
  sq : Int
  m : Nat
  c : Nat → Nat → Int
/-- One call that waits lies in four cells. -/
def WaitAt (w : World) (b o : Nat) (V : WV) : Prop :=
  ∃ ca cc, w.cell? ⟨b, o, none⟩ = some (.bool V.on) ∧ w.cell? ⟨b, o + 1, none⟩ = some (.int .i64 V.tk) ∧ w.cell? ⟨b, o + 2, none⟩ = some (.int .i64 V.sq) ∧ w.cell? ⟨b, o + 3, none⟩ = some (.slice ca V.m cc) ∧ RowS 3 w ca V.m cc V.c
/-- 'n' calls that wait lie from an address on. -/
def WaitsAt (w : World) (a : Option Addr) (n cap : Nat) (V : Nat → WV) : Prop :=
  n * 48 ≤ 140737488355328 ∧ (a = none → n = 0 ∧ cap = 0) ∧ n ≤ cap ∧ (0 < n → ∃ b off, a = some ⟨b, off, none⟩ ∧ b < w.heap.size ∧ ∀ i, i < n → WaitAt w b (off + i * 4) (V i))
theorem WaitAt.below {w w' : World} {b o : Nat} {V : WV} (h : WaitAt w b o V) (hb : b < w.heap.size) (hw : Below w.heap.size w w') : WaitAt w' b o V := by
  obtain ⟨ca, cc, h0, h1, h2, h3, hr⟩ := h
  obtain ⟨hc, _⟩ := bcell hw
  exact ⟨ca, cc, (hc _ _ hb).trans h0, (hc _ _ hb).trans h1, (hc _ _ hb).trans h2, (hc _ _ hb).trans h3, hr.below hw⟩
section
variable {w w' : World} {a : Option Addr} {n cap : Nat} {V U : Nat → WV}
theorem WaitsAt.below (h : WaitsAt w a n cap V) (hw : Below w.heap.size w w') : WaitsAt w' a n cap V := by
  refine ⟨h.1, h.2.1, h.2.2.1, fun h0 => ?_⟩
  obtain ⟨b, off, ha, hb, hi⟩ := h.2.2.2 h0
  exact ⟨b, off, ha, Nat.lt_of_lt_of_le hb hw.size, fun i h => (hi i h).below hb hw⟩
theorem WaitsAt.get (h : WaitsAt w a n cap V) {k : Nat} (hk : k < n) : ∃ b off, a = some ⟨b, off, none⟩ ∧ b < w.heap.size ∧ ∀ i, i < n → WaitAt w b (off + i * 4) (V i) := h.2.2.2 (by omega)
theorem WaitsAt.nil (h : n = 0) (hc : cap = 0) : WaitsAt w none n cap V := ⟨by subst h; omega, fun _ => ⟨h, hc⟩, by omega, fun h0 => absurd h0 (by omega)⟩
end
/-- How many wait. -/
def countW (V : Nat → WV) : Nat → Nat
  | 0 => 0
  | n + 1 => countW V n + if (V n).on = true then 1 else 0
theorem countW_le (V : Nat → WV) (n : Nat) : countW V n ≤ n := by
  induction n with
  | zero => exact Nat.le_refl _
  | succ n ih => simp only [countW]; split <;> omega

set_option maxRecDepth 100000 in
set_option maxHeartbeats 3200000 in
theorem count_any (a : Option Addr) (n cap : Nat) (V : Nat → WV) (w : World) (h : WaitsAt w a n cap V) : Calls Try.prog 26 #[.slice a n cap] w fun e w' => e = .returned (.int .i64 (countW V n)) ∧ Below w.heap.size w w' := by
  have hn := h.1
  have HC := Lib.hid h
  clear h
  go_enter Try.func26, Try.ntmps26
  go_wp2
  go_loopw [3, 8] (fun x i wr => ∃ k : Nat, k ≤ n ∧ i = .int .i64 k ∧ x = .int .i64 (countW V k) ∧ Below w.heap.size w wr) (fun _ i _ => n - (intOf i).toNat)
  case atStart => exact ⟨0, Nat.zero_le _, rfl, rfl, Below.refl _ _⟩
  case round =>
    obtain ⟨k, hk, rfl, rfl, hb⟩ := hrel
    have HB := Lib.hid hb
    have HR := Lib.hid (HC.out.below hb)
    have hcl := countW_le V k
    clear hb
    by_cases hlt : k < n
    · obtain ⟨b, off, rfl, zb, hc⟩ := HR.out.get hlt
      obtain ⟨ca, cc, x0, x1, x2, x3, _⟩ := hc k hlt
      have i0 : (0 : Int) ≤ (k : Int) := by omega
      have i1 : (k : Int) < (n : Int) := by omega
      clear hc
      by_cases hon : (V k).on = true
      · have HE := Lib.hid (show countW V (k + 1) = countW V k + 1 by simp only [countW]; rw [if_pos hon])
        rw [hon] at x0
        clear hon
        go_wp2
        go_roundw
        case rel => exact ⟨k + 1, by omega, by go_num, by rw [HE.out]; go_num, HB.out.alloc (by have := HB.out.size; omega) _⟩
        case measure => simp [intOf]; omega
      · have HE := Lib.hid (show countW V (k + 1) = countW V k by simp only [countW]; rw [if_neg hon]; rfl)
        have hon' : (V k).on = false := by simpa using hon
        rw [hon'] at x0
        clear hon hon'
        go_wp2
        go_roundw
        case rel => exact ⟨k + 1, by omega, by go_num, by rw [HE.out], HB.out.alloc (by have := HB.out.size; omega) _⟩
        case measure => simp [intOf]; omega
    · obtain rfl : k = n := by omega
      go_wp2
      go_ret
      exact ⟨rfl, HB.out⟩

set_option maxRecDepth 100000 in
set_option maxHeartbeats 3200000 in
theorem rcount_any (a : Option Addr) (n cap : Nat) (V : Nat → WV) (w : World) (h : WaitsAt w a n cap V) : Calls Try.prog 27 #[.slice a n cap] w fun e w' => e = .returned (.int .i64 (countW V n)) ∧ Below w.heap.size w w' := by
  have hn := h.1
  have HC := Lib.hid h
  clear h
  go_enter Try.func27, Try.ntmps27
  go_wp2
  go_loopw [3, 8] (fun x i wr => ∃ k : Nat, k ≤ n ∧ i = .int .i64 k ∧ x = .int .i64 (countW V k) ∧ Below w.heap.size w wr) (fun _ i _ => n - (intOf i).toNat)
  case atStart => exact ⟨0, Nat.zero_le _, rfl, rfl, Below.refl _ _⟩
  case round =>
    obtain ⟨k, hk, rfl, rfl, hb⟩ := hrel
    have HB := Lib.hid hb
    have HR := Lib.hid (HC.out.below hb)
    have hcl := countW_le V k
    clear hb
    by_cases hlt : k < n
    · obtain ⟨b, off, rfl, zb, hc⟩ := HR.out.get hlt
      obtain ⟨ca, cc, x0, x1, x2, x3, _⟩ := hc k hlt
      have i0 : (0 : Int) ≤ (k : Int) := by omega
      have i1 : (k : Int) < (n : Int) := by omega
      clear hc
      by_cases hon : (V k).on = true
      · have HE := Lib.hid (show countW V (k + 1) = countW V k + 1 by simp only [countW]; rw [if_pos hon])
        rw [hon] at x0
        clear hon
        go_wp2
        go_roundw
        case rel => exact ⟨k + 1, by omega, by go_num, by rw [HE.out]; go_num, HB.out.alloc (by have := HB.out.size; omega) _⟩
        case measure => simp [intOf]; omega
      · have HE := Lib.hid (show countW V (k + 1) = countW V k by simp only [countW]; rw [if_neg hon]; rfl)
        have hon' : (V k).on = false := by simpa using hon
        rw [hon'] at x0
        clear hon hon'
        go_wp2
        go_roundw
        case rel => exact ⟨k + 1, by omega, by go_num, by rw [HE.out], HB.out.alloc (by have := HB.out.size; omega) _⟩
        case measure => simp [intOf]; omega
    · obtain rfl : k = n := by omega
      go_wp2
      go_ret
      exact ⟨rfl, HB.out⟩
end Go.Proofs.Ytihpjfhibhpciaa
