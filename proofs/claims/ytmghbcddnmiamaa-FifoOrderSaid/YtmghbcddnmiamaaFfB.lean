/- Cells: how they read; what a call does to them, as data; why a call can't be done. -/
import Derived.Test.YtmghbcddnmiamaaFfA
import Derived.Deep.AppendLies
namespace Go.Proofs.Ytmghbcddnmiamaa
open Go.ChangeShapes Go.WideShapes Go.ChangeAt Go.RowKit Go.Joins

theorem abstract_code {P : Program} {c : Code} {Q : Exit → Act → World → Prop} {a : Act} {W : World} (A : World → Prop) (hA : A W) (h : ∀ W', A W' → Code.wp P c Q a W') : Code.wp P c Q a W := h W hA
theorem below_grownBy {w w' : World} (h : Below w.heap.size w w') (row : Option Nat) : w.grownBy w' row := ⟨h.os, h.tape, h.output, h.size, fun k hk _ => h.block k hk⟩
theorem own_below {w w' : World} {B E s n : Nat} {v : Value} {xs : List Value} (h : w.ownsRow B E s v n xs) (hb : Below w.heap.size w w') : w'.ownsRow B E s v n xs :=
  h.kept (below_grownBy hb none) (by cases hv : v.ownBlock <;> simp)
theorem below_next {a W w3 : World} (h : Below a.heap.size a W) (hb : Below W.heap.size W w3) : Below a.heap.size a w3 := h.trans (hb.mono h.size)
theorem own_form {w : World} {B E s n : Nat} {v : Value} {xs : List Value} (h : w.ownsRow B E s v n xs) : ∃ a cap, v = .slice a n cap := by
  rcases h.2 with ⟨rfl, rfl⟩ | ⟨g, cap, cur, rfl, _⟩
  · exact ⟨_, _, rfl⟩
  · exact ⟨_, _, rfl⟩
/-- Rows in blocks of their own. -/
def Apart (v v' : Value) : Prop := v.ownBlock = none ∨ v.ownBlock ≠ v'.ownBlock
theorem own_apart {w w' : World} {B E E' s s' n n' : Nat} {v v' : Value} {xs ys : List Value} (h : w.ownsRow B E s v n xs) (h' : w'.ownsRow w.heap.size E' s' v' n' ys) : Apart v v' := by
  unfold Apart
  cases hv : v.ownBlock with
  | none => exact .inl rfl
  | some g =>
    right
    intro e
    have h1 := (h.lt g hv).2
    have h2 := (h'.lt g e.symm).1
    omega
theorem Apart.symm {v v' : Value} (h : Apart v v') : Apart v' v := by
  unfold Apart at *
  cases hv : v'.ownBlock with
  | none => exact .inl rfl
  | some k =>
    right
    intro e
    rcases h with h | h
    · rw [h] at e; cases e
    · exact h (hv.trans e).symm
/-- Numbers that lie in a block of which P holds. -/
def RowP (P : Nat → Prop) (w : World) (a : Option Addr) (n cap : Nat) (f : Nat → Int) : Prop :=
  n * 8 ≤ 140737488355328 ∧ (a = none → n = 0 ∧ cap = 0) ∧ n ≤ cap ∧ (0 < n → ∃ b off, a = some ⟨b, off, none⟩ ∧ (b < w.heap.size ∧ P b) ∧ ∀ i, i < n → w.cell? ⟨b, off + i, none⟩ = some (.int .i64 (f i)))
section
variable {P Q : Nat → Prop} {w w' : World} {a : Option Addr} {n cap : Nat} {f g : Nat → Int}
theorem RowP.row (h : RowP P w a n cap f) : RowI w a n cap f := by
  refine ⟨h.1, h.2.1, h.2.2.1, fun h0 => ?_⟩
  obtain ⟨b, off, ha, hb, hi⟩ := h.2.2.2 h0
  exact ⟨b, off, ha, hb.1, hi⟩
theorem RowP.imp (h : RowP P w a n cap f) (hPQ : ∀ b, b < w.heap.size → P b → Q b) : RowP Q w a n cap f := by
  refine ⟨h.1, h.2.1, h.2.2.1, fun h0 => ?_⟩
  obtain ⟨b, off, ha, hb, hi⟩ := h.2.2.2 h0
  exact ⟨b, off, ha, ⟨hb.1, hPQ b hb.1 hb.2⟩, hi⟩
theorem RowP.keep (h : RowP P w a n cap f) (hs : w.heap.size ≤ w'.heap.size) (hc : ∀ b o, b < w.heap.size → P b → w'.cell? ⟨b, o, none⟩ = w.cell? ⟨b, o, none⟩) : RowP P w' a n cap f := by
  refine ⟨h.1, h.2.1, h.2.2.1, fun h0 => ?_⟩
  obtain ⟨b, off, ha, hb, hi⟩ := h.2.2.2 h0
  exact ⟨b, off, ha, ⟨by omega, hb.2⟩, fun i hin => (hc _ _ hb.1 hb.2).trans (hi i hin)⟩
theorem RowP.below (h : RowP P w a n cap f) (hw : Below w.heap.size w w') : RowP P w' a n cap f := h.keep hw.size fun b o hb _ => (bcell hw).1 b o hb
theorem RowP.setCell (h : RowP P w a n cap f) {q i : Nat} {x : Value} (hq : ¬ P q) : RowP P (w.setCell ⟨q, i, none⟩ x) a n cap f :=
  h.keep (by simp) fun b o _ hP => World.cell?_setCell_other _ _ _ _ (fun e => hq (by injection e with e; rw [e]; exact hP))
theorem RowP.same (h : RowP P w a n cap f) (hg : ∀ i, i < n → f i = g i) : RowP P w a n cap g := by
  refine ⟨h.1, h.2.1, h.2.2.1, fun h0 => ?_⟩
  obtain ⟨b, off, ha, hb, hi⟩ := h.2.2.2 h0
  exact ⟨b, off, ha, hb, fun i h => by rw [← hg i h]; exact hi i h⟩
end
theorem RowI.toP {w : World} {a : Option Addr} {n cap : Nat} {f : Nat → Int} (h : RowI w a n cap f) : RowP (fun b => b < w.heap.size) w a n cap f := by
  refine ⟨h.1, h.2.1, h.2.2.1, fun h0 => ?_⟩
  obtain ⟨b, off, ha, hb, hi⟩ := h.2.2.2 h0
  exact ⟨b, off, ha, ⟨hb, hb⟩, hi⟩
theorem RowP.of {E B : Nat} {w : World} {n : Nat} {f : Nat → Int} {v : Value} (hl : n * 8 ≤ 140737488355328) (h : w.ownsRow B E 1 v n (rowL .i64 f n)) : ∃ a cap, v = .slice a n cap ∧ RowP (fun b => v.ownBlock = some b) w a n cap f := by
  obtain ⟨a, cap, rfl, hr⟩ := RowI.of hl h
  refine ⟨a, cap, rfl, hr.1, hr.2.1, hr.2.2.1, fun h0 => ?_⟩
  obtain ⟨b, off, rfl, hb, hi⟩ := hr.2.2.2 h0
  exact ⟨b, off, rfl, ⟨hb, rfl⟩, hi⟩

/-- Cells. -/
structure CV where
  cap : Int
  n : Nat
  f : Nat → Int
  m : Nat
  g : Nat → Nat → Int
/-- 'v' reads as cells. -/
def CellsAt (w : World) (v : Value) (C : CV) : Prop :=
  ∃ la lc da dc, v = .agg #[.int .i64 C.cap, .slice la C.n lc, .slice da C.m dc] ∧ RowI w la C.n lc C.f ∧ RowS 4 w da C.m dc C.g
theorem CellsAt.below {w w' : World} {v : Value} {C : CV} (h : CellsAt w v C) (hb : Below w.heap.size w w') : CellsAt w' v C := by
  obtain ⟨la, lc, da, dc, hv, h1, h2⟩ := h
  exact ⟨la, lc, da, dc, hv, h1.below hb, h2.below hb⟩
/-- What is returned reads as cells. -/
def RetAt (C : CV) (w : World) (e : Ending) (w' : World) : Prop := ∃ v, e = .returned v ∧ CellsAt w' v C ∧ Below w.heap.size w w'
def CV.code (C : CV) (k : Int) : Int := if k = 8 then (if (C.n : Int) < C.cap then 0 else 10) else if k = 9 then (if C.n = 0 then 10 else 0) else if k = 5 then 0 else if k = 6 then 0 else 1
def CV.told (C : CV) (last : Bool) (k : Int) : Int := if k = 9 then (if C.n = 0 then 0 else if last then C.f (C.n - 1) else C.f 0) else if k = 5 then (C.n : Int) else if k = 6 then C.cap else 0
def CV.after (C : CV) (last : Bool) (k x : Int) : CV :=
  if k = 8 then (if (C.n : Int) < C.cap then ⟨C.cap, C.n + 1, updI C.f C.n x, C.m, C.g⟩ else C)
  else if k = 9 then (if C.n = 0 then C else ⟨C.cap, C.n - 1, if last then C.f else fun i => C.f (i + 1), C.m, C.g⟩) else C
def res4 (seq code x : Int) : Nat → Int := fun j => if j = 0 then seq else if j = 2 then code else if j = 3 then x else 0
def CV.note (C : CV) (t : Int) (r : Nat → Int) : CV := if 0 ≤ t ∧ t < C.m then ⟨C.cap, C.n, C.f, C.m, fun i j => if i = t.toNat then r j else C.g i j⟩ else C
/-- Cells behind a call of a thread. -/
def CV.apply (C : CV) (last : Bool) (t seq k x : Int) : CV := (C.after last k x).note t (res4 seq (C.code k) (C.told last k))
theorem after_m (C : CV) (last : Bool) (k x : Int) : (C.after last k x).m = C.m ∧ (C.after last k x).g = C.g ∧ (C.after last k x).cap = C.cap := by
  unfold CV.after
  split
  · split <;> exact ⟨rfl, rfl, rfl⟩
  · split
    · split <;> exact ⟨rfl, rfl, rfl⟩
    · exact ⟨rfl, rfl, rfl⟩
theorem after_n (C : CV) (last : Bool) (k x : Int) : (C.after last k x).n ≤ C.n + 1 := by
  unfold CV.after
  split
  · split
    · exact Nat.le_refl _
    · exact Nat.le_succ _
  · split
    · split
      · exact Nat.le_succ _
      · show C.n - 1 ≤ _; omega
    · exact Nat.le_succ _

set_option maxRecDepth 100000 in
theorem why_any (v : Value) (C : CV) (k : Int) (w : World) (h : CellsAt w v C) : Calls Try.prog 20 #[v, .int .i64 k] w fun e w' => e = .returned (.int .i64 (C.code k)) ∧ Below w.heap.size w w' := by
  obtain ⟨la, lc, da, dc, rfl, hl, hd⟩ := h
  obtain ⟨cp, n, f, m, g⟩ := C
  dsimp only at hl hd ⊢
  have hn := hl.1
  clear hl hd
  by_cases h8 : k = 8
  · subst h8
    by_cases hr : (n : Int) < cp
    · have hr' : ¬ cp ≤ (n : Int) := by omega
      have hc : CV.code ⟨cp, n, f, m, g⟩ 8 = 0 := by simp [CV.code, hr]
      rw [hc]
      clear hc
      go_enter Try.func20, Try.ntmps20
      go_wp2
      go_ret
      exact ⟨rfl, (Below.refl _ _).alloc (Nat.le_refl _) _⟩
    · have hr' : cp ≤ (n : Int) := by omega
      have hc : CV.code ⟨cp, n, f, m, g⟩ 8 = 10 := by simp [CV.code, hr]
      rw [hc]
      clear hc
      go_enter Try.func20, Try.ntmps20
      go_wp2
      go_ret
      exact ⟨rfl, (Below.refl _ _).alloc (Nat.le_refl _) _⟩
  have e8 : (k == 8) = false := by simpa using h8
  by_cases h9 : k = 9
  · subst h9
    clear h8 e8
    by_cases hr : n = 0
    · subst hr
      rw [show CV.code ⟨cp, 0, f, m, g⟩ 9 = 10 from rfl]
      go_enter Try.func20, Try.ntmps20
      go_wp2
      go_ret
      exact ⟨rfl, (Below.refl _ _).alloc (Nat.le_refl _) _⟩
    · have hr' : ((n : Int) == 0) = false := by simpa using hr
      have hc : CV.code ⟨cp, n, f, m, g⟩ 9 = 0 := by simp [CV.code, hr]
      rw [hc]
      clear hc
      go_enter Try.func20, Try.ntmps20
      go_wp2
      go_ret
      exact ⟨rfl, (Below.refl _ _).alloc (Nat.le_refl _) _⟩
  have e9 : (k == 9) = false := by simpa using h9
  by_cases h5 : k = 5
  · subst h5
    clear h8 e8 h9 e9
    rw [show CV.code ⟨cp, n, f, m, g⟩ 5 = 0 from rfl]
    go_enter Try.func20, Try.ntmps20
    go_wp2
    go_ret
    exact ⟨rfl, (Below.refl _ _).alloc (Nat.le_refl _) _⟩
  have e5 : (k == 5) = false := by simpa using h5
  by_cases h6 : k = 6
  · subst h6
    clear h8 e8 h9 e9 h5 e5
    rw [show CV.code ⟨cp, n, f, m, g⟩ 6 = 0 from rfl]
    go_enter Try.func20, Try.ntmps20
    go_wp2
    go_ret
    exact ⟨rfl, (Below.refl _ _).alloc (Nat.le_refl _) _⟩
  have e6 : (k == 6) = false := by simpa using h6
  have hc : CV.code ⟨cp, n, f, m, g⟩ k = 1 := by simp [CV.code, h8, h9, h5, h6]
  rw [hc]
  clear h8 h9 h5 h6 hc
  go_enter Try.func20, Try.ntmps20
  go_wp2
  go_ret
  exact ⟨rfl, (Below.refl _ _).alloc (Nat.le_refl _) _⟩
end Go.Proofs.Ytmghbcddnmiamaa
