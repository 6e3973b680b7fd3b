/- Rows of integers: how they read, and how an argument is opened as one. -/
import Derived.Test.YtihpjfhibhpciaaRows
import Derived.WalkKit
import Derived.ProofKit
import Derived.OpenShut
import Derived.Lib.Hide
import Derived.Lib.SmallJoins
import Derived.BigQuiet
import Derived.Deep.QuietTactic
import Derived.LoopTactic
import Derived.WalkSpells
import Derived.WalkLawsBesides
import Derived.Deep.RegionHeld3
import Derived.Below
import Derived.ChangeSame
import Derived.Carry
import Derived.SizedLaws
import Derived.Deep.Slices
import Derived.Deep.Fields
namespace Go.Proofs.Ytihpjfhibhpciaa
open Go.ChangeShapes Go.WideShapes Go.ChangeAt Go.RowKit Go.Joins Go.Deep

theorem ret_bool {x y : Bool} (h : y = x) : Ending.returned (.bool x) = Ending.returned (.bool y) := by rw [h]
theorem ret_int {K : IntKind} {x y : Int} (h : y = x) : Ending.returned (.int K x) = Ending.returned (.int K y) := by rw [h]
theorem ret_two {K : IntKind} {x y : Int} {b c : Bool} (h : y = x) (h' : c = b) : Ending.returned (.tuple #[.int K x, .bool b]) = Ending.returned (.tuple #[.int K y, .bool c]) := by rw [h, h']
theorem bcell {W w1 : World} (hb : Below W.heap.size W w1) : (∀ b o, b < W.heap.size → w1.cell? ⟨b, o, none⟩ = W.cell? ⟨b, o, none⟩) ∧ (∀ b o, b < W.heap.size → w1.frozen? ⟨b, o, none⟩ = W.frozen? ⟨b, o, none⟩) :=
  ⟨fun b o h => hb.cell (p := ⟨b, o, none⟩) h, fun b o h => hb.frozen (p := ⟨b, o, none⟩) h⟩
theorem below_drewN {B : Nat} {a w : World} (h : Below B a w) (n : Nat) : Below B a (w.drewN n) := ⟨h.os, h.tape, h.output, h.size, h.block⟩
theorem below_at {a w : World} (h : Below a.heap.size a w) {B : Nat} {c : World} (hc : Below B c a) (hB : B ≤ a.heap.size) : Below B c w := hc.trans (h.mono hB)
def SomeDraws (w w' : World) : Prop := ∃ k, w' = w.drewN k
theorem SomeDraws.below {w w' : World} (h : SomeDraws w w') : Below w.heap.size w w' := by
  obtain ⟨k, rfl⟩ := h; exact below_drewN (Below.refl _ _) k
theorem SomeDraws.drew {w w' : World} (h : SomeDraws w w') (n : Nat) : SomeDraws w (w'.drewN n) := by
  obtain ⟨k, rfl⟩ := h; exact ⟨k + n, World.drewN_drewN _ _ _⟩

/-- 'n' integers 'f' of kind 'K' lie from an address on. -/
def RowAt (K : IntKind) (w : World) (a : Option Addr) (n cap : Nat) (f : Nat → Int) : Prop :=
  n * 8 ≤ 140737488351232 ∧ (a = none → n = 0 ∧ cap = 0) ∧ (0 < n → ∃ b off, a = some ⟨b, off, none⟩ ∧ b < w.heap.size ∧ ∀ i, i < n → w.cell? ⟨b, off + i, none⟩ = some (.int K (f i)))

section
variable {K : IntKind} {w w' : World} {a : Option Addr} {n cap : Nat} {f : Nat → Int}
theorem RowAt.below (h : RowAt K w a n cap f) (hw : Below w.heap.size w w') : RowAt K w' a n cap f := by
  refine ⟨h.1, h.2.1, fun h0 => ?_⟩
  obtain ⟨b, off, ha, hb, hi⟩ := h.2.2 h0
  exact ⟨b, off, ha, Nat.lt_of_lt_of_le hb hw.size, fun i h => by rw [(bcell hw).1 _ _ hb]; exact hi i h⟩
theorem RowAt.drewN (h : RowAt K w a n cap f) (m : Nat) : RowAt K (w.drewN m) a n cap f := h.below (below_drewN (Below.refl _ _) m)
theorem RowAt.alloc (h : RowAt K w a n cap f) (o : Go.Obj) : RowAt K (w.alloc o) a n cap f := h.below ((Below.refl _ _).alloc (Nat.le_refl _) _)
theorem RowAt.get (h : RowAt K w a n cap f) {k : Nat} (hk : k < n) : ∃ b off, a = some ⟨b, off, none⟩ ∧ b < w.heap.size ∧ ∀ i, i < n → w.cell? ⟨b, off + i, none⟩ = some (.int K (f i)) := h.2.2 (by omega)
end

set_option maxRecDepth 100000 in
theorem own : ownKnob Try.prog.godebug = none := by kernel_rfl
set_option maxRecDepth 100000 in
theorem Try.laidOut : laidOutB Try.prog = true := by kernel_rfl

section
variable {H : Type} {enc : TypeId × Value → H} {w : World}
set_option maxRecDepth 100000 in
theorem open_row {K : IntKind} {T E : TypeId} {r : Reach} {b0 : Nat} {v : Value} {d : DataW H} {p : List MemPlace} {ts : List TypeId} {dd : List (DataW H)} (j : Nat)
    (hT : Try.prog.underlying T = some (.slice E)) (hE : Try.prog.underlying E = some (.int K)) (hC : Try.prog.cellsOf E = 1) (hB : Try.prog.bytesOf E = 8)
    (hv : Value.okWide Try.prog w r b0 T v) (h : DataW.Trod enc Try.prog w 0 (fun _ => true) true T v d p)
    (hsz : (DataW.weightsEach Try.prog ts dd).all (· ≤ reachBytes) = true) (ht : ts[j]? = some T) (hd : dd[j]? = some d) :
    ∃ (a : Option Addr) (n cap : Nat) (f : Nat → Int), v = .slice a n cap ∧ RowAt K w a n cap f ∧ ∀ i, i < n → (Lit.int K (f i)).wf = true := by
  obtain ⟨a0, len, cap, rfl⟩ := okWide_slice hT hv
  obtain ⟨fuel, hf⟩ := h
  rcases open_ints hT hE hC hf with ⟨hcs, _⟩ | ⟨a, len', cap', zs, hcs, _, hl, hm, hz, hx, hcell, hwz⟩
  · simp [Value.cells] at hcs
    obtain ⟨rfl, rfl, rfl⟩ := hcs
    exact ⟨_, _, _, fun _ => 0, rfl, ⟨by simp, fun _ => ⟨rfl, rfl⟩, fun h => absurd h (by omega)⟩, fun i hi => absurd hi (by omega)⟩
  · simp [Value.cells] at hcs
    obtain ⟨rfl, rfl, rfl⟩ := hcs
    simp only [if_true] at hz
    simp only [Prod.mk.injEq] at hx
    obtain ⟨rfl, rfl⟩ := hx
    have hreach : len * 8 ≤ 140737488351232 := by
      have := sized_slice hsz ht hd hT
      rw [hB] at this
      simp only [lits, List.length_map, List.length_take, List.length_drop, reachBytes] at this
      omega
    refine ⟨some a, len, cap, fun i => zs.getD i 0, rfl, ⟨hreach, (fun h => by cases h), fun h0 => ?_⟩, fun i hi => hwz _ ?_⟩
    · obtain ⟨b, off, rfl, hc⟩ := ints_at hcell (by omega)
      exact ⟨b, off, rfl, World.block_lt_of_cell? w _ (hc 0 (by omega)), fun i hi => hc i (by omega)⟩
    · show zs.getD i 0 ∈ zs
      rw [List.getD_eq_getElem?_getD, List.getElem?_eq_getElem (by omega)]
      exact List.getElem_mem _
end
end Go.Proofs.Ytihpjfhibhpciaa
