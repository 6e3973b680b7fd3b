/- A row of numbers that came in, with its room. -/
import Derived.Test.YtdfbddepeacebaaOpen
namespace Go.Proofs.Ytdfbddepeacebaa
open Go.ChangeShapes Go.WideShapes Go.ChangeAt Go.RowKit Go.Joins Go.Deep

section
variable {H : Type} {enc : TypeId × Value → H} {w : World}
theorem open_row_cap {K : IntKind} {T E : TypeId} {r : Reach} {b0 : Nat} {v : Value} {d : DataW H} {p : List MemPlace} {ts : List TypeId} {dd : List (DataW H)} (j : Nat)
    (hT : Try.prog.underlying T = some (.slice E)) (hE : Try.prog.underlying E = some (.int K)) (hC : Try.prog.cellsOf E = 1) (hB : Try.prog.bytesOf E = 8)
    (hv : Value.okWide Try.prog w r b0 T v) (h : DataW.Trod enc Try.prog w 0 (fun _ => true) true T v d p)
    (hsz : (DataW.weightsEach Try.prog ts dd).all (· ≤ reachBytes) = true) (ht : ts[j]? = some T) (hd : dd[j]? = some d) :
    ∃ (a : Option Addr) (n cap : Nat) (f : Nat → Int), v = .slice a n cap ∧ (RowAt K w a n cap f ∧ n ≤ cap) ∧ ∀ i, i < n → (Lit.int K (f i)).wf = true := by
  obtain ⟨a0, len, cap, rfl⟩ := okWide_slice hT hv
  have h' := h
  obtain ⟨fuel, hf⟩ := h
  have hnc : len ≤ cap := by
    rcases open_ints hT hE hC hf with ⟨hcs, _⟩ | ⟨a, len', cap', zs, hcs, _, hl, _⟩
    · simp [Value.cells] at hcs
      omega
    · simp [Value.cells] at hcs
      omega
  obtain ⟨a, n, c, f, hv', hr, hw⟩ := open_row j hT hE hC hB hv h' hsz ht hd
  simp only [Value.slice.injEq] at hv'
  obtain ⟨rfl, rfl, rfl⟩ := hv'
  exact ⟨_, _, _, f, rfl, ⟨hr, hnc⟩, hw⟩
end
end Go.Proofs.Ytdfbddepeacebaa
