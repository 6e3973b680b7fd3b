/- One call that waits, and one channel, that came in: how they are opened. -/
import Derived.Test.YtihpjfhibhpciaaWtK
namespace Go.Proofs.Ytihpjfhibhpciaa
open Go.ChangeShapes Go.WideShapes Go.ChangeAt Go.RowKit Go.Joins Go.Deep

section
variable {H : Type} {enc : TypeId × Value → H} {w : World} {fuel : Nat} {cs : List Value} {x : DataW H × List MemPlace}
set_option maxRecDepth 100000 in
theorem open_wait {r : Reach} {b0 : Nat} {v : Value} {d : DataW H} {p : List MemPlace} {ts : List TypeId} {dd : List (DataW H)} (j : Nat)
    (hv : Value.okWide Try.prog w r b0 25 v) (h : DataW.Trod enc Try.prog w 0 (fun _ => true) true 25 v d p)
    (hsz : (DataW.weightsEach Try.prog ts dd).all (· ≤ reachBytes) = true) (ht : ts[j]? = some 25) (hd : dd[j]? = some d) :
    ∃ U : WV, OneAt w v U ∧ U.good := by
  obtain ⟨cs, rfl, _⟩ := okWide_struct Try.underlying25 hv
  obtain ⟨l⟩ := cs
  obtain ⟨fuel, hf⟩ := h
  obtain ⟨V, ca, cc, hcs, hr, hg⟩ := each_wait (show DataW.trod enc Try.prog w 0 (fun _ => true) true fuel 25 l = some (d, p) from hf) (fun k hk => by
    have := List.all_eq_true.1 hsz k (DataW.weights_mem_each ht hd k hk)
    simpa using this)
  subst hcs
  exact ⟨V, ⟨ca, cc, rfl, hr⟩, hg⟩
end
end Go.Proofs.Ytihpjfhibhpciaa
