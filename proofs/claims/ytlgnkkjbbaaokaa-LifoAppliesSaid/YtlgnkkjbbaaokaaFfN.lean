/- A call that came in: how it is opened. -/
import Derived.Test.YtlgnkkjbbaaokaaFfM
namespace Go.Proofs.Ytlgnkkjbbaaokaa
open Go.ChangeShapes Go.WideShapes Go.ChangeAt Go.RowKit Go.Joins Go.Deep

section
variable {H : Type} {enc : TypeId × Value → H} {w : World}
theorem open_req {r : Reach} {b0 : Nat} {v : Value} {d : DataW H} {p : List MemPlace}
    (hv : Value.okWide Try.prog w r b0 28 v) (h : DataW.Trod enc Try.prog w 0 (fun _ => true) true 28 v d p) :
    ∃ k ar x df ka kn kc, v = reqV k ar x df ka kn kc := by
  obtain ⟨cs, rfl, hcz⟩ := okWide_struct Try.underlying28 hv
  obtain ⟨l⟩ := cs
  match l, hcz.trans (show Try.prog.cellsOf 28 = 5 by kernel_rfl) with
  | [c0, c1, c2, c3, c4], _ =>
    obtain ⟨fuel, hf⟩ := h
    obtain ⟨xs, n, _, hx, hl, hxl, hg⟩ := DataW.trod_struct Try.underlying28 hf
    match xs, hxl with
    | [x0, x1, x2, x3, x4], _ =>
      have h0 : DataW.trod enc Try.prog w 0 (fun _ => true) true n 3 (([c0, c1, c2, c3, c4].drop 0).take (Try.prog.cellsOf 3)) = [x0, x1, x2, x3, x4][0]? := hg 0 _ rfl
      have h1 : DataW.trod enc Try.prog w 0 (fun _ => true) true n 3 (([c0, c1, c2, c3, c4].drop 1).take (Try.prog.cellsOf 3)) = [x0, x1, x2, x3, x4][1]? := hg 1 _ rfl
      have h2 : DataW.trod enc Try.prog w 0 (fun _ => true) true n 3 (([c0, c1, c2, c3, c4].drop 2).take (Try.prog.cellsOf 3)) = [x0, x1, x2, x3, x4][2]? := hg 2 _ rfl
      have h3 : DataW.trod enc Try.prog w 0 (fun _ => true) true n 4 (([c0, c1, c2, c3, c4].drop 3).take (Try.prog.cellsOf 4)) = [x0, x1, x2, x3, x4][3]? := hg 3 _ rfl
      have h4 : DataW.trod enc Try.prog w 0 (fun _ => true) true n 26 (([c0, c1, c2, c3, c4].drop 4).take (Try.prog.cellsOf 26)) = [x0, x1, x2, x3, x4][4]? := hg 4 _ rfl
      rw [show Try.prog.cellsOf 3 = 1 by kernel_rfl] at h0 h1 h2
      rw [show Try.prog.cellsOf 4 = 1 by kernel_rfl] at h3
      rw [show Try.prog.cellsOf 26 = 1 by kernel_rfl] at h4
      obtain ⟨k, e0, _, _⟩ := DataW.trod_int Try.underlying3 (show DataW.trod enc Try.prog w 0 (fun _ => true) true n 3 [c0] = some x0 from h0)
      obtain ⟨ar, e1, _, _⟩ := DataW.trod_int Try.underlying3 (show DataW.trod enc Try.prog w 0 (fun _ => true) true n 3 [c1] = some x1 from h1)
      obtain ⟨x, e2, _, _⟩ := DataW.trod_int Try.underlying3 (show DataW.trod enc Try.prog w 0 (fun _ => true) true n 3 [c2] = some x2 from h2)
      obtain ⟨df, e3, _⟩ := DataW.trod_bool Try.underlying4 (show DataW.trod enc Try.prog w 0 (fun _ => true) true n 4 [c3] = some x3 from h3)
      simp only [List.cons.injEq, and_true] at e0 e1 e2 e3
      subst e0 e1 e2 e3
      rcases open_slice Try.underlying26 (show DataW.trod enc Try.prog w 0 (fun _ => true) true n 26 [c4] = some x4 from h4) with ⟨hcs, _⟩ | ⟨a, len, cap, m, n', D, Pl, hcs, _⟩
      · obtain rfl : c4 = .slice none 0 0 := by simpa using hcs
        exact ⟨k, ar, x, df, none, 0, 0, rfl⟩
      · obtain rfl : c4 = .slice (some a) len cap := by simpa using hcs
        exact ⟨k, ar, x, df, some a, len, cap, rfl⟩
end
end Go.Proofs.Ytlgnkkjbbaaokaa
