/- A channel that came in: how it is opened. -/
import Derived.Test.YtihpjfhibhpciaaChA
import Derived.Test.YtihpjfhibhpciaaWtK
namespace Go.Proofs.Ytihpjfhibhpciaa
open Go.ChangeShapes Go.WideShapes Go.ChangeAt Go.RowKit Go.Joins Go.Deep

section
variable {H : Type} {enc : TypeId × Value → H} {w : World} {fuel : Nat} {cs : List Value} {x : DataW H × List MemPlace}
theorem each_num (h : DataW.trod enc Try.prog w 0 (fun _ => true) true fuel 3 cs = some x) : Nums 1 cs := by
  obtain ⟨a, e0, _, w0⟩ := DataW.trod_int Try.underlying3 h
  subst e0
  exact ⟨fun _ => a, fun j hj => by
    obtain rfl : j = 0 := by omega
    rfl, fun _ _ => w0⟩
theorem RowS.toAt {a : Option Addr} {n cap : Nat} {f : Nat → Nat → Int} (hn : n * 8 ≤ 140737488351232) (h : RowS 1 w a n cap f) : RowAt .i64 w a n cap (fun i => f i 0) := by
  obtain ⟨h1, h2, h3, h4⟩ := h
  refine ⟨hn, h2, fun h0 => ?_⟩
  obtain ⟨b, off, ha, hb, hc⟩ := h4 h0
  exact ⟨b, off, ha, hb, fun i hi => by have := hc i 0 hi (by omega); rwa [Nat.mul_one, Nat.add_zero] at this⟩
/-- A channel that can have come in. -/
def CH.good (C : CH) : Prop := (-9223372036854775808 ≤ C.gen ∧ C.gen ≤ 9223372036854775807) ∧ (-9223372036854775808 ≤ C.cap ∧ C.cap ≤ 9223372036854775807) ∧ ∀ i, i < C.n → -9223372036854775808 ≤ C.f i ∧ C.f i ≤ 9223372036854775807
set_option maxRecDepth 100000 in
theorem each_chan (h : DataW.trod enc Try.prog w 0 (fun _ => true) true fuel 44 cs = some x) (hsz : ∀ k ∈ x.1.weights Try.prog 44, k ≤ reachBytes) :
    ∃ (C : CH) (ca : Option Addr) (cc : Nat), cs = [.int .i64 C.gen, .int .i64 C.cap, .bool C.used, .bool C.closed, .slice ca C.n cc] ∧ RowAt .i64 w ca C.n cc C.f ∧ C.good := by
  obtain ⟨xs, n, _, hx, hl, hxl, hf⟩ := DataW.trod_struct Try.underlying44 h
  rw [show Try.prog.cellsOf 44 = 5 by kernel_rfl] at hl
  match cs, hl with
  | [c0, c1, c2, c3, c4], _ =>
    match xs, hxl with
    | [x0, x1, x2, x3, x4], _ =>
      have h0 : DataW.trod enc Try.prog w 0 (fun _ => true) true n 3 (([c0, c1, c2, c3, c4].drop 0).take (Try.prog.cellsOf 3)) = [x0, x1, x2, x3, x4][0]? := hf 0 _ rfl
      have h1 : DataW.trod enc Try.prog w 0 (fun _ => true) true n 3 (([c0, c1, c2, c3, c4].drop 1).take (Try.prog.cellsOf 3)) = [x0, x1, x2, x3, x4][1]? := hf 1 _ rfl
      have h2 : DataW.trod enc Try.prog w 0 (fun _ => true) true n 4 (([c0, c1, c2, c3, c4].drop 2).take (Try.prog.cellsOf 4)) = [x0, x1, x2, x3, x4][2]? := hf 2 _ rfl
      have h3 : DataW.trod enc Try.prog w 0 (fun _ => true) true n 4 (([c0, c1, c2, c3, c4].drop 3).take (Try.prog.cellsOf 4)) = [x0, x1, x2, x3, x4][3]? := hf 3 _ rfl
      have h4 : DataW.trod enc Try.prog w 0 (fun _ => true) true n 36 (([c0, c1, c2, c3, c4].drop 4).take (Try.prog.cellsOf 36)) = [x0, x1, x2, x3, x4][4]? := hf 4 _ rfl
      rw [show Try.prog.cellsOf 3 = 1 by kernel_rfl] at h0 h1
      rw [show Try.prog.cellsOf 4 = 1 by kernel_rfl] at h2 h3
      rw [show Try.prog.cellsOf 36 = 1 by kernel_rfl] at h4
      obtain ⟨gen, e0, _, w0⟩ := DataW.trod_int Try.underlying3 (show DataW.trod enc Try.prog w 0 (fun _ => true) true n 3 [c0] = some x0 from h0)
      obtain ⟨cp, e1, _, w1⟩ := DataW.trod_int Try.underlying3 (show DataW.trod enc Try.prog w 0 (fun _ => true) true n 3 [c1] = some x1 from h1)
      obtain ⟨us, e2, _⟩ := DataW.trod_bool Try.underlying4 (show DataW.trod enc Try.prog w 0 (fun _ => true) true n 4 [c2] = some x2 from h2)
      obtain ⟨cl, e3, _⟩ := DataW.trod_bool Try.underlying4 (show DataW.trod enc Try.prog w 0 (fun _ => true) true n 4 [c3] = some x3 from h3)
      obtain ⟨ca, m, cc, c, e4, r4, w4, s4⟩ := open_rows Try.underlying36 (show Try.prog.cellsOf 3 = 1 by kernel_rfl) (by omega) each_num (show DataW.trod enc Try.prog w 0 (fun _ => true) true n 36 [c4] = some x4 from h4)
      simp only [List.cons.injEq, and_true] at e0 e1 e2 e3
      subst e0 e1 e2 e3 e4
      have hx1 : x.1 = .agg [x0.1, x1.1, x2.1, x3.1, x4.1] := by rw [hx]; rfl
      rw [hx1] at hsz
      have hmem' : (DataW.weightsEach Try.prog [3, 3, 4, 4, 36] [x0.1, x1.1, x2.1, x3.1, x4.1]).all (· ≤ reachBytes) = true := List.all_eq_true.2 (fun k hk => by
        have := hsz k (by
          rw [DataW.weights, Try.underlying44]
          exact hk)
        simpa using this)
      have b4 : m * (1 * 8) ≤ 140737488351232 := by
        rcases s4 with rfl | ⟨el, sp, hxs, rfl⟩
        · omega
        · have := sized_slice hmem' (j := 4) rfl (by rw [hxs]; rfl) Try.underlying36
          rw [show Try.prog.bytesOf 3 = 8 by kernel_rfl] at this
          simp only [reachBytes] at this
          omega
      exact ⟨⟨gen, cp, us, cl, m, fun i => c i 0⟩, ca, cc, rfl, (r4 b4).toAt (by omega), bounds_i64 w0, bounds_i64 w1, fun i hi => bounds_i64 (w4 i 0 hi (by omega))⟩
set_option maxRecDepth 100000 in
theorem open_chan {r : Reach} {b0 : Nat} {v : Value} {d : DataW H} {p : List MemPlace} {ts : List TypeId} {dd : List (DataW H)} (j : Nat)
    (hv : Value.okWide Try.prog w r b0 44 v) (h : DataW.Trod enc Try.prog w 0 (fun _ => true) true 44 v d p)
    (hsz : (DataW.weightsEach Try.prog ts dd).all (· ≤ reachBytes) = true) (ht : ts[j]? = some 44) (hd : dd[j]? = some d) :
    ∃ (C : CH) (ca : Option Addr) (cc : Nat), v = .agg #[.int .i64 C.gen, .int .i64 C.cap, .bool C.used, .bool C.closed, .slice ca C.n cc] ∧ ChanAt w v C ∧ C.good := by
  obtain ⟨cs, rfl, _⟩ := okWide_struct Try.underlying44 hv
  obtain ⟨l⟩ := cs
  obtain ⟨fuel, hf⟩ := h
  obtain ⟨C, ca, cc, hcs, hr, hg⟩ := each_chan (show DataW.trod enc Try.prog w 0 (fun _ => true) true fuel 44 l = some (d, p) from hf) (fun k hk => by
    have := List.all_eq_true.1 hsz k (DataW.weights_mem_each ht hd k hk)
    simpa using this)
  subst hcs
  exact ⟨C, ca, cc, rfl, ⟨ca, cc, rfl, hr⟩, hg⟩
end
end Go.Proofs.Ytihpjfhibhpciaa
