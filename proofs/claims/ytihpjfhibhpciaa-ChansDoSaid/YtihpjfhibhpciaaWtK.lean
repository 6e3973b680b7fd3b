/- Calls that wait that came in: how they are opened. -/
import Derived.Test.YtihpjfhibhpciaaWtJ
namespace Go.Proofs.Ytihpjfhibhpciaa
open Go.ChangeShapes Go.WideShapes Go.ChangeAt Go.RowKit Go.Joins Go.Deep

section
variable {H : Type} {enc : TypeId × Value → H} {w : World} {fuel : Nat} {cs : List Value} {x : DataW H × List MemPlace}
/-- 'cs' is so many whole numbers. -/
def Nums (s : Nat) (cs : List Value) : Prop := ∃ g : Nat → Int, (∀ j, j < s → cs[j]? = some (.int .i64 (g j))) ∧ ∀ j, j < s → (Lit.int .i64 (g j)).wf = true
set_option maxRecDepth 100000 in
theorem each_case (h : DataW.trod enc Try.prog w 0 (fun _ => true) true fuel 41 cs = some x) : Nums 3 cs := by
  obtain ⟨xs, n, _, _, hl, hxl, hf⟩ := DataW.trod_struct Try.underlying41 h
  rw [show Try.prog.cellsOf 41 = 3 by kernel_rfl] at hl
  match cs, hl with
  | [c0, c1, c2], _ =>
    match xs, hxl with
    | [x0, x1, x2], _ =>
      have h0 : DataW.trod enc Try.prog w 0 (fun _ => true) true n 3 (([c0, c1, c2].drop 0).take (Try.prog.cellsOf 3)) = [x0, x1, x2][0]? := hf 0 _ rfl
      have h1 : DataW.trod enc Try.prog w 0 (fun _ => true) true n 3 (([c0, c1, c2].drop 1).take (Try.prog.cellsOf 3)) = [x0, x1, x2][1]? := hf 1 _ rfl
      have h2 : DataW.trod enc Try.prog w 0 (fun _ => true) true n 3 (([c0, c1, c2].drop 2).take (Try.prog.cellsOf 3)) = [x0, x1, x2][2]? := hf 2 _ rfl
      rw [show Try.prog.cellsOf 3 = 1 by kernel_rfl] at h0 h1 h2
      obtain ⟨a, e0, _, w0⟩ := DataW.trod_int Try.underlying3 (show DataW.trod enc Try.prog w 0 (fun _ => true) true n 3 [c0] = some x0 from h0)
      obtain ⟨b, e1, _, w1⟩ := DataW.trod_int Try.underlying3 (show DataW.trod enc Try.prog w 0 (fun _ => true) true n 3 [c1] = some x1 from h1)
      obtain ⟨c, e2, _, w2⟩ := DataW.trod_int Try.underlying3 (show DataW.trod enc Try.prog w 0 (fun _ => true) true n 3 [c2] = some x2 from h2)
      simp only [List.cons.injEq, and_true] at e0 e1 e2
      subst e0 e1 e2
      refine ⟨fun j => if j = 0 then a else if j = 1 then b else c, fun j hj => ?_, fun j hj => ?_⟩
      · match j, hj with
        | 0, _ => rfl
        | 1, _ => rfl
        | 2, _ => rfl
      · dsimp only
        split
        · exact w0
        · split
          · exact w1
          · exact w2
set_option maxRecDepth 100000 in
theorem open_rows {s T E : Nat} {v : Value} (hT : Try.prog.underlying T = some (.slice E)) (hC : Try.prog.cellsOf E = s) (hs : 0 < s)
    (each : ∀ {fuel : Nat} {cs : List Value} {x : DataW H × List MemPlace}, DataW.trod enc Try.prog w 0 (fun _ => true) true fuel E cs = some x → Nums s cs)
    (h : DataW.trod enc Try.prog w 0 (fun _ => true) true fuel T [v] = some x) :
    ∃ (a : Option Addr) (n cap : Nat) (f : Nat → Nat → Int), v = .slice a n cap ∧ (n * (s * 8) ≤ 140737488351232 → RowS s w a n cap f) ∧ (∀ i j, i < n → j < s → (Lit.int .i64 (f i j)).wf = true) ∧ (n = 0 ∨ ∃ el sp, x.1 = .slice el sp ∧ el.length = n) := by
  rcases open_slice hT h with ⟨hcs, _⟩ | ⟨a, len, cap, m, n, D, Pl, hcs, _, hl, hm, hmm, hx, hi⟩
  · obtain rfl : v = .slice none 0 0 := by simpa using hcs
    exact ⟨none, 0, 0, fun _ _ => 0, rfl, fun _ => RowS.nil rfl rfl, fun i j hi => absurd hi (by omega), .inl rfl⟩
  · obtain rfl : v = .slice (some a) len cap := by simpa using hcs
    simp only [if_true] at hmm
    subst hmm
    rw [hC] at hi
    have each' : ∀ i, i < len → ∃ g : Nat → Int, (∀ j, j < s → w.cell? ((a.add (i * s)).add j) = some (.int .i64 (g j))) ∧ ∀ j, j < s → (Lit.int .i64 (g j)).wf = true := by
      intro i hil
      obtain ⟨cs', hc, ht⟩ := hi i (by omega)
      obtain ⟨_, hcl, hat⟩ := World.cells?_some hc
      obtain ⟨g, hg, hw⟩ := each ht
      exact ⟨g, fun j hj => (hat j hj).trans (hg j hj), hw⟩
    obtain ⟨f, hf⟩ : ∃ f : Nat → Nat → Int, ∀ i, i < len → (∀ j, j < s → w.cell? ((a.add (i * s)).add j) = some (.int .i64 (f i j))) ∧ ∀ j, j < s → (Lit.int .i64 (f i j)).wf = true :=
      ⟨fun i => if hi : i < len then (each' i hi).choose else fun _ => 0, fun i hi => by simp only [hi, dif_pos]; exact (each' i hi).choose_spec⟩
    refine ⟨some a, len, m, f, rfl, fun hr => ⟨Nat.le_trans hr (by decide), (fun h => by cases h), hl, fun h0 => ?_⟩, fun i j hi hj => (hf i hi).2 j hj, .inr ⟨_, _, by rw [hx], by simp⟩⟩
    obtain ⟨b, off, spot⟩ := a
    have h00 := (hf 0 h0).1 0 hs
    have hspot : spot = none := by simpa [Addr.add] using World.cell?_spot h00
    subst hspot
    have hadd : ∀ o j, (⟨b, o, none⟩ : Addr).add j = ⟨b, o + j, none⟩ := fun o j => Go.WideShapes.add_plain ..
    refine ⟨b, off, rfl, World.block_lt_of_cell? w _ (by simpa [hadd] using h00), fun i j hi hj => ?_⟩
    have := (hf i hi).1 j hj
    rw [hadd, hadd] at this
    exact this

/-- What each number of a call that waits may be. -/
def WV.good (V : WV) : Prop := (-9223372036854775808 ≤ V.tk ∧ V.tk ≤ 9223372036854775807) ∧ (-9223372036854775808 ≤ V.sq ∧ V.sq ≤ 9223372036854775807) ∧ ∀ i j, i < V.m → j < 3 → -9223372036854775808 ≤ V.c i j ∧ V.c i j ≤ 9223372036854775807
set_option maxRecDepth 100000 in
theorem each_wait (h : DataW.trod enc Try.prog w 0 (fun _ => true) true fuel 25 cs = some x) (hsz : ∀ k ∈ x.1.weights Try.prog 25, k ≤ reachBytes) :
    ∃ (V : WV) (ca : Option Addr) (cc : Nat), cs = [.bool V.on, .int .i64 V.tk, .int .i64 V.sq, .slice ca V.m cc] ∧ RowS 3 w ca V.m cc V.c ∧ V.good := by
  obtain ⟨xs, n, _, hx, hl, hxl, hf⟩ := DataW.trod_struct Try.underlying25 h
  rw [show Try.prog.cellsOf 25 = 4 by kernel_rfl] at hl
  match cs, hl with
  | [c0, c1, c2, c3], _ =>
    match xs, hxl with
    | [x0, x1, x2, x3], _ =>
      have h0 : DataW.trod enc Try.prog w 0 (fun _ => true) true n 4 (([c0, c1, c2, c3].drop 0).take (Try.prog.cellsOf 4)) = [x0, x1, x2, x3][0]? := hf 0 _ rfl
      have h1 : DataW.trod enc Try.prog w 0 (fun _ => true) true n 3 (([c0, c1, c2, c3].drop 1).take (Try.prog.cellsOf 3)) = [x0, x1, x2, x3][1]? := hf 1 _ rfl
      have h2 : DataW.trod enc Try.prog w 0 (fun _ => true) true n 3 (([c0, c1, c2, c3].drop 2).take (Try.prog.cellsOf 3)) = [x0, x1, x2, x3][2]? := hf 2 _ rfl
      have h3 : DataW.trod enc Try.prog w 0 (fun _ => true) true n 23 (([c0, c1, c2, c3].drop 3).take (Try.prog.cellsOf 23)) = [x0, x1, x2, x3][3]? := hf 3 _ rfl
      rw [show Try.prog.cellsOf 4 = 1 by kernel_rfl] at h0
      rw [show Try.prog.cellsOf 3 = 1 by kernel_rfl] at h1 h2
      rw [show Try.prog.cellsOf 23 = 1 by kernel_rfl] at h3
      obtain ⟨on, e0, _⟩ := DataW.trod_bool Try.underlying4 (show DataW.trod enc Try.prog w 0 (fun _ => true) true n 4 [c0] = some x0 from h0)
      obtain ⟨tk, e1, _, w1⟩ := DataW.trod_int Try.underlying3 (show DataW.trod enc Try.prog w 0 (fun _ => true) true n 3 [c1] = some x1 from h1)
      obtain ⟨sq, e2, _, w2⟩ := DataW.trod_int Try.underlying3 (show DataW.trod enc Try.prog w 0 (fun _ => true) true n 3 [c2] = some x2 from h2)
      obtain ⟨ca, m, cc, c, e3, r3, w3, s3⟩ := open_rows Try.underlying23 (show Try.prog.cellsOf 41 = 3 by kernel_rfl) (by omega) each_case (show DataW.trod enc Try.prog w 0 (fun _ => true) true n 23 [c3] = some x3 from h3)
      simp only [List.cons.injEq, and_true] at e0 e1 e2
      subst e0 e1 e2 e3
      have hx1 : x.1 = .agg [x0.1, x1.1, x2.1, x3.1] := by rw [hx]; rfl
      rw [hx1] at hsz
      have hmem' : (DataW.weightsEach Try.prog [4, 3, 3, 23] [x0.1, x1.1, x2.1, x3.1]).all (· ≤ reachBytes) = true := List.all_eq_true.2 (fun k hk => by
        have := hsz k (by
          rw [DataW.weights, Try.underlying25]
          exact hk)
        simpa using this)
      have b3 : m * (3 * 8) ≤ 140737488351232 := by
        rcases s3 with rfl | ⟨el, sp, hxs, rfl⟩
        · omega
        · have := sized_slice hmem' (j := 3) rfl (by rw [hxs]; rfl) Try.underlying23
          rw [show Try.prog.bytesOf 41 = 24 by kernel_rfl] at this
          simp only [reachBytes] at this
          omega
      exact ⟨⟨on, tk, sq, m, c⟩, ca, cc, rfl, r3 b3, bounds_i64 w1, bounds_i64 w2, fun i j hi hj => bounds_i64 (w3 i j hi hj)⟩
theorem weights_mem_all {P : Program} {e : TypeId} : ∀ {l : List (DataW H)} {i : Nat} {d : DataW H}, l[i]? = some d → ∀ k ∈ d.weights P e, k ∈ DataW.weightsAll P e l
  | [], _, _, h, _, _ => by simp at h
  | d :: l, 0, d', h, k, hk => by
    simp only [List.getElem?_cons_zero, Option.some.injEq] at h
    subst h
    rw [DataW.weightsAll]
    exact List.mem_append_left _ hk
  | d :: l, i + 1, d', h, k, hk => by
    simp only [List.getElem?_cons_succ] at h
    rw [DataW.weightsAll]
    exact List.mem_append_right _ (weights_mem_all h k hk)
set_option maxRecDepth 100000 in
theorem open_waits {v : Value} {d : DataW H} {p : List MemPlace} {ts : List TypeId} {dd : List (DataW H)} (j : Nat) {r : Reach} {b0 : Nat}
    (hv : Value.okWide Try.prog w r b0 22 v) (h : DataW.Trod enc Try.prog w 0 (fun _ => true) true 22 v d p)
    (hsz : (DataW.weightsEach Try.prog ts dd).all (· ≤ reachBytes) = true) (ht : ts[j]? = some 22) (hd : dd[j]? = some d) :
    ∃ (a : Option Addr) (n cap : Nat) (V : Nat → WV), v = .slice a n cap ∧ WaitsAt w a n cap V ∧ n * 48 ≤ 140737488351232 ∧ ∀ i, i < n → (V i).good := by
  obtain ⟨a0, len0, cap0, rfl⟩ := okWide_slice Try.underlying22 hv
  obtain ⟨fuel, hf⟩ := h
  rcases open_slice Try.underlying22 hf with ⟨hcs, _⟩ | ⟨a, len, cap, m, n, D, Pl, hcs, _, hl, hm, hmm, hx, hi⟩
  · simp [Value.cells] at hcs
    obtain ⟨rfl, rfl, rfl⟩ := hcs
    exact ⟨none, 0, 0, fun _ => WV.zero, rfl, WaitsAt.nil rfl rfl, by omega, fun i hi => absurd hi (by omega)⟩
  · simp [Value.cells] at hcs
    obtain ⟨rfl, rfl, rfl⟩ := hcs
    simp only [if_true] at hmm
    subst hmm
    simp only [Prod.mk.injEq] at hx
    obtain ⟨rfl, _⟩ := hx
    rw [show Try.prog.cellsOf 25 = 4 by kernel_rfl] at hi
    have b1 : len0 * 48 ≤ 140737488351232 := by
      have := sized_slice hsz ht hd Try.underlying22
      rw [show Try.prog.bytesOf 25 = 48 by kernel_rfl] at this
      simp only [List.length_map, List.length_range, reachBytes] at this
      omega
    have each' : ∀ i, i < len0 → ∃ V : WV, (∃ ca cc, w.cell? ((a.add (i * 4)).add 0) = some (.bool V.on) ∧ w.cell? ((a.add (i * 4)).add 1) = some (.int .i64 V.tk) ∧ w.cell? ((a.add (i * 4)).add 2) = some (.int .i64 V.sq) ∧ w.cell? ((a.add (i * 4)).add 3) = some (.slice ca V.m cc) ∧ RowS 3 w ca V.m cc V.c) ∧ V.good := by
      intro i hil
      obtain ⟨cs', hc, htr⟩ := hi i (by omega)
      obtain ⟨_, hcl, hat⟩ := World.cells?_some hc
      obtain ⟨V, ca, cc, rfl, hr, hg⟩ := each_wait htr (fun k hk => by
        have h1 := weights_mem_all (l := (List.range len0).map D) (i := i) (d := D i) (by simp [List.getElem?_range hil]) k hk
        have h2 := List.all_eq_true.1 hsz k (DataW.weights_mem_each ht hd k (by
          rw [DataW.weights, Try.underlying22]
          exact List.mem_cons_of_mem _ (List.mem_append_left _ h1)))
        simpa using h2)
      exact ⟨V, ⟨ca, cc, hat 0 (by omega), hat 1 (by omega), hat 2 (by omega), hat 3 (by omega), hr⟩, hg⟩
    obtain ⟨V, hV⟩ : ∃ V : Nat → WV, ∀ i, i < len0 → (∃ ca cc, w.cell? ((a.add (i * 4)).add 0) = some (.bool (V i).on) ∧ w.cell? ((a.add (i * 4)).add 1) = some (.int .i64 (V i).tk) ∧ w.cell? ((a.add (i * 4)).add 2) = some (.int .i64 (V i).sq) ∧ w.cell? ((a.add (i * 4)).add 3) = some (.slice ca (V i).m cc) ∧ RowS 3 w ca (V i).m cc (V i).c) ∧ (V i).good :=
      ⟨fun i => if hi : i < len0 then (each' i hi).choose else WV.zero, fun i hi => by simp only [hi, dif_pos]; exact (each' i hi).choose_spec⟩
    refine ⟨some a, len0, m, V, rfl, ⟨Nat.le_trans b1 (by decide), (fun h => by cases h), hl, fun h0 => ?_⟩, b1, fun i hi => (hV i hi).2⟩
    obtain ⟨b, off, spot⟩ := a
    obtain ⟨_, _, h00, _⟩ := (hV 0 h0).1
    have hspot : spot = none := by simpa [Addr.add] using World.cell?_spot h00
    subst hspot
    have hadd : ∀ o j, (⟨b, o, none⟩ : Addr).add j = ⟨b, o + j, none⟩ := fun o j => Go.WideShapes.add_plain ..
    refine ⟨b, off, rfl, World.block_lt_of_cell? w _ (by simpa [hadd] using h00), fun i hi => ?_⟩
    obtain ⟨ca, cc, y0, y1, y2, y3, hr⟩ := (hV i hi).1
    simp only [hadd, Nat.add_zero] at y0 y1 y2 y3
    exact ⟨ca, cc, y0, y1, y2, y3, hr⟩
end
end Go.Proofs.Ytihpjfhibhpciaa
