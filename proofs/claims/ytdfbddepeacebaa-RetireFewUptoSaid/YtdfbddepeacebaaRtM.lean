/- A pool, and a reference, that came in: how they are opened. -/
import Derived.Test.YtdfbddepeacebaaRtL
import Derived.Test.YtdfbddepeacebaaBulk
namespace Go.Proofs.Ytdfbddepeacebaa
open Go.ChangeShapes Go.WideShapes Go.ChangeAt Go.RowKit Go.Joins Go.Deep

section
variable {H : Type} {enc : TypeId × Value → H} {w : World} {fuel : Nat} {cs : List Value} {x : DataW H × List MemPlace}
/-- 'cs' is so many whole numbers. -/
def Nums (s : Nat) (cs : List Value) : Prop := ∃ g : Nat → Int, (∀ j, j < s → cs[j]? = some (.int .i64 (g j))) ∧ ∀ j, j < s → (Lit.int .i64 (g j)).wf = true
theorem nums_two {c0 c1 : Value} {a b : Int} (h0 : [c0] = [.int .i64 a]) (h1 : [c1] = [.int .i64 b]) (w0 : (Lit.int .i64 a).wf = true) (w1 : (Lit.int .i64 b).wf = true) : Nums 2 [c0, c1] := by
  simp only [List.cons.injEq, and_true] at h0 h1
  subst h0 h1
  refine ⟨fun j => if j = 0 then a else b, fun j hj => ?_, fun j hj => ?_⟩
  · match j, hj with
    | 0, _ => rfl
    | 1, _ => rfl
  · dsimp only
    split
    · exact w0
    · exact w1
theorem each_two {t : TypeId} {f0 f1 : Field} (ht : Try.prog.underlying t = some (.struct #[f0, f1])) (hC : Try.prog.cellsOf t = 2) (o0 : f0.offset = 0) (o1 : f1.offset = 1) (k0 : Try.prog.underlying f0.type = some (.int .i64)) (k1 : Try.prog.underlying f1.type = some (.int .i64))
    (z0 : Try.prog.cellsOf f0.type = 1) (z1 : Try.prog.cellsOf f1.type = 1)
    (h : DataW.trod enc Try.prog w 0 (fun _ => true) true fuel t cs = some x) : Nums 2 cs := by
  obtain ⟨xs, n, _, _, hl, hxl, hf⟩ := DataW.trod_struct ht h
  rw [hC] at hl
  match cs, hl with
  | [c0, c1], _ =>
    match xs, hxl with
    | [x0, x1], _ =>
      have h0 := hf 0 f0 rfl
      have h1 := hf 1 f1 rfl
      rw [o0, z0] at h0
      rw [o1, z1] at h1
      obtain ⟨a, e0, _, w0⟩ := DataW.trod_int k0 (show DataW.trod enc Try.prog w 0 (fun _ => true) true n f0.type [c0] = some x0 from h0)
      obtain ⟨b, e1, _, w1⟩ := DataW.trod_int k1 (show DataW.trod enc Try.prog w 0 (fun _ => true) true n f1.type [c1] = some x1 from h1)
      exact nums_two e0 e1 w0 w1
theorem each_ref (h : DataW.trod enc Try.prog w 0 (fun _ => true) true fuel 23 cs = some x) : Nums 2 cs :=
  each_two Try.underlying23 (by kernel_rfl) rfl rfl Try.underlying3 Try.underlying3 (by kernel_rfl) (by kernel_rfl) h
theorem each_slot (h : DataW.trod enc Try.prog w 0 (fun _ => true) true fuel 46 cs = some x) : Nums 2 cs :=
  each_two Try.underlying46 (by kernel_rfl) rfl rfl Try.underlying3 Try.underlying3 (by kernel_rfl) (by kernel_rfl) h
theorem each_old (h : DataW.trod enc Try.prog w 0 (fun _ => true) true fuel 44 cs = some x) : Nums 3 cs := by
  obtain ⟨xs, n, _, _, hl, hxl, hf⟩ := DataW.trod_struct Try.underlying44 h
  rw [show Try.prog.cellsOf 44 = 3 by kernel_rfl] at hl
  match cs, hl with
  | [c0, c1, c2], _ =>
    match xs, hxl with
    | [x0, x1], _ =>
      have h0 : DataW.trod enc Try.prog w 0 (fun _ => true) true n 23 (([c0, c1, c2].drop 0).take (Try.prog.cellsOf 23)) = [x0, x1][0]? := hf 0 _ rfl
      have h1 : DataW.trod enc Try.prog w 0 (fun _ => true) true n 3 (([c0, c1, c2].drop 2).take (Try.prog.cellsOf 3)) = [x0, x1][1]? := hf 1 _ rfl
      rw [show Try.prog.cellsOf 23 = 2 by kernel_rfl] at h0
      rw [show Try.prog.cellsOf 3 = 1 by kernel_rfl] at h1
      obtain ⟨g, hg, hw⟩ := each_ref (show DataW.trod enc Try.prog w 0 (fun _ => true) true n 23 [c0, c1] = some x0 from h0)
      obtain ⟨b, e1, _, w1⟩ := DataW.trod_int Try.underlying3 (show DataW.trod enc Try.prog w 0 (fun _ => true) true n 3 [c2] = some x1 from h1)
      simp only [List.cons.injEq, and_true] at e1
      subst e1
      refine ⟨fun j => if j = 2 then b else g j, fun j hj => ?_, fun j hj => ?_⟩
      · match j, hj with
        | 0, _ => exact hg 0 (by omega)
        | 1, _ => exact hg 1 (by omega)
        | 2, _ => rfl
      · dsimp only
        split
        · exact w1
        · exact hw j (by omega)

theorem open_rows {s T E : Nat} {v : Value} (hT : Try.prog.underlying T = some (.slice E)) (hC : Try.prog.cellsOf E = s) (hs : 0 < s)
    (each : ∀ {fuel : Nat} {cs : List Value} {x : DataW H × List MemPlace}, DataW.trod enc Try.prog w 0 (fun _ => true) true fuel E cs = some x → Nums s cs)
    (h : DataW.trod enc Try.prog w 0 (fun _ => true) true fuel T [v] = some x) :
    ∃ (a : Option Addr) (n cap : Nat) (f : Nat → Nat → Int), v = .slice a n cap ∧ (n * (s * 8) ≤ 140737488351232 → RowS s w a n cap f) ∧ (∀ i j, i < n → j < s → (Lit.int .i64 (f i j)).wf = true) ∧ (n = 0 ∨ ∃ el sp, x.1 = .slice el sp ∧ el.length = n) := by
  rcases open_slice hT h with ⟨hcs, _⟩ | ⟨a, len, cap, m, n, D, Pl, hcs, _, hl, hm, hmm, hx, hi⟩
  · obtain rfl : v = .slice none 0 0 := by simpa using hcs
    exact ⟨none, 0, 0, fun _ _ => 0, rfl, fun _ => RowS.nil rfl rfl, fun i j hi => absurd hi (by omega), .inl rfl⟩
  · obtain rfl : v = .slice (some a) len cap := by simpa using hcs
    simp only [if_true] at hmm
    subst hmm
    rw [hC] at hi
    have each' : ∀ i, i < len → ∃ g : Nat → Int, (∀ j, j < s → w.cell? ((a.add (i * s)).add j) = some (.int .i64 (g j))) ∧ ∀ j, j < s → (Lit.int .i64 (g j)).wf = true := by
      intro i hil
      obtain ⟨cs', hc, ht⟩ := hi i (by omega)
      obtain ⟨_, hcl, hat⟩ := World.cells?_some hc
      obtain ⟨g, hg, hw⟩ := each ht
      exact ⟨g, fun j hj => (hat j hj).trans (hg j hj), hw⟩
    obtain ⟨f, hf⟩ : ∃ f : Nat → Nat → Int, ∀ i, i < len → (∀ j, j < s → w.cell? ((a.add (i * s)).add j) = some (.int .i64 (f i j))) ∧ ∀ j, j < s → (Lit.int .i64 (f i j)).wf = true :=
      ⟨fun i => if hi : i < len then (each' i hi).choose else fun _ => 0, fun i hi => by simp only [hi, dif_pos]; exact (each' i hi).choose_spec⟩
    refine ⟨some a, len, m, f, rfl, fun hr => ⟨Nat.le_trans hr (by decide), (fun h => by cases h), hl, fun h0 => ?_⟩, fun i j hi hj => (hf i hi).2 j hj, .inr ⟨_, _, by rw [hx], by simp⟩⟩
    obtain ⟨b, off, spot⟩ := a
    have h00 := (hf 0 h0).1 0 hs
    have hspot : spot = none := by simpa [Addr.add] using World.cell?_spot h00
    subst hspot
    have hadd : ∀ o j, (⟨b, o, none⟩ : Addr).add j = ⟨b, o + j, none⟩ := fun o j => Go.WideShapes.add_plain ..
    refine ⟨b, off, rfl, World.block_lt_of_cell? w _ (by simpa [hadd] using h00), fun i j hi hj => ?_⟩
    have := (hf i hi).1 j hj
    rw [hadd, hadd] at this
    exact this

theorem open_ref {r : Reach} {b0 : Nat} {v : Value} {d : DataW H} {p : List MemPlace} (hv : Value.okWide Try.prog w r b0 23 v) (h : DataW.Trod enc Try.prog w 0 (fun _ => true) true 23 v d p) :
    ∃ a b : Int, v = .agg #[.int .i64 a, .int .i64 b] ∧ (Lit.int .i64 a).wf = true ∧ (Lit.int .i64 b).wf = true := by
  obtain ⟨cs, rfl, hsz⟩ := okWide_struct Try.underlying23 hv
  obtain ⟨l⟩ := cs
  match l, hsz.trans (show Try.prog.cellsOf 23 = 2 by kernel_rfl) with
  | [c0, c1], _ =>
    obtain ⟨fuel, hf⟩ := h
    obtain ⟨g, hg, hw⟩ := each_ref hf
    have e0 : c0 = .int .i64 (g 0) := by simpa [Value.cells] using hg 0 (by omega)
    have e1 : c1 = .int .i64 (g 1) := by simpa [Value.cells] using hg 1 (by omega)
    subst e0 e1
    exact ⟨_, _, rfl, hw 0 (by omega), hw 1 (by omega)⟩

/-- A pool that can have come in. -/
def PV.good (P : PV) : Prop := InR P.nf P.ff ∧ (P.nf * 16 ≤ 140737488351232 ∧ P.no * 24 ≤ 140737488351232) ∧ (-9223372036854775808 ≤ P.i ∧ P.i ≤ 9223372036854775807) ∧ (-9223372036854775808 ≤ P.t ∧ P.t ≤ 9223372036854775807) ∧ (-9223372036854775808 ≤ P.s ∧ P.s ≤ 9223372036854775807)
/-- All numbers of a pool's rows can be. -/
def PV.wide (P : PV) : Prop := (∀ i j, i < P.nf → j < 2 → -9223372036854775808 ≤ P.ff i j ∧ P.ff i j ≤ 9223372036854775807) ∧ (∀ i j, i < P.no → j < 3 → -9223372036854775808 ≤ P.fo i j ∧ P.fo i j ≤ 9223372036854775807)
theorem open_pool_all {r : Reach} {b0 : Nat} {v : Value} {d : DataW H} {p : List MemPlace} {ts : List TypeId} {dd : List (DataW H)} (j : Nat)
    (hv : Value.okWide Try.prog w r b0 27 v) (h : DataW.Trod enc Try.prog w 0 (fun _ => true) true 27 v d p)
    (hsz : (DataW.weightsEach Try.prog ts dd).all (· ≤ reachBytes) = true) (ht : ts[j]? = some 27) (hd : dd[j]? = some d) :
    ∃ P : PV, PoolAt w v P ∧ P.good ∧ P.nf + P.no ≤ Rows.uptoBulk d ∧ P.wide := by
  obtain ⟨cs, rfl, hcz⟩ := okWide_struct Try.underlying27 hv
  obtain ⟨l⟩ := cs
  match l, hcz.trans (show Try.prog.cellsOf 27 = 5 by kernel_rfl) with
  | [c0, c1, c2, c3, c4], _ =>
    obtain ⟨fuel, hf⟩ := h
    obtain ⟨xs, n, _, hx, hl, hxl, hg⟩ := DataW.trod_struct Try.underlying27 hf
    match xs, hxl with
    | [x0, x1, x2, x3], _ =>
      have h0 : DataW.trod enc Try.prog w 0 (fun _ => true) true n 23 (([c0, c1, c2, c3, c4].drop 0).take (Try.prog.cellsOf 23)) = [x0, x1, x2, x3][0]? := hg 0 _ rfl
      have h1 : DataW.trod enc Try.prog w 0 (fun _ => true) true n 24 (([c0, c1, c2, c3, c4].drop 2).take (Try.prog.cellsOf 24)) = [x0, x1, x2, x3][1]? := hg 1 _ rfl
      have h2 : DataW.trod enc Try.prog w 0 (fun _ => true) true n 25 (([c0, c1, c2, c3, c4].drop 3).take (Try.prog.cellsOf 25)) = [x0, x1, x2, x3][2]? := hg 2 _ rfl
      have h3 : DataW.trod enc Try.prog w 0 (fun _ => true) true n 3 (([c0, c1, c2, c3, c4].drop 4).take (Try.prog.cellsOf 3)) = [x0, x1, x2, x3][3]? := hg 3 _ rfl
      rw [show Try.prog.cellsOf 23 = 2 by kernel_rfl] at h0
      rw [show Try.prog.cellsOf 24 = 1 by kernel_rfl] at h1
      rw [show Try.prog.cellsOf 25 = 1 by kernel_rfl] at h2
      rw [show Try.prog.cellsOf 3 = 1 by kernel_rfl] at h3
      obtain ⟨g, hg, hw⟩ := each_ref (show DataW.trod enc Try.prog w 0 (fun _ => true) true n 23 [c0, c1] = some x0 from h0)
      obtain ⟨fa, nf, fc, ff, e1, r1, w1, s1⟩ := open_rows Try.underlying24 (show Try.prog.cellsOf 46 = 2 by kernel_rfl) (by omega) each_slot (show DataW.trod enc Try.prog w 0 (fun _ => true) true n 24 [c2] = some x1 from h1)
      obtain ⟨oa, no, oc, fo, e2, r2, w2, s2⟩ := open_rows Try.underlying25 (show Try.prog.cellsOf 44 = 3 by kernel_rfl) (by omega) each_old (show DataW.trod enc Try.prog w 0 (fun _ => true) true n 25 [c3] = some x2 from h2)
      obtain ⟨ps, e3, _, w3⟩ := DataW.trod_int Try.underlying3 (show DataW.trod enc Try.prog w 0 (fun _ => true) true n 3 [c4] = some x3 from h3)
      have e00 : c0 = .int .i64 (g 0) := by simpa using hg 0 (by omega)
      have e01 : c1 = .int .i64 (g 1) := by simpa using hg 1 (by omega)
      simp only [List.cons.injEq, and_true] at e3
      subst e00 e01 e1 e2 e3
      simp only [Prod.mk.injEq, List.map] at hx
      obtain ⟨rfl, _⟩ := hx
      have hmem : ∀ k ∈ DataW.weightsEach Try.prog [23, 24, 25, 3] [x0.1, x1.1, x2.1, x3.1], k ≤ reachBytes := by
        intro k hk
        have := List.all_eq_true.1 hsz k (DataW.weights_mem_each ht hd k (by
          rw [DataW.weights, Try.underlying27]
          exact hk))
        simpa using this
      have hmem' : (DataW.weightsEach Try.prog [23, 24, 25, 3] [x0.1, x1.1, x2.1, x3.1]).all (· ≤ reachBytes) = true := List.all_eq_true.2 (fun k hk => by simpa using hmem k hk)
      have b1 : nf * (2 * 8) ≤ 140737488351232 := by
        rcases s1 with rfl | ⟨el, sp, hxs, rfl⟩
        · omega
        · have := sized_slice hmem' (j := 1) rfl (by rw [hxs]; rfl) Try.underlying24
          rw [show Try.prog.bytesOf 46 = 16 by kernel_rfl] at this
          simp only [reachBytes] at this
          omega
      have b2 : no * (3 * 8) ≤ 140737488351232 := by
        rcases s2 with rfl | ⟨el, sp, hxs, rfl⟩
        · omega
        · have := sized_slice hmem' (j := 2) rfl (by rw [hxs]; rfl) Try.underlying25
          rw [show Try.prog.bytesOf 44 = 24 by kernel_rfl] at this
          simp only [reachBytes] at this
          omega
      have hbk : nf + no ≤ Rows.uptoBulk (DataW.agg [x0.1, x1.1, x2.1, x3.1]) := by
        have := bulks.slice_or s1
        have := bulks.slice_or s2
        simp only [Rows.uptoBulk, Rows.uptoBulkAll]
        omega
      exact ⟨⟨g 0, g 1, nf, ff, no, fo, ps⟩, ⟨fa, fc, oa, oc, rfl, r1 b1, r2 b2⟩, ⟨fun i hi => (bounds_i64 (w1 i 1 hi (by omega))).1, ⟨by show nf * 16 ≤ _; omega, by show no * 24 ≤ _; omega⟩, bounds_i64 (hw 0 (by omega)), bounds_i64 (hw 1 (by omega)), bounds_i64 w3⟩, hbk, fun i j hi hj => bounds_i64 (w1 i j hi hj), fun i j hi hj => bounds_i64 (w2 i j hi hj)⟩
theorem open_pool_upto {r : Reach} {b0 : Nat} {v : Value} {d : DataW H} {p : List MemPlace} {ts : List TypeId} {dd : List (DataW H)} (j : Nat)
    (hv : Value.okWide Try.prog w r b0 27 v) (h : DataW.Trod enc Try.prog w 0 (fun _ => true) true 27 v d p)
    (hsz : (DataW.weightsEach Try.prog ts dd).all (· ≤ reachBytes) = true) (ht : ts[j]? = some 27) (hd : dd[j]? = some d) :
    ∃ P : PV, PoolAt w v P ∧ P.good ∧ P.nf + P.no ≤ Rows.uptoBulk d := by
  obtain ⟨P, h1, h2, h3, _⟩ := open_pool_all j hv h hsz ht hd
  exact ⟨P, h1, h2, h3⟩
theorem open_pool {r : Reach} {b0 : Nat} {v : Value} {d : DataW H} {p : List MemPlace} {ts : List TypeId} {dd : List (DataW H)} (j : Nat)
    (hv : Value.okWide Try.prog w r b0 27 v) (h : DataW.Trod enc Try.prog w 0 (fun _ => true) true 27 v d p)
    (hsz : (DataW.weightsEach Try.prog ts dd).all (· ≤ reachBytes) = true) (ht : ts[j]? = some 27) (hd : dd[j]? = some d) :
    ∃ P : PV, PoolAt w v P ∧ P.good := by
  obtain ⟨P, h1, h2, _⟩ := open_pool_upto j hv h hsz ht hd
  exact ⟨P, h1, h2⟩
end
end Go.Proofs.Ytdfbddepeacebaa
