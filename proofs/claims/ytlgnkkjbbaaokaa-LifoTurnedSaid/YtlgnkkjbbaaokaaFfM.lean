/- Cells, and a call, that came in: how they are opened. -/
import Derived.Test.YtlgnkkjbbaaokaaFfC
import Derived.Test.YtlgnkkjbbaaokaaBulk
namespace Go.Proofs.Ytlgnkkjbbaaokaa
open Go.ChangeShapes Go.WideShapes Go.ChangeAt Go.RowKit Go.Joins Go.Deep

section
variable {H : Type} {enc : TypeId × Value → H} {w : World} {fuel : Nat} {cs : List Value} {x : DataW H × List MemPlace}
/-- 'cs' is so many whole numbers. -/
def Nums (s : Nat) (cs : List Value) : Prop := ∃ g : Nat → Int, (∀ j, j < s → cs[j]? = some (.int .i64 (g j))) ∧ ∀ j, j < s → (Lit.int .i64 (g j)).wf = true
theorem each_int (h : DataW.trod enc Try.prog w 0 (fun _ => true) true fuel 3 cs = some x) : Nums 1 cs := by
  obtain ⟨a, e0, _, w0⟩ := DataW.trod_int Try.underlying3 h
  subst e0
  exact ⟨fun _ => a, fun j hj => by obtain rfl : j = 0 := by omega
                                    rfl, fun _ _ => w0⟩
theorem each_res (h : DataW.trod enc Try.prog w 0 (fun _ => true) true fuel 39 cs = some x) : Nums 4 cs := by
  obtain ⟨xs, n, _, _, hl, hxl, hf⟩ := DataW.trod_struct Try.underlying39 h
  rw [show Try.prog.cellsOf 39 = 4 by kernel_rfl] at hl
  match cs, hl with
  | [c0, c1, c2, c3], _ =>
    match xs, hxl with
    | [x0, x1, x2, x3], _ =>
      have h0 : DataW.trod enc Try.prog w 0 (fun _ => true) true n 3 (([c0, c1, c2, c3].drop 0).take (Try.prog.cellsOf 3)) = [x0, x1, x2, x3][0]? := hf 0 _ rfl
      have h1 : DataW.trod enc Try.prog w 0 (fun _ => true) true n 3 (([c0, c1, c2, c3].drop 1).take (Try.prog.cellsOf 3)) = [x0, x1, x2, x3][1]? := hf 1 _ rfl
      have h2 : DataW.trod enc Try.prog w 0 (fun _ => true) true n 37 (([c0, c1, c2, c3].drop 2).take (Try.prog.cellsOf 37)) = [x0, x1, x2, x3][2]? := hf 2 _ rfl
      have h3 : DataW.trod enc Try.prog w 0 (fun _ => true) true n 3 (([c0, c1, c2, c3].drop 3).take (Try.prog.cellsOf 3)) = [x0, x1, x2, x3][3]? := hf 3 _ rfl
      rw [show Try.prog.cellsOf 3 = 1 by kernel_rfl] at h0 h1 h3
      rw [show Try.prog.cellsOf 37 = 1 by kernel_rfl] at h2
      obtain ⟨a, e0, _, w0⟩ := DataW.trod_int Try.underlying3 (show DataW.trod enc Try.prog w 0 (fun _ => true) true n 3 [c0] = some x0 from h0)
      obtain ⟨b, e1, _, w1⟩ := DataW.trod_int Try.underlying3 (show DataW.trod enc Try.prog w 0 (fun _ => true) true n 3 [c1] = some x1 from h1)
      obtain ⟨c, e2, _, w2⟩ := DataW.trod_int Try.underlying37 (show DataW.trod enc Try.prog w 0 (fun _ => true) true n 37 [c2] = some x2 from h2)
      obtain ⟨d, e3, _, w3⟩ := DataW.trod_int Try.underlying3 (show DataW.trod enc Try.prog w 0 (fun _ => true) true n 3 [c3] = some x3 from h3)
      simp only [List.cons.injEq, and_true] at e0 e1 e2 e3
      subst e0 e1 e2 e3
      refine ⟨fun j => if j = 0 then a else if j = 1 then b else if j = 2 then c else d, fun j hj => ?_, fun j hj => ?_⟩
      · match j, hj with
        | 0, _ => rfl
        | 1, _ => rfl
        | 2, _ => rfl
        | 3, _ => rfl
      · dsimp only
        split
        · exact w0
        · split
          · exact w1
          · split
            · exact w2
            · exact w3

theorem open_rows {s T E : Nat} {v : Value} (hT : Try.prog.underlying T = some (.slice E)) (hC : Try.prog.cellsOf E = s) (hs : 0 < s)
    (each : ∀ {fuel : Nat} {cs : List Value} {x : DataW H × List MemPlace}, DataW.trod enc Try.prog w 0 (fun _ => true) true fuel E cs = some x → Nums s cs)
    (h : DataW.trod enc Try.prog w 0 (fun _ => true) true fuel T [v] = some x) :
    ∃ (a : Option Addr) (n cap : Nat) (f : Nat → Nat → Int), v = .slice a n cap ∧ (n * (s * 8) ≤ 140737488351232 → RowS s w a n cap f) ∧ (∀ i j, i < n → j < s → (Lit.int .i64 (f i j)).wf = true) ∧ (n = 0 ∨ ∃ el sp, x.1 = .slice el sp ∧ el.length = n) := by
  rcases open_slice hT h with ⟨hcs, _⟩ | ⟨a, len, cap, m, n, D, Pl, hcs, _, hl, hm, hmm, hx, hi⟩
  · obtain rfl : v = .slice none 0 0 := by simpa using hcs
    exact ⟨none, 0, 0, fun _ _ => 0, rfl, fun _ => RowS.nil rfl rfl, fun i j hi => absurd hi (by omega), .inl rfl⟩
  · obtain rfl : v = .slice (some a) len cap := by simpa using hcs
    simp only [if_true] at hmm
    subst hmm
    rw [hC] at hi
    have each' : ∀ i, i < len → ∃ g : Nat → Int, (∀ j, j < s → w.cell? ((a.add (i * s)).add j) = some (.int .i64 (g j))) ∧ ∀ j, j < s → (Lit.int .i64 (g j)).wf = true := by
      intro i hil
      obtain ⟨cs', hc, ht⟩ := hi i (by omega)
      obtain ⟨_, hcl, hat⟩ := World.cells?_some hc
      obtain ⟨g, hg, hw⟩ := each ht
      exact ⟨g, fun j hj => (hat j hj).trans (hg j hj), hw⟩
    obtain ⟨f, hf⟩ : ∃ f : Nat → Nat → Int, ∀ i, i < len → (∀ j, j < s → w.cell? ((a.add (i * s)).add j) = some (.int .i64 (f i j))) ∧ ∀ j, j < s → (Lit.int .i64 (f i j)).wf = true :=
      ⟨fun i => if hi : i < len then (each' i hi).choose else fun _ => 0, fun i hi => by simp only [hi, dif_pos]; exact (each' i hi).choose_spec⟩
    refine ⟨some a, len, m, f, rfl, fun hr => ⟨Nat.le_trans hr (by decide), (fun h => by cases h), hl, fun h0 => ?_⟩, fun i j hi hj => (hf i hi).2 j hj, .inr ⟨_, _, by rw [hx], by simp⟩⟩
    obtain ⟨b, off, spot⟩ := a
    have h00 := (hf 0 h0).1 0 hs
    have hspot : spot = none := by simpa [Addr.add] using World.cell?_spot h00
    subst hspot
    have hadd : ∀ o j, (⟨b, o, none⟩ : Addr).add j = ⟨b, o + j, none⟩ := fun o j => Go.WideShapes.add_plain ..
    refine ⟨b, off, rfl, World.block_lt_of_cell? w _ (by simpa [hadd] using h00), fun i j hi hj => ?_⟩
    have := (hf i hi).1 j hj
    rw [hadd, hadd] at this
    exact this

theorem RowS.toI {a : Option Addr} {n cap : Nat} {f : Nat → Nat → Int} (h : RowS 1 w a n cap f) : RowI w a n cap (fun i => f i 0) := by
  obtain ⟨h1, h2, h3, h4⟩ := h
  refine ⟨by omega, h2, h3, fun h0 => ?_⟩
  obtain ⟨b, off, ha, hb, hc⟩ := h4 h0
  exact ⟨b, off, ha, hb, fun i hi => by have := hc i 0 hi (by omega); rwa [Nat.mul_one, Nat.add_zero] at this⟩
/-- Cells that can have come in. -/
def CV.good (C : CV) : Prop := C.n * 8 ≤ 140737488351232 ∧ C.m * 32 ≤ 140737488351232 ∧ (∀ i, i < C.n → -9223372036854775808 ≤ C.f i ∧ C.f i ≤ 9223372036854775807) ∧ (-9223372036854775808 ≤ C.cap ∧ C.cap ≤ 9223372036854775807)
theorem open_cells_all {r : Reach} {b0 : Nat} {v : Value} {d : DataW H} {p : List MemPlace} {ts : List TypeId} {dd : List (DataW H)} (j : Nat)
    (hv : Value.okWide Try.prog w r b0 25 v) (h : DataW.Trod enc Try.prog w 0 (fun _ => true) true 25 v d p)
    (hsz : (DataW.weightsEach Try.prog ts dd).all (· ≤ reachBytes) = true) (ht : ts[j]? = some 25) (hd : dd[j]? = some d) :
    ∃ C : CV, CellsAt w v C ∧ C.good ∧ C.n + C.m ≤ Rows.uptoBulk d := by
  obtain ⟨cs, rfl, hcz⟩ := okWide_struct Try.underlying25 hv
  obtain ⟨l⟩ := cs
  match l, hcz.trans (show Try.prog.cellsOf 25 = 3 by kernel_rfl) with
  | [c0, c1, c2], _ =>
    obtain ⟨fuel, hf⟩ := h
    obtain ⟨xs, n, _, hx, hl, hxl, hg⟩ := DataW.trod_struct Try.underlying25 hf
    match xs, hxl with
    | [x0, x1, x2], _ =>
      have h0 : DataW.trod enc Try.prog w 0 (fun _ => true) true n 3 (([c0, c1, c2].drop 0).take (Try.prog.cellsOf 3)) = [x0, x1, x2][0]? := hg 0 _ rfl
      have h1 : DataW.trod enc Try.prog w 0 (fun _ => true) true n 22 (([c0, c1, c2].drop 1).take (Try.prog.cellsOf 22)) = [x0, x1, x2][1]? := hg 1 _ rfl
      have h2 : DataW.trod enc Try.prog w 0 (fun _ => true) true n 23 (([c0, c1, c2].drop 2).take (Try.prog.cellsOf 23)) = [x0, x1, x2][2]? := hg 2 _ rfl
      rw [show Try.prog.cellsOf 3 = 1 by kernel_rfl] at h0
      rw [show Try.prog.cellsOf 22 = 1 by kernel_rfl] at h1
      rw [show Try.prog.cellsOf 23 = 1 by kernel_rfl] at h2
      obtain ⟨cp, e0, _, w0⟩ := DataW.trod_int Try.underlying3 (show DataW.trod enc Try.prog w 0 (fun _ => true) true n 3 [c0] = some x0 from h0)
      obtain ⟨la, nl, lc, fl, e1, r1, w1, s1⟩ := open_rows Try.underlying22 (show Try.prog.cellsOf 3 = 1 by kernel_rfl) (by omega) each_int (show DataW.trod enc Try.prog w 0 (fun _ => true) true n 22 [c1] = some x1 from h1)
      obtain ⟨da, nd, dc, fd, e2, r2, w2, s2⟩ := open_rows Try.underlying23 (show Try.prog.cellsOf 39 = 4 by kernel_rfl) (by omega) each_res (show DataW.trod enc Try.prog w 0 (fun _ => true) true n 23 [c2] = some x2 from h2)
      simp only [List.cons.injEq, and_true] at e0
      subst e0 e1 e2
      simp only [Prod.mk.injEq, List.map] at hx
      obtain ⟨rfl, _⟩ := hx
      have hmem : ∀ k ∈ DataW.weightsEach Try.prog [3, 22, 23] [x0.1, x1.1, x2.1], k ≤ reachBytes := by
        intro k hk
        have := List.all_eq_true.1 hsz k (DataW.weights_mem_each ht hd k (by
          rw [DataW.weights, Try.underlying25]
          exact hk))
        simpa using this
      have hmem' : (DataW.weightsEach Try.prog [3, 22, 23] [x0.1, x1.1, x2.1]).all (· ≤ reachBytes) = true := List.all_eq_true.2 (fun k hk => by simpa using hmem k hk)
      have b1 : nl * (1 * 8) ≤ 140737488351232 := by
        rcases s1 with rfl | ⟨el, sp, hxs, rfl⟩
        · omega
        · have := sized_slice hmem' (j := 1) rfl (by rw [hxs]; rfl) Try.underlying22
          rw [show Try.prog.bytesOf 3 = 8 by kernel_rfl] at this
          simp only [reachBytes] at this
          omega
      have b2 : nd * (4 * 8) ≤ 140737488351232 := by
        rcases s2 with rfl | ⟨el, sp, hxs, rfl⟩
        · omega
        · have := sized_slice hmem' (j := 2) rfl (by rw [hxs]; rfl) Try.underlying23
          rw [show Try.prog.bytesOf 39 = 32 by kernel_rfl] at this
          simp only [reachBytes] at this
          omega
      have hbk : nl + nd ≤ Rows.uptoBulk (DataW.agg [x0.1, x1.1, x2.1]) := by
        have := bulks.slice_or s1
        have := bulks.slice_or s2
        simp only [Rows.uptoBulk, Rows.uptoBulkAll]
        omega
      exact ⟨⟨cp, nl, fun i => fl i 0, nd, fd⟩, ⟨la, lc, da, dc, rfl, (r1 b1).toI, r2 b2⟩, ⟨by show nl * 8 ≤ _; omega, by show nd * 32 ≤ _; omega, fun i hi => bounds_i64 (w1 i 0 hi (by omega)), bounds_i64 w0⟩, hbk⟩
theorem open_cells {r : Reach} {b0 : Nat} {v : Value} {d : DataW H} {p : List MemPlace} {ts : List TypeId} {dd : List (DataW H)} (j : Nat)
    (hv : Value.okWide Try.prog w r b0 25 v) (h : DataW.Trod enc Try.prog w 0 (fun _ => true) true 25 v d p)
    (hsz : (DataW.weightsEach Try.prog ts dd).all (· ≤ reachBytes) = true) (ht : ts[j]? = some 25) (hd : dd[j]? = some d) :
    ∃ C : CV, CellsAt w v C ∧ C.good := by
  obtain ⟨C, h1, h2, _⟩ := open_cells_all j hv h hsz ht hd
  exact ⟨C, h1, h2⟩
end
end Go.Proofs.Ytlgnkkjbbaaokaa
