/- The contract of the reference's Copy of calls that wait, over the seat's program. -/
import Derived.Test.YtihpjfhibhpciaaWtE
import Derived.Test.YtihpjfhibhpciaaApp
import Derived.ArgAppend
namespace Go.Proofs.Ytihpjfhibhpciaa
open Go.ChangeShapes Go.WideShapes Go.ChangeAt Go.RowKit Go.Joins

theorem below_of_grown {w w' : World} (h : w.grownBy w' none) : Below w.heap.size w w' := ⟨h.os, h.tape, h.output, h.size, fun k hk => h.block k hk (by simp)⟩
theorem own_set {w : World} {B E s n : Nat} {v : Value} {xs : List Value} (h : w.ownsRow B E s v n xs) {p i : Nat} {x : Value} (hne : v.ownBlock ≠ some p) : (w.setCell ⟨p, i, none⟩ x).ownsRow B E s v n xs := by
  rcases h.2 with ⟨rfl, rfl⟩ | ⟨g, cap, cur, rfl, hb, hg, r⟩
  · have h1 := h.1
    refine ⟨h1, .inl ⟨rfl, rfl⟩⟩
  · refine ⟨h.1, .inr ⟨g, cap, cur, rfl, hb, ?_, r⟩⟩
    rw [Below.heap_setCell _ _ _ _ (fun e => hne (by simp only [Value.ownBlock] at *; rw [e]))]
    exact hg

/-- A row in new memory, from 'H' on, or an empty slice without room there. -/
def OwnE (H : Nat) (w : World) (E s : Nat) (v : Value) (n : Nat) (xs : List Value) : Prop :=
  (n = 0 ∧ ∃ q, v = .slice (some ⟨q, 0, none⟩) 0 0 ∧ H ≤ q ∧ q < w.heap.size) ∨ ∃ B, H ≤ B ∧ w.ownsRow B E s v n xs
theorem OwnE.rowS {H : Nat} {w : World} {E s n : Nat} {v : Value} {f : Nat → Nat → Int} (hl : n * (s * 8) ≤ 140737488355328) (h : OwnE H w E s v n (flatL s f n)) : ∃ a cap, v = .slice a n cap ∧ RowS s w a n cap f ∧ ∀ q, (Value.slice a n cap).ownBlock = some q → H ≤ q ∧ q < w.heap.size := by
  rcases h with ⟨rfl, q, rfl, h1, h2⟩ | ⟨B, h0, h⟩
  · refine ⟨_, _, rfl, RowS.none_left rfl, fun b hb => ?_⟩
    simp only [Value.ownBlock, Option.some.injEq] at hb
    omega
  · obtain ⟨a, cap, rfl, hr⟩ := RowS.of hl h
    exact ⟨a, cap, rfl, hr, fun q hq => by have := h.lt q hq; omega⟩
theorem run_copy {w : World} (T ty : TypeId) (E : TypeId) (z : Value) (size bytes : Nat) (hT : Try.prog.underlying T = some (.slice E)) (hE : (Try.prog.info? E).map (fun i => (i.zero, i.size, i.bytes)) = some (some z, size, bytes)) (hz0 : z.cells.size = size) (hsz : 0 < size)
    (H q : Nat) (hH : H ≤ q) (hq : q < w.heap.size) (ao : Option Addr) (m c : Nat) (news : List Value) (hl : news.length = m * size) (hnone : ao = none → m = 0 ∧ c = 0) (hnews : ∀ ad, ao = some ad → ∀ j u, news[j]? = some u → w.cell? (ad.add j) = some u) (b1 : m ≤ maxLen) (b2 : m * bytes ≤ 140737488355328) :
    ∃ l' c' w', (Builtin.append_ #[T, T] ty #[.slice (some ⟨q, 0, none⟩) 0 0, .slice ao m c]).run Try.prog w = .ok (.slice l' m c') w' ∧ OwnE H w' E size (.slice l' m c') m news ∧ w.grownBy w' none := by
  obtain ⟨i, hi, hz, hz1, hz2⟩ := info_parts hE
  cases ao with
  | none =>
    obtain ⟨rfl, rfl⟩ := hnone rfl
    refine ⟨some ⟨q, 0, none⟩, 0, w, ?_, .inl ⟨rfl, q, rfl, hH, hq⟩, World.grownBy.refl _ _⟩
    simp [Builtin.append_, run_underlying hT, sizeOf, typeInfo, hi, Builtin.lenOf, Builtin.firstCells, storeCells]
  | some ad =>
    rcases Nat.eq_zero_or_pos m with rfl | hm
    · obtain rfl : news = [] := List.eq_nil_of_length_eq_zero (by simpa using hl)
      refine ⟨some ⟨q, 0, none⟩, 0, w, ?_, .inl ⟨rfl, q, rfl, hH, hq⟩, World.grownBy.refl _ _⟩
      have := run_append_room_cells (P := Try.prog) (w := w) T ty E i hT hi q 0 0 0 ad 0 c [] (by simp) (by simp) (by simp) (by omega) (by simp) (by simp)
      simpa [World.setCells] using this
    · obtain ⟨v', w', hr, ho, hg⟩ := run_append_arg_grows (P := Try.prog) (w := w) T ty E i z size bytes hT hi hz hz1 hz2 hz0 hsz ⟨q, 0, none⟩ 0 0 [] (by simp) (by simp) ad m c news hl (hnews ad rfl) (by omega) (by omega) (by rw [Nat.zero_add]; exact b2)
      rw [Nat.zero_add, List.nil_append] at ho
      obtain ⟨l', c', rfl⟩ := own_form ho
      exact ⟨l', c', w', hr, .inr ⟨_, by omega, ho⟩, hg⟩
/-- .. as a step of a region that draws its order. -/
theorem step_copy {ops : Array Oper} {o : Oper} {a : Act} {w : World} {K : Act → World → Prop} {Q : Exit → Act → World → Prop} {E' : Prop} (hgd : o.guard = none) (s x : Operand) (T : TypeId)
    (ho : o.op = .call { callee := .builtin .append, args := #[s, x], argTypes := #[T, T] })
    (E : TypeId) (z : Value) (size bytes : Nat) (hT : Try.prog.underlying T = some (.slice E)) (hE : (Try.prog.info? E).map (fun i => (i.zero, i.size, i.bytes)) = some (some z, size, bytes)) (hz0 : z.cells.size = size) (hsz : 0 < size)
    (H q : Nat) (hH : H ≤ q) (hq : q < w.heap.size) (hs : a.eval s = .slice (some ⟨q, 0, none⟩) 0 0) (ao : Option Addr) (m c : Nat) (news : List Value) (hx : a.eval x = .slice ao m c) (hl : news.length = m * size) (hnone : ao = none → m = 0 ∧ c = 0) (hnews : ∀ ad, ao = some ad → ∀ j u, news[j]? = some u → w.cell? (ad.add j) = some u) (b1 : m ≤ maxLen) (b2 : m * bytes ≤ 140737488355328)
    (h : ∀ l' c' w', OwnE H w' E size (.slice l' m c') m news → w.grownBy w' none → K (a.put o.dst (.slice l' m c')) w') :
    if Region.wanted o (yielded ops a.tmps) = true then Oper.wp Try.prog o a w K Q else E' := by
  have hw : Region.wanted o (yielded ops a.tmps) = true := by simp [Region.wanted, hgd]
  rw [if_pos hw]
  obtain ⟨l', c', w', hr, h1, h2⟩ := run_copy (w := w) T o.type E z size bytes hT hE hz0 hsz H q hH hq ao m c news hl hnone hnews b1 b2
  unfold Oper.wp
  simp [execOp, ho, resolve, invoke, builtin, hs, hx, hr, Result.andThen]
  exact h l' c' w' h1 h2
/-- .. at the list of a plain region's operations. -/
theorem list_copy {ops : Array Oper} {rest : List Oper} {o : Oper} {a : Act} {w : World} {Q : Exit → Act → World → Prop} (hgd : o.guard = none) (s x : Operand) (T : TypeId)
    (ho : o.op = .call { callee := .builtin .append, args := #[s, x], argTypes := #[T, T] })
    (E : TypeId) (z : Value) (size bytes : Nat) (hT : Try.prog.underlying T = some (.slice E)) (hE : (Try.prog.info? E).map (fun i => (i.zero, i.size, i.bytes)) = some (some z, size, bytes)) (hz0 : z.cells.size = size) (hsz : 0 < size)
    (H q : Nat) (hH : H ≤ q) (hq : q < w.heap.size) (hs : a.eval s = .slice (some ⟨q, 0, none⟩) 0 0) (ao : Option Addr) (m c : Nat) (news : List Value) (hx : a.eval x = .slice ao m c) (hl : news.length = m * size) (hnone : ao = none → m = 0 ∧ c = 0) (hnews : ∀ ad, ao = some ad → ∀ j u, news[j]? = some u → w.cell? (ad.add j) = some u) (b1 : m ≤ maxLen) (b2 : m * bytes ≤ 140737488355328)
    (h : ∀ l' c' w', OwnE H w' E size (.slice l' m c') m news → w.grownBy w' none → wpList Try.prog ops Q rest (a.put o.dst (.slice l' m c')) w') : wpList Try.prog ops Q (o :: rest) a w := by
  refine wpList_plain hgd fun K hK' => ?_
  obtain ⟨l', c', w', hr, h1, h2⟩ := run_copy (w := w) T o.type E z size bytes hT hE hz0 hsz H q hH hq ao m c news hl hnone hnews b1 b2
  unfold Oper.wp
  simp [execOp, ho, resolve, invoke, builtin, hs, hx, hr, Result.andThen]
  exact hK' _ _ (h l' c' w' h1 h2)

theorem flatC4_succ {F : Nat → Nat → Value} {n : Nat} : flatC 4 F (n + 1) = flatC 4 F n ++ [F n 0, F n 1, F n 2, F n 3] := by
  have e0 : n * 4 / 4 = n ∧ n * 4 % 4 = 0 ∧ (n * 4 + 1) / 4 = n ∧ (n * 4 + 1) % 4 = 1 ∧ (n * 4 + 2) / 4 = n ∧ (n * 4 + 2) % 4 = 2 ∧ (n * 4 + 3) / 4 = n ∧ (n * 4 + 3) % 4 = 3 := by omega
  rw [flatC, flatC, show (n + 1) * 4 = n * 4 + 1 + 1 + 1 + 1 by omega, List.range_succ, List.range_succ, List.range_succ, List.range_succ]
  simp [e0]
theorem Try.info_case' : (Try.prog.info? 41).map (fun i => (i.zero, i.size, i.bytes)) = some (some (.agg #[.int .i64 0, .int .i64 0, .int .i64 0]), 3, 24) := by kernel_rfl
/-- The calls' own row, and where the cases of each lie: no part of the row, and in new memory if they have any room. -/
def CaseApart (B : Nat) (w : World) (v : Value) (V : WV) (a : Option Addr) (c : Nat) : Prop := RowS 3 w a V.m c V.c ∧ ∀ q, (Value.slice a V.m c).ownBlock = some q → B ≤ q ∧ q < w.heap.size ∧ v.ownBlock ≠ some q
theorem own_below {w w' : World} {B E s n : Nat} {v : Value} {xs : List Value} (h : w.ownsRow B E s v n xs) (hb : Below w.heap.size w w') : w'.ownsRow B E s v n xs := by
  refine h.kept (show w.grownBy w' none from ⟨hb.os, hb.tape, hb.output, hb.size, fun k hk _ => hb.block k hk⟩) ?_
  cases hv : v.ownBlock with
  | none => exact .inl rfl
  | some b => exact .inr (by simp)
theorem RowS.grown {s : Nat} {w w' : World} {a : Option Addr} {m c : Nat} {f : Nat → Nat → Int} {r : Option Nat} (h : RowS s w a m c f) (hg : w.grownBy w' r) (hne : ∀ q, (Value.slice a m c).ownBlock = some q → some q ≠ r) : RowS s w' a m c f := by
  obtain ⟨h1, h2, h3, h4⟩ := h
  refine ⟨h1, h2, h3, fun h0 => ?_⟩
  obtain ⟨b, off, rfl, hb, hc⟩ := h4 h0
  exact ⟨b, off, rfl, Nat.lt_of_lt_of_le hb hg.size, fun i j hi hj => (hg.cell_far ⟨b, off + i * s + j, none⟩ hb (hne b rfl)).trans (hc i j hi hj)⟩
theorem CaseApart.grown {B : Nat} {w w' : World} {v v' : Value} {V : WV} {a : Option Addr} {c : Nat} (h : CaseApart B w v V a c) (hg : w.grownBy w' v.ownBlock) (hv : ∀ g, v'.ownBlock = some g → v.ownBlock = some g ∨ w.heap.size ≤ g) : CaseApart B w' v' V a c :=
  ⟨h.1.grown hg (fun q hq e => (h.2 q hq).2.2 e.symm), fun q hq => ⟨(h.2 q hq).1, Nat.lt_of_lt_of_le (h.2 q hq).2.1 hg.size, fun e => by
    rcases hv q e with h1 | h1
    · exact (h.2 q hq).2.2 h1
    · have := (h.2 q hq).2.1
      omega⟩⟩
theorem CaseApart.below {B : Nat} {w w' : World} {v : Value} {V : WV} {a : Option Addr} {c : Nat} (h : CaseApart B w v V a c) (hw : Below w.heap.size w w') : CaseApart B w' v V a c := ⟨h.1.below hw, fun q hq => ⟨(h.2 q hq).1, Nat.lt_of_lt_of_le (h.2 q hq).2.1 hw.size, (h.2 q hq).2.2⟩⟩
def RCopyAt (w : World) (v : Value) (k : Nat) (V : Nat → WV) (wr : World) : Prop :=
  ∃ A C, wr.ownsRow w.heap.size 25 4 v k (flatC 4 (wcell V A C) k) ∧ (∀ i, i < k → CaseApart w.heap.size wr v (V i) (A i) (C i)) ∧ Below w.heap.size w wr
set_option maxRecDepth 100000 in
set_option maxHeartbeats 3200000 in
theorem rcopy_any (a : Option Addr) (n cap : Nat) (V : Nat → WV) (w : World) (h : WaitsAt w a n cap V) : Calls Try.prog 14 #[.slice a n cap] w (RetW n V w) := by
  have hn := h.1
  have HS := Lib.hid h
  clear h
  go_enter Try.func14, Try.ntmps14
  go_wp2
  go_loopw [3, 8] (fun v i wr => ∃ k : Nat, k ≤ n ∧ i = .int .i64 k ∧ RCopyAt w v k V wr) (fun _ i _ => n - (intOf i).toNat)
  case atStart => exact ⟨0, Nat.zero_le _, rfl, fun _ => none, fun _ => 0, World.ownsRow_nil _ _ _ _, fun i hi => absurd hi (by omega), Below.refl _ _⟩
  case round =>
    obtain ⟨k, hk, rfl, A, C, ho, hcs, hb⟩ := hrel
    have HO := Lib.hid ho
    have HCS := Lib.hid hcs
    have HB := Lib.hid hb
    have HR := Lib.hid (HS.out.below hb)
    obtain ⟨da, dc, rfl⟩ := own_form ho
    by_cases hlt : k < n
    · obtain ⟨b, off, rfl, zb, hc⟩ := HR.out.get hlt
      obtain ⟨ca, cc, x0, x1, x2, x3, hr⟩ := hc k hlt
      have i0 : (0 : Int) ≤ (k : Int) := by omega
      have i1 : (k : Int) < (n : Int) := by omega
      have hm := hr.1
      have HA := Lib.hid ((Below.refl wr.heap.size wr).alloc (Nat.le_refl _) (.cells #[.bool (V k).on, .int .i64 (V k).tk, .int .i64 (V k).sq, .slice ca (V k).m cc] 25))
      have HNL := Lib.hid hr.2.1
      have HC3 := Lib.hid (show ∀ ad, ca = some ad → ∀ j u, (flatL 3 (V k).c (V k).m)[j]? = some u → ((wr.alloc (.cells #[.bool (V k).on, .int .i64 (V k).tk, .int .i64 (V k).sq, .slice ca (V k).m cc] 25)).alloc (.cells #[] 41)).cell? (ad.add j) = some u from fun ad had j u hu => (hr.below HA.out).alloc_at (.cells #[] 41) had hu)
      have HX := Lib.hid ((Box4.new (a := .bool (V k).on) (b := .int .i64 (V k).tk) (c := .int .i64 (V k).sq) (d := .slice ca (V k).m cc) wr 25).below (by simp) ((Below.refl _ _).alloc (Nat.le_refl _) (.cells #[] 41)))
      clear hc hr ho hcs hb
      go_upto_region 6 with (at_builtin; go_loud (refine list_copy rfl _ _ 23 rfl 41 (.agg #[.int .i64 0, .int .i64 0, .int .i64 0]) 3 24 Try.underlying23 Try.info_case' rfl (by decide) (wr.heap.size + 1) (wr.heap.size + 1) (Nat.le_refl _) (by simp) (by first | rfl | simp) ca (V k).m cc (flatL 3 (V k).c (V k).m) (by first | rfl | simp) flatL_len HNL.out HC3.out (by unfold maxLen; omega) (by omega) ?_; intro l1 c1 w3 ho hg; have hb3 := below_of_grown hg; have HX3 := Lib.hid (HX.out.below (by simp; omega) hb3); have HE := Lib.hid ho; have HB3 := Lib.hid ((HA.out.alloc (by simp) (.cells #[] 41)).trans (hb3.mono (by simp; omega))); have HZ3 := Lib.hid (show wr.heap.size < w3.heap.size from by have := hb3.size; simp at this; omega); clear ho hg hb3; (obtain ⟨b0, b1, b2, b3, bf⟩ := HX3.out); have bf3 := bf 3; clear bf x0 x1 x2 x3))
      have hs3 := HB3.out.size
      obtain ⟨l1', c1', hv1, hr1, hq1⟩ := HE.out.rowS hm
      simp only [Value.slice.injEq] at hv1
      obtain ⟨rfl, _, rfl⟩ := hv1
      have HQ1 := Lib.hid hq1
      have hp3 : wr.heap.size < w3.heap.size := HZ3.out
      refine abstract_code (fun u => Box4 u wr.heap.size (.bool (V k).on) (.int .i64 (V k).tk) (.int .i64 (V k).sq) (.slice l1 (V k).m c1) ∧ Below wr.heap.size wr u ∧ wr.heap.size < u.heap.size ∧ RowS 3 u l1 (V k).m c1 (V k).c ∧ ∀ q, (Value.slice l1 (V k).m c1).ownBlock = some q → wr.heap.size ≤ q ∧ q < u.heap.size) ⟨HX3.out.set3 _, HB3.out.setCell (Nat.le_refl _) _, by simpa using hp3, rowS_set_far hr1 (fun q hq => by have := HQ1.out q hq; omega), fun q hq => by have := HQ1.out q hq; simp; omega⟩ ?_
      clear HX HX3 HE HB3 HA HNL HC3 b0 b1 b2 b3 bf3 hs3 hr1 hq1 HQ1 hp3 HZ3
      rintro u ⟨⟨b0, b1, b2, b3, _⟩, hbu, zu, hru, hqu⟩
      have HBU := Lib.hid hbu
      have HRU := Lib.hid (And.intro hru hqu)
      have HOU := Lib.hid (own_below HO.out hbu)
      have HWU := Lib.hid (HB.out.trans (hbu.mono HB.out.size))
      have sw := HB.out.size
      clear hbu hru hqu
      go_wp2_with (at_builtin; go_loud (refine app_cells w.heap.size 25 22 rfl _ _ rfl Try.underlying22 (.agg #[.bool false, .int .i64 0, .int .i64 0, .slice none 0 0]) 4 48 Try.info_wait rfl (by decide) (.slice da k dc) k (flatC 4 (wcell V A C) k) #[.bool (V k).on, .int .i64 (V k).tk, .int .i64 (V k).sq, .slice l1 (V k).m c1] rfl (by simp [Value.oneCell']) rfl HOU.out _ (by first | rfl | (simp; done)) rfl (by omega) (by unfold maxLen; omega) (by omega) ?_; intro gg cap' w4 hown hgrow hat hlt'; have HO4 := Lib.hid hown; have HG4 := Lib.hid hgrow; have HAT := Lib.hid hat; clear hown hgrow hat hlt' b0 b1 b2 b3))
      go_roundw
      case rel =>
        refine ⟨k + 1, by omega, by go_num, fun i => if i = k then l1 else A i, fun i => if i = k then c1 else C i, ?_, fun i hi => ?_, ?_⟩
        · have e1 : flatC 4 (wcell V (fun i => if i = k then l1 else A i) (fun i => if i = k then c1 else C i)) (k + 1) = flatC 4 (wcell V A C) k ++ [.bool (V k).on, .int .i64 (V k).tk, .int .i64 (V k).sq, .slice l1 (V k).m c1] := by
            rw [flatC4_succ]
            congr 1
            · refine flatC_same fun i j hi hj => ?_
              have e : i ≠ k := by omega
              unfold wcell
              simp [e]
            · simp [wcell]
          rw [e1]
          exact HO4.out
        · by_cases e : i = k
          · subst e
            dsimp only
            rw [if_pos rfl, if_pos rfl]
            refine CaseApart.grown (v := .slice da i dc) ⟨HRU.out.1, fun q hq => ⟨by have := HRU.out.2 q hq; omega, (HRU.out.2 q hq).2, fun e => ?_⟩⟩ HG4.out (fun g hg => ?_)
            · have h1 := (HO.out.lt q e).2
              have h2 := HRU.out.2 q hq
              omega
            · simp only [Value.ownBlock, Option.some.injEq] at hg
              subst hg
              exact HAT.out
          · dsimp only
            rw [if_neg e, if_neg e]
            refine ((HCS.out i (by omega)).below HBU.out).grown HG4.out (fun g hg => ?_)
            simp only [Value.ownBlock, Option.some.injEq] at hg
            subst hg
            exact HAT.out
        · exact Below.grown HWU.out HG4.out (by omega) (fun j hj => (HO.out.lt j hj).1)
      case measure => simp [intOf]; omega
    · obtain rfl : k = n := by omega
      go_wp2
      go_ret
      exact ⟨_, A, C, rfl, OwnW.of HO.out, fun i hi => ⟨(HCS.out i hi).1, fun q hq => ⟨((HCS.out i hi).2 q hq).1, ((HCS.out i hi).2 q hq).2.2⟩⟩, HB.out⟩
end Go.Proofs.Ytihpjfhibhpciaa
