/- What ends calls that wait, over the seat's program. -/
import Derived.Test.YtihpjfhibhpciaaChA
namespace Go.Proofs.Ytihpjfhibhpciaa
open Go.ChangeShapes Go.WideShapes Go.ChangeAt Go.RowKit Go.Joins

theorem Try.info_told : (Try.prog.info? 64).map (fun i => (i.zero, i.size, i.bytes)) = some (some (.agg #[.int .i64 0, .int .i64 0, .int .i64 0, .int .i64 0, .int .i64 0]), 5, 40) := by kernel_rfl
theorem below_grownBy {w w' : World} (h : Below w.heap.size w w') (row : Option Nat) : w.grownBy w' row := ⟨h.os, h.tape, h.output, h.size, fun k hk _ => h.block k hk⟩
theorem flat5_succ {f : Nat → Nat → Int} {n : Nat} : flatL 5 f (n + 1) = flatL 5 f n ++ [.int .i64 (f n 0), .int .i64 (f n 1), .int .i64 (f n 2), .int .i64 (f n 3), .int .i64 (f n 4)] := by
  have e0 : n * 5 / 5 = n ∧ n * 5 % 5 = 0 ∧ (n * 5 + 1) / 5 = n ∧ (n * 5 + 1) % 5 = 1 ∧ (n * 5 + 2) / 5 = n ∧ (n * 5 + 2) % 5 = 2 ∧ (n * 5 + 3) / 5 = n ∧ (n * 5 + 3) % 5 = 3 ∧ (n * 5 + 4) / 5 = n ∧ (n * 5 + 4) % 5 = 4 := by omega
  rw [flatL, flatL, show (n + 1) * 5 = n * 5 + 1 + 1 + 1 + 1 + 1 by omega, List.range_succ, List.range_succ, List.range_succ, List.range_succ, List.range_succ]
  simp [e0]
section
open Classical
/-- Those that wait, but for some. -/
noncomputable def zeroAt (V : Nat → WV) (f : Nat → Int) (k : Nat) : Nat → WV := fun i => if ∃ j, j < k ∧ f j = (i : Int) then WV.zero else V i
noncomputable def zeroO (A : Nat → Option Addr) (f : Nat → Int) (k : Nat) : Nat → Option Addr := fun i => if ∃ j, j < k ∧ f j = (i : Int) then none else A i
noncomputable def zeroC (C : Nat → Nat) (f : Nat → Int) (k : Nat) : Nat → Nat := fun i => if ∃ j, j < k ∧ f j = (i : Int) then 0 else C i
theorem zif {α : Type} {X : Nat → α} {z : α} {f : Nat → Int} {k i : Nat} (hfk : f k = (i : Int)) (j : Nat) : (if ∃ q, q < k + 1 ∧ f q = (j : Int) then z else X j) = if j = i then z else if ∃ q, q < k ∧ f q = (j : Int) then z else X j := by
  by_cases e : j = i
  · rw [if_pos e, if_pos ⟨k, by omega, by rw [hfk, e]⟩]
  · rw [if_neg e]
    by_cases c : ∃ q, q < k ∧ f q = (j : Int)
    · obtain ⟨q, h1, h2⟩ := c
      rw [if_pos ⟨q, by omega, h2⟩, if_pos ⟨q, h1, h2⟩]
    · rw [if_neg c, if_neg (fun ⟨q, h1, h2⟩ => by
        by_cases d : q = k
        · rw [d, hfk] at h2; omega
        · exact c ⟨q, by omega, h2⟩)]
theorem zeroAt_succ {V : Nat → WV} {f : Nat → Int} {k i : Nat} (hfk : f k = (i : Int)) : zeroAt V f (k + 1) = setV (zeroAt V f k) i WV.zero := funext fun j => zif hfk j
theorem zeroO_succ {A : Nat → Option Addr} {f : Nat → Int} {k i : Nat} (hfk : f k = (i : Int)) : zeroO A f (k + 1) = fun j => if j = i then none else zeroO A f k j := funext fun j => zif hfk j
theorem zeroC_succ {C : Nat → Nat} {f : Nat → Int} {k i : Nat} (hfk : f k = (i : Int)) : zeroC C f (k + 1) = fun j => if j = i then 0 else zeroC C f k j := funext fun j => zif hfk j
theorem zeroAt_zero {V : Nat → WV} {f : Nat → Int} : zeroAt V f 0 = V := funext fun i => if_neg (fun ⟨_, h, _⟩ => absurd h (by omega))
theorem zeroO_zero {A : Nat → Option Addr} {f : Nat → Int} : zeroO A f 0 = A := funext fun i => if_neg (fun ⟨_, h, _⟩ => absurd h (by omega))
theorem zeroC_zero {C : Nat → Nat} {f : Nat → Int} : zeroC C f 0 = C := funext fun i => if_neg (fun ⟨_, h, _⟩ => absurd h (by omega))
end
/-- What calls that waited are told. -/
def toldT (V : Nat → WV) (f : Nat → Int) (K : Nat → Int) (cd val : Int) : Nat → Nat → Int := fun j c => if c = 0 then f j else if c = 1 then (V (f j).toNat).sq else if c = 2 then K (f j).toNat else if c = 3 then cd else val
/-- Two worlds that are the same from a block on. -/
def Agree (B : Nat) (w w' : World) : Prop := w.heap.size ≤ w'.heap.size ∧ ∀ q o, B ≤ q → q < w.heap.size → w'.cell? ⟨q, o, none⟩ = w.cell? ⟨q, o, none⟩ ∧ w'.frozen? ⟨q, o, none⟩ = w.frozen? ⟨q, o, none⟩
theorem Agree.refl (B : Nat) (w : World) : Agree B w w := ⟨Nat.le_refl _, fun _ _ _ _ => ⟨rfl, rfl⟩⟩
theorem Agree.trans {B : Nat} {w w' w2 : World} (h : Agree B w w') (h' : Agree B w' w2) : Agree B w w2 :=
  ⟨Nat.le_trans h.1 h'.1, fun q o hq hl => ⟨(h'.2 q o hq (Nat.lt_of_lt_of_le hl h.1)).1.trans (h.2 q o hq hl).1, (h'.2 q o hq (Nat.lt_of_lt_of_le hl h.1)).2.trans (h.2 q o hq hl).2⟩⟩
theorem Agree.of {B : Nat} {w w' : World} (h : Below w.heap.size w w') : Agree B w w' := ⟨h.size, fun q o _ hl => ⟨(bcell h).1 q o hl, (bcell h).2 q o hl⟩⟩
theorem Agree.set {B p o : Nat} {w : World} {x : Value} (hp : p < B) : Agree B w (w.setCell ⟨p, o, none⟩ x) := ⟨by simp, fun q o' hq _ => ⟨cell_set_ne (.inl (by omega)), by simp⟩⟩
theorem Agree.mono {B B' : Nat} {w w' : World} (h : Agree B w w') (hB : B ≤ B') : Agree B' w w' := ⟨h.1, fun q o hq hl => h.2 q o (by omega) hl⟩
/-- Rows that lie from a block on. -/
def FarW (B : Nat) (w : World) (a : Option Addr) (n cap : Nat) (V : Nat → WV) : Prop := ∀ w', Agree B w w' → WaitsAt w' a n cap V
def FarT (B : Nat) (w : World) (a : Option Addr) (m cap : Nat) (T : Nat → Nat → Int) : Prop := ∀ w', Agree B w w' → RowS 5 w' a m cap T
theorem FarW.agree {B : Nat} {w w' : World} {a : Option Addr} {n cap : Nat} {V : Nat → WV} (h : FarW B w a n cap V) (hw : Agree B w w') : FarW B w' a n cap V := fun w2 h2 => h w2 (hw.trans h2)
theorem FarT.agree {B : Nat} {w w' : World} {a : Option Addr} {m cap : Nat} {T : Nat → Nat → Int} (h : FarT B w a m cap T) (hw : Agree B w w') : FarT B w' a m cap T := fun w2 h2 => h w2 (hw.trans h2)
theorem FarW.at {B : Nat} {w : World} {a : Option Addr} {n cap : Nat} {V : Nat → WV} (h : FarW B w a n cap V) : WaitsAt w a n cap V := h w (Agree.refl _ _)
theorem FarT.at {B : Nat} {w : World} {a : Option Addr} {m cap : Nat} {T : Nat → Nat → Int} (h : FarT B w a m cap T) : RowS 5 w a m cap T := h w (Agree.refl _ _)
theorem OwnW.agree {B : Nat} {w w' : World} {v : Value} {n : Nat} {F : Nat → Nat → Value} (h : OwnW B w v n F) (hw : Agree B w w') : OwnW B w' v n F := by
  rcases h with h | ⟨gd, cap, hv, hb, hnc, hc, hf⟩
  · exact .inl h
  · exact .inr ⟨gd, cap, hv, ⟨hb.1, Nat.lt_of_lt_of_le hb.2 hw.1⟩, hnc, fun i j hi hj => (hw.2 gd _ hb.1 hb.2).1.trans (hc i j hi hj), fun o => (hw.2 gd o hb.1 hb.2).2.trans (hf o)⟩
theorem CaseNew.agree {B : Nat} {w w' : World} {v : Value} {V : WV} {a : Option Addr} {c : Nat} (h : CaseNew B w v V a c) (hw : Agree B w w') : CaseNew B w' v V a c := by
  obtain ⟨⟨h1, h2, h3, h4⟩, hq⟩ := h
  refine ⟨⟨h1, h2, h3, fun h0 => ?_⟩, hq⟩
  obtain ⟨b, off, hab, hb, hcl⟩ := h4 h0
  exact ⟨b, off, hab, Nat.lt_of_lt_of_le hb hw.1, fun i j hi hj => (hw.2 b _ (hq b (by rw [hab]; rfl)).1 hb).1.trans (hcl i j hi hj)⟩
theorem waits_far {B : Nat} {w : World} {a : Option Addr} {n cap : Nat} {V : Nat → WV} {A : Nat → Option Addr} {C : Nat → Nat} (hn : n * 48 ≤ 140737488355328) (h : OwnW B w (.slice a n cap) n (wcell V A C)) (hc : ∀ i, i < n → CaseNew B w (.slice a n cap) (V i) (A i) (C i)) : FarW B w a n cap V := fun w' hw => by
  obtain ⟨a', c', hv, hr⟩ := OwnW.at hn (h.agree hw) (fun i hi => (hc i hi).agree hw)
  simp only [Value.slice.injEq, true_and] at hv
  obtain ⟨rfl, rfl⟩ := hv
  exact hr
theorem told_far {B B' E : Nat} {w : World} {a : Option Addr} {m cap : Nat} {T : Nat → Nat → Int} (hm : m * 40 ≤ 140737488355328) (h : w.ownsRow B' E 5 (.slice a m cap) m (flatL 5 T m)) (hB : B ≤ B') : FarT B w a m cap T := fun w' hw => by
  have hl := h.lt
  obtain ⟨a', c', hv, hr⟩ := RowS.of (s := 5) (by omega) h
  simp only [Value.slice.injEq, true_and] at hv
  obtain ⟨rfl, rfl⟩ := hv
  obtain ⟨h1, h2, h3, h4⟩ := hr
  refine ⟨h1, h2, h3, fun h0 => ?_⟩
  obtain ⟨b, off, hab, hb, hcl⟩ := h4 h0
  have := (hl b (by rw [hab]; rfl)).1
  exact ⟨b, off, hab, Nat.lt_of_lt_of_le hb hw.1, fun i j hi hj => (hw.2 b _ (by omega) hb).1.trans (hcl i j hi hj)⟩
/-- What end returns. -/
def EndRet (V : Nat → WV) (n : Nat) (f : Nat → Int) (m : Nat) (K : Nat → Int) (cd val : Int) (w : World) (e : Ending) (w' : World) : Prop :=
  ∃ ra rc ta tc, e = .returned (.tuple #[.slice ra n rc, .slice ta m tc]) ∧ FarW w.heap.size w' ra n rc (zeroAt V f m) ∧ FarT w.heap.size w' ta m tc (toldT V f K cd val) ∧ Below w.heap.size w w'
/-- What stands ahead of each round of end. -/
structure Ends (w w1 wr : World) (da : Option Addr) (dc n : Nat) (V : Nat → WV) (f : Nat → Int) (k : Nat) (A : Nat → Option Addr) (C : Nat → Nat) : Prop where
  bel : Below w.heap.size w wr
  up : w.heap.size ≤ w1.heap.size
  size : w1.heap.size ≤ wr.heap.size
  own : OwnW w.heap.size wr (.slice da n dc) n (wcell (zeroAt V f k) (zeroO A f k) (zeroC C f k))
  far : 0 < n → ∀ q o, q < w1.heap.size → (Value.slice da n dc).ownBlock ≠ Option.some q → wr.cell? ⟨q, o, none⟩ = w1.cell? ⟨q, o, none⟩
  low : 0 < n → ∀ q, (Value.slice da n dc).ownBlock = Option.some q → w.heap.size ≤ q ∧ q < w1.heap.size
theorem Ends.start {w w1 : World} {da : Option Addr} {dc n : Nat} {V : Nat → WV} {f : Nat → Int} {A : Nat → Option Addr} {C : Nat → Nat} (hb : Below w.heap.size w w1) (ho : OwnW w.heap.size w1 (.slice da n dc) n (wcell V A C)) : Ends w w1 w1 da dc n V f 0 A C := by
  refine ⟨hb, hb.size, Nat.le_refl _, by rw [zeroAt_zero, zeroO_zero, zeroC_zero]; exact ho, fun _ _ _ _ _ => rfl, fun hn q hq => ?_⟩
  obtain ⟨gd, c, hv, hg, _⟩ := ho.get hn
  rw [hv] at hq
  simp only [Value.ownBlock, Option.some.injEq] at hq
  subst hq
  exact hg
section
variable {w w1 wr w3 : World} {da : Option Addr} {dc n k i : Nat} {V : Nat → WV} {f : Nat → Int} {A : Nat → Option Addr} {C : Nat → Nat}
theorem Ends.some (h : Ends w w1 wr da dc n V f k A C) (hn : 0 < n) : ∃ gd, da = Option.some ⟨gd, 0, none⟩ ∧ w.heap.size ≤ gd ∧ gd < w1.heap.size := by
  obtain ⟨gd, c, hv, _⟩ := h.own.get hn
  simp only [Value.slice.injEq] at hv
  obtain ⟨rfl, _, rfl⟩ := hv
  have := h.low hn gd rfl
  exact ⟨gd, rfl, this.1, this.2⟩
theorem Ends.grown (h : Ends w w1 wr da dc n V f k A C) {r : Option Nat} (hg : wr.grownBy w3 r) (hr : ∀ q, r = Option.some q → w1.heap.size ≤ q) (hn : 0 < n) : Ends w w1 w3 da dc n V f k A C := by
  have ne : ∀ q, q < w1.heap.size → Option.some q ≠ r := fun q hq e => by have := hr q e.symm; omega
  refine ⟨h.bel.grown hg h.bel.size (fun q hq => Nat.le_trans h.up (hr q hq)), h.up, Nat.le_trans h.size hg.size, ?_, fun h0 q o hq hne => ?_, h.low⟩
  · obtain ⟨gd, c, hv, hb, hnc, hc, hf⟩ := h.own.get hn
    have hl := h.low hn gd (by rw [hv]; rfl)
    refine .inr ⟨gd, c, hv, ⟨hb.1, Nat.lt_of_lt_of_le hb.2 hg.size⟩, hnc, fun a b ha hb' => ?_, fun o => ?_⟩
    · rw [hg.cell_far ⟨gd, a * 4 + b, none⟩ hb.2 (ne gd hl.2)]; exact hc a b ha hb'
    · rw [hg.frozen_far ⟨gd, o, none⟩ hb.2 (ne gd hl.2)]; exact hf o
  · rw [hg.cell_far ⟨q, o, none⟩ (Nat.lt_of_lt_of_le hq h.size) (ne q hq)]
    exact h.far h0 q o hq hne
theorem Ends.store {gd : Nat} (h : Ends w w1 wr (Option.some ⟨gd, 0, none⟩) dc n V f k A C) (hi : i < n) (hfk : f k = (i : Int)) : Ends w w1 (store4 wr gd (i * 4) (.bool false) (.int .i64 0) (.int .i64 0) (.slice none 0 0)) (Option.some ⟨gd, 0, none⟩) dc n V f (k + 1) A C := by
  have hl := h.low (by omega) gd rfl
  refine ⟨(((h.bel.setCell hl.1 _).setCell hl.1 _).setCell hl.1 _).setCell hl.1 _, h.up, by simpa [store4] using h.size, ?_, fun h0 q o hq hne => ?_, h.low⟩
  · rw [zeroAt_succ hfk, zeroO_succ hfk, zeroC_succ hfk]
    exact h.own.store4 hi WV.zero none 0
  · have ne : gd ≠ q := fun e => hne (by rw [← e]; rfl)
    unfold store4
    rw [cell_set_ne (.inl ne), cell_set_ne (.inl ne), cell_set_ne (.inl ne), cell_set_ne (.inl ne)]
    exact h.far h0 q o hq hne
theorem Ends.soft {gd : Nat} (h : Ends w w1 wr (Option.some ⟨gd, 0, none⟩) dc n V f k A C) (hi : i < n) : (∀ j, j < 4 → ∃ x, wr.cell? ⟨gd, i * 4 + j, none⟩ = Option.some x) ∧ ∀ o, wr.frozen? ⟨gd, o, none⟩ = false := by
  obtain ⟨gd', c, hv, hb, hnc, hc, hf⟩ := h.own.get (by omega)
  simp only [Value.slice.injEq, Option.some.injEq, Addr.mk.injEq, and_true, true_and] at hv
  obtain ⟨rfl, _⟩ := hv
  exact ⟨fun j hj => ⟨_, hc i j hi hj⟩, hf⟩
theorem Ends.done (h : Ends w w1 wr da dc n V f k A C) (hn : n * 48 ≤ 140737488355328) (hc : ∀ i, i < n → CaseNew w.heap.size w1 (.slice da n dc) (V i) (A i) (C i)) : FarW w.heap.size wr da n dc (zeroAt V f k) :=
  waits_far hn h.own (fun i hi => by
    by_cases e : ∃ j, j < k ∧ f j = (i : Int)
    · rw [show zeroAt V f k i = WV.zero from if_pos e, show zeroO A f k i = none from if_pos e, show zeroC C f k i = 0 from if_pos e]
      exact ⟨RowS.nil rfl rfl, fun q hq => by cases hq⟩
    · rw [show zeroAt V f k i = V i from if_neg e, show zeroO A f k i = A i from if_neg e, show zeroC C f k i = C i from if_neg e]
      obtain ⟨⟨h1, h2, h3, h4⟩, hq⟩ := hc i hi
      refine ⟨⟨h1, h2, h3, fun h0 => ?_⟩, hq⟩
      obtain ⟨b, off, hab, hb, hcl⟩ := h4 h0
      have hne := (hq b (by rw [hab]; rfl)).2
      exact ⟨b, off, hab, Nat.lt_of_lt_of_le hb h.size, fun x y hx hy => (h.far (by omega) b _ hb hne).trans (hcl x y hx hy)⟩)
end
theorem told_row {V : Nat → WV} {f : Nat → Int} {K : Nat → Int} {cd val : Int} {k i : Nat} (hfk : f k = (i : Int)) : flatL 5 (toldT V f K cd val) k ++ [.int .i64 (i : Int), .int .i64 (V i).sq, .int .i64 (K i), .int .i64 cd, .int .i64 val] = flatL 5 (toldT V f K cd val) (k + 1) := by
  rw [flat5_succ]
  simp [toldT, hfk]
set_option maxRecDepth 100000 in
set_option maxHeartbeats 6400000 in
theorem end_recv (p : Nat) (a : Option Addr) (n cap : Nat) (V : Nat → WV) (fa : Option Addr) (m fc : Nat) (f : Nat → Int) (K : Nat → Int) (cd val : Int) (w : World) (h : WaitsAt w a n cap V) (hf : RowAt .i64 w fa m fc f) (hfi : ∀ j, j < m → ∃ i : Nat, i < n ∧ f j = (i : Int)) (hmn : m ≤ n)
    (hcame : ∀ (i : Nat) (W : World) (ca : Option Addr) (cc : Nat), (∃ j, j < m ∧ f j = (i : Int)) → Below w.heap.size w W → RowS 3 W ca (V i).m cc (V i).c → Calls Try.prog 100 #[.agg #[.bool (V i).on, .int .i64 (V i).tk, .int .i64 (V i).sq, .slice ca (V i).m cc], .pointer (some ⟨p, 0, none⟩)] W fun e w' => e = .returned (.agg #[.int .i64 0, .int .i64 (K i), .int .i64 cd, .int .i64 val]) ∧ Below W.heap.size W w') :
    Calls Try.prog 75 #[.slice a n cap, .slice fa m fc, .func (.func 100) #[] #[.pointer (some ⟨p, 0, none⟩)]] w (EndRet V n f m K cd val w) := by
  have hn := h.1
  have HS := Lib.hid h
  have HF := Lib.hid hf
  have HFI := Lib.hid hfi
  have HK := Lib.hid hcame
  have HC := Lib.hid (copy_any a n cap V w h)
  obtain ⟨ti, hti, htz, htz1, htz2⟩ := info_parts Try.info_told
  clear h hf hfi hcame hti htz htz1 htz2
  go_enter Try.func75, Try.ntmps75
  go_upto_region 2 with (go_at_call 29; go_loud ((with_reducible refine HC.out.mono ?_); rintro e w1 ⟨v1, A, C, rfl, ho, hc, hb⟩; have HO := Lib.hid ho; have HCS := Lib.hid hc; have HB1 := Lib.hid hb; obtain ⟨da, dc, rfl⟩ := ho.form; clear ho hc hb))
  go_wp2
  go_loopw [9, 17] (fun tv iv wr => ∃ k : Nat, k ≤ m ∧ iv = .int .i64 k ∧ wr.ownsRow w1.heap.size 64 5 tv k (flatL 5 (toldT V f K cd val) k) ∧ Ends w w1 wr da dc n V f k A C) (fun _ iv _ => m - (intOf iv).toNat)
  case atStart => exact ⟨0, Nat.zero_le _, rfl, by rw [flatL_zero]; exact World.ownsRow_nil _ _ _ _, Ends.start HB1.out HO.out⟩
  case round =>
    obtain ⟨k, hk, rfl, ht, hx⟩ := hrel
    obtain ⟨ta, tc, rfl⟩ := own_form ht
    have HT := Lib.hid ht
    have HX := Lib.hid hx
    have HR := Lib.hid (HS.out.below hx.bel)
    have HFR := Lib.hid (HF.out.below hx.bel)
    clear ht hx
    by_cases hlt : k < m
    · obtain ⟨i, hin, hfk⟩ := HFI.out k hlt
      obtain ⟨gd, hgd⟩ := HX.out.some (by omega)
      obtain ⟨rfl, hg1, hg2⟩ := hgd
      obtain ⟨fb, fo, rfl, _, hfc⟩ := HFR.out.get hlt
      have z0 := hfc k hlt
      rw [hfk] at z0
      obtain ⟨b, off, rfl, zb, hc⟩ := HR.out.get hin
      obtain ⟨ca, cc, x0, x1, x2, x3, hr⟩ := hc i hin
      have HKI := Lib.hid (HK.out i wr ca cc ⟨k, hlt, hfk⟩ HX.out.bel hr)
      have i0 : (0 : Int) ≤ (i : Int) := by omega
      have i1 : (i : Int) < (n : Int) := by omega
      have j0 : (0 : Int) ≤ (k : Int) := by omega
      have j1 : (k : Int) < (m : Int) := by omega
      have HFK := Lib.hid hfk
      have hgr := HX.out.size
      have hgt := HT.out.lt
      clear hfc hc hr hfk
      go_upto_region 8 with (go_at_call 100; go_loud ((with_reducible refine HKI.out.mono ?_); rintro e w2 ⟨rfl, hb2⟩; have HB2 := Lib.hid hb2; have x2 := ((bcell hb2).1 _ _ zb).trans x2; have zb := Nat.lt_of_lt_of_le zb hb2.size; clear hb2 x0 x1 x3 z0))
      have HT2 := Lib.hid (own_below HT.out HB2.out)
      have h2s := HB2.out.size
      go_upto_region 9 with (at_builtin; go_loud (refine app_cells w1.heap.size 64 49 rfl _ _ rfl Try.underlying49 _ 5 40 Try.info_told rfl (by decide) (.slice ta k tc) k (flatL 5 (toldT V f K cd val) k) #[.int .i64 (i : Int), .int .i64 (V i).sq, .int .i64 (K i), .int .i64 cd, .int .i64 val] rfl (by simp [Value.oneCell']) rfl (HT2.out.alloc _) (w2.heap.size + 1) (by simp) rfl (by omega) (by unfold maxLen; omega) (by simp; omega) ?_; intro gg gc w3 ho3 hg3 _ _; have HT3 := Lib.hid ho3; have HG3 := Lib.hid ((below_grownBy (HB2.out.alloc h2s _) (Value.slice ta k tc).ownBlock).trans hg3); clear ho3 hg3))
      have HX3 := Lib.hid (HX.out.grown HG3.out (fun q hq => (hgt q hq).1) (by omega))
      obtain ⟨hs3, hf3⟩ := HX3.out.soft hin
      obtain ⟨u0, e0⟩ := hs3 0 (by omega)
      obtain ⟨u1, e1⟩ := hs3 1 (by omega)
      obtain ⟨u2, e2⟩ := hs3 2 (by omega)
      obtain ⟨u3, e3⟩ := hs3 3 (by omega)
      rw [Nat.add_zero] at e0
      have f0 := hf3 (i * 4)
      have f1 := hf3 (i * 4 + 1)
      have f2 := hf3 (i * 4 + 2)
      have f3 := hf3 (i * 4 + 3)
      clear hs3 hf3
      go_wp2
      go_roundw
      case rel => exact ⟨k + 1, by omega, by go_num, (by rw [← told_row HFK.out]; exact ownsRow_setCell_below (ownsRow_setCell_below (ownsRow_setCell_below (ownsRow_setCell_below HT3.out hg2 _) hg2 _) hg2 _) hg2 _), HX3.out.store hin HFK.out⟩
      case measure => simp [intOf]; omega
    · obtain rfl : k = m := by omega
      have HRW := Lib.hid (told_far (by omega) HT.out HX.out.up)
      go_wp2
      refine bodyPost_ret (v := .tuple #[.slice da n dc, .slice ta k tc]) (by simp only [results, Try.results75]; go_simp) rfl ⟨da, dc, ta, tc, rfl, HX.out.done hn HCS.out, HRW.out, HX.out.bel⟩
end Go.Proofs.Ytihpjfhibhpciaa
