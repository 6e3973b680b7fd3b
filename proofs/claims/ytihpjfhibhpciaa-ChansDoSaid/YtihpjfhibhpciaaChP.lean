/- What statements hold against each other: channels, results, what is told; over the seat's program. -/
import Derived.Test.YtihpjfhibhpciaaChK
import Derived.ArgAppend
namespace Go.Proofs.Ytihpjfhibhpciaa
open Go.ChangeShapes Go.WideShapes Go.ChangeAt Go.RowKit Go.Joins

theorem RowZ.get {w : World} {a : Option Addr} {n cap : Nat} {f : Nat → Int} (h : RowZ w a n cap f) {k : Nat} (hk : k < n) : ∃ b off, a = some ⟨b, off, none⟩ ∧ b < w.heap.size ∧ ∀ i, i < n → w.cell? ⟨b, off + i, none⟩ = some (.int .i64 (f i)) := h.2.2 (by omega)
theorem RowZ.drewN {w : World} {a : Option Addr} {n cap : Nat} {f : Nat → Int} (h : RowZ w a n cap f) (m : Nat) : RowZ (w.drewN m) a n cap f := h.below (below_drewN (Below.refl _ _) m)
set_option maxHeartbeats 1000000 in
theorem zints_yes (a a' : Option Addr) (n cap cap' : Nat) (f g : Nat → Int) (w : World) (h : RowZ w a n cap f) (h' : RowZ w a' n cap' g) (he : ∀ i, i < n → f i = g i) :
    Calls Try.prog 23 #[.slice a n cap, .slice a' n cap'] w fun e w' => e = .returned (.bool true) ∧ SomeDraws w w' := by
  have hn := h.1
  have HC := Lib.hid h
  have HC' := Lib.hid h'
  have HE := Lib.hid he
  clear h h' he
  go_enter Try.func23, Try.ntmps23
  go_wp2
  go_loopw [13] (fun i wr => ∃ k : Nat, k ≤ n ∧ i = .int .i64 k ∧ RowZ wr a n cap f ∧ RowZ wr a' n cap' g ∧ SomeDraws w wr) (fun i _ => n - (intOf i).toNat)
  case atStart => exact ⟨0, Nat.zero_le _, rfl, HC.out, HC'.out, 0, rfl⟩
  case round =>
    obtain ⟨k, hk, rfl, h, h', hq⟩ := hrel
    have HR := Lib.hid h
    have HR' := Lib.hid h'
    have HQ := Lib.hid hq
    clear h h' hq
    by_cases hlt : k < n
    · obtain ⟨b, off, rfl, _, hc⟩ := HR.out.get hlt
      obtain ⟨b', off', rfl, _, hc'⟩ := HR'.out.get hlt
      have c1 := hc k hlt
      have c2 := hc' k hlt
      rw [← HE.out k hlt] at c2
      have i0 : (0 : Int) ≤ (k : Int) := by omega
      have i1 : (k : Int) < (n : Int) := by omega
      have e1 : (f k != f k) = false := by simp
      clear hc hc'
      go_wp2
      go_quiet (fail)
      go_wp2
      go_roundw
      case rel => exact ⟨k + 1, by omega, by go_num, HR.out.drewN _, HR'.out.drewN _, HQ.out.drew _⟩
      case measure => simp [intOf]; omega
    · go_wp2
      go_ret
      exact ⟨rfl, HQ.out⟩
set_option maxRecDepth 100000 in
set_option maxHeartbeats 3200000 in
theorem chan_yes (C : CH) (a a' : Option Addr) (cap cap' : Nat) (g : Nat → Int) (w : World) (h : RowZ w a C.n cap C.f) (h' : RowZ w a' C.n cap' g) (he : ∀ i, i < C.n → C.f i = g i) :
    Calls Try.prog 35 #[.agg #[.int .i64 C.gen, .int .i64 C.cap, .bool C.used, .bool C.closed, .slice a C.n cap], .agg #[.int .i64 C.gen, .int .i64 C.cap, .bool C.used, .bool C.closed, .slice a' C.n cap']] w fun e w' => e = .returned (.bool true) ∧ Below w.heap.size w w' := by
  have HA := Lib.hid (show Below w.heap.size w ((w.alloc (.cells #[.int .i64 C.gen, .int .i64 C.cap, .bool C.used, .bool C.closed, .slice a C.n cap] 44)).alloc (.cells #[.int .i64 C.gen, .int .i64 C.cap, .bool C.used, .bool C.closed, .slice a' C.n cap'] 44)) from ((Below.refl _ _).alloc (Nat.le_refl _) _).alloc (by simp) _)
  have HZ := Lib.hid (zints_yes _ _ _ _ _ _ _ _ (h.below HA.out) (h'.below HA.out) he)
  have e0 : (C.gen == C.gen) = true := by simp
  have e1 : (C.cap == C.cap) = true := by simp
  have e2 : (C.used == C.used) = true := by simp
  have e3 : (C.closed == C.closed) = true := by simp
  clear h h' he
  go_enter Try.func35, Try.ntmps35
  go_wp2_with (go_at_call 23; go_loud ((with_reducible refine HZ.out.mono ?_); rintro e w3 ⟨rfl, hq⟩; have HB := Lib.hid (HA.out.trans (hq.below.mono HA.out.size)); clear hq))
  go_ret
  exact ⟨rfl, HB.out⟩
set_option maxRecDepth 100000 in
set_option maxHeartbeats 3200000 in
theorem res_yes (a b c d : Int) (w : World) : Calls Try.prog 36 #[.agg #[.int .i64 a, .int .i64 b, .int .i64 c, .int .i64 d], .agg #[.int .i64 a, .int .i64 b, .int .i64 c, .int .i64 d]] w fun e w' => e = .returned (.bool true) ∧ Below w.heap.size w w' := by
  have HA := Lib.hid (show Below w.heap.size w ((w.alloc (.cells #[.int .i64 a, .int .i64 b, .int .i64 c, .int .i64 d] 48)).alloc (.cells #[.int .i64 a, .int .i64 b, .int .i64 c, .int .i64 d] 48)) from ((Below.refl _ _).alloc (Nat.le_refl _) _).alloc (by simp) _)
  have e0 : (a == a) = true := by simp
  have e1 : (b == b) = true := by simp
  have e2 : (c == c) = true := by simp
  have e3 : (d == d) = true := by simp
  go_enter Try.func36, Try.ntmps36
  go_wp2
  go_ret
  exact ⟨rfl, HA.out⟩
set_option maxRecDepth 100000 in
set_option maxHeartbeats 3200000 in
theorem told_yes (a a' : Option Addr) (n cap cap' : Nat) (f g : Nat → Nat → Int) (w : World) (h : RowS 5 w a n cap f) (h' : RowS 5 w a' n cap' g) (he : ∀ i j, i < n → j < 5 → f i j = g i j) :
    Calls Try.prog 37 #[.slice a n cap, .slice a' n cap'] w fun e w' => e = .returned (.bool true) ∧ Below w.heap.size w w' := by
  have hn := h.1
  have HC := Lib.hid h
  have HC' := Lib.hid h'
  have HE := Lib.hid he
  clear h h' he
  go_enter Try.func37, Try.ntmps37
  go_wp2
  go_loopw [13] (fun i wr => ∃ k : Nat, k ≤ n ∧ i = .int .i64 k ∧ Below w.heap.size w wr) (fun i _ => n - (intOf i).toNat)
  case atStart => exact ⟨0, Nat.zero_le _, rfl, Below.refl _ _⟩
  case round =>
    obtain ⟨k, hk, rfl, hb⟩ := hrel
    have HB := Lib.hid hb
    have HR := Lib.hid (HC.out.below hb)
    have HR' := Lib.hid (HC'.out.below hb)
    clear hb
    by_cases hlt : k < n
    · obtain ⟨b, off, rfl, zb, hc⟩ := HR.out.get hlt
      obtain ⟨b', off', rfl, zb', hc'⟩ := HR'.out.get hlt
      have c0 := hc k 0 hlt (by omega)
      have c1 := hc k 1 hlt (by omega)
      have c2 := hc k 2 hlt (by omega)
      have c3 := hc k 3 hlt (by omega)
      have c4 := hc k 4 hlt (by omega)
      have d0 := hc' k 0 hlt (by omega)
      have d1 := hc' k 1 hlt (by omega)
      have d2 := hc' k 2 hlt (by omega)
      have d3 := hc' k 3 hlt (by omega)
      have d4 := hc' k 4 hlt (by omega)
      rw [← HE.out k 0 hlt (by omega)] at d0
      rw [← HE.out k 1 hlt (by omega)] at d1
      rw [← HE.out k 2 hlt (by omega)] at d2
      rw [← HE.out k 3 hlt (by omega)] at d3
      rw [← HE.out k 4 hlt (by omega)] at d4
      rw [Nat.add_zero] at c0 d0
      have i0 : (0 : Int) ≤ (k : Int) := by omega
      have i1 : (k : Int) < (n : Int) := by omega
      have e1 : (f k 0 != f k 0) = false := by simp
      clear hc hc'
      have c2 : wr.cell? ⟨b, off + k * 5 + 1 + 1, none⟩ = some (.int .i64 (f k 2)) := c2
      have c3 : wr.cell? ⟨b, off + k * 5 + 1 + 2, none⟩ = some (.int .i64 (f k 3)) := c3
      have c4 : wr.cell? ⟨b, off + k * 5 + 1 + 3, none⟩ = some (.int .i64 (f k 4)) := c4
      have d2 : wr.cell? ⟨b', off' + k * 5 + 1 + 1, none⟩ = some (.int .i64 (f k 2)) := d2
      have d3 : wr.cell? ⟨b', off' + k * 5 + 1 + 2, none⟩ = some (.int .i64 (f k 3)) := d3
      have d4 : wr.cell? ⟨b', off' + k * 5 + 1 + 3, none⟩ = some (.int .i64 (f k 4)) := d4
      go_wp2
      go_region_held3 (fun W => W.cell? ⟨b, off + k * 5, none⟩ = some (.int .i64 (f k 0)) ∧ W.cell? ⟨b, off + k * 5 + 1, none⟩ = some (.int .i64 (f k 1)) ∧ W.cell? ⟨b, off + k * 5 + 1 + 1, none⟩ = some (.int .i64 (f k 2)) ∧ W.cell? ⟨b, off + k * 5 + 1 + 2, none⟩ = some (.int .i64 (f k 3)) ∧ W.cell? ⟨b, off + k * 5 + 1 + 3, none⟩ = some (.int .i64 (f k 4)) ∧ W.cell? ⟨b', off' + k * 5, none⟩ = some (.int .i64 (f k 0)) ∧ W.cell? ⟨b', off' + k * 5 + 1, none⟩ = some (.int .i64 (f k 1)) ∧ W.cell? ⟨b', off' + k * 5 + 1 + 1, none⟩ = some (.int .i64 (f k 2)) ∧ W.cell? ⟨b', off' + k * 5 + 1 + 2, none⟩ = some (.int .i64 (f k 3)) ∧ W.cell? ⟨b', off' + k * 5 + 1 + 3, none⟩ = some (.int .i64 (f k 4)))
        (first | with_reducible exact ⟨c0, c1, c2, c3, c4, d0, d1, d2, d3, d4⟩ | (go_simp; done) | go_keep)
        ((go_at_call 36; (with_reducible refine (res_yes _ _ _ _ _).mono ?_); rintro e u5 ⟨rfl, hb⟩; have hb5 : Below wr.heap.size wr u5 := (by first | with_reducible exact hb | exact (Below.drew (Below.refl _ _)).trans (hb.mono (Nat.le_refl _))); have HB5 := Lib.hid (HB.out.trans (hb5.mono HB.out.size)); have c0 := ((bcell hb5).1 _ _ zb).trans c0; have c1 := ((bcell hb5).1 _ _ zb).trans c1; have c2 := ((bcell hb5).1 _ _ zb).trans c2; have c3 := ((bcell hb5).1 _ _ zb).trans c3; have c4 := ((bcell hb5).1 _ _ zb).trans c4; have d0 := ((bcell hb5).1 _ _ zb').trans d0; have d1 := ((bcell hb5).1 _ _ zb').trans d1; have d2 := ((bcell hb5).1 _ _ zb').trans d2; have d3 := ((bcell hb5).1 _ _ zb').trans d3; have d4 := ((bcell hb5).1 _ _ zb').trans d4; clear hb hb5))
      go_wp2
      go_roundw
      case rel => exact ⟨k + 1, by omega, by go_num, HB5.out⟩
      case measure => simp [intOf]; omega
    · obtain rfl : k = n := by omega
      go_wp2
      go_ret
      exact ⟨rfl, HB.out⟩
set_option maxRecDepth 100000 in
set_option maxHeartbeats 3200000 in
theorem rtold_any (a : Option Addr) (n cap : Nat) (V : Nat → WV) (t wh : Nat) (code x : Int) (w : World) (h : WaitsAt w a n cap V) (ht : t < n) :
    Calls Try.prog 73 #[.slice a n cap, .int .i64 t, .int .i64 wh, .int .i64 code, .int .i64 x] w fun e w' => e = .returned (.agg #[.int .i64 t, .int .i64 (V t).sq, .int .i64 wh, .int .i64 code, .int .i64 x]) ∧ Below w.heap.size w w' := by
  have hn := h.1
  obtain ⟨b, off, rfl, zb, hc⟩ := h.get ht
  obtain ⟨_, _, _, _, x2, _, _⟩ := hc t ht
  have i0 : (0 : Int) ≤ (t : Int) := by omega
  have i1 : (t : Int) < (n : Int) := by omega
  have HA := Lib.hid ((Below.refl w.heap.size w).alloc (Nat.le_refl _) (.cells #[.int .i64 (t : Int), .int .i64 (V t).sq, .int .i64 (wh : Int), .int .i64 code, .int .i64 x] 64))
  clear h hc
  go_enter Try.func73, Try.ntmps73
  go_wp2
  refine bodyPost_ret (v := .agg #[.int .i64 (t : Int), .int .i64 (V t).sq, .int .i64 (wh : Int), .int .i64 code, .int .i64 x]) (by simp only [results, Try.results73]; go_simp) rfl ⟨rfl, HA.out⟩
/-- A row in new memory, or an empty slice without room. -/
def OwnP (P : Nat → Prop) (w : World) (E s : Nat) (v : Value) (n : Nat) (xs : List Value) : Prop :=
  (n = 0 ∧ ∃ q, v = .slice (some ⟨q, 0, none⟩) 0 0) ∨ ∃ B, w.ownsRow B E s v n xs ∧ ∀ b, v.ownBlock = some b → P b
section
variable {P Q : Nat → Prop} {w w' : World} {E s n : Nat} {v : Value} {xs : List Value}
theorem OwnP.imp (h : OwnP P w E s v n xs) (hPQ : ∀ b, b < w.heap.size → P b → Q b) : OwnP Q w E s v n xs := by
  rcases h with h | ⟨B, h, hp⟩
  · exact .inl h
  · exact .inr ⟨B, h, fun b hb => hPQ b (h.lt b hb).2 (hp b hb)⟩
theorem OwnP.grown (h : OwnP P w E s v n xs) {r : Option Nat} (hg : w.grownBy w' r) (hr : ∀ b, P b → some b ≠ r) : OwnP P w' E s v n xs := by
  rcases h with h | ⟨B, h, hp⟩
  · exact .inl h
  · refine .inr ⟨B, h.kept hg ?_, hp⟩
    cases hv : v.ownBlock with
    | none => exact .inl rfl
    | some b => exact .inr (hr b (hp b hv))
theorem OwnP.below (h : OwnP P w E s v n xs) (hb : Below w.heap.size w w') : OwnP P w' E s v n xs := h.grown (below_grownBy hb none) (by simp)
theorem OwnP.set (h : OwnP P w E s v n xs) {p i : Nat} {x : Value} (hne : ¬ P p) : OwnP P (w.setCell ⟨p, i, none⟩ x) E s v n xs := by
  rcases h with h | ⟨B, h, hp⟩
  · exact .inl h
  · exact .inr ⟨B, own_setne h (fun e => hne (hp p e)), hp⟩
theorem OwnP.form (h : OwnP P w E s v n xs) : ∃ a cap, v = .slice a n cap := by
  rcases h with ⟨rfl, q, rfl⟩ | ⟨B, h, hp⟩
  · exact ⟨_, _, rfl⟩
  · exact own_form h
end
theorem nrun_copy {w : World} (T ty : TypeId) (E : TypeId) (z : Value) (size bytes : Nat) (hT : Try.prog.underlying T = some (.slice E)) (hE : (Try.prog.info? E).map (fun i => (i.zero, i.size, i.bytes)) = some (some z, size, bytes)) (hz0 : z.cells.size = size) (hsz : 0 < size)
    (q : Nat) (ao : Option Addr) (m c : Nat) (news : List Value) (hl : news.length = m * size) (hnone : ao = none → m = 0 ∧ c = 0) (hnews : ∀ ad, ao = some ad → ∀ j u, news[j]? = some u → w.cell? (ad.add j) = some u) (b1 : m ≤ maxLen) (b2 : m * bytes ≤ 140737488355328) :
    ∃ l' c' w', (Builtin.append_ #[T, T] ty #[.slice (some ⟨q, 0, none⟩) 0 0, .slice ao m c]).run Try.prog w = .ok (.slice l' m c') w' ∧ OwnP (fun b => w.heap.size ≤ b) w' E size (.slice l' m c') m news ∧ w.grownBy w' none := by
  obtain ⟨i, hi, hz, hz1, hz2⟩ := info_parts hE
  cases ao with
  | none =>
    obtain ⟨rfl, rfl⟩ := hnone rfl
    refine ⟨some ⟨q, 0, none⟩, 0, w, ?_, .inl ⟨rfl, q, rfl⟩, World.grownBy.refl _ _⟩
    simp [Builtin.append_, run_underlying hT, sizeOf, typeInfo, hi, Builtin.lenOf, Builtin.firstCells, storeCells]
  | some ad =>
    rcases Nat.eq_zero_or_pos m with rfl | hm
    · obtain rfl : news = [] := List.eq_nil_of_length_eq_zero (by simpa using hl)
      refine ⟨some ⟨q, 0, none⟩, 0, w, ?_, .inl ⟨rfl, q, rfl⟩, World.grownBy.refl _ _⟩
      have := run_append_room_cells (P := Try.prog) (w := w) T ty E i hT hi q 0 0 0 ad 0 c [] (by simp) (by simp) (by simp) (by omega) (by simp) (by simp)
      simpa [World.setCells] using this
    · obtain ⟨v', w', hr, ho, hg⟩ := run_append_arg_grows (P := Try.prog) (w := w) T ty E i z size bytes hT hi hz hz1 hz2 hz0 hsz ⟨q, 0, none⟩ 0 0 [] (by simp) (by simp) ad m c news hl (hnews ad rfl) (by omega) (by omega) (by rw [Nat.zero_add]; exact b2)
      rw [Nat.zero_add, List.nil_append] at ho
      obtain ⟨l', c', rfl⟩ := own_form ho
      exact ⟨l', c', w', hr, .inr ⟨_, ho, fun b hb => (ho.lt b hb).1⟩, hg⟩
/-- .. as a step of a region that draws its order. -/
theorem nstep_copy {ops : Array Oper} {o : Oper} {a : Act} {w : World} {K : Act → World → Prop} {Q : Exit → Act → World → Prop} {E' : Prop} (hgd : o.guard = none) (s x : Operand) (T : TypeId)
    (ho : o.op = .call { callee := .builtin .append, args := #[s, x], argTypes := #[T, T] })
    (E : TypeId) (z : Value) (size bytes : Nat) (hT : Try.prog.underlying T = some (.slice E)) (hE : (Try.prog.info? E).map (fun i => (i.zero, i.size, i.bytes)) = some (some z, size, bytes)) (hz0 : z.cells.size = size) (hsz : 0 < size)
    (q : Nat) (hs : a.eval s = .slice (some ⟨q, 0, none⟩) 0 0) (ao : Option Addr) (m c : Nat) (news : List Value) (hx : a.eval x = .slice ao m c) (hl : news.length = m * size) (hnone : ao = none → m = 0 ∧ c = 0) (hnews : ∀ ad, ao = some ad → ∀ j u, news[j]? = some u → w.cell? (ad.add j) = some u) (b1 : m ≤ maxLen) (b2 : m * bytes ≤ 140737488355328)
    (h : ∀ l' c' w', OwnP (fun b => w.heap.size ≤ b) w' E size (.slice l' m c') m news → w.grownBy w' none → K (a.put o.dst (.slice l' m c')) w') :
    if Region.wanted o (yielded ops a.tmps) = true then Oper.wp Try.prog o a w K Q else E' := by
  have hw : Region.wanted o (yielded ops a.tmps) = true := by simp [Region.wanted, hgd]
  rw [if_pos hw]
  obtain ⟨l', c', w', hr, h1, h2⟩ := nrun_copy (w := w) T o.type E z size bytes hT hE hz0 hsz q ao m c news hl hnone hnews b1 b2
  unfold Oper.wp
  simp [execOp, ho, resolve, invoke, builtin, hs, hx, hr, Result.andThen]
  exact h l' c' w' h1 h2
/-- .. at the list of a plain region's operations. -/
theorem nlist_copy {ops : Array Oper} {rest : List Oper} {o : Oper} {a : Act} {w : World} {Q : Exit → Act → World → Prop} (hgd : o.guard = none) (s x : Operand) (T : TypeId)
    (ho : o.op = .call { callee := .builtin .append, args := #[s, x], argTypes := #[T, T] })
    (E : TypeId) (z : Value) (size bytes : Nat) (hT : Try.prog.underlying T = some (.slice E)) (hE : (Try.prog.info? E).map (fun i => (i.zero, i.size, i.bytes)) = some (some z, size, bytes)) (hz0 : z.cells.size = size) (hsz : 0 < size)
    (q : Nat) (hs : a.eval s = .slice (some ⟨q, 0, none⟩) 0 0) (ao : Option Addr) (m c : Nat) (news : List Value) (hx : a.eval x = .slice ao m c) (hl : news.length = m * size) (hnone : ao = none → m = 0 ∧ c = 0) (hnews : ∀ ad, ao = some ad → ∀ j u, news[j]? = some u → w.cell? (ad.add j) = some u) (b1 : m ≤ maxLen) (b2 : m * bytes ≤ 140737488355328)
    (h : ∀ l' c' w', OwnP (fun b => w.heap.size ≤ b) w' E size (.slice l' m c') m news → w.grownBy w' none → wpList Try.prog ops Q rest (a.put o.dst (.slice l' m c')) w') : wpList Try.prog ops Q (o :: rest) a w := by
  refine wpList_plain hgd fun K hK' => ?_
  obtain ⟨l', c', w', hr, h1, h2⟩ := nrun_copy (w := w) T o.type E z size bytes hT hE hz0 hsz q ao m c news hl hnone hnews b1 b2
  unfold Oper.wp
  simp [execOp, ho, resolve, invoke, builtin, hs, hx, hr, Result.andThen]
  exact hK' _ _ (h l' c' w' h1 h2)

end Go.Proofs.Ytihpjfhibhpciaa
