/- FifoOrder over the seat's program: it answers true. -/
import Derived.Test.YtmghbcddnmiamaaFfK
import Derived.Test.YtmghbcddnmiamaaApp
import Derived.Deep.CutBlock
namespace Go.Proofs.Ytmghbcddnmiamaa
open Go.ChangeShapes Go.WideShapes Go.ChangeAt Go.RowKit Go.Joins

/-- What is returned is cells of these numbers, in new memory. -/
def RetLitN (cp : Int) (n m : Nat) (f : Nat → Int) (g : Nat → Nat → Int) (w : World) (e : Ending) (w' : World) : Prop :=
  ∃ la lc da dc, e = .returned (.agg #[.int .i64 cp, .slice la n lc, .slice da m dc]) ∧ (RowP (fun b => w.heap.size ≤ b) w' la n lc f ∧ RowS 4 w' da m dc g ∧ ∀ q, (Value.slice da m dc).ownBlock = some q → w.heap.size ≤ q) ∧ Below w.heap.size w w'
theorem RetNew.lit {C : CV} {w w' : World} {e : Ending} {cp : Int} {n m : Nat} (h : RetNew C w e w') (h1 : C.cap = cp) (h2 : C.n = n) (h3 : C.m = m) : RetLitN cp n m C.f C.g w e w' := by
  subst h1 h2 h3
  obtain ⟨v, rfl, ⟨la, lc, da, dc, rfl, hl⟩, hb⟩ := h
  exact ⟨la, lc, da, dc, rfl, hl, hb⟩
theorem note_one (C : CV) (r : Nat → Int) (h : C.m = 1) : (C.note 0 r).cap = C.cap ∧ (C.note 0 r).n = C.n ∧ (C.note 0 r).m = 1 ∧ (C.note 0 r).f = C.f ∧ (C.note 0 r).g 0 = r := by
  unfold CV.note
  rw [if_pos ⟨by omega, by rw [h]; omega⟩]
  refine ⟨rfl, rfl, h, rfl, ?_⟩
  funext j
  simp
/-- A call of the one thread. -/
theorem apply_one {cp : Int} {n n' : Nat} {f : Nat → Int} {g : Nat → Nat → Int} (seq k x : Int) (hn : n ≤ 1000) (hn' : (CV.after ⟨cp, n, f, 1, g⟩ false k x).n = n') : ∃ g', (∀ (W : World) (la da : Option Addr) (lc dc : Nat), RowI W la n lc f → RowS 4 W da 1 dc g → Calls Try.prog 7 #[.agg #[.int .i64 cp, .slice la n lc, .slice da 1 dc], .int .i64 0, .int .i64 seq, .agg #[.int .i64 k, .int .i64 0, .int .i64 x, .bool false, .slice none 0 0]] W (RetLitN cp n' 1 (CV.after ⟨cp, n, f, 1, g⟩ false k x).f g' W)) ∧ g' 0 = res4 seq (CV.code ⟨cp, n, f, 1, g⟩ k) (CV.told ⟨cp, n, f, 1, g⟩ false k) := by
  obtain ⟨a1, a2, a3⟩ := after_m ⟨cp, n, f, 1, g⟩ false k x
  obtain ⟨h1, h2, h3, h4, h5⟩ := note_one (CV.after ⟨cp, n, f, 1, g⟩ false k x) (res4 seq (CV.code ⟨cp, n, f, 1, g⟩ k) (CV.told ⟨cp, n, f, 1, g⟩ false k)) a1
  refine ⟨_, fun W la da lc dc hl hd => (apply_new _ ⟨cp, n, f, 1, g⟩ 0 seq k 0 x false none 0 0 W ⟨la, lc, da, dc, rfl, hl, hd⟩ (by dsimp only; omega)).mono fun e w' h => ?_, h5⟩
  have := h.lit (h1.trans a3) (h2.trans hn') h3
  unfold CV.apply at this
  rw [h4] at this
  exact this
theorem Apart.of {P : Nat → Prop} {v v' : Value} (h : ∀ b, v.ownBlock = some b → P b) (h' : ∀ b, v'.ownBlock = some b → ¬ P b) : Apart v v' := by
  unfold Apart
  cases hv : v.ownBlock with
  | none => exact .inl rfl
  | some b => exact .inr (fun e => h' b e.symm (h b hv))
theorem Apart.ne {v v' : Value} (h : Apart v v') : ∀ b, v.ownBlock = some b → v'.ownBlock ≠ some b := by
  intro b hb e
  rcases h with h | h
  · rw [hb] at h; cases h
  · exact h (hb.trans e.symm)
/-- What stands ahead of each round: what was put, what was taken, and the queue. -/
def OrdAt (w : World) (cap : Int) (p k : Nat) (s6 s7 : Value) (wr : World) : Prop :=
  ∃ (a b N : Nat) (F : Nat → Int) (g : Nat → Nat → Int) (ia oa la da : Option Addr) (ic oc lc dc : Nat), b + N = a ∧ a ≤ k ∧ ((N : Int) ≤ cap ∨ N = 0) ∧ s6 = .slice ia a ic ∧ s7 = .slice oa b oc ∧ Box3 wr p (.int .i64 cap) (.slice la N lc) (.slice da 1 dc) ∧ RowP (fun q => s6.ownBlock ≠ some q ∧ s7.ownBlock ≠ some q ∧ q ≠ p) wr la N lc (fun i => F (b + i)) ∧ RowS 4 wr da 1 dc g ∧ wr.ownsRow w.heap.size 3 1 s6 a (rowL .i64 F a) ∧ wr.ownsRow w.heap.size 3 1 s7 b (rowL .i64 F b) ∧ Apart s6 s7 ∧ Below w.heap.size w wr ∧ (w.heap.size ≤ p ∧ p < wr.heap.size) ∧ s6.ownBlock ≠ some p ∧ s7.ownBlock ≠ some p
theorem RowI.less {w : World} {a : Option Addr} {n m cap : Nat} {f : Nat → Int} (h : RowI w a n cap f) (hm : m ≤ n) : RowI w a m cap f := by
  obtain ⟨h1, h2, h3, h4⟩ := h
  refine ⟨by omega, fun e => ⟨by have := (h2 e).1; omega, (h2 e).2⟩, by omega, fun h0 => ?_⟩
  obtain ⟨b, off, ha, hb, hc⟩ := h4 (by omega)
  exact ⟨b, off, ha, hb, fun i hi => hc i (by omega)⟩
theorem own_ia {w : World} {B E s n c : Nat} {ia : Option Addr} {xs : List Value} (h : w.ownsRow B E s (.slice ia n c) n xs) : ia = none ∨ ∃ g, ia = some ⟨g, 0, none⟩ := by
  rcases h.2 with ⟨h, _⟩ | ⟨g, cap, cur, h, _⟩
  · simp only [Value.slice.injEq] at h
    exact .inl h.1
  · simp only [Value.slice.injEq] at h
    exact .inr ⟨g, h.1⟩
theorem RowI.drop {w : World} {g off n m cap : Nat} {f : Nat → Int} (h : RowI w (some ⟨g, off, none⟩) n cap f) (hm : m ≤ n) : RowI w (some ⟨g, off + m, none⟩) (n - m) (cap - m) (fun i => f (m + i)) := by
  obtain ⟨h1, h2, h3, h4⟩ := h
  refine ⟨by omega, (fun e => by cases e), by omega, fun h0 => ?_⟩
  obtain ⟨b, o, ha, hb, hc⟩ := h4 (by omega)
  injection ha with ha
  injection ha with ha ho _
  subst ha ho
  exact ⟨g, off + m, rfl, hb, fun i hi => by rw [Nat.add_assoc]; exact hc (m + i) (by omega)⟩
set_option maxRecDepth 100000 in
theorem begins_yes {w : World} {ia oa : Option Addr} {a b ic oc : Nat} {F : Nat → Int} (h : RowI w ia a ic F) (h' : RowI w oa b oc F) (hba : b ≤ a) : Calls Try.prog 12 #[.slice ia a ic, .slice oa b oc] w fun e w' => e = .returned (.bool true) ∧ SomeDraws w w' := by
  have h1 := h.1
  have h2 := h.2.2.1
  obtain ⟨j0, j1, j2⟩ : (0 : Int) ≤ (b : Int) ∧ (b : Int) ≤ (a : Int) ∧ (a : Int) ≤ (ic : Int) := by omega
  have j3 : b ≤ ic := by omega
  have HI := Lib.hid (show Calls Try.prog 13 #[.slice ia b ic, .slice oa b oc] w fun e w' => e = .returned (.bool true) ∧ SomeDraws w w' from ints_yes _ _ _ _ _ _ _ _ (h.less hba) h' (fun _ _ => rfl))
  have hnil := h.2.1
  clear h h'
  go_enter Try.func12, Try.ntmps12
  cases ia with
  | none =>
    obtain ⟨rfl, rfl⟩ := hnil rfl
    obtain rfl : b = 0 := by omega
    go_wp2_with (go_at_call 13; (with_reducible refine HI.out.mono ?_); rintro e w1 ⟨rfl, hq⟩; have HQ := Lib.hid hq; clear hq)
    go_ret
    exact ⟨rfl, HQ.out⟩
  | some ad =>
    go_wp2_with (go_at_call 13; (with_reducible refine HI.out.mono ?_); rintro e w1 ⟨rfl, hq⟩; have HQ := Lib.hid hq; clear hq)
    go_ret
    exact ⟨rfl, HQ.out⟩
theorem upd_shift (F : Nat → Int) (b N a : Nat) (x : Int) (h : b + N = a) (i : Nat) : updI (fun i => F (b + i)) N x i = updI F a x (b + i) := by
  unfold updI
  by_cases e : i = N
  · rw [if_pos e, if_pos (by omega)]
  · rw [if_neg e, if_neg (by omega)]
theorem app_apart {v v' : Value} {gg H lim : Nat} (hv' : ∀ q, v'.ownBlock = some q → q < lim) (hap : Apart v v') (hat : v.ownBlock = some gg ∨ H ≤ gg) (hl : lim ≤ H) : ∀ q, v'.ownBlock = some q → q ≠ gg := by
  intro q hq e
  subst e
  rcases hat with h | h
  · exact hap.ne q h hq
  · have := hv' q hq; omega
theorem apart_of_ne {v' : Value} {gg n c : Nat} (h : ∀ q, v'.ownBlock = some q → q ≠ gg) : Apart v' (.slice (some ⟨gg, 0, none⟩) n c) := by
  unfold Apart
  cases hv : v'.ownBlock with
  | none => exact .inl rfl
  | some q => exact .inr (fun e => h q hv (by simpa [Value.ownBlock] using e))
theorem app_np {v : Value} {gg H p n c : Nat} (hat : v.ownBlock = some gg ∨ H ≤ gg) (hp : v.ownBlock ≠ some p) (hl : p < H) : (Value.slice (some ⟨gg, 0, none⟩) n c).ownBlock ≠ some p := by
  intro e
  simp only [Value.ownBlock, Option.some.injEq] at e
  subst e
  rcases hat with h | h
  · exact hp h
  · omega
theorem app_gne {v : Value} {gg H q n c lim U : Nat} (hat : v.ownBlock = some gg ∨ H ≤ gg) (hv : ∀ q, v.ownBlock = some q → q < lim) (h1 : lim < q) (h2 : q < U) (hl : U ≤ H) : (Value.slice (some ⟨gg, 0, none⟩) n c).ownBlock ≠ some q := by
  intro e
  simp only [Value.ownBlock, Option.some.injEq] at e
  subst e
  rcases hat with h | h
  · have := hv _ h; omega
  · omega
theorem own_conv {w : World} {B n : Nat} {v : Value} {F F' : Nat → Int} (h : w.ownsRow B 3 1 v n (rowL .i64 F n)) (hf : ∀ j, j < n → F' j = F j) : w.ownsRow B 3 1 v n (rowL .i64 F' n) := by
  rw [rowL_same (f := F') (g := F) hf]
  exact h
theorem rowS_store3 {s : Nat} {w : World} {p : Nat} {d : Option Addr} {m c : Nat} {g : Nat → Nat → Int} {a0 a1 a2 : Value} (h : RowS s w d m c g) (hd : ∀ q, (Value.slice d m c).ownBlock = some q → q ≠ p) : RowS s (store3 w p a0 a1 a2) d m c g := by
  obtain ⟨h1, h2, h3, h4⟩ := h
  refine ⟨h1, h2, h3, fun h0 => ?_⟩
  obtain ⟨b, off, rfl, hbs, hc⟩ := h4 h0
  have := hd b rfl
  refine ⟨b, off, rfl, by rw [store3_size]; exact hbs, fun i j hi hj => ?_⟩
  unfold store3
  rw [cell_set_ne (.inl (Ne.symm this)), cell_set_ne (.inl (Ne.symm this)), cell_set_ne (.inl (Ne.symm this))]
  exact hc i j hi hj
theorem RowS.keep {s : Nat} {w w' : World} {d : Option Addr} {m c : Nat} {g : Nat → Nat → Int} (h : RowS s w d m c g) (hs : w.heap.size ≤ w'.heap.size) (hk : ∀ b o, b < w.heap.size → (Value.slice d m c).ownBlock = some b → w'.cell? ⟨b, o, none⟩ = w.cell? ⟨b, o, none⟩) : RowS s w' d m c g := by
  obtain ⟨h1, h2, h3, h4⟩ := h
  refine ⟨h1, h2, h3, fun h0 => ?_⟩
  obtain ⟨b, off, rfl, hbs, hc⟩ := h4 h0
  exact ⟨b, off, rfl, by omega, fun i j hi hj => (hk _ _ hbs rfl).trans (hc i j hi hj)⟩

set_option maxRecDepth 100000 in
set_option maxHeartbeats 6400000 in
theorem order_walk (cap : Int) (a0 : Option Addr) (n c0 : Nat) (f : Nat → Int) (w : World) (h : RowAt .i64 w a0 n c0 f) : Calls Try.prog 4 #[.int .i64 cap, .slice a0 n c0] w fun e w' => e = .returned (.bool true) ∧ Below w.heap.size w w' := by
  have HR := Lib.hid h
  have hn0 := h.1
  clear h
  go_enter Try.func4, Try.ntmps4
  by_cases hbig : 200 < n
  · have i0 : (200 : Int) < (n : Int) := by omega
    go_wp2_with (go_at_call 11; (with_reducible refine (awake_any _).mono ?_); rintro e w1 ⟨rfl, hb⟩; have HB1 := Lib.hid hb; clear hb)
    go_ret
    exact ⟨rfl, HB1.out⟩
  · have i0 : ¬ (200 : Int) < (n : Int) := by omega
    have hn : n ≤ 200 := by omega
    clear hbig hn0
    have HN := Lib.hid (show Calls Try.prog 9 #[.int .i64 cap, .int .i64 1] w (RetLitN cap 0 1 (CV.new cap 1).f (CV.new cap 1).g w) from (new_new cap 1 w).mono fun _ _ h => h.lit rfl rfl rfl)
    go_wp2_with (go_at_call 9; (with_reducible refine HN.out.mono ?_); rintro e w1 ⟨la, lc, da, dc, rfl, ⟨hl, hd, _⟩, hb⟩; have HL1 := Lib.hid hl; have HD1 := Lib.hid hd; have HB1 := Lib.hid hb; clear hl hd hb)
    have hA := (Below.refl w1.heap.size w1).alloc (Nat.le_refl _) (.cells #[.int .i64 cap, .slice la 0 lc, .slice da 1 dc] 25)
    go_loopw [6, 7, 20] (fun s6 s7 i wr => ∃ k : Nat, k ≤ n ∧ i = .int .i64 k ∧ OrdAt w cap w1.heap.size k s6 s7 wr) (fun _ _ i _ => n - (intOf i).toNat)
    case atStart =>
      exact ⟨0, Nat.zero_le _, rfl, 0, 0, 0, fun _ => 0, _, none, none, la, da, 0, 0, lc, dc, rfl, Nat.le_refl _, .inr rfl, rfl, rfl, Box3.new _ _, ⟨by omega, (HL1.out.row.below hA).2.1, (HL1.out.row.below hA).2.2.1, fun h => absurd h (by omega)⟩, HD1.out.below hA, World.ownsRow_nil _ _ _ _, World.ownsRow_nil _ _ _ _, .inl rfl, HB1.out.trans (hA.mono HB1.out.size), ⟨HB1.out.size, by simp⟩, by simp [Value.ownBlock], by simp [Value.ownBlock]⟩
    case round =>
      clear HL1 HD1 HB1 hA HN
      generalize w1.heap.size = p at *
      obtain ⟨k, hk, rfl, a, b, N, F, g, ia, oa, la, da, ic, oc, lc, dc, hab, hak, hNc, rfl, rfl, hx, hl, hd, hin, hout, hap, hb, ⟨pw, pz⟩, np6, np7⟩ := hrel
      have HX := Lib.hid hx
      have HL := Lib.hid hl
      have HD := Lib.hid hd
      have HIN := Lib.hid hin
      have HOUT := Lib.hid hout
      have HAP := Lib.hid (And.intro hap (And.intro np6 np7))
      have HB := Lib.hid hb
      have HNC := Lib.hid hNc
      have HRW := Lib.hid (HR.out.below hb)
      have hws := hb.size
      obtain ⟨c0, c1, c2, _⟩ := hx
      have hl0 := hl
      have hNc' : True := trivial
      clear hl hd hin hout hap hb np6 np7 hNc
      by_cases hlt : k < n
      · obtain ⟨xb, xo, rfl, zb, hc⟩ := HRW.out.get hlt
        have y0 := hc k hlt
        have i1 : (0 : Int) ≤ (k : Int) := by omega
        have i2 : (k : Int) < (n : Int) := by omega
        clear hc hl0 hNc'
        by_cases hneg : f k < 0
        · rcases Nat.eq_zero_or_pos N with hN | hN
          · subst hN
            have hA : CV.after ⟨cap, 0, fun i => F (b + i), 1, g⟩ false 9 0 = ⟨cap, 0, fun i => F (b + i), 1, g⟩ := by simp [CV.after]
            have hcd : CV.code ⟨cap, 0, fun i => F (b + i), 1, g⟩ 9 = 10 := by simp [CV.code]
            have htl : CV.told ⟨cap, 0, fun i => F (b + i), 1, g⟩ false 9 = 0 := by simp [CV.told]
            obtain ⟨g', HA0, hg⟩ := apply_one (cp := cap) (g := g) (f := fun i => F (b + i)) (n := 0) (n' := 0) (k : Int) 9 0 (by omega) (by rw [hA])
            rw [hA] at HA0
            rw [hcd, htl] at hg
            have HA := Lib.hid HA0
            have HG := Lib.hid (show g' 0 0 = (k : Int) ∧ g' 0 2 = 10 ∧ g' 0 3 = 0 from by rw [hg]; exact ⟨rfl, rfl, rfl⟩)
            clear HA0 hg hA hcd htl
            have HAQ := Lib.hid ((Below.refl wr.heap.size wr).alloc (Nat.le_refl _) (.cells #[.int .i64 9, .int .i64 0, .int .i64 0, .bool false, .slice none 0 0] 28))
            go_upto_region 12 with (go_at_call 7; go_loud ((with_reducible refine (HA.out _ _ _ _ _ (HL.out.row.below HAQ.out) (HD.out.below HAQ.out)).mono ?_); rintro e w3 ⟨la', lc', da', dc', rfl, ⟨hl, hd, hq⟩, hb⟩; have HL3 := Lib.hid hl; have HD3 := Lib.hid (And.intro hd hq); have HB3 := Lib.hid (below_next HAQ.out hb); have s3 := HB3.out.size; have HX3 := Lib.hid (HX.out.below pz HB3.out); clear hl hd hq hb c0 c1 c2; (obtain ⟨c0, c1, c2, cf⟩ := HX3.out); have cf0 := cf 0; have cf1 := cf 1; have cf2 := cf 2; clear cf))
            refine abstract_code (fun u => Box3 u p (.int .i64 cap) (.slice la' (0) lc') (.slice da' 1 dc') ∧ RowP (fun q => wr.heap.size < q) u la' (0) lc' (fun i => F (b + i)) ∧ RowS 4 u da' 1 dc' g' ∧ (u.ownsRow w.heap.size 3 1 (.slice ia a ic) a (rowL .i64 F a) ∧ u.ownsRow w.heap.size 3 1 (.slice oa b oc) b (rowL .i64 F b)) ∧ Below w.heap.size w u ∧ wr.heap.size ≤ u.heap.size ∧ (∀ q, (Value.slice da' 1 dc').ownBlock = some q → wr.heap.size < q)) ⟨HX3.out.store _ _ _, (((HL3.out.imp (Q := fun q => wr.heap.size < q) (fun q _ h => by simp at h; omega)).setCell (by omega)).setCell (by omega)).setCell (by omega), rowS_store3 HD3.out.1 (fun q hq => by have h := HD3.out.2 q hq; simp at h; omega), ⟨own_store3 (own_below HIN.out HB3.out) HAP.out.2.1, own_store3 (own_below HOUT.out HB3.out) HAP.out.2.2⟩, store3_below (HB.out.trans (HB3.out.mono HB.out.size)) pw, by rw [show (((w3.setCell ⟨p, 0, none⟩ (.int .i64 cap)).setCell ⟨p, 1, none⟩ (.slice la' (0) lc')).setCell ⟨p, 2, none⟩ (.slice da' 1 dc')).heap.size = w3.heap.size from store3_size]; exact s3, fun q hq => by have h := HD3.out.2 q hq; simp at h; omega⟩ ?_
            have HINL := Lib.hid (show (∀ q, Value.ownBlock (.slice ia a ic) = some q → q < wr.heap.size) ∧ (∀ q, Value.ownBlock (.slice oa b oc) = some q → q < wr.heap.size) from ⟨fun q hq => (HIN.out.lt q hq).2, fun q hq => (HOUT.out.lt q hq).2⟩)
            clear c0 c1 c2 cf0 cf1 cf2 HX3 HL3 HD3 HB3 s3 HX HL HD HIN HOUT HB HAQ HA HRW
            rintro u ⟨hx, hl, hd, ⟨hin, hout⟩, hb, hs, hdb⟩
            have HX := Lib.hid hx
            have HL := Lib.hid (hl.imp (Q := fun q => wr.heap.size < q ∧ q < u.heap.size) (fun q hq h => ⟨h, hq⟩))
            have HD := Lib.hid hd
            have HIN := Lib.hid hin
            have HOUT := Lib.hid hout
            have HB := Lib.hid hb
            have HDB := Lib.hid hdb
            obtain ⟨c0, c1, c2, _⟩ := hx
            obtain ⟨db, dof, rfl, zd, k0, k1, k2, k3⟩ := cells4 (k := 0) hd (by omega)
            rw [Nat.zero_mul, Nat.add_zero] at k0 k1 k2 k3
            rw [HG.out.1] at k0
            rw [HG.out.2.1] at k2
            rw [HG.out.2.2] at k3
            have ek : ((k : Int) != (k : Int)) = false := by simp
            have zp : p < u.heap.size := by omega
            clear hl hd hin hout hb hdb
            go_upto_region 19 with (fail)
            have e19 : (((0 : Nat) : Int) != (((a : Nat) : Int) - ((b : Nat) : Int))) = false := by simp; omega
            by_cases hcap : cap ≤ 0
            · have hm : (((0 : Nat)) : Int) ≤ 0 := by have := HNC.out; omega
              skip
              go_wp2
              go_roundw
              case rel => exact ⟨k + 1, by omega, by go_num, a, b, 0, F, g', ia, oa, la', some ⟨db, dof, none⟩, ic, oc, lc', dc', by omega, by omega, .inr rfl, rfl, rfl, HX.out.alloc zp _, ((HL.out.below ((Below.refl _ _).alloc (Nat.le_refl _) _)).imp (fun q _ h => ⟨fun e => by have := HINL.out.1 q e; have := h.1; omega, fun e => by have := HINL.out.2 q e; have := h.1; omega, by have := h.1; omega⟩)), HD.out.below ((Below.refl _ _).alloc (Nat.le_refl _) _), HIN.out.alloc _, HOUT.out.alloc _, HAP.out.1, HB.out.alloc (by omega) _, ⟨pw, by simp; omega⟩, HAP.out.2.1, HAP.out.2.2⟩
              case measure => simp [intOf]; omega
            · have hm : (((0 : Nat)) : Int) ≤ cap := by have := HNC.out; omega
              have hcap' : 0 < cap := by omega
              go_wp2
              go_roundw
              case rel => exact ⟨k + 1, by omega, by go_num, a, b, 0, F, g', ia, oa, la', some ⟨db, dof, none⟩, ic, oc, lc', dc', by omega, by omega, .inr rfl, rfl, rfl, HX.out.alloc zp _, ((HL.out.below ((Below.refl _ _).alloc (Nat.le_refl _) _)).imp (fun q _ h => ⟨fun e => by have := HINL.out.1 q e; have := h.1; omega, fun e => by have := HINL.out.2 q e; have := h.1; omega, by have := h.1; omega⟩)), HD.out.below ((Below.refl _ _).alloc (Nat.le_refl _) _), HIN.out.alloc _, HOUT.out.alloc _, HAP.out.1, HB.out.alloc (by omega) _, ⟨pw, by simp; omega⟩, HAP.out.2.1, HAP.out.2.2⟩
              case measure => simp [intOf]; omega
          · obtain ⟨N', rfl⟩ : ∃ N', N = N' + 1 := Nat.exists_eq_succ_of_ne_zero (by omega)
            have hA : CV.after ⟨cap, (N' + 1), fun i => F (b + i), 1, g⟩ false 9 0 = ⟨cap, N', fun i => F (b + (i + 1)), 1, g⟩ := by simp [CV.after]
            have hcd : CV.code ⟨cap, (N' + 1), fun i => F (b + i), 1, g⟩ 9 = 0 := by simp [CV.code]
            have htl : CV.told ⟨cap, (N' + 1), fun i => F (b + i), 1, g⟩ false 9 = (F b) := by simp [CV.told]
            obtain ⟨g', HA0, hg⟩ := apply_one (cp := cap) (g := g) (f := fun i => F (b + i)) (n := (N' + 1)) (n' := N') (k : Int) 9 0 (by omega) (by rw [hA])
            rw [hA] at HA0
            rw [hcd, htl] at hg
            have HA := Lib.hid HA0
            have HG := Lib.hid (show g' 0 0 = (k : Int) ∧ g' 0 2 = 0 ∧ g' 0 3 = (F b) from by rw [hg]; exact ⟨rfl, rfl, rfl⟩)
            clear HA0 hg hA hcd htl
            have HAQ := Lib.hid ((Below.refl wr.heap.size wr).alloc (Nat.le_refl _) (.cells #[.int .i64 9, .int .i64 0, .int .i64 0, .bool false, .slice none 0 0] 28))
            go_upto_region 12 with (go_at_call 7; go_loud ((with_reducible refine (HA.out _ _ _ _ _ (HL.out.row.below HAQ.out) (HD.out.below HAQ.out)).mono ?_); rintro e w3 ⟨la', lc', da', dc', rfl, ⟨hl, hd, hq⟩, hb⟩; have HL3 := Lib.hid hl; have HD3 := Lib.hid (And.intro hd hq); have HB3 := Lib.hid (below_next HAQ.out hb); have s3 := HB3.out.size; have HX3 := Lib.hid (HX.out.below pz HB3.out); clear hl hd hq hb c0 c1 c2; (obtain ⟨c0, c1, c2, cf⟩ := HX3.out); have cf0 := cf 0; have cf1 := cf 1; have cf2 := cf 2; clear cf))
            refine abstract_code (fun u => Box3 u p (.int .i64 cap) (.slice la' (N') lc') (.slice da' 1 dc') ∧ RowP (fun q => wr.heap.size < q) u la' (N') lc' (fun i => F (b + (i + 1))) ∧ RowS 4 u da' 1 dc' g' ∧ (u.ownsRow w.heap.size 3 1 (.slice ia a ic) a (rowL .i64 F a) ∧ u.ownsRow w.heap.size 3 1 (.slice oa b oc) b (rowL .i64 F b)) ∧ Below w.heap.size w u ∧ wr.heap.size ≤ u.heap.size ∧ (∀ q, (Value.slice da' 1 dc').ownBlock = some q → wr.heap.size < q)) ⟨HX3.out.store _ _ _, (((HL3.out.imp (Q := fun q => wr.heap.size < q) (fun q _ h => by simp at h; omega)).setCell (by omega)).setCell (by omega)).setCell (by omega), rowS_store3 HD3.out.1 (fun q hq => by have h := HD3.out.2 q hq; simp at h; omega), ⟨own_store3 (own_below HIN.out HB3.out) HAP.out.2.1, own_store3 (own_below HOUT.out HB3.out) HAP.out.2.2⟩, store3_below (HB.out.trans (HB3.out.mono HB.out.size)) pw, by rw [show (((w3.setCell ⟨p, 0, none⟩ (.int .i64 cap)).setCell ⟨p, 1, none⟩ (.slice la' (N') lc')).setCell ⟨p, 2, none⟩ (.slice da' 1 dc')).heap.size = w3.heap.size from store3_size]; exact s3, fun q hq => by have h := HD3.out.2 q hq; simp at h; omega⟩ ?_
            have HINL := Lib.hid (show (∀ q, Value.ownBlock (.slice ia a ic) = some q → q < wr.heap.size) ∧ (∀ q, Value.ownBlock (.slice oa b oc) = some q → q < wr.heap.size) from ⟨fun q hq => (HIN.out.lt q hq).2, fun q hq => (HOUT.out.lt q hq).2⟩)
            clear c0 c1 c2 cf0 cf1 cf2 HX3 HL3 HD3 HB3 s3 HX HL HD HIN HOUT HB HAQ HA HRW
            rintro u ⟨hx, hl, hd, ⟨hin, hout⟩, hb, hs, hdb⟩
            have HX := Lib.hid hx
            have HL := Lib.hid (hl.imp (Q := fun q => wr.heap.size < q ∧ q < u.heap.size) (fun q hq h => ⟨h, hq⟩))
            have HD := Lib.hid hd
            have HIN := Lib.hid hin
            have HOUT := Lib.hid hout
            have HB := Lib.hid hb
            have HDB := Lib.hid hdb
            obtain ⟨c0, c1, c2, _⟩ := hx
            obtain ⟨db, dof, rfl, zd, k0, k1, k2, k3⟩ := cells4 (k := 0) hd (by omega)
            rw [Nat.zero_mul, Nat.add_zero] at k0 k1 k2 k3
            rw [HG.out.1] at k0
            rw [HG.out.2.1] at k2
            rw [HG.out.2.2] at k3
            have ek : ((k : Int) != (k : Int)) = false := by simp
            have zp : p < u.heap.size := by omega
            clear hl hd hin hout hb hdb
            have HO1 := Lib.hid (show (u.alloc (.cells #[.int .i64 k, .int .i64 (g' 0 1), .int .i64 0, .int .i64 (F b)] 37)).ownsRow w.heap.size 3 1 (Value.slice oa b oc) b (rowL .i64 (F) b) from by rw [rowL_same (f := F) (g := F) (fun j hj => by first | rfl | (unfold updI; rw [if_neg (by omega)]))]; exact HOUT.out.alloc _)
            go_upto_region 19 with (at_builtin; go_loud (refine app_one w.heap.size 3 22 rfl _ _ rfl Try.underlying22 Try.info_int (Value.slice oa b oc) b (F) ((F b)) (by first | rfl | (unfold updI; rw [if_pos rfl])) rfl HO1.out (u.heap.size + 1) (by simp) rfl (by omega) (by simp; omega) ?_; intro gg k9 w5 ho hg hat hlt'; have hg5 : u.grownBy w5 (Value.ownBlock (Value.slice oa b oc)) := (World.grownBy_alloc u _ _).trans hg; have HO5 := Lib.hid ho; have HX5 := Lib.hid (HX.out.grown hg5 zp (fun e => by first | exact HAP.out.2.2 e.symm)); have HOT5 := Lib.hid (HIN.out.kept hg5 HAP.out.1); have HB5 := Lib.hid (HB.out.grown hg5 (by omega) (fun q hq => (HOUT.out.lt q hq).1)); have HL5 := Lib.hid (HL.out.keep hg5.size (fun q o hq hP => hg5.cell_far ⟨q, o, none⟩ hq (fun e => by have := HINL.out.2 q e.symm; have := hP.1; omega))); have HD5 := Lib.hid (RowS.keep HD.out hg5.size (fun q o hq hP => hg5.cell_far ⟨q, o, none⟩ hq (fun e => by have := HINL.out.2 q e.symm; have := HDB.out q hP; omega))); have HAT := Lib.hid hat; have s5 := hg5.size; clear ho hg hg5 hat c0 c1 c2 k0 k1 k2 k3; (obtain ⟨c0, c1, c2, _⟩ := HX5.out)))
            have e19 : (((N' : Nat) : Int) != (((a : Nat) : Int) - (((b + 1) : Nat) : Int))) = false := by simp; omega
            by_cases hcap : cap ≤ 0
            · have hm : (((N' : Nat)) : Int) ≤ 0 := by have := HNC.out; omega
              skip
              go_wp2
              go_roundw
              case rel => exact ⟨k + 1, by omega, by go_num, a, (b + 1), N', F, g', ia, some ⟨gg, 0, none⟩, la', some ⟨db, dof, none⟩, ic, k9, lc', dc', by omega, by omega, (by have := HNC.out; omega), rfl, rfl, HX5.out, (HL5.out.imp (fun q _ h => ⟨(fun e => by have := HINL.out.1 q e; have := h.1; omega), (app_gne HAT.out HINL.out.2 h.1 h.2 (by simp)), by have := h.1; omega⟩)).same (fun i _ => by show F (b + (i + 1)) = F (b + 1 + i); congr 1; omega), HD5.out, (own_conv HOT5.out (fun j hj => by first | rfl | (unfold updI; rw [if_neg (by omega)]))), HO5.out, (apart_of_ne (app_apart HINL.out.1 HAP.out.1.symm HAT.out (by simp; omega))), HB5.out, ⟨pw, by omega⟩, HAP.out.2.1, (app_np HAT.out HAP.out.2.2 (by simp; omega))⟩
              case measure => simp [intOf]; omega
            · have hm : (((N' : Nat)) : Int) ≤ cap := by have := HNC.out; omega
              have hcap' : 0 < cap := by omega
              go_wp2
              go_roundw
              case rel => exact ⟨k + 1, by omega, by go_num, a, (b + 1), N', F, g', ia, some ⟨gg, 0, none⟩, la', some ⟨db, dof, none⟩, ic, k9, lc', dc', by omega, by omega, (by have := HNC.out; omega), rfl, rfl, HX5.out, (HL5.out.imp (fun q _ h => ⟨(fun e => by have := HINL.out.1 q e; have := h.1; omega), (app_gne HAT.out HINL.out.2 h.1 h.2 (by simp)), by have := h.1; omega⟩)).same (fun i _ => by show F (b + (i + 1)) = F (b + 1 + i); congr 1; omega), HD5.out, (own_conv HOT5.out (fun j hj => by first | rfl | (unfold updI; rw [if_neg (by omega)]))), HO5.out, (apart_of_ne (app_apart HINL.out.1 HAP.out.1.symm HAT.out (by simp; omega))), HB5.out, ⟨pw, by omega⟩, HAP.out.2.1, (app_np HAT.out HAP.out.2.2 (by simp; omega))⟩
              case measure => simp [intOf]; omega
        · have hpos : 0 ≤ f k := by omega
          clear hneg
          by_cases hroom : (N : Int) < cap
          · have hA : CV.after ⟨cap, N, fun i => F (b + i), 1, g⟩ false 8 (f k) = ⟨cap, (N + 1), updI (fun i => F (b + i)) N (f k), 1, g⟩ := by simp [CV.after, hroom]
            have hcd : CV.code ⟨cap, N, fun i => F (b + i), 1, g⟩ 8 = 0 := by simp [CV.code, hroom]
            have htl : CV.told ⟨cap, N, fun i => F (b + i), 1, g⟩ false 8 = 0 := by simp [CV.told]
            obtain ⟨g', HA0, hg⟩ := apply_one (cp := cap) (g := g) (f := fun i => F (b + i)) (n := N) (n' := (N + 1)) (k : Int) 8 (f k) (by omega) (by rw [hA])
            rw [hA] at HA0
            rw [hcd, htl] at hg
            have HA := Lib.hid HA0
            have HG := Lib.hid (show g' 0 0 = (k : Int) ∧ g' 0 2 = 0 ∧ g' 0 3 = 0 from by rw [hg]; exact ⟨rfl, rfl, rfl⟩)
            clear HA0 hg hA hcd htl
            have HAQ := Lib.hid ((Below.refl wr.heap.size wr).alloc (Nat.le_refl _) (.cells #[.int .i64 8, .int .i64 0, .int .i64 (f k), .bool false, .slice none 0 0] 28))
            go_upto_region 12 with (go_at_call 7; go_loud ((with_reducible refine (HA.out _ _ _ _ _ (HL.out.row.below HAQ.out) (HD.out.below HAQ.out)).mono ?_); rintro e w3 ⟨la', lc', da', dc', rfl, ⟨hl, hd, hq⟩, hb⟩; have HL3 := Lib.hid hl; have HD3 := Lib.hid (And.intro hd hq); have HB3 := Lib.hid (below_next HAQ.out hb); have s3 := HB3.out.size; have HX3 := Lib.hid (HX.out.below pz HB3.out); clear hl hd hq hb c0 c1 c2; (obtain ⟨c0, c1, c2, cf⟩ := HX3.out); have cf0 := cf 0; have cf1 := cf 1; have cf2 := cf 2; clear cf))
            refine abstract_code (fun u => Box3 u p (.int .i64 cap) (.slice la' ((N + 1)) lc') (.slice da' 1 dc') ∧ RowP (fun q => wr.heap.size < q) u la' ((N + 1)) lc' (updI (fun i => F (b + i)) N (f k)) ∧ RowS 4 u da' 1 dc' g' ∧ (u.ownsRow w.heap.size 3 1 (.slice ia a ic) a (rowL .i64 F a) ∧ u.ownsRow w.heap.size 3 1 (.slice oa b oc) b (rowL .i64 F b)) ∧ Below w.heap.size w u ∧ wr.heap.size ≤ u.heap.size ∧ (∀ q, (Value.slice da' 1 dc').ownBlock = some q → wr.heap.size < q)) ⟨HX3.out.store _ _ _, (((HL3.out.imp (Q := fun q => wr.heap.size < q) (fun q _ h => by simp at h; omega)).setCell (by omega)).setCell (by omega)).setCell (by omega), rowS_store3 HD3.out.1 (fun q hq => by have h := HD3.out.2 q hq; simp at h; omega), ⟨own_store3 (own_below HIN.out HB3.out) HAP.out.2.1, own_store3 (own_below HOUT.out HB3.out) HAP.out.2.2⟩, store3_below (HB.out.trans (HB3.out.mono HB.out.size)) pw, by rw [show (((w3.setCell ⟨p, 0, none⟩ (.int .i64 cap)).setCell ⟨p, 1, none⟩ (.slice la' ((N + 1)) lc')).setCell ⟨p, 2, none⟩ (.slice da' 1 dc')).heap.size = w3.heap.size from store3_size]; exact s3, fun q hq => by have h := HD3.out.2 q hq; simp at h; omega⟩ ?_
            have HINL := Lib.hid (show (∀ q, Value.ownBlock (.slice ia a ic) = some q → q < wr.heap.size) ∧ (∀ q, Value.ownBlock (.slice oa b oc) = some q → q < wr.heap.size) from ⟨fun q hq => (HIN.out.lt q hq).2, fun q hq => (HOUT.out.lt q hq).2⟩)
            clear c0 c1 c2 cf0 cf1 cf2 HX3 HL3 HD3 HB3 s3 HX HL HD HIN HOUT HB HAQ HA HRW
            rintro u ⟨hx, hl, hd, ⟨hin, hout⟩, hb, hs, hdb⟩
            have HX := Lib.hid hx
            have HL := Lib.hid (hl.imp (Q := fun q => wr.heap.size < q ∧ q < u.heap.size) (fun q hq h => ⟨h, hq⟩))
            have HD := Lib.hid hd
            have HIN := Lib.hid hin
            have HOUT := Lib.hid hout
            have HB := Lib.hid hb
            have HDB := Lib.hid hdb
            obtain ⟨c0, c1, c2, _⟩ := hx
            obtain ⟨db, dof, rfl, zd, k0, k1, k2, k3⟩ := cells4 (k := 0) hd (by omega)
            rw [Nat.zero_mul, Nat.add_zero] at k0 k1 k2 k3
            rw [HG.out.1] at k0
            rw [HG.out.2.1] at k2
            rw [HG.out.2.2] at k3
            have ek : ((k : Int) != (k : Int)) = false := by simp
            have zp : p < u.heap.size := by omega
            clear hl hd hin hout hb hdb
            have HO1 := Lib.hid (show (u.alloc (.cells #[.int .i64 k, .int .i64 (g' 0 1), .int .i64 0, .int .i64 0] 37)).ownsRow w.heap.size 3 1 (Value.slice ia a ic) a (rowL .i64 (updI F a (f k)) a) from by rw [rowL_same (f := updI F a (f k)) (g := F) (fun j hj => by first | rfl | (unfold updI; rw [if_neg (by omega)]))]; exact HIN.out.alloc _)
            go_upto_region 19 with (at_builtin; go_loud (refine app_one w.heap.size 3 22 rfl _ _ rfl Try.underlying22 Try.info_int (Value.slice ia a ic) a (updI F a (f k)) ((f k)) (by first | rfl | (unfold updI; rw [if_pos rfl])) rfl HO1.out (u.heap.size + 1) (by simp) rfl (by omega) (by simp; omega) ?_; intro gg k9 w5 ho hg hat hlt'; have hg5 : u.grownBy w5 (Value.ownBlock (Value.slice ia a ic)) := (World.grownBy_alloc u _ _).trans hg; have HO5 := Lib.hid ho; have HX5 := Lib.hid (HX.out.grown hg5 zp (fun e => by first | exact HAP.out.2.1 e.symm)); have HOT5 := Lib.hid (HOUT.out.kept hg5 HAP.out.1.symm); have HB5 := Lib.hid (HB.out.grown hg5 (by omega) (fun q hq => (HIN.out.lt q hq).1)); have HL5 := Lib.hid (HL.out.keep hg5.size (fun q o hq hP => hg5.cell_far ⟨q, o, none⟩ hq (fun e => by have := HINL.out.1 q e.symm; have := hP.1; omega))); have HD5 := Lib.hid (RowS.keep HD.out hg5.size (fun q o hq hP => hg5.cell_far ⟨q, o, none⟩ hq (fun e => by have := HINL.out.1 q e.symm; have := HDB.out q hP; omega))); have HAT := Lib.hid hat; have s5 := hg5.size; clear ho hg hg5 hat c0 c1 c2 k0 k1 k2 k3; (obtain ⟨c0, c1, c2, _⟩ := HX5.out)))
            have e19 : ((((N + 1) : Nat) : Int) != ((((a + 1) : Nat) : Int) - ((b : Nat) : Int))) = false := by simp; omega
            have hcap : ¬ cap ≤ 0 := by omega
            · have hm : ((((N + 1) : Nat)) : Int) ≤ cap := by have := HNC.out; omega
              have hcap' : 0 < cap := by omega
              go_wp2
              go_roundw
              case rel => exact ⟨k + 1, by omega, by go_num, (a + 1), b, (N + 1), updI F a (f k), g', some ⟨gg, 0, none⟩, oa, la', some ⟨db, dof, none⟩, k9, oc, lc', dc', by omega, by omega, (by omega), rfl, rfl, HX5.out, (HL5.out.imp (fun q _ h => ⟨(app_gne HAT.out HINL.out.1 h.1 h.2 (by simp)), (fun e => by have := HINL.out.2 q e; have := h.1; omega), by have := h.1; omega⟩)).same (fun i _ => upd_shift F b N a (f k) hab i), HD5.out, HO5.out, (own_conv HOT5.out (fun j hj => by first | rfl | (unfold updI; rw [if_neg (by omega)]))), (apart_of_ne (app_apart HINL.out.2 HAP.out.1 HAT.out (by simp; omega))).symm, HB5.out, ⟨pw, by omega⟩, (app_np HAT.out HAP.out.2.1 (by simp; omega)), HAP.out.2.2⟩
              case measure => simp [intOf]; omega
          · have hfull : cap ≤ (N : Int) := by omega
            have hA : CV.after ⟨cap, N, fun i => F (b + i), 1, g⟩ false 8 (f k) = ⟨cap, N, fun i => F (b + i), 1, g⟩ := by simp [CV.after, hroom]
            have hcd : CV.code ⟨cap, N, fun i => F (b + i), 1, g⟩ 8 = 10 := by simp [CV.code, hroom]
            have htl : CV.told ⟨cap, N, fun i => F (b + i), 1, g⟩ false 8 = 0 := by simp [CV.told]
            obtain ⟨g', HA0, hg⟩ := apply_one (cp := cap) (g := g) (f := fun i => F (b + i)) (n := N) (n' := N) (k : Int) 8 (f k) (by omega) (by rw [hA])
            rw [hA] at HA0
            rw [hcd, htl] at hg
            have HA := Lib.hid HA0
            have HG := Lib.hid (show g' 0 0 = (k : Int) ∧ g' 0 2 = 10 ∧ g' 0 3 = 0 from by rw [hg]; exact ⟨rfl, rfl, rfl⟩)
            clear HA0 hg hA hcd htl
            have HAQ := Lib.hid ((Below.refl wr.heap.size wr).alloc (Nat.le_refl _) (.cells #[.int .i64 8, .int .i64 0, .int .i64 (f k), .bool false, .slice none 0 0] 28))
            go_upto_region 12 with (go_at_call 7; go_loud ((with_reducible refine (HA.out _ _ _ _ _ (HL.out.row.below HAQ.out) (HD.out.below HAQ.out)).mono ?_); rintro e w3 ⟨la', lc', da', dc', rfl, ⟨hl, hd, hq⟩, hb⟩; have HL3 := Lib.hid hl; have HD3 := Lib.hid (And.intro hd hq); have HB3 := Lib.hid (below_next HAQ.out hb); have s3 := HB3.out.size; have HX3 := Lib.hid (HX.out.below pz HB3.out); clear hl hd hq hb c0 c1 c2; (obtain ⟨c0, c1, c2, cf⟩ := HX3.out); have cf0 := cf 0; have cf1 := cf 1; have cf2 := cf 2; clear cf))
            refine abstract_code (fun u => Box3 u p (.int .i64 cap) (.slice la' (N) lc') (.slice da' 1 dc') ∧ RowP (fun q => wr.heap.size < q) u la' (N) lc' (fun i => F (b + i)) ∧ RowS 4 u da' 1 dc' g' ∧ (u.ownsRow w.heap.size 3 1 (.slice ia a ic) a (rowL .i64 F a) ∧ u.ownsRow w.heap.size 3 1 (.slice oa b oc) b (rowL .i64 F b)) ∧ Below w.heap.size w u ∧ wr.heap.size ≤ u.heap.size ∧ (∀ q, (Value.slice da' 1 dc').ownBlock = some q → wr.heap.size < q)) ⟨HX3.out.store _ _ _, (((HL3.out.imp (Q := fun q => wr.heap.size < q) (fun q _ h => by simp at h; omega)).setCell (by omega)).setCell (by omega)).setCell (by omega), rowS_store3 HD3.out.1 (fun q hq => by have h := HD3.out.2 q hq; simp at h; omega), ⟨own_store3 (own_below HIN.out HB3.out) HAP.out.2.1, own_store3 (own_below HOUT.out HB3.out) HAP.out.2.2⟩, store3_below (HB.out.trans (HB3.out.mono HB.out.size)) pw, by rw [show (((w3.setCell ⟨p, 0, none⟩ (.int .i64 cap)).setCell ⟨p, 1, none⟩ (.slice la' (N) lc')).setCell ⟨p, 2, none⟩ (.slice da' 1 dc')).heap.size = w3.heap.size from store3_size]; exact s3, fun q hq => by have h := HD3.out.2 q hq; simp at h; omega⟩ ?_
            have HINL := Lib.hid (show (∀ q, Value.ownBlock (.slice ia a ic) = some q → q < wr.heap.size) ∧ (∀ q, Value.ownBlock (.slice oa b oc) = some q → q < wr.heap.size) from ⟨fun q hq => (HIN.out.lt q hq).2, fun q hq => (HOUT.out.lt q hq).2⟩)
            clear c0 c1 c2 cf0 cf1 cf2 HX3 HL3 HD3 HB3 s3 HX HL HD HIN HOUT HB HAQ HA HRW
            rintro u ⟨hx, hl, hd, ⟨hin, hout⟩, hb, hs, hdb⟩
            have HX := Lib.hid hx
            have HL := Lib.hid (hl.imp (Q := fun q => wr.heap.size < q ∧ q < u.heap.size) (fun q hq h => ⟨h, hq⟩))
            have HD := Lib.hid hd
            have HIN := Lib.hid hin
            have HOUT := Lib.hid hout
            have HB := Lib.hid hb
            have HDB := Lib.hid hdb
            obtain ⟨c0, c1, c2, _⟩ := hx
            obtain ⟨db, dof, rfl, zd, k0, k1, k2, k3⟩ := cells4 (k := 0) hd (by omega)
            rw [Nat.zero_mul, Nat.add_zero] at k0 k1 k2 k3
            rw [HG.out.1] at k0
            rw [HG.out.2.1] at k2
            rw [HG.out.2.2] at k3
            have ek : ((k : Int) != (k : Int)) = false := by simp
            have zp : p < u.heap.size := by omega
            clear hl hd hin hout hb hdb
            go_upto_region 19 with (fail)
            have e19 : (((N : Nat) : Int) != (((a : Nat) : Int) - ((b : Nat) : Int))) = false := by simp; omega
            by_cases hcap : cap ≤ 0
            · have hm : (((N : Nat)) : Int) ≤ 0 := by have := HNC.out; omega
              skip
              go_wp2
              go_roundw
              case rel => exact ⟨k + 1, by omega, by go_num, a, b, N, F, g', ia, oa, la', some ⟨db, dof, none⟩, ic, oc, lc', dc', by omega, by omega, HNC.out, rfl, rfl, HX.out.alloc zp _, ((HL.out.below ((Below.refl _ _).alloc (Nat.le_refl _) _)).imp (fun q _ h => ⟨fun e => by have := HINL.out.1 q e; have := h.1; omega, fun e => by have := HINL.out.2 q e; have := h.1; omega, by have := h.1; omega⟩)), HD.out.below ((Below.refl _ _).alloc (Nat.le_refl _) _), HIN.out.alloc _, HOUT.out.alloc _, HAP.out.1, HB.out.alloc (by omega) _, ⟨pw, by simp; omega⟩, HAP.out.2.1, HAP.out.2.2⟩
              case measure => simp [intOf]; omega
            · have hm : (((N : Nat)) : Int) ≤ cap := by have := HNC.out; omega
              have hcap' : 0 < cap := by omega
              go_wp2
              go_roundw
              case rel => exact ⟨k + 1, by omega, by go_num, a, b, N, F, g', ia, oa, la', some ⟨db, dof, none⟩, ic, oc, lc', dc', by omega, by omega, HNC.out, rfl, rfl, HX.out.alloc zp _, ((HL.out.below ((Below.refl _ _).alloc (Nat.le_refl _) _)).imp (fun q _ h => ⟨fun e => by have := HINL.out.1 q e; have := h.1; omega, fun e => by have := HINL.out.2 q e; have := h.1; omega, by have := h.1; omega⟩)), HD.out.below ((Below.refl _ _).alloc (Nat.le_refl _) _), HIN.out.alloc _, HOUT.out.alloc _, HAP.out.1, HB.out.alloc (by omega) _, ⟨pw, by simp; omega⟩, HAP.out.2.1, HAP.out.2.2⟩
              case measure => simp [intOf]; omega
      · obtain rfl : k = n := by omega
        obtain ⟨ia', ic', hv1, hri⟩ := RowI.of (by omega) HIN.out
        simp only [Value.slice.injEq] at hv1
        obtain ⟨rfl, _, rfl⟩ := hv1
        obtain ⟨oa', oc', hv2, hro⟩ := RowI.of (by omega) HOUT.out
        simp only [Value.slice.injEq] at hv2
        obtain ⟨rfl, _, rfl⟩ := hv2
        have hform := own_ia HIN.out
        have HRI := Lib.hid hri
        have HRO := Lib.hid hro
        have hac := hri.2.2.1
        have hnil := hri.2.1
        have hba : b ≤ a := by omega
        have HLR := Lib.hid hl0.row
        clear hri hro HX HL HD HIN HOUT HAP HNC HRW HR hNc' c0 c2
        obtain ⟨j0, j1, j2⟩ : (0 : Int) ≤ (b : Int) ∧ (b : Int) ≤ (a : Int) ∧ (a : Int) ≤ (ic : Int) := by omega
        have j3 : b ≤ ic := by omega
        rcases hform with rfl | ⟨gi, rfl⟩
        · obtain ⟨ha0, hc0⟩ := hnil rfl
          subst hc0
          have hb0 : b = 0 := by omega
          have hN0 : N = 0 := by omega
          subst hb0 hN0 ha0
          have HBG := Lib.hid (show ∀ W, Below wr.heap.size wr W → Calls Try.prog 12 #[.slice none 0 0, .slice oa 0 oc] W fun e w' => e = .returned (.bool true) ∧ SomeDraws W w' from fun W hb => begins_yes (HRI.out.below hb) (HRO.out.below hb) (by omega))
          have HIT := Lib.hid (show ∀ W, Below wr.heap.size wr W → Calls Try.prog 13 #[.slice none 0 0, .slice la 0 lc] W fun e w' => e = .returned (.bool true) ∧ SomeDraws W w' from fun W hb => ints_yes none la 0 0 lc (fun _ => 0) _ W (RowI.nil rfl rfl) (HLR.out.below hb) (fun _ h => absurd h (by omega)))
          clear HRI HRO HLR
          go_wp2
          go_region_held3 (fun W => W.cell? ⟨p, 1, none⟩ = some (.slice la 0 lc))
            (first | with_reducible exact c1 | (go_simp; done) | go_keep)
            (first
              | (go_at_call 12; (with_reducible refine (HBG.out _ ?_).mono ?_); (first | (with_reducible refine Below.drew ?_; with_reducible exact Below.refl _ _) | with_reducible exact Below.refl _ _); rintro e w3 ⟨rfl, hq⟩; have HB3 := Lib.hid (show Below wr.heap.size wr w3 from below_next (by first | (with_reducible refine Below.drew ?_; with_reducible exact Below.refl _ _) | with_reducible exact Below.refl _ _) hq.below); have c1 := ((bcell HB3.out).1 _ _ pz).trans c1; clear hq)
              | (go_at_call 13; (with_reducible refine (HIT.out _ HB3.out).mono ?_); rintro e w4 ⟨rfl, hq⟩; have HB4 := Lib.hid (HB3.out.trans (hq.below.mono HB3.out.size)); have c1 := ((bcell hq.below).1 _ _ (Nat.lt_of_lt_of_le pz HB3.out.size)).trans c1; clear hq)
              | (go_at_call 11; (with_reducible refine (awake_any _).mono ?_); rintro e w5 ⟨rfl, hb⟩; have HB5 := Lib.hid (HB.out.trans ((HB4.out.trans (hb.mono HB4.out.size)).mono HB.out.size)); have c1 := ((bcell hb).1 _ _ (Nat.lt_of_lt_of_le pz HB4.out.size)).trans c1; clear hb))
          all_goals go_wp2_with fail
          all_goals go_ret
          all_goals exact ⟨rfl, HB5.out⟩
        · by_cases hic : ic = b
          · have hab' : a = b := by omega
            have hN0 : N = 0 := by omega
            subst hic hN0
            subst hab'
            have HBG := Lib.hid (show ∀ W, Below wr.heap.size wr W → Calls Try.prog 12 #[.slice (some ⟨gi, 0, none⟩) a a, .slice oa a oc] W fun e w' => e = .returned (.bool true) ∧ SomeDraws W w' from fun W hb => begins_yes (HRI.out.below hb) (HRO.out.below hb) (by omega))
            have HIT := Lib.hid (show ∀ W, Below wr.heap.size wr W → Calls Try.prog 13 #[.slice (some ⟨gi, 0, none⟩) 0 0, .slice la 0 lc] W fun e w' => e = .returned (.bool true) ∧ SomeDraws W w' from fun W hb => ints_yes _ la 0 0 lc (fun _ => 0) _ W RowI.none_left (HLR.out.below hb) (fun _ h => absurd h (by omega)))
            clear HRI HRO HLR
            go_wp2
            go_region_held3 (fun W => W.cell? ⟨p, 1, none⟩ = some (.slice la 0 lc))
              (first | with_reducible exact c1 | (go_simp; done) | go_keep)
              (first
                | (go_at_call 12; (with_reducible refine (HBG.out _ ?_).mono ?_); (first | (with_reducible refine Below.drew ?_; with_reducible exact Below.refl _ _) | with_reducible exact Below.refl _ _); rintro e w3 ⟨rfl, hq⟩; have HB3 := Lib.hid (show Below wr.heap.size wr w3 from below_next (by first | (with_reducible refine Below.drew ?_; with_reducible exact Below.refl _ _) | with_reducible exact Below.refl _ _) hq.below); have c1 := ((bcell HB3.out).1 _ _ pz).trans c1; clear hq)
                | (go_at_call 13; (with_reducible refine (HIT.out _ HB3.out).mono ?_); rintro e w4 ⟨rfl, hq⟩; have HB4 := Lib.hid (HB3.out.trans (hq.below.mono HB3.out.size)); have c1 := ((bcell hq.below).1 _ _ (Nat.lt_of_lt_of_le pz HB3.out.size)).trans c1; clear hq)
                | (go_at_call 11; (with_reducible refine (awake_any _).mono ?_); rintro e w5 ⟨rfl, hb⟩; have HB5 := Lib.hid (HB.out.trans ((HB4.out.trans (hb.mono HB4.out.size)).mono HB.out.size)); have c1 := ((bcell hb).1 _ _ (Nat.lt_of_lt_of_le pz HB4.out.size)).trans c1; clear hb))
            all_goals go_wp2_with fail
            all_goals go_ret
            all_goals exact ⟨rfl, HB5.out⟩
          · have j4 : ic - b ≠ 0 := by omega
            have HDR := Lib.hid (show RowI wr (some ⟨gi, b, none⟩) N (ic - b) (fun i => F (b + i)) from by have h := HRI.out.drop hba; rw [Nat.zero_add, show a - b = N by omega] at h; exact h)
            have HBG := Lib.hid (show ∀ W, Below wr.heap.size wr W → Calls Try.prog 12 #[.slice (some ⟨gi, 0, none⟩) a ic, .slice oa b oc] W fun e w' => e = .returned (.bool true) ∧ SomeDraws W w' from fun W hb => begins_yes (HRI.out.below hb) (HRO.out.below hb) (by omega))
            have HIT := Lib.hid (show ∀ W, Below wr.heap.size wr W → Calls Try.prog 13 #[.slice (some ⟨gi, b, none⟩) (a - b) (ic - b), .slice la N lc] W fun e w' => e = .returned (.bool true) ∧ SomeDraws W w' from fun W hb => by rw [show a - b = N by omega]; exact ints_yes _ _ _ _ _ _ _ _ (HDR.out.below hb) (HLR.out.below hb) (fun _ _ => rfl))
            clear HRI HRO HLR
            go_wp2
            go_region_held3 (fun W => W.cell? ⟨p, 1, none⟩ = some (.slice la N lc))
              (first | with_reducible exact c1 | (go_simp; done) | go_keep)
              (first
                | (go_at_call 12; (with_reducible refine (HBG.out _ ?_).mono ?_); (first | (with_reducible refine Below.drew ?_; with_reducible exact Below.refl _ _) | with_reducible exact Below.refl _ _); rintro e w3 ⟨rfl, hq⟩; have HB3 := Lib.hid (show Below wr.heap.size wr w3 from below_next (by first | (with_reducible refine Below.drew ?_; with_reducible exact Below.refl _ _) | with_reducible exact Below.refl _ _) hq.below); have c1 := ((bcell HB3.out).1 _ _ pz).trans c1; clear hq)
                | (go_at_call 13; go_loud (with_reducible refine (HIT.out _ HB3.out).mono ?_); rintro e w4 ⟨rfl, hq⟩; have HB4 := Lib.hid (HB3.out.trans (hq.below.mono HB3.out.size)); have c1 := ((bcell hq.below).1 _ _ (Nat.lt_of_lt_of_le pz HB3.out.size)).trans c1; clear hq)
                | (go_at_call 11; (with_reducible refine (awake_any _).mono ?_); rintro e w5 ⟨rfl, hb⟩; have HB5 := Lib.hid (HB.out.trans ((HB4.out.trans (hb.mono HB4.out.size)).mono HB.out.size)); have c1 := ((bcell hb).1 _ _ (Nat.lt_of_lt_of_le pz HB4.out.size)).trans c1; clear hb))
            all_goals go_wp2_with fail
            all_goals go_ret
            all_goals exact ⟨rfl, HB5.out⟩
end Go.Proofs.Ytmghbcddnmiamaa
