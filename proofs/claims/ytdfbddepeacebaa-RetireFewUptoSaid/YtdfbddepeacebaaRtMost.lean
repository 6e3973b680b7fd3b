/- Read, the reference's, Most, and the reference's, over the seat's program. -/
import Derived.Test.YtdfbddepeacebaaRtW
import Derived.DeepKeys4
import Derived.Deep.DeepCutAuto
import Derived.Deep.CutRange
namespace Go.Proofs.Ytdfbddepeacebaa
open Go.ChangeShapes Go.WideShapes Go.ChangeAt Go.RowKit Go.Joins Go.Maps

def rOk (n : Int) : Bool := goodB (n % 65536 - 1) (n / 65536)
def rI (n : Int) : Int := if rOk n = true then n % 65536 - 1 else 0
def rT (n : Int) : Int := if rOk n = true then n / 65536 else 0
theorem and_low (n : Int) (h0 : 0 ≤ n) (h1 : n ≤ 18446744073709551615) : bits .and .u64 n 65535 = n % 65536 := by
  rw [u64_and n 65535 h0 (by omega) (by omega) (by omega)]
  rw [show (65535 : Int).toNat = 2 ^ 16 - 1 from rfl, Nat.and_two_pow_sub_one_eq_mod]
  omega
theorem read_any (n : Int) (h0 : 0 ≤ n) (h1 : n ≤ 18446744073709551615) (w : World) : Calls Try.prog 33 #[.int .u64 n] w
    fun e w' => e = .returned (.tuple #[.agg #[.int .i64 (rI n), .int .i64 (rT n)], .bool (rOk n)]) ∧ Below w.heap.size w w' := by
  have e0 := and_low n h0 h1
  have b1 : 0 ≤ n % 65536 := by omega
  have b2 : n % 65536 < 65536 := by omega
  cases h : rOk n
  · have H1 := Lib.hid (show rI n = 0 by simp [rI, h])
    have H2 := Lib.hid (show rT n = 0 by simp [rT, h])
    have H := Lib.hid (show goodB (n % 65536 - 1) (n / 65536) = false from h)
    have Hok := Lib.hid h
    clear h
    go_enter Try.func33, Try.ntmps33
    go_wp2_with (go_at_call 42; refine (good_no _ _ H.out _).mono ?_; rintro e w' ⟨rfl, rfl⟩)
    refine bodyPost_ret (v := .tuple #[.agg #[.int .i64 0, .int .i64 0], .bool false]) (by simp [results, Try.results33, go_sem]) rfl ⟨?_, ?_⟩
    · rw [H1.out, H2.out]
    · repeat (first | exact Below.refl _ _ | refine Below.alloc ?_ (by first | (simp; done) | (simp; omega)) _ | refine Below.setCell ?_ (by first | (simp; done) | (simp; omega)) _)
  · have H1 := Lib.hid (show rI n = n % 65536 - 1 by simp [rI, h])
    have H2 := Lib.hid (show rT n = n / 65536 by simp [rT, h])
    have H := Lib.hid (show goodB (n % 65536 - 1) (n / 65536) = true from h)
    have Hok := Lib.hid h
    clear h
    go_enter Try.func33, Try.ntmps33
    go_wp2_with (go_at_call 42; refine (good_yes _ _ H.out _).mono ?_; rintro e w' ⟨rfl, rfl⟩)
    refine bodyPost_ret (v := .tuple #[.agg #[.int .i64 (n % 65536 - 1), .int .i64 (n / 65536)], .bool true]) (by simp [results, Try.results33, go_sem]) rfl ⟨?_, ?_⟩
    · rw [H1.out, H2.out]
    · repeat (first | exact Below.refl _ _ | refine Below.alloc ?_ (by first | (simp; done) | (simp; omega)) _ | refine Below.setCell ?_ (by first | (simp; done) | (simp; omega)) _)
theorem rread_any (n : Int) (h0 : 0 ≤ n) (h1 : n ≤ 18446744073709551615) (w : World) : Calls Try.prog 34 #[.int .u64 n] w
    fun e w' => e = .returned (.tuple #[.agg #[.int .i64 (rI n), .int .i64 (rT n)], .bool (rOk n)]) ∧ Below w.heap.size w w' := by
  have b1 : 0 ≤ n % 65536 := by omega
  have b2 : n % 65536 < 65536 := by omega
  cases h : rOk n
  · have H1 := Lib.hid (show rI n = 0 by simp [rI, h])
    have H2 := Lib.hid (show rT n = 0 by simp [rT, h])
    have Hg : ¬ (0 ≤ n % 65536 - 1 ∧ n % 65536 - 1 ≤ 65534 ∧ 1 ≤ n / 65536 ∧ n / 65536 ≤ 4294967295) := fun hh => by
      have := (goodB_iff _ _).2 hh
      rw [show goodB (n % 65536 - 1) (n / 65536) = false from h] at this
      exact absurd this (by simp)
    clear h
    go_enter Try.func34, Try.ntmps34
    go_wp2
    all_goals
      refine bodyPost_ret (v := .tuple #[.agg #[.int .i64 0, .int .i64 0], .bool false]) (by simp [results, Try.results34, go_sem]) rfl ⟨?_, ?_⟩
      · rw [H1.out, H2.out]
      · repeat (first | exact Below.refl _ _ | refine Below.alloc ?_ (by first | (simp; done) | (simp; omega)) _ | refine Below.setCell ?_ (by first | (simp; done) | (simp; omega)) _)
  · have H1 := Lib.hid (show rI n = n % 65536 - 1 by simp [rI, h])
    have H2 := Lib.hid (show rT n = n / 65536 by simp [rT, h])
    obtain ⟨g1, g2, g3, g4⟩ := (goodB_iff (n % 65536 - 1) (n / 65536)).1 h
    clear h
    have k1 : (n % 65536 == 0) = false := by simp; omega
    have k2 : (n / 65536 == 0) = false := by simp; omega
    go_enter Try.func34, Try.ntmps34
    go_wp2
    refine bodyPost_ret (v := .tuple #[.agg #[.int .i64 (n % 65536 - 1), .int .i64 (n / 65536)], .bool true]) (by simp [results, Try.results34, go_sem]) rfl ⟨?_, ?_⟩
    · rw [H1.out, H2.out]
    · repeat (first | exact Below.refl _ _ | refine Below.alloc ?_ (by first | (simp; done) | (simp; omega)) _ | refine Below.setCell ?_ (by first | (simp; done) | (simp; omega)) _)

/-! A name as a map's key. -/
theorem lawR : Keyed Try.prog 23 := Keyed.of_law (deep_law_laid Try.laidOut (m := Try.prog.types.size + 1) (by decide +kernel) (of_decide_eq_true (by kernel_rfl)) (by kernel_rfl) (by kernel_rfl))
def kR (i t : Int) : Lit := .string (keyBytes [.int .i64 i, .int .i64 t])
theorem keyR {i t : Int} (hi : (Lit.int .i64 i).wf = true) (ht : (Lit.int .i64 t).wf = true) : keyOf Try.prog 23 (.agg #[.int .i64 i, .int .i64 t]) = some (kR i t) := by
  have h1 : Try.prog.keyType 23 = true := by kernel_rfl
  have h2 : Value.formed Try.prog 23 (.agg #[.int .i64 i, .int .i64 t]) = true := by
    simp only [Value.formed, Try.underlying23]
    rw [show Try.prog.cellsOf 23 = 2 by kernel_rfl]
    rfl
  unfold keyOf
  simp only [Try.underlying23, h1, h2, Bool.and_self, if_true]
  obtain ⟨d, hd⟩ : ∃ d, Try.prog.types.size + 1 = d + 1 + 1 := ⟨Try.prog.types.size - 1, by kernel_rfl⟩
  rw [hd]
  simp only [Program.keyLits, Try.underlying23]
  rw [show Try.prog.cellsOf 23 = 2 by kernel_rfl]
  simp [Value.cells, Try.underlying3, show Try.prog.cellsOf 3 = 1 by kernel_rfl, hi, ht, kR]
/-- A word's key. -/
def kW (x : Int) : Lit := kR (x % 65536 - 1) (x / 65536)
theorem keyW {x : Int} (h : 0 ≤ x ∧ x ≤ 18446744073709551615) : keyOf Try.prog 23 (.agg #[.int .i64 (x % 65536 - 1), .int .i64 (x / 65536)]) = some (kW x) :=
  keyR (WalkArith.wf_i64 (by omega)) (WalkArith.wf_i64 (by omega))
theorem kW_inj {x y : Int} (hx : 0 ≤ x ∧ x ≤ 18446744073709551615) (hy : 0 ≤ y ∧ y ≤ 18446744073709551615) (h : kW x = kW y) : x = y := by
  have h2 := lawR.inj (keyW hx) (h ▸ keyW hy)
  simp only [Value.agg.injEq, Array.mk.injEq, List.cons.injEq, Value.int.injEq, true_and, and_true] at h2
  omega
theorem hasB_succ (f : Nat → Int) (k : Nat) (x : Int) : hasB f (k + 1) x = (hasB f k x || f k == x) := by
  simp [hasB, List.range_succ]
/-- How many unlike words of so many are names. -/
def mostN (f : Nat → Int) : Nat → Nat
  | 0 => 0
  | k + 1 => mostN f k + if (rOk (f k) && !hasB f k (f k)) = true then 1 else 0
theorem mostN_le (f : Nat → Int) (k : Nat) : mostN f k ≤ k := by
  induction k with
  | zero => exact Nat.le_refl _
  | succ k ih =>
    simp only [mostN]
    split <;> omega
/-- The names of so many words, as a set. -/
def MostAt (w : World) (m : Nat) (f : Nat → Int) (k : Nat) : Prop :=
  ∃ D : DataW Unit, w.ownsMap Try.prog 23 (unitElem (H := Unit)) m k D ∧ Maps.size D = mostN f k ∧ ∀ x, (0 ≤ x ∧ x ≤ 18446744073709551615) → rOk x = true → Maps.has D (kW x) = hasB f k x
theorem most_skip {w w' : World} {m k : Nat} {f : Nat → Int} (h : MostAt w m f k) (hb : Below w.heap.size w w') (hk : rOk (f k) = false) : MostAt w' m f (k + 1) := by
  obtain ⟨D, h1, h2, h3⟩ := h
  refine ⟨D, (ownsMap_below h1 hb).mono (Nat.le_succ _), ?_, fun x hx ho => ?_⟩
  · rw [h2]
    simp [mostN, hk]
  · rw [h3 x hx ho, hasB_succ]
    have : (f k == x) = false := by
      rw [beq_eq_false_iff_ne]
      intro e
      rw [e, ho] at hk
      cases hk
    rw [this, Bool.or_false]
theorem most_put {k : Nat} {f : Nat → Int} {D : DataW Unit} (hT : Tidy D) (h2 : Maps.size D = mostN f k) (h3 : ∀ x, (0 ≤ x ∧ x ≤ 18446744073709551615) → rOk x = true → Maps.has D (kW x) = hasB f k x) (hf : 0 ≤ f k ∧ f k ≤ 18446744073709551615) (hk : rOk (f k) = true) :
    Maps.size (D.put (kW (f k)) (.agg [])) = mostN f (k + 1) ∧ ∀ x, (0 ≤ x ∧ x ≤ 18446744073709551615) → rOk x = true → Maps.has (D.put (kW (f k)) (.agg [])) (kW x) = hasB f (k + 1) x := by
  refine ⟨?_, fun x hx ho => ?_⟩
  · rw [Maps.size_put hT, h3 _ hf hk, h2]
    simp only [mostN, hk, Bool.true_and]
    cases hasB f k (f k) <;> simp
  · rw [hasB_succ]
    by_cases e : f k = x
    · subst e
      rw [Maps.has_put_same hT.isMap (by trivial)]
      simp
    · rw [Maps.has_put_other (fun he => e (kW_inj hf hx he.symm)), h3 x hx ho]
      have : (f k == x) = false := by simpa using e
      rw [this, Bool.or_false]
set_option maxRecDepth 100000 in
set_option maxHeartbeats 1600000 in
theorem most_any (a : Option Addr) (n cap : Nat) (f : Nat → Int) (hf : Words64 f n) (w : World) (h : RowAt .u64 w a n cap f) : Calls Try.prog 21 #[.slice a n cap] w fun e w' => e = .returned (.int .i64 (mostN f n : Nat)) ∧ Below w.heap.size w w' := by
  have hn := h.1
  have HC := Lib.hid h
  have HF := Lib.hid hf
  have hmm := @run_makeMap Try.prog
  clear h hf
  go_enter Try.func21, Try.ntmps21
  go_wp2
  go_loopw [11] (fun i wr => ∃ k : Nat, k ≤ n ∧ i = .int .i64 k ∧ MostAt wr w.heap.size f k ∧ Below w.heap.size w wr ∧ w.heap.size < wr.heap.size) (fun i _ => n - (intOf i).toNat)
  case atStart =>
    refine ⟨0, Nat.zero_le _, rfl, ⟨_, World.ownsMap_made w Try.prog 23 unitElem, rfl, fun x _ _ => rfl⟩, (Below.refl _ _).alloc (Nat.le_refl _) _, by simp⟩
  case round =>
    obtain ⟨k, hk, rfl, hs, hb, hz⟩ := hrel
    have HS := Lib.hid hs
    have HB := Lib.hid hb
    clear hs hb
    by_cases hlt : k < n
    · obtain ⟨b, off, hab, _, hcc⟩ := (HC.out.below HB.out).get hlt
      subst hab
      have x0 := hcc k hlt
      have i0 : (0 : Int) ≤ (k : Int) := by omega
      have i1 : (k : Int) < (n : Int) := by omega
      have HX := Lib.hid (HF.out k hlt)
      clear hcc
      cases hok : rOk (f k)
      · have HR := Lib.hid (show Calls Try.prog 33 #[.int .u64 (f k)] wr fun e w' => e = .returned (.tuple #[.agg #[.int .i64 (rI (f k)), .int .i64 (rT (f k))], .bool false]) ∧ Below wr.heap.size wr w' from hok ▸ read_any (f k) HX.out.1 HX.out.2 wr)
        have HOK := Lib.hid hok
        clear hok
        go_wp2_with (go_at_call 33; (with_reducible refine HR.out.mono ?_); rintro e w2 ⟨rfl, hb⟩; have HB2 := Lib.hid hb; clear hb)
        have hA := (Below.refl w2.heap.size w2).alloc (Nat.le_refl _) (.cells #[.int .i64 (rI (f k)), .int .i64 (rT (f k))] 23)
        have hz2 := HB2.out.size
        go_roundw
        case rel => exact ⟨k + 1, by omega, by go_num, most_skip HS.out (HB2.out.trans (hA.mono hz2)) HOK.out, HB.out.trans ((HB2.out.trans (hA.mono hz2)).mono (Nat.le_of_lt hz)), by simp; omega⟩
        case measure => simp [intOf]; omega
      · have HR := Lib.hid (show Calls Try.prog 33 #[.int .u64 (f k)] wr fun e w' => e = .returned (.tuple #[.agg #[.int .i64 (f k % 65536 - 1), .int .i64 (f k / 65536)], .bool true]) ∧ Below wr.heap.size wr w' from by
          have := read_any (f k) HX.out.1 HX.out.2 wr
          rw [show rI (f k) = f k % 65536 - 1 by simp [rI, hok], show rT (f k) = f k / 65536 by simp [rT, hok], hok] at this
          exact this)
        have HOK := Lib.hid hok
        have HK := Lib.hid (keyW HX.out)
        obtain ⟨D, h1, h2, h3⟩ := HS.out
        have HP := Lib.hid (most_put (h1.tidy lawR) h2 h3 HX.out hok)
        have HD := Lib.hid h1
        clear hok h1 h2 h3
        go_wp2_with (first
          | (go_at_call 33; (with_reducible refine HR.out.mono ?_); rintro e w2 ⟨rfl, hb⟩; have HB2 := Lib.hid hb; have hz2 := hb.size; clear hb)
          | (at_mapUpdate; go_loud (refine wpList_mapUpdate_own _ rfl _ _ _ 59 rfl 23 62 lawR Try.underlying59 (unitElem (H := Unit)) w.heap.size k D rfl ((ownsMap_below HD.out HB2.out).alloc _) (by unfold maxLen; omega) _ _ _ rfl rfl HK.out _ [] unitElem_mk ?_; intro w4 hown1 hgrow1; have HS4 := Lib.hid (show MostAt w4 w.heap.size f (k + 1) from ⟨_, hown1, HP.out.1, HP.out.2⟩); have HB4 := Lib.hid (Below.grown (((HB.out.trans (HB2.out.mono (Nat.le_of_lt hz))).alloc (by omega) _)) hgrow1 (by simp; omega) (fun j hj => by cases hj; exact Nat.le_refl _)); have hsz := hgrow1.size; clear hown1 hgrow1)))
        have hsz2 : w2.heap.size + 1 ≤ w4.heap.size := (by simpa using hsz)
        clear hsz
        go_roundw
        case rel => exact ⟨k + 1, by omega, by go_num, HS4.out, HB4.out, by omega⟩
        case measure => simp [intOf]; omega
    · obtain rfl : k = n := by omega
      obtain ⟨D, h1, h2, _⟩ := HS.out
      have HD := Lib.hid h1
      have H2 := Lib.hid h2
      clear h1 h2
      go_wp2_with (at_len; go_loud (refine wpList_len_own _ rfl _ 59 rfl 23 62 Try.underlying59 _ w.heap.size k D rfl HD.out ?_))
      go_ret
      exact ⟨by rw [H2.out]; rfl, HB.out⟩
set_option maxRecDepth 100000 in
set_option maxHeartbeats 1600000 in
theorem rmost_any (a : Option Addr) (n cap : Nat) (f : Nat → Int) (hf : Words64 f n) (hcap : n ≤ cap) (w : World) (h : RowAt .u64 w a n cap f) : Calls Try.prog 22 #[.slice a n cap] w fun e w' => e = .returned (.int .i64 (mostN f n : Nat)) ∧ Below w.heap.size w w' := by
  have hn := h.1
  have HC := Lib.hid h
  have HF := Lib.hid hf
  clear h hf
  go_enter Try.func22, Try.ntmps22
  go_wp2
  go_loopw [3, 12] (fun c i wr => ∃ k : Nat, k ≤ n ∧ i = .int .i64 k ∧ c = .int .i64 (mostN f k : Nat) ∧ Below w.heap.size w wr) (fun _ i _ => n - (intOf i).toNat)
  case atStart => exact ⟨0, Nat.zero_le _, rfl, rfl, Below.refl _ _⟩
  case round =>
    obtain ⟨k, hk, rfl, rfl, hb⟩ := hrel
    have HB := Lib.hid hb
    clear hb
    have hm := mostN_le f k
    by_cases hlt : k < n
    · obtain ⟨b, off, hab, _, hcc⟩ := (HC.out.below HB.out).get hlt
      subst hab
      have x0 := hcc k hlt
      have HX := Lib.hid (HF.out k hlt)
      have i0 : (0 : Int) ≤ (k : Int) := by omega
      have i1 : (k : Int) < (n : Int) := by omega
      have i2 : (k : Int) ≤ (cap : Int) := by omega
      have i3 : k ≤ cap := by omega
      clear hcc
      obtain ⟨o, ho⟩ : ∃ o, rOk (f k) = o := ⟨_, rfl⟩
      have HR := Lib.hid (show Calls Try.prog 34 #[.int .u64 (f k)] wr fun e w' => e = .returned (.tuple #[.agg #[.int .i64 (rI (f k)), .int .i64 (rT (f k))], .bool o]) ∧ Below wr.heap.size wr w' from ho ▸ rread_any (f k) HX.out.1 HX.out.2 wr)
      have HMS := Lib.hid (show mostN f (k + 1) = mostN f k + if (o && !hasB f k (f k)) = true then 1 else 0 from ho ▸ rfl)
      clear ho
      go_wp2_with (go_at_call 34; (with_reducible refine HR.out.mono ?_); rintro e w2 ⟨rfl, hb⟩; have HB2 := Lib.hid (HB.out.trans (hb.mono HB.out.size)); clear hb x0)
      have hA := (Below.refl w2.heap.size w2).alloc (Nat.le_refl _) (.cells #[.int .i64 (rI (f k)), .int .i64 (rT (f k))] 23)
      have HA := Lib.hid (HB2.out.trans (hA.mono HB2.out.size))
      clear hA
      refine abstract_code (fun u => Below w.heap.size w u) HA.out ?_
      intro w3 hb3
      have HB3 := Lib.hid hb3
      obtain ⟨x, hx⟩ : ∃ x, f k = x := ⟨_, rfl⟩
      rw [hx] at HMS ⊢
      have HXK := Lib.hid hx
      clear hb3 HR HA HB2 hx
      go_loop [7, 26] (fun v i => ∃ j : Nat, j ≤ k ∧ i = .int .i64 j ∧ v = .bool (o && !hasB f j x)) (fun _ i => k - (intOf i).toNat)
      case atStart => exact ⟨0, Nat.zero_le _, rfl, by simp [hasB]⟩
      case round =>
        obtain ⟨j, hj, rfl, rfl⟩ := hrel
        by_cases hjk : j < k
        · obtain ⟨b2, off2, hab2, _, hcc⟩ := (HC.out.below HB3.out).get (show j < n by omega)
          cases hab2
          have y0 := hcc j (by omega)
          have j0 : (0 : Int) ≤ (j : Int) := by omega
          have j1 : (j : Int) < (k : Int) := by omega
          clear hcc
          by_cases he : f j = x
          · have e1 : (f j == x) = true := by simpa using he
            have HS := Lib.hid (show Value.bool false = .bool (o && !hasB f (j + 1) x) by rw [hasB_succ, e1]; simp)
            clear he
            go_wp2
            go_round
            case rel => exact ⟨j + 1, by omega, by go_num, HS.out⟩
            case measure => simp [intOf]; omega
          · have e1 : (f j == x) = false := by simpa using he
            have HS := Lib.hid (show Value.bool (o && !hasB f j x) = .bool (o && !hasB f (j + 1) x) by rw [hasB_succ, e1]; simp)
            clear he
            go_wp2
            go_round
            case rel => exact ⟨j + 1, by omega, by go_num, HS.out⟩
            case measure => simp [intOf]; omega
        · obtain rfl : j = k := by omega
          generalize (o && !hasB f j x) = r at *
          cases r
          · go_wp2
            go_roundw
            case rel => exact ⟨j + 1, by omega, by go_num, by rw [HMS.out]; rfl, HB3.out⟩
            case measure => simp [intOf]; omega
          · go_wp2
            go_roundw
            case rel => exact ⟨j + 1, by omega, by go_num, by rw [HMS.out, if_pos rfl]; go_num, HB3.out⟩
            case measure => simp [intOf]; omega
    · obtain rfl : k = n := by omega
      go_wp2
      go_ret
      exact ⟨rfl, HB.out⟩
end Go.Proofs.Ytdfbddepeacebaa
