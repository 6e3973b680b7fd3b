/- The document's example of calls that wait, over the seat's program: it answers true. -/
import Derived.Test.YtihpjfhibhpciaaWtP
import Derived.Test.YtihpjfhibhpciaaWtK
namespace Go.Proofs.Ytihpjfhibhpciaa
open Go.ChangeShapes Go.WideShapes Go.ChangeAt Go.RowKit Go.Joins

set_option maxHeartbeats 1000000 in
theorem ints_yes (a a' : Option Addr) (n cap cap' : Nat) (f g : Nat → Int) (w : World) (h : RowAt .i64 w a n cap f) (h' : RowAt .i64 w a' n cap' g) (he : ∀ i, i < n → f i = g i) :
    Calls Try.prog 23 #[.slice a n cap, .slice a' n cap'] w fun e w' => e = .returned (.bool true) ∧ SomeDraws w w' := by
  have hn := h.1
  have HC := Lib.hid h
  have HC' := Lib.hid h'
  have HE := Lib.hid he
  clear h h' he
  go_enter Try.func23, Try.ntmps23
  go_wp2
  go_loopw [13] (fun i wr => ∃ k : Nat, k ≤ n ∧ i = .int .i64 k ∧ RowAt .i64 wr a n cap f ∧ RowAt .i64 wr a' n cap' g ∧ SomeDraws w wr) (fun i _ => n - (intOf i).toNat)
  case atStart => exact ⟨0, Nat.zero_le _, rfl, HC.out, HC'.out, 0, rfl⟩
  case round =>
    obtain ⟨k, hk, rfl, h, h', hq⟩ := hrel
    have HR := Lib.hid h
    have HR' := Lib.hid h'
    have HQ := Lib.hid hq
    clear h h' hq
    by_cases hlt : k < n
    · obtain ⟨b, off, rfl, _, hc⟩ := HR.out.get hlt
      obtain ⟨b', off', rfl, _, hc'⟩ := HR'.out.get hlt
      have c1 := hc k hlt
      have c2 := hc' k hlt
      rw [← HE.out k hlt] at c2
      have i0 : (0 : Int) ≤ (k : Int) := by omega
      have i1 : (k : Int) < (n : Int) := by omega
      have e1 : (f k != f k) = false := by simp
      clear hc hc'
      go_wp2
      go_quiet (fail)
      go_wp2
      go_roundw
      case rel => exact ⟨k + 1, by omega, by go_num, HR.out.drewN _, HR'.out.drewN _, HQ.out.drew _⟩
      case measure => simp [intOf]; omega
    · go_wp2
      go_ret
      exact ⟨rfl, HQ.out⟩
theorem zerosW (n : Nat) : (madeCells (Value.agg #[.bool false, .int .i64 0, .int .i64 0, .slice none 0 0]).cells (n * 4)).toList = flatC 4 (wcell (fun _ => WV.zero) (fun _ => none) (fun _ => 0)) n := by
  apply List.ext_getElem?
  intro i
  by_cases h : i < n * 4
  · rw [flatC_at h]
    simp only [madeCells, Value.cells]
    have : i % 4 = 0 ∨ i % 4 = 1 ∨ i % 4 = 2 ∨ i % 4 = 3 := by omega
    rcases this with e | e | e | e <;> simp [h, e, wcell, WV.zero]
  · rw [List.getElem?_eq_none (by simp [madeCells]; omega), List.getElem?_eq_none (by rw [flatC_len]; omega)]
theorem waits_zero {B : Nat} {w : World} {v : Value} {n : Nat} (hn : n * 48 ≤ 140737488355328) (h : w.ownsRow B 25 4 v n (flatC 4 (wcell (fun _ => WV.zero) (fun _ => none) (fun _ => 0)) n)) : ∃ a cap, v = .slice a n cap ∧ WaitsAt w a n cap (fun _ => WV.zero) :=
  OwnW.at hn (OwnW.of h) (fun i _ => ⟨RowS.nil rfl rfl, fun q hq => by cases hq⟩)
def exU (tk sq hd : Int) : WV := ⟨false, tk, sq, 1, fun _ j => if j = 0 then 2 else if j = 1 then hd else 0⟩
def ex0 : Nat → WV := fun _ => WV.zero
def ex1 : Nat → WV := setV ex0 2 (exU 1 4 8).up
def ex2 : Nat → WV := setV ex1 0 (exU 2 5 8).up
def ex3 : Nat → WV := setV ex2 2 WV.zero
theorem ex_first {t wh : Int} {ok : Bool} (h : FirstIs ex2 3 2 8 t wh ok) : t = 2 ∧ wh = 0 ∧ ok = true := by
  have f0 : Fit ex2 2 8 0 := ⟨rfl, 0, Nat.zero_lt_one, rfl, rfl⟩
  have f2 : Fit ex2 2 8 2 := ⟨rfl, 0, Nat.zero_lt_one, rfl, rfl⟩
  rcases h with ⟨_, _, _, h⟩ | ⟨rfl, i, hi, rfl, hon, ⟨j, hj, rfl, _⟩, h⟩
  · exact absurd f0 (h 0 (by omega))
  · have h0 := h 2 (by omega) f2
    match i, hi with
    | 0, _ => exact absurd h0 (by decide)
    | 1, _ => exact absurd hon (by decide)
    | 2, _ =>
      have : j < 1 := hj
      obtain rfl : j = 0 := by omega
      exact ⟨rfl, rfl, rfl⟩
theorem ex_on {m : Nat} {f : Nat → Int} (h : OnIs ex2 8 3 m f) : m = 2 ∧ f 0 = 2 ∧ f 1 = 0 := by
  have w0 : Wts ex2 8 0 := ⟨rfl, 0, Nat.zero_lt_one, rfl⟩
  have w2 : Wts ex2 8 2 := ⟨rfl, 0, Nat.zero_lt_one, rfl⟩
  have two : ∀ j, j < m → f j = 0 ∨ f j = 2 := fun j hj => by
    obtain ⟨i, hi, e, hw⟩ := h.are j hj
    match i, hi with
    | 0, _ => exact .inl e
    | 1, _ => exact absurd hw.1 (by decide)
    | 2, _ => exact .inr e
  have k0 : (ex2 ((0 : Int)).toNat).tk = 2 := rfl
  have k2 : (ex2 ((2 : Int)).toNat).tk = 1 := rfl
  have up : ∀ p q, p < q → q < m → f p = 2 ∧ f q = 0 := fun p q h1 h2 => by
    have h3 := h.up p q (Nat.zero_le _) h1 h2
    unfold ltK at h3
    dsimp only at h3
    rcases two p (by omega) with a | a <;> rcases two q h2 with b | b <;> rw [a, b] at h3
    · rw [k0] at h3; omega
    · rw [k0, k2] at h3; omega
    · exact ⟨a, b⟩
    · rw [k2] at h3; omega
  obtain ⟨a, ha, ea⟩ := h.all 0 (by omega) w0
  obtain ⟨b, hb, eb⟩ := h.all 2 (by omega) w2
  have ne : a ≠ b := fun e => by rw [e, eb] at ea; exact absurd ea (by decide)
  have hm : m = 2 := by
    have hm2 : ¬ 2 < m := fun h3 => by
      have u1 := up 0 1 (by omega) (by omega)
      have u2 := up 1 2 (by omega) h3
      omega
    omega
  exact ⟨hm, up 0 1 (by omega) (by omega)⟩
theorem ex_count3 {W : World} {a : Option Addr} {cap : Nat} (h : WaitsAt W a 3 cap ex3) : Calls Try.prog 26 #[.slice a 3 cap] W fun e w' => e = .returned (.int .i64 1) ∧ Below W.heap.size W w' := count_any a 3 cap ex3 W h
theorem ex_count2 {W : World} {a : Option Addr} {cap : Nat} (h : WaitsAt W a 3 cap ex2) : Calls Try.prog 26 #[.slice a 3 cap] W fun e w' => e = .returned (.int .i64 2) ∧ Below W.heap.size W w' := count_any a 3 cap ex2 W h
theorem row_two (w : World) : RowAt .i64 (w.alloc (.cells #[.int .i64 2, .int .i64 0] 3)) (some ⟨w.heap.size, 0, none⟩) 2 2 (fun i => if i = 0 then 2 else 0) :=
  ⟨by omega, (fun h => by cases h), fun _ => ⟨w.heap.size, 0, rfl, by simp, fun i hi => by
    match i, hi with
    | 0, _ => simp
    | 1, _ => simp⟩⟩
theorem ex_row {f : Nat → Int} (h0 : f 0 = 2) (h1 : f 1 = 0) : ∀ i, i < 2 → f i = (fun i => if i = 0 then 2 else 0) i := fun i hi => by
  match i, hi with
  | 0, _ => exact h0
  | 1, _ => exact h1
section
open Classical
variable {W : World} {a kb : Option Addr} {cap kc : Nat}
theorem ex_put1 (h : WaitsAt W a 3 cap ex0) (r : RowS 3 W kb 1 kc (exU 0 0 8).c) : Calls Try.prog 15 #[.slice a 3 cap, .int .i64 2, .agg #[.bool false, .int .i64 1, .int .i64 4, .slice kb 1 kc]] W (RetAt2 3 ex1 true W) := by
  have e : PutOk 3 ex0 2 := ⟨by omega, by omega, rfl⟩
  have := put_any (t := 2) (U := exU 1 4 8) h ⟨kb, kc, rfl, r⟩
  rw [decide_eq_true e, putV, if_pos e] at this
  exact this
theorem ex_put2 (h : WaitsAt W a 3 cap ex1) (r : RowS 3 W kb 1 kc (exU 0 0 8).c) : Calls Try.prog 15 #[.slice a 3 cap, .int .i64 0, .agg #[.bool false, .int .i64 2, .int .i64 5, .slice kb 1 kc]] W (RetAt2 3 ex2 true W) := by
  have e : PutOk 3 ex1 0 := ⟨by omega, by omega, rfl⟩
  have := put_any (t := 0) (U := exU 2 5 8) h ⟨kb, kc, rfl, r⟩
  rw [decide_eq_true e, putV, if_pos e] at this
  exact this
theorem ex_cut (h : WaitsAt W a 3 cap ex2) : Calls Try.prog 17 #[.slice a 3 cap, .int .i64 2] W (RetAt2 3 ex3 true W) := by
  have e : CutOk 3 ex2 2 := ⟨by omega, by omega, rfl⟩
  have := cut_any (t := 2) h
  rw [decide_eq_true e, cutV, if_pos e] at this
  exact this
end
set_option maxRecDepth 100000 in
set_option maxHeartbeats 3200000 in
theorem awake_any (w : World) : Calls Try.prog 20 #[] w fun e w' => e = .returned (.bool true) ∧ Below w.heap.size w w' := by
  obtain ⟨i0, hi0, hz0, hz1, hz2⟩ := info_parts Try.info_wait
  have HI := Lib.hid (And.intro hi0 (And.intro hz0 (And.intro hz1 hz2)))
  clear hi0 hz0 hz1 hz2
  have HB0 := Lib.hid ((Below.refl w.heap.size w).alloc (Nat.le_refl _) (.cells #[.int .i64 2, .int .i64 8, .int .i64 0] 41))
  have HK := Lib.hid (show RowS 3 (w.alloc (.cells #[.int .i64 2, .int .i64 8, .int .i64 0] 41)) (some ⟨w.heap.size, 0, none⟩) 1 1 (exU 0 0 8).c from ⟨by omega, (fun h => by cases h), Nat.le_refl _, fun _ => ⟨w.heap.size, 0, rfl, by simp, fun i j hi hj => by
    obtain rfl : i = 0 := by omega
    match j, hj with
    | 0, _ => simp [exU]
    | 1, _ => simp [exU]
    | 2, _ => simp [exU]⟩⟩)
  go_enter Try.func20, Try.ntmps20
  go_upto_region 2 with (fail)
  revert HB0 HK
  generalize (w.alloc (.cells #[.int .i64 2, .int .i64 8, .int .i64 0] 41)) = u
  intro HB0 HK
  go_upto_region 3 with (first
    | (at_make; go_loud (refine wpList_make_full _ rfl _ _ 22 rfl u.heap.size 25 i0 (.agg #[.bool false, .int .i64 0, .int .i64 0, .slice none 0 0]) 4 Try.underlying22 HI.out.1 HI.out.2.1 HI.out.2.2.1 .i64 .i64 _ _ 3 rfl rfl rfl rfl (by rw [HI.out.2.2.2]; omega) (by unfold maxLen; omega) (by simp) ?_; intro u1 hown0 hgrow0; have HG1 := Lib.hid ((Below.refl u.heap.size u).grown hgrow0 (Nat.le_refl _) (fun _ e => by cases e)); obtain ⟨a1, c1, hv, hwa⟩ := waits_zero (by omega) (zerosW 3 ▸ hown0); (simp only [Value.slice.injEq, true_and] at hv); obtain ⟨rfl, rfl⟩ := hv; have HW1 := Lib.hid hwa; clear hwa hown0 hgrow0))
    | (go_at_call 15; go_loud ((with_reducible refine (ex_put1 HW1.out (HK.out.below HG1.out)).mono ?_); rintro e u2 ⟨a2, c2, rfl, hw, hb⟩; have HG2 := Lib.hid (HG1.out.trans (hb.mono HG1.out.size)); have HW2 := Lib.hid hw; clear hw hb)))
  go_upto_region 4 with (go_at_call 15; (with_reducible refine (ex_put2 HW2.out (HK.out.below HG2.out)).mono ?_); rintro e u3 ⟨a3, c3, rfl, hw, hb⟩; have HG3 := Lib.hid (HG2.out.trans (hb.mono HG2.out.size)); have HW3 := Lib.hid hw; clear hw hb)
  go_upto_region 5 with (go_at_call 21; (with_reducible refine (first_any _ _ _ _ _ _ _ HW3.out).mono ?_); rintro e u4 ⟨⟨t, wh, ok, rfl, hf⟩, hb⟩; obtain ⟨rfl, rfl, rfl⟩ := ex_first hf; have HG4 := Lib.hid (HG3.out.trans (hb.mono HG3.out.size)); have HW4 := Lib.hid (HW3.out.below hb); clear hf hb)
  go_upto_region 6 with (go_at_call 17; (with_reducible refine (ex_cut HW4.out).mono ?_); rintro e u5 ⟨a5, c5, rfl, hw, hb⟩; have HG5 := Lib.hid (HG4.out.trans (hb.mono HG4.out.size)); have HW5 := Lib.hid (HW4.out.below hb); have HM5 := Lib.hid hw; clear hw hb)
  refine abstract_code (fun v => WaitsAt v a3 3 c3 ex2 ∧ WaitsAt v a5 3 c5 ex3 ∧ Below u.heap.size u v) ⟨HW5.out, HM5.out, HG5.out⟩ ?_
  clear HG1 HW1 HG2 HW2 HG3 HW3 HG4 HW4 HG5 HW5 HM5 HI HK
  rintro v ⟨hw, hm, hg⟩
  have HW := Lib.hid hw
  have HM := Lib.hid hm
  have HG := Lib.hid hg
  clear hw hm hg
  go_wp2_with (first
    | (go_at_call 24; (with_reducible refine (on_any _ _ _ _ _ _ HW.out).mono ?_); rintro e v1 ⟨oa, m, oc, f, rfl, hr, ho, hb⟩; obtain ⟨rfl, e0, e1⟩ := ex_on ho; have HR := Lib.hid hr; have HE := Lib.hid (And.intro e0 e1); have HV1 := Lib.hid (HG.out.trans (hb.mono HG.out.size)); have HWb := Lib.hid (HW.out.below hb); have HMb := Lib.hid (HM.out.below hb); clear hr ho hb e0 e1)
    | (go_at_call 23; (with_reducible refine (ints_yes _ _ _ _ _ _ _ _ (HR.out.alloc _) (row_two v1) (ex_row HE.out.1 HE.out.2)).mono ?_); rintro e v2 ⟨rfl, hq⟩; have hA := (Below.refl v1.heap.size v1).alloc (Nat.le_refl _) (.cells #[.int .i64 2, .int .i64 0] 3); have hB := hA.trans (hq.below.mono hA.size); have HV2 := Lib.hid (HV1.out.trans (hB.mono HV1.out.size)); have HW2 := Lib.hid (HWb.out.below hB); have HM2 := Lib.hid (HMb.out.below hB); clear hq hA hB)
    | (go_at_call 26; (with_reducible refine (ex_count3 HM2.out).mono ?_); rintro e v3 ⟨rfl, hb⟩; have HV3 := Lib.hid (HV2.out.trans (hb.mono HV2.out.size)); have HW3 := Lib.hid (HW2.out.below hb); clear hb)
    | (go_at_call 26; (with_reducible refine (ex_count2 HW3.out).mono ?_); rintro e v4 ⟨rfl, hb⟩; have HV4 := Lib.hid (HV3.out.trans (hb.mono HV3.out.size)); clear hb))
  go_ret
  exact ⟨rfl, HB0.out.trans (HV4.out.mono HB0.out.size)⟩
end Go.Proofs.Ytihpjfhibhpciaa
