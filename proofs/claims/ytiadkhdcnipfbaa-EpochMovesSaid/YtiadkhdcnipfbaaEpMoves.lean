/- The walk of EpochMoves over the seat's program: for every input it returns true, and makes new memory alone. -/
import Derived.Test.YtiadkhdcnipfbaaEpAwake
import Derived.Test.YtiadkhdcnipfbaaWords
namespace Go.Proofs.Ytiadkhdcnipfbaa
open Go.ChangeShapes Go.WideShapes Go.ChangeAt Go.RowKit Go.Joins

set_option maxRecDepth 100000 in
set_option maxHeartbeats 6400000 in
theorem moves_walk (a : Option Addr) (n cap : Nat) (f : Nat → Int) (me g : Int) (w : World) (h : RowAt .u64 w a n cap f) (_ : ∀ i, i < n → 0 ≤ f i ∧ f i ≤ 18446744073709551615) (_ : -9223372036854775808 ≤ me) (_ : me ≤ 9223372036854775807) (_ : -9223372036854775808 ≤ g) (_ : g ≤ 9223372036854775807) :
    Calls Try.prog 4 #[.slice a n cap, .int .i64 me, .int .i64 g] w fun e w' => e = .returned (.bool true) ∧ Below w.heap.size w w' := by
  obtain ⟨N, hN⟩ : ∃ N, nextI n f me g = N := ⟨_, rfl⟩
  have H22 := Lib.hid (fun W (h : RowAt .u64 W a n cap f) => show Calls Try.prog 22 #[.slice a n cap, .int .i64 me, .int .i64 g] W fun e w' => e = .returned (.int .i64 N) ∧ W = w' by
    have := next_any a n cap f me g W h
    rw [hN] at this; exact this)
  have H23 := Lib.hid (fun W (h : RowAt .u64 W a n cap f) => show Calls Try.prog 23 #[.slice a n cap, .int .i64 me, .int .i64 g] W fun e w' => e = .returned (.int .i64 N) ∧ SomeDraws W w' by
    have := rnext_any a n cap f me g W h
    rw [hN] at this; exact this)
  obtain ⟨i0, hi0, hz0, hz1, hz2⟩ := info_parts Try.infoW
  have HI := Lib.hid (And.intro hi0 (And.intro hz0 (And.intro hz1 hz2)))
  have hn := h.1
  have HR := Lib.hid h
  have HC := Lib.hid (show ∀ ad, a = some ad → ∀ j u, (rowL .u64 f n)[j]? = some u → (w.alloc (.cells #[] 35)).cell? (ad.add j) = some u from fun ad had j u hu => by
    have hj : j < n := by have := (List.getElem?_eq_some_iff.1 hu).1; simpa [rowL_len] using this
    obtain ⟨b, off, hab, hb, hc⟩ := h.get hj
    rw [had] at hab
    injection hab with hab
    subst hab
    exact rowL_at (fun i hi => ((World.cell?_alloc_past _ _ _ hb).trans (hc i hi) : (w.alloc (.cells #[] 35)).cell? ⟨b, off + i, none⟩ = _)) j u hu)
  clear hN h hi0 hz0 hz1 hz2
  go_enter Try.func4, Try.ntmps4
  go_wp2_with (first
    | (at_builtin; refine wpList_append_src _ rfl _ _ _ rfl w.heap.size 35 i0 (.int .u64 0) 1 8 Try.underlying22 HI.out.1 HI.out.2.1 HI.out.2.2.1 HI.out.2.2.2 rfl (by decide) _ 0 [] rfl (World.ownsRow_lit w #[] 0 (Nat.le_refl _) (by unfold maxLen; omega) rfl) a n cap (rowL .u64 f n) rfl (by rw [rowL_len]; omega) HR.out.2.1 HC.out rowL_one (by unfold maxLen; omega) (by omega) (by simp) ?_; intro v1 w1 hown1 hgrow; obtain ⟨a1, cap1, rfl, ho1⟩ := OwnAt.of (K := .u64) (f := f) (n := n) hn (by rw [Nat.zero_add, List.nil_append] at hown1; exact hown1); have HO1 := Lib.hid ho1; have HB1 := Lib.hid (Below.grown ((Below.refl w.heap.size w).alloc (Nat.le_refl _) _) hgrow (by simp) (fun j hj => by injection hj with e; exact Nat.le_of_eq e)); have HR1 := Lib.hid (HR.out.below HB1.out); clear ho1 hown1 hgrow)
    | (go_at_call 17; (with_reducible refine (enter_any a n cap f me g _ HR1.out).mono ?_); rintro e w2 ⟨a2, cap2, rfl, ho, hb⟩; have HO2 := Lib.hid ho; have HR2 := Lib.hid (HR1.out.below hb); have HO12 := Lib.hid (HO1.out.below hb); have HB2 := Lib.hid (HB1.out.trans (hb.mono HB1.out.size)); clear ho hb)
    | (go_at_call 18; (with_reducible refine (leave_any a n cap f me _ HR2.out).mono ?_); rintro e w3 ⟨a3, cap3, rfl, ho, hb⟩; have HO3 := Lib.hid ho; have HR3 := Lib.hid (HR2.out.below hb); have HO13 := Lib.hid (HO12.out.below hb); have HO23 := Lib.hid (HO2.out.below hb); have HB3 := Lib.hid (HB2.out.trans (hb.mono HB2.out.size)); clear ho hb)
    | (go_at_call 21; (with_reducible refine (repoch_any g _).mono ?_); rintro e w4 ⟨rfl, rfl⟩)
    | (go_at_call 20; (with_reducible refine (rwith_any a n cap f me (epI g) _ HR3.out).mono ?_); rintro e w4 ⟨a4, cap4, rfl, ho, hb⟩; have HO4 := Lib.hid ho; have HR4 := Lib.hid (HR3.out.below hb); have HO14 := Lib.hid (HO13.out.below hb); have HO24 := Lib.hid (HO23.out.below hb); have HO34 := Lib.hid (HO3.out.below hb); have HB4 := Lib.hid (HB3.out.trans (hb.mono HB3.out.size)); clear ho hb)
    | (go_at_call 19; (with_reducible refine (words_yes _ _ _ _ _ _ _ _ HO24.out.row HO4.out.row (fun _ _ => rfl)).mono ?_); rintro e w5 ⟨rfl, hd⟩; have hb := hd.below; have HR5 := Lib.hid (HR4.out.below hb); have HO15 := Lib.hid (HO14.out.below hb); have HO35 := Lib.hid (HO34.out.below hb); have HB5 := Lib.hid (HB4.out.trans (hb.mono HB4.out.size)); clear hd hb)
    | (go_at_call 20; (with_reducible refine (rwith_any a n cap f me 0 _ HR5.out).mono ?_); rintro e w6 ⟨a6, cap6, rfl, ho, hb⟩; have HO6 := Lib.hid ho; have HR6 := Lib.hid (HR5.out.below hb); have HO16 := Lib.hid (HO15.out.below hb); have HO36 := Lib.hid (HO35.out.below hb); have HB6 := Lib.hid (HB5.out.trans (hb.mono HB5.out.size)); clear ho hb)
    | (go_at_call 19; (with_reducible refine (words_yes _ _ _ _ _ _ _ _ HO36.out.row HO6.out.row (fun _ _ => rfl)).mono ?_); rintro e w7 ⟨rfl, hd⟩; have hb := hd.below; have HR7 := Lib.hid (HR6.out.below hb); have HO17 := Lib.hid (HO16.out.below hb); have HB7 := Lib.hid (HB6.out.trans (hb.mono HB6.out.size)); clear hd hb)
    | (go_at_call 22; (with_reducible refine (H22.out _ HR7.out).mono ?_); rintro e w8 ⟨rfl, rfl⟩)
    | (go_at_call 23; (with_reducible refine (H23.out _ HR7.out).mono ?_); rintro e w8 ⟨rfl, hd⟩; have hb := hd.below; have HR8 := Lib.hid (HR7.out.below hb); have HO18 := Lib.hid (HO17.out.below hb); have HB8 := Lib.hid (HB7.out.trans (hb.mono HB7.out.size)); clear hd hb)
    | (go_at_call 19; (with_reducible refine (words_yes _ _ _ _ _ _ _ _ HR8.out HO18.out.row (fun _ _ => rfl)).mono ?_); rintro e w9 ⟨rfl, hd⟩; have HB9 := Lib.hid (HB8.out.trans (hd.below.mono HB8.out.size)); clear hd)
    | (go_at_call 16; (with_reducible refine (awake_any _).mono ?_); rintro e w10 ⟨rfl, hb⟩; have HB10 := Lib.hid (HB9.out.trans (hb.mono HB9.out.size)); clear hb))
  go_ret
  exact ⟨rfl, HB10.out⟩
end Go.Proofs.Ytiadkhdcnipfbaa
