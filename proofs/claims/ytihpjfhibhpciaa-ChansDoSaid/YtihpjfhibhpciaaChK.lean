/- Idle, of a channel that is closed, empty, and for which nobody waits; what becomes of a closed channel, over the seat's program. -/
import Derived.Test.YtihpjfhibhpciaaChI
namespace Go.Proofs.Ytihpjfhibhpciaa
open Go.ChangeShapes Go.WideShapes Go.ChangeAt Go.RowKit Go.Joins

theorem OnIs.nobody {V : Nat → WV} {hd : Int} {n m : Nat} {f : Nat → Int} (h : OnIs V hd n m f) (hno : ∀ i, i < n → ¬ Wts V hd i) : m = 0 := by
  rcases Nat.eq_zero_or_pos m with e | e
  · exact e
  · obtain ⟨i, hi, _, hw⟩ := h.are 0 e
    exact absurd hw (hno i hi)
theorem Fit.wts {V : Nat → WV} {d hd : Int} {i : Nat} (h : Fit V d hd i) : Wts V hd i := ⟨h.1, h.2.elim fun j hj => ⟨j, hj.1, hj.2.2⟩⟩
theorem FirstIs.isFit {V : Nat → WV} {n t wh : Nat} {d hd : Int} (h : FirstIs V n d hd t wh true) : Fit V d hd t := by
  rcases h with ⟨h, _⟩ | ⟨_, i, _, e, hon, ⟨j, hj, _, hh, _⟩, _⟩
  · cases h
  · obtain rfl : t = i := by omega
    exact ⟨hon, j, hj, hh⟩
theorem OnIs.left {V : Nat → WV} {hd : Int} {n m : Nat} {f : Nat → Int} (h : OnIs V hd n m f) : ∀ i, i < n → ¬ Wts (zeroAt V f m) hd i := fun i hi hw => by
  by_cases e : ∃ j, j < m ∧ f j = (i : Int)
  · have : zeroAt V f m i = WV.zero := if_pos e
    have h1 := hw.1
    rw [this] at h1
    exact absurd h1 (by decide)
  · have : zeroAt V f m i = V i := if_neg e
    exact e (h.all i hi (by
      have h1 := hw
      unfold Wts at h1
      rw [this] at h1
      exact h1))
theorem closed_send {C C' : CH} {V V' : Nat → WV} {n m : Nat} {hd x code rv : Int} {T : Nat → Nat → Int} (hu : C.used = true) (hcl : C.closed = true) (h : DoIs C V n hd 1 x C' V' code rv m T) : code = 9 := by
  have hr : Rdy C V n hd 1 := ⟨hu, .inl rfl, .inl hcl⟩
  cases h with
  | wait T h => exact absurd hr h
  | shut T => rfl
  | meet t wh _ _ h => rw [hcl] at h; cases h
  | push T _ _ h => rw [hcl] at h; cases h
  | swap t wh _ h => exact absurd h (by decide)
  | pop T _ h => exact absurd h (by decide)
  | none T => rfl
theorem closed_recv {C C' : CH} {V V' : Nat → WV} {n m : Nat} {hd x code rv : Int} {T : Nat → Nat → Int} (hu : C.used = true) (hcl : C.closed = true) (hno : ∀ i, i < n → ¬ Wts V hd i) (h0 : 0 < C.n) (h : DoIs C V n hd 2 x C' V' code rv m T) : C' = ⟨C.gen, C.cap, C.used, C.closed, C.n - 1, fun i => C.f (i + 1)⟩ ∧ V' = V ∧ code = 0 ∧ rv = C.f 0 ∧ m = 0 := by
  have hr : Rdy C V n hd 2 := ⟨hu, .inr rfl, .inl hcl⟩
  cases h with
  | wait T h => exact absurd hr h
  | shut T _ h => exact absurd h (by decide)
  | meet t wh _ h => exact absurd h (by decide)
  | push T _ h => exact absurd h (by decide)
  | swap t wh _ _ ht _ h => exact absurd h.isFit.wts (hno t ht)
  | pop T => exact ⟨rfl, rfl, rfl, rfl, rfl⟩
  | none T _ _ _ h => omega
theorem closed_none {C C' : CH} {V V' : Nat → WV} {n m : Nat} {hd x code rv : Int} {T : Nat → Nat → Int} (hu : C.used = true) (hcl : C.closed = true) (hno : ∀ i, i < n → ¬ Wts V hd i) (h0 : C.n = 0) (h : DoIs C V n hd 2 x C' V' code rv m T) : code = 9 := by
  have hr : Rdy C V n hd 2 := ⟨hu, .inr rfl, .inl hcl⟩
  cases h with
  | wait T h => exact absurd hr h
  | shut T _ h => exact absurd h (by decide)
  | meet t wh _ h => exact absurd h (by decide)
  | push T _ h => exact absurd h (by decide)
  | swap t wh _ _ ht _ h => exact absurd h.isFit.wts (hno t ht)
  | pop T _ _ _ h => omega
  | none T => rfl
set_option maxRecDepth 100000 in
set_option maxHeartbeats 6400000 in
theorem idle_yes (gen cap' : Int) (ca : Option Addr) (cc : Nat) (a : Option Addr) (n cap : Nat) (V : Nat → WV) (hd : Int) (us : Bool) (hus : us = true) (w : World) (h : WaitsAt w a n cap V) (hno : ∀ i, i < n → ¬ Wts V hd i) :
    Calls Try.prog 40 #[.agg #[.int .i64 gen, .int .i64 cap', .bool us, .bool true, .slice ca 0 cc], .int .i64 hd, .slice a n cap] w fun e w' => e = .returned (.bool true) ∧ Below w.heap.size w w' := by
  subst hus
  have HB0 := Lib.hid ((Below.refl w.heap.size w).alloc (Nat.le_refl _) (.cells #[.int .i64 gen, .int .i64 cap', .bool true, .bool true, .slice ca 0 cc] 44))
  have HS := Lib.hid (h.below HB0.out)
  have HNO := Lib.hid hno
  clear h hno
  go_enter Try.func40, Try.ntmps40
  go_wp2_with (go_at_call 24; go_loud ((with_reducible refine (on_any a n cap V hd _ HS.out).mono ?_); rintro e w3 ⟨oa, m, oc, f, rfl, hro, hon, hb⟩; obtain rfl := hon.nobody HNO.out; have HZ := Lib.hid (HB0.out.trans (hb.mono HB0.out.size)); clear hro hon hb))
  go_ret
  exact ⟨rfl, HZ.out⟩
end Go.Proofs.Ytihpjfhibhpciaa
