/- The contract of On of calls that wait, over the seat's program. -/
import Derived.Test.YtihpjfhibhpciaaSoF
import Derived.Test.YtihpjfhibhpciaaApp
namespace Go.Proofs.Ytihpjfhibhpciaa
open Go.ChangeShapes Go.WideShapes Go.ChangeAt Go.RowKit Go.Joins

theorem Try.info_int : (Try.prog.info? 3).map (fun i => (i.zero, i.size, i.bytes)) = some (some (.int .i64 0), 1, 8) := by kernel_rfl
theorem cmpI_neg (x y : Int) : cmpI x y < 0 ↔ x < y := by
  unfold cmpI
  split
  · simp; assumption
  · split <;> simp <;> omega
set_option maxRecDepth 100000 in
set_option maxHeartbeats 3200000 in
theorem insert_nil (p : Nat) (w : World) : Calls Try.prog 111 #[.slice none 0 0, .int .i64 0, .int .i64 0, .func (.func 65) #[] #[.pointer (some ⟨p, 0, none⟩)]] w fun e w' => e = .returned (.tuple #[]) ∧ SomeDraws w w' := by
  go_enter Try.func111, Try.ntmps111
  go_wp2
  refine wp_loop_rounds 1 ?_
  rw [rounds_succ]
  go_wp2
  go_end0
  exact ⟨rfl, 0, rfl⟩
set_option maxRecDepth 100000 in
set_option maxHeartbeats 3200000 in
theorem stable_nil (p : Nat) (w : World) : Calls Try.prog 96 #[.slice none 0 0, .int .i64 0, .func (.func 65) #[] #[.pointer (some ⟨p, 0, none⟩)]] w fun e w' => e = .returned (.tuple #[]) ∧ SomeDraws w w' := by
  go_enter Try.func96, Try.ntmps96
  go_wp2
  refine wp_loop_rounds 1 ?_
  rw [rounds_succ]
  go_wp2_with (go_at_call 111; (with_reducible refine (insert_nil _ _).mono ?_); rintro e w1 ⟨rfl, ⟨k, rfl⟩⟩)
  refine wp_loop_rounds 1 ?_
  rw [rounds_succ]
  go_wp2
  go_end0
  exact ⟨rfl, k, rfl⟩
set_option maxRecDepth 100000 in
set_option maxHeartbeats 3200000 in
theorem sort_nil (p : Nat) (w : World) : Calls Try.prog 64 #[.slice none 0 0, .func (.func 65) #[] #[.pointer (some ⟨p, 0, none⟩)]] w fun e w' => e = .returned (.tuple #[]) ∧ SomeDraws w w' := by
  go_enter Try.func64, Try.ntmps64
  go_wp2_with (go_at_call 96; (with_reducible refine (stable_nil _ _).mono ?_); rintro e w1 ⟨rfl, ⟨k, rfl⟩⟩)
  go_end0
  exact ⟨rfl, k, rfl⟩
set_option maxRecDepth 100000 in
set_option maxHeartbeats 3200000 in
theorem sort_any (p g n cap : Nat) (f : Nat → Int) (K : Int → Int) (G : Int → Prop) (w0 w : World) (s : SortAt w0 w g n cap f) (hL : LessOk p K G w0) (hG : ∀ k, k < n → G (f k)) (hf : ∀ p q, p < q → q < n → f p < f q) :
    Calls Try.prog 64 #[.slice (some ⟨g, 0, none⟩) n cap, .func (.func 65) #[] #[.pointer (some ⟨p, 0, none⟩)]] w fun e w' => ∃ h, SortRet w0 g n cap h e w' ∧ SameIn f h 0 n ∧ SortedK K h 0 n := by
  have hn : n ≤ 17592186044415 := by have := s.1.1; omega
  have HC := Lib.hid (stable_any p g n cap f K G w0 w s hL hG hf)
  clear s hL hG hf
  go_enter Try.func64, Try.ntmps64
  go_wp2_with (go_at_call 96; (with_reducible refine HC.out.mono ?_); rintro e w1 ⟨u, ⟨rfl, hr⟩, hu⟩; have HR := Lib.hid hr; have HU := Lib.hid hu; clear hr hu)
  go_end0
  exact ⟨u, ⟨rfl, HR.out⟩, HU.out⟩

/-- A call that waits for a channel. -/
def Wts (V : Nat → WV) (hd : Int) (i : Nat) : Prop := (V i).on = true ∧ HasH (V i).c (V i).m hd
/-- The threads that wait for a channel, of the first 'k', as they are found. -/
structure Found (V : Nat → WV) (hd : Int) (k m : Nat) (f : Nat → Int) : Prop where
  are : ∀ j, j < m → ∃ i : Nat, i < k ∧ f j = (i : Int) ∧ Wts V hd i
  all : ∀ i : Nat, i < k → Wts V hd i → ∃ j, j < m ∧ f j = (i : Int)
  up : ∀ p q, p < q → q < m → f p < f q
  few : m ≤ k
/-- The threads that wait for a channel, by rising tickets. -/
structure OnIs (V : Nat → WV) (hd : Int) (n m : Nat) (f : Nat → Int) : Prop where
  are : ∀ j, j < m → ∃ i : Nat, i < n ∧ f j = (i : Int) ∧ Wts V hd i
  all : ∀ i : Nat, i < n → Wts V hd i → ∃ j, j < m ∧ f j = (i : Int)
  up : SortedK (fun x => (V x.toNat).tk) f 0 m
  few : m ≤ n
section
variable {V : Nat → WV} {hd : Int} {k m : Nat} {f h : Nat → Int}
theorem Found.zero : Found V hd 0 0 f := ⟨fun j hj => absurd hj (by omega), fun i hi => absurd hi (by omega), fun p q _ h2 => absurd h2 (by omega), Nat.le_refl _⟩
theorem Found.skip (x : Found V hd k m f) (hn : ¬ Wts V hd k) : Found V hd (k + 1) m f := by
  refine ⟨fun j hj => ?_, fun i hi hw => ?_, x.up, by have := x.few; omega⟩
  · obtain ⟨i, h1, h2⟩ := x.are j hj
    exact ⟨i, by omega, h2⟩
  · by_cases c : i = k
    · exact absurd (c ▸ hw) hn
    · exact x.all i (by omega) hw
theorem Found.take (x : Found V hd k m f) (hw : Wts V hd k) : Found V hd (k + 1) (m + 1) (updI f m k) := by
  have e0 : updI f m k m = (k : Int) := by unfold updI; rw [if_pos rfl]
  have e1 : ∀ j, j ≠ m → updI f m k j = f j := fun j hj => by unfold updI; rw [if_neg hj]
  refine ⟨fun j hj => ?_, fun i hi hw' => ?_, fun p q h1 h2 => ?_, by have := x.few; omega⟩
  · by_cases c : j = m
    · exact ⟨k, by omega, by rw [c, e0], hw⟩
    · obtain ⟨i, h1, h2, h3⟩ := x.are j (by omega)
      exact ⟨i, by omega, by rw [e1 j c, h2], h3⟩
  · by_cases c : i = k
    · exact ⟨m, by omega, by rw [e0, c]⟩
    · obtain ⟨j, h1, h2⟩ := x.all i (by omega) hw'
      exact ⟨j, by omega, by rw [e1 j (by omega), h2]⟩
  · by_cases c : q = m
    · obtain ⟨i, h1', h2', _⟩ := x.are p (by omega)
      rw [c, e0, e1 p (by omega), h2']
      omega
    · rw [e1 p (by omega), e1 q c]
      exact x.up p q h1 (by omega)
theorem Found.sorted (x : Found V hd k m f) (y : SameIn f h 0 m) (z : SortedK (fun x => (V x.toNat).tk) h 0 m) : OnIs V hd k m h := by
  refine ⟨fun j hj => ?_, fun i hi hw => ?_, z, x.few⟩
  · obtain ⟨j', _, h2, e⟩ := y.1 j (Nat.zero_le _) hj
    rw [e]
    exact x.are j' h2
  · obtain ⟨j, h1, h2⟩ := x.all i hi hw
    obtain ⟨j', _, h3, e⟩ := y.2.1 j (Nat.zero_le _) h1
    exact ⟨j', h3, by rw [← e, h2]⟩
theorem Found.none (x : Found V hd k 0 f) : OnIs V hd k 0 f := ⟨x.are, x.all, fun p q _ _ h3 => absurd h3 (by omega), x.few⟩
end
/-- What is returned is the threads that wait for a channel. -/
def RetOn (V : Nat → WV) (hd : Int) (n : Nat) (w : World) (e : Ending) (w' : World) : Prop := ∃ a m cap f, e = .returned (.slice a m cap) ∧ RowAt .i64 w' a m cap f ∧ OnIs V hd n m f ∧ Below w.heap.size w w'
set_option maxRecDepth 100000 in
set_option maxHeartbeats 3200000 in
theorem on_any (a : Option Addr) (n cap : Nat) (V : Nat → WV) (hd : Int) (w : World) (h : WaitsAt w a n cap V) : Calls Try.prog 24 #[.slice a n cap, .int .i64 hd] w (RetOn V hd n w) := by
  have hn := h.1
  have HB0 := Lib.hid (show Below w.heap.size w ((w.alloc (.cells #[.slice a n cap] 22)).alloc (.cells #[.int .i64 hd] 3)) from ((Below.refl _ _).alloc (Nat.le_refl _) _).alloc (by simp) _)
  have HS := Lib.hid (h.below HB0.out)
  have HP := Lib.hid (show SliceIn ((w.alloc (.cells #[.slice a n cap] 22)).alloc (.cells #[.int .i64 hd] 3)) w.heap.size a n cap from ⟨by simp; omega, by rw [World.cell?_alloc_past _ _ _ (by simp), cell_of_row _ _ _ _ 22 (0, 0) (heap_alloc_new w _)]; rfl⟩)
  have HQ := Lib.hid (show NumAt ((w.alloc (.cells #[.slice a n cap] 22)).alloc (.cells #[.int .i64 hd] 3)) (w.heap.size + 1) hd from ⟨by simp, by
    have := heap_alloc_new (w.alloc (.cells #[.slice a n cap] 22)) (.cells #[.int .i64 hd] 3)
    rw [World.size_alloc] at this
    rw [cell_of_row _ _ _ _ 3 (0, 0) this]; rfl⟩)
  clear h
  go_enter Try.func24, Try.ntmps24
  go_upto_region 2 with (fail)
  have hsz : ((w.alloc (.cells #[.slice a n cap] 22)).alloc (.cells #[.int .i64 hd] 3)).heap.size = w.heap.size + 2 := by simp
  revert HB0 HS HP HQ hsz
  generalize (w.alloc (.cells #[.slice a n cap] 22)).alloc (.cells #[.int .i64 hd] 3) = u
  intro HB0 HS HP HQ hsz
  have c0 := HP.out.2
  have HL := Lib.hid (show LessOk w.heap.size (fun x => (V x.toNat).tk) (fun x => ∃ i : Nat, i < n ∧ x = (i : Int)) u from fun x y W gx gy hb => by
    obtain ⟨i, hi, rfl⟩ := gx
    obtain ⟨j, hj, rfl⟩ := gy
    refine (less_any a n cap V i j w.heap.size W (HS.out.below hb) (HP.out.below hb) hi hj).mono fun e w' ⟨he, hb'⟩ => ⟨⟨_, he, ?_⟩, hb'⟩
    show cmpI (V i).tk (V j).tk < 0 ↔ (V ((i : Int)).toNat).tk < (V ((j : Int)).toNat).tk
    rw [cmpI_neg, Int.toNat_natCast, Int.toNat_natCast])
  go_wp2
  go_loopw [5, 10] (fun tv iv wr => ∃ (k m : Nat) (f : Nat → Int), k ≤ n ∧ iv = .int .i64 k ∧ wr.ownsRow u.heap.size 3 1 tv m (rowL .i64 f m) ∧ (m = 0 → tv = .slice none 0 0) ∧ Found V hd k m f ∧ Below u.heap.size u wr) (fun _ iv _ => n - (intOf iv).toNat)
  case atStart => exact ⟨0, 0, fun _ => 0, Nat.zero_le _, rfl, World.ownsRow_nil _ _ _ _, fun _ => rfl, Found.zero, Below.refl _ _⟩
  case round =>
    obtain ⟨k, m, f, hk, rfl, ho, hnil, hf, hb⟩ := hrel
    obtain ⟨ta, tc, rfl⟩ := own_form ho
    have HO := Lib.hid ho
    have HN := Lib.hid hnil
    have HF := Lib.hid hf
    have HB := Lib.hid hb
    have HR := Lib.hid (HS.out.below hb)
    have hmk := hf.few
    have c1 := (HP.out.below hb).2
    clear ho hnil hf hb
    by_cases hlt : k < n
    · obtain ⟨b, off, rfl, zb, hc⟩ := HR.out.get hlt
      obtain ⟨ca, cc, x0, x1, x2, x3, hr⟩ := hc k hlt
      have i0 : (0 : Int) ≤ (k : Int) := by omega
      have i1 : (k : Int) < (n : Int) := by omega
      have HA := Lib.hid ((Below.refl wr.heap.size wr).alloc (Nat.le_refl _) (.cells #[.bool (V k).on, .int .i64 (V k).tk, .int .i64 (V k).sq, .slice ca (V k).m cc] 25))
      have HI := Lib.hid (contains_any ca (V k).m cc (V k).c hd (w.heap.size + 1) (wr.alloc (.cells #[.bool (V k).on, .int .i64 (V k).tk, .int .i64 (V k).sq, .slice ca (V k).m cc] 25)) (hr.below HA.out) ((HQ.out.below HB.out).below HA.out))
      clear hc hr
      by_cases hon : (V k).on = true
      · by_cases hh : HasH (V k).c (V k).m hd
        · have HW := Lib.hid (show Wts V hd k from ⟨hon, hh⟩)
          rw [hon] at x0 HA HI
          go_wp2_with (first
            | (go_at_call 62; go_loud ((with_reducible refine HI.out.mono ?_); rintro e w1 ⟨⟨y, rfl, hy⟩, hb1⟩; obtain rfl : y = true := hy.2 hh; have HB1 := Lib.hid (HB.out.trans ((HA.out.trans (hb1.mono HA.out.size)).mono HB.out.size)); have HO1 := Lib.hid (own_below HO.out (HA.out.trans (hb1.mono HA.out.size))); clear hy hb1 x0 x1 x2 x3))
            | (at_builtin; go_loud (refine app_one u.heap.size 3 36 rfl _ _ rfl Try.underlying36 Try.info_int (.slice ta m tc) m (updI f m k) (k : Int) (by unfold updI; rw [if_pos rfl]) rfl (by rw [rowL_same (g := f) (fun i hi => by unfold updI; rw [if_neg (by omega)])]; exact HO1.out) w1.heap.size rfl rfl (by omega) HB1.out.size ?_; intro gg cap' w2 hown2 hgrow hat hlt'; have HO2 := Lib.hid hown2; have HB2 := Lib.hid (HB1.out.grown hgrow HB1.out.size (fun q hq => (HO1.out.lt q hq).1)); clear hown2 hgrow hat hlt')))
          go_roundw
          case rel => exact ⟨k + 1, m + 1, updI f m k, by omega, by go_num, HO2.out, fun h => absurd h (by omega), HF.out.take HW.out, HB2.out⟩
          case measure => simp [intOf]; omega
        · have HW := Lib.hid (show ¬ Wts V hd k from fun h => hh h.2)
          rw [hon] at x0 HA HI
          go_wp2_with (go_at_call 62; go_loud ((with_reducible refine HI.out.mono ?_); rintro e w1 ⟨⟨y, rfl, hy⟩, hb1⟩; obtain rfl : y = false := (by cases y with | false => rfl | true => exact absurd (hy.1 rfl) hh); have HB1 := Lib.hid (HB.out.trans ((HA.out.trans (hb1.mono HA.out.size)).mono HB.out.size)); have HO1 := Lib.hid (own_below HO.out (HA.out.trans (hb1.mono HA.out.size))); clear hy hb1 x0 x1 x2 x3))
          go_roundw
          case rel => exact ⟨k + 1, m, f, by omega, by go_num, HO1.out, HN.out, HF.out.skip HW.out, HB1.out⟩
          case measure => simp [intOf]; omega
      · have HW := Lib.hid (show ¬ Wts V hd k from fun h => hon h.1)
        have hoff : (V k).on = false := by simpa using hon
        rw [hoff] at x0 HA
        clear hon HI
        go_wp2
        go_roundw
        case rel => exact ⟨k + 1, m, f, by omega, by go_num, own_below HO.out HA.out, HN.out, HF.out.skip HW.out, HB.out.trans (HA.out.mono HB.out.size)⟩
        case measure => simp [intOf]; omega
    · obtain rfl : k = n := by omega
      clear hlt c0 c1
      by_cases hm : m = 0
      · subst hm
        have e := HN.out rfl
        simp only [Value.slice.injEq, true_and] at e
        obtain ⟨rfl, rfl⟩ := e
        clear HN HL HR HO HP HQ HS
        go_wp2_with (go_at_call 64; (with_reducible refine (sort_nil _ _).mono ?_); rintro e w1 ⟨rfl, ⟨q, rfl⟩⟩)
        go_ret
        exact ⟨none, 0, 0, f, rfl, ⟨by omega, fun _ => ⟨rfl, rfl⟩, fun h => absurd h (by omega)⟩, HF.out.none, HB0.out.trans ((below_drewN HB.out q).mono HB0.out.size)⟩
      · obtain ⟨a', c', hv, hown⟩ := OwnAt.of (by omega) HO.out
        obtain ⟨gb, rfl, _, _⟩ := hown.get (k := 0) (by omega)
        simp only [Value.slice.injEq, true_and] at hv
        obtain ⟨rfl, rfl⟩ := hv
        have HC := Lib.hid (sort_any w.heap.size gb m tc f (fun x => (V x.toNat).tk) (fun x => ∃ i : Nat, i < k ∧ x = (i : Int)) u wr ⟨hown, HB.out⟩ HL.out (fun j hj => (HF.out.are j hj).elim fun i hi => ⟨i, hi.1, hi.2.1⟩) HF.out.up)
        clear HN HL HR HO HP HQ HS hown
        go_wp2_with (go_at_call 64; (with_reducible refine HC.out.mono ?_); rintro e w1 ⟨h2, ⟨rfl, hs2⟩, hsame, hsort⟩; have HR2 := Lib.hid hs2; have HF2 := Lib.hid (HF.out.sorted hsame hsort); clear hs2 hsame hsort)
        go_ret
        exact ⟨_, m, tc, h2, rfl, HR2.out.own.row, HF2.out, HB0.out.trans (HR2.out.bel.mono HB0.out.size)⟩
end Go.Proofs.Ytihpjfhibhpciaa
