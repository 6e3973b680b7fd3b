/- The reference's Ready and Copy of a channel, over the seat's program. -/
import Derived.Test.YtihpjfhibhpciaaChP
namespace Go.Proofs.Ytihpjfhibhpciaa
open Go.ChangeShapes Go.WideShapes Go.ChangeAt Go.RowKit Go.Joins

set_option maxRecDepth 100000 in
set_option maxHeartbeats 6400000 in
theorem rready_any (v : Value) (C : CH) (a : Option Addr) (n cap : Nat) (V : Nat → WV) (hd dir : Int) (w : World) (hc : ChanAt w v C) (h : WaitsAt w a n cap V) : Calls Try.prog 34 #[v, .int .i64 hd, .slice a n cap, .int .i64 dir] w fun e w' => (∃ y, e = .returned (.bool y) ∧ (y = true ↔ Rdy C V n hd dir)) ∧ Below w.heap.size w w' := by
  obtain ⟨cg, ck, cu, cz, m, f⟩ := C
  obtain ⟨ca, cc, rfl, hcr⟩ := hc
  have hn := hcr.1
  dsimp only at hn ⊢
  clear hcr
  cases cu with
  | true =>
    by_cases d1 : dir = 1
    · subst d1
      cases cz with
      | true =>
        have HB0 := Lib.hid ((Below.refl w.heap.size w).alloc (Nat.le_refl _) (.cells #[.int .i64 cg, .int .i64 ck, .bool true, .bool true, .slice ca m cc] 44))
        have HX := Lib.hid (Box.new (a := .int .i64 cg) (b := .int .i64 ck) (c := .bool true) (d := .bool true) (e := .slice ca m cc) w 44)
        (obtain ⟨x0, x1, x2, x3, x4, _⟩ := HX.out)
        have HF := Lib.hid (rfirst_any a n cap V 2 hd _ (h.below HB0.out))
        clear h
        by_cases ho : ∃ i, i < n ∧ Fit V 2 hd i
        · have HO := Lib.hid ho
          clear ho
          go_enter Try.func34, Try.ntmps34
          go_wp2_with (first | (go_at_call 74; go_loud ((with_reducible refine (other_any 1 (.inl rfl) _).mono ?_); rintro e u1 ⟨rfl, rfl⟩)) | (go_at_call 22; go_loud ((with_reducible refine HF.out.mono ?_); rintro e u2 ⟨⟨t, wh, ok, rfl, hf⟩, hb⟩; obtain rfl : ok = true := hf.ok_iff.2 HO.out; have HB9 := Lib.hid (HB0.out.trans (hb.mono HB0.out.size)); have hx := HX.out.below (by simp) hb; clear x0 x1 x2 x3 x4; obtain ⟨x0, x1, x2, x3, x4, _⟩ := hx; clear hf hb)))
          go_ret
          exact ⟨⟨true, rfl, fun _ => ⟨rfl, .inl rfl, .inr (.inl HO.out)⟩, fun _ => rfl⟩, HB9.out⟩
        · have HO := Lib.hid ho
          clear ho
          go_enter Try.func34, Try.ntmps34
          go_wp2_with (first | (go_at_call 74; go_loud ((with_reducible refine (other_any 1 (.inl rfl) _).mono ?_); rintro e u1 ⟨rfl, rfl⟩)) | (go_at_call 22; go_loud ((with_reducible refine HF.out.mono ?_); rintro e u2 ⟨⟨t, wh, ok, rfl, hf⟩, hb⟩; obtain rfl : ok = false := (by cases ok with | false => rfl | true => exact absurd (hf.ok_iff.1 rfl) HO.out); have HB9 := Lib.hid (HB0.out.trans (hb.mono HB0.out.size)); have hx := HX.out.below (by simp) hb; clear x0 x1 x2 x3 x4; obtain ⟨x0, x1, x2, x3, x4, _⟩ := hx; clear hf hb)))
          go_ret
          exact ⟨⟨true, rfl, fun _ => ⟨rfl, .inl rfl, .inl rfl⟩, fun _ => rfl⟩, HB9.out⟩
      | false =>
        have HB0 := Lib.hid ((Below.refl w.heap.size w).alloc (Nat.le_refl _) (.cells #[.int .i64 cg, .int .i64 ck, .bool true, .bool false, .slice ca m cc] 44))
        have HX := Lib.hid (Box.new (a := .int .i64 cg) (b := .int .i64 ck) (c := .bool true) (d := .bool false) (e := .slice ca m cc) w 44)
        (obtain ⟨x0, x1, x2, x3, x4, _⟩ := HX.out)
        have HF := Lib.hid (rfirst_any a n cap V 2 hd _ (h.below HB0.out))
        clear h
        by_cases ho : ∃ i, i < n ∧ Fit V 2 hd i
        · have HO := Lib.hid ho
          clear ho
          go_enter Try.func34, Try.ntmps34
          go_wp2_with (first | (go_at_call 74; go_loud ((with_reducible refine (other_any 1 (.inl rfl) _).mono ?_); rintro e u1 ⟨rfl, rfl⟩)) | (go_at_call 22; go_loud ((with_reducible refine HF.out.mono ?_); rintro e u2 ⟨⟨t, wh, ok, rfl, hf⟩, hb⟩; obtain rfl : ok = true := hf.ok_iff.2 HO.out; have HB9 := Lib.hid (HB0.out.trans (hb.mono HB0.out.size)); have hx := HX.out.below (by simp) hb; clear x0 x1 x2 x3 x4; obtain ⟨x0, x1, x2, x3, x4, _⟩ := hx; clear hf hb)))
          go_ret
          exact ⟨⟨true, rfl, fun _ => ⟨rfl, .inl rfl, .inr (.inl HO.out)⟩, fun _ => rfl⟩, HB9.out⟩
        · have HO := Lib.hid ho
          clear ho
          by_cases hr : (m : Int) < ck
          · have hr1 := hr
            go_enter Try.func34, Try.ntmps34
            go_wp2_with (first | (go_at_call 74; go_loud ((with_reducible refine (other_any 1 (.inl rfl) _).mono ?_); rintro e u1 ⟨rfl, rfl⟩)) | (go_at_call 22; go_loud ((with_reducible refine HF.out.mono ?_); rintro e u2 ⟨⟨t, wh, ok, rfl, hf⟩, hb⟩; obtain rfl : ok = false := (by cases ok with | false => rfl | true => exact absurd (hf.ok_iff.1 rfl) HO.out); have HB9 := Lib.hid (HB0.out.trans (hb.mono HB0.out.size)); have hx := HX.out.below (by simp) hb; clear x0 x1 x2 x3 x4; obtain ⟨x0, x1, x2, x3, x4, _⟩ := hx; clear hf hb)))
            go_ret
            exact ⟨⟨true, rfl, fun _ => ⟨rfl, .inl rfl, .inr (.inr (.inl ⟨rfl, hr⟩))⟩, fun _ => rfl⟩, HB9.out⟩
          · have hr1 : ck ≤ (m : Int) := by omega
            go_enter Try.func34, Try.ntmps34
            go_wp2_with (first | (go_at_call 74; go_loud ((with_reducible refine (other_any 1 (.inl rfl) _).mono ?_); rintro e u1 ⟨rfl, rfl⟩)) | (go_at_call 22; go_loud ((with_reducible refine HF.out.mono ?_); rintro e u2 ⟨⟨t, wh, ok, rfl, hf⟩, hb⟩; obtain rfl : ok = false := (by cases ok with | false => rfl | true => exact absurd (hf.ok_iff.1 rfl) HO.out); have HB9 := Lib.hid (HB0.out.trans (hb.mono HB0.out.size)); have hx := HX.out.below (by simp) hb; clear x0 x1 x2 x3 x4; obtain ⟨x0, x1, x2, x3, x4, _⟩ := hx; clear hf hb)))
            go_ret
            exact ⟨⟨false, congrArg (fun b => Ending.returned (Value.bool b)) (decide_eq_false (Int.not_lt.2 hr1)), fun h => absurd h (by decide), fun h => by
              rcases h.2.2 with h1 | h1 | h1 | h1
              · exact absurd h1 Bool.false_ne_true
              · exact absurd h1 HO.out
              · exact absurd h1.2 (Int.not_lt.2 hr1)
              · exact absurd h1.1 (by decide)⟩, HB9.out⟩
    · by_cases d2 : dir = 2
      · subst d2
        clear d1
        cases cz with
        | true =>
          have HB0 := Lib.hid ((Below.refl w.heap.size w).alloc (Nat.le_refl _) (.cells #[.int .i64 cg, .int .i64 ck, .bool true, .bool true, .slice ca m cc] 44))
          have HX := Lib.hid (Box.new (a := .int .i64 cg) (b := .int .i64 ck) (c := .bool true) (d := .bool true) (e := .slice ca m cc) w 44)
          (obtain ⟨x0, x1, x2, x3, x4, _⟩ := HX.out)
          have HF := Lib.hid (rfirst_any a n cap V 1 hd _ (h.below HB0.out))
          clear h
          by_cases ho : ∃ i, i < n ∧ Fit V 1 hd i
          · have HO := Lib.hid ho
            clear ho
            go_enter Try.func34, Try.ntmps34
            go_wp2_with (first | (go_at_call 74; go_loud ((with_reducible refine (other_any 2 (.inr rfl) _).mono ?_); rintro e u1 ⟨rfl, rfl⟩)) | (go_at_call 22; go_loud ((with_reducible refine HF.out.mono ?_); rintro e u2 ⟨⟨t, wh, ok, rfl, hf⟩, hb⟩; obtain rfl : ok = true := hf.ok_iff.2 HO.out; have HB9 := Lib.hid (HB0.out.trans (hb.mono HB0.out.size)); have hx := HX.out.below (by simp) hb; clear x0 x1 x2 x3 x4; obtain ⟨x0, x1, x2, x3, x4, _⟩ := hx; clear hf hb)))
            go_ret
            exact ⟨⟨true, rfl, fun _ => ⟨rfl, .inr rfl, .inr (.inl HO.out)⟩, fun _ => rfl⟩, HB9.out⟩
          · have HO := Lib.hid ho
            clear ho
            go_enter Try.func34, Try.ntmps34
            go_wp2_with (first | (go_at_call 74; go_loud ((with_reducible refine (other_any 2 (.inr rfl) _).mono ?_); rintro e u1 ⟨rfl, rfl⟩)) | (go_at_call 22; go_loud ((with_reducible refine HF.out.mono ?_); rintro e u2 ⟨⟨t, wh, ok, rfl, hf⟩, hb⟩; obtain rfl : ok = false := (by cases ok with | false => rfl | true => exact absurd (hf.ok_iff.1 rfl) HO.out); have HB9 := Lib.hid (HB0.out.trans (hb.mono HB0.out.size)); have hx := HX.out.below (by simp) hb; clear x0 x1 x2 x3 x4; obtain ⟨x0, x1, x2, x3, x4, _⟩ := hx; clear hf hb)))
            go_ret
            exact ⟨⟨true, rfl, fun _ => ⟨rfl, .inr rfl, .inl rfl⟩, fun _ => rfl⟩, HB9.out⟩
        | false =>
          have HB0 := Lib.hid ((Below.refl w.heap.size w).alloc (Nat.le_refl _) (.cells #[.int .i64 cg, .int .i64 ck, .bool true, .bool false, .slice ca m cc] 44))
          have HX := Lib.hid (Box.new (a := .int .i64 cg) (b := .int .i64 ck) (c := .bool true) (d := .bool false) (e := .slice ca m cc) w 44)
          (obtain ⟨x0, x1, x2, x3, x4, _⟩ := HX.out)
          have HF := Lib.hid (rfirst_any a n cap V 1 hd _ (h.below HB0.out))
          clear h
          by_cases ho : ∃ i, i < n ∧ Fit V 1 hd i
          · have HO := Lib.hid ho
            clear ho
            go_enter Try.func34, Try.ntmps34
            go_wp2_with (first | (go_at_call 74; go_loud ((with_reducible refine (other_any 2 (.inr rfl) _).mono ?_); rintro e u1 ⟨rfl, rfl⟩)) | (go_at_call 22; go_loud ((with_reducible refine HF.out.mono ?_); rintro e u2 ⟨⟨t, wh, ok, rfl, hf⟩, hb⟩; obtain rfl : ok = true := hf.ok_iff.2 HO.out; have HB9 := Lib.hid (HB0.out.trans (hb.mono HB0.out.size)); have hx := HX.out.below (by simp) hb; clear x0 x1 x2 x3 x4; obtain ⟨x0, x1, x2, x3, x4, _⟩ := hx; clear hf hb)))
            go_ret
            exact ⟨⟨true, rfl, fun _ => ⟨rfl, .inr rfl, .inr (.inl HO.out)⟩, fun _ => rfl⟩, HB9.out⟩
          · have HO := Lib.hid ho
            clear ho
            by_cases hr : 0 < m
            · have hr1 : (0 : Int) < (m : Int) := by omega
              go_enter Try.func34, Try.ntmps34
              go_wp2_with (first | (go_at_call 74; go_loud ((with_reducible refine (other_any 2 (.inr rfl) _).mono ?_); rintro e u1 ⟨rfl, rfl⟩)) | (go_at_call 22; go_loud ((with_reducible refine HF.out.mono ?_); rintro e u2 ⟨⟨t, wh, ok, rfl, hf⟩, hb⟩; obtain rfl : ok = false := (by cases ok with | false => rfl | true => exact absurd (hf.ok_iff.1 rfl) HO.out); have HB9 := Lib.hid (HB0.out.trans (hb.mono HB0.out.size)); have hx := HX.out.below (by simp) hb; clear x0 x1 x2 x3 x4; obtain ⟨x0, x1, x2, x3, x4, _⟩ := hx; clear hf hb)))
              go_ret
              exact ⟨⟨true, rfl, fun _ => ⟨rfl, .inr rfl, .inr (.inr (.inr ⟨rfl, hr⟩))⟩, fun _ => rfl⟩, HB9.out⟩
            · have hr1 : (m : Int) ≤ 0 := by omega
              go_enter Try.func34, Try.ntmps34
              go_wp2_with (first | (go_at_call 74; go_loud ((with_reducible refine (other_any 2 (.inr rfl) _).mono ?_); rintro e u1 ⟨rfl, rfl⟩)) | (go_at_call 22; go_loud ((with_reducible refine HF.out.mono ?_); rintro e u2 ⟨⟨t, wh, ok, rfl, hf⟩, hb⟩; obtain rfl : ok = false := (by cases ok with | false => rfl | true => exact absurd (hf.ok_iff.1 rfl) HO.out); have HB9 := Lib.hid (HB0.out.trans (hb.mono HB0.out.size)); have hx := HX.out.below (by simp) hb; clear x0 x1 x2 x3 x4; obtain ⟨x0, x1, x2, x3, x4, _⟩ := hx; clear hf hb)))
              go_ret
              exact ⟨⟨false, rfl, fun h => absurd h (by decide), fun h => by
                rcases h.2.2 with h1 | h1 | h1 | h1
                · exact absurd h1 Bool.false_ne_true
                · exact absurd h1 HO.out
                · exact absurd h1.1 (by decide)
                · exact absurd h1.2 hr⟩, HB9.out⟩
      · have b1 : (dir != 1) = true := by simpa using d1
        have b2 : (dir != 2) = true := by simpa using d2
        clear h
        have HB0 := Lib.hid ((Below.refl w.heap.size w).alloc (Nat.le_refl _) (.cells #[.int .i64 cg, .int .i64 ck, .bool true, .bool cz, .slice ca m cc] 44))
        have HX := Lib.hid (Box.new (a := .int .i64 cg) (b := .int .i64 ck) (c := .bool true) (d := .bool cz) (e := .slice ca m cc) w 44)
        (obtain ⟨x0, x1, x2, x3, x4, _⟩ := HX.out)
        go_enter Try.func34, Try.ntmps34
        go_wp2
        go_ret
        exact ⟨⟨false, rfl, fun h => absurd h (by decide), fun h => h.2.1.elim (fun e => absurd e d1) (fun e => absurd e d2)⟩, HB0.out⟩
  | false =>
    clear h
    have HB0 := Lib.hid ((Below.refl w.heap.size w).alloc (Nat.le_refl _) (.cells #[.int .i64 cg, .int .i64 ck, .bool false, .bool cz, .slice ca m cc] 44))
    have HX := Lib.hid (Box.new (a := .int .i64 cg) (b := .int .i64 ck) (c := .bool false) (d := .bool cz) (e := .slice ca m cc) w 44)
    (obtain ⟨x0, x1, x2, x3, x4, _⟩ := HX.out)
    go_enter Try.func34, Try.ntmps34
    go_wp2
    go_ret
    exact ⟨⟨false, rfl, fun h => absurd h (by decide), fun h => absurd h.1 Bool.false_ne_true⟩, HB0.out⟩
end Go.Proofs.Ytihpjfhibhpciaa
