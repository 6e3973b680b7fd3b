/- The walk of ChansAfter over the seat's program. -/
import Derived.Test.YtihpjfhibhpciaaChK
import Derived.Test.YtihpjfhibhpciaaWtW
namespace Go.Proofs.Ytihpjfhibhpciaa
open Go.ChangeShapes Go.WideShapes Go.ChangeAt Go.RowKit Go.Joins

theorem recv_step {C C2 : CH} {V' V2 : Nat → WV} {n m2 k : Nat} {hd code rv : Int} {T2 : Nat → Nat → Int} (hu : C.used = true) (hno : ∀ i, i < n → ¬ Wts V' hd i) (hk : k < C.n) (hi : DoIs ⟨C.gen, C.cap, C.used, true, C.n - k, fun i => C.f (i + k)⟩ V' n hd 2 0 C2 V2 code rv m2 T2) :
    C2 = ⟨C.gen, C.cap, C.used, true, C.n - (k + 1), fun i => C.f (i + (k + 1))⟩ ∧ V2 = V' ∧ code = 0 ∧ rv = C.f k ∧ m2 = 0 := by
  obtain ⟨h1, h2, h3, h4, h5⟩ := closed_recv (C := ⟨C.gen, C.cap, C.used, true, C.n - k, fun i => C.f (i + k)⟩) hu rfl hno (show 0 < C.n - k by omega) hi
  refine ⟨h1.trans ?_, h2, h3, h4.trans (by simp), h5⟩
  have e1 : C.n - k - 1 = C.n - (k + 1) := by omega
  have e2 : (fun i => C.f (i + 1 + k)) = fun i => C.f (i + (k + 1)) := funext fun i => by rw [show i + 1 + k = i + (k + 1) by omega]
  show (⟨C.gen, C.cap, C.used, true, C.n - k - 1, fun i => C.f (i + 1 + k)⟩ : CH) = _
  rw [e1, e2]
theorem Agree.below {B : Nat} {w w' : World} (h : Below w.heap.size w w') : Agree B w w' := Agree.of h
set_option maxRecDepth 100000 in
set_option maxHeartbeats 6400000 in
theorem after_no (ca : Option Addr) (cc : Nat) (C : CH) (hd : Int) (a : Option Addr) (n cap : Nat) (V : Nat → WV) (W : World) (hc : ChanAt W (.agg #[.int .i64 C.gen, .int .i64 C.cap, .bool C.used, .bool C.closed, .slice ca C.n cc]) C) (h : WaitsAt W a n cap V) (hr : C.used = false ∨ C.closed = true) :
    Calls Try.prog 8 #[.agg #[.int .i64 C.gen, .int .i64 C.cap, .bool C.used, .bool C.closed, .slice ca C.n cc], .int .i64 hd, .slice a n cap] W fun e w' => e = .returned (.bool true) ∧ Below W.heap.size W w' := by
  have hn := h.1
  have HB0 := Lib.hid ((Below.refl W.heap.size W).alloc (Nat.le_refl _) (.cells #[.int .i64 C.gen, .int .i64 C.cap, .bool C.used, .bool C.closed, .slice ca C.n cc] 44))
  have HX := Lib.hid (Box.new (a := .int .i64 C.gen) (b := .int .i64 C.cap) (c := .bool C.used) (d := .bool C.closed) (e := .slice ca C.n cc) W 44)
  have HC := Lib.hid (hc.below HB0.out)
  have HS := Lib.hid (h.below HB0.out)
  have hz : W.heap.size < (W.alloc (.cells #[.int .i64 C.gen, .int .i64 C.cap, .bool C.used, .bool C.closed, .slice ca C.n cc] 44)).heap.size := by simp
  clear hc h
  go_enter Try.func8, Try.ntmps8
  go_upto_region 1 with (fail)
  revert HB0 HX HC HS hz
  generalize W.alloc (.cells #[.int .i64 C.gen, .int .i64 C.cap, .bool C.used, .bool C.closed, .slice ca C.n cc] 44) = u
  intro HB0 HX HC HS hz
  (obtain ⟨x0, x1, x2, x3, x4, xf⟩ := HX.out)
  clear xf
  have HSH := Lib.hid (shut_no (.agg #[.int .i64 C.gen, .int .i64 C.cap, .bool C.used, .bool C.closed, .slice ca C.n cc]) C a n cap hd u ⟨ca, cc, rfl⟩ hr)
  go_upto_region 2 with (go_at_call 39; go_loud ((with_reducible refine HSH.out.mono ?_); rintro e w1 ⟨rfl, hb⟩; have HB1 := Lib.hid (HB0.out.trans (hb.mono HB0.out.size)); have x0 := ((bcell hb).1 _ _ hz).trans x0; have x1 := ((bcell hb).1 _ _ hz).trans x1; have x2 := ((bcell hb).1 _ _ hz).trans x2; have x3 := ((bcell hb).1 _ _ hz).trans x3; have x4 := ((bcell hb).1 _ _ hz).trans x4; have hz1 := Nat.lt_of_lt_of_le hz hb.size; clear hb HSH))
  have hAA : Below w1.heap.size w1 (w1.alloc (.cells #[.int .i64 0, .int .i64 0, .bool false, .bool false, .slice none 0 0] 44)) := (Below.refl _ _).alloc (Nat.le_refl _) _
  have HB2 := Lib.hid (HB1.out.trans (hAA.mono HB1.out.size))
  clear hAA
  by_cases hu : C.used = false
  · rw [hu] at x2
    clear hr
    go_wp2_with (go_at_call 38; (with_reducible refine (cawake_any _).mono ?_); rintro e v9 ⟨rfl, hb⟩; have HZ := Lib.hid ((HB2.out).trans (hb.mono (HB2.out).size)); clear hb)
    go_ret
    exact ⟨rfl, HZ.out⟩
  · have hu : C.used = true := by simpa using hu
    have hcl : C.closed = true := by
      rcases hr with h | h
      · rw [hu] at h; cases h
      · exact h
    rw [hu] at x2
    rw [hcl] at x3
    clear hr
    go_wp2_with (go_at_call 38; (with_reducible refine (cawake_any _).mono ?_); rintro e v9 ⟨rfl, hb⟩; have HZ := Lib.hid ((HB2.out).trans (hb.mono (HB2.out).size)); clear hb)
    go_ret
    exact ⟨rfl, HZ.out⟩
/-- A row that no store into a block turns. -/
def Off (Q : Nat) (w : World) (a : Option Addr) (n cap : Nat) (V : Nat → WV) : Prop := ∃ (B : Nat) (wx : World), FarW B wx a n cap V ∧ Agree B wx w ∧ (Q < B ∨ wx.heap.size ≤ Q)
theorem Off.at {Q : Nat} {w : World} {a : Option Addr} {n cap : Nat} {V : Nat → WV} (h : Off Q w a n cap V) : WaitsAt w a n cap V := by
  obtain ⟨B, wx, hf, ha, _⟩ := h
  exact hf w ha
theorem Off.below {Q : Nat} {w w' : World} {a : Option Addr} {n cap : Nat} {V : Nat → WV} (h : Off Q w a n cap V) (hb : Below w.heap.size w w') : Off Q w' a n cap V := by
  obtain ⟨B, wx, hf, ha, hq⟩ := h
  exact ⟨B, wx, hf, ha.trans (Agree.of hb), hq⟩
theorem Off.set {Q o : Nat} {x : Value} {w : World} {a : Option Addr} {n cap : Nat} {V : Nat → WV} (h : Off Q w a n cap V) : Off Q (w.setCell ⟨Q, o, none⟩ x) a n cap V := by
  obtain ⟨B, wx, hf, ha, hq⟩ := h
  refine ⟨B, wx, hf, ⟨by simpa using ha.1, fun q o' h1 h2 => ?_⟩, hq⟩
  have := ha.2 q o' h1 h2
  exact ⟨by rw [cell_set_ne (.inl (by omega))]; exact this.1, by simpa using this.2⟩
theorem Box4.store5_far {w : World} {p q : Nat} {a b c d a' b' c' d' e' : Value} (h : Box4 w q a b c d) (hne : p ≠ q) : Box4 (store5 w p a' b' c' d' e') q a b c d := ((((h.set_far hne).set_far hne).set_far hne).set_far hne).set_far hne
/-- What ChansAfter has, ahead of each receive: the channel that came in, and the one of which 'k' values have been received. -/
structure Aft (W v : World) (C : CH) (ca : Option Addr) (cc : Nat) (D k : Nat) (c' : Option Addr) (cc' : Nat) (ra : Option Addr) (n rc : Nat) (V : Nat → WV) : Prop where
  chan : Box v W.heap.size (.int .i64 C.gen) (.int .i64 C.cap) (.bool C.used) (.bool C.closed) (.slice ca C.n cc)
  left : Box v D (.int .i64 C.gen) (.int .i64 C.cap) (.bool C.used) (.bool true) (.slice c' (C.n - k) cc')
  rest : RowAt .i64 v c' (C.n - k) cc' (fun i => C.f (i + k))
  wts : WaitsAt v ra n rc V
  bel : Below W.heap.size W v
  lt : W.heap.size < D ∧ D < v.heap.size
section
variable {W v v' : World} {C : CH} {ca c' ra : Option Addr} {cc cc' D k n rc : Nat} {V : Nat → WV}
theorem Aft.below (h : Aft W v C ca cc D k c' cc' ra n rc V) (hb : Below v.heap.size v v') : Aft W v' C ca cc D k c' cc' ra n rc V :=
  ⟨h.chan.below (by have := h.lt; omega) hb, h.left.below h.lt.2 hb, h.rest.below hb, h.wts.below hb, h.bel.trans (hb.mono h.bel.size), h.lt.1, Nat.lt_of_lt_of_le h.lt.2 hb.size⟩
theorem Aft.is (h : Aft W v C ca cc D k c' cc' ra n rc V) : ChanAt v (.agg #[.int .i64 C.gen, .int .i64 C.cap, .bool C.used, .bool true, .slice c' (C.n - k) cc']) ⟨C.gen, C.cap, C.used, true, C.n - k, fun i => C.f (i + k)⟩ := ⟨c', cc', rfl, h.rest⟩
end
set_option maxRecDepth 100000 in
set_option maxHeartbeats 6400000 in
theorem after_yes (ca : Option Addr) (cc : Nat) (C : CH) (hd : Int) (a : Option Addr) (n cap : Nat) (V : Nat → WV) (W : World) (hc : ChanAt W (.agg #[.int .i64 C.gen, .int .i64 C.cap, .bool C.used, .bool C.closed, .slice ca C.n cc]) C) (h : WaitsAt W a n cap V) (hu : C.used = true) (hcl : C.closed = false) :
    Calls Try.prog 8 #[.agg #[.int .i64 C.gen, .int .i64 C.cap, .bool C.used, .bool C.closed, .slice ca C.n cc], .int .i64 hd, .slice a n cap] W fun e w' => e = .returned (.bool true) ∧ Below W.heap.size W w' := by
  have hn := h.1
  have HB0 := Lib.hid ((Below.refl W.heap.size W).alloc (Nat.le_refl _) (.cells #[.int .i64 C.gen, .int .i64 C.cap, .bool C.used, .bool C.closed, .slice ca C.n cc] 44))
  have HX := Lib.hid (Box.new (a := .int .i64 C.gen) (b := .int .i64 C.cap) (c := .bool C.used) (d := .bool C.closed) (e := .slice ca C.n cc) W 44)
  have HC := Lib.hid (hc.below HB0.out)
  have HS := Lib.hid (h.below HB0.out)
  have hz : W.heap.size < (W.alloc (.cells #[.int .i64 C.gen, .int .i64 C.cap, .bool C.used, .bool C.closed, .slice ca C.n cc] 44)).heap.size := by simp
  have HR0 := Lib.hid (show RowAt .i64 W ca C.n cc C.f from by
    obtain ⟨_, _, e, hr⟩ := hc
    simp only [Value.agg.injEq, Array.mk.injEq, List.cons.injEq, Value.slice.injEq, true_and, and_true] at e
    obtain ⟨rfl, rfl⟩ := e
    exact hr)
  have HU := Lib.hid hu
  have HSH := Lib.hid (fun (w : World) (hc : ChanAt w (.agg #[.int .i64 C.gen, .int .i64 C.cap, .bool C.used, .bool C.closed, .slice ca C.n cc]) C) (h : WaitsAt w a n cap V) => shut_yes (.agg #[.int .i64 C.gen, .int .i64 C.cap, .bool C.used, .bool C.closed, .slice ca C.n cc]) C a n cap V hd w hc h hu hcl)
  clear hu hcl
  clear hc h
  go_enter Try.func8, Try.ntmps8
  go_upto_region 1 with (fail)
  revert HB0 HX HC HS hz
  generalize W.alloc (.cells #[.int .i64 C.gen, .int .i64 C.cap, .bool C.used, .bool C.closed, .slice ca C.n cc] 44) = u
  intro HB0 HX HC HS hz
  (obtain ⟨x0, x1, x2, x3, x4, xf⟩ := HX.out)
  clear xf
  go_upto_region 2 with (go_at_call 39; go_loud ((with_reducible refine (HSH.out u HC.out HS.out).mono ?_); rintro e w1 ⟨m, f, cv, ra, rc, ta, tc, hon, rfl, hfc, hfw, hft, hb⟩; obtain ⟨c', cc', rfl, hz'⟩ := hfc.at; have HCR := Lib.hid hz'; have HFM := Lib.hid hfw; have HNO := Lib.hid hon.left; have HB1 := Lib.hid (HB0.out.trans (hb.mono HB0.out.size)); have HROW := Lib.hid (HC.out.below hb); have HX1 := Lib.hid (HX.out.below hz hb); have hz1 := Nat.lt_of_lt_of_le hz hb.size; clear hb HSH hfc hfw hft hz' hon x0 x1 x2 x3 x4))
  have hAA : Below w1.heap.size w1 (w1.alloc (.cells #[.int .i64 C.gen, .int .i64 C.cap, .bool C.used, .bool true, .slice c' C.n cc'] 44)) := (Below.refl _ _).alloc (Nat.le_refl _) _
  have hCn := HR0.out.1
  revert HFM HNO
  generalize zeroAt V f m = V'
  intro HFM HNO
  refine abstract_code (fun v => Aft W v C ca cc w1.heap.size 0 c' cc' ra n rc V' ∧ ∀ Q, w1.heap.size ≤ Q → Off Q v ra n rc V') ⟨⟨HX1.out.below hz1 hAA, Box.new w1 _, (HCR.out.at hCn).below hAA, HFM.out.at.below hAA, HB1.out.trans (hAA.mono HB1.out.size), hz1, by simp⟩, fun Q hQ => ⟨u.heap.size, w1, HFM.out, Agree.of hAA, .inr hQ⟩⟩ ?_
  generalize w1.heap.size = D
  clear hAA HX1 HFM HCR HROW HB1 hz1 HX HB0 HC HS hz
  rintro v ⟨hv, hoff⟩
  have HA := Lib.hid hv
  have HG := Lib.hid hoff
  clear hoff
  (obtain ⟨x0, x1, x2, x3, x4, _⟩ := hv.chan)
  (obtain ⟨y0, y1, y2, y3, y4, _⟩ := hv.left)
  have hlt := hv.lt
  rw [Nat.sub_zero] at y4
  clear hv
  by_cases hbig : 100 < C.n
  · have hbi : (100 : Int) < (C.n : Int) := by omega
    go_wp2_with (go_at_call 38; (with_reducible refine (cawake_any _).mono ?_); rintro e v9 ⟨rfl, hb⟩; have HZ := Lib.hid ((HA.out.bel).trans (hb.mono (HA.out.bel).size)); clear hb)
    go_ret
    exact ⟨rfl, HZ.out⟩
  · have hbi : ¬ (100 : Int) < (C.n : Int) := by omega
    go_upto_region 8 with (go_at_call 25; go_loud ((with_reducible refine (ron_any _ _ _ _ _ _ HA.out.wts).mono ?_); rintro e v1 ⟨oa, om, oc, of, rfl, hro, hon, hb⟩; obtain rfl := hon.nobody HNO.out; have HA1 := Lib.hid (HA.out.below hb); have HG1 := Lib.hid (fun Q hQ => (HG.out Q hQ).below hb); clear hro hon hb x0 x1 x2 x3 x4 y0 y1 y2 y3 y4))
    (obtain ⟨y0, y1, y2, y3, y4, _⟩ := HA1.out.left)
    rw [Nat.sub_zero] at y4
    have hcv : ChanAt v1 (.agg #[.int .i64 C.gen, .int .i64 C.cap, .bool C.used, .bool true, .slice c' C.n cc']) ⟨C.gen, C.cap, C.used, true, C.n, C.f⟩ := HA1.out.is
    have HSH := Lib.hid (shut_no (.agg #[.int .i64 C.gen, .int .i64 C.cap, .bool C.used, .bool true, .slice c' C.n cc']) ⟨C.gen, C.cap, C.used, true, C.n, C.f⟩ ra n rc hd v1 ⟨c', cc', rfl⟩ (.inr rfl))
    go_upto_region 9 with (go_at_call 39; go_loud ((with_reducible refine HSH.out.mono ?_); rintro e v2 ⟨rfl, hb⟩; have hb := hb.trans (((Below.refl _ _).alloc (Nat.le_refl _) (.cells #[.int .i64 0, .int .i64 0, .bool false, .bool false, .slice none 0 0] 44)).mono hb.size); have HA2 := Lib.hid (HA1.out.below hb); have HG2 := Lib.hid (fun Q hQ => (HG1.out Q hQ).below hb); clear hb y0 y1 y2 y3 y4))
    (obtain ⟨y0, y1, y2, y3, y4, _⟩ := HA2.out.left)
    have hcv2 := HA2.out.is
    go_upto_region 10 with (go_at_call 31; go_loud ((with_reducible refine (do_any _ ⟨C.gen, C.cap, C.used, true, C.n, C.f⟩ _ n rc V' hd 1 1 _ hcv2 HA2.out.wts hCn).mono ?_); rintro e v3 ⟨C2, V2, code, rv, m2, T2, hi, cv2, ra2, rc2, ta2, tc2, rfl, hfc, hfw, hft, hb⟩; obtain rfl : code = 9 := closed_send (C := ⟨C.gen, C.cap, C.used, true, C.n, C.f⟩) HU.out rfl hi; obtain ⟨c2, cc2, rfl, _⟩ := hfc.at; have HA3 := Lib.hid (HA2.out.below hb); have HG3 := Lib.hid (fun Q hQ => (HG2.out Q hQ).below hb); clear hi hfc hfw hft hb y0 y1 y2 y3 y4))
    have hAA : Below v3.heap.size v3 ((v3.alloc (.cells #[.int .i64 C2.gen, .int .i64 C2.cap, .bool C2.used, .bool C2.closed, .slice c2 C2.n cc2] 44)).alloc (.cells #[.int .i64 0, .int .i64 0, .int .i64 9, .int .i64 rv] 48)) := ((Below.refl _ _).alloc (Nat.le_refl _) _).alloc (by simp) _
    have hz4 := Box4.new (a := .int .i64 0) (b := .int .i64 0) (c := .int .i64 9) (d := .int .i64 rv) (v3.alloc (.cells #[.int .i64 C2.gen, .int .i64 C2.cap, .bool C2.used, .bool C2.closed, .slice c2 C2.n cc2] 44)) 48
    rw [World.size_alloc] at hz4
    have h3 := HA3.out.lt
    refine abstract_code (fun v => Aft W v C ca cc D 0 c' cc' ra n rc V' ∧ (∃ x, Box4 v (v3.heap.size + 1) (.int .i64 0) (.int .i64 0) (.int .i64 9) (.int .i64 x)) ∧ D < v3.heap.size + 1 ∧ v3.heap.size + 1 < v.heap.size ∧ Off (v3.heap.size + 1) v ra n rc V') ⟨HA3.out.below hAA, ⟨rv, hz4⟩, by omega, by simp, (HG3.out _ (by omega)).below hAA⟩ ?_
    generalize v3.heap.size + 1 = Q
    clear hAA hz4 h3 HA3 HA2 HA1 HA HG HG1 HG2 HG3 HSH hcv hcv2 hlt
    rintro v4 ⟨h4, ⟨zx, hq4⟩, hdq, hqs, hof⟩
    have HA4 := Lib.hid h4
    have HQ4 := Lib.hid hq4
    have HOF := Lib.hid hof
    clear hof
    (obtain ⟨x0, x1, x2, x3, x4, _⟩ := h4.chan)
    (obtain ⟨z0, z1, z2, z3, _⟩ := hq4)
    clear h4
    go_wp2
    go_loopw [8, 84] (fun mv kv wr => ∃ k : Nat, k ≤ C.n ∧ kv = .int .i64 k ∧ ∃ c' cc' ra rc, mv = .slice ra n rc ∧ Aft W wr C ca cc D k c' cc' ra n rc V' ∧ Box4 wr Q (.int .i64 0) (.int .i64 0) (.int .i64 9) (.int .i64 zx) ∧ Off Q wr ra n rc V' ∧ Q < wr.heap.size) (fun _ kv _ => C.n - (intOf kv).toNat)
    case atStart => exact ⟨0, Nat.zero_le _, rfl, c', cc', ra, rc, rfl, HA4.out, HQ4.out, HOF.out, hqs⟩
    case round =>
      clear x0 x1 x2 x3 x4 z0 z1 z2 z3 hqs HA4 HQ4 HOF
      obtain ⟨k, hk, rfl, c1, cc1, ra1, rc1, rfl, ha, hq, hof, hqs⟩ := hrel
      have HOF := Lib.hid hof
      clear hof
      have HA := Lib.hid ha
      have HQ := Lib.hid hq
      (obtain ⟨y0, y1, y2, y3, y4, yf⟩ := ha.left)
      have hcv := ha.is
      have hlt2 := ha.lt
      by_cases hlt : k < C.n
      · obtain ⟨b, off, rfl, zb, hc⟩ := (HR0.out.below ha.bel).get hlt
        have z0 := hc k hlt
        have i0 : (0 : Int) ≤ (k : Int) := by omega
        have i1 : (k : Int) < (C.n : Int) := by omega
        have hne : (C.f k != C.f k) = false := by simp
        clear hc ha hq yf
        go_upto_region 16 with (go_at_call 31; go_loud ((with_reducible refine (do_any _ ⟨C.gen, C.cap, C.used, true, C.n - k, fun i => C.f (i + k)⟩ _ n rc1 V' hd 2 0 _ hcv HA.out.wts (by show (C.n - k) * 8 ≤ _; omega)).mono ?_); rintro e v5 ⟨C5', V2, code, rv, m2, T2, hi, cv2, ra2, rc2, ta2, tc2, rfl, hfc, hfw, hft, hb⟩; obtain ⟨hC2, hV2, rfl, rfl, rfl⟩ := recv_step HU.out HNO.out hlt hi; rw [hC2] at hfc; rw [hV2] at hfw; have HFC := Lib.hid hfc; clear hfc; obtain ⟨c2, cc2, rfl, _⟩ := HFC.out.at; have HFW := Lib.hid hfw; have HA5 := Lib.hid (HA.out.below hb); have HQ5 := Lib.hid (HQ.out.below hqs hb); have hs5 := hb.size; clear hi hfw hft hb hC2 hV2 y0 y1 y2 y3 y4 z0))
        have hBB : Below v5.heap.size v5 ((v5.alloc (.cells #[.int .i64 C.gen, .int .i64 C.cap, .bool C.used, .bool true, .slice c2 (C.n - (k + 1)) cc2] 44)).alloc (.cells #[.int .i64 0, .int .i64 0, .int .i64 0, .int .i64 (C.f k)] 48)) := ((Below.refl _ _).alloc (Nat.le_refl _) _).alloc (by simp) _
        have HA6 := Lib.hid (HA5.out.below hBB)
        have HQ6 := Lib.hid (HQ5.out.below (by omega) hBB)
        have HAG := Lib.hid (show Agree wr.heap.size v5 (store5 ((v5.alloc (.cells #[.int .i64 C.gen, .int .i64 C.cap, .bool C.used, .bool true, .slice c2 (C.n - (k + 1)) cc2] 44)).alloc (.cells #[.int .i64 0, .int .i64 0, .int .i64 0, .int .i64 (C.f k)] 48)) D (.int .i64 C.gen) (.int .i64 C.cap) (.bool C.used) (.bool true) (.slice c2 (C.n - (k + 1)) cc2)) from (Agree.of hBB).trans (agree_store5 (by omega)))
        have hs6 := hBB.size
        (obtain ⟨y0, y1, y2, y3, y4, yf⟩ := HA6.out.left)
        have f0 := yf 0
        have f1 := yf 1
        have f2 := yf 2
        have f3 := yf 3
        have f4 := yf 4
        clear yf hBB HA5 HQ5 HA HQ
        go_wp2
        go_roundw
        case rel =>
          refine ⟨k + 1, by omega, by go_num, c2, cc2, ra2, rc2, rfl, ⟨HA6.out.chan.far (by omega), HA6.out.left.store _ _ _ _ _, ?_, (HFW.out.agree HAG.out).at, store5_below HA6.out.bel (by omega), HA6.out.lt.1, Nat.lt_of_lt_of_le (show D < v5.heap.size by omega) HAG.out.1⟩, ?_, ⟨wr.heap.size, v5, HFW.out, HAG.out, .inl hqs⟩, Nat.lt_of_lt_of_le (show Q < v5.heap.size by omega) HAG.out.1⟩
          · obtain ⟨_, _, e, hr⟩ := (HFC.out.agree HAG.out).at
            simp only [Value.agg.injEq, Array.mk.injEq, List.cons.injEq, Value.slice.injEq, true_and, and_true] at e
            obtain ⟨rfl, rfl⟩ := e
            exact hr.at (by show (C.n - (k + 1)) * 8 ≤ _; omega)
          · exact HQ6.out.store5_far (by omega)
        case measure => simp [intOf]; omega
      · obtain rfl : k = C.n := by omega
        rw [Nat.sub_self] at y4
        have hcv0 : ChanAt wr (.agg #[.int .i64 C.gen, .int .i64 C.cap, .bool C.used, .bool true, .slice c1 0 cc1]) ⟨C.gen, C.cap, C.used, true, 0, fun i => C.f (i + C.n)⟩ := by
          have h := hcv
          rw [Nat.sub_self] at h
          exact h
        clear hlt ha hq yf hcv
        go_upto_region 21 with (go_at_call 31; go_loud ((with_reducible refine (do_any _ ⟨C.gen, C.cap, C.used, true, 0, fun i => C.f (i + C.n)⟩ _ n rc1 V' hd 2 0 _ hcv0 HA.out.wts (show 0 * 8 ≤ 140737488351232 by decide)).mono ?_); rintro e v5 ⟨C5', V2, code, rv, m2, T2, hi, cv2, ra2, rc2, ta2, tc2, rfl, hfc, hfw, hft, hb⟩; obtain rfl : code = 9 := closed_none (C := ⟨C.gen, C.cap, C.used, true, 0, fun i => C.f (i + C.n)⟩) HU.out rfl HNO.out rfl hi; obtain ⟨c2, cc2, rfl, _⟩ := hfc.at; have HA5 := Lib.hid (HA.out.below hb); have HO5 := Lib.hid (HOF.out.below hb); have hq5 := HQ.out.below hqs hb; have hs5 := hb.size; clear hi hfc hfw hft hb y0 y1 y2 y3 y4 hcv0; obtain ⟨z0, z1, z2, z3, zf⟩ := hq5; have g0 := zf 0; have g1 := zf 1; have g2 := zf 2; have g3 := zf 3; clear zf))
        refine abstract_code (fun v => Box v D (.int .i64 C.gen) (.int .i64 C.cap) (.bool C.used) (.bool true) (.slice c1 (C.n - C.n) cc1) ∧ WaitsAt v ra1 n rc1 V' ∧ Below W.heap.size W v ∧ v.cell? ⟨Q, 2, none⟩ = some (.int .i64 9)) ⟨(((HA5.out.left.set_far (by omega)).set_far (by omega)).set_far (by omega)).set_far (by omega), (((HO5.out.set).set).set).set.at, below_store4 HA5.out.bel (by omega), ?_⟩ ?_
        · rw [cell_set_ne (.inr (by decide))]
          exact World.cell?_setCell_same _ _ _ (by rw [cell_set_ne (.inr (by decide)), cell_set_ne (.inr (by decide))]; exact z2)
        clear HA5 HO5 z0 z1 z2 z3 g0 g1 g2 g3 HA HQ HOF
        rintro v6 ⟨h6, hw6, hb6, z2⟩
        have HW6 := Lib.hid hw6
        have HB6 := Lib.hid hb6
        (obtain ⟨y0, y1, y2, y3, y4, _⟩ := h6)
        rw [Nat.sub_self] at y4
        clear hw6 hb6
        go_wp2_with (first
          | (go_at_call 40; (with_reducible refine (idle_yes C.gen C.cap c1 cc1 ra1 n rc1 V' hd C.used HU.out _ HW6.out HNO.out).mono ?_); rintro e v7 ⟨rfl, hb⟩; have HB7 := Lib.hid (HB6.out.trans (hb.mono HB6.out.size)); clear hb)
          | (go_at_call 38; (with_reducible refine (cawake_any _).mono ?_); rintro e v9 ⟨rfl, hb⟩; have HZ := Lib.hid ((HB7.out).trans (hb.mono (HB7.out).size)); clear hb))
        go_ret
        exact ⟨rfl, HZ.out⟩
theorem after_walk (ca : Option Addr) (cc : Nat) (C : CH) (hd : Int) (a : Option Addr) (n cap : Nat) (V : Nat → WV) (W : World) (hc : ChanAt W (.agg #[.int .i64 C.gen, .int .i64 C.cap, .bool C.used, .bool C.closed, .slice ca C.n cc]) C) (h : WaitsAt W a n cap V) :
    Calls Try.prog 8 #[.agg #[.int .i64 C.gen, .int .i64 C.cap, .bool C.used, .bool C.closed, .slice ca C.n cc], .int .i64 hd, .slice a n cap] W fun e w' => e = .returned (.bool true) ∧ Below W.heap.size W w' := by
  by_cases hu : C.used = true
  · by_cases hcl : C.closed = true
    · exact after_no ca cc C hd a n cap V W hc h (.inr hcl)
    · exact after_yes ca cc C hd a n cap V W hc h hu (by simpa using hcl)
  · exact after_no ca cc C hd a n cap V W hc h (.inl (by simpa using hu))
end Go.Proofs.Ytihpjfhibhpciaa
