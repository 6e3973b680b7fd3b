/- The contract of Call over the seat's program: the words of a call that fits, none of another one. -/
import Derived.Test.YtcbdbpcibhjkjabCallA
import Derived.Test.YtcbdbpcibhjkjabCallB
import Derived.Test.YtcbdbpcibhjkjabCallC
namespace Go.Proofs.Ytcbdbpcibhjkjab
open Go.ChangeShapes Go.WideShapes Go.ChangeAt Go.RowKit Go.Joins

def caseW (c : C3) : Int := c.1 + c.2.1 * 256 + c.2.2 * 4294967296
def headW (kind arg value : Int) (d : Bool) (n : Nat) : Int := kind + n * 256 + arg * 65536 + value * 4294967296 + (if d then 4096 else 0)
def callL (kind arg value : Int) (d : Bool) (cs : List C3) (phase : Int) : List Int :=
  if fitsB kind arg value cs = true ∧ inB phase 4294967295 = true then
    [headW kind arg value d cs.length, caseW (cs.getD 0 (0, 0, 0)), caseW (cs.getD 1 (0, 0, 0)), caseW (cs.getD 2 (0, 0, 0)), phase] else []

theorem fits_yes (kind arg value : Int) (d : Bool) {v : Value} {cs : List C3} (w : World) (h : CasesAt w v cs) (hf : fitsB kind arg value cs = true) :
    Calls Try.prog 25 #[.agg #[.int .i64 kind, .int .i64 arg, .int .i64 value, .bool d, v]] w fun e w' => e = .returned (.bool true) ∧ Below w.heap.size w w' := by
  have := fits_any kind arg value d w h
  rw [hf] at this
  exact this
theorem fits_no (kind arg value : Int) (d : Bool) {v : Value} {cs : List C3} (w : World) (h : CasesAt w v cs) (hf : fitsB kind arg value cs = false) :
    Calls Try.prog 25 #[.agg #[.int .i64 kind, .int .i64 arg, .int .i64 value, .bool d, v]] w fun e w' => e = .returned (.bool false) ∧ Below w.heap.size w w' := by
  have := fits_any kind arg value d w h
  rw [hf] at this
  exact this

theorem fitsB_iff (kind arg value : Int) (cs : List C3) : fitsB kind arg value cs = true ↔ (1 ≤ kind ∧ kind ≤ 9) ∧ (0 ≤ arg ∧ arg ≤ 65535) ∧ (0 ≤ value ∧ value ≤ 4294967295) ∧ cs.length ≤ 3 ∧ ∀ c ∈ cs, caseB c = true := by
  simp [fitsB, inB_iff]
  constructor
  · rintro ⟨⟨⟨⟨⟨a, b⟩, c⟩, d⟩, e⟩, f⟩; exact ⟨⟨a, b⟩, c, d, e, f⟩
  · rintro ⟨⟨a, b⟩, c, d, e, f⟩; exact ⟨⟨⟨⟨⟨a, b⟩, c⟩, d⟩, e⟩, f⟩

theorem call_fits (kind arg value : Int) (d : Bool) (phase : Int) {v : Value} {cs : List C3} (w : World) (h : CasesAt w v cs) (hf : fitsB kind arg value cs = true) (hp : inB phase 4294967295 = true) :
    Calls Try.prog 28 #[.agg #[.int .i64 kind, .int .i64 arg, .int .i64 value, .bool d, v], .int .i64 phase] w (RetWords (callL kind arg value d cs phase) w) := by
  have hF : ∀ W, Below w.heap.size w W → Calls Try.prog 25 #[.agg #[.int .i64 kind, .int .i64 arg, .int .i64 value, .bool d, v]] W fun e w' => e = .returned (.bool true) ∧ Below W.heap.size W w' :=
    fun W hW => fits_yes kind arg value d W (h.below hW) hf
  have hA : ∀ W o, W = w.alloc o → Below w.heap.size w W := fun W o e => by rw [e]; exact (Below.refl _ _).alloc (Nat.le_refl _) _
  rw [callL, if_pos ⟨hf, hp⟩]
  obtain ⟨⟨k1, k2⟩, ⟨a1, a2⟩, ⟨v1, v2⟩, hl, hc⟩ := (fitsB_iff _ _ _ _).1 hf
  obtain ⟨p1, p2⟩ := (inB_iff _ _).1 hp
  match cs, hl with
  | [], _ =>
    obtain ⟨a, cap, rfl⟩ := h.form
    cases d
    · have := call_w0false kind arg value phase a cap k1 k2 a1 a2 v1 v2 p1 p2 w fun W e => hF W (hA W _ e)
      simpa [headW, caseW] using this
    · have := call_w0true kind arg value phase a cap k1 k2 a1 a2 v1 v2 p1 p2 w fun W e => hF W (hA W _ e)
      simpa [headW, caseW] using this
  | [(x0, y0, z0)], _ =>
    rcases h with ⟨h0, _⟩ | ⟨b, off, cap, rfl, hb, hm, hr⟩
    · cases h0
    have c0 := (caseB_iff _).1 (hc _ (List.mem_cons_self ..))
    dsimp only at c0
    have r0 := hr 0 (by simp)
    simp only [Nat.zero_mul, Nat.add_zero, List.getD_cons_zero] at r0
    cases d
    · have := call_w1false kind arg value phase x0 y0 z0 b off cap k1 k2 a1 a2 v1 v2 p1 p2 (by omega) (by omega) (by omega) (by omega) (by omega) (by omega) w hb r0.1 r0.2.1 r0.2.2 fun W e => hF W (hA W _ e)
      simpa [headW, caseW] using this
    · have := call_w1true kind arg value phase x0 y0 z0 b off cap k1 k2 a1 a2 v1 v2 p1 p2 (by omega) (by omega) (by omega) (by omega) (by omega) (by omega) w hb r0.1 r0.2.1 r0.2.2 fun W e => hF W (hA W _ e)
      simpa [headW, caseW] using this
  | [(x0, y0, z0), (x1, y1, z1)], _ =>
    rcases h with ⟨h0, _⟩ | ⟨b, off, cap, rfl, hb, hm, hr⟩
    · cases h0
    have c0 := (caseB_iff _).1 (hc _ (List.mem_cons_self ..))
    have c1 := (caseB_iff _).1 (hc (x1, y1, z1) (by simp))
    dsimp only at c0 c1
    have r0 := hr 0 (by simp)
    have r1 := hr 1 (by simp)
    simp only [Nat.zero_mul, Nat.add_zero, Nat.one_mul, List.getD_cons_zero, List.getD_cons_succ] at r0 r1
    cases d
    · have := call_w2false kind arg value phase x0 y0 z0 x1 y1 z1 b off cap k1 k2 a1 a2 v1 v2 p1 p2 (by omega) (by omega) (by omega) (by omega) (by omega) (by omega) (by omega) (by omega) (by omega) (by omega) (by omega) (by omega) w hb r0.1 r0.2.1 r0.2.2 r1.1 r1.2.1 r1.2.2 fun W e => hF W (hA W _ e)
      simpa [headW, caseW] using this
    · have := call_w2true kind arg value phase x0 y0 z0 x1 y1 z1 b off cap k1 k2 a1 a2 v1 v2 p1 p2 (by omega) (by omega) (by omega) (by omega) (by omega) (by omega) (by omega) (by omega) (by omega) (by omega) (by omega) (by omega) w hb r0.1 r0.2.1 r0.2.2 r1.1 r1.2.1 r1.2.2 fun W e => hF W (hA W _ e)
      simpa [headW, caseW] using this
  | [(x0, y0, z0), (x1, y1, z1), (x2, y2, z2)], _ =>
    rcases h with ⟨h0, _⟩ | ⟨b, off, cap, rfl, hb, hm, hr⟩
    · cases h0
    have c0 := (caseB_iff _).1 (hc _ (List.mem_cons_self ..))
    have c1 := (caseB_iff _).1 (hc (x1, y1, z1) (by simp))
    have c2 := (caseB_iff _).1 (hc (x2, y2, z2) (by simp))
    dsimp only at c0 c1 c2
    have r0 := hr 0 (by simp)
    have r1 := hr 1 (by simp)
    have r2 := hr 2 (by simp)
    simp only [Nat.zero_mul, Nat.add_zero, Nat.one_mul, List.getD_cons_zero, List.getD_cons_succ, show 2 * 3 = 6 from rfl] at r0 r1 r2
    cases d
    · have := call_w3false kind arg value phase x0 y0 z0 x1 y1 z1 x2 y2 z2 b off cap k1 k2 a1 a2 v1 v2 p1 p2 (by omega) (by omega) (by omega) (by omega) (by omega) (by omega) (by omega) (by omega) (by omega) (by omega) (by omega) (by omega) (by omega) (by omega) (by omega) (by omega) (by omega) (by omega) w hb r0.1 r0.2.1 r0.2.2 r1.1 r1.2.1 r1.2.2 r2.1 r2.2.1 r2.2.2 fun W e => hF W (hA W _ e)
      simpa [headW, caseW] using this
    · have := call_w3true kind arg value phase x0 y0 z0 x1 y1 z1 x2 y2 z2 b off cap k1 k2 a1 a2 v1 v2 p1 p2 (by omega) (by omega) (by omega) (by omega) (by omega) (by omega) (by omega) (by omega) (by omega) (by omega) (by omega) (by omega) (by omega) (by omega) (by omega) (by omega) (by omega) (by omega) w hb r0.1 r0.2.1 r0.2.2 r1.1 r1.2.1 r1.2.2 r2.1 r2.2.1 r2.2.2 fun W e => hF W (hA W _ e)
      simpa [headW, caseW] using this

theorem call_any (kind arg value : Int) (d : Bool) (phase : Int) {v : Value} {cs : List C3} (w : World) (h : CasesAt w v cs) :
    Calls Try.prog 28 #[.agg #[.int .i64 kind, .int .i64 arg, .int .i64 value, .bool d, v], .int .i64 phase] w (RetWords (callL kind arg value d cs phase) w) := by
  cases hf : fitsB kind arg value cs
  · rw [callL, if_neg (by simp [hf])]
    obtain ⟨a, cap, rfl⟩ := h.form
    have HA := Lib.hid (fits_no kind arg value d _ (h.below ((Below.refl _ _).alloc (Nat.le_refl _) (.cells #[.int .i64 kind, .int .i64 arg, .int .i64 value, .bool d, .slice a cs.length cap] 37))) hf)
    clear h hf
    go_enter Try.func28, Try.ntmps28
    go_wp2_with (go_at_call 25; (with_reducible refine HA.out.mono ?_); rintro e w1 ⟨rfl, hb1⟩)
    go_ret
    exact ⟨_, rfl, .inl ⟨rfl, _, _, rfl⟩, ((Below.refl _ _).alloc (Nat.le_refl _) _).trans (hb1.mono (by simp))⟩
  · cases hp : inB phase 4294967295
    · rw [callL, if_neg (by simp [hp])]
      obtain ⟨a, cap, rfl⟩ := h.form
      have HA := Lib.hid (fits_yes kind arg value d _ (h.below ((Below.refl _ _).alloc (Nat.le_refl _) (.cells #[.int .i64 kind, .int .i64 arg, .int .i64 value, .bool d, .slice a cs.length cap] 37))) hf)
      have HP := Lib.hid hp
      clear h hf hp
      go_enter Try.func28, Try.ntmps28
      go_wp2_with (first
        | (go_at_call 25; (with_reducible refine HA.out.mono ?_); rintro e w1 ⟨rfl, hb1⟩)
        | (go_at_call 35; (with_reducible refine (within_eq phase 4294967295 HP.out _).mono ?_); rintro e w2 ⟨rfl, rfl⟩))
      go_ret
      exact ⟨_, rfl, .inl ⟨rfl, _, _, rfl⟩, ((Below.refl _ _).alloc (Nat.le_refl _) _).trans (hb1.mono (by simp))⟩
    · exact call_fits kind arg value d phase w h hf hp
end Go.Proofs.Ytcbdbpcibhjkjab
