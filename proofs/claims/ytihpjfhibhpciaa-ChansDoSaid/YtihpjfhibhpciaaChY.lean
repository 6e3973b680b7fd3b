/- The reference's Do in general; what becomes of a channel is one thing; over the seat's program. -/
import Derived.Test.YtihpjfhibhpciaaChX
namespace Go.Proofs.Ytihpjfhibhpciaa
open Go.ChangeShapes Go.WideShapes Go.ChangeAt Go.RowKit Go.Joins

set_option maxRecDepth 100000 in
theorem rdo_any (ca : Option Addr) (cc : Nat) (C : CH) (hd : Int) (a : Option Addr) (n cap : Nat) (V : Nat → WV) (dir x : Int) (w : World) (hrow : RowAt .i64 w ca C.n cc C.f) (h : WaitsAt w a n cap V) :
    Calls Try.prog 32 #[.agg #[.int .i64 C.gen, .int .i64 C.cap, .bool C.used, .bool C.closed, .slice ca C.n cc], .int .i64 hd, .slice a n cap, .int .i64 dir, .int .i64 x] w (RDoRet C V n hd dir x w) := by
  have hm : C.n ≤ maxLen := by
    have := hrow.1
    unfold maxLen
    omega
  by_cases hr : Rdy C V n hd dir
  · rcases hr.2.1 with rfl | rfl
    · by_cases hcl : C.closed = true
      · exact rdo_shut ca cc C hd a n cap V x w hrow hm h hr hcl
      · have hcl : C.closed = false := by simpa using hcl
        by_cases hf : ∃ i, i < n ∧ Fit V 2 hd i
        · obtain ⟨t, wh, ht, hwh, hx⟩ := first_yes hf
          exact rdo_meet ca cc C hd a n cap V x w hrow hm h hr hcl t wh ht hwh hx
        · exact rdo_push ca cc C hd a n cap V x w hrow hm h hr hcl (fun i hi hh => hf ⟨i, hi, hh⟩)
    · by_cases hf : ∃ i, i < n ∧ Fit V 1 hd i
      · obtain ⟨t, wh, ht, hwh, hx⟩ := first_yes hf
        exact rdo_swap ca cc C hd a n cap V x w hrow hm h hr t wh ht hwh hx
      · have hno : ∀ i, i < n → ¬ Fit V 1 hd i := fun i hi hh => hf ⟨i, hi, hh⟩
        by_cases h0 : C.n = 0
        · exact rdo_none ca cc C hd a n cap V x w hrow hm h hr hno h0
        · exact rdo_pop ca cc C hd a n cap V x w hrow hm h hr hno (by omega)
  · exact rdo_wait ca cc C hd a n cap V dir x w hrow hm h hr
/-- Two answers are one. -/
def OneIs (C1 C2 : CH) (V1 V2 : Nat → WV) (c1 c2 r1 r2 : Int) (m1 m2 : Nat) (T1 T2 : Nat → Nat → Int) : Prop := C1 = C2 ∧ V1 = V2 ∧ c1 = c2 ∧ r1 = r2 ∧ m1 = m2 ∧ ∀ i j, i < m1 → T1 i j = T2 i j
theorem nat_eq {t t' : Nat} (h : ((t' : Nat) : Int) = (t : Int)) : t' = t := by omega
theorem DoIs.one {C C1 C2 : CH} {V V1 V2 : Nat → WV} {n m1 m2 : Nat} {hd dir x c1 c2 r1 r2 : Int} {T1 T2 : Nat → Nat → Int} (h : DoIs C V n hd dir x C1 V1 c1 r1 m1 T1) (h' : DoIs C V n hd dir x C2 V2 c2 r2 m2 T2) : OneIs C1 C2 V1 V2 c1 c2 r1 r2 m1 m2 T1 T2 := by
  have z : ∀ (T1 T2 : Nat → Nat → Int), ∀ i j, i < 0 → T1 i j = T2 i j := fun _ _ i j hi => absurd hi (Nat.not_lt_zero _)
  cases h with
  | wait T h =>
    cases h' with
    | wait T' => exact ⟨rfl, rfl, rfl, rfl, rfl, z _ _⟩
    | shut T' h1 => exact absurd h1 h
    | meet t wh h1 => exact absurd h1 h
    | push T' h1 => exact absurd h1 h
    | swap t wh h1 => exact absurd h1 h
    | pop T' h1 => exact absurd h1 h
    | none T' h1 => exact absurd h1 h
  | shut T h d hc =>
    cases h' with
    | wait T' h1 => exact absurd h h1
    | shut T' => exact ⟨rfl, rfl, rfl, rfl, rfl, z _ _⟩
    | meet t wh _ _ hc' => rw [hc] at hc'; cases hc'
    | push T' _ _ hc' => rw [hc] at hc'; cases hc'
    | swap t wh _ d' => omega
    | pop T' _ d' => omega
    | none T' _ d' => omega
  | meet t wh h d hc ht hwh hf =>
    cases h' with
    | wait T' h1 => exact absurd h h1
    | shut T' _ _ hc' => rw [hc] at hc'; cases hc'
    | meet t' wh' _ _ _ _ _ hf' =>
      obtain ⟨e1, e2, _⟩ := first_unique hf hf'
      obtain rfl := nat_eq e1
      obtain rfl := nat_eq e2
      exact ⟨rfl, rfl, rfl, rfl, rfl, fun _ _ _ => rfl⟩
    | push T' _ _ _ hn => exact absurd hf.isFit (hn t ht)
    | swap t wh _ d' => omega
    | pop T' _ d' => omega
    | none T' _ d' => omega
  | push T h d hc hn =>
    cases h' with
    | wait T' h1 => exact absurd h h1
    | shut T' _ _ hc' => rw [hc] at hc'; cases hc'
    | meet t' wh' _ _ _ ht _ hf' => exact absurd hf'.isFit (hn t' ht)
    | push T' => exact ⟨rfl, rfl, rfl, rfl, rfl, z _ _⟩
    | swap t wh _ d' => omega
    | pop T' _ d' => omega
    | none T' _ d' => omega
  | swap t wh h d ht hwh hf =>
    cases h' with
    | wait T' h1 => exact absurd h h1
    | shut T' _ d' => omega
    | meet t' wh' _ d' => omega
    | push T' _ d' => omega
    | swap t' wh' _ _ _ _ hf' =>
      obtain ⟨e1, e2, _⟩ := first_unique hf hf'
      obtain rfl := nat_eq e1
      obtain rfl := nat_eq e2
      exact ⟨rfl, rfl, rfl, rfl, rfl, fun _ _ _ => rfl⟩
    | pop T' _ _ hn => exact absurd hf.isFit (hn t ht)
    | none T' _ _ hn => exact absurd hf.isFit (hn t ht)
  | pop T h d hn h0 =>
    cases h' with
    | wait T' h1 => exact absurd h h1
    | shut T' _ d' => omega
    | meet t' wh' _ d' => omega
    | push T' _ d' => omega
    | swap t' wh' _ _ ht _ hf' => exact absurd hf'.isFit (hn t' ht)
    | pop T' => exact ⟨rfl, rfl, rfl, rfl, rfl, z _ _⟩
    | none T' _ _ _ h1 => omega
  | none T h d hn h0 =>
    cases h' with
    | wait T' h1 => exact absurd h h1
    | shut T' _ d' => omega
    | meet t' wh' _ d' => omega
    | push T' _ d' => omega
    | swap t' wh' _ _ ht _ hf' => exact absurd hf'.isFit (hn t' ht)
    | pop T' _ _ _ h1 => omega
    | none T' => exact ⟨rfl, rfl, rfl, rfl, rfl, z _ _⟩
end Go.Proofs.Ytihpjfhibhpciaa
