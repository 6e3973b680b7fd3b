/- What something done with a channel comes to; send and receive in general, over the seat's program. -/
import Derived.Test.YtihpjfhibhpciaaChD
namespace Go.Proofs.Ytihpjfhibhpciaa
open Go.ChangeShapes Go.WideShapes Go.ChangeAt Go.RowKit Go.Joins

theorem least_hit {f : Nat → Nat → Int} {d hd : Int} : ∀ (m : Nat), (∃ j, j < m ∧ Hit f d hd j) → ∃ j, j < m ∧ Hit f d hd j ∧ ∀ j', j' < j → ¬ Hit f d hd j'
  | 0, ⟨_, h, _⟩ => absurd h (Nat.not_lt_zero _)
  | m + 1, ⟨j, hj, hh⟩ => by
    by_cases e : ∃ j, j < m ∧ Hit f d hd j
    · obtain ⟨i, hi, h1, h2⟩ := least_hit m e
      exact ⟨i, by omega, h1, h2⟩
    · have hjm : j = m := by
        rcases Nat.lt_or_ge j m with h | h
        · exact absurd ⟨j, h, hh⟩ e
        · omega
      subst hjm
      exact ⟨j, hj, hh, fun j' h' hh' => e ⟨j', h', hh'⟩⟩
theorem first_ex (V : Nat → WV) (d hd : Int) : ∀ n, ∃ t wh ok, FirstIs V n d hd t wh ok
  | 0 => ⟨0, 0, false, .inl ⟨rfl, rfl, rfl, fun i hi => absurd hi (Nat.not_lt_zero _)⟩⟩
  | n + 1 => by
    obtain ⟨t, wh, ok, h⟩ := first_ex V d hd n
    by_cases hf : Fit V d hd n
    · obtain ⟨j, hj, hh, hm⟩ := least_hit _ hf.2
      cases ok with
      | false => exact ⟨_, _, _, h.first hf hj hh hm⟩
      | true =>
        by_cases hlt : (V n).tk < (V t.toNat).tk
        · exact ⟨_, _, _, h.over hf hj hh hm hlt⟩
        · exact ⟨_, _, _, h.skip (fun _ => ⟨rfl, by omega⟩)⟩
    · exact ⟨_, _, _, h.skip (fun e => absurd e hf)⟩
theorem first_unique {V : Nat → WV} {k : Nat} {d hd t wh t' wh' : Int} {ok ok' : Bool} (h : FirstIs V k d hd t wh ok) (h' : FirstIs V k d hd t' wh' ok') : t' = t ∧ wh' = wh ∧ ok' = ok := by
  rcases h with ⟨rfl, rfl, rfl, h⟩ | ⟨rfl, i, hi, rfl, hon, ⟨j, hj, rfl, hh, hm⟩, hl⟩
  · rcases h' with ⟨rfl, rfl, rfl, _⟩ | ⟨_, i, hi, _, hon, ⟨j, hj, _, hh, _⟩, _⟩
    · exact ⟨rfl, rfl, rfl⟩
    · exact absurd ⟨hon, j, hj, hh⟩ (h i hi)
  · rcases h' with ⟨_, _, _, h'⟩ | ⟨rfl, i', hi', rfl, hon', ⟨j', hj', rfl, hh', hm'⟩, hl'⟩
    · exact absurd ⟨hon, j, hj, hh⟩ (h' i hi)
    · have a1 := hl i' hi' ⟨hon', j', hj', hh'⟩
      have a2 := hl' i hi ⟨hon, j, hj, hh⟩
      have e : i' = i := by omega
      subst e
      have e : j' = j := by
        rcases Nat.lt_trichotomy j' j with h | h | h
        · exact absurd hh' (hm j' h)
        · exact h
        · exact absurd hh (hm' j h)
      subst e
      exact ⟨rfl, rfl, rfl⟩
theorem first_yes {V : Nat → WV} {n : Nat} {d hd : Int} (h : ∃ i, i < n ∧ Fit V d hd i) : ∃ t wh : Nat, t < n ∧ wh < (V t).m ∧ FirstIs V n d hd t wh true := by
  obtain ⟨t, wh, ok, hf⟩ := first_ex V d hd n
  obtain rfl : ok = true := hf.ok_iff.2 h
  rcases hf with ⟨h, _⟩ | ⟨_, i, hi, rfl, hon, ⟨j, hj, rfl, hh⟩, hl⟩
  · cases h
  · exact ⟨i, j, hi, hj, .inr ⟨rfl, i, hi, rfl, hon, ⟨j, hj, rfl, hh⟩, hl⟩⟩
/-- What becomes of a channel, of calls that wait, what it comes to, and what is told. -/
inductive DoIs (C : CH) (V : Nat → WV) (n : Nat) (hd dir x : Int) : CH → (Nat → WV) → Int → Int → Nat → (Nat → Nat → Int) → Prop
  | wait (T : Nat → Nat → Int) : ¬ Rdy C V n hd dir → DoIs C V n hd dir x C V 10 0 0 T
  | shut (T : Nat → Nat → Int) : Rdy C V n hd dir → dir = 1 → C.closed = true → DoIs C V n hd dir x C V 9 0 0 T
  | meet (t wh : Nat) : Rdy C V n hd dir → dir = 1 → C.closed = false → t < n → wh < (V t).m → FirstIs V n 2 hd t wh true → DoIs C V n hd dir x C (zeroAt V (fun _ => (t : Int)) 1) 0 0 1 (toldT V (fun _ => (t : Int)) (fun _ => (wh : Int)) 0 x)
  | push (T : Nat → Nat → Int) : Rdy C V n hd dir → dir = 1 → C.closed = false → (∀ i, i < n → ¬ Fit V 2 hd i) → DoIs C V n hd dir x ⟨C.gen, C.cap, C.used, C.closed, C.n + 1, updI C.f C.n x⟩ V 0 0 0 T
  | swap (t wh : Nat) : Rdy C V n hd dir → dir = 2 → t < n → wh < (V t).m → FirstIs V n 1 hd t wh true → DoIs C V n hd dir x ⟨C.gen, C.cap, C.used, C.closed, C.n, fun i => updI C.f C.n ((V t).c wh 2) (i + 1)⟩ (zeroAt V (fun _ => (t : Int)) 1) 0 (updI C.f C.n ((V t).c wh 2) 0) 1 (toldT V (fun _ => (t : Int)) (fun _ => (wh : Int)) 0 0)
  | pop (T : Nat → Nat → Int) : Rdy C V n hd dir → dir = 2 → (∀ i, i < n → ¬ Fit V 1 hd i) → 0 < C.n → DoIs C V n hd dir x ⟨C.gen, C.cap, C.used, C.closed, C.n - 1, fun i => C.f (i + 1)⟩ V 0 (C.f 0) 0 T
  | none (T : Nat → Nat → Int) : Rdy C V n hd dir → dir = 2 → (∀ i, i < n → ¬ Fit V 1 hd i) → C.n = 0 → DoIs C V n hd dir x C V 9 0 0 T
/-- .. and it lies so. -/
def DoAny (B : Nat) (C : CH) (V : Nat → WV) (n : Nat) (hd dir x : Int) (w : World) (e : Ending) (w' : World) : Prop :=
  ∃ C' V' code rv m T, DoIs C V n hd dir x C' V' code rv m T ∧ DoRet B C' V' n code rv m T w e w'
theorem DoAny.of {B : Nat} {C C' : CH} {V V' : Nat → WV} {n m : Nat} {hd dir x code rv : Int} {T : Nat → Nat → Int} {w w' : World} {e : Ending} (hi : DoIs C V n hd dir x C' V' code rv m T) (h : DoRet B C' V' n code rv m T w e w') : DoAny B C V n hd dir x w e w' := ⟨_, _, _, _, _, _, hi, h⟩
theorem send_any (B : Nat) (v : Value) (C : CH) (a : Option Addr) (n cap : Nat) (V : Nat → WV) (hd x : Int) (w : World) (hB : B ≤ w.heap.size) (hc : ChanOwn B w v C) (hC : (C.n + 1) * 8 ≤ 140737488355328) (h : LowW B w a n cap V) (hr : Rdy C V n hd 1) (hcl : C.closed = false) :
    Calls Try.prog 72 #[v, .int .i64 hd, .slice a n cap, .int .i64 x] w (DoAny B C V n hd 1 x w) := by
  by_cases hf : ∃ i, i < n ∧ Fit V 2 hd i
  · obtain ⟨t, wh, ht, hwh, hx⟩ := first_yes hf
    exact (send_yes B v C a n cap V hd x w hB hc (by omega) h t wh ht (fun t' wh' ok h' => first_unique hx h')).mono fun e w' hd' => .of (.meet t wh hr rfl hcl ht hwh hx) hd'
  · have hno : ∀ i, i < n → ¬ Fit V 2 hd i := fun i hi hh => hf ⟨i, hi, hh⟩
    exact (send_no B v C a n cap V hd x w hB hc hC h hno).mono fun e w' hd' => .of (.push _ hr rfl hcl hno) hd'
theorem receive_any (B : Nat) (v : Value) (C : CH) (a : Option Addr) (n cap : Nat) (V : Nat → WV) (hd x : Int) (w : World) (hB : B ≤ w.heap.size) (hc : ChanOwn B w v C) (hC : (C.n + 1) * 8 ≤ 140737488355328) (h : LowW B w a n cap V) (hr : Rdy C V n hd 2) :
    Calls Try.prog 71 #[v, .int .i64 hd, .slice a n cap] w (DoAny B C V n hd 2 x w) := by
  by_cases hf : ∃ i, i < n ∧ Fit V 1 hd i
  · obtain ⟨t, wh, ht, hwh, hx⟩ := first_yes hf
    exact (receive_yes B v C a n cap V hd w hB hc hC h t wh ht hwh (fun t' wh' ok h' => first_unique hx h')).mono fun e w' hd' => .of (.swap t wh hr rfl ht hwh hx) hd'
  · have hno : ∀ i, i < n → ¬ Fit V 1 hd i := fun i hi hh => hf ⟨i, hi, hh⟩
    by_cases h0 : C.n = 0
    · exact (receive_empty B v C a n cap V hd w hB hc h0 h hno).mono fun e w' hd' => .of (.none _ hr rfl hno h0) hd'
    · exact (receive_pop B v C a n cap V hd w hB hc (by omega) (by omega) h hno).mono fun e w' hd' => .of (.pop _ hr rfl hno (by omega)) hd'
end Go.Proofs.Ytihpjfhibhpciaa
