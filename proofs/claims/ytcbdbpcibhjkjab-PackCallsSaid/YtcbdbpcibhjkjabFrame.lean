/- The contract of the reference's Behind, and the frame of the seat's laws on results. -/
import Derived.Test.YtcbdbpcibhjkjabRanks
import Derived.Below
import Derived.ChangeSame
namespace Go.Proofs.Ytcbdbpcibhjkjab
open Go.ChangeShapes Go.WideShapes Go.ChangeAt Go.RowKit Go.Joins Go.Deep

theorem rbehind_any (a b : Int) (a0 : 0 ≤ a) (a1 : a ≤ 18446744073709551615) (b0 : 0 ≤ b) (b1 : b ≤ 18446744073709551615) (w : World) : Calls Try.prog 22 #[.int .u64 a, .int .u64 b] w fun e w' => e = .returned (.bool (behB a b)) ∧ Below w.heap.size w w' := by
  have FA := Lib.hid (rfl : finB (qK a) = finB (qK a))
  by_cases h1 : qS a < qS b
  · have HB := Lib.hid (show behB a b = true by rw [behB_form]; simp [h1])
    go_enter Try.func22, Try.ntmps22
    go_wp2_with (first
      | (go_at_call 15; (with_reducible refine (rreadResult_any a a0 a1 _).mono ?_); rintro e w1 ⟨rfl, rfl⟩)
      | (go_at_call 15; (with_reducible refine (rreadResult_any b b0 b1 _).mono ?_); rintro e w1 ⟨rfl, rfl⟩)
      | (go_at_call 18; (with_reducible refine (rfinal_eq (qS a) (qC a) (qK a) (qV a) FA.out _).mono ?_); rintro e w1 ⟨rfl, rfl⟩)
      | (go_at_call 18; (with_reducible refine (rfinal_any (qS b) (qC b) (qK b) (qV b) _).mono ?_); rintro e w1 ⟨rfl, rfl⟩))
    go_ret
    exact ⟨ret_bool HB.out, by repeat' (first | with_reducible exact Below.refl _ _ | with_reducible refine Below.drew ?_ | with_reducible refine Below.alloc ?_ ?_ _ | (simp; done) | (simp; omega) | omega)⟩
  have k1 : decide (qS a < qS b) = false := by simpa using h1
  by_cases h2 : qS a = qS b
  · have k2 : (qS a == qS b) = true := by simp [h2]
    clear FA
    cases hf : finB (qK a)
    · have FA := Lib.hid hf
      have HB := Lib.hid (show behB a b = finB (qK b) by rw [behB_form, k1, k2, hf]; rfl)
      clear h1 h2 hf
      go_enter Try.func22, Try.ntmps22
      go_wp2_with (first
      | (go_at_call 15; (with_reducible refine (rreadResult_any a a0 a1 _).mono ?_); rintro e w1 ⟨rfl, rfl⟩)
      | (go_at_call 15; (with_reducible refine (rreadResult_any b b0 b1 _).mono ?_); rintro e w1 ⟨rfl, rfl⟩)
      | (go_at_call 18; (with_reducible refine (rfinal_eq (qS a) (qC a) (qK a) (qV a) FA.out _).mono ?_); rintro e w1 ⟨rfl, rfl⟩)
      | (go_at_call 18; (with_reducible refine (rfinal_any (qS b) (qC b) (qK b) (qV b) _).mono ?_); rintro e w1 ⟨rfl, rfl⟩))
      go_ret
      exact ⟨ret_bool HB.out, by repeat' (first | with_reducible exact Below.refl _ _ | with_reducible refine Below.drew ?_ | with_reducible refine Below.alloc ?_ ?_ _ | (simp; done) | (simp; omega) | omega)⟩
    · have FA := Lib.hid hf
      have HB := Lib.hid (show behB a b = false by rw [behB_form, k1, k2, hf]; rfl)
      clear h1 h2 hf
      go_enter Try.func22, Try.ntmps22
      go_wp2_with (first
      | (go_at_call 15; (with_reducible refine (rreadResult_any a a0 a1 _).mono ?_); rintro e w1 ⟨rfl, rfl⟩)
      | (go_at_call 15; (with_reducible refine (rreadResult_any b b0 b1 _).mono ?_); rintro e w1 ⟨rfl, rfl⟩)
      | (go_at_call 18; (with_reducible refine (rfinal_eq (qS a) (qC a) (qK a) (qV a) FA.out _).mono ?_); rintro e w1 ⟨rfl, rfl⟩)
      | (go_at_call 18; (with_reducible refine (rfinal_any (qS b) (qC b) (qK b) (qV b) _).mono ?_); rintro e w1 ⟨rfl, rfl⟩))
      go_ret
      exact ⟨ret_bool HB.out, by repeat' (first | with_reducible exact Below.refl _ _ | with_reducible refine Below.drew ?_ | with_reducible refine Below.alloc ?_ ?_ _ | (simp; done) | (simp; omega) | omega)⟩
  · have k2 : (qS a == qS b) = false := by simp [h2]
    have HB := Lib.hid (show behB a b = false by rw [behB_form, k1, k2]; rfl)
    clear h1 h2
    go_enter Try.func22, Try.ntmps22
    go_wp2_with (first
      | (go_at_call 15; (with_reducible refine (rreadResult_any a a0 a1 _).mono ?_); rintro e w1 ⟨rfl, rfl⟩)
      | (go_at_call 15; (with_reducible refine (rreadResult_any b b0 b1 _).mono ?_); rintro e w1 ⟨rfl, rfl⟩)
      | (go_at_call 18; (with_reducible refine (rfinal_eq (qS a) (qC a) (qK a) (qV a) FA.out _).mono ?_); rintro e w1 ⟨rfl, rfl⟩)
      | (go_at_call 18; (with_reducible refine (rfinal_any (qS b) (qC b) (qK b) (qV b) _).mono ?_); rintro e w1 ⟨rfl, rfl⟩))
    go_ret
    exact ⟨ret_bool HB.out, by repeat' (first | with_reducible exact Below.refl _ _ | with_reducible refine Below.drew ?_ | with_reducible refine Below.alloc ?_ ?_ _ | (simp; done) | (simp; omega) | omega)⟩

theorem own : ownKnob Try.prog.godebug = none := by kernel_rfl
theorem Try.cells24 : Try.prog.cellsOf 24 = 4 := by kernel_rfl

section
variable {H : Type} {enc : TypeId × Value → H} {P : Program}
theorem post_of_below {f : Func} {s : ChangeSpec} {apart fresh handsOn again : Bool} {W W' : World} {args : Array Value} {v : Value} {ds gs : List (DataW H)} {before pa pv : List MemPlace}
    (hW : DataW.Whole enc P f.params.toList s.vars apart W args.toList ds gs before)
    (hres : ∀ (b : Nat) (sp : Nat → Bool) (hd : Bool), DataW.TrodAll enc P W' b sp hd f.resultTypes.toList (v.resultList f.resultTypes.size) (s.fn H (ds ++ gs)).results [])
    (hargs : ∀ sp : Nat → Bool, (∀ p ∈ before, sp p.block = true) → DataW.TrodAll enc P W' 0 sp true f.params.toList args.toList (s.fn H (ds ++ gs)).args pa)
    (hvars : ∀ sp : Nat → Bool, (∀ p ∈ before, sp p.block = true) → DataW.TrodVars enc P W' sp s.vars (s.fn H (ds ++ gs)).vars pv)
    (hps : before = pa ++ pv) (hb : Below W.heap.size W W')
    (hok : ∀ (j : Nat) (t : TypeId) (r : Value), f.resultTypes[j]? = some t → (v.resultList f.resultTypes.size)[j]? = some r → Value.okWide P W' .any 0 t r) :
    s.post enc P f apart fresh handsOn again W args v W' := by
  have hlt : ∀ p ∈ before, p.block < W.heap.size := fun p hp => hW.lt p hp
  have hold : ∀ p ∈ before, (fun b => decide (b < W.heap.size)) p.block = true := fun p hp => by simpa using hlt p hp
  refine ⟨ds, gs, before, [], pa, pv, hW, hres _ _ _, hargs _ hold, hvars _ hold, World.keptBut_mono (fun p hp => ⟨hp, ?_⟩) (hb.frame (· ∈ before)), fun _ => ?_⟩
  · rw [hps, List.mem_append] at hp
    exact Or.inr hp
  · obtain ⟨_, _, _, _, _, hz, hn⟩ := hW
    refine ⟨hok, _, _, ([] ++ pa) ++ pv, ⟨[] ++ pa, pv, trodAll_append (hargs _ (fun _ _ => rfl)) (hres _ _ _), hvars _ (fun _ _ => rfl), rfl, ?_, ?_⟩, ?_⟩
    · intro b off hp
      have hin : MemPlace.cell b off ∈ before := by rw [hps]; simpa using hp
      rw [hb.frozen (hlt _ hin)]
      exact hz b off hin
    · intro ha
      have := hn ha
      rw [hps] at this
      simpa using this
    · intro p hp _
      rw [hps]
      simpa using hp
end

section
variable {H : Type} {enc : TypeId × Value → H} {w : World} {base : Nat} {spare : Nat → Bool} {held : Bool}
theorem open_res {r : Reach} {b0 : Nat} {v : Value} {d : DataW H} {p : List MemPlace} (hv : Value.okWide Try.prog w r b0 24 v) (h : DataW.Trod enc Try.prog w base spare held 24 v d p) :
    ∃ s c k x : Int, v = .agg #[.int .i64 s, .int .i64 c, .int .i64 k, .int .i64 x] ∧ d = .agg [.lit (.int .i64 s), .lit (.int .i64 c), .lit (.int .i64 k), .lit (.int .i64 x)] ∧ p = [] ∧ (Lit.int .i64 s).wf = true ∧ (Lit.int .i64 c).wf = true ∧ (Lit.int .i64 k).wf = true ∧ (Lit.int .i64 x).wf = true := by
  obtain ⟨c0, c1, c2, c3, y0, y1, y2, y3, m, rfl, rfl, rfl, hy0, hy1, hy2, hy3⟩ := open_agg4 Try.underlying24 (by kernel_rfl) Try.cells24 hv h
  obtain ⟨a0, e0, rfl, w0⟩ := DataW.trod_int Try.underlying3 hy0
  obtain ⟨a1, e1, rfl, w1⟩ := DataW.trod_int Try.underlying3 hy1
  obtain ⟨a2, e2, rfl, w2⟩ := DataW.trod_int Try.underlying22 hy2
  obtain ⟨a3, e3, rfl, w3⟩ := DataW.trod_int Try.underlying3 hy3
  simp at e0 e1 e2 e3
  subst e0 e1 e2 e3
  exact ⟨a0, a1, a2, a3, rfl, rfl, rfl, w0, w1, w2, w3⟩
theorem shut_res {s c k x : Int} (w0 : (Lit.int .i64 s).wf = true) (w1 : (Lit.int .i64 c).wf = true) (w2 : (Lit.int .i64 k).wf = true) (w3 : (Lit.int .i64 x).wf = true) :
    DataW.Trod enc Try.prog w base spare held 24 (.agg #[.int .i64 s, .int .i64 c, .int .i64 k, .int .i64 x]) (.agg [.lit (.int .i64 s), .lit (.int .i64 c), .lit (.int .i64 k), .lit (.int .i64 x)]) [] :=
  shut_agg4 (y0 := (.lit (.int .i64 s), [])) (y1 := (.lit (.int .i64 c), [])) (y2 := (.lit (.int .i64 k), [])) (y3 := (.lit (.int .i64 x), [])) Try.underlying24 (by kernel_rfl) Try.cells24
    ⟨1, by simp [DataW.trod, Try.underlying3, w0]⟩ ⟨1, by simp [DataW.trod, Try.underlying3, w1]⟩ ⟨1, by simp [DataW.trod, Try.underlying22, w2]⟩ ⟨1, by simp [DataW.trod, Try.underlying3, w3]⟩
end
end Go.Proofs.Ytcbdbpcibhjkjab
