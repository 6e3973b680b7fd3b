/- Plain arithmetic: the words of a call that may be, read again, are the call. -/
import Derived.Test.YtcbdbpcibhjkjabGot
namespace Go.Proofs.Ytcbdbpcibhjkjab
open Go.RowKit

theorem caseOf_caseW (c : C3) (h : caseB c = true) : caseOf (caseW c) = c := by
  obtain ⟨x, y, z⟩ := c
  have k := (caseB_iff _).1 h
  dsimp only at k
  simp only [caseOf, caseW, Prod.mk.injEq]
  omega
theorem headW_parts (k a v : Int) (d : Bool) (n : Nat) (h1 : 1 ≤ k ∧ k ≤ 9) (h2 : 0 ≤ a ∧ a ≤ 65535) (_ : 0 ≤ v ∧ v ≤ 4294967295) (hn : n ≤ 3) :
    headW k a v d n % 256 = k ∧ headW k a v d n / 65536 % 65536 = a ∧ headW k a v d n / 4294967296 = v ∧ (headW k a v d n / 4096 % 2 == 1) = d ∧ ncase (headW k a v d n) = n := by
  have e : headW k a v d n / 256 % 16 = n := by cases d <;> simp [headW] <;> omega
  refine ⟨?_, ?_, ?_, ?_, ?_⟩
  · cases d <;> simp [headW] <;> omega
  · cases d <;> simp [headW] <;> omega
  · cases d <;> simp [headW] <;> omega
  · cases d <;> simp [headW] <;> omega
  · rw [ncase, e, if_pos (by omega)]; simp
theorem casesOf_call (h : Int) (cs : List C3) (hn : ncase h = cs.length) (hl : cs.length ≤ 3) (hc : ∀ c ∈ cs, caseB c = true) :
    casesOf h (caseW (cs.getD 0 (0, 0, 0))) (caseW (cs.getD 1 (0, 0, 0))) (caseW (cs.getD 2 (0, 0, 0))) = cs := by
  unfold casesOf
  rw [hn]
  match cs, hl with
  | [], _ => rfl
  | [c0], _ =>
    have e0 := caseOf_caseW c0 (hc _ (by simp))
    simp [List.range, List.range.loop, e0]
  | [c0, c1], _ =>
    have e0 := caseOf_caseW c0 (hc _ (by simp))
    have e1 := caseOf_caseW c1 (hc _ (by simp))
    simp [List.range, List.range.loop, e0, e1]
  | [c0, c1, c2], _ =>
    have e0 := caseOf_caseW c0 (hc _ (by simp))
    have e1 := caseOf_caseW c1 (hc _ (by simp))
    have e2 := caseOf_caseW c2 (hc _ (by simp))
    simp [List.range, List.range.loop, e0, e1, e2]

theorem readG_call (k a v : Int) (d : Bool) (cs : List C3) (p : Int) (hf : fitsB k a v cs = true) (hp : inB p 4294967295 = true) :
    readG (callL k a v d cs p) = ⟨k, a, v, d, cs, p, true⟩ := by
  obtain ⟨h1, h2, h3, hl, hc⟩ := (fitsB_iff _ _ _ _).1 hf
  obtain ⟨p1, p2⟩ := (inB_iff _ _).1 hp
  obtain ⟨e1, e2, e3, e4, e5⟩ := headW_parts k a v d cs.length h1 h2 h3 hl
  have ec := casesOf_call _ cs e5 hl hc
  have ew : wrap64 p = p := by unfold wrap64; omega
  have hcall : callL k a v d cs p = [headW k a v d cs.length, caseW (cs.getD 0 (0, 0, 0)), caseW (cs.getD 1 (0, 0, 0)), caseW (cs.getD 2 (0, 0, 0)), p] := by rw [callL, if_pos ⟨hf, hp⟩]
  rw [hcall]
  simp only [readG, e1, e2, e3, e4, ec, ew]
  rw [if_pos hcall]
theorem callL_none (k a v : Int) (d : Bool) (cs : List C3) (p : Int) (h : ¬ (fitsB k a v cs = true ∧ inB p 4294967295 = true)) : callL k a v d cs p = [] := by rw [callL, if_neg h]
theorem callL_len (k a v : Int) (d : Bool) (cs : List C3) (p : Int) (hf : fitsB k a v cs = true) (hp : inB p 4294967295 = true) : (callL k a v d cs p).length = 5 := by rw [callL, if_pos ⟨hf, hp⟩]; rfl
theorem caseW_bounds (c : C3) (h : caseB c = true) : 0 ≤ caseW c ∧ caseW c < 18446744073709551616 := by
  have k := (caseB_iff _).1 h
  unfold caseW; omega
theorem callL_bounds (k a v : Int) (d : Bool) (cs : List C3) (p : Int) : ∀ x ∈ callL k a v d cs p, 0 ≤ x ∧ x < 18446744073709551616 := by
  by_cases h : fitsB k a v cs = true ∧ inB p 4294967295 = true
  · rw [callL, if_pos h]
    obtain ⟨h1, h2, h3, hl, hc⟩ := (fitsB_iff _ _ _ _).1 h.1
    obtain ⟨p1, p2⟩ := (inB_iff _ _).1 h.2
    have hz : ∀ i, 0 ≤ caseW (cs.getD i (0, 0, 0)) ∧ caseW (cs.getD i (0, 0, 0)) < 18446744073709551616 := fun i => by
      by_cases hi : i < cs.length
      · rw [List.getD_eq_getElem?_getD, List.getElem?_eq_getElem hi]
        exact caseW_bounds _ (hc _ (List.getElem_mem hi))
      · rw [List.getD_eq_getElem?_getD, List.getElem?_eq_none (by omega)]
        simp [caseW]
    intro x hx
    simp only [List.mem_cons, List.not_mem_nil, or_false] at hx
    rcases hx with rfl | rfl | rfl | rfl | rfl
    · cases d <;> simp [headW] <;> omega
    · exact hz 0
    · exact hz 1
    · exact hz 2
    · omega
  · rw [callL_none _ _ _ _ _ _ h]
    intro x hx
    cases hx
/-- What is read so is what was read. -/
theorem readG_ok {xs : List Int} (h : (readG xs).ok = true) : callL (readG xs).kind (readG xs).arg (readG xs).value (readG xs).d (readG xs).cs (readG xs).phase = xs := by
  by_cases hl : xs.length = 5
  · match xs, hl with
    | [l0, l1, l2, l3, l4], _ =>
      by_cases hq : callL (l0 % 256) (l0 / 65536 % 65536) (l0 / 4294967296) (l0 / 4096 % 2 == 1) (casesOf l0 l1 l2 l3) (wrap64 l4) = [l0, l1, l2, l3, l4]
      · simp only [readG]
        rw [if_pos hq]
        exact hq
      · simp only [readG] at h
        rw [if_neg hq] at h
        cases h
  · rw [readG_short hl] at h
    cases h
theorem readG_no {xs : List Int} (h : (readG xs).ok = false) : readG xs = ⟨0, 0, 0, false, [], 0, false⟩ := by
  by_cases hl : xs.length = 5
  · match xs, hl with
    | [l0, l1, l2, l3, l4], _ =>
      by_cases hq : callL (l0 % 256) (l0 / 65536 % 65536) (l0 / 4294967296) (l0 / 4096 % 2 == 1) (casesOf l0 l1 l2 l3) (wrap64 l4) = [l0, l1, l2, l3, l4]
      · simp only [readG] at h
        rw [if_pos hq] at h
        cases h
      · simp only [readG]
        rw [if_neg hq]
        rfl
  · rw [readG_short hl]
    rfl
theorem readG_yes {xs : List Int} (h : (readG xs).ok = true) : readG xs = ⟨(readG xs).kind, (readG xs).arg, (readG xs).value, (readG xs).d, (readG xs).cs, (readG xs).phase, true⟩ := by
  generalize readG xs = g at h
  cases g
  cases h
  rfl
end Go.Proofs.Ytcbdbpcibhjkjab
