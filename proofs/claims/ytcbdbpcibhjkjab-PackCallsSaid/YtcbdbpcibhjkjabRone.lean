/- The contract of the reference's one over the seat's program; and plain arithmetic: when words are a call's. -/
import Derived.Test.YtcbdbpcibhjkjabMath
namespace Go.Proofs.Ytcbdbpcibhjkjab
open Go.ChangeShapes Go.WideShapes Go.ChangeAt Go.RowKit Go.Joins

def oneB (x : Int) : Bool := (x % 256 == 1 || x % 256 == 2) && x / 16777216 % 256 == 0
theorem oneB_iff (x : Int) : oneB x = true ↔ (x % 256 = 1 ∨ x % 256 = 2) ∧ x / 16777216 % 256 = 0 := by simp [oneB]

theorem one_any (x : Int) (h0 : 0 ≤ x) (h1 : x < 18446744073709551616) (w : World) : Calls Try.prog 38 #[.int .u64 x] w
    fun e w' => e = .returned (.tuple #[.agg #[.int .i64 (x % 256), .int .i64 (x / 256 % 65536), .int .i64 (x / 4294967296)], .bool (oneB x)]) ∧
      (w.alloc (.cells #[.int .i64 (x % 256), .int .i64 (x / 256 % 65536), .int .i64 (x / 4294967296)] 52)).alloc (.cells #[.int .i64 (x % 256), .int .i64 (x / 256 % 65536), .int .i64 (x / 4294967296)] 52) = w' := by
  have b1 : 0 ≤ x % 256 := by omega
  have b2 : x % 256 < 256 := by omega
  have b3 : 0 ≤ x / 256 % 65536 := by omega
  have b4 : x / 256 % 65536 < 65536 := by omega
  have b5 : 0 ≤ x / 4294967296 := by omega
  have b6 : x / 4294967296 < 4294967296 := by omega
  by_cases k1 : x % 256 = 1
  · have HO := Lib.hid (show oneB x = (x / 16777216 % 256 == 0) by simp [oneB, k1])
    have e1 : (x % 256 == 1) = true := by simp [k1]
    clear k1
    go_enter Try.func38, Try.ntmps38
    go_wp2
    refine bodyPost_ret (v := .tuple #[.agg #[.int .i64 (x % 256), .int .i64 (x / 256 % 65536), .int .i64 (x / 4294967296)], .bool (x / 16777216 % 256 == 0)]) (by simp [results, Try.results38, go_sem]) rfl ⟨?_, rfl⟩
    rw [HO.out]
  · have e1 : (x % 256 == 1) = false := by simp [k1]
    by_cases k2 : x % 256 = 2
    · have HO := Lib.hid (show oneB x = (x / 16777216 % 256 == 0) by simp [oneB, k2])
      have e2 : (x % 256 == 2) = true := by simp [k2]
      clear k1 k2
      go_enter Try.func38, Try.ntmps38
      go_wp2
      refine bodyPost_ret (v := .tuple #[.agg #[.int .i64 (x % 256), .int .i64 (x / 256 % 65536), .int .i64 (x / 4294967296)], .bool (x / 16777216 % 256 == 0)]) (by simp [results, Try.results38, go_sem]) rfl ⟨?_, rfl⟩
      rw [HO.out]
    · have HO := Lib.hid (show oneB x = false by simp [oneB, k1, k2])
      have e2 : (x % 256 == 2) = false := by simp [k2]
      clear k1 k2
      go_enter Try.func38, Try.ntmps38
      go_wp2
      refine bodyPost_ret (v := .tuple #[.agg #[.int .i64 (x % 256), .int .i64 (x / 256 % 65536), .int .i64 (x / 4294967296)], .bool false]) (by simp [results, Try.results38, go_sem]) rfl ⟨?_, rfl⟩
      rw [HO.out]

/-- Whether the word at a place behind the first one is as it must be, of so many cases. -/
def chk (n : Nat) (j : Nat) (x : Int) : Prop := if j < n then oneB x = true else x = 0
def hdr (l0 l4 : Int) : Prop := l4 ≤ 4294967295 ∧ 1 ≤ l0 % 256 ∧ l0 % 256 ≤ 9 ∧ l0 / 256 % 16 ≤ 3 ∧ l0 / 4096 % 16 ≤ 1

theorem caseW_caseOf (x : Int) : caseW (caseOf x) = x ↔ x / 16777216 % 256 = 0 := by
  unfold caseW caseOf
  dsimp only
  omega
theorem caseB_caseOf (x : Int) (h0 : 0 ≤ x) (h1 : x < 18446744073709551616) : caseB (caseOf x) = true ↔ x % 256 = 1 ∨ x % 256 = 2 := by
  rw [caseB_iff]
  unfold caseOf
  dsimp only
  omega
theorem headW_eq (l0 : Int) (hn : l0 / 256 % 16 ≤ 3) : headW (l0 % 256) (l0 / 65536 % 65536) (l0 / 4294967296) (l0 / 4096 % 2 == 1) (ncase l0) = l0 ↔ l0 / 4096 % 16 ≤ 1 := by
  have e : ((ncase l0 : Nat) : Int) = l0 / 256 % 16 := by rw [ncase, if_pos hn]; omega
  unfold headW
  rw [e]
  by_cases k : l0 / 4096 % 2 = 1
  · simp [k]; omega
  · simp [k]; omega

theorem casesOf_length (l0 l1 l2 l3 : Int) : (casesOf l0 l1 l2 l3).length = ncase l0 := by simp [casesOf]
theorem casesOf_getD (l0 l1 l2 l3 : Int) (i : Nat) : (casesOf l0 l1 l2 l3).getD i (0, 0, 0) = if i < ncase l0 then caseOf ([l1, l2, l3].getD i 0) else (0, 0, 0) := by
  by_cases h : i < ncase l0
  · rw [if_pos h]; simp [casesOf, List.getD_eq_getElem?_getD, List.getElem?_map, List.getElem?_range h]
  · rw [if_neg h, List.getD_eq_getElem?_getD, List.getElem?_eq_none (by rw [casesOf_length]; omega)]; rfl
theorem ncase_le (l0 : Int) : ncase l0 ≤ 3 := by unfold ncase; split <;> omega
theorem caseW_zero : caseW (0, 0, 0) = 0 := rfl

theorem readG_good (l0 l1 l2 l3 l4 : Int) (hl : ∀ x ∈ [l0, l1, l2, l3, l4], 0 ≤ x ∧ x < 18446744073709551616) (hh : hdr l0 l4) (h1 : chk (ncase l0) 0 l1) (h2 : chk (ncase l0) 1 l2) (h3 : chk (ncase l0) 2 l3) :
    readG [l0, l1, l2, l3, l4] = ⟨l0 % 256, l0 / 65536 % 65536, l0 / 4294967296, l0 / 4096 % 2 == 1, casesOf l0 l1 l2 l3, l4, true⟩ := by
  obtain ⟨g1, g2, g3, g4, g5⟩ := hh
  have b0 := hl l0 (by simp)
  have b1 := hl l1 (by simp)
  have b2 := hl l2 (by simp)
  have b3 := hl l3 (by simp)
  have b4 := hl l4 (by simp)
  have ew : wrap64 l4 = l4 := by unfold wrap64; omega
  have each : ∀ (i : Nat) (x : Int), 0 ≤ x → x < 18446744073709551616 → chk (ncase l0) i x → [l1, l2, l3].getD i 0 = x → caseW ((casesOf l0 l1 l2 l3).getD i (0, 0, 0)) = x := by
    intro i x x0 x1 hc hx
    rw [casesOf_getD, hx]
    unfold chk at hc
    split
    · rename_i hi
      rw [if_pos hi] at hc
      exact (caseW_caseOf x).2 ((oneB_iff x).1 hc).2
    · rename_i hi
      rw [if_neg hi] at hc
      rw [hc]; rfl
  have hfit : fitsB (l0 % 256) (l0 / 65536 % 65536) (l0 / 4294967296) (casesOf l0 l1 l2 l3) = true := by
    rw [fitsB_iff]
    refine ⟨⟨g2, g3⟩, by omega, by omega, by rw [casesOf_length]; exact ncase_le l0, ?_⟩
    intro c hc
    obtain ⟨i, hi, rfl⟩ := List.getElem_of_mem hc
    have hi' : i < ncase l0 := by rw [← casesOf_length l0 l1 l2 l3]; exact hi
    have e : (casesOf l0 l1 l2 l3)[i] = caseOf ([l1, l2, l3].getD i 0) := by
      have := casesOf_getD l0 l1 l2 l3 i
      rw [if_pos hi', List.getD_eq_getElem?_getD, List.getElem?_eq_getElem hi] at this
      simpa using this
    rw [e]
    have hn := ncase_le l0
    have hi3 : i = 0 ∨ i = 1 ∨ i = 2 := by omega
    rcases hi3 with rfl | rfl | rfl
    · unfold chk at h1; rw [if_pos hi'] at h1; exact (caseB_caseOf l1 b1.1 b1.2).2 ((oneB_iff l1).1 h1).1
    · unfold chk at h2; rw [if_pos hi'] at h2; exact (caseB_caseOf l2 b2.1 b2.2).2 ((oneB_iff l2).1 h2).1
    · unfold chk at h3; rw [if_pos hi'] at h3; exact (caseB_caseOf l3 b3.1 b3.2).2 ((oneB_iff l3).1 h3).1
  have hp : inB l4 4294967295 = true := (inB_iff _ _).2 ⟨b4.1, g1⟩
  simp only [readG, ew]
  rw [if_pos]
  rw [callL, if_pos ⟨hfit, hp⟩, casesOf_length, (headW_eq l0 g4).2 g5, each 0 l1 b1.1 b1.2 h1 rfl, each 1 l2 b2.1 b2.2 h2 rfl, each 2 l3 b3.1 b3.2 h3 rfl]

theorem readG_bad (l0 l1 l2 l3 l4 : Int) (hl : ∀ x ∈ [l0, l1, l2, l3, l4], 0 ≤ x ∧ x < 18446744073709551616) (hh : ¬ (hdr l0 l4 ∧ chk (ncase l0) 0 l1 ∧ chk (ncase l0) 1 l2 ∧ chk (ncase l0) 2 l3)) :
    readG [l0, l1, l2, l3, l4] = ⟨0, 0, 0, false, [], 0, false⟩ := by
  have b0 := hl l0 (by simp)
  have b1 := hl l1 (by simp)
  have b2 := hl l2 (by simp)
  have b3 := hl l3 (by simp)
  have b4 := hl l4 (by simp)
  simp only [readG]
  rw [if_neg]
  · rfl
  · intro hq
    apply hh
    by_cases hf : fitsB (l0 % 256) (l0 / 65536 % 65536) (l0 / 4294967296) (casesOf l0 l1 l2 l3) = true ∧ inB (wrap64 l4) 4294967295 = true
    · rw [callL, if_pos hf] at hq
      simp only [List.cons.injEq, and_true] at hq
      obtain ⟨q0, q1, q2, q3, q4⟩ := hq
      obtain ⟨k1, _, _, _, hc⟩ := (fitsB_iff _ _ _ _).1 hf.1
      have hp := (inB_iff _ _).1 hf.2
      rw [q4] at hp
      rw [casesOf_length] at q0
      have hn : l0 / 256 % 16 ≤ 3 := by
        by_cases h : l0 / 256 % 16 ≤ 3
        · exact h
        · have e : ncase l0 = 3 := by simp [ncase, h]
          rw [e] at q0
          exfalso
          unfold headW at q0
          by_cases k : l0 / 4096 % 2 = 1
          · simp [k] at q0; omega
          · simp [k] at q0; omega
      have hr := (headW_eq l0 hn).1 q0
      refine ⟨⟨hp.2, k1.1, k1.2, hn, hr⟩, ?_⟩
      have each : ∀ (i : Nat) (x : Int), 0 ≤ x → x < 18446744073709551616 → caseW ((casesOf l0 l1 l2 l3).getD i (0, 0, 0)) = x → [l1, l2, l3].getD i 0 = x → chk (ncase l0) i x := by
        intro i x x0 x1 hw hx
        unfold chk
        rw [casesOf_getD, hx] at hw
        by_cases hi : i < ncase l0
        · rw [if_pos hi] at hw ⊢
          refine (oneB_iff x).2 ⟨(caseB_caseOf x x0 x1).1 (hc _ ?_), (caseW_caseOf x).1 hw⟩
          have hil : i < (casesOf l0 l1 l2 l3).length := by rw [casesOf_length]; exact hi
          have e : (casesOf l0 l1 l2 l3)[i] = caseOf x := by
            have := casesOf_getD l0 l1 l2 l3 i
            rw [if_pos hi, List.getD_eq_getElem?_getD, List.getElem?_eq_getElem hil, hx] at this
            simpa using this
          rw [← e]
          exact List.getElem_mem hil
        · rw [if_neg hi] at hw ⊢
          rw [← hw]; rfl
      exact ⟨each 0 l1 b1.1 b1.2 q1 rfl, each 1 l2 b2.1 b2.2 q2 rfl, each 2 l3 b3.1 b3.2 q3 rfl⟩
    · rw [callL_none _ _ _ _ _ _ hf] at hq
      cases hq
end Go.Proofs.Ytcbdbpcibhjkjab
