/- Contracts of Late and of the reference's, over the seat's program; and what they have to do with All. -/
import Derived.Test.YtiadkhdcnipfbaaEpC
namespace Go.Proofs.Ytiadkhdcnipfbaa
open Go.ChangeShapes Go.WideShapes Go.ChangeAt Go.RowKit Go.Joins

/-- The threads that keep an epoch from its end. -/
def lateL (f : Nat → Int) (g : Int) : Nat → List Int
  | 0 => []
  | k + 1 => if letsB (f k) g = true then lateL f g k else lateL f g k ++ [(k : Int)]
theorem lateL_le (f : Nat → Int) (g : Int) (n : Nat) : (lateL f g n).length ≤ n := by
  induction n with
  | zero => simp [lateL]
  | succ k ih => 
    simp only [lateL]
    split
    · omega
    · simp; omega
theorem rowL_list (l : List Int) : rowL .i64 (fun i => l.getD i 0) l.length = l.map (Value.int .i64) := by
  apply List.ext_getElem?
  intro i
  by_cases h : i < l.length
  · rw [rowL_get h, List.getElem?_map, List.getElem?_eq_getElem h, List.getD_eq_getElem?_getD, List.getElem?_eq_getElem h]; rfl
  · rw [List.getElem?_eq_none (by rw [rowL_len]; omega), List.getElem?_eq_none (by simp; omega)]
theorem Try.infoI : (Try.prog.info? 3).map (fun i => (i.zero, i.size, i.bytes)) = some (some (.int .i64 0), 1, 8) := by kernel_rfl

set_option maxHeartbeats 3200000 in
theorem late_any (a : Option Addr) (n cap : Nat) (f : Nat → Int) (g : Int) (w : World) (h : RowAt .u64 w a n cap f) :
    Calls Try.prog 14 #[.slice a n cap, .int .i64 g] w (RetOwn .i64 w.heap.size (lateL f g n).length (fun i => (lateL f g n).getD i 0) w) := by
  obtain ⟨i0, hi0, hz0, hz1, hz2⟩ := info_parts Try.infoI
  have HI := Lib.hid (And.intro hi0 (And.intro hz0 (And.intro hz1 hz2)))
  have hn := h.1
  have HR := Lib.hid h
  clear h hi0 hz0 hz1 hz2
  go_enter Try.func14, Try.ntmps14
  go_wp2
  go_loopw [5, 10] (fun v i wr => ∃ k : Nat, k ≤ n ∧ i = .int .i64 k ∧ wr.ownsRow w.heap.size 3 1 v (lateL f g k).length ((lateL f g k).map (Value.int .i64)) ∧ Below w.heap.size w wr) (fun _ i _ => n - (intOf i).toNat)
  case atStart => exact ⟨0, Nat.zero_le _, rfl, World.ownsRow_nil _ _ _ _, Below.refl _ _⟩
  case round =>
    obtain ⟨k, hk, rfl, hown, hb⟩ := hrel
    have HO := Lib.hid hown
    have HB := Lib.hid hb
    have hsz := hb.size
    have HLE := Lib.hid (lateL_le f g k)
    clear hown hb
    by_cases hlt : k < n
    · obtain ⟨b, off, rfl, hbb, hc⟩ := (HR.out.below HB.out).get hlt
      have c1 := hc k hlt
      have j0 : (0 : Int) ≤ (k : Int) := by omega
      have j1 : (k : Int) < (n : Int) := by omega
      clear hc
      cases hl : letsB (f k) g
      · have HL := Lib.hid (lets_eq (f k) g hl)
        have HM := Lib.hid (show lateL f g (k + 1) = lateL f g k ++ [(k : Int)] by simp [lateL, hl])
        clear hl
        generalize hlen : (lateL f g k).length = m at *
        have HLN := Lib.hid hlen
        have hm := HLE.out
        clear hlen
        go_wp2_with (first
          | (go_at_call 24; (with_reducible refine (HL.out _).mono ?_); rintro e w1 ⟨rfl, rfl⟩)
          | (at_builtin; refine wpList_append_own _ rfl _ _ 28 rfl w.heap.size 3 i0 (.int .i64 0) 1 8 Try.underlying28 HI.out.1 HI.out.2.1 HI.out.2.2.1 HI.out.2.2.2 rfl (by decide) _ _ _ rfl (HO.out.alloc _) ⟨wr.heap.size, 0, none⟩ 1 1 [.int .i64 k] rfl rfl ?c1 ?c2 ?c3 ?c4 ?c5 ?_))
        case c1 =>
          intro j u hj
          match j, hj with
          | 0, hj => simp at hj; subst hj; simp [Addr.add]
        case c2 => intro u hu; simp at hu; subst hu; rfl
        case c3 => unfold maxLen; omega
        case c4 => omega
        case c5 => simp; omega
        intro v' w1 hown' hgrow _
        have HO' := Lib.hid (show w1.ownsRow w.heap.size 3 1 v' (lateL f g (k + 1)).length ((lateL f g (k + 1)).map (Value.int .i64)) by rw [HM.out]; simpa [HLN.out] using hown')
        have HB' := Lib.hid (Below.grown (HB.out.alloc hsz (.cells #[.int .i64 k] 3)) hgrow (by simp; omega) (fun j hj => (HO.out.lt j hj).1))
        clear hown' hgrow
        go_wp2
        go_roundw
        case rel => exact ⟨k + 1, by omega, by go_num, HO'.out, HB'.out⟩
        case measure => simp [intOf]; omega
      · have HL := Lib.hid (lets_eq (f k) g hl)
        have HM := Lib.hid (show lateL f g (k + 1) = lateL f g k by simp [lateL, hl])
        clear hl
        go_wp2_with (go_at_call 24; (with_reducible refine (HL.out _).mono ?_); rintro e w1 ⟨rfl, rfl⟩)
        go_roundw
        case rel => exact ⟨k + 1, by omega, by go_num, by rw [HM.out]; exact HO.out, HB.out⟩
        case measure => simp [intOf]; omega
    · obtain rfl : k = n := by omega
      have hm := HLE.out
      obtain ⟨a', cap', rfl, ho⟩ := OwnAt.of (K := .i64) (f := fun i => (lateL f g k).getD i 0) (by omega) (show wr.ownsRow w.heap.size 3 1 _ (lateL f g k).length _ by rw [rowL_list]; exact HO.out)
      go_wp2
      go_ret
      exact ⟨_, _, rfl, ho, HB.out⟩

set_option maxHeartbeats 3200000 in
theorem rlate_any (a : Option Addr) (n cap : Nat) (f : Nat → Int) (g : Int) (w : World) (h : RowAt .u64 w a n cap f) :
    Calls Try.prog 15 #[.slice a n cap, .int .i64 g] w (RetOwn .i64 w.heap.size (lateL f g n).length (fun i => (lateL f g n).getD i 0) w) := by
  obtain ⟨i0, hi0, hz0, hz1, hz2⟩ := info_parts Try.infoI
  have HI := Lib.hid (And.intro hi0 (And.intro hz0 (And.intro hz1 hz2)))
  have hn := h.1
  have HR := Lib.hid h
  clear h hi0 hz0 hz1 hz2
  go_enter Try.func15, Try.ntmps15
  go_wp2
  go_loopw [5, 10] (fun v i wr => ∃ k : Nat, k ≤ n ∧ i = .int .i64 k ∧ wr.ownsRow w.heap.size 3 1 v (lateL f g k).length ((lateL f g k).map (Value.int .i64)) ∧ Below w.heap.size w wr) (fun _ i _ => n - (intOf i).toNat)
  case atStart => exact ⟨0, Nat.zero_le _, rfl, World.ownsRow_nil _ _ _ _, Below.refl _ _⟩
  case round =>
    obtain ⟨k, hk, rfl, hown, hb⟩ := hrel
    have HO := Lib.hid hown
    have HB := Lib.hid hb
    have hsz := hb.size
    have HLE := Lib.hid (lateL_le f g k)
    clear hown hb
    by_cases hlt : k < n
    · obtain ⟨b, off, rfl, hbb, hc⟩ := (HR.out.below HB.out).get hlt
      have c1 := hc k hlt
      have j0 : (0 : Int) ≤ (k : Int) := by omega
      have j1 : (k : Int) < (n : Int) := by omega
      clear hc
      cases hl : letsB (f k) g
      · have HL := Lib.hid (rlets_eq (f k) g hl)
        have HM := Lib.hid (show lateL f g (k + 1) = lateL f g k ++ [(k : Int)] by simp [lateL, hl])
        clear hl
        generalize hlen : (lateL f g k).length = m at *
        have HLN := Lib.hid hlen
        have hm := HLE.out
        clear hlen
        go_wp2_with (first
          | (go_at_call 25; (with_reducible refine (HL.out _).mono ?_); rintro e w1 ⟨rfl, rfl⟩)
          | (at_builtin; refine wpList_append_own _ rfl _ _ 28 rfl w.heap.size 3 i0 (.int .i64 0) 1 8 Try.underlying28 HI.out.1 HI.out.2.1 HI.out.2.2.1 HI.out.2.2.2 rfl (by decide) _ _ _ rfl (HO.out.alloc _) ⟨wr.heap.size, 0, none⟩ 1 1 [.int .i64 k] rfl rfl ?c1 ?c2 ?c3 ?c4 ?c5 ?_))
        case c1 =>
          intro j u hj
          match j, hj with
          | 0, hj => simp at hj; subst hj; simp [Addr.add]
        case c2 => intro u hu; simp at hu; subst hu; rfl
        case c3 => unfold maxLen; omega
        case c4 => omega
        case c5 => simp; omega
        intro v' w1 hown' hgrow _
        have HO' := Lib.hid (show w1.ownsRow w.heap.size 3 1 v' (lateL f g (k + 1)).length ((lateL f g (k + 1)).map (Value.int .i64)) by rw [HM.out]; simpa [HLN.out] using hown')
        have HB' := Lib.hid (Below.grown (HB.out.alloc hsz (.cells #[.int .i64 k] 3)) hgrow (by simp; omega) (fun j hj => (HO.out.lt j hj).1))
        clear hown' hgrow
        go_wp2
        go_roundw
        case rel => exact ⟨k + 1, by omega, by go_num, HO'.out, HB'.out⟩
        case measure => simp [intOf]; omega
      · have HL := Lib.hid (rlets_eq (f k) g hl)
        have HM := Lib.hid (show lateL f g (k + 1) = lateL f g k by simp [lateL, hl])
        clear hl
        go_wp2_with (go_at_call 25; (with_reducible refine (HL.out _).mono ?_); rintro e w1 ⟨rfl, rfl⟩)
        go_roundw
        case rel => exact ⟨k + 1, by omega, by go_num, by rw [HM.out]; exact HO.out, HB.out⟩
        case measure => simp [intOf]; omega
    · obtain rfl : k = n := by omega
      have hm := HLE.out
      obtain ⟨a', cap', rfl, ho⟩ := OwnAt.of (K := .i64) (f := fun i => (lateL f g k).getD i 0) (by omega) (show wr.ownsRow w.heap.size 3 1 _ (lateL f g k).length _ by rw [rowL_list]; exact HO.out)
      go_wp2
      go_ret
      exact ⟨_, _, rfl, ho, HB.out⟩

theorem lateL_mem (f : Nat → Int) (g : Int) (n : Nat) (x : Int) : x ∈ lateL f g n ↔ ∃ i : Nat, i < n ∧ x = i ∧ letsB (f i) g = false := by
  induction n with
  | zero => simp [lateL]
  | succ k ih =>
    simp only [lateL]
    cases h : letsB (f k) g
    · simp only [Bool.false_eq_true, if_false, List.mem_append, List.mem_singleton, ih]
      constructor
      · rintro (⟨i, hi, rfl, hf⟩ | rfl)
        · exact ⟨i, by omega, rfl, hf⟩
        · exact ⟨k, by omega, rfl, h⟩
      · rintro ⟨i, hi, rfl, hf⟩
        by_cases e : i = k
        · subst e; exact .inr rfl
        · exact .inl ⟨i, by omega, rfl, hf⟩
    · simp only [if_true, ih]
      constructor
      · rintro ⟨i, hi, rfl, hf⟩; exact ⟨i, by omega, rfl, hf⟩
      · rintro ⟨i, hi, rfl, hf⟩
        by_cases e : i = k
        · subst e; rw [h] at hf; cases hf
        · exact ⟨i, by omega, rfl, hf⟩
theorem lateL_nodup (f : Nat → Int) (g : Int) (n : Nat) : (lateL f g n).Nodup := by
  induction n with
  | zero => simp [lateL]
  | succ k ih =>
    simp only [lateL]
    split
    · exact ih
    · rw [List.nodup_append]
      refine ⟨ih, by simp, fun a ha b hb => ?_⟩
      obtain ⟨i, hi, rfl, _⟩ := (lateL_mem f g k a).1 ha
      simp only [List.mem_singleton] at hb
      subst hb
      omega
theorem allB_iff (f : Nat → Int) (g me : Int) (n : Nat) : allB n f me g = true ↔ ∀ x ∈ lateL f g n, x = me := by
  unfold allB
  rw [decide_eq_true_iff]
  constructor
  · intro h x hx
    obtain ⟨i, hi, rfl, hf⟩ := (lateL_mem f g n x).1 hx
    by_cases e : (i : Int) = me
    · exact e
    · rw [h i hi e] at hf; cases hf
  · intro h i hi hne
    cases hf : letsB (f i) g
    · exact absurd (h i ((lateL_mem f g n i).2 ⟨i, hi, rfl, hf⟩)) hne
    · rfl
theorem all_none (f : Nat → Int) (g me : Int) (n : Nat) (h : (lateL f g n).length = 0) : allB n f me g = true := by
  rw [allB_iff, List.length_eq_zero_iff.1 h]
  intro x hx; cases hx
theorem all_one (f : Nat → Int) (g me : Int) (n : Nat) (h : (lateL f g n).length = 1) : allB n f me g = ((lateL f g n).getD 0 0 == me) := by
  obtain ⟨y, hy⟩ := List.length_eq_one_iff.1 h
  rw [Bool.eq_iff_iff, allB_iff, hy]
  simp
theorem all_more (f : Nat → Int) (g me : Int) (n : Nat) (h : 2 ≤ (lateL f g n).length) : allB n f me g = false := by
  cases ha : allB n f me g
  · rfl
  · rw [allB_iff] at ha
    have hd := lateL_nodup f g n
    match hl : lateL f g n, h with
    | x :: y :: r, _ =>
      rw [hl] at ha hd
      have h1 := ha x (by simp)
      have h2 := ha y (by simp)
      subst h1
      subst h2
      simp at hd
end Go.Proofs.Ytiadkhdcnipfbaa
