/- The contract of readCases over the seat's program: so many cases of words, in new memory alone. -/
import Derived.Test.YtcbdbpcibhjkjabFitz
import Derived.Test.YtcbdbpcibhjkjabBits
import Derived.Deep.AppendLies
import Derived.Deep.DrawnRows
namespace Go.Proofs.Ytcbdbpcibhjkjab
open Go.ChangeShapes Go.WideShapes Go.ChangeAt Go.RowKit Go.Joins
attribute [local go_sem ↓] Go.wp_at_zero Go.wp_at_succ

theorem Try.info52 : (Try.prog.info? 52).map (fun i => (i.zero, i.size, i.bytes)) = some (some (.agg #[.int .i64 0, .int .i64 0, .int .i64 0]), 3, 24) := by kernel_rfl

def caseOf (x : Int) : C3 := (x % 256, x / 256 % 65536, x / 4294967296)
def flat3 (f : Nat → C3) : Nat → List Value
  | 0 => []
  | k + 1 => flat3 f k ++ [.int .i64 (f k).1, .int .i64 (f k).2.1, .int .i64 (f k).2.2]
theorem flat3_length (f : Nat → C3) : ∀ k, (flat3 f k).length = k * 3
  | 0 => rfl
  | k + 1 => by simp [flat3, flat3_length f k]; omega
theorem flat3_at (f : Nat → C3) : ∀ k i, i < k → (flat3 f k)[i * 3]? = some (.int .i64 (f i).1) ∧ (flat3 f k)[i * 3 + 1]? = some (.int .i64 (f i).2.1) ∧ (flat3 f k)[i * 3 + 2]? = some (.int .i64 (f i).2.2)
  | 0, i, h => absurd h (by omega)
  | k + 1, i, h => by
    have hl := flat3_length f k
    rcases Nat.lt_succ_iff_lt_or_eq.1 h with h' | h'
    · obtain ⟨a, b, c⟩ := flat3_at f k i h'
      refine ⟨?_, ?_, ?_⟩ <;> (rw [flat3, List.getElem?_append_left (by omega)]; assumption)
    · subst h'
      refine ⟨?_, ?_, ?_⟩ <;> (rw [flat3, List.getElem?_append_right (by omega)]; simp [hl])

/-- It hands back a row of these cases, in new memory alone. -/
def RetCases (cs : List C3) (w : World) (e : Ending) (w' : World) : Prop := ∃ v, e = .returned v ∧ CasesAt w' v cs ∧ Below w.heap.size w w' ∧ ∀ j, v.ownBlock = some j → w.heap.size ≤ j

theorem casesAt_of_owns {w : World} {base n : Nat} {v : Value} {f : Nat → C3} (h : w.ownsRow base 52 3 v n (flat3 f n)) (hn : n ≤ 3) : CasesAt w v ((List.range n).map f) := by
  obtain ⟨_, h | ⟨g, cap, cur, rfl, hg, hb, hc1, hc2, hc3, hc4⟩⟩ := h
  · obtain ⟨rfl, rfl⟩ := h
    exact .inl ⟨rfl, none, 0, rfl⟩
  · have hown : w.ownsRow base 52 3 (.slice (some ⟨g, 0, none⟩) n cap) n (flat3 f n) := ⟨flat3_length f n, .inr ⟨g, cap, cur, rfl, hg, hb, hc1, hc2, hc3, hc4⟩⟩
    have hlt : g < w.heap.size := (Array.getElem?_eq_some_iff.1 hb).1
    refine .inr ⟨g, 0, cap, by simp, hlt, by simp; omega, fun i hi => ?_⟩
    have hi' : i < n := by simpa using hi
    obtain ⟨a, b, c⟩ := flat3_at f n i hi'
    have ha := hown.cells rfl _ _ a
    have hb' := hown.cells rfl _ _ b
    have hc' := hown.cells rfl _ _ c
    have hadd : ∀ j, (⟨g, 0, none⟩ : Addr).add j = ⟨g, j, none⟩ := fun j => by unfold Addr.add; split <;> simp_all
    rw [hadd] at ha hb' hc'
    simp only [Nat.zero_add]
    simpa [List.getD_eq_getElem?_getD, List.getElem?_map, List.getElem?_range hi'] using ⟨ha, hb', hc'⟩

set_option maxRecDepth 100000 in
set_option maxHeartbeats 3200000 in
theorem readCases_more (b off cap : Nat) (nn : Int) (hn : 3 < nn) (f : Nat → Int) (w : World) (hb : b < w.heap.size)
    (hf : ∀ i, i < 3 → 0 ≤ f i ∧ f i < 18446744073709551616) (hc : ∀ i, i < 3 → w.cell? ⟨b, off + i, none⟩ = some (.int .u64 (f i))) :
    Calls Try.prog 36 #[.slice (some ⟨b, off, none⟩) 3 cap, .int .i64 nn] w (RetCases ((List.range 3).map fun i => caseOf (f i)) w) := by
  obtain ⟨i0, hi0, hz0, hz1, hz2⟩ := info_parts Try.info52
  have HC := Lib.hid hc
  have HF := Lib.hid hf
  have HI := Lib.hid (And.intro hi0 (And.intro hz0 (And.intro hz1 hz2)))
  clear hc hf hi0 hz0 hz1 hz2
  go_enter Try.func36, Try.ntmps36
  go_wp2
  go_loopw [5, 11] (fun v i wr => ∃ k : Nat, k ≤ 3 ∧ i = .int .i64 k ∧ wr.ownsRow w.heap.size 52 3 v k (flat3 (fun i => caseOf (f i)) k) ∧ Below w.heap.size w wr) (fun _ i _ => 3 - (intOf i).toNat)
  case atStart => exact ⟨0, Nat.zero_le _, rfl, World.ownsRow_nil _ _ _ _, Below.refl _ _⟩
  case round =>
    obtain ⟨k, hk, rfl, hown, hw⟩ := hrel
    have HW := Lib.hid hw
    have HO := Lib.hid hown
    have hsz := hw.size
    by_cases hlt : k < 3
    · have c0 : wr.cell? ⟨b, off + k, none⟩ = some (.int .u64 (f k)) := by rw [(bcell hw).1 _ _ hb]; exact HC.out k (by omega)
      obtain ⟨f0, f1⟩ := HF.out k (by omega)
      have hno : u5.ownBlock ≠ some b := fun e => by have := hown.lt b e; omega
      clear hw hown
      have i0' : (0 : Int) ≤ (k : Int) := by omega
      have i1' : (k : Int) < 3 := by omega
      have i2' : (k : Int) < 3 := by omega
      generalize hx : f k = x at *
      have HX := Lib.hid hx
      clear hx
      have e1 : bits .and .u64 x 255 = x % 256 := band 8 x 255 rfl f0 f1 (by omega) (by omega)
      have e2 : bits .and .u64 (x / 256) 65535 = x / 256 % 65536 := band 16 (x / 256) 65535 rfl (by omega) (by omega) (by omega) (by omega)
      have b1 : 0 ≤ x % 256 := by omega
      have b2 : x % 256 < 256 := by omega
      have b3 : 0 ≤ x / 256 % 65536 := by omega
      have b4 : x / 256 % 65536 < 65536 := by omega
      have b5 : 0 ≤ x / 4294967296 := by omega
      have b6 : x / 4294967296 < 4294967296 := by omega
      have g1 : IntKind.i64.wrap (x % 256) = x % 256 := IntWalk.i64_in _ (by omega)
      have g2 : IntKind.i64.wrap (x / 256 % 65536) = x / 256 % 65536 := IntWalk.i64_in _ (by omega)
      have g3 : IntKind.i64.wrap (x / 4294967296) = x / 4294967296 := IntWalk.i64_in _ (by omega)
      go_wp2_with fail
      go_region_held3 (fun w' => w'.cell? ⟨b, off + k, none⟩ = some (.int .u64 x))
        (first
          | go_keep
          | (rw [hgrow.cell_far _ (by simp; omega) (Ne.symm hno)]; first | assumption | go_keep))
        ((refine step_append_lies _ (by rfl) _ _ _ (by rfl) w.heap.size 52 i0 _ 3 24 Try.underlying35 HI.out.1 HI.out.2.1 HI.out.2.2.1 HI.out.2.2.2 rfl (by omega) u5 k (flat3 (fun i => caseOf (f i)) k) (by rfl) ((HO.out.alloc _).drew) ⟨wr.heap.size, 0, none⟩ 1 1 [.int .i64 (x % 256), .int .i64 (x / 256 % 65536), .int .i64 (x / 4294967296)] (by rfl) (by rfl) (World.news_of_block (cs := #[.int .i64 (x % 256), .int .i64 (x / 256 % 65536), .int .i64 (x / 4294967296)]) (t := 52) (fr := (0, 0)) (heap_alloc_new wr _)) (by simp [Value.oneCell']) (by omega) (by unfold maxLen; omega) (by omega) (by simp; omega) (wr.heap.size + 1) (by simp) ?_; intro gg cap' w1 hown1 hgrow hat hlt'))
      clear g1 g2 g3 e1 e2
      go_wp2
      go_roundw
      case rel => exact ⟨k + 1, by omega, by go_num, by (rw [flat3, HX.out]; exact hown1), Below.grown (((HW.out).alloc hsz _).drew) hgrow (by simp; omega) (fun j hj => (HO.out.lt j hj).1)⟩
      case measure => simp [intOf]; omega
    · go_wp2
      go_ret
      obtain rfl : k = 3 := by omega
      exact ⟨_, rfl, casesAt_of_owns HO.out (by omega), HW.out, fun j hj => (HO.out.lt j hj).1⟩
set_option maxRecDepth 100000 in
set_option maxHeartbeats 3200000 in
theorem readCases_few (b off cap : Nat) (m : Nat) (hm : m ≤ 3) (f : Nat → Int) (w : World) (hb : b < w.heap.size)
    (hf : ∀ i, i < 3 → 0 ≤ f i ∧ f i < 18446744073709551616) (hc : ∀ i, i < 3 → w.cell? ⟨b, off + i, none⟩ = some (.int .u64 (f i))) :
    Calls Try.prog 36 #[.slice (some ⟨b, off, none⟩) 3 cap, .int .i64 (m : Int)] w (RetCases ((List.range m).map fun i => caseOf (f i)) w) := by
  obtain ⟨i0, hi0, hz0, hz1, hz2⟩ := info_parts Try.info52
  have HC := Lib.hid hc
  have HF := Lib.hid hf
  have HI := Lib.hid (And.intro hi0 (And.intro hz0 (And.intro hz1 hz2)))
  clear hc hf hi0 hz0 hz1 hz2
  have hm' : (m : Int) ≤ 3 := by omega
  go_enter Try.func36, Try.ntmps36
  go_wp2
  go_loopw [5, 11] (fun v i wr => ∃ k : Nat, k ≤ m ∧ i = .int .i64 k ∧ wr.ownsRow w.heap.size 52 3 v k (flat3 (fun i => caseOf (f i)) k) ∧ Below w.heap.size w wr) (fun _ i _ => m - (intOf i).toNat)
  case atStart => exact ⟨0, Nat.zero_le _, rfl, World.ownsRow_nil _ _ _ _, Below.refl _ _⟩
  case round =>
    obtain ⟨k, hk, rfl, hown, hw⟩ := hrel
    have HW := Lib.hid hw
    have HO := Lib.hid hown
    have hsz := hw.size
    by_cases hlt : k < m
    · have c0 : wr.cell? ⟨b, off + k, none⟩ = some (.int .u64 (f k)) := by rw [(bcell hw).1 _ _ hb]; exact HC.out k (by omega)
      obtain ⟨f0, f1⟩ := HF.out k (by omega)
      have hno : u5.ownBlock ≠ some b := fun e => by have := hown.lt b e; omega
      clear hw hown
      have i0' : (0 : Int) ≤ (k : Int) := by omega
      have i1' : (k : Int) < 3 := by omega
      have i2' : (k : Int) < (m : Int) := by omega
      generalize hx : f k = x at *
      have HX := Lib.hid hx
      clear hx
      have e1 : bits .and .u64 x 255 = x % 256 := band 8 x 255 rfl f0 f1 (by omega) (by omega)
      have e2 : bits .and .u64 (x / 256) 65535 = x / 256 % 65536 := band 16 (x / 256) 65535 rfl (by omega) (by omega) (by omega) (by omega)
      have b1 : 0 ≤ x % 256 := by omega
      have b2 : x % 256 < 256 := by omega
      have b3 : 0 ≤ x / 256 % 65536 := by omega
      have b4 : x / 256 % 65536 < 65536 := by omega
      have b5 : 0 ≤ x / 4294967296 := by omega
      have b6 : x / 4294967296 < 4294967296 := by omega
      have g1 : IntKind.i64.wrap (x % 256) = x % 256 := IntWalk.i64_in _ (by omega)
      have g2 : IntKind.i64.wrap (x / 256 % 65536) = x / 256 % 65536 := IntWalk.i64_in _ (by omega)
      have g3 : IntKind.i64.wrap (x / 4294967296) = x / 4294967296 := IntWalk.i64_in _ (by omega)
      go_wp2_with fail
      go_region_held3 (fun w' => w'.cell? ⟨b, off + k, none⟩ = some (.int .u64 x))
        (first
          | go_keep
          | (rw [hgrow.cell_far _ (by simp; omega) (Ne.symm hno)]; first | assumption | go_keep))
        ((refine step_append_lies _ (by rfl) _ _ _ (by rfl) w.heap.size 52 i0 _ 3 24 Try.underlying35 HI.out.1 HI.out.2.1 HI.out.2.2.1 HI.out.2.2.2 rfl (by omega) u5 k (flat3 (fun i => caseOf (f i)) k) (by rfl) ((HO.out.alloc _).drew) ⟨wr.heap.size, 0, none⟩ 1 1 [.int .i64 (x % 256), .int .i64 (x / 256 % 65536), .int .i64 (x / 4294967296)] (by rfl) (by rfl) (World.news_of_block (cs := #[.int .i64 (x % 256), .int .i64 (x / 256 % 65536), .int .i64 (x / 4294967296)]) (t := 52) (fr := (0, 0)) (heap_alloc_new wr _)) (by simp [Value.oneCell']) (by omega) (by unfold maxLen; omega) (by omega) (by simp; omega) (wr.heap.size + 1) (by simp) ?_; intro gg cap' w1 hown1 hgrow hat hlt'))
      clear g1 g2 g3 e1 e2
      go_wp2
      go_roundw
      case rel => exact ⟨k + 1, by omega, by go_num, by (rw [flat3, HX.out]; exact hown1), Below.grown (((HW.out).alloc hsz _).drew) hgrow (by simp; omega) (fun j hj => (HO.out.lt j hj).1)⟩
      case measure => simp [intOf]; omega
    · go_wp2
      go_ret
      obtain rfl : k = m := by omega
      exact ⟨_, rfl, casesAt_of_owns HO.out (by omega), HW.out, fun j hj => (HO.out.lt j hj).1⟩
end Go.Proofs.Ytcbdbpcibhjkjab
