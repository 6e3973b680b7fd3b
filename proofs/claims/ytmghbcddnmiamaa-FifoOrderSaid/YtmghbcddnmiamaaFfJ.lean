/- The contracts of New, and of the reference's, over the seat's program. -/
import Derived.Test.YtmghbcddnmiamaaFfI
import Derived.Test.YtmghbcddnmiamaaFfF
import Derived.OwnWalk
namespace Go.Proofs.Ytmghbcddnmiamaa
open Go.ChangeShapes Go.WideShapes Go.ChangeAt Go.RowKit Go.Joins

theorem zeros4 (n : Nat) : (madeCells (Value.agg #[.int .i64 0, .int .i64 0, .int .i64 0, .int .i64 0]).cells (n * 4)).toList = flatL 4 (fun _ _ => 0) n := by
  apply List.ext_getElem?
  intro i
  by_cases h : i < n * 4
  · rw [flatL_at h]
    simp only [madeCells, Value.cells]
    have : i % 4 = 0 ∨ i % 4 = 1 ∨ i % 4 = 2 ∨ i % 4 = 3 := by omega
    rcases this with e | e | e | e <;> simp [h, e]
  · rw [List.getElem?_eq_none (by simp [madeCells]; omega), List.getElem?_eq_none (by rw [flatL_len]; omega)]

set_option maxRecDepth 100000 in
set_option maxHeartbeats 3200000 in
theorem new_neg (cp t : Int) (ht : t ≤ 0) (w : World) : Calls Try.prog 9 #[.int .i64 cp, .int .i64 t] w (RetNew (CV.new cp t) w) := by
  obtain ⟨i0, hi0, hz0, hz1, hz2⟩ := info_parts Try.info_res
  have HI := Lib.hid (And.intro hi0 (And.intro hz0 (And.intro hz1 hz2)))
  clear hi0 hz0 hz1 hz2
  have HN := Lib.hid (show CV.new.newN t = 0 by unfold CV.new.newN; rw [if_pos (by omega)]; omega)
  have e1 : t < 64 := by omega
  go_enter Try.func9, Try.ntmps9
  go_wp2_with (at_make; go_loud (refine wpList_make_full _ rfl _ _ 23 rfl (w.heap.size + 1) 37 i0 (.agg #[.int .i64 0, .int .i64 0, .int .i64 0, .int .i64 0]) 4 Try.underlying23 HI.out.1 HI.out.2.1 HI.out.2.2.1 .i64 .i64 _ _ 0 rfl rfl (by first | rfl | omega | (simp; omega)) (by first | rfl | omega | (simp; omega)) (by rw [HI.out.2.2.2]; omega) (by unfold maxLen; omega) (by simp) ?_; intro w0 hown0 hgrow0; (rw [World.size_alloc] at hown0); have HO := Lib.hid hown0; have HG := Lib.hid ((Below.alloc (Below.refl w.heap.size w) (Nat.le_refl _) (.cells #[.int .i64 0, .slice none 0 0, .slice none 0 0] 25)).grown hgrow0 (by simp) (fun _ e => by cases e)); have hx := (Box3.new (a := .int .i64 0) (b := .slice none 0 0) (c := .slice none 0 0) w 25).grown hgrow0 (by simp) (by simp); (obtain ⟨c0, c1, c2, cf⟩ := hx); have cf0 := cf 0; have cf1 := cf 1; have cf2 := cf 2; clear cf hown0 hgrow0))
  refine bodyPost_ret (v := .agg #[.int .i64 cp, .slice none 0 0, .slice (some ⟨w.heap.size + 1, 0, none⟩) 0 0]) (by simp only [results, Try.results9]; go_simp) rfl ⟨_, rfl, ?_, ?_⟩
  · obtain ⟨a, cap, hv, hr⟩ := RowS.of (s := 4) (f := fun _ _ => 0) (by omega) (show World.ownsRow _ _ 37 4 (.slice (some ⟨w.heap.size + 1, 0, none⟩) 0 0) 0 (flatL 4 (fun _ _ => 0) 0) from by
      rw [← zeros4]
      exact own_store3 (a := .int .i64 cp) (b := .slice none 0 0) (c := .slice (some ⟨w.heap.size + 1, 0, none⟩) 0 0) (p := w.heap.size) HO.out (by simp [Value.ownBlock]))
    simp only [Value.slice.injEq] at hv
    obtain ⟨rfl, _, rfl⟩ := hv
    refine ⟨none, 0, some ⟨w.heap.size + 1, 0, none⟩, 0, ?_, ⟨by show (0 : Nat) * 8 ≤ _; omega, fun _ => ⟨rfl, rfl⟩, Nat.zero_le _, fun h => absurd h (Nat.lt_irrefl 0)⟩, ?_, fun q hq => by simp only [Value.ownBlock, Option.some.injEq] at hq; omega⟩
    · show Value.agg _ = Value.agg #[.int .i64 cp, .slice none 0 0, .slice _ (CV.new.newN _) _]
      rw [HN.out]
    · show RowS 4 _ _ (CV.new.newN _) _ _
      rw [HN.out]
      exact hr
  · exact store3_below HG.out (Nat.le_refl _)

set_option maxRecDepth 100000 in
set_option maxHeartbeats 3200000 in
theorem new_mid (cp t : Int) (h0 : 0 < t) (ht : t < 64) (w : World) : Calls Try.prog 9 #[.int .i64 cp, .int .i64 t] w (RetNew (CV.new cp t) w) := by
  obtain ⟨i0, hi0, hz0, hz1, hz2⟩ := info_parts Try.info_res
  have HI := Lib.hid (And.intro hi0 (And.intro hz0 (And.intro hz1 hz2)))
  clear hi0 hz0 hz1 hz2
  have HN := Lib.hid (show CV.new.newN t = t.toNat by unfold CV.new.newN; rw [if_pos (by omega)])
  obtain ⟨n, hn⟩ : ∃ n : Nat, n = t.toNat := ⟨_, rfl⟩
  have e2 : t = (n : Int) := by omega
  rw [← hn] at HN
  subst e2
  clear hn
  have e1 : (n : Int) < 64 := by omega
  go_enter Try.func9, Try.ntmps9
  go_wp2_with (at_make; go_loud (refine wpList_make_full _ rfl _ _ 23 rfl (w.heap.size + 1) 37 i0 (.agg #[.int .i64 0, .int .i64 0, .int .i64 0, .int .i64 0]) 4 Try.underlying23 HI.out.1 HI.out.2.1 HI.out.2.2.1 .i64 .i64 _ _ n rfl rfl (by first | rfl | omega | (simp; omega)) (by first | rfl | omega | (simp; omega)) (by rw [HI.out.2.2.2]; omega) (by unfold maxLen; omega) (by simp) ?_; intro w0 hown0 hgrow0; (rw [World.size_alloc] at hown0); have HO := Lib.hid hown0; have HG := Lib.hid ((Below.alloc (Below.refl w.heap.size w) (Nat.le_refl _) (.cells #[.int .i64 0, .slice none 0 0, .slice none 0 0] 25)).grown hgrow0 (by simp) (fun _ e => by cases e)); have hx := (Box3.new (a := .int .i64 0) (b := .slice none 0 0) (c := .slice none 0 0) w 25).grown hgrow0 (by simp) (by simp); (obtain ⟨c0, c1, c2, cf⟩ := hx); have cf0 := cf 0; have cf1 := cf 1; have cf2 := cf 2; clear cf hown0 hgrow0))
  refine bodyPost_ret (v := .agg #[.int .i64 cp, .slice none 0 0, .slice (some ⟨w.heap.size + 1, 0, none⟩) n n]) (by simp only [results, Try.results9]; go_simp) rfl ⟨_, rfl, ?_, ?_⟩
  · obtain ⟨a, cap, hv, hr⟩ := RowS.of (s := 4) (f := fun _ _ => 0) (by omega) (show World.ownsRow _ _ 37 4 (.slice (some ⟨w.heap.size + 1, 0, none⟩) n n) n (flatL 4 (fun _ _ => 0) n) from by
      rw [← zeros4]
      exact own_store3 (a := .int .i64 cp) (b := .slice none 0 0) (c := .slice (some ⟨w.heap.size + 1, 0, none⟩) n n) (p := w.heap.size) HO.out (by simp [Value.ownBlock]))
    simp only [Value.slice.injEq] at hv
    obtain ⟨rfl, _, rfl⟩ := hv
    refine ⟨none, 0, some ⟨w.heap.size + 1, 0, none⟩, n, ?_, ⟨by show (0 : Nat) * 8 ≤ _; omega, fun _ => ⟨rfl, rfl⟩, Nat.zero_le _, fun h => absurd h (Nat.lt_irrefl 0)⟩, ?_, fun q hq => by simp only [Value.ownBlock, Option.some.injEq] at hq; omega⟩
    · show Value.agg _ = Value.agg #[.int .i64 cp, .slice none 0 0, .slice _ (CV.new.newN _) _]
      rw [HN.out]
    · show RowS 4 _ _ (CV.new.newN _) _ _
      rw [HN.out]
      exact hr
  · exact store3_below HG.out (Nat.le_refl _)

set_option maxRecDepth 100000 in
set_option maxHeartbeats 3200000 in
theorem new_high (cp t : Int) (ht : 64 ≤ t) (w : World) : Calls Try.prog 9 #[.int .i64 cp, .int .i64 t] w (RetNew (CV.new cp t) w) := by
  obtain ⟨i0, hi0, hz0, hz1, hz2⟩ := info_parts Try.info_res
  have HI := Lib.hid (And.intro hi0 (And.intro hz0 (And.intro hz1 hz2)))
  clear hi0 hz0 hz1 hz2
  have HN := Lib.hid (show CV.new.newN t = 64 by unfold CV.new.newN; rw [if_neg (by omega)])
  skip
  go_enter Try.func9, Try.ntmps9
  go_wp2_with (at_make; go_loud (refine wpList_make_full _ rfl _ _ 23 rfl (w.heap.size + 1) 37 i0 (.agg #[.int .i64 0, .int .i64 0, .int .i64 0, .int .i64 0]) 4 Try.underlying23 HI.out.1 HI.out.2.1 HI.out.2.2.1 .i64 .i64 _ _ 64 rfl rfl (by first | rfl | omega | (simp; omega)) (by first | rfl | omega | (simp; omega)) (by rw [HI.out.2.2.2]; omega) (by unfold maxLen; omega) (by simp) ?_; intro w0 hown0 hgrow0; (rw [World.size_alloc] at hown0); have HO := Lib.hid hown0; have HG := Lib.hid ((Below.alloc (Below.refl w.heap.size w) (Nat.le_refl _) (.cells #[.int .i64 0, .slice none 0 0, .slice none 0 0] 25)).grown hgrow0 (by simp) (fun _ e => by cases e)); have hx := (Box3.new (a := .int .i64 0) (b := .slice none 0 0) (c := .slice none 0 0) w 25).grown hgrow0 (by simp) (by simp); (obtain ⟨c0, c1, c2, cf⟩ := hx); have cf0 := cf 0; have cf1 := cf 1; have cf2 := cf 2; clear cf hown0 hgrow0))
  refine bodyPost_ret (v := .agg #[.int .i64 cp, .slice none 0 0, .slice (some ⟨w.heap.size + 1, 0, none⟩) 64 64]) (by simp only [results, Try.results9]; go_simp) rfl ⟨_, rfl, ?_, ?_⟩
  · obtain ⟨a, cap, hv, hr⟩ := RowS.of (s := 4) (f := fun _ _ => 0) (by omega) (show World.ownsRow _ _ 37 4 (.slice (some ⟨w.heap.size + 1, 0, none⟩) 64 64) 64 (flatL 4 (fun _ _ => 0) 64) from by
      rw [← zeros4]
      exact own_store3 (a := .int .i64 cp) (b := .slice none 0 0) (c := .slice (some ⟨w.heap.size + 1, 0, none⟩) 64 64) (p := w.heap.size) HO.out (by simp [Value.ownBlock]))
    simp only [Value.slice.injEq] at hv
    obtain ⟨rfl, _, rfl⟩ := hv
    refine ⟨none, 0, some ⟨w.heap.size + 1, 0, none⟩, 64, ?_, ⟨by show (0 : Nat) * 8 ≤ _; omega, fun _ => ⟨rfl, rfl⟩, Nat.zero_le _, fun h => absurd h (Nat.lt_irrefl 0)⟩, ?_, fun q hq => by simp only [Value.ownBlock, Option.some.injEq] at hq; omega⟩
    · show Value.agg _ = Value.agg #[.int .i64 cp, .slice none 0 0, .slice _ (CV.new.newN _) _]
      rw [HN.out]
    · show RowS 4 _ _ (CV.new.newN _) _ _
      rw [HN.out]
      exact hr
  · exact store3_below HG.out (Nat.le_refl _)

theorem new_new (cp t : Int) (w : World) : Calls Try.prog 9 #[.int .i64 cp, .int .i64 t] w (RetNew (CV.new cp t) w) := by
  by_cases h0 : t ≤ 0
  · exact new_neg cp t h0 w
  by_cases h1 : t < 64
  · exact new_mid cp t (by omega) h1 w
  · exact new_high cp t (by omega) w
theorem new_any (cp t : Int) (w : World) : Calls Try.prog 9 #[.int .i64 cp, .int .i64 t] w (RetAt (CV.new cp t) w) := (new_new cp t w).mono fun _ _ h => h.at

set_option maxRecDepth 100000 in
set_option maxHeartbeats 3200000 in
theorem rnew_neg (cp t : Int) (ht : t ≤ 0) (w : World) : Calls Try.prog 10 #[.int .i64 cp, .int .i64 t] w (RetNew (CV.new cp t) w) := by
  obtain ⟨i0, hi0, hz0, hz1, hz2⟩ := info_parts Try.info_res
  have HI := Lib.hid (And.intro hi0 (And.intro hz0 (And.intro hz1 hz2)))
  clear hi0 hz0 hz1 hz2
  have HN := Lib.hid (show CV.new.newN t = 0 by unfold CV.new.newN; rw [if_pos (by omega)]; omega)
  have e1 : t < 64 := by omega
  go_enter Try.func10, Try.ntmps10
  go_wp2_with (at_make; go_loud (refine wpList_make_full _ rfl _ _ 23 rfl (w.heap.size + 1) 37 i0 (.agg #[.int .i64 0, .int .i64 0, .int .i64 0, .int .i64 0]) 4 Try.underlying23 HI.out.1 HI.out.2.1 HI.out.2.2.1 .i64 .i64 _ _ 0 rfl rfl (by first | rfl | omega | (simp; omega)) (by first | rfl | omega | (simp; omega)) (by rw [HI.out.2.2.2]; omega) (by unfold maxLen; omega) (by simp) ?_; intro w0 hown0 hgrow0; (rw [World.size_alloc] at hown0); have HO := Lib.hid hown0; have HG := Lib.hid ((Below.alloc (Below.refl w.heap.size w) (Nat.le_refl _) (.cells #[.int .i64 0, .slice none 0 0, .slice none 0 0] 25)).grown hgrow0 (by simp) (fun _ e => by cases e)); have hx := (Box3.new (a := .int .i64 0) (b := .slice none 0 0) (c := .slice none 0 0) w 25).grown hgrow0 (by simp) (by simp); (obtain ⟨c0, c1, c2, cf⟩ := hx); have cf0 := cf 0; have cf1 := cf 1; have cf2 := cf 2; clear cf hown0 hgrow0))
  refine bodyPost_ret (v := .agg #[.int .i64 cp, .slice none 0 0, .slice (some ⟨w.heap.size + 1, 0, none⟩) 0 0]) (by simp only [results, Try.results10]; go_simp) rfl ⟨_, rfl, ?_, ?_⟩
  · obtain ⟨a, cap, hv, hr⟩ := RowS.of (s := 4) (f := fun _ _ => 0) (by omega) (show World.ownsRow _ _ 37 4 (.slice (some ⟨w.heap.size + 1, 0, none⟩) 0 0) 0 (flatL 4 (fun _ _ => 0) 0) from by
      rw [← zeros4]
      exact own_store3 (a := .int .i64 cp) (b := .slice none 0 0) (c := .slice (some ⟨w.heap.size + 1, 0, none⟩) 0 0) (p := w.heap.size) HO.out (by simp [Value.ownBlock]))
    simp only [Value.slice.injEq] at hv
    obtain ⟨rfl, _, rfl⟩ := hv
    refine ⟨none, 0, some ⟨w.heap.size + 1, 0, none⟩, 0, ?_, ⟨by show (0 : Nat) * 8 ≤ _; omega, fun _ => ⟨rfl, rfl⟩, Nat.zero_le _, fun h => absurd h (Nat.lt_irrefl 0)⟩, ?_, fun q hq => by simp only [Value.ownBlock, Option.some.injEq] at hq; omega⟩
    · show Value.agg _ = Value.agg #[.int .i64 cp, .slice none 0 0, .slice _ (CV.new.newN _) _]
      rw [HN.out]
    · show RowS 4 _ _ (CV.new.newN _) _ _
      rw [HN.out]
      exact hr
  · exact store3_below HG.out (Nat.le_refl _)

set_option maxRecDepth 100000 in
set_option maxHeartbeats 3200000 in
theorem rnew_mid (cp t : Int) (h0 : 0 < t) (ht : t < 64) (w : World) : Calls Try.prog 10 #[.int .i64 cp, .int .i64 t] w (RetNew (CV.new cp t) w) := by
  obtain ⟨i0, hi0, hz0, hz1, hz2⟩ := info_parts Try.info_res
  have HI := Lib.hid (And.intro hi0 (And.intro hz0 (And.intro hz1 hz2)))
  clear hi0 hz0 hz1 hz2
  have HN := Lib.hid (show CV.new.newN t = t.toNat by unfold CV.new.newN; rw [if_pos (by omega)])
  obtain ⟨n, hn⟩ : ∃ n : Nat, n = t.toNat := ⟨_, rfl⟩
  have e2 : t = (n : Int) := by omega
  rw [← hn] at HN
  subst e2
  clear hn
  have e1 : (n : Int) < 64 := by omega
  go_enter Try.func10, Try.ntmps10
  go_wp2_with (at_make; go_loud (refine wpList_make_full _ rfl _ _ 23 rfl (w.heap.size + 1) 37 i0 (.agg #[.int .i64 0, .int .i64 0, .int .i64 0, .int .i64 0]) 4 Try.underlying23 HI.out.1 HI.out.2.1 HI.out.2.2.1 .i64 .i64 _ _ n rfl rfl (by first | rfl | omega | (simp; omega)) (by first | rfl | omega | (simp; omega)) (by rw [HI.out.2.2.2]; omega) (by unfold maxLen; omega) (by simp) ?_; intro w0 hown0 hgrow0; (rw [World.size_alloc] at hown0); have HO := Lib.hid hown0; have HG := Lib.hid ((Below.alloc (Below.refl w.heap.size w) (Nat.le_refl _) (.cells #[.int .i64 0, .slice none 0 0, .slice none 0 0] 25)).grown hgrow0 (by simp) (fun _ e => by cases e)); have hx := (Box3.new (a := .int .i64 0) (b := .slice none 0 0) (c := .slice none 0 0) w 25).grown hgrow0 (by simp) (by simp); (obtain ⟨c0, c1, c2, cf⟩ := hx); have cf0 := cf 0; have cf1 := cf 1; have cf2 := cf 2; clear cf hown0 hgrow0))
  refine bodyPost_ret (v := .agg #[.int .i64 cp, .slice none 0 0, .slice (some ⟨w.heap.size + 1, 0, none⟩) n n]) (by simp only [results, Try.results10]; go_simp) rfl ⟨_, rfl, ?_, ?_⟩
  · obtain ⟨a, cap, hv, hr⟩ := RowS.of (s := 4) (f := fun _ _ => 0) (by omega) (show World.ownsRow _ _ 37 4 (.slice (some ⟨w.heap.size + 1, 0, none⟩) n n) n (flatL 4 (fun _ _ => 0) n) from by
      rw [← zeros4]
      exact own_store3 (a := .int .i64 cp) (b := .slice none 0 0) (c := .slice (some ⟨w.heap.size + 1, 0, none⟩) n n) (p := w.heap.size) HO.out (by simp [Value.ownBlock]))
    simp only [Value.slice.injEq] at hv
    obtain ⟨rfl, _, rfl⟩ := hv
    refine ⟨none, 0, some ⟨w.heap.size + 1, 0, none⟩, n, ?_, ⟨by show (0 : Nat) * 8 ≤ _; omega, fun _ => ⟨rfl, rfl⟩, Nat.zero_le _, fun h => absurd h (Nat.lt_irrefl 0)⟩, ?_, fun q hq => by simp only [Value.ownBlock, Option.some.injEq] at hq; omega⟩
    · show Value.agg _ = Value.agg #[.int .i64 cp, .slice none 0 0, .slice _ (CV.new.newN _) _]
      rw [HN.out]
    · show RowS 4 _ _ (CV.new.newN _) _ _
      rw [HN.out]
      exact hr
  · exact store3_below HG.out (Nat.le_refl _)

set_option maxRecDepth 100000 in
set_option maxHeartbeats 3200000 in
theorem rnew_high (cp t : Int) (ht : 64 ≤ t) (w : World) : Calls Try.prog 10 #[.int .i64 cp, .int .i64 t] w (RetNew (CV.new cp t) w) := by
  obtain ⟨i0, hi0, hz0, hz1, hz2⟩ := info_parts Try.info_res
  have HI := Lib.hid (And.intro hi0 (And.intro hz0 (And.intro hz1 hz2)))
  clear hi0 hz0 hz1 hz2
  have HN := Lib.hid (show CV.new.newN t = 64 by unfold CV.new.newN; rw [if_neg (by omega)])
  skip
  go_enter Try.func10, Try.ntmps10
  go_wp2_with (at_make; go_loud (refine wpList_make_full _ rfl _ _ 23 rfl (w.heap.size + 1) 37 i0 (.agg #[.int .i64 0, .int .i64 0, .int .i64 0, .int .i64 0]) 4 Try.underlying23 HI.out.1 HI.out.2.1 HI.out.2.2.1 .i64 .i64 _ _ 64 rfl rfl (by first | rfl | omega | (simp; omega)) (by first | rfl | omega | (simp; omega)) (by rw [HI.out.2.2.2]; omega) (by unfold maxLen; omega) (by simp) ?_; intro w0 hown0 hgrow0; (rw [World.size_alloc] at hown0); have HO := Lib.hid hown0; have HG := Lib.hid ((Below.alloc (Below.refl w.heap.size w) (Nat.le_refl _) (.cells #[.int .i64 0, .slice none 0 0, .slice none 0 0] 25)).grown hgrow0 (by simp) (fun _ e => by cases e)); have hx := (Box3.new (a := .int .i64 0) (b := .slice none 0 0) (c := .slice none 0 0) w 25).grown hgrow0 (by simp) (by simp); (obtain ⟨c0, c1, c2, cf⟩ := hx); have cf0 := cf 0; have cf1 := cf 1; have cf2 := cf 2; clear cf hown0 hgrow0))
  refine bodyPost_ret (v := .agg #[.int .i64 cp, .slice none 0 0, .slice (some ⟨w.heap.size + 1, 0, none⟩) 64 64]) (by simp only [results, Try.results10]; go_simp) rfl ⟨_, rfl, ?_, ?_⟩
  · obtain ⟨a, cap, hv, hr⟩ := RowS.of (s := 4) (f := fun _ _ => 0) (by omega) (show World.ownsRow _ _ 37 4 (.slice (some ⟨w.heap.size + 1, 0, none⟩) 64 64) 64 (flatL 4 (fun _ _ => 0) 64) from by
      rw [← zeros4]
      exact own_store3 (a := .int .i64 cp) (b := .slice none 0 0) (c := .slice (some ⟨w.heap.size + 1, 0, none⟩) 64 64) (p := w.heap.size) HO.out (by simp [Value.ownBlock]))
    simp only [Value.slice.injEq] at hv
    obtain ⟨rfl, _, rfl⟩ := hv
    refine ⟨none, 0, some ⟨w.heap.size + 1, 0, none⟩, 64, ?_, ⟨by show (0 : Nat) * 8 ≤ _; omega, fun _ => ⟨rfl, rfl⟩, Nat.zero_le _, fun h => absurd h (Nat.lt_irrefl 0)⟩, ?_, fun q hq => by simp only [Value.ownBlock, Option.some.injEq] at hq; omega⟩
    · show Value.agg _ = Value.agg #[.int .i64 cp, .slice none 0 0, .slice _ (CV.new.newN _) _]
      rw [HN.out]
    · show RowS 4 _ _ (CV.new.newN _) _ _
      rw [HN.out]
      exact hr
  · exact store3_below HG.out (Nat.le_refl _)

theorem rnew_new (cp t : Int) (w : World) : Calls Try.prog 10 #[.int .i64 cp, .int .i64 t] w (RetNew (CV.new cp t) w) := by
  by_cases h0 : t ≤ 0
  · exact rnew_neg cp t h0 w
  by_cases h1 : t < 64
  · exact rnew_mid cp t (by omega) h1 w
  · exact rnew_high cp t (by omega) w
theorem rnew_any (cp t : Int) (w : World) : Calls Try.prog 10 #[.int .i64 cp, .int .i64 t] w (RetAt (CV.new cp t) w) := (rnew_new cp t w).mono fun _ _ h => h.at
end Go.Proofs.Ytmghbcddnmiamaa
