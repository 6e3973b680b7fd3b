/- The contract of the reference's ReadCall over the seat's program, for any words. -/
import Derived.Test.YtcbdbpcibhjkjabRreadB
import Derived.Test.YtcbdbpcibhjkjabRreadG
namespace Go.Proofs.Ytcbdbpcibhjkjab
open Go.ChangeShapes Go.WideShapes Go.ChangeAt Go.RowKit Go.Joins

theorem rread_any {v : Value} {xs : List Int} (w : World) (h : WordsAt w v xs) (hx : ∀ x ∈ xs, 0 ≤ x ∧ x < 18446744073709551616) : Calls Try.prog 24 #[v] w (RetGot (readG xs) w) := by
  by_cases hl : xs.length = 5
  · match xs, hl with
    | [l0, l1, l2, l3, l4], _ =>
      rcases h with ⟨h0, _⟩ | ⟨b, off, cap, rfl, hb, hm, hc⟩
      · cases h0
      have c0 := hc 0 (by simp)
      have c1 := hc 1 (by simp)
      have c2 := hc 2 (by simp)
      have c3 := hc 3 (by simp)
      have c4 := hc 4 (by simp)
      have hc3 : ∀ i, i < 3 → w.cell? ⟨b, off + (1 + i), none⟩ = some (.int .u64 ([l1, l2, l3].getD i 0)) := fun i hi => by
        match i, hi with
        | 0, _ => exact c1
        | 1, _ => exact c2
        | 2, _ => exact c3
      by_cases hh : hdr l0 l4
      · by_cases hg : ∀ j, j < 3 → chk (ncase l0) j ([l1, l2, l3].getD j 0)
        · rw [readG_good l0 l1 l2 l3 l4 hx hh (hg 0 (by omega)) (hg 1 (by omega)) (hg 2 (by omega))]
          exact rread_good b off cap l0 l1 l2 l3 l4 w hb hx c0 c4 hc3 hh hg
        · rw [readG_bad l0 l1 l2 l3 l4 hx fun ⟨_, e1, e2, e3⟩ => hg fun j hj => by
            match j, hj with
            | 0, _ => exact e1
            | 1, _ => exact e2
            | 2, _ => exact e3]
          exact rread_bad b off cap l0 l1 l2 l3 l4 w hb hx c0 c4 hc3 hh hg
      · rw [readG_bad l0 l1 l2 l3 l4 hx fun ⟨e, _⟩ => hh e]
        exact rread_hdr b off cap l0 l4 w hb (hx l0 (by simp)) (hx l4 (by simp)) c0 c4 hh
  · rw [readG_short hl]
    exact rread_short w h hl
end Go.Proofs.Ytcbdbpcibhjkjab
