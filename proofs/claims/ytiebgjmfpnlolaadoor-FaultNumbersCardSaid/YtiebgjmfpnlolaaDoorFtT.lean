/- Faults that the law makes. -/
import Derived.Test.YtiebgjmfpnlolaaDoorFtS
import Derived.IntWalk
import Derived.Test.YtiebgjmfpnlolaaDoorFtO
import Derived.Deep.LoopGhost
import Derived.Test.YtiebgjmfpnlolaaDoorShelf
namespace Go.Proofs.YtiebgjmfpnlolaaDoor
open Go.RowKit Go.Extern.Stop Go.Stop Go.Extern
set_option maxRecDepth 100000

/-- A row of names and places that lies in memory. -/
def RowO (w : World) (a : Option Addr) (n : Nat) (fs : Nat → ByteArray) (fp : Nat → Int) : Prop :=
  0 < n → ∃ b off, a = some ⟨b, off, none⟩ ∧ b < w.heap.size ∧ ∀ i, i < n → w.cell? ⟨b, off + i * 2, none⟩ = some (.string (fs i)) ∧ w.cell? ⟨b, off + i * 2 + 1, none⟩ = some (.int .i64 (fp i))
theorem RowO.below {w w' : World} {a : Option Addr} {n : Nat} {fs : Nat → ByteArray} {fp : Nat → Int} (h : RowO w a n fs fp) (hb : Below w.heap.size w w') : RowO w' a n fs fp := fun h0 => by
  obtain ⟨b, off, ha, hg, hi⟩ := h h0
  exact ⟨b, off, ha, Nat.lt_of_lt_of_le hg hb.size, fun i h => ⟨((bcell hb).1 _ _ hg).trans (hi i h).1, ((bcell hb).1 _ _ hg).trans (hi i h).2⟩⟩
/-- A new fault. -/
def NewF (s : ByteArray) (p : Int) (u : Value) (w : World) (r : Ending) (w' : World) : Prop :=
  ∃ b, r = .returned (.iface 44 (.pointer (some ⟨b, 0, none⟩))) ∧ (b < w'.heap.size ∧ w'.cell? ⟨b, 0, none⟩ = some (.string s) ∧ w'.cell? ⟨b, 1, none⟩ = some (.int .i64 p) ∧ w'.cell? ⟨b, 2, none⟩ = some u) ∧ Below w.heap.size w w'
theorem newF_of {s : ByteArray} {p : Int} {u : Value} {w : World} {r : Ending} {w' : World} (h : RetFault s p u w r w') : NewF s p u w r w' := by
  obtain ⟨rfl, rfl⟩ := h
  exact ⟨w.heap.size, rfl, ⟨by simp, by simp, by simp, by simp⟩, (Below.refl _ _).alloc (Nat.le_refl _) _⟩
theorem In_new (s : ByteArray) (p : Int) (t : TypeId) (u : Value) (w : World) : Calls Tryd.prog 17 #[.string s, .int .i64 p, .iface t u] w fun r w' => ∃ b, r = .returned (.iface 44 (.pointer (some ⟨b, 0, none⟩))) ∧ (b < w'.heap.size ∧ w'.cell? ⟨b, 0, none⟩ = some (.string s) ∧ w'.cell? ⟨b, 1, none⟩ = some (.int .i64 p) ∧ w'.cell? ⟨b, 2, none⟩ = some (.iface t u)) ∧ Below w.heap.size w w' := (In_some s p t u w).mono fun _ _ h => newF_of h
theorem At_new (s : ByteArray) (p n : Int) (hn : n ≠ 0) (w : World) : Calls Tryd.prog 21 #[.string s, .int .i64 p, .int .i64 n] w fun r w' => ∃ b, r = .returned (.iface 44 (.pointer (some ⟨b, 0, none⟩))) ∧ (b < w'.heap.size ∧ w'.cell? ⟨b, 0, none⟩ = some (.string s) ∧ w'.cell? ⟨b, 1, none⟩ = some (.int .i64 p) ∧ w'.cell? ⟨b, 2, none⟩ = some (.iface 23 (.int .i64 n))) ∧ Below w.heap.size w w' := (At_some s p n hn w).mono fun _ _ h => newF_of h
def consN (b : Nat) (fb : Nat → Nat) (j : Nat) : Nat := if j = 0 then b else fb (j - 1)
theorem chain_cons {w w' : World} {m k b : Nat} {fb : Nat → Nat} {fs : Nat → ByteArray} {fp : Nat → Int} {bot : Value} (h : Chain w m fb (fun j => fs (k + 1 + j)) (fun j => fp (k + 1 + j)) bot) (hw : Below w.heap.size w w')
    (hn : b < w'.heap.size ∧ w'.cell? ⟨b, 0, none⟩ = some (.string (fs k)) ∧ w'.cell? ⟨b, 1, none⟩ = some (.int .i64 (fp k)) ∧ w'.cell? ⟨b, 2, none⟩ = some (lk m fb bot 0)) :
    Chain w' (m + 1) (consN b fb) (fun j => fs (k + j)) (fun j => fp (k + j)) bot := fun i hi => by
  have hlk : ∀ j, lk (m + 1) (consN b fb) bot (j + 1) = lk m fb bot j := fun j => by
    unfold lk consN
    by_cases hj : j < m
    · rw [if_pos (by omega), if_pos hj, if_neg (by omega), Nat.add_sub_cancel]
    · rw [if_neg (by omega), if_neg hj]
  rw [hlk]
  match i with
  | 0 => exact hn
  | i + 1 =>
    obtain ⟨h0, h1, h2, h3⟩ := h.below hw i (by omega)
    have he : consN b fb (i + 1) = fb i := by simp [consN]
    rw [he]
    have e2 : k + (i + 1) = k + 1 + i := by omega
    dsimp only at h1 h2 ⊢
    rw [e2]
    exact ⟨h0, h1, h2, h3⟩
/-- Faults that a call has made. -/
def RetChain (w : World) (n : Nat) (fs : Nat → ByteArray) (fp : Nat → Int) (bot : Value) (r : Ending) (w' : World) : Prop := ∃ fb, r = .returned (lk n fb bot 0) ∧ Chain w' n fb fs fp bot ∧ Below w.heap.size w w'
set_option maxHeartbeats 3200000 in
theorem made_any (a : Option Addr) (n cap : Nat) (fs : Nat → ByteArray) (fp : Nat → Int) (x : Int) (hx : x ≠ 0) (w : World) (h0 : 0 < n) (hn : n ≤ 60) (h : RowO w a n fs fp) : Calls Tryd.prog 6 #[.slice a n cap, .int .i64 x] w (RetChain w n fs fp (.iface 23 (.int .i64 x))) := by
  have HR := Lib.hid (fun W hW => (h.below hW : RowO W a n fs fp))
  obtain ⟨m, rfl⟩ : ∃ m, n = m + 1 := ⟨n - 1, by omega⟩
  obtain ⟨b, off, rfl, hb, hi⟩ := h h0
  have c0 := (hi m (by omega)).1
  have c1 := (hi m (by omega)).2
  have HAT := Lib.hid (fun s p W => At_new s p x hx W)
  have e1 : IntKind.i64.wrap ((m : Int) + 1 - 1) = (m : Int) := by rw [show (m : Int) + 1 - 1 = m by omega]; exact IntWalk.i64_in _ (by omega)
  have e1' : IntKind.i64.wrap (m : Int) = (m : Int) := IntWalk.i64_in _ (by omega)
  have i1' : (m : Int) < ((m + 1 : Nat) : Int) := by omega
  have e2 : IntKind.i64.wrap ((m : Int) + 1 - 2) = (m : Int) - 1 := by rw [show (m : Int) + 1 - 2 = (m : Int) - 1 by omega]; exact IntWalk.i64_in _ (by omega)
  have e3 : ((m : Int) + 1 == 0) = false := by simp; omega
  have i0 : (0 : Int) ≤ (m : Int) := by omega
  have i1 : (m : Int) < (m : Int) + 1 := by omega
  clear hi h hx
  go_enter Tryd.func6, Tryd.ntmps6
  go_wp2_with fail
  go_region_held3 (fun W => W.cell? ⟨b, off + m * 2, none⟩ = some (.string (fs m)) ∧ W.cell? ⟨b, off + m * 2 + 1, none⟩ = some (.int .i64 (fp m)))
    (first | with_reducible exact ⟨c0, c1⟩ | (go_simp; done) | go_keep)
    ((go_at_call 21; (with_reducible refine (HAT.out _ _ _).mono ?_); rintro r w2 ⟨g, rfl, hg, hw⟩; have HB2 := Lib.hid (show Below w.heap.size w w2 from below_next (by repeat' (first | with_reducible exact Below.refl _ _ | with_reducible refine Below.drew ?_)) hw); have HG := Lib.hid hg; have c0 := ((bcell HB2.out).1 _ _ hb).trans c0; have c1 := ((bcell HB2.out).1 _ _ hb).trans c1; clear hw hg))
  go_wp2_with fail
  go_loopw [6, 7] (fun er i wr => ∃ k, k ≤ m ∧ i = .int .i64 ((k : Int) - 1) ∧ ∃ fb, er = .iface 44 (.pointer (some ⟨fb 0, 0, none⟩)) ∧ Chain wr (m + 1 - k) fb (fun j => fs (k + j)) (fun j => fp (k + j)) (.iface 23 (.int .i64 x)) ∧ Below w.heap.size w wr) (fun _ i _ => (intOf i + 1).toNat)
  case atStart =>
    refine ⟨m, Nat.le_refl _, rfl, fun _ => g, rfl, ?_, HB2.out⟩
    rw [show m + 1 - m = 1 by omega]
    intro i hi1
    obtain rfl : i = 0 := by omega
    exact HG.out
  case round =>
    clear c0 c1
    obtain ⟨k, hk, rfl, fb, rfl, hc, hw⟩ := hrel
    have HCH := Lib.hid hc
    have HBk := Lib.hid hw
    clear hc hw
    rcases Nat.eq_zero_or_pos k with hk0 | hk0
    · subst hk0
      go_wp2_with fail
      go_ret
      have HL : lk (m + 1) fb (.iface 23 (.int .i64 x)) 0 = .iface 44 (.pointer (some ⟨fb 0, 0, none⟩)) := lk_in (by omega)
      exact ⟨fb, by rw [HL]; rfl, by simpa using HCH.out, HBk.out⟩
    · obtain ⟨q, rfl⟩ : ∃ q, k = q + 1 := ⟨k - 1, by omega⟩
      obtain ⟨b2, off2, hab, hb2, hi2⟩ := HR.out _ HBk.out (by omega)
      simp only [Option.some.injEq, Addr.mk.injEq] at hab
      obtain ⟨rfl, rfl, _⟩ := hab
      have c0 := (hi2 q (by omega)).1
      have c1 := (hi2 q (by omega)).2
      have j0 : (0 : Int) ≤ (q : Int) := by omega
      have j1 : (q : Int) < (m : Int) + 1 := by omega
      have j1' : (q : Int) < ((m + 1 : Nat) : Int) := by omega
      have e4 : ((q + 1 : Nat) : Int) - 1 = (q : Int) := by omega
      have e5 : IntKind.i64.wrap ((q : Int) - 1) = (q : Int) - 1 := IntWalk.i64_in _ (by omega)
      clear hi2
      rw [e4]
      go_wp2_with fail
      go_region_held3 (fun W => W.cell? ⟨b, off + q * 2, none⟩ = some (.string (fs q)) ∧ W.cell? ⟨b, off + q * 2 + 1, none⟩ = some (.int .i64 (fp q)))
        (first | with_reducible exact ⟨c0, c1⟩ | (go_simp; done) | go_keep)
        ((go_at_call 17; (with_reducible refine (In_new _ _ _ _ _).mono ?_); rintro r w4 ⟨g4, rfl, hg, hw⟩; have HB4 := Lib.hid (show Below wr.heap.size wr w4 from below_next (by repeat' (first | with_reducible exact Below.refl _ _ | with_reducible refine Below.drew ?_)) hw); have HG4 := Lib.hid hg; have c0 := ((bcell HB4.out).1 _ _ hb2).trans c0; have c1 := ((bcell HB4.out).1 _ _ hb2).trans c1; clear hw hg))
      go_wp2_with fail
      go_roundw
      case rel =>
        refine ⟨q, by omega, by go_num, consN g4 fb, rfl, ?_, below_next HBk.out HB4.out⟩
        rw [show m + 1 - q = m + 1 - (q + 1) + 1 by omega]
        have HL : lk (m + 1 - (q + 1)) fb (.iface 23 (.int .i64 x)) 0 = .iface 44 (.pointer (some ⟨fb 0, 0, none⟩)) := lk_in (by omega)
        refine chain_cons HCH.out HB4.out ?_
        rw [HL]
        exact HG4.out
      case measure => simp [intOf]
end Go.Proofs.YtiebgjmfpnlolaaDoor
