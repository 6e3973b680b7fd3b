/- The reference's Copy of a channel, over the seat's program. -/
import Derived.Test.YtihpjfhibhpciaaChP
namespace Go.Proofs.Ytihpjfhibhpciaa
open Go.ChangeShapes Go.WideShapes Go.ChangeAt Go.RowKit Go.Joins

theorem RowZ.news {w : World} {a : Option Addr} {n cap : Nat} {f : Nat → Int} (h : RowZ w a n cap f) {ad : Addr} (ha : a = some ad) : ∀ j u, (rowL .i64 f n)[j]? = some u → w.cell? (ad.add j) = some u := by
  intro j u hu
  have hj : j < n := by
    have := (List.getElem?_eq_some_iff.1 hu).1
    simpa [rowL] using this
  rw [rowL_get hj] at hu
  obtain ⟨b, off, hab, _, hc⟩ := h.get hj
  rw [ha] at hab
  injection hab with hab
  subst hab
  rw [show ((⟨b, off, none⟩ : Addr).add j) = ⟨b, off + j, none⟩ from Go.WideShapes.add_plain ..]
  exact (hc j hj).trans hu
theorem OwnP.rowZ {P : Nat → Prop} {w : World} {n : Nat} {v : Value} {f : Nat → Int} (hl : n * 8 ≤ 140737488355328) (h : OwnP P w 3 1 v n (rowL .i64 f n)) : ∃ a cap, v = .slice a n cap ∧ RowZ w a n cap f := by
  rcases h with ⟨rfl, q, rfl⟩ | ⟨B, h, hp⟩
  · exact ⟨_, _, rfl, by omega, (fun h => by cases h), fun h => absurd h (by omega)⟩
  · obtain ⟨a, cap, rfl⟩ := own_form h
    exact ⟨a, cap, rfl, own_rowZ hl h⟩
theorem OwnP.set5 {P : Nat → Prop} {w : World} {E s n : Nat} {v : Value} {xs : List Value} (h : OwnP P w E s v n xs) {p : Nat} {a b c d e : Value} (hne : ¬ P p) : OwnP P (store5 w p a b c d e) E s v n xs := ((((h.set hne).set hne).set hne).set hne).set hne
set_option maxRecDepth 100000 in
set_option maxHeartbeats 3200000 in
theorem rchan_copy (ca : Option Addr) (cc : Nat) (C : CH) (w : World) (h : RowZ w ca C.n cc C.f) (hm : C.n ≤ maxLen) :
    Calls Try.prog 30 #[.agg #[.int .i64 C.gen, .int .i64 C.cap, .bool C.used, .bool C.closed, .slice ca C.n cc]] w fun e w' => (∃ a' c', e = .returned (.agg #[.int .i64 C.gen, .int .i64 C.cap, .bool C.used, .bool C.closed, .slice a' C.n c']) ∧ OwnP (fun b => w.heap.size + 2 ≤ b) w' 3 1 (.slice a' C.n c') C.n (rowL .i64 C.f C.n)) ∧ Below w.heap.size w w' := by
  have hn := h.1
  have HB0 := Lib.hid (show Below w.heap.size w ((w.alloc (.cells #[.int .i64 C.gen, .int .i64 C.cap, .bool C.used, .bool C.closed, .slice ca C.n cc] 44)).alloc (.cells #[.int .i64 0, .int .i64 0, .bool false, .bool false, .slice none 0 0] 44)) from ((Below.refl _ _).alloc (Nat.le_refl _) _).alloc (by simp) _)
  have HX := Lib.hid ((Box.new (a := .int .i64 C.gen) (b := .int .i64 C.cap) (c := .bool C.used) (d := .bool C.closed) (e := .slice ca C.n cc) w 44).below (by simp) ((Below.refl _ _).alloc (Nat.le_refl _) (.cells #[.int .i64 0, .int .i64 0, .bool false, .bool false, .slice none 0 0] 44)))
  have HY := Lib.hid (Box.new (a := .int .i64 0) (b := .int .i64 0) (c := .bool false) (d := .bool false) (e := .slice none 0 0) (w.alloc (.cells #[.int .i64 C.gen, .int .i64 C.cap, .bool C.used, .bool C.closed, .slice ca C.n cc] 44)) 44)
  have HR := Lib.hid (h.below HB0.out)
  have hsz : ((w.alloc (.cells #[.int .i64 C.gen, .int .i64 C.cap, .bool C.used, .bool C.closed, .slice ca C.n cc] 44)).alloc (.cells #[.int .i64 0, .int .i64 0, .bool false, .bool false, .slice none 0 0] 44)).heap.size = w.heap.size + 2 := by simp
  rw [World.size_alloc] at HY
  clear h
  go_enter Try.func30, Try.ntmps30
  go_upto_region 1 with (fail)
  revert HB0 HX HY HR hsz
  generalize (w.alloc (.cells #[.int .i64 C.gen, .int .i64 C.cap, .bool C.used, .bool C.closed, .slice ca C.n cc] 44)).alloc (.cells #[.int .i64 0, .int .i64 0, .bool false, .bool false, .slice none 0 0] 44) = u
  intro HB0 HX HY HR hsz
  (obtain ⟨x0, x1, x2, x3, x4, xf⟩ := HX.out)
  (obtain ⟨y0, y1, y2, y3, y4, yf⟩ := HY.out)
  have f4 := xf 4
  have g0 := yf 0
  have g1 := yf 1
  have g2 := yf 2
  have g3 := yf 3
  have g4 := yf 4
  clear xf yf
  have hA : Below u.heap.size u (u.alloc (.cells #[] 3)) := (Below.refl _ _).alloc (Nat.le_refl _) _
  have HRA := Lib.hid (HR.out.below hA)
  clear hA
  go_upto_region 2 with (at_builtin; go_loud (refine nlist_copy rfl _ _ 36 rfl 3 (.int .i64 0) 1 8 Try.underlying36 Try.info_int rfl (by decide) (w.heap.size + 2) rfl ca C.n cc (rowL .i64 C.f C.n) rfl (by simp [rowL]) (fun e => HRA.out.2.1 e) (fun ad e => HRA.out.news e) hm hn ?_; intro l' c' w1 ho hg; have HO := Lib.hid ho; have hb := (show Below u.heap.size u (u.alloc (.cells #[] 3)) from (Below.refl _ _).alloc (Nat.le_refl _) _).trans ((below_of_grown hg).mono (by simp)); have HB1 := Lib.hid (HB0.out.trans (hb.mono HB0.out.size)); have hx := HX.out.below (by omega) hb; have hy := HY.out.below (by omega) hb; clear x0 x1 x2 x3 x4 y0 y1 y2 y3 y4 f4 g0 g1 g2 g3 g4 ho hg hb; obtain ⟨x0, x1, x2, x3, x4, xf⟩ := hx; obtain ⟨y0, y1, y2, y3, y4, yf⟩ := hy; have f4 := xf 4; have g0 := yf 0; have g1 := yf 1; have g2 := yf 2; have g3 := yf 3; have g4 := yf 4; clear xf yf))
  have h2 : w.heap.size + 2 ≤ (u.alloc (.cells #[] 3)).heap.size := by simp; omega
  go_wp2
  refine bodyPost_ret (v := .agg #[.int .i64 C.gen, .int .i64 C.cap, .bool C.used, .bool C.closed, .slice l' C.n c']) (by simp only [results, Try.results30]; go_simp) rfl ⟨⟨l', c', rfl, ?_⟩, ?_⟩
  · exact ((HO.out.imp (fun b _ hb => Nat.le_trans h2 hb)).set (p := w.heap.size) (i := 4) (x := .slice l' C.n c') (by omega)).set5 (p := w.heap.size + 1) (by omega)
  · exact store5_below (a := .int .i64 C.gen) (b := .int .i64 C.cap) (c := .bool C.used) (d := .bool C.closed) (e := .slice l' C.n c') (p := w.heap.size + 1) (HB1.out.setCell (Nat.le_refl _) _) (by omega)
end Go.Proofs.Ytihpjfhibhpciaa
