/- Contracts of the four changes that the accesses make, over the seat's program. -/
import Derived.Test.YtalkibpebfhoeaaBase
namespace Go.Proofs.Ytalkibpebfhoeaa
open Go.ChangeShapes Go.WideShapes Go.ChangeAt Go.RowKit Go.Joins

theorem add_f (b : Nat) (y old : Int) (w : World) (h : w.cell? ⟨b, 0, none⟩ = some (.int .u64 y)) : Calls Try.prog 24 #[.int .u64 old, .pointer (some ⟨b, 0, none⟩)] w fun e w' => e = .returned (.tuple #[.int .u64 (IntKind.u64.wrap (old + y)), .bool true]) ∧ w = w' := by
  go_enter Try.func24, Try.ntmps24
  go_wp2
  go_ret2
  exact ⟨rfl, rfl⟩
theorem load_f (old : Int) (w : World) : Calls Try.prog 25 #[.int .u64 old] w fun e w' => e = .returned (.tuple #[.int .u64 old, .bool true]) ∧ w = w' := by
  go_enter Try.func25, Try.ntmps25
  go_wp2
  go_ret2
  exact ⟨rfl, rfl⟩
theorem store_f (b : Nat) (y old : Int) (w : World) (h : w.cell? ⟨b, 0, none⟩ = some (.int .u64 y)) : Calls Try.prog 26 #[.int .u64 old, .pointer (some ⟨b, 0, none⟩)] w fun e w' => e = .returned (.tuple #[.int .u64 y, .bool true]) ∧ w = w' := by
  go_enter Try.func26, Try.ntmps26
  go_wp2
  go_ret2
  exact ⟨rfl, rfl⟩
theorem swap_same (b c : Nat) (want y : Int) (w : World) (h : w.cell? ⟨b, 0, none⟩ = some (.int .u64 want)) (h2 : w.cell? ⟨c, 0, none⟩ = some (.int .u64 y)) : Calls Try.prog 22 #[.int .u64 want, .pointer (some ⟨b, 0, none⟩), .pointer (some ⟨c, 0, none⟩)] w fun e w' => e = .returned (.tuple #[.int .u64 y, .bool true]) ∧ w = w' := by
  go_enter Try.func22, Try.ntmps22
  go_wp2
  go_ret2
  exact ⟨rfl, rfl⟩
theorem swap_other (b c : Nat) (want y old : Int) (hne : old ≠ want) (w : World) (h : w.cell? ⟨b, 0, none⟩ = some (.int .u64 want)) (_ : w.cell? ⟨c, 0, none⟩ = some (.int .u64 y)) : Calls Try.prog 22 #[.int .u64 old, .pointer (some ⟨b, 0, none⟩), .pointer (some ⟨c, 0, none⟩)] w fun e w' => e = .returned (.tuple #[.int .u64 old, .bool false]) ∧ w = w' := by
  have k1 : (old != want) = true := by simp [hne]
  clear hne
  go_enter Try.func22, Try.ntmps22
  go_wp2
  go_ret2
  exact ⟨rfl, rfl⟩
end Go.Proofs.Ytalkibpebfhoeaa
