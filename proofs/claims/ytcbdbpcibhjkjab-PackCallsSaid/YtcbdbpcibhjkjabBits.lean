/- Plain arithmetic: words put together of parts that do not meet, and taken apart. -/
import Derived.Test.YtcbdbpcibhjkjabBase
import Derived.Laws.BitsAllLaws
namespace Go.Proofs.Ytcbdbpcibhjkjab

theorem bor (k : Nat) (x y : Int) (K : Int) (hK : K = 2 ^ k) (h0 : 0 ≤ x) (h1 : x < K) (h2 : 0 ≤ y) (h3 : y % K = 0) (h4 : y < 18446744073709551616) (h5 : x < 18446744073709551616) : bits .or .u64 x y = x + y := by
  rw [u64_or x y h0 h5 h2 h4]
  obtain ⟨a, rfl⟩ := Int.eq_ofNat_of_zero_le h0
  obtain ⟨b, rfl⟩ := Int.eq_ofNat_of_zero_le h2
  have hK' : K = ((2 ^ k : Nat) : Int) := by rw [hK]; simp
  rw [hK'] at h1 h3
  have h1' : a < 2 ^ k := by omega
  have h3' : b % 2 ^ k = 0 := by
    have : ((b % 2 ^ k : Nat) : Int) = 0 := by rw [← h3]; exact (Int.natCast_emod b (2 ^ k))
    omega
  have hb : b = 2 ^ k * (b / 2 ^ k) := by have := Nat.div_add_mod b (2 ^ k); omega
  have := Nat.two_pow_add_eq_or_of_lt h1' (b / 2 ^ k)
  rw [← hb] at this
  simp only [Int.toNat_natCast]
  rw [Nat.or_comm, ← this]
  simp [Int.add_comm]

/-- The twelfth bit, where it is not there. -/
theorem bor12 (x : Int) (h0 : 0 ≤ x) (h1 : x < 18446744073709551616) (h2 : x / 4096 % 16 = 0) : bits .or .u64 x 4096 = x + 4096 := by
  have e1 : x = x / 65536 * 65536 + x % 4096 := by omega
  have u1 : bits .or .u64 (x % 4096) (x / 65536 * 65536) = x % 4096 + x / 65536 * 65536 := bor 12 _ _ 4096 rfl (by omega) (by omega) (by omega) (by omega) (by omega) (by omega)
  have u2 : bits .or .u64 (x % 4096) 4096 = x % 4096 + 4096 := bor 12 _ _ 4096 rfl (by omega) (by omega) (by omega) (by omega) (by omega) (by omega)
  have u3 : bits .or .u64 (x % 4096 + 4096) (x / 65536 * 65536) = x % 4096 + 4096 + x / 65536 * 65536 := bor 16 _ _ 65536 rfl (by omega) (by omega) (by omega) (by omega) (by omega) (by omega)
  rw [u64_or _ _ (by omega) (by omega) (by omega) (by omega)] at u1 u2 u3
  rw [u64_or _ _ h0 h1 (by omega) (by omega)]
  have n1 : (x % 4096).toNat ||| (x / 65536 * 65536).toNat = x.toNat := by omega
  have n2 : (x % 4096).toNat ||| (4096 : Int).toNat = (x % 4096 + 4096).toNat := by omega
  have n3 : (x % 4096 + 4096).toNat ||| (x / 65536 * 65536).toNat = (x + 4096).toNat := by omega
  rw [← n1, Nat.or_assoc, Nat.or_comm _ (4096 : Int).toNat, ← Nat.or_assoc, n2, n3]
  omega

theorem band (k : Nat) (x K : Int) (hK : K = 2 ^ k - 1) (h0 : 0 ≤ x) (h1 : x < 18446744073709551616) (h2 : 0 ≤ K) (h3 : K < 18446744073709551616) : bits .and .u64 x K = x % (K + 1) := by
  rw [u64_and x K h0 h1 h2 h3]
  have hk : K.toNat = 2 ^ k - 1 := by
    have : K = ((2 ^ k : Nat) : Int) - 1 := by rw [hK]; simp
    omega
  rw [hk, Nat.and_two_pow_sub_one_eq_mod]
  have : K + 1 = ((2 ^ k : Nat) : Int) := by rw [hK]; simp
  rw [this]
  obtain ⟨a, rfl⟩ := Int.eq_ofNat_of_zero_le h0
  simp
end Go.Proofs.Ytcbdbpcibhjkjab
