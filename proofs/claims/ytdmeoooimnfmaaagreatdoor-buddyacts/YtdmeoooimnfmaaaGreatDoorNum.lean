/- The plain arithmetic of blocks of pages: powers of two at the orders 0 to 6, what is aligned, the buddy, the parent. Nothing of a program stands here. -/
import Derived.Laws.BitsAllLaws
import Derived.Below
namespace Go.Proofs.YtdmeoooimnfmaaaGreatDoor
open Go.RowKit

namespace Fr
def pw (k : Int) : Int := 2 ^ k.toNat
def al (a k : Int) : Bool := a / pw k * pw k == a
def bud (a k : Int) : Int := if a / pw k % 2 = 0 then a + pw k else a - pw k
def par (a k : Int) : Int := a / pw (k + 1) * pw (k + 1)

theorem orders (k : Int) (h0 : 0 ≤ k) (h6 : k ≤ 6) : k = 0 ∨ k = 1 ∨ k = 2 ∨ k = 3 ∨ k = 4 ∨ k = 5 ∨ k = 6 := by omega
theorem pw0 : pw 0 = 1 := by decide
theorem pw1 : pw 1 = 2 := by decide
theorem pw2 : pw 2 = 4 := by decide
theorem pw3 : pw 3 = 8 := by decide
theorem pw4 : pw 4 = 16 := by decide
theorem pw5 : pw 5 = 32 := by decide
theorem pw6 : pw 6 = 64 := by decide

theorem al_iff (a k : Int) : al a k = true ↔ a / pw k * pw k = a := by simp [al]

/-- The bits: 'a xor 2^k' is the buddy, for an aligned a. -/
theorem xor_all : ∀ n : Fin 256, ∀ k : Fin 7, bits .xor .i64 ((n.val : Nat) : Int) ((2 ^ k.val : Nat) : Int) = if ((n.val / 2 ^ k.val) % 2 = 0) then ((n.val + 2 ^ k.val : Nat) : Int) else ((n.val - 2 ^ k.val : Nat) : Int) := by decide +kernel
theorem or_all : ∀ n : Fin 256, ∀ k : Fin 7, bits .or .i64 ((n.val : Nat) : Int) ((2 ^ k.val : Nat) : Int) = if ((n.val / 2 ^ k.val) % 2 = 0) then ((n.val + 2 ^ k.val : Nat) : Int) else ((n.val : Nat) : Int) := by decide +kernel

theorem xor_bud (a k : Int) (h0 : 0 ≤ a) (h1 : a < 256) (k0 : 0 ≤ k) (k6 : k ≤ 6) : bits .xor .i64 a (pw k) = bud a k := by
  obtain ⟨n, rfl⟩ := Int.eq_ofNat_of_zero_le h0
  have h := xor_all ⟨n, by omega⟩ ⟨k.toNat, by omega⟩
  simp only at h
  have e : ((2 ^ k.toNat : Nat) : Int) = pw k := by simp [pw]
  rw [e] at h
  rw [h]
  unfold bud
  rw [← e]
  have h2 : 0 < 2 ^ k.toNat := Nat.pow_pos (by omega)
  generalize 2 ^ k.toNat = p at *
  by_cases hp : n / p % 2 = 0
  · rw [if_pos hp, if_pos (by omega)]; omega
  · have : p ≤ n := by
      rcases Nat.lt_or_ge n p with hlt | hge
      · rw [Nat.div_eq_of_lt hlt] at hp; omega
      · exact hge
    rw [if_neg hp, if_neg (by omega)]; omega

theorem or_up (a k : Int) (h0 : 0 ≤ a) (h1 : a < 256) (k0 : 0 ≤ k) (k6 : k ≤ 5) (ha : al a (k + 1) = true) : bits .or .i64 a (pw k) = a + pw k := by
  rw [al_iff] at ha
  obtain ⟨n, rfl⟩ := Int.eq_ofNat_of_zero_le h0
  have h := or_all ⟨n, by omega⟩ ⟨k.toNat, by omega⟩
  simp only at h
  have e : ((2 ^ k.toNat : Nat) : Int) = pw k := by simp [pw]
  rw [e] at h
  rw [h]
  have hz : n / 2 ^ k.toNat % 2 = 0 := by
    rcases orders k k0 (by omega) with rfl | rfl | rfl | rfl | rfl | rfl | rfl <;> simp [pw] at ha ⊢ <;> omega
  rw [if_pos hz, ← e]; omega
end Fr
end Go.Proofs.YtdmeoooimnfmaaaGreatDoor
