/-
  Plain facts on arrays of 64 bits and on the numbers that they are; no Go text in sight.
-/
import Derived.WalkKit
import Derived.Deep.WholeRow
import Derived.Test.YtdlhlhbbhjbkpaaPlain
import Derived.Test.YtdlhlhbbhjbkpaaMem
namespace Go.Proofs.Ytdlhlhbbhjbkpaa
open Go.RowKit

/-- The cells of an array of 64 bools. -/
def arr (f : Nat → Bool) : Array Value := Array.ofFn (n := 64) fun i => .bool (f i.val)

theorem arr_size (f : Nat → Bool) : (arr f).size = 64 := by simp [arr]
theorem arr_one (f : Nat → Bool) : (arr f).all (·.oneCell') = true := by
  rw [Array.all_eq_true]; intro i hi; simp [arr]; rfl
theorem arr_get (f : Nat → Bool) (i : Nat) (h : i < 64) : (arr f)[i]? = some (.bool (f i)) := by
  simp [arr, h]
theorem arr_set (f : Nat → Bool) (k : Nat) (b : Bool) : (arr f).setIfInBounds k (.bool b) = arr (fun i => if i = k then b else f i) := by
  apply Array.ext_getElem?
  intro i
  rw [Array.getElem?_setIfInBounds, arr_size]
  by_cases hi : i < 64
  · rw [arr_get _ _ hi, arr_get _ _ hi]
    by_cases h : k = i
    · subst h; simp [hi]
    · have h' : ¬ i = k := fun e => h e.symm
      simp [h, h']
  · have e1 : (arr f)[i]? = none := by simp [arr_size]; omega
    have e2 : (arr (fun i => if i = k then b else f i))[i]? = none := by simp [arr_size]; omega
    rw [e1, e2]
    by_cases h : k = i
    · subst h; simp [hi]
    · simp [h]
theorem arr_ext {f g : Nat → Bool} (h : ∀ i, i < 64 → f i = g i) : arr f = arr g := by
  apply Array.ext
  · simp [arr]
  · intro i h1 h2
    have : i < 64 := by simpa [arr] using h1
    simp [arr, h i this]
theorem arr_zero : arr (fun _ => false) = Array.replicate 64 (.bool false) := by
  apply Array.ext
  · simp [arr]
  · intro i h1 h2; simp [arr]

/-- The number of the first bits. -/
def val (f : Nat → Bool) : Nat → Nat
  | 0 => 0
  | k + 1 => val f k + if f k then 2 ^ k else 0

theorem val_ext {f g : Nat → Bool} : ∀ k, (∀ i, i < k → f i = g i) → val f k = val g k
  | 0, _ => rfl
  | k + 1, h => by
    rw [val, val, val_ext k (fun i hi => h i (by omega)), h k (by omega)]

theorem val_testBit (u : Nat) : ∀ k, val (fun i => u.testBit i) k = u % 2 ^ k
  | 0 => by simp [val, Nat.mod_one]
  | k + 1 => by
    rw [val, val_testBit u k, Nat.mod_pow_succ, Nat.testBit_eq_decide_div_mod_eq]
    rcases Nat.mod_two_eq_zero_or_one (u / 2 ^ k) with h | h <;> simp [h]

theorem val_all (u : Nat) (h : u < 18446744073709551616) : val (fun i => u.testBit i) 64 = u := by
  rw [val_testBit]; exact Nat.mod_eq_of_lt h

/-! ### Halving a number, bit by bit -/
theorem half_bit (a : Int) (k : Nat) (hk : k < 64) : (toU a).testBit k = decide (a / 2 ^ k % 2 = 1) := by
  have hM : (18446744073709551616 : Int) = 2 ^ k * (2 * 2 ^ (63 - k)) := by
    have : (18446744073709551616 : Int) = 2 ^ 64 := by decide
    rw [this, show (64 : Nat) = k + (1 + (63 - k)) by omega, Int.pow_add, Int.pow_add]; simp
  have h1 : a % 18446744073709551616 = a + 2 ^ k * (-(2 * 2 ^ (63 - k) * (a / 18446744073709551616))) := by
    have h := Int.emod_add_mul_ediv a 18446744073709551616
    have e : (18446744073709551616 : Int) * (a / 18446744073709551616) = 2 ^ k * (2 * 2 ^ (63 - k) * (a / 18446744073709551616)) := by
      rw [← Int.mul_assoc, ← hM]
    rw [Int.mul_neg, ← e]; omega
  have h2 : a % 18446744073709551616 / 2 ^ k = a / 2 ^ k + -(2 * 2 ^ (63 - k) * (a / 18446744073709551616)) := by
    rw [h1, Int.add_mul_ediv_left _ _ (by have : (0 : Int) < 2 ^ k := Int.pow_pos (by decide); omega)]
  have h3 : (a / 2 ^ k + -(2 * 2 ^ (63 - k) * (a / 18446744073709551616))) % 2 = a / 2 ^ k % 2 := by
    rw [Int.mul_assoc]
    generalize 2 ^ (63 - k) * (a / 18446744073709551616) = d
    generalize a / 2 ^ k = n
    omega
  rw [Nat.testBit_eq_decide_div_mod_eq]
  congr 1
  apply propext
  have h4 : ((toU a / 2 ^ k % 2 : Nat) : Int) = a / 2 ^ k % 2 := by
    push_cast
    rw [toU_cast, h2, h3]
  omega

theorem half_next (a : Int) (k : Nat) : a / 2 ^ (k + 1) = a / 2 ^ k / 2 := by
  rw [Int.pow_succ, Int.ediv_ediv_of_nonneg (by have : (0 : Int) < 2 ^ k := Int.pow_pos (by decide); omega)]

end Go.Proofs.Ytdlhlhbbhjbkpaa
