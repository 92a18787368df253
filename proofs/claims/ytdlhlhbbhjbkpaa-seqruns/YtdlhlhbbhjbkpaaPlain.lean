/-
  Plain arithmetic, no Go in sight: what the ten operations and the four conditions of package num come to, as functions of whole numbers, and the laws on them that the three statements want.
-/
import Derived.RowKit
import Derived.WalkKit
import Derived.Laws.BitsAllLaws
namespace Go.Proofs.Ytdlhlhbbhjbkpaa
open Go.RowKit

/-- A number of 64 bits, taken from 0 on. -/
def toU (a : Int) : Nat := (a % 18446744073709551616).toNat

theorem toU_cast (a : Int) : ((toU a : Nat) : Int) = a % 18446744073709551616 := by unfold toU; omega
theorem toU_lt (a : Int) : toU a < 18446744073709551616 := by unfold toU; omega

/-- What an operation makes of two numbers. -/
def opI (op a b : Int) : Int :=
  if op = 1 then wrap64 (a + b)
  else if op = 2 then wrap64 (a - b)
  else if op = 3 then wrap64 (a * b)
  else if op = 4 then wrap64 ((toU a &&& toU b : Nat) : Int)
  else if op = 5 then wrap64 ((toU a ||| toU b : Nat) : Int)
  else if op = 6 then wrap64 ((toU a ^^^ toU b : Nat) : Int)
  else if op = 7 then wrap64 ((toU a * 2 ^ (toU b % 64) : Nat) : Int)
  else if op = 8 then wrap64 ((toU a / 2 ^ (toU b % 64) : Nat) : Int)
  else if op = 9 then wrap64 ((toU a / toU b : Nat) : Int)
  else if op = 10 then wrap64 ((toU a % toU b : Nat) : Int)
  else 0

/-- Whether two numbers are as a condition says. -/
def holdsI (c a b : Int) : Bool :=
  if c = 1 then toU a == toU b
  else if c = 2 then toU a != toU b
  else if c = 3 then decide (toU a < toU b)
  else if c = 4 then decide (toU b ≤ toU a)
  else false

theorem uwrap (a : Int) : IntKind.u64.wrap a = ((toU a : Nat) : Int) := by rw [IntKind.wrap_u64, toU_cast]

theorem wrap_uwrap (n : Int) : wrap64 (IntKind.u64.wrap n) = wrap64 n := by
  rw [IntKind.wrap_u64]; unfold wrap64; omega

theorem wrap_add (a b : Int) : wrap64 (IntKind.u64.wrap (IntKind.u64.wrap a + IntKind.u64.wrap b)) = wrap64 (a + b) := by
  rw [wrap_uwrap]; simp only [IntKind.wrap_u64]; unfold wrap64; omega
theorem wrap_sub (a b : Int) : wrap64 (IntKind.u64.wrap (IntKind.u64.wrap a - IntKind.u64.wrap b)) = wrap64 (a - b) := by
  rw [wrap_uwrap]; simp only [IntKind.wrap_u64]; unfold wrap64; omega
theorem wrap_mul (a b : Int) : wrap64 (IntKind.u64.wrap (IntKind.u64.wrap a * IntKind.u64.wrap b)) = wrap64 (a * b) := by
  have h : (a % 18446744073709551616 * (b % 18446744073709551616)) % 18446744073709551616 = (a * b) % 18446744073709551616 := by
    rw [← Int.mul_emod]
  rw [wrap_uwrap]; simp only [IntKind.wrap_u64]; unfold wrap64; omega
theorem wrap_and (a b : Int) : wrap64 (bits .and .u64 (IntKind.u64.wrap a) (IntKind.u64.wrap b)) = wrap64 ((toU a &&& toU b : Nat) : Int) := by
  rw [uwrap, uwrap, u64_and_nat _ _ (toU_lt a) (toU_lt b)]
theorem wrap_or (a b : Int) : wrap64 (bits .or .u64 (IntKind.u64.wrap a) (IntKind.u64.wrap b)) = wrap64 ((toU a ||| toU b : Nat) : Int) := by
  rw [uwrap, uwrap, u64_or_nat _ _ (toU_lt a) (toU_lt b)]
theorem wrap_xor (a b : Int) : wrap64 (bits .xor .u64 (IntKind.u64.wrap a) (IntKind.u64.wrap b)) = wrap64 ((toU a ^^^ toU b : Nat) : Int) := by
  rw [uwrap, uwrap, u64_xor_nat _ _ (toU_lt a) (toU_lt b)]
theorem and63 (y : Int) : bits BinOp.and IntKind.u64 (IntKind.u64.wrap y) 63 = ((toU y % 64 : Nat) : Int) := by
  have h := u64_and_nat (toU y) 63 (toU_lt y) (by decide)
  rw [uwrap]
  exact h.trans (by rw [nat_mask6])
theorem wrap_shl (a : Int) (k : Nat) : wrap64 (IntKind.u64.wrap (IntKind.u64.wrap a * 2 ^ k)) = wrap64 ((toU a * 2 ^ k : Nat) : Int) := by
  rw [wrap_uwrap, uwrap]; push_cast; rfl
theorem wrap_shr (a : Int) (k : Nat) : wrap64 (IntKind.u64.wrap a / 2 ^ k) = wrap64 ((toU a / 2 ^ k : Nat) : Int) := by
  rw [uwrap]; push_cast; rfl
theorem wrap_quo (a b : Int) : wrap64 (IntKind.u64.wrap ((IntKind.u64.wrap a).tdiv (IntKind.u64.wrap b))) = wrap64 ((toU a / toU b : Nat) : Int) := by
  rw [wrap_uwrap, uwrap, uwrap, Int.ofNat_tdiv]
theorem wrap_rem (a b : Int) : wrap64 ((IntKind.u64.wrap a).tmod (IntKind.u64.wrap b)) = wrap64 ((toU a % toU b : Nat) : Int) := by
  rw [uwrap, uwrap, Int.ofNat_tmod]
theorem quo_zero (a b : Int) (h : toU b = 0) : (0 : Int) = wrap64 ((toU a / toU b : Nat) : Int) := by
  rw [h, Nat.div_zero]; unfold wrap64; omega
theorem rem_zero (a b : Int) (h : toU b = 0) : wrap64 (IntKind.u64.wrap a) = wrap64 ((toU a % toU b : Nat) : Int) := by
  rw [h, Nat.mod_zero, uwrap]

theorem holdsI_1 (a b : Int) : holdsI 1 a b = (IntKind.u64.wrap a == IntKind.u64.wrap b) := by
  have h := toU_cast a; have h' := toU_cast b
  simp only [holdsI, IntKind.wrap_u64]
  rw [Bool.eq_iff_iff]; simp; omega
theorem holdsI_2 (a b : Int) : holdsI 2 a b = (IntKind.u64.wrap a != IntKind.u64.wrap b) := by
  have h := toU_cast a; have h' := toU_cast b
  simp only [holdsI, IntKind.wrap_u64]
  rw [Bool.eq_iff_iff]; simp; omega
theorem holdsI_3 (a b : Int) : holdsI 3 a b = decide (IntKind.u64.wrap a < IntKind.u64.wrap b) := by
  have h := toU_cast a; have h' := toU_cast b
  simp only [holdsI, IntKind.wrap_u64]
  rw [Bool.eq_iff_iff]; simp; omega
theorem holdsI_4 (a b : Int) : holdsI 4 a b = decide (IntKind.u64.wrap b ≤ IntKind.u64.wrap a) := by
  have h := toU_cast a; have h' := toU_cast b
  simp only [holdsI, IntKind.wrap_u64]
  rw [Bool.eq_iff_iff]; simp; omega

theorem opI_1 (a b : Int) : opI 1 a b = wrap64 (a + b) := by simp [opI]
theorem opI_2 (a b : Int) : opI 2 a b = wrap64 (a - b) := by simp [opI]
theorem opI_3 (a b : Int) : opI 3 a b = wrap64 (a * b) := by simp [opI]
theorem opI_4 (a b : Int) : opI 4 a b = wrap64 ((toU a &&& toU b : Nat) : Int) := by simp [opI]
theorem opI_5 (a b : Int) : opI 5 a b = wrap64 ((toU a ||| toU b : Nat) : Int) := by simp [opI]
theorem opI_6 (a b : Int) : opI 6 a b = wrap64 ((toU a ^^^ toU b : Nat) : Int) := by simp [opI]
theorem opI_7 (a b : Int) : opI 7 a b = wrap64 ((toU a * 2 ^ (toU b % 64) : Nat) : Int) := by simp [opI]
theorem opI_8 (a b : Int) : opI 8 a b = wrap64 ((toU a / 2 ^ (toU b % 64) : Nat) : Int) := by simp [opI]
theorem opI_9 (a b : Int) : opI 9 a b = wrap64 ((toU a / toU b : Nat) : Int) := by simp [opI]
theorem opI_10 (a b : Int) : opI 10 a b = wrap64 ((toU a % toU b : Nat) : Int) := by simp [opI]

end Go.Proofs.Ytdlhlhbbhjbkpaa
