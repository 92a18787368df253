/-
  What a call of num.Op and of num.Holds does, operation by operation and condition by condition, for any two numbers.
-/
import Derived.Test.YtdlhlhbbhjbkpaaProg
import Derived.WalkKit
import Derived.WalkSpells
import Derived.WalkLawsBesides
import Derived.Test.YtdlhlhbbhjbkpaaPlain
namespace Go.Proofs.Ytdlhlhbbhjbkpaa
open Go.RowKit

theorem op_1 (a b : Int) (w : World) :
    Calls Try.prog 10 #[.int .i64 1, .int .i64 a, .int .i64 b] w fun e w' => e = .returned (.int .i64 (wrap64 (a + b))) ∧ w' = w := by
  rw [← wrap_add a b]
  go_enter Try.func10, Try.ntmps10
  go_wp2
  go_ret
  exact ⟨rfl, rfl⟩

theorem op_2 (a b : Int) (w : World) :
    Calls Try.prog 10 #[.int .i64 2, .int .i64 a, .int .i64 b] w fun e w' => e = .returned (.int .i64 (wrap64 (a - b))) ∧ w' = w := by
  rw [← wrap_sub a b]
  go_enter Try.func10, Try.ntmps10
  go_wp2
  go_ret
  exact ⟨rfl, rfl⟩

theorem op_3 (a b : Int) (w : World) :
    Calls Try.prog 10 #[.int .i64 3, .int .i64 a, .int .i64 b] w fun e w' => e = .returned (.int .i64 (wrap64 (a * b))) ∧ w' = w := by
  rw [← wrap_mul a b]
  go_enter Try.func10, Try.ntmps10
  go_wp2
  go_ret
  exact ⟨rfl, rfl⟩

theorem op_4 (a b : Int) (w : World) :
    Calls Try.prog 10 #[.int .i64 4, .int .i64 a, .int .i64 b] w fun e w' => e = .returned (.int .i64 (wrap64 ((toU a &&& toU b : Nat) : Int))) ∧ w' = w := by
  rw [← wrap_and a b]
  go_enter Try.func10, Try.ntmps10
  go_wp2
  go_ret
  exact ⟨rfl, rfl⟩

theorem op_5 (a b : Int) (w : World) :
    Calls Try.prog 10 #[.int .i64 5, .int .i64 a, .int .i64 b] w fun e w' => e = .returned (.int .i64 (wrap64 ((toU a ||| toU b : Nat) : Int))) ∧ w' = w := by
  rw [← wrap_or a b]
  go_enter Try.func10, Try.ntmps10
  go_wp2
  go_ret
  exact ⟨rfl, rfl⟩

theorem op_6 (a b : Int) (w : World) :
    Calls Try.prog 10 #[.int .i64 6, .int .i64 a, .int .i64 b] w fun e w' => e = .returned (.int .i64 (wrap64 ((toU a ^^^ toU b : Nat) : Int))) ∧ w' = w := by
  rw [← wrap_xor a b]
  go_enter Try.func10, Try.ntmps10
  go_wp2
  go_ret
  exact ⟨rfl, rfl⟩

theorem op_7 (a b : Int) (w : World) :
    Calls Try.prog 10 #[.int .i64 7, .int .i64 a, .int .i64 b] w fun e w' => e = .returned (.int .i64 (wrap64 ((toU a * 2 ^ (toU b % 64) : Nat) : Int))) ∧ w' = w := by
  have h63 := and63 b
  have h0 : (0 : Int) ≤ ((toU b % 64 : Nat) : Int) := by omega
  have hk : min (toU b % 64) 64 = toU b % 64 := by omega
  rw [← wrap_shl a _]
  go_enter Try.func10, Try.ntmps10
  go_wp2
  go_ret
  exact ⟨rfl, rfl⟩

theorem op_8 (a b : Int) (w : World) :
    Calls Try.prog 10 #[.int .i64 8, .int .i64 a, .int .i64 b] w fun e w' => e = .returned (.int .i64 (wrap64 ((toU a / 2 ^ (toU b % 64) : Nat) : Int))) ∧ w' = w := by
  have h63 := and63 b
  have h0 : (0 : Int) ≤ ((toU b % 64 : Nat) : Int) := by omega
  have hk : min (toU b % 64) 64 = toU b % 64 := by omega
  rw [← wrap_shr a _]
  go_enter Try.func10, Try.ntmps10
  go_wp2
  go_ret
  exact ⟨rfl, rfl⟩

theorem op_9_zero (a b : Int) (w : World) (hy : toU b = 0) :
    Calls Try.prog 10 #[.int .i64 9, .int .i64 a, .int .i64 b] w fun e w' => e = .returned (.int .i64 (wrap64 ((toU a / toU b : Nat) : Int))) ∧ w' = w := by
  have hy' : (IntKind.u64.wrap b == 0) = true := by rw [uwrap, hy]; rfl
  rw [← quo_zero a b hy]
  go_enter Try.func10, Try.ntmps10
  go_wp2
  go_ret
  exact ⟨rfl, rfl⟩

theorem op_9_more (a b : Int) (w : World) (hy : toU b ≠ 0) :
    Calls Try.prog 10 #[.int .i64 9, .int .i64 a, .int .i64 b] w fun e w' => e = .returned (.int .i64 (wrap64 ((toU a / toU b : Nat) : Int))) ∧ w' = w := by
  have hy' : (IntKind.u64.wrap b == 0) = false := by rw [uwrap]; simp [hy]
  have hy2 : ¬ IntKind.u64.wrap b = 0 := by rw [uwrap]; omega
  rw [← wrap_quo a b]
  go_enter Try.func10, Try.ntmps10
  go_wp2
  go_ret
  exact ⟨rfl, rfl⟩

theorem op_10_zero (a b : Int) (w : World) (hy : toU b = 0) :
    Calls Try.prog 10 #[.int .i64 10, .int .i64 a, .int .i64 b] w fun e w' => e = .returned (.int .i64 (wrap64 ((toU a % toU b : Nat) : Int))) ∧ w' = w := by
  have hy' : (IntKind.u64.wrap b == 0) = true := by rw [uwrap, hy]; rfl
  rw [← rem_zero a b hy]
  go_enter Try.func10, Try.ntmps10
  go_wp2
  go_ret
  exact ⟨rfl, rfl⟩

theorem op_10_more (a b : Int) (w : World) (hy : toU b ≠ 0) :
    Calls Try.prog 10 #[.int .i64 10, .int .i64 a, .int .i64 b] w fun e w' => e = .returned (.int .i64 (wrap64 ((toU a % toU b : Nat) : Int))) ∧ w' = w := by
  have hy' : (IntKind.u64.wrap b == 0) = false := by rw [uwrap]; simp [hy]
  have hy2 : ¬ IntKind.u64.wrap b = 0 := by rw [uwrap]; omega
  rw [← wrap_rem a b]
  go_enter Try.func10, Try.ntmps10
  go_wp2
  go_ret
  exact ⟨rfl, rfl⟩

theorem op_other (op a b : Int) (w : World) (h : op < 1 ∨ 10 < op) :
    Calls Try.prog 10 #[.int .i64 op, .int .i64 a, .int .i64 b] w fun e w' => e = .returned (.int .i64 0) ∧ w' = w := by
  have e1 : (op == 1) = false := by simp; omega
  have e2 : (op == 2) = false := by simp; omega
  have e3 : (op == 3) = false := by simp; omega
  have e4 : (op == 4) = false := by simp; omega
  have e5 : (op == 5) = false := by simp; omega
  have e6 : (op == 6) = false := by simp; omega
  have e7 : (op == 7) = false := by simp; omega
  have e8 : (op == 8) = false := by simp; omega
  have e9 : (op == 9) = false := by simp; omega
  have e10 : (op == 10) = false := by simp; omega
  clear h
  go_enter Try.func10, Try.ntmps10
  go_wp2
  go_ret
  exact ⟨rfl, rfl⟩

theorem holds_1_yes (a b : Int) (w : World) (h : (IntKind.u64.wrap a == IntKind.u64.wrap b) = true) :
    Calls Try.prog 11 #[.int .i64 1, .int .i64 a, .int .i64 b] w fun e w' => e = .returned (.bool true) ∧ w' = w.alloc (.cells #[.int .i64 1] 3) := by
  go_enter Try.func11, Try.ntmps11
  go_wp2
  go_ret
  exact ⟨rfl, rfl⟩

theorem holds_1_no (a b : Int) (w : World) (h : (IntKind.u64.wrap a == IntKind.u64.wrap b) = false) :
    Calls Try.prog 11 #[.int .i64 1, .int .i64 a, .int .i64 b] w fun e w' => e = .returned (.bool false) ∧ w' = w.alloc (.cells #[.int .i64 1] 3) := by
  go_enter Try.func11, Try.ntmps11
  go_wp2
  go_ret
  exact ⟨rfl, rfl⟩

theorem holds_2_yes (a b : Int) (w : World) (h : (IntKind.u64.wrap a != IntKind.u64.wrap b) = true) :
    Calls Try.prog 11 #[.int .i64 2, .int .i64 a, .int .i64 b] w fun e w' => e = .returned (.bool true) ∧ w' = w.alloc (.cells #[.int .i64 2] 3) := by
  go_enter Try.func11, Try.ntmps11
  go_wp2
  go_ret
  exact ⟨rfl, rfl⟩

theorem holds_2_no (a b : Int) (w : World) (h : (IntKind.u64.wrap a != IntKind.u64.wrap b) = false) :
    Calls Try.prog 11 #[.int .i64 2, .int .i64 a, .int .i64 b] w fun e w' => e = .returned (.bool false) ∧ w' = w.alloc (.cells #[.int .i64 2] 3) := by
  go_enter Try.func11, Try.ntmps11
  go_wp2
  go_ret
  exact ⟨rfl, rfl⟩

theorem holds_3_yes (a b : Int) (w : World) (h : decide (IntKind.u64.wrap a < IntKind.u64.wrap b) = true) :
    Calls Try.prog 11 #[.int .i64 3, .int .i64 a, .int .i64 b] w fun e w' => e = .returned (.bool true) ∧ w' = w.alloc (.cells #[.int .i64 3] 3) := by
  go_enter Try.func11, Try.ntmps11
  go_wp2
  go_ret
  exact ⟨rfl, rfl⟩

theorem holds_3_no (a b : Int) (w : World) (h : decide (IntKind.u64.wrap a < IntKind.u64.wrap b) = false) :
    Calls Try.prog 11 #[.int .i64 3, .int .i64 a, .int .i64 b] w fun e w' => e = .returned (.bool false) ∧ w' = w.alloc (.cells #[.int .i64 3] 3) := by
  go_enter Try.func11, Try.ntmps11
  go_wp2
  go_ret
  exact ⟨rfl, rfl⟩

theorem holds_4_yes (a b : Int) (w : World) (h : decide (IntKind.u64.wrap b ≤ IntKind.u64.wrap a) = true) :
    Calls Try.prog 11 #[.int .i64 4, .int .i64 a, .int .i64 b] w fun e w' => e = .returned (.bool true) ∧ w' = w.alloc (.cells #[.int .i64 4] 3) := by
  go_enter Try.func11, Try.ntmps11
  go_wp2
  go_ret
  exact ⟨rfl, rfl⟩

theorem holds_4_no (a b : Int) (w : World) (h : decide (IntKind.u64.wrap b ≤ IntKind.u64.wrap a) = false) :
    Calls Try.prog 11 #[.int .i64 4, .int .i64 a, .int .i64 b] w fun e w' => e = .returned (.bool false) ∧ w' = w.alloc (.cells #[.int .i64 4] 3) := by
  go_enter Try.func11, Try.ntmps11
  go_wp2
  go_ret
  exact ⟨rfl, rfl⟩

theorem holds_other (c a b : Int) (w : World) (h1 : (c == 1) = false) (h2 : (c == 2) = false) (h3 : (c == 3) = false) (h4 : (c == 4) = false) :
    Calls Try.prog 11 #[.int .i64 c, .int .i64 a, .int .i64 b] w fun e w' => e = .returned (.bool false) ∧ w' = w.alloc (.cells #[.int .i64 c] 3) := by
  go_enter Try.func11, Try.ntmps11
  go_wp2
  go_ret
  exact ⟨rfl, rfl⟩

end Go.Proofs.Ytdlhlhbbhjbkpaa
