/-
  What a call of num.Op and of num.Holds does, for every operation or condition and any two numbers: the contracts of the program's own functions.
-/
import Derived.Test.YtdlhlhbbhjbkpaaNum
namespace Go.Proofs.Ytdlhlhbbhjbkpaa
open Go.RowKit

/-- num.Op, whatever the operation. -/
theorem op_calls (op a b : Int) (w : World) :
    Calls Try.prog 10 #[.int .i64 op, .int .i64 a, .int .i64 b] w fun e w' => e = .returned (.int .i64 (opI op a b)) ∧ w' = w := by
  by_cases h : op < 1 ∨ 10 < op
  · rw [show opI op a b = 0 by unfold opI; rw [if_neg (by omega), if_neg (by omega), if_neg (by omega), if_neg (by omega), if_neg (by omega), if_neg (by omega), if_neg (by omega), if_neg (by omega), if_neg (by omega), if_neg (by omega)]]
    exact op_other op a b w h
  have hs : op = 1 ∨ op = 2 ∨ op = 3 ∨ op = 4 ∨ op = 5 ∨ op = 6 ∨ op = 7 ∨ op = 8 ∨ op = 9 ∨ op = 10 := by omega
  rcases hs with rfl | rfl | rfl | rfl | rfl | rfl | rfl | rfl | rfl | rfl
  · rw [opI_1]; exact op_1 a b w
  · rw [opI_2]; exact op_2 a b w
  · rw [opI_3]; exact op_3 a b w
  · rw [opI_4]; exact op_4 a b w
  · rw [opI_5]; exact op_5 a b w
  · rw [opI_6]; exact op_6 a b w
  · rw [opI_7]; exact op_7 a b w
  · rw [opI_8]; exact op_8 a b w
  · rw [opI_9]
    by_cases hy : toU b = 0
    · exact op_9_zero a b w hy
    · exact op_9_more a b w hy
  · rw [opI_10]
    by_cases hy : toU b = 0
    · exact op_10_zero a b w hy
    · exact op_10_more a b w hy

/-- num.Holds, whatever the condition: a block more, for the closure's own variable. -/
theorem holds_calls (c a b : Int) (w : World) :
    Calls Try.prog 11 #[.int .i64 c, .int .i64 a, .int .i64 b] w fun e w' => e = .returned (.bool (holdsI c a b)) ∧ w' = w.alloc (.cells #[.int .i64 c] 3) := by
  by_cases h1 : c = 1
  · subst h1
    rw [holdsI_1]
    cases h : (IntKind.u64.wrap a == IntKind.u64.wrap b)
    · exact holds_1_no a b w h
    · exact holds_1_yes a b w h
  by_cases h2 : c = 2
  · subst h2
    rw [holdsI_2]
    cases h : (IntKind.u64.wrap a != IntKind.u64.wrap b)
    · exact holds_2_no a b w h
    · exact holds_2_yes a b w h
  by_cases h3 : c = 3
  · subst h3
    rw [holdsI_3]
    cases h : decide (IntKind.u64.wrap a < IntKind.u64.wrap b)
    · exact holds_3_no a b w h
    · exact holds_3_yes a b w h
  by_cases h4 : c = 4
  · subst h4
    rw [holdsI_4]
    cases h : decide (IntKind.u64.wrap b ≤ IntKind.u64.wrap a)
    · exact holds_4_no a b w h
    · exact holds_4_yes a b w h
  rw [show holdsI c a b = false by simp [holdsI, *]]
  exact holds_other c a b w (by simp [h1]) (by simp [h2]) (by simp [h3]) (by simp [h4])

end Go.Proofs.Ytdlhlhbbhjbkpaa
