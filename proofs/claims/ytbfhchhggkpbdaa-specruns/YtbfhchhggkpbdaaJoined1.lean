/-
  The texts Num, NumAll, Operate, Do, Begin, Regions, Fields, one behind the other.
-/
import Derived.Test.YtbfhchhggkpbdaaProg
import Derived.WalkKit
import Derived.WalkSpells
import Derived.WalkLawsBesides
import Derived.Test.YtbfhchhggkpbdaaJoined0
import Derived.Test.YtbfhchhggkpbdaaRows
import Derived.Deep.LoopGhost
import Derived.Deep.RegionHeld3

/-
  What a call of num.Op and of num.Holds does, operation by operation and condition by condition, for any two numbers.
-/
namespace Go.Proofs.Ytbfhchhggkpbdaa
open Go.RowKit

theorem op_1 (a b : Int) (w : World) :
    Calls Try.prog 13 #[.int .i64 1, .int .i64 a, .int .i64 b] w fun e w' => e = .returned (.int .i64 (wrap64 (a + b))) ∧ w' = w := by
  rw [← wrap_add a b]
  go_enter Try.func13, Try.ntmps13
  go_wp2
  go_ret
  exact ⟨rfl, rfl⟩

theorem op_2 (a b : Int) (w : World) :
    Calls Try.prog 13 #[.int .i64 2, .int .i64 a, .int .i64 b] w fun e w' => e = .returned (.int .i64 (wrap64 (a - b))) ∧ w' = w := by
  rw [← wrap_sub a b]
  go_enter Try.func13, Try.ntmps13
  go_wp2
  go_ret
  exact ⟨rfl, rfl⟩

theorem op_3 (a b : Int) (w : World) :
    Calls Try.prog 13 #[.int .i64 3, .int .i64 a, .int .i64 b] w fun e w' => e = .returned (.int .i64 (wrap64 (a * b))) ∧ w' = w := by
  rw [← wrap_mul a b]
  go_enter Try.func13, Try.ntmps13
  go_wp2
  go_ret
  exact ⟨rfl, rfl⟩

theorem op_4 (a b : Int) (w : World) :
    Calls Try.prog 13 #[.int .i64 4, .int .i64 a, .int .i64 b] w fun e w' => e = .returned (.int .i64 (wrap64 ((toU a &&& toU b : Nat) : Int))) ∧ w' = w := by
  rw [← wrap_and a b]
  go_enter Try.func13, Try.ntmps13
  go_wp2
  go_ret
  exact ⟨rfl, rfl⟩

theorem op_5 (a b : Int) (w : World) :
    Calls Try.prog 13 #[.int .i64 5, .int .i64 a, .int .i64 b] w fun e w' => e = .returned (.int .i64 (wrap64 ((toU a ||| toU b : Nat) : Int))) ∧ w' = w := by
  rw [← wrap_or a b]
  go_enter Try.func13, Try.ntmps13
  go_wp2
  go_ret
  exact ⟨rfl, rfl⟩

theorem op_6 (a b : Int) (w : World) :
    Calls Try.prog 13 #[.int .i64 6, .int .i64 a, .int .i64 b] w fun e w' => e = .returned (.int .i64 (wrap64 ((toU a ^^^ toU b : Nat) : Int))) ∧ w' = w := by
  rw [← wrap_xor a b]
  go_enter Try.func13, Try.ntmps13
  go_wp2
  go_ret
  exact ⟨rfl, rfl⟩

theorem op_7 (a b : Int) (w : World) :
    Calls Try.prog 13 #[.int .i64 7, .int .i64 a, .int .i64 b] w fun e w' => e = .returned (.int .i64 (wrap64 ((toU a * 2 ^ (toU b % 64) : Nat) : Int))) ∧ w' = w := by
  have h63 := and63 b
  have h0 : (0 : Int) ≤ ((toU b % 64 : Nat) : Int) := by omega
  have hk : min (toU b % 64) 64 = toU b % 64 := by omega
  rw [← wrap_shl a _]
  go_enter Try.func13, Try.ntmps13
  go_wp2
  go_ret
  exact ⟨rfl, rfl⟩

theorem op_8 (a b : Int) (w : World) :
    Calls Try.prog 13 #[.int .i64 8, .int .i64 a, .int .i64 b] w fun e w' => e = .returned (.int .i64 (wrap64 ((toU a / 2 ^ (toU b % 64) : Nat) : Int))) ∧ w' = w := by
  have h63 := and63 b
  have h0 : (0 : Int) ≤ ((toU b % 64 : Nat) : Int) := by omega
  have hk : min (toU b % 64) 64 = toU b % 64 := by omega
  rw [← wrap_shr a _]
  go_enter Try.func13, Try.ntmps13
  go_wp2
  go_ret
  exact ⟨rfl, rfl⟩

theorem op_9_zero (a b : Int) (w : World) (hy : toU b = 0) :
    Calls Try.prog 13 #[.int .i64 9, .int .i64 a, .int .i64 b] w fun e w' => e = .returned (.int .i64 (wrap64 ((toU a / toU b : Nat) : Int))) ∧ w' = w := by
  have hy' : (IntKind.u64.wrap b == 0) = true := by rw [uwrap, hy]; rfl
  rw [← quo_zero a b hy]
  go_enter Try.func13, Try.ntmps13
  go_wp2
  go_ret
  exact ⟨rfl, rfl⟩

theorem op_9_more (a b : Int) (w : World) (hy : toU b ≠ 0) :
    Calls Try.prog 13 #[.int .i64 9, .int .i64 a, .int .i64 b] w fun e w' => e = .returned (.int .i64 (wrap64 ((toU a / toU b : Nat) : Int))) ∧ w' = w := by
  have hy' : (IntKind.u64.wrap b == 0) = false := by rw [uwrap]; simp [hy]
  have hy2 : ¬ IntKind.u64.wrap b = 0 := by rw [uwrap]; omega
  rw [← wrap_quo a b]
  go_enter Try.func13, Try.ntmps13
  go_wp2
  go_ret
  exact ⟨rfl, rfl⟩

theorem op_10_zero (a b : Int) (w : World) (hy : toU b = 0) :
    Calls Try.prog 13 #[.int .i64 10, .int .i64 a, .int .i64 b] w fun e w' => e = .returned (.int .i64 (wrap64 ((toU a % toU b : Nat) : Int))) ∧ w' = w := by
  have hy' : (IntKind.u64.wrap b == 0) = true := by rw [uwrap, hy]; rfl
  rw [← rem_zero a b hy]
  go_enter Try.func13, Try.ntmps13
  go_wp2
  go_ret
  exact ⟨rfl, rfl⟩

theorem op_10_more (a b : Int) (w : World) (hy : toU b ≠ 0) :
    Calls Try.prog 13 #[.int .i64 10, .int .i64 a, .int .i64 b] w fun e w' => e = .returned (.int .i64 (wrap64 ((toU a % toU b : Nat) : Int))) ∧ w' = w := by
  have hy' : (IntKind.u64.wrap b == 0) = false := by rw [uwrap]; simp [hy]
  have hy2 : ¬ IntKind.u64.wrap b = 0 := by rw [uwrap]; omega
  rw [← wrap_rem a b]
  go_enter Try.func13, Try.ntmps13
  go_wp2
  go_ret
  exact ⟨rfl, rfl⟩

theorem op_other (op a b : Int) (w : World) (h : op < 1 ∨ 10 < op) :
    Calls Try.prog 13 #[.int .i64 op, .int .i64 a, .int .i64 b] w fun e w' => e = .returned (.int .i64 0) ∧ w' = w := by
  have e1 : (op == 1) = false := by simp; omega
  have e2 : (op == 2) = false := by simp; omega
  have e3 : (op == 3) = false := by simp; omega
  have e4 : (op == 4) = false := by simp; omega
  have e5 : (op == 5) = false := by simp; omega
  have e6 : (op == 6) = false := by simp; omega
  have e7 : (op == 7) = false := by simp; omega
  have e8 : (op == 8) = false := by simp; omega
  have e9 : (op == 9) = false := by simp; omega
  have e10 : (op == 10) = false := by simp; omega
  clear h
  go_enter Try.func13, Try.ntmps13
  go_wp2
  go_ret
  exact ⟨rfl, rfl⟩

theorem holds_1_yes (a b : Int) (w : World) (h : (IntKind.u64.wrap a == IntKind.u64.wrap b) = true) :
    Calls Try.prog 14 #[.int .i64 1, .int .i64 a, .int .i64 b] w fun e w' => e = .returned (.bool true) ∧ w' = w.alloc (.cells #[.int .i64 1] 3) := by
  go_enter Try.func14, Try.ntmps14
  go_wp2
  go_ret
  exact ⟨rfl, rfl⟩

theorem holds_1_no (a b : Int) (w : World) (h : (IntKind.u64.wrap a == IntKind.u64.wrap b) = false) :
    Calls Try.prog 14 #[.int .i64 1, .int .i64 a, .int .i64 b] w fun e w' => e = .returned (.bool false) ∧ w' = w.alloc (.cells #[.int .i64 1] 3) := by
  go_enter Try.func14, Try.ntmps14
  go_wp2
  go_ret
  exact ⟨rfl, rfl⟩

theorem holds_2_yes (a b : Int) (w : World) (h : (IntKind.u64.wrap a != IntKind.u64.wrap b) = true) :
    Calls Try.prog 14 #[.int .i64 2, .int .i64 a, .int .i64 b] w fun e w' => e = .returned (.bool true) ∧ w' = w.alloc (.cells #[.int .i64 2] 3) := by
  go_enter Try.func14, Try.ntmps14
  go_wp2
  go_ret
  exact ⟨rfl, rfl⟩

theorem holds_2_no (a b : Int) (w : World) (h : (IntKind.u64.wrap a != IntKind.u64.wrap b) = false) :
    Calls Try.prog 14 #[.int .i64 2, .int .i64 a, .int .i64 b] w fun e w' => e = .returned (.bool false) ∧ w' = w.alloc (.cells #[.int .i64 2] 3) := by
  go_enter Try.func14, Try.ntmps14
  go_wp2
  go_ret
  exact ⟨rfl, rfl⟩

theorem holds_3_yes (a b : Int) (w : World) (h : decide (IntKind.u64.wrap a < IntKind.u64.wrap b) = true) :
    Calls Try.prog 14 #[.int .i64 3, .int .i64 a, .int .i64 b] w fun e w' => e = .returned (.bool true) ∧ w' = w.alloc (.cells #[.int .i64 3] 3) := by
  go_enter Try.func14, Try.ntmps14
  go_wp2
  go_ret
  exact ⟨rfl, rfl⟩

theorem holds_3_no (a b : Int) (w : World) (h : decide (IntKind.u64.wrap a < IntKind.u64.wrap b) = false) :
    Calls Try.prog 14 #[.int .i64 3, .int .i64 a, .int .i64 b] w fun e w' => e = .returned (.bool false) ∧ w' = w.alloc (.cells #[.int .i64 3] 3) := by
  go_enter Try.func14, Try.ntmps14
  go_wp2
  go_ret
  exact ⟨rfl, rfl⟩

theorem holds_4_yes (a b : Int) (w : World) (h : decide (IntKind.u64.wrap b ≤ IntKind.u64.wrap a) = true) :
    Calls Try.prog 14 #[.int .i64 4, .int .i64 a, .int .i64 b] w fun e w' => e = .returned (.bool true) ∧ w' = w.alloc (.cells #[.int .i64 4] 3) := by
  go_enter Try.func14, Try.ntmps14
  go_wp2
  go_ret
  exact ⟨rfl, rfl⟩

theorem holds_4_no (a b : Int) (w : World) (h : decide (IntKind.u64.wrap b ≤ IntKind.u64.wrap a) = false) :
    Calls Try.prog 14 #[.int .i64 4, .int .i64 a, .int .i64 b] w fun e w' => e = .returned (.bool false) ∧ w' = w.alloc (.cells #[.int .i64 4] 3) := by
  go_enter Try.func14, Try.ntmps14
  go_wp2
  go_ret
  exact ⟨rfl, rfl⟩

theorem holds_other (c a b : Int) (w : World) (h1 : (c == 1) = false) (h2 : (c == 2) = false) (h3 : (c == 3) = false) (h4 : (c == 4) = false) :
    Calls Try.prog 14 #[.int .i64 c, .int .i64 a, .int .i64 b] w fun e w' => e = .returned (.bool false) ∧ w' = w.alloc (.cells #[.int .i64 c] 3) := by
  go_enter Try.func14, Try.ntmps14
  go_wp2
  go_ret
  exact ⟨rfl, rfl⟩

end Go.Proofs.Ytbfhchhggkpbdaa

/-
  What a call of num.Op and of num.Holds does, for every operation or condition and any two numbers: the contracts of the program's own functions.
-/
namespace Go.Proofs.Ytbfhchhggkpbdaa
open Go.RowKit

/-- num.Op, whatever the operation. -/
theorem op_calls (op a b : Int) (w : World) :
    Calls Try.prog 13 #[.int .i64 op, .int .i64 a, .int .i64 b] w fun e w' => e = .returned (.int .i64 (opI op a b)) ∧ w' = w := by
  by_cases h : op < 1 ∨ 10 < op
  · rw [show opI op a b = 0 by unfold opI; rw [if_neg (by omega), if_neg (by omega), if_neg (by omega), if_neg (by omega), if_neg (by omega), if_neg (by omega), if_neg (by omega), if_neg (by omega), if_neg (by omega), if_neg (by omega)]]
    exact op_other op a b w h
  have hs : op = 1 ∨ op = 2 ∨ op = 3 ∨ op = 4 ∨ op = 5 ∨ op = 6 ∨ op = 7 ∨ op = 8 ∨ op = 9 ∨ op = 10 := by omega
  rcases hs with rfl | rfl | rfl | rfl | rfl | rfl | rfl | rfl | rfl | rfl
  · rw [opI_1]; exact op_1 a b w
  · rw [opI_2]; exact op_2 a b w
  · rw [opI_3]; exact op_3 a b w
  · rw [opI_4]; exact op_4 a b w
  · rw [opI_5]; exact op_5 a b w
  · rw [opI_6]; exact op_6 a b w
  · rw [opI_7]; exact op_7 a b w
  · rw [opI_8]; exact op_8 a b w
  · rw [opI_9]
    by_cases hy : toU b = 0
    · exact op_9_zero a b w hy
    · exact op_9_more a b w hy
  · rw [opI_10]
    by_cases hy : toU b = 0
    · exact op_10_zero a b w hy
    · exact op_10_more a b w hy

/-- num.Holds, whatever the condition: a block more, for the closure's own variable. -/
theorem holds_calls (c a b : Int) (w : World) :
    Calls Try.prog 14 #[.int .i64 c, .int .i64 a, .int .i64 b] w fun e w' => e = .returned (.bool (holdsI c a b)) ∧ w' = w.alloc (.cells #[.int .i64 c] 3) := by
  by_cases h1 : c = 1
  · subst h1
    rw [holdsI_1]
    cases h : (IntKind.u64.wrap a == IntKind.u64.wrap b)
    · exact holds_1_no a b w h
    · exact holds_1_yes a b w h
  by_cases h2 : c = 2
  · subst h2
    rw [holdsI_2]
    cases h : (IntKind.u64.wrap a != IntKind.u64.wrap b)
    · exact holds_2_no a b w h
    · exact holds_2_yes a b w h
  by_cases h3 : c = 3
  · subst h3
    rw [holdsI_3]
    cases h : decide (IntKind.u64.wrap a < IntKind.u64.wrap b)
    · exact holds_3_no a b w h
    · exact holds_3_yes a b w h
  by_cases h4 : c = 4
  · subst h4
    rw [holdsI_4]
    cases h : decide (IntKind.u64.wrap b ≤ IntKind.u64.wrap a)
    · exact holds_4_no a b w h
    · exact holds_4_yes a b w h
  rw [show holdsI c a b = false by simp [holdsI, *]]
  exact holds_other c a b w (by simp [h1]) (by simp [h2]) (by simp [h3]) (by simp [h4])

end Go.Proofs.Ytbfhchhggkpbdaa

/-
  What the machine's Holds and operate come to.
-/
namespace Go.Proofs.Ytbfhchhggkpbdaa
open Go.RowKit
set_option linter.unusedVariables false
set_option linter.unusedSimpArgs false

set_option maxHeartbeats 400000 in
theorem seq_holds (op a b c n x y : Int) (w : World) (M : Nat) (a0 : 0 ≤ a) (a1 : a < 10) (b0 : 0 ≤ b) (b1 : b < 10)
    (hx : w.cell? ⟨M, 7 + a.toNat, none⟩ = some (.int .i64 x)) (hy : w.cell? ⟨M, 7 + b.toNat, none⟩ = some (.int .i64 y)) (hM : M < w.heap.size) :
    Calls Try.prog 73 #[.pointer (some ⟨M, 0, none⟩), .agg #[.int .i64 op, .int .i64 a, .int .i64 b, .int .i64 c, .int .i64 n]] w fun e w' => e = .returned (.bool (holdsI c x y)) ∧ More w w' := by
  have hn : ¬ M = w.heap.size := by omega
  have hn' : ¬ w.heap.size = M := by omega
  have Hh : Hid (∀ w : World, Calls Try.prog 14 #[.int .i64 c, .int .i64 x, .int .i64 y] w fun e w' => e = .returned (.bool (holdsI c x y)) ∧ More w w') := fun w => (holds_calls c x y w).mono (by rintro e w' ⟨rfl, rfl⟩; exact ⟨rfl, (More.refl _).alloc _ _⟩)
  obtain ⟨h, hh⟩ : ∃ h, holdsI c x y = h := ⟨_, rfl⟩
  rw [hh] at Hh ⊢
  clear hh
  obtain ⟨S, HS⟩ : ∃ S : World → Prop, Hid (∀ w', S w' ↔ More (w.alloc (.cells #[.int .i64 op, .int .i64 a, .int .i64 b, .int .i64 c, .int .i64 n] 34)) w') := ⟨_, fun _ => Iff.rfl⟩
  have k1 : ∀ i : { w' // S w' }, i.val.cell? ⟨w.heap.size, 1, none⟩ = some (.int .i64 a) := fun i => ((HS.out _).1 i.property).cell (by go_simp)
  have k2 : ∀ i : { w' // S w' }, i.val.cell? ⟨w.heap.size, 2, none⟩ = some (.int .i64 b) := fun i => ((HS.out _).1 i.property).cell (by go_simp)
  have k3 : ∀ i : { w' // S w' }, i.val.cell? ⟨w.heap.size, 3, none⟩ = some (.int .i64 c) := fun i => ((HS.out _).1 i.property).cell (by go_simp)
  have ka : ∀ i : { w' // S w' }, i.val.cell? ⟨M, 7 + a.toNat, none⟩ = some (.int .i64 x) := fun i => ((HS.out _).1 i.property).cell (by go_simp)
  have kb : ∀ i : { w' // S w' }, i.val.cell? ⟨M, 7 + b.toNat, none⟩ = some (.int .i64 y) := fun i => ((HS.out _).1 i.property).cell (by go_simp)
  have hne : Nonempty { w' // S w' } := ⟨⟨_, (HS.out _).2 (More.refl _)⟩⟩
  go_enter Try.func73, Try.ntmps73
  go_wp2_with (fail)
  refine wp_region_ord (S := S) [(0, true), (1, true), (2, true), (3, true), (4, true), (5, true), (6, true), (7, true), (8, true), (9, true), (10, true), (11, true), (12, true), (13, true), (14, true), (15, true), (16, true), (17, true), (18, false), (19, true)] (by kernel_rfl) (by kernel_rfl) (by kernel_rfl) ((HS.out _).2 (More.refl _).drew) ?_
  iterate 18 (refine wpOrd_take rfl (by kernel_rfl) (fun K hK => ?_); go_simp; refine hK _ _ ?_; clear hK K)
  refine wpOrd_busy rfl (by kernel_rfl) (fun K hK => ?_); go_simp
  refine (Hh.out _).mono ?_
  rintro e w5 ⟨rfl, m5⟩
  have Hm5 : Hid (More (w.alloc (.cells #[.int .i64 op, .int .i64 a, .int .i64 b, .int .i64 c, .int .i64 n] 34)) w5) := (More.refl _).drew.trans m5
  clear m5
  go_simp
  refine hK _ _ ((HS.out _).2 Hm5.out) ?_; clear hK K
  refine wpOrd_take rfl (by kernel_rfl) (fun K hK => ?_); go_simp; refine hK _ _ ?_; clear hK K
  refine wpOrd_done ?_
  clear k1 k2 k3 ka kb hne
  go_wp2
  go_ret
  exact ⟨rfl, ((More.refl _).alloc _ _).trans Hm5.out⟩

theorem setRow_eq (r : Nat → Int) (a v : Int) : setN r a.toNat v = setR r a v := rfl

set_option maxHeartbeats 400000 in
theorem seq_operate_no (op a b c n : Int) (w : World) (M : Nat) (rv cv : Value) (x : Ms) (se : List Se) (h : Run w M rv cv x se) (o0 : 21 ≤ op) (o1 : op ≤ 30) (h9 : ¬ op = 29) (h10 : ¬ op = 30) (a0 : 0 ≤ a) (a1 : a < 10) (b0 : 0 ≤ b) (b1 : b < 10) (c0 : 0 ≤ c) (c1 : c < 10) :
    Calls Try.prog 74 #[.pointer (some ⟨M, 0, none⟩), .agg #[.int .i64 op, .int .i64 a, .int .i64 b, .int .i64 c, .int .i64 n]] w fun e w' =>
      e = .returned (.tuple #[]) ∧ Run w' M rv cv { x with r := setR x.r a (opI (op - 20) (x.r b.toNat) (x.r c.toNat)) } se ∧ Below M w w' := by
  have hM := h.lt
  have hn : ¬ M = w.heap.size := by omega
  have hn' : ¬ w.heap.size = M := by omega
  have hw : wrap64 (op - 20) = op - 20 := by unfold wrap64; omega
  have hwr := wrapEq
  have t9 : (op - 20 == 9) = false := by simp; omega
  have t10 : (op - 20 == 10) = false := by simp; omega
  have t9' : ¬ op - 20 = 9 := by omega
  have t10' : ¬ op - 20 = 10 := by omega
  obtain ⟨ya, fa⟩ := h.r a.toNat (by omega)
  have yb := (h.r b.toNat (by omega)).1
  have yc := (h.r c.toNat (by omega)).1
  obtain ⟨y, hy⟩ : ∃ y, x.r b.toNat = y := ⟨_, rfl⟩
  obtain ⟨z, hz⟩ : ∃ z, x.r c.toNat = z := ⟨_, rfl⟩
  rw [hy] at yb ⊢
  rw [hz] at yc ⊢
  have Hh : Hid (∀ w : World, Calls Try.prog 13 #[.int .i64 (op - 20), .int .i64 y, .int .i64 z] w fun e w' => e = .returned (.int .i64 (opI (op - 20) y z)) ∧ w' = w) := fun w => op_calls _ _ _ w
  obtain ⟨q, hq⟩ : ∃ q, opI (op - 20) y z = q := ⟨_, rfl⟩
  rw [hq] at Hh ⊢
  have H : Hid (Run w M rv cv x se) := h
  have Ha : Hid (a.toNat < 10) := (by omega : a.toNat < 10)
  clear hq hy hz h
  obtain ⟨S, HS⟩ : ∃ S : World → Prop, Hid (∀ w', S w' ↔ w'.cell? ⟨w.heap.size, 1, none⟩ = some (.int .i64 a)) := ⟨_, fun _ => Iff.rfl⟩
  have k1 : ∀ i : { w' // S w' }, i.val.cell? ⟨w.heap.size, 1, none⟩ = some (.int .i64 a) := fun i => (HS.out _).1 i.property
  have hne : Nonempty { w' // S w' } := ⟨⟨w.alloc (.cells #[.int .i64 op, .int .i64 a, .int .i64 b, .int .i64 c, .int .i64 n] 34), (HS.out _).2 (by go_simp)⟩⟩
  go_enter Try.func74, Try.ntmps74
  go_wp2
  go_region
  go_wp2_with (fail)
  refine wp_region_ord (S := S) [(0, true), (1, true), (2, true), (3, true), (4, true), (5, true), (7, true), (8, true), (9, true), (6, false), (10, true), (11, false)] (by kernel_rfl) (by kernel_rfl) (by kernel_rfl) ?_ ?_
  · exact (HS.out _).2 (by go_simp)
  iterate 9 (refine wpOrd_take rfl (by kernel_rfl) (fun K hK => ?_); go_simp; refine hK _ _ ?_; clear hK K)
  refine wpOrd_busy rfl (by kernel_rfl) (fun K hK => ?_); go_simp
  refine (Hh.out _).mono ?_
  rintro e w5 ⟨rfl, rfl⟩
  go_simp
  refine hK _ _ ((HS.out _).2 (by go_simp)) ?_; clear hK K
  refine wpOrd_take rfl (by kernel_rfl) (fun K hK => ?_); go_simp; refine hK _ _ ?_; clear hK K
  refine wpOrd_busy rfl (by kernel_rfl) (fun K hK => ?_); go_simp
  refine hK _ _ ((HS.out _).2 (by go_simp)) ?_; clear hK K
  refine wpOrd_done ?_
  clear k1 hne
  go_wp2
  go_end0
  exact ⟨rfl, ((((H.out.setR a.toNat Ha.out q).alloc _).drew).drew), below_drew (below_drew (below_alloc (below_put (Below.refl _ _) _ _) (by have := H.out.lt; simp; omega) _))⟩

set_option maxHeartbeats 1000000 in
theorem seq_operate_29 (a b c n : Int) (w : World) (M : Nat) (rv cv : Value) (x : Ms) (se : List Se) (h : Run w M rv cv x se) (hl : se.length ≤ 200000) (a0 : 0 ≤ a) (a1 : a < 10) (b0 : 0 ≤ b) (b1 : b < 10) (c0 : 0 ≤ c) (c1 : c < 10) :
    Calls Try.prog 74 #[.pointer (some ⟨M, 0, none⟩), .agg #[.int .i64 29, .int .i64 a, .int .i64 b, .int .i64 c, .int .i64 n]] w fun e w' =>
      e = .returned (.tuple #[]) ∧ Run w' M rv cv { x with r := setR x.r a (opI (29 - 20) (x.r b.toNat) (x.r c.toNat)) } (se ++ [⟨3, x.r b.toNat, x.r c.toNat⟩]) ∧ Below M w w' := by
  have hM := h.lt
  have hn : ¬ M = w.heap.size := by omega
  have hn' : ¬ w.heap.size = M := by omega
  have hwr := wrapEq
  have yb := (h.r b.toNat (by omega)).1
  have yc := (h.r c.toNat (by omega)).1
  obtain ⟨y, hy⟩ : ∃ y, x.r b.toNat = y := ⟨_, rfl⟩
  obtain ⟨z, hz⟩ : ∃ z, x.r c.toNat = z := ⟨_, rfl⟩
  rw [hy] at yb ⊢
  rw [hz] at yc ⊢
  have Hl : Hid (se.length ≤ 200000) := hl
  have H : Hid (Run w M rv cv x se) := h
  have Ha : Hid (a.toNat < 10) := (by omega : a.toNat < 10)
  have w9 : wrap64 9 = 9 := by unfold wrap64; omega
  have w10 : wrap64 10 = 10 := by unfold wrap64; omega
  have Hh : Hid (∀ w : World, Calls Try.prog 13 #[.int .i64 9, .int .i64 y, .int .i64 z] w fun e w' => e = .returned (.int .i64 (opI (29 - 20) y z)) ∧ w' = w) := fun w => op_calls _ _ _ w
  obtain ⟨q, hq⟩ : ∃ q, opI (29 - 20) y z = q := ⟨_, rfl⟩
  rw [hq] at Hh ⊢
  clear hq hy hz h hl
  go_enter Try.func74, Try.ntmps74
  go_wp2
  go_region
  go_wp2_with (fail)
  refine (seq_show _ M rv cv x se 3 y z Hl.out (H.out.alloc _).drew).mono ?_
  rintro e w2 ⟨rfl, r2, b2, kp⟩
  have kb := kp w.heap.size (by simp) (by omega) (fun sv hsv => H.out.notOwn w.heap.size (Nat.le_refl _) sv (by rw [← hsv]; exact (World.cell?_of_block ((World.grownBy_alloc w _ none).block M hM (by simp))).symm))
  have q1 : w2.cell? ⟨w.heap.size, 1, none⟩ = some (.int .i64 a) := by rw [World.cell?_of_block kb.1]; go_simp
  have H2 : Hid (Run w2 M rv cv x (se ++ [⟨3, y, z⟩]) ∧ Below M (w.alloc (.cells #[.int .i64 29, .int .i64 a, .int .i64 b, .int .i64 c, .int .i64 n] 34)).drew w2) := ⟨r2, b2⟩
  obtain ⟨ya, fa⟩ := r2.r a.toNat Ha.out
  clear r2 b2 kp kb
  obtain ⟨S, HS⟩ : ∃ S : World → Prop, Hid (∀ w', S w' ↔ w'.cell? ⟨w.heap.size, 1, none⟩ = some (.int .i64 a)) := ⟨_, fun _ => Iff.rfl⟩
  have k1 : ∀ i : { w' // S w' }, i.val.cell? ⟨w.heap.size, 1, none⟩ = some (.int .i64 a) := fun i => (HS.out _).1 i.property
  have hne : Nonempty { w' // S w' } := ⟨⟨w2, (HS.out _).2 q1⟩⟩
  go_wp2_with (fail)
  refine wp_region_ord (S := S) [(0, true), (1, true), (2, true), (3, true), (4, true), (5, true), (7, true), (8, true), (9, true), (6, false), (10, true), (11, false)] (by kernel_rfl) (by kernel_rfl) (by kernel_rfl) ?_ ?_
  · exact (HS.out _).2 (by go_simp)
  iterate 9 (refine wpOrd_take rfl (by kernel_rfl) (fun K hK => ?_); go_simp; refine hK _ _ ?_; clear hK K)
  refine wpOrd_busy rfl (by kernel_rfl) (fun K hK => ?_); go_simp
  refine (Hh.out _).mono ?_
  rintro e w5 ⟨rfl, rfl⟩
  go_simp
  refine hK _ _ ((HS.out _).2 (by go_simp)) ?_; clear hK K
  refine wpOrd_take rfl (by kernel_rfl) (fun K hK => ?_); go_simp; refine hK _ _ ?_; clear hK K
  refine wpOrd_busy rfl (by kernel_rfl) (fun K hK => ?_); go_simp
  refine hK _ _ ((HS.out _).2 (by go_simp)) ?_; clear hK K
  refine wpOrd_done ?_
  clear k1 hne
  go_wp2
  go_end0
  exact ⟨rfl, (H2.out.1.drew.setR a.toNat Ha.out q), below_put (below_drew (Below.trans (below_drew (below_alloc (Below.refl _ _) (Nat.le_of_lt H.out.lt) _)) H2.out.2)) _ _⟩

set_option maxHeartbeats 1000000 in
theorem seq_operate_30 (a b c n : Int) (w : World) (M : Nat) (rv cv : Value) (x : Ms) (se : List Se) (h : Run w M rv cv x se) (hl : se.length ≤ 200000) (a0 : 0 ≤ a) (a1 : a < 10) (b0 : 0 ≤ b) (b1 : b < 10) (c0 : 0 ≤ c) (c1 : c < 10) :
    Calls Try.prog 74 #[.pointer (some ⟨M, 0, none⟩), .agg #[.int .i64 30, .int .i64 a, .int .i64 b, .int .i64 c, .int .i64 n]] w fun e w' =>
      e = .returned (.tuple #[]) ∧ Run w' M rv cv { x with r := setR x.r a (opI (30 - 20) (x.r b.toNat) (x.r c.toNat)) } (se ++ [⟨3, x.r b.toNat, x.r c.toNat⟩]) ∧ Below M w w' := by
  have hM := h.lt
  have hn : ¬ M = w.heap.size := by omega
  have hn' : ¬ w.heap.size = M := by omega
  have hwr := wrapEq
  have yb := (h.r b.toNat (by omega)).1
  have yc := (h.r c.toNat (by omega)).1
  obtain ⟨y, hy⟩ : ∃ y, x.r b.toNat = y := ⟨_, rfl⟩
  obtain ⟨z, hz⟩ : ∃ z, x.r c.toNat = z := ⟨_, rfl⟩
  rw [hy] at yb ⊢
  rw [hz] at yc ⊢
  have Hl : Hid (se.length ≤ 200000) := hl
  have H : Hid (Run w M rv cv x se) := h
  have Ha : Hid (a.toNat < 10) := (by omega : a.toNat < 10)
  have w9 : wrap64 9 = 9 := by unfold wrap64; omega
  have w10 : wrap64 10 = 10 := by unfold wrap64; omega
  have Hh : Hid (∀ w : World, Calls Try.prog 13 #[.int .i64 10, .int .i64 y, .int .i64 z] w fun e w' => e = .returned (.int .i64 (opI (30 - 20) y z)) ∧ w' = w) := fun w => op_calls _ _ _ w
  obtain ⟨q, hq⟩ : ∃ q, opI (30 - 20) y z = q := ⟨_, rfl⟩
  rw [hq] at Hh ⊢
  clear hq hy hz h hl
  go_enter Try.func74, Try.ntmps74
  go_wp2
  go_region
  go_wp2_with (fail)
  refine (seq_show _ M rv cv x se 3 y z Hl.out (H.out.alloc _).drew).mono ?_
  rintro e w2 ⟨rfl, r2, b2, kp⟩
  have kb := kp w.heap.size (by simp) (by omega) (fun sv hsv => H.out.notOwn w.heap.size (Nat.le_refl _) sv (by rw [← hsv]; exact (World.cell?_of_block ((World.grownBy_alloc w _ none).block M hM (by simp))).symm))
  have q1 : w2.cell? ⟨w.heap.size, 1, none⟩ = some (.int .i64 a) := by rw [World.cell?_of_block kb.1]; go_simp
  have H2 : Hid (Run w2 M rv cv x (se ++ [⟨3, y, z⟩]) ∧ Below M (w.alloc (.cells #[.int .i64 30, .int .i64 a, .int .i64 b, .int .i64 c, .int .i64 n] 34)).drew w2) := ⟨r2, b2⟩
  obtain ⟨ya, fa⟩ := r2.r a.toNat Ha.out
  clear r2 b2 kp kb
  obtain ⟨S, HS⟩ : ∃ S : World → Prop, Hid (∀ w', S w' ↔ w'.cell? ⟨w.heap.size, 1, none⟩ = some (.int .i64 a)) := ⟨_, fun _ => Iff.rfl⟩
  have k1 : ∀ i : { w' // S w' }, i.val.cell? ⟨w.heap.size, 1, none⟩ = some (.int .i64 a) := fun i => (HS.out _).1 i.property
  have hne : Nonempty { w' // S w' } := ⟨⟨w2, (HS.out _).2 q1⟩⟩
  go_wp2_with (fail)
  refine wp_region_ord (S := S) [(0, true), (1, true), (2, true), (3, true), (4, true), (5, true), (7, true), (8, true), (9, true), (6, false), (10, true), (11, false)] (by kernel_rfl) (by kernel_rfl) (by kernel_rfl) ?_ ?_
  · exact (HS.out _).2 (by go_simp)
  iterate 9 (refine wpOrd_take rfl (by kernel_rfl) (fun K hK => ?_); go_simp; refine hK _ _ ?_; clear hK K)
  refine wpOrd_busy rfl (by kernel_rfl) (fun K hK => ?_); go_simp
  refine (Hh.out _).mono ?_
  rintro e w5 ⟨rfl, rfl⟩
  go_simp
  refine hK _ _ ((HS.out _).2 (by go_simp)) ?_; clear hK K
  refine wpOrd_take rfl (by kernel_rfl) (fun K hK => ?_); go_simp; refine hK _ _ ?_; clear hK K
  refine wpOrd_busy rfl (by kernel_rfl) (fun K hK => ?_); go_simp
  refine hK _ _ ((HS.out _).2 (by go_simp)) ?_; clear hK K
  refine wpOrd_done ?_
  clear k1 hne
  go_wp2
  go_end0
  exact ⟨rfl, (H2.out.1.drew.setR a.toNat Ha.out q), below_put (below_drew (Below.trans (below_drew (below_alloc (Below.refl _ _) (Nat.le_of_lt H.out.lt) _)) H2.out.2)) _ _⟩

end Go.Proofs.Ytbfhchhggkpbdaa

/-
  What the machine's Do comes to, instruction by instruction.
-/
namespace Go.Proofs.Ytbfhchhggkpbdaa
open Go.RowKit
set_option linter.unusedVariables false
set_option linter.unusedSimpArgs false
set_option maxRecDepth 8000

set_option maxHeartbeats 400000 in
theorem do_1 (a b c n : Int) (w : World) (M : Nat) (rv cv : Value) (x : Ms) (se : List Se) (h : Run w M rv cv x se) (a0 : 0 ≤ a) (a1 : a < 10)  :
    Calls Try.prog 47 #[.pointer (some ⟨M, 0, none⟩), .agg #[.int .i64 1, .int .i64 a, .int .i64 b, .int .i64 c, .int .i64 n]] w fun e w' => e = .returned (.tuple #[]) ∧ Run w' M rv cv { x with r := setR x.r a n } se ∧ Below M w w' := by
  have hM := h.lt
  have hn : ¬ M = w.heap.size := by omega
  have hn' : ¬ w.heap.size = M := by omega
  have hwr := wrapEq
  have H : Hid (Run w M rv cv x se) := h
  have Ha : Hid (a.toNat < 10) := (by omega : a.toNat < 10)
  obtain ⟨ya, fa⟩ := h.r a.toNat (by omega)
  clear h
  go_enter Try.func47, Try.ntmps47
  go_wp2
  go_region
  go_wp2
  go_end0
  exact ⟨rfl, (((H.out.setR a.toNat Ha.out n).alloc _).drew), below_drew (below_alloc (below_put (Below.refl _ _) _ _) (by have := H.out.lt; simp; omega) _)⟩

set_option maxHeartbeats 400000 in
theorem do_12 (a b c n : Int) (w : World) (M : Nat) (rv cv : Value) (x : Ms) (se : List Se) (h : Run w M rv cv x se) (a0 : 0 ≤ a) (a1 : a < 10)  :
    Calls Try.prog 47 #[.pointer (some ⟨M, 0, none⟩), .agg #[.int .i64 12, .int .i64 a, .int .i64 b, .int .i64 c, .int .i64 n]] w fun e w' => e = .returned (.tuple #[]) ∧ Run w' M rv cv x se ∧ Below M w w' := by
  have hM := h.lt
  have hn : ¬ M = w.heap.size := by omega
  have hn' : ¬ w.heap.size = M := by omega
  have hwr := wrapEq
  have H : Hid (Run w M rv cv x se) := h
  have Ha : Hid (a.toNat < 10) := (by omega : a.toNat < 10)
  clear h
  go_enter Try.func47, Try.ntmps47
  go_wp2
  go_region
  go_wp2
  go_end0
  exact ⟨rfl, ((H.out.alloc _).drew), below_drew (below_alloc (Below.refl _ _) (Nat.le_of_lt H.out.lt) _)⟩

set_option maxHeartbeats 400000 in
theorem do_7 (a b c n : Int) (w : World) (M : Nat) (rv cv : Value) (x : Ms) (se : List Se) (h : Run w M rv cv x se) (a0 : 0 ≤ a) (a1 : a < 10)  :
    Calls Try.prog 47 #[.pointer (some ⟨M, 0, none⟩), .agg #[.int .i64 7, .int .i64 a, .int .i64 b, .int .i64 c, .int .i64 n]] w fun e w' => e = .returned (.tuple #[]) ∧ Run w' M rv cv { x with next := n } se ∧ Below M w w' := by
  have hM := h.lt
  have hn : ¬ M = w.heap.size := by omega
  have hn' : ¬ w.heap.size = M := by omega
  have hwr := wrapEq
  have H : Hid (Run w M rv cv x se) := h
  have Ha : Hid (a.toNat < 10) := (by omega : a.toNat < 10)
  obtain ⟨ya, fa⟩ := h.next
  clear h
  go_enter Try.func47, Try.ntmps47
  go_wp2
  go_region
  go_wp2
  go_end0
  exact ⟨rfl, (((H.out.setNext n).alloc _).drew), below_drew (below_alloc (below_put (Below.refl _ _) _ _) (by have := H.out.lt; simp; omega) _)⟩

set_option maxHeartbeats 400000 in
theorem do_2 (a b c n : Int) (w : World) (M : Nat) (rv cv : Value) (x : Ms) (se : List Se) (h : Run w M rv cv x se) (a0 : 0 ≤ a) (a1 : a < 10) (b0 : 0 ≤ b) (b1 : b < 10) :
    Calls Try.prog 47 #[.pointer (some ⟨M, 0, none⟩), .agg #[.int .i64 2, .int .i64 a, .int .i64 b, .int .i64 c, .int .i64 n]] w fun e w' => e = .returned (.tuple #[]) ∧ Run w' M rv cv { x with r := setR x.r a (x.r b.toNat) } se ∧ Below M w w' := by
  have hM := h.lt
  have hn : ¬ M = w.heap.size := by omega
  have hn' : ¬ w.heap.size = M := by omega
  have hwr := wrapEq
  have H : Hid (Run w M rv cv x se) := h
  have Ha : Hid (a.toNat < 10) := (by omega : a.toNat < 10)
  obtain ⟨ya, fa⟩ := h.r a.toNat (by omega)
  have yb := (h.r b.toNat (by omega)).1
  obtain ⟨y, hy⟩ : ∃ y, x.r b.toNat = y := ⟨_, rfl⟩
  rw [hy] at yb ⊢
  clear h hy
  go_enter Try.func47, Try.ntmps47
  go_wp2
  go_region
  go_wp2_with (fail)
  go_region
  go_wp2
  go_end0
  exact ⟨rfl, (((H.out.setR a.toNat Ha.out y).alloc _).drew.drew), below_drew (below_drew (below_alloc (below_put (Below.refl _ _) _ _) (by have := H.out.lt; simp; omega) _))⟩

set_option maxHeartbeats 400000 in
theorem do_10 (a b c n : Int) (w : World) (M : Nat) (rv cv : Value) (x : Ms) (se : List Se) (h : Run w M rv cv x se) (a0 : 0 ≤ a) (a1 : a < 10) (b0 : 0 ≤ b) (b1 : b < 10) :
    Calls Try.prog 47 #[.pointer (some ⟨M, 0, none⟩), .agg #[.int .i64 10, .int .i64 a, .int .i64 b, .int .i64 c, .int .i64 n]] w fun e w' => e = .returned (.tuple #[]) ∧ Run w' M rv cv { x with r := setR x.r a (wrap64 (x.r b.toNat + n)) } se ∧ Below M w w' := by
  have hM := h.lt
  have hn : ¬ M = w.heap.size := by omega
  have hn' : ¬ w.heap.size = M := by omega
  have hwr := wrapEq
  have H : Hid (Run w M rv cv x se) := h
  have Ha : Hid (a.toNat < 10) := (by omega : a.toNat < 10)
  obtain ⟨ya, fa⟩ := h.r a.toNat (by omega)
  have yb := (h.r b.toNat (by omega)).1
  obtain ⟨y, hy⟩ : ∃ y, x.r b.toNat = y := ⟨_, rfl⟩
  rw [hy] at yb ⊢
  clear h hy
  go_enter Try.func47, Try.ntmps47
  go_wp2
  go_region
  go_wp2_with (fail)
  go_region
  go_wp2
  go_end0
  exact ⟨rfl, (((H.out.setR a.toNat Ha.out (wrap64 (y + n))).alloc _).drew.drew), below_drew (below_drew (below_alloc (below_put (Below.refl _ _) _ _) (by have := H.out.lt; simp; omega) _))⟩

set_option maxHeartbeats 400000 in
theorem do_9 (a b c n : Int) (w : World) (M : Nat) (rv cv : Value) (x : Ms) (se : List Se) (h : Run w M rv cv x se) (a0 : 0 ≤ a) (a1 : a < 10)  :
    Calls Try.prog 47 #[.pointer (some ⟨M, 0, none⟩), .agg #[.int .i64 9, .int .i64 a, .int .i64 b, .int .i64 c, .int .i64 n]] w fun e w' => e = .returned (.tuple #[]) ∧ Run w' M rv cv { x with val := x.r a.toNat, fin := 1, ended := true } se ∧ Below M w w' := by
  have hM := h.lt
  have hn : ¬ M = w.heap.size := by omega
  have hn' : ¬ w.heap.size = M := by omega
  have hwr := wrapEq
  have H : Hid (Run w M rv cv x se) := h
  have Ha : Hid (a.toNat < 10) := (by omega : a.toNat < 10)
  have ya := (h.r a.toNat (by omega)).1
  obtain ⟨yv, fv⟩ := h.val
  obtain ⟨y, hy⟩ : ∃ y, x.r a.toNat = y := ⟨_, rfl⟩
  rw [hy] at ya ⊢
  clear h hy
  go_enter Try.func47, Try.ntmps47
  go_wp2
  go_region
  go_wp2_with (fail)
  refine (seq_finish _ M rv cv { x with val := y } se 1 (((H.out.setVal y).alloc _).drew)).mono ?_
  rintro e w2 ⟨rfl, r2, b2⟩
  have H2 : Hid (Run w2 M rv cv { x with val := y, fin := 1, ended := true } se ∧ Below M w w2) := ⟨r2, Below.trans (below_drew (below_alloc (below_put (Below.refl _ _) _ _) (by have := H.out.lt; simp; omega) _)) b2⟩
  clear r2 b2
  go_wp2
  go_end0
  exact ⟨rfl, H2.out.1, H2.out.2⟩

set_option maxHeartbeats 400000 in
theorem do_8y (a b c n : Int) (w : World) (M : Nat) (rv cv : Value) (x : Ms) (se : List Se) (h : Run w M rv cv x se) (a0 : 0 ≤ a) (a1 : a < 10) (b0 : 0 ≤ b) (b1 : b < 10) (hh : holdsI c (x.r a.toNat) (x.r b.toNat) = true) :
    Calls Try.prog 47 #[.pointer (some ⟨M, 0, none⟩), .agg #[.int .i64 8, .int .i64 a, .int .i64 b, .int .i64 c, .int .i64 n]] w fun e w' => e = .returned (.tuple #[]) ∧ Run w' M rv cv { x with next := n } se ∧ Below M w w' := by
  have hM := h.lt
  have hn : ¬ M = w.heap.size := by omega
  have hn' : ¬ w.heap.size = M := by omega
  have hwr := wrapEq
  have H : Hid (Run w M rv cv x se) := h
  have Ha : Hid (a.toNat < 10) := (by omega : a.toNat < 10)
  have Hh : Hid (∀ w1, More w w1 → Calls Try.prog 73 #[.pointer (some ⟨M, 0, none⟩), .agg #[.int .i64 8, .int .i64 a, .int .i64 b, .int .i64 c, .int .i64 n]] w1 fun e w' => e = .returned (.bool true) ∧ More w1 w') := fun w1 m => by
    have := seq_holds 8 a b c n (x.r a.toNat) (x.r b.toNat) w1 M a0 a1 b0 b1 ((h.more m).r a.toNat (by omega)).1 ((h.more m).r b.toNat (by omega)).1 (h.more m).lt
    rw [hh] at this
    exact this
  clear h hh
  go_enter Try.func47, Try.ntmps47
  go_wp2
  go_region
  go_wp2_with (fail)
  refine (Hh.out _ ((More.refl _).alloc _ _).drew).mono ?_
  rintro e w2 ⟨rfl, m2⟩
  have j4 : w2.cell? ⟨w.heap.size, 4, none⟩ = some (.int .i64 n) := m2.cell (by go_simp)
  have Hm : Hid (More w w2) := ((More.refl _).alloc _ _).drew.trans m2
  clear m2
  obtain ⟨yv, fv⟩ := (H.out.more Hm.out).next
  go_wp2
  go_end0
  exact ⟨rfl, (H.out.more Hm.out).setNext n, below_put (Below.mono Hm.out (Nat.le_of_lt H.out.lt)) _ _⟩

set_option maxHeartbeats 400000 in
theorem do_8n (a b c n : Int) (w : World) (M : Nat) (rv cv : Value) (x : Ms) (se : List Se) (h : Run w M rv cv x se) (a0 : 0 ≤ a) (a1 : a < 10) (b0 : 0 ≤ b) (b1 : b < 10) (hh : holdsI c (x.r a.toNat) (x.r b.toNat) = false) :
    Calls Try.prog 47 #[.pointer (some ⟨M, 0, none⟩), .agg #[.int .i64 8, .int .i64 a, .int .i64 b, .int .i64 c, .int .i64 n]] w fun e w' => e = .returned (.tuple #[]) ∧ Run w' M rv cv x se ∧ Below M w w' := by
  have hM := h.lt
  have hn : ¬ M = w.heap.size := by omega
  have hn' : ¬ w.heap.size = M := by omega
  have hwr := wrapEq
  have H : Hid (Run w M rv cv x se) := h
  have Ha : Hid (a.toNat < 10) := (by omega : a.toNat < 10)
  have Hh : Hid (∀ w1, More w w1 → Calls Try.prog 73 #[.pointer (some ⟨M, 0, none⟩), .agg #[.int .i64 8, .int .i64 a, .int .i64 b, .int .i64 c, .int .i64 n]] w1 fun e w' => e = .returned (.bool false) ∧ More w1 w') := fun w1 m => by
    have := seq_holds 8 a b c n (x.r a.toNat) (x.r b.toNat) w1 M a0 a1 b0 b1 ((h.more m).r a.toNat (by omega)).1 ((h.more m).r b.toNat (by omega)).1 (h.more m).lt
    rw [hh] at this
    exact this
  clear h hh
  go_enter Try.func47, Try.ntmps47
  go_wp2
  go_region
  go_wp2_with (fail)
  refine (Hh.out _ ((More.refl _).alloc _ _).drew).mono ?_
  rintro e w2 ⟨rfl, m2⟩
  have j4 : w2.cell? ⟨w.heap.size, 4, none⟩ = some (.int .i64 n) := m2.cell (by go_simp)
  have Hm : Hid (More w w2) := ((More.refl _).alloc _ _).drew.trans m2
  clear m2
  obtain ⟨yv, fv⟩ := (H.out.more Hm.out).next
  go_wp2
  go_end0
  exact ⟨rfl, H.out.more Hm.out, Below.mono Hm.out (Nat.le_of_lt H.out.lt)⟩

set_option maxHeartbeats 400000 in
theorem do_11lo (a b c n y : Int) (w : World) (M : Nat) (rv cv : Value) (x : Ms) (se : List Se) (h : Run w M rv cv x se) (a0 : 0 ≤ a) (a1 : a < 10) (hy : x.r a.toNat = y) (hl : y < 0) :
    Calls Try.prog 47 #[.pointer (some ⟨M, 0, none⟩), .agg #[.int .i64 11, .int .i64 a, .int .i64 b, .int .i64 c, .int .i64 n]] w fun e w' => e = .returned (.tuple #[]) ∧ Run w' M rv cv { x with r := setR x.r a 0 } se ∧ Below M w w' := by
  have hM := h.lt
  have hn : ¬ M = w.heap.size := by omega
  have hn' : ¬ w.heap.size = M := by omega
  have hwr := wrapEq
  have H : Hid (Run w M rv cv x se) := h
  have Ha : Hid (a.toNat < 10) := (by omega : a.toNat < 10)
  obtain ⟨ya, fa⟩ := h.r a.toNat (by omega)
  rw [hy] at ya
  clear h hy
  go_enter Try.func47, Try.ntmps47
  go_wp2
  go_region
  go_wp2_with (fail)
  go_region
  go_wp2
  go_end0
  exact ⟨rfl, (((H.out.setR a.toNat Ha.out 0).alloc _).drew.drew), below_drew (below_drew (below_alloc (below_put (Below.refl _ _) _ _) (by have := H.out.lt; simp; omega) _))⟩

set_option maxHeartbeats 400000 in
theorem do_11hi (a b c n y : Int) (w : World) (M : Nat) (rv cv : Value) (x : Ms) (se : List Se) (h : Run w M rv cv x se) (a0 : 0 ≤ a) (a1 : a < 10) (hy : x.r a.toNat = y) (hl : ¬ y < 0) (hh : n ≤ y) :
    Calls Try.prog 47 #[.pointer (some ⟨M, 0, none⟩), .agg #[.int .i64 11, .int .i64 a, .int .i64 b, .int .i64 c, .int .i64 n]] w fun e w' => e = .returned (.tuple #[]) ∧ Run w' M rv cv { x with r := setR x.r a 0 } se ∧ Below M w w' := by
  have hM := h.lt
  have hn : ¬ M = w.heap.size := by omega
  have hn' : ¬ w.heap.size = M := by omega
  have hwr := wrapEq
  have H : Hid (Run w M rv cv x se) := h
  have Ha : Hid (a.toNat < 10) := (by omega : a.toNat < 10)
  obtain ⟨ya, fa⟩ := h.r a.toNat (by omega)
  rw [hy] at ya
  clear h hy
  have hl' : decide (y < 0) = false := by simp; omega
  go_enter Try.func47, Try.ntmps47
  go_wp2
  go_region
  go_wp2_with (fail)
  go_region
  go_wp2
  go_end0
  exact ⟨rfl, (((H.out.setR a.toNat Ha.out 0).alloc _).drew.drew), below_drew (below_drew (below_alloc (below_put (Below.refl _ _) _ _) (by have := H.out.lt; simp; omega) _))⟩

set_option maxHeartbeats 400000 in
theorem do_11in (a b c n y : Int) (w : World) (M : Nat) (rv cv : Value) (x : Ms) (se : List Se) (h : Run w M rv cv x se) (a0 : 0 ≤ a) (a1 : a < 10) (hy : x.r a.toNat = y) (hl : ¬ y < 0) (hh : y < n) :
    Calls Try.prog 47 #[.pointer (some ⟨M, 0, none⟩), .agg #[.int .i64 11, .int .i64 a, .int .i64 b, .int .i64 c, .int .i64 n]] w fun e w' => e = .returned (.tuple #[]) ∧ Run w' M rv cv x se ∧ Below M w w' := by
  have hM := h.lt
  have hn : ¬ M = w.heap.size := by omega
  have hn' : ¬ w.heap.size = M := by omega
  have hwr := wrapEq
  have H : Hid (Run w M rv cv x se) := h
  have Ha : Hid (a.toNat < 10) := (by omega : a.toNat < 10)
  obtain ⟨ya, fa⟩ := h.r a.toNat (by omega)
  rw [hy] at ya
  clear h hy
  have hl' : decide (y < 0) = false := by simp; omega
  go_enter Try.func47, Try.ntmps47
  go_wp2
  go_region
  go_wp2_with (fail)
  go_region
  go_wp2
  go_end0
  exact ⟨rfl, ((H.out.alloc _).drew.drew), below_drew (below_drew (below_alloc (Below.refl _ _) (Nat.le_of_lt H.out.lt) _))⟩

set_option maxHeartbeats 400000 in
theorem do_3_there (a b c n k : Int) (w : World) (M : Nat) (rv cv : Value) (x : Ms) (se : List Se) (h : Run w M rv cv x se) (a0 : 0 ≤ a) (a1 : a < 10) (se2 : List Se) (k0 : 0 ≤ k) (k1 : k < 384) (hR : ∀ w1, More w w1 → Calls Try.prog 72 #[.pointer (some ⟨M, 0, none⟩), .agg #[.int .i64 3, .int .i64 a, .int .i64 b, .int .i64 c, .int .i64 n], .int .i64 0] w1 fun e w' => e = .returned (.tuple #[.int .i64 k, .bool true]) ∧ Run w' M rv cv x se2 ∧ Below M w1 w') :
    Calls Try.prog 47 #[.pointer (some ⟨M, 0, none⟩), .agg #[.int .i64 3, .int .i64 a, .int .i64 b, .int .i64 c, .int .i64 n]] w fun e w' => e = .returned (.tuple #[]) ∧ Run w' M rv cv { x with r := setR x.r a (x.wd k.toNat) } se2 ∧ Below M w w' := by
  have hM := h.lt
  have hn : ¬ M = w.heap.size := by omega
  have hn' : ¬ w.heap.size = M := by omega
  have hwr := wrapEq
  have H : Hid (Run w M rv cv x se) := h
  have Ha : Hid (a.toNat < 10) := (by omega : a.toNat < 10)
  have HR : Hid (∀ w1, More w w1 → Calls Try.prog 72 #[.pointer (some ⟨M, 0, none⟩), .agg #[.int .i64 3, .int .i64 a, .int .i64 b, .int .i64 c, .int .i64 n], .int .i64 0] w1 fun e w' => e = .returned (.tuple #[.int .i64 k, .bool true]) ∧ Run w' M rv cv x se2 ∧ Below M w1 w') := hR
  have Hk : Hid (k.toNat < 384) := (by omega : k.toNat < 384)
  obtain ⟨y, hy⟩ : ∃ y, x.wd k.toNat = y := ⟨_, rfl⟩
  rw [hy]
  have Hy : Hid (x.wd k.toNat = y) := hy
  clear h hR hy
  go_enter Try.func47, Try.ntmps47
  go_wp2
  go_region
  go_wp2_with (fail)
  refine (HR.out _ ((More.refl _).alloc _ _).drew).mono ?_
  rintro e w2 ⟨rfl, r2, b2⟩
  have H2 : Hid (Run w2 M rv cv x se2 ∧ Below M w w2) := ⟨r2, Below.trans (below_drew (below_alloc (Below.refl _ _) (Nat.le_of_lt H.out.lt) _)) b2⟩
  obtain ⟨ya, fa⟩ := r2.r a.toNat Ha.out
  have yk := (r2.wd k.toNat Hk.out).1
  rw [Hy.out] at yk
  clear r2 b2
  go_wp2
  go_end0
  exact ⟨rfl, (H2.out.1.setR a.toNat Ha.out y), below_put H2.out.2 _ _⟩

set_option maxHeartbeats 400000 in
theorem do_5_there (a b c n k : Int) (w : World) (M : Nat) (rv cv : Value) (x : Ms) (se : List Se) (h : Run w M rv cv x se) (a0 : 0 ≤ a) (a1 : a < 10) (se2 : List Se) (k0 : 0 ≤ k) (k1 : k < 384) (hR : ∀ w1, More w w1 → Calls Try.prog 72 #[.pointer (some ⟨M, 0, none⟩), .agg #[.int .i64 5, .int .i64 a, .int .i64 b, .int .i64 c, .int .i64 n], .int .i64 0] w1 fun e w' => e = .returned (.tuple #[.int .i64 k, .bool true]) ∧ Run w' M rv cv x se2 ∧ Below M w1 w') :
    Calls Try.prog 47 #[.pointer (some ⟨M, 0, none⟩), .agg #[.int .i64 5, .int .i64 a, .int .i64 b, .int .i64 c, .int .i64 n]] w fun e w' => e = .returned (.tuple #[]) ∧ Run w' M rv cv { x with r := setR x.r a (x.wd k.toNat) } se2 ∧ Below M w w' := by
  have hM := h.lt
  have hn : ¬ M = w.heap.size := by omega
  have hn' : ¬ w.heap.size = M := by omega
  have hwr := wrapEq
  have H : Hid (Run w M rv cv x se) := h
  have Ha : Hid (a.toNat < 10) := (by omega : a.toNat < 10)
  have HR : Hid (∀ w1, More w w1 → Calls Try.prog 72 #[.pointer (some ⟨M, 0, none⟩), .agg #[.int .i64 5, .int .i64 a, .int .i64 b, .int .i64 c, .int .i64 n], .int .i64 0] w1 fun e w' => e = .returned (.tuple #[.int .i64 k, .bool true]) ∧ Run w' M rv cv x se2 ∧ Below M w1 w') := hR
  have Hk : Hid (k.toNat < 384) := (by omega : k.toNat < 384)
  obtain ⟨y, hy⟩ : ∃ y, x.wd k.toNat = y := ⟨_, rfl⟩
  rw [hy]
  have Hy : Hid (x.wd k.toNat = y) := hy
  clear h hR hy
  go_enter Try.func47, Try.ntmps47
  go_wp2
  go_region
  go_wp2_with (fail)
  refine (HR.out _ ((More.refl _).alloc _ _).drew).mono ?_
  rintro e w2 ⟨rfl, r2, b2⟩
  have H2 : Hid (Run w2 M rv cv x se2 ∧ Below M w w2) := ⟨r2, Below.trans (below_drew (below_alloc (Below.refl _ _) (Nat.le_of_lt H.out.lt) _)) b2⟩
  obtain ⟨ya, fa⟩ := r2.r a.toNat Ha.out
  have yk := (r2.wd k.toNat Hk.out).1
  rw [Hy.out] at yk
  clear r2 b2
  go_wp2
  go_end0
  exact ⟨rfl, (H2.out.1.setR a.toNat Ha.out y), below_put H2.out.2 _ _⟩

set_option maxHeartbeats 400000 in
theorem do_4_there (a b c n k : Int) (w : World) (M : Nat) (rv cv : Value) (x : Ms) (se : List Se) (h : Run w M rv cv x se) (a0 : 0 ≤ a) (a1 : a < 10) (se2 : List Se) (k0 : 0 ≤ k) (k1 : k < 384) (hR : ∀ w1, More w w1 → Calls Try.prog 72 #[.pointer (some ⟨M, 0, none⟩), .agg #[.int .i64 4, .int .i64 a, .int .i64 b, .int .i64 c, .int .i64 n], .int .i64 1] w1 fun e w' => e = .returned (.tuple #[.int .i64 k, .bool true]) ∧ Run w' M rv cv x se2 ∧ Below M w1 w') :
    Calls Try.prog 47 #[.pointer (some ⟨M, 0, none⟩), .agg #[.int .i64 4, .int .i64 a, .int .i64 b, .int .i64 c, .int .i64 n]] w fun e w' => e = .returned (.tuple #[]) ∧ Run w' M rv cv { x with wd := setN x.wd k.toNat (x.r a.toNat) } se2 ∧ Below M w w' := by
  have hM := h.lt
  have hn : ¬ M = w.heap.size := by omega
  have hn' : ¬ w.heap.size = M := by omega
  have hwr := wrapEq
  have H : Hid (Run w M rv cv x se) := h
  have Ha : Hid (a.toNat < 10) := (by omega : a.toNat < 10)
  have HR : Hid (∀ w1, More w w1 → Calls Try.prog 72 #[.pointer (some ⟨M, 0, none⟩), .agg #[.int .i64 4, .int .i64 a, .int .i64 b, .int .i64 c, .int .i64 n], .int .i64 1] w1 fun e w' => e = .returned (.tuple #[.int .i64 k, .bool true]) ∧ Run w' M rv cv x se2 ∧ Below M w1 w') := hR
  have Hk : Hid (k.toNat < 384) := (by omega : k.toNat < 384)
  obtain ⟨y, hy⟩ : ∃ y, x.r a.toNat = y := ⟨_, rfl⟩
  rw [hy]
  have Hy : Hid (x.r a.toNat = y) := hy
  clear h hR hy
  go_enter Try.func47, Try.ntmps47
  go_wp2
  go_region
  go_wp2_with (fail)
  refine (HR.out _ ((More.refl _).alloc _ _).drew).mono ?_
  rintro e w2 ⟨rfl, r2, b2⟩
  have H2 : Hid (Run w2 M rv cv x se2 ∧ Below M w w2) := ⟨r2, Below.trans (below_drew (below_alloc (Below.refl _ _) (Nat.le_of_lt H.out.lt) _)) b2⟩
  have ya := (r2.r a.toNat Ha.out).1
  obtain ⟨yk, fk⟩ := r2.wd k.toNat Hk.out
  rw [Hy.out] at ya
  clear r2 b2
  go_wp2_with (fail)
  go_region
  go_wp2
  go_end0
  exact ⟨rfl, (H2.out.1.setWd k.toNat Hk.out y).drew, below_drew (below_put H2.out.2 _ _)⟩

set_option maxHeartbeats 400000 in
theorem do_6_there (a b c n k : Int) (w : World) (M : Nat) (rv cv : Value) (x : Ms) (se : List Se) (h : Run w M rv cv x se) (a0 : 0 ≤ a) (a1 : a < 10) (se2 : List Se) (k0 : 0 ≤ k) (k1 : k < 384) (hR : ∀ w1, More w w1 → Calls Try.prog 72 #[.pointer (some ⟨M, 0, none⟩), .agg #[.int .i64 6, .int .i64 a, .int .i64 b, .int .i64 c, .int .i64 n], .int .i64 1] w1 fun e w' => e = .returned (.tuple #[.int .i64 k, .bool true]) ∧ Run w' M rv cv x se2 ∧ Below M w1 w') :
    Calls Try.prog 47 #[.pointer (some ⟨M, 0, none⟩), .agg #[.int .i64 6, .int .i64 a, .int .i64 b, .int .i64 c, .int .i64 n]] w fun e w' => e = .returned (.tuple #[]) ∧ Run w' M rv cv { x with wd := setN x.wd k.toNat (x.r a.toNat) } se2 ∧ Below M w w' := by
  have hM := h.lt
  have hn : ¬ M = w.heap.size := by omega
  have hn' : ¬ w.heap.size = M := by omega
  have hwr := wrapEq
  have H : Hid (Run w M rv cv x se) := h
  have Ha : Hid (a.toNat < 10) := (by omega : a.toNat < 10)
  have HR : Hid (∀ w1, More w w1 → Calls Try.prog 72 #[.pointer (some ⟨M, 0, none⟩), .agg #[.int .i64 6, .int .i64 a, .int .i64 b, .int .i64 c, .int .i64 n], .int .i64 1] w1 fun e w' => e = .returned (.tuple #[.int .i64 k, .bool true]) ∧ Run w' M rv cv x se2 ∧ Below M w1 w') := hR
  have Hk : Hid (k.toNat < 384) := (by omega : k.toNat < 384)
  obtain ⟨y, hy⟩ : ∃ y, x.r a.toNat = y := ⟨_, rfl⟩
  rw [hy]
  have Hy : Hid (x.r a.toNat = y) := hy
  clear h hR hy
  go_enter Try.func47, Try.ntmps47
  go_wp2
  go_region
  go_wp2_with (fail)
  refine (HR.out _ ((More.refl _).alloc _ _).drew).mono ?_
  rintro e w2 ⟨rfl, r2, b2⟩
  have H2 : Hid (Run w2 M rv cv x se2 ∧ Below M w w2) := ⟨r2, Below.trans (below_drew (below_alloc (Below.refl _ _) (Nat.le_of_lt H.out.lt) _)) b2⟩
  have ya := (r2.r a.toNat Ha.out).1
  obtain ⟨yk, fk⟩ := r2.wd k.toNat Hk.out
  rw [Hy.out] at ya
  clear r2 b2
  go_wp2_with (fail)
  go_region
  go_wp2
  go_end0
  exact ⟨rfl, (H2.out.1.setWd k.toNat Hk.out y).drew, below_drew (below_put H2.out.2 _ _)⟩

set_option maxHeartbeats 400000 in
theorem do_3_not (a b c n : Int) (w : World) (M : Nat) (rv cv : Value) (x : Ms) (se : List Se) (h : Run w M rv cv x se) (a0 : 0 ≤ a) (a1 : a < 10) (x2 : Ms) (hR : ∀ w1, More w w1 → Calls Try.prog 72 #[.pointer (some ⟨M, 0, none⟩), .agg #[.int .i64 3, .int .i64 a, .int .i64 b, .int .i64 c, .int .i64 n], .int .i64 0] w1 fun e w' => e = .returned (.tuple #[.int .i64 0, .bool false]) ∧ Run w' M rv cv x2 se ∧ Below M w1 w') :
    Calls Try.prog 47 #[.pointer (some ⟨M, 0, none⟩), .agg #[.int .i64 3, .int .i64 a, .int .i64 b, .int .i64 c, .int .i64 n]] w fun e w' => e = .returned (.tuple #[]) ∧ Run w' M rv cv x2 se ∧ Below M w w' := by
  have hM := h.lt
  have hn : ¬ M = w.heap.size := by omega
  have hn' : ¬ w.heap.size = M := by omega
  have hwr := wrapEq
  have H : Hid (Run w M rv cv x se) := h
  have Ha : Hid (a.toNat < 10) := (by omega : a.toNat < 10)
  have HR : Hid (∀ w1, More w w1 → Calls Try.prog 72 #[.pointer (some ⟨M, 0, none⟩), .agg #[.int .i64 3, .int .i64 a, .int .i64 b, .int .i64 c, .int .i64 n], .int .i64 0] w1 fun e w' => e = .returned (.tuple #[.int .i64 0, .bool false]) ∧ Run w' M rv cv x2 se ∧ Below M w1 w') := hR
  clear h hR
  go_enter Try.func47, Try.ntmps47
  go_wp2
  go_region
  go_wp2_with (fail)
  refine (HR.out _ ((More.refl _).alloc _ _).drew).mono ?_
  rintro e w2 ⟨rfl, r2, b2⟩
  have H2 : Hid (Run w2 M rv cv x2 se ∧ Below M w w2) := ⟨r2, Below.trans (below_drew (below_alloc (Below.refl _ _) (Nat.le_of_lt H.out.lt) _)) b2⟩
  clear r2 b2
  go_wp2
  go_end0
  exact ⟨rfl, H2.out.1, H2.out.2⟩

set_option maxHeartbeats 400000 in
theorem do_5_not (a b c n : Int) (w : World) (M : Nat) (rv cv : Value) (x : Ms) (se : List Se) (h : Run w M rv cv x se) (a0 : 0 ≤ a) (a1 : a < 10) (x2 : Ms) (hR : ∀ w1, More w w1 → Calls Try.prog 72 #[.pointer (some ⟨M, 0, none⟩), .agg #[.int .i64 5, .int .i64 a, .int .i64 b, .int .i64 c, .int .i64 n], .int .i64 0] w1 fun e w' => e = .returned (.tuple #[.int .i64 0, .bool false]) ∧ Run w' M rv cv x2 se ∧ Below M w1 w') :
    Calls Try.prog 47 #[.pointer (some ⟨M, 0, none⟩), .agg #[.int .i64 5, .int .i64 a, .int .i64 b, .int .i64 c, .int .i64 n]] w fun e w' => e = .returned (.tuple #[]) ∧ Run w' M rv cv x2 se ∧ Below M w w' := by
  have hM := h.lt
  have hn : ¬ M = w.heap.size := by omega
  have hn' : ¬ w.heap.size = M := by omega
  have hwr := wrapEq
  have H : Hid (Run w M rv cv x se) := h
  have Ha : Hid (a.toNat < 10) := (by omega : a.toNat < 10)
  have HR : Hid (∀ w1, More w w1 → Calls Try.prog 72 #[.pointer (some ⟨M, 0, none⟩), .agg #[.int .i64 5, .int .i64 a, .int .i64 b, .int .i64 c, .int .i64 n], .int .i64 0] w1 fun e w' => e = .returned (.tuple #[.int .i64 0, .bool false]) ∧ Run w' M rv cv x2 se ∧ Below M w1 w') := hR
  clear h hR
  go_enter Try.func47, Try.ntmps47
  go_wp2
  go_region
  go_wp2_with (fail)
  refine (HR.out _ ((More.refl _).alloc _ _).drew).mono ?_
  rintro e w2 ⟨rfl, r2, b2⟩
  have H2 : Hid (Run w2 M rv cv x2 se ∧ Below M w w2) := ⟨r2, Below.trans (below_drew (below_alloc (Below.refl _ _) (Nat.le_of_lt H.out.lt) _)) b2⟩
  clear r2 b2
  go_wp2
  go_end0
  exact ⟨rfl, H2.out.1, H2.out.2⟩

set_option maxHeartbeats 400000 in
theorem do_4_not (a b c n : Int) (w : World) (M : Nat) (rv cv : Value) (x : Ms) (se : List Se) (h : Run w M rv cv x se) (a0 : 0 ≤ a) (a1 : a < 10) (x2 : Ms) (hR : ∀ w1, More w w1 → Calls Try.prog 72 #[.pointer (some ⟨M, 0, none⟩), .agg #[.int .i64 4, .int .i64 a, .int .i64 b, .int .i64 c, .int .i64 n], .int .i64 1] w1 fun e w' => e = .returned (.tuple #[.int .i64 0, .bool false]) ∧ Run w' M rv cv x2 se ∧ Below M w1 w') :
    Calls Try.prog 47 #[.pointer (some ⟨M, 0, none⟩), .agg #[.int .i64 4, .int .i64 a, .int .i64 b, .int .i64 c, .int .i64 n]] w fun e w' => e = .returned (.tuple #[]) ∧ Run w' M rv cv x2 se ∧ Below M w w' := by
  have hM := h.lt
  have hn : ¬ M = w.heap.size := by omega
  have hn' : ¬ w.heap.size = M := by omega
  have hwr := wrapEq
  have H : Hid (Run w M rv cv x se) := h
  have Ha : Hid (a.toNat < 10) := (by omega : a.toNat < 10)
  have HR : Hid (∀ w1, More w w1 → Calls Try.prog 72 #[.pointer (some ⟨M, 0, none⟩), .agg #[.int .i64 4, .int .i64 a, .int .i64 b, .int .i64 c, .int .i64 n], .int .i64 1] w1 fun e w' => e = .returned (.tuple #[.int .i64 0, .bool false]) ∧ Run w' M rv cv x2 se ∧ Below M w1 w') := hR
  clear h hR
  go_enter Try.func47, Try.ntmps47
  go_wp2
  go_region
  go_wp2_with (fail)
  refine (HR.out _ ((More.refl _).alloc _ _).drew).mono ?_
  rintro e w2 ⟨rfl, r2, b2⟩
  have H2 : Hid (Run w2 M rv cv x2 se ∧ Below M w w2) := ⟨r2, Below.trans (below_drew (below_alloc (Below.refl _ _) (Nat.le_of_lt H.out.lt) _)) b2⟩
  clear r2 b2
  go_wp2
  go_end0
  exact ⟨rfl, H2.out.1, H2.out.2⟩

set_option maxHeartbeats 400000 in
theorem do_6_not (a b c n : Int) (w : World) (M : Nat) (rv cv : Value) (x : Ms) (se : List Se) (h : Run w M rv cv x se) (a0 : 0 ≤ a) (a1 : a < 10) (x2 : Ms) (hR : ∀ w1, More w w1 → Calls Try.prog 72 #[.pointer (some ⟨M, 0, none⟩), .agg #[.int .i64 6, .int .i64 a, .int .i64 b, .int .i64 c, .int .i64 n], .int .i64 1] w1 fun e w' => e = .returned (.tuple #[.int .i64 0, .bool false]) ∧ Run w' M rv cv x2 se ∧ Below M w1 w') :
    Calls Try.prog 47 #[.pointer (some ⟨M, 0, none⟩), .agg #[.int .i64 6, .int .i64 a, .int .i64 b, .int .i64 c, .int .i64 n]] w fun e w' => e = .returned (.tuple #[]) ∧ Run w' M rv cv x2 se ∧ Below M w w' := by
  have hM := h.lt
  have hn : ¬ M = w.heap.size := by omega
  have hn' : ¬ w.heap.size = M := by omega
  have hwr := wrapEq
  have H : Hid (Run w M rv cv x se) := h
  have Ha : Hid (a.toNat < 10) := (by omega : a.toNat < 10)
  have HR : Hid (∀ w1, More w w1 → Calls Try.prog 72 #[.pointer (some ⟨M, 0, none⟩), .agg #[.int .i64 6, .int .i64 a, .int .i64 b, .int .i64 c, .int .i64 n], .int .i64 1] w1 fun e w' => e = .returned (.tuple #[.int .i64 0, .bool false]) ∧ Run w' M rv cv x2 se ∧ Below M w1 w') := hR
  clear h hR
  go_enter Try.func47, Try.ntmps47
  go_wp2
  go_region
  go_wp2_with (fail)
  refine (HR.out _ ((More.refl _).alloc _ _).drew).mono ?_
  rintro e w2 ⟨rfl, r2, b2⟩
  have H2 : Hid (Run w2 M rv cv x2 se ∧ Below M w w2) := ⟨r2, Below.trans (below_drew (below_alloc (Below.refl _ _) (Nat.le_of_lt H.out.lt) _)) b2⟩
  clear r2 b2
  go_wp2
  go_end0
  exact ⟨rfl, H2.out.1, H2.out.2⟩

set_option maxHeartbeats 400000 in
theorem do_op (op a b c n : Int) (w : World) (M : Nat) (rv cv : Value) (x : Ms) (se : List Se) (h : Run w M rv cv x se) (a0 : 0 ≤ a) (a1 : a < 10) (x2 : Ms) (se2 : List Se) (o0 : 21 ≤ op) (hR : ∀ w1, More w w1 → Calls Try.prog 74 #[.pointer (some ⟨M, 0, none⟩), .agg #[.int .i64 op, .int .i64 a, .int .i64 b, .int .i64 c, .int .i64 n]] w1 fun e w' => e = .returned (.tuple #[]) ∧ Run w' M rv cv x2 se2 ∧ Below M w1 w') :
    Calls Try.prog 47 #[.pointer (some ⟨M, 0, none⟩), .agg #[.int .i64 op, .int .i64 a, .int .i64 b, .int .i64 c, .int .i64 n]] w fun e w' => e = .returned (.tuple #[]) ∧ Run w' M rv cv x2 se2 ∧ Below M w w' := by
  have hM := h.lt
  have hn : ¬ M = w.heap.size := by omega
  have hn' : ¬ w.heap.size = M := by omega
  have hwr := wrapEq
  have H : Hid (Run w M rv cv x se) := h
  have Ha : Hid (a.toNat < 10) := (by omega : a.toNat < 10)
  have HR : Hid (∀ w1, More w w1 → Calls Try.prog 74 #[.pointer (some ⟨M, 0, none⟩), .agg #[.int .i64 op, .int .i64 a, .int .i64 b, .int .i64 c, .int .i64 n]] w1 fun e w' => e = .returned (.tuple #[]) ∧ Run w' M rv cv x2 se2 ∧ Below M w1 w') := hR
  clear h hR
  have n1 : ¬ op = 1 := by omega
  have n2 : ¬ op = 2 := by omega
  have n3 : ¬ op = 3 := by omega
  have n4 : ¬ op = 4 := by omega
  have n5 : ¬ op = 5 := by omega
  have n6 : ¬ op = 6 := by omega
  have n7 : ¬ op = 7 := by omega
  have n8 : ¬ op = 8 := by omega
  have n9 : ¬ op = 9 := by omega
  have n10 : ¬ op = 10 := by omega
  have n11 : ¬ op = 11 := by omega
  have n12 : ¬ op = 12 := by omega
  go_enter Try.func47, Try.ntmps47
  go_wp2
  go_region
  go_wp2_with (fail)
  refine (HR.out _ ((More.refl _).alloc _ _).drew).mono ?_
  rintro e w2 ⟨rfl, r2, b2⟩
  have H2 : Hid (Run w2 M rv cv x2 se2 ∧ Below M w w2) := ⟨r2, Below.trans (below_drew (below_alloc (Below.refl _ _) (Nat.le_of_lt H.out.lt) _)) b2⟩
  clear r2 b2
  go_wp2
  go_end0
  exact ⟨rfl, H2.out.1, H2.out.2⟩

end Go.Proofs.Ytbfhchhggkpbdaa

/-
  What the machine's Begin and GoesOn come to.
-/
namespace Go.Proofs.Ytbfhchhggkpbdaa
open Go.RowKit
set_option linter.unusedVariables false
set_option linter.unusedSimpArgs false
set_option maxRecDepth 8000

set_option maxHeartbeats 400000 in
theorem seq_begin (op a b c n : Int) (w : World) (M : Nat) (rv : Value) (cb co cl cc at_ : Nat) (x : Ms) (se : List Se) (hl : se.length ≤ 200000) (hnext : x.next = (at_ : Int)) (hat : at_ < cl) (hcl : cl ≤ 8000) (k0 : 0 ≤ x.steps) (k1 : x.steps ≤ 40000) (hcb : cb < M)
    (q0 : w.cell? ⟨cb, co + at_ * 5, none⟩ = some (.int .i64 op)) (q1 : w.cell? ⟨cb, co + at_ * 5 + 1, none⟩ = some (.int .i64 a)) (q2 : w.cell? ⟨cb, co + at_ * 5 + 2, none⟩ = some (.int .i64 b)) (q3 : w.cell? ⟨cb, co + at_ * 5 + 3, none⟩ = some (.int .i64 c)) (q4 : w.cell? ⟨cb, co + at_ * 5 + 4, none⟩ = some (.int .i64 n))
    (h : Run w M rv (.slice (some ⟨cb, co, none⟩) cl cc) x se) :
    Calls Try.prog 48 #[.pointer (some ⟨M, 0, none⟩)] w fun e w' => e = .returned (.agg #[.int .i64 op, .int .i64 a, .int .i64 b, .int .i64 c, .int .i64 n]) ∧ Run w' M rv (.slice (some ⟨cb, co, none⟩) cl cc) { x with steps := x.steps + 1, next := (at_ : Int) + 1 } (se ++ [⟨1, at_, 0⟩]) ∧ Below M w w' := by
  have hM := h.lt
  have hn : ¬ M = w.heap.size := by omega
  have hn' : ¬ w.heap.size = M := by omega
  have hx0 : wrap64 (x.steps + 1) = x.steps + 1 := by unfold wrap64; omega
  have hx1 : wrap64 ((at_ : Int) + 1) = (at_ : Int) + 1 := by unfold wrap64; omega
  obtain ⟨c4, f4⟩ := h.steps
  obtain ⟨c401, f401⟩ := h.next
  rw [hnext] at c401
  obtain ⟨k, hk⟩ : ∃ k, x.steps = k := ⟨_, rfl⟩
  rw [hk] at c4 hx0 ⊢
  have H : Hid (Run w M rv (.slice (some ⟨cb, co, none⟩) cl cc) x se ∧ se.length ≤ 200000 ∧ cb < M) := ⟨h, hl, hcb⟩
  have q0' : Hid (w.cell? ⟨cb, co + at_ * 5, none⟩ = some (.int .i64 op)) := q0
  have q1' : Hid (w.cell? ⟨cb, co + at_ * 5 + 1, none⟩ = some (.int .i64 a)) := q1
  have q2' : Hid (w.cell? ⟨cb, co + at_ * 5 + 2, none⟩ = some (.int .i64 b)) := q2
  have q3' : Hid (w.cell? ⟨cb, co + at_ * 5 + 3, none⟩ = some (.int .i64 c)) := q3
  have q4' : Hid (w.cell? ⟨cb, co + at_ * 5 + 4, none⟩ = some (.int .i64 n)) := q4
  have hat' : (at_ : Int) < (cl : Int) := by omega
  have hat0 : (0 : Int) ≤ (at_ : Int) := by omega
  have Hnx : Hid (x.next = (at_ : Int)) := hnext
  clear h hl hk hnext q0 q1 q2 q3 q4 k0 k1
  go_enter Try.func48, Try.ntmps48
  go_wp2_with (fail)
  refine (seq_show _ M rv (.slice (some ⟨cb, co, none⟩) cl cc) { x with steps := k + 1 } se 1 at_ 0 H.out.2.1 ((H.out.1.setSteps (k + 1)).alloc _)).mono ?_
  rintro e w2 ⟨rfl, r2, b2, kp⟩
  have kb := kp w.heap.size (by simp) (by omega) (((H.out.1.setSteps (k + 1)).notOwn w.heap.size (by simp)).of (World.cell?_of_block ((World.grownBy_alloc _ _ none).block M (by simpa using hM) (by simp))))
  have hb2 : Below M w w2 := Below.trans (below_alloc (below_put (Below.refl _ _) _ _) (by simp; omega) _) b2
  have Hr : Hid (Run w2 M rv (.slice (some ⟨cb, co, none⟩) cl cc) { x with steps := k + 1 } (se ++ [⟨1, at_, 0⟩]) ∧ Below M w w2) := ⟨r2, hb2⟩
  have q0 : w2.cell? ⟨cb, co + at_ * 5, none⟩ = some (.int .i64 op) := by rw [Below.cell hb2 H.out.2.2]; exact q0'.out
  have q1 : w2.cell? ⟨cb, co + at_ * 5 + 1, none⟩ = some (.int .i64 a) := by rw [Below.cell hb2 H.out.2.2]; exact q1'.out
  have q2 : w2.cell? ⟨cb, co + at_ * 5 + 2, none⟩ = some (.int .i64 b) := by rw [Below.cell hb2 H.out.2.2]; exact q2'.out
  have q3 : w2.cell? ⟨cb, co + at_ * 5 + 3, none⟩ = some (.int .i64 c) := by rw [Below.cell hb2 H.out.2.2]; exact q3'.out
  have q4 : w2.cell? ⟨cb, co + at_ * 5 + 4, none⟩ = some (.int .i64 n) := by rw [Below.cell hb2 H.out.2.2]; exact q4'.out
  have z : ∀ j, j < 5 → w2.cell? ⟨w.heap.size, j, none⟩ = some (.int .i64 0) ∧ w2.frozen? ⟨w.heap.size, j, none⟩ = false := by
    intro j hj
    rw [World.cell?_of_block kb.1, World.frozen?_of_block kb.1]
    have : j = 0 ∨ j = 1 ∨ j = 2 ∨ j = 3 ∨ j = 4 := by omega
    rcases this with rfl | rfl | rfl | rfl | rfl <;> exact ⟨by go_simp, by go_simp⟩
  obtain ⟨z0, g0⟩ := z 0 (by omega)
  obtain ⟨z1, g1⟩ := z 1 (by omega)
  obtain ⟨z2, g2⟩ := z 2 (by omega)
  obtain ⟨z3, g3⟩ := z 3 (by omega)
  obtain ⟨z4, g4⟩ := z 4 (by omega)
  obtain ⟨n401, m401⟩ := r2.next
  have n1 := r2.p1.1
  replace n401 : w2.cell? ⟨M, 401, none⟩ = some (.int .i64 at_) := by rw [n401]; exact congrArg (fun v => some (Value.int .i64 v)) Hnx.out
  have d1 : ¬ cb = M := by omega
  have d2 : ¬ M = cb := by omega
  have d3 : ¬ cb = w.heap.size := by omega
  have d4 : ¬ w.heap.size = cb := by omega
  have Hfin : Hid (∀ u0 u1 u2 u3 u4 : Value, Run ((((((w2.setCell ⟨M, 401, none⟩ (.int .i64 ((at_ : Int) + 1))).setCell ⟨w.heap.size, 0, none⟩ u0).setCell ⟨w.heap.size, 1, none⟩ u1).setCell ⟨w.heap.size, 2, none⟩ u2).setCell ⟨w.heap.size, 3, none⟩ u3).setCell ⟨w.heap.size, 4, none⟩ u4) M rv (.slice (some ⟨cb, co, none⟩) cl cc) { x with steps := k + 1, next := (at_ : Int) + 1 } (se ++ [⟨1, at_, 0⟩]) ∧ Below M w ((((((w2.setCell ⟨M, 401, none⟩ (.int .i64 ((at_ : Int) + 1))).setCell ⟨w.heap.size, 0, none⟩ u0).setCell ⟨w.heap.size, 1, none⟩ u1).setCell ⟨w.heap.size, 2, none⟩ u2).setCell ⟨w.heap.size, 3, none⟩ u3).setCell ⟨w.heap.size, 4, none⟩ u4)) := by
    intro u0 u1 u2 u3 u4
    have hle : M ≤ w.heap.size := by omega
    refine ⟨(((((RunA.mk (r2.setNext ((at_ : Int) + 1)) (kb.2.of (World.cell?_setCell_other _ _ _ _ (by simp))) hn' H.out.1.moLt).set 0 u0).set 1 u1).set 2 u2).set 3 u3 |>.set 4 u4).run, Below.setCell (Below.setCell (Below.setCell (Below.setCell (Below.setCell (below_put hb2 _ _) hle _) hle _) hle _) hle _) hle _⟩
  clear r2 b2 kp kb z hb2
  go_wp2
  refine bodyPost_ret (v := .agg #[.int .i64 op, .int .i64 a, .int .i64 b, .int .i64 c, .int .i64 n]) (by simp [results, Try.results48, go_sem, *]) rfl ⟨rfl, ?_⟩
  exact Hfin.out _ _ _ _ _

/-- The run goes on. -/
theorem seq_goesOn_on (w : World) (M : Nat) (rv : Value) (ca : Option Addr) (cl cc : Nat) (x : Ms) (se : List Se) (h : Run w M rv (.slice ca cl cc) x se) (he : x.ended = false) (hf : x.steps < x.fuel) (hn : x.next < (cl : Int)) :
    Calls Try.prog 46 #[.pointer (some ⟨M, 0, none⟩)] w fun e w' => e = .returned (.bool true) ∧ Run w' M rv (.slice ca cl cc) x se ∧ Below M w w' := by
  have H : Hid (Run w M rv (.slice ca cl cc) x se) := h
  have e1 := h.ended.1
  rw [he] at e1
  have Hf : Hid (∀ w1, More w w1 → Calls Try.prog 69 #[.pointer (some ⟨M, 0, none⟩)] w1 fun e w' => e = .returned (.bool true) ∧ More w1 w') := fun w1 m => by
    have := seq_hasFuel w1 M _ _ (h.more m).steps.1 (h.more m).fuel.1
    rw [decide_eq_true hf] at this
    exact this
  have Hn : Hid (∀ w1, More w w1 → Calls Try.prog 71 #[.pointer (some ⟨M, 0, none⟩)] w1 fun e w' => e = .returned (.bool true) ∧ More w1 w') := fun w1 m => by
    have := seq_hasNext w1 M _ ca cl cc (h.more m).next.1 (h.more m).p1.1
    rw [decide_eq_true hn] at this
    exact this
  clear h he hf hn
  go_enter Try.func46, Try.ntmps46
  go_wp2_with (fail)
  refine (Hf.out _ (More.refl _)).mono ?_
  rintro e w1 ⟨rfl, m1⟩
  have Hm1 : Hid (More w w1) := m1
  clear m1
  go_wp2_with (fail)
  refine (Hn.out _ Hm1.out).mono ?_
  rintro e w2 ⟨rfl, m2⟩
  have Hm2 : Hid (More w w2) := Hm1.out.trans m2
  have e2 := m2.cell (Hm1.out.cell e1)
  clear m2
  go_wp2
  go_ret
  exact ⟨rfl, H.out.more Hm2.out, Below.mono Hm2.out (Nat.le_of_lt H.out.lt)⟩

/-- The run has ended. -/
theorem seq_goesOn_over (w : World) (M : Nat) (rv cv : Value) (x : Ms) (se : List Se) (h : Run w M rv cv x se) (he : x.ended = true) :
    Calls Try.prog 46 #[.pointer (some ⟨M, 0, none⟩)] w fun e w' => e = .returned (.bool false) ∧ Run w' M rv cv x se ∧ Below M w w' := by
  have H : Hid (Run w M rv cv x se) := h
  have e1 := h.ended.1
  rw [he] at e1
  clear h he
  go_enter Try.func46, Try.ntmps46
  go_wp2
  go_ret
  exact ⟨rfl, H.out, Below.refl _ _⟩

/-- No fuel is left. -/
theorem seq_goesOn_fuel (w : World) (M : Nat) (rv cv : Value) (x : Ms) (se : List Se) (h : Run w M rv cv x se) (he : x.ended = false) (hf : ¬ x.steps < x.fuel) :
    Calls Try.prog 46 #[.pointer (some ⟨M, 0, none⟩)] w fun e w' => e = .returned (.bool false) ∧ Run w' M rv cv { x with fin := 0, ended := true } se ∧ Below M w w' := by
  have H : Hid (Run w M rv cv x se) := h
  have e1 := h.ended.1
  rw [he] at e1
  have Hf : Hid (∀ w1, More w w1 → Calls Try.prog 69 #[.pointer (some ⟨M, 0, none⟩)] w1 fun e w' => e = .returned (.bool false) ∧ More w1 w') := fun w1 m => by
    have := seq_hasFuel w1 M _ _ (h.more m).steps.1 (h.more m).fuel.1
    rw [decide_eq_false hf] at this
    exact this
  clear h he hf
  go_enter Try.func46, Try.ntmps46
  go_wp2_with (fail)
  refine (Hf.out _ (More.refl _)).mono ?_
  rintro e w1 ⟨rfl, m1⟩
  have Hm1 : Hid (More w w1) := m1
  clear m1
  go_wp2_with (fail)
  refine (seq_finish _ M rv cv x se 0 (H.out.more Hm1.out)).mono ?_
  rintro e w2 ⟨rfl, r2, b2⟩
  have H2 : Hid (Run w2 M rv cv { x with fin := 0, ended := true } se ∧ Below M w w2) := ⟨r2, Below.trans (Below.mono Hm1.out (Nat.le_of_lt H.out.lt)) b2⟩
  have e2 := r2.ended.1
  dsimp only at e2
  clear r2 b2
  go_wp2
  go_ret
  exact ⟨rfl, H2.out.1, H2.out.2⟩

/-- No instruction is left. -/
theorem seq_goesOn_next (w : World) (M : Nat) (rv : Value) (ca : Option Addr) (cl cc : Nat) (x : Ms) (se : List Se) (h : Run w M rv (.slice ca cl cc) x se) (he : x.ended = false) (hf : x.steps < x.fuel) (hn : ¬ x.next < (cl : Int)) :
    Calls Try.prog 46 #[.pointer (some ⟨M, 0, none⟩)] w fun e w' => e = .returned (.bool false) ∧ Run w' M rv (.slice ca cl cc) { x with fin := 2, ended := true } se ∧ Below M w w' := by
  have H : Hid (Run w M rv (.slice ca cl cc) x se) := h
  have e1 := h.ended.1
  rw [he] at e1
  have Hf : Hid (∀ w1, More w w1 → Calls Try.prog 69 #[.pointer (some ⟨M, 0, none⟩)] w1 fun e w' => e = .returned (.bool true) ∧ More w1 w') := fun w1 m => by
    have := seq_hasFuel w1 M _ _ (h.more m).steps.1 (h.more m).fuel.1
    rw [decide_eq_true hf] at this
    exact this
  have Hn : Hid (∀ w1, More w w1 → Calls Try.prog 71 #[.pointer (some ⟨M, 0, none⟩)] w1 fun e w' => e = .returned (.bool false) ∧ More w1 w') := fun w1 m => by
    have := seq_hasNext w1 M _ ca cl cc (h.more m).next.1 (h.more m).p1.1
    rw [decide_eq_false hn] at this
    exact this
  clear h he hf hn
  go_enter Try.func46, Try.ntmps46
  go_wp2_with (fail)
  refine (Hf.out _ (More.refl _)).mono ?_
  rintro e w1 ⟨rfl, m1⟩
  have Hm1 : Hid (More w w1) := m1
  clear m1
  go_wp2_with (fail)
  refine (Hn.out _ Hm1.out).mono ?_
  rintro e w2 ⟨rfl, m2⟩
  have Hm2 : Hid (More w w2) := Hm1.out.trans m2
  clear m2
  go_wp2_with (fail)
  refine (seq_finish _ M rv (.slice ca cl cc) x se 2 (H.out.more Hm2.out)).mono ?_
  rintro e w3 ⟨rfl, r3, b3⟩
  have H2 : Hid (Run w3 M rv (.slice ca cl cc) { x with fin := 2, ended := true } se ∧ Below M w w3) := ⟨r3, Below.trans (Below.mono Hm2.out (Nat.le_of_lt H.out.lt)) b3⟩
  have e2 := r3.ended.1
  dsimp only at e2
  clear r3 b3
  go_wp2
  go_ret
  exact ⟨rfl, H2.out.1, H2.out.2⟩
end Go.Proofs.Ytbfhchhggkpbdaa

/-
  What layout's regionsAllowed, registers, region, place, words and the like come to, called in whatever memory.
-/
namespace Go.Proofs.Ytbfhchhggkpbdaa
open Go.RowKit

set_option maxHeartbeats 400000 in
theorem regions_calls (ra : Option Addr) (rl rc : Nat) (ca : Option Addr) (cl cc : Nat) (code regs : Int) (b o : Nat) (log : Nat → Int) (sec : Nat → Bool) (w : World)
    (hra : 0 < rl → ra = some ⟨b, o, none⟩) (hr : RegsAt w b o rl log sec) :
    Calls Try.prog 40 #[.agg #[.slice ra rl rc, .slice ca cl cc, .int .i64 code, .int .i64 regs]] w (Says (RegionsOk rl log) w) := by
  by_cases h6 : 6 < rl
  · have Hr : Hid (RegsAt w b o rl log sec) := hr
    clear hr
    have h6' : (6 : Int) < (rl : Int) := by omega
    go_enter Try.func40, Try.ntmps40
    go_wp2
    go_ret
    exact Says.no (fun h => by have := h.1; omega) ((More.refl _).alloc _ _)
  · have h6' : ¬ (6 : Int) < (rl : Int) := by omega
    have Hr : Hid (RegsAt w b o rl log sec) := hr
    have Ha : Hid (0 < rl → ra = some ⟨b, o, none⟩) := hra
    clear hr hra
    go_enter Try.func40, Try.ntmps40
    go_wp2
    go_loopg [14] rl (fun g i wr => ∃ k : Nat, k + g = rl ∧ i = .int .i64 k ∧ (∀ j, j < k → 0 ≤ log j ∧ log j ≤ 6) ∧ More w wr)
    case atStart => exact ⟨0, by omega, rfl, fun j hj => by omega, (More.refl _).alloc _ _⟩
    case round =>
      obtain ⟨k, hkg, rfl, hok, m⟩ := hrel
      have Hm : Hid (More w wr ∧ ∀ j, j < k → 0 ≤ log j ∧ log j ≤ 6) := ⟨m, hok⟩
      clear m hok
      cases gk with
      | zero =>
        obtain rfl : k = rl := by omega
        go_wp2
        go_ret
        exact Says.yes ⟨by omega, Hm.out.2⟩ Hm.out.1
      | succ g =>
        have hk : k < rl := by omega
        have hk' : (k : Int) < (rl : Int) := by omega
        obtain rfl := Ha.out (by omega)
        have hc0 := ((Hr.out.more Hm.out.1) k hk).1
        have hc1 := ((Hr.out.more Hm.out.1) k hk).2
        by_cases hlo : log k < 0
        · go_wp2
          go_ret
          exact Says.no (fun h => by have := (h.2 k hk).1; omega) (by repeat (first | exact Hm.out.1 | apply More.alloc))
        · by_cases hhi : 6 < log k
          · go_wp2
            go_ret
            exact Says.no (fun h => by have := (h.2 k hk).2; omega) (by repeat (first | exact Hm.out.1 | apply More.alloc))
          · go_wp2
            go_roundg g
            case measure => omega
            case rel =>
              refine ⟨k + 1, by omega, by first | rfl | simp, fun j hj => ?_, by repeat (first | exact Hm.out.1 | apply More.alloc)⟩
              by_cases e : j = k
              · subst e; omega
              · exact Hm.out.2 j (by omega)

set_option maxHeartbeats 400000 in
theorem registers_calls (ra : Option Addr) (rl rc : Nat) (ca : Option Addr) (cl cc : Nat) (code regs : Int) (g n c : Nat) (hn : n ≤ 3) (x : Nat → Int) (w : World)
    (hx : ∀ i, i < n → w.cell? ⟨g, i, none⟩ = some (.int .i64 (x i))) :
    Calls Try.prog 100 #[.agg #[.slice ra rl rc, .slice ca cl cc, .int .i64 code, .int .i64 regs], .slice (some ⟨g, 0, none⟩) n c] w (Says (∀ i, i < n → Reg regs (x i)) w) := by
  have Hx : Hid (∀ i, i < n → w.cell? ⟨g, i, none⟩ = some (.int .i64 (x i))) := hx
  clear hx
  go_enter Try.func100, Try.ntmps100
  go_wp2
  go_loopg [9] n (fun q i wr => ∃ k : Nat, k + q = n ∧ i = .int .i64 k ∧ (∀ j, j < k → Reg regs (x j)) ∧ wr = w.alloc (.cells #[.slice ra rl rc, .slice ca cl cc, .int .i64 code, .int .i64 regs] 63))
  case atStart => exact ⟨0, by omega, rfl, fun j hj => by omega, rfl⟩
  case round =>
    obtain ⟨k, hkg, rfl, hok, rfl⟩ := hrel
    have Hok : Hid (∀ j, j < k → Reg regs (x j)) := hok
    clear hok
    cases gk with
    | zero =>
      obtain rfl : k = n := by omega
      go_wp2
      go_ret
      exact Says.yes Hok.out ((More.refl _).alloc _ _)
    | succ q =>
      have hk : k < n := by omega
      have hk' : (k : Int) < (n : Int) := by omega
      have hc0 := Hx.out k hk
      have hc := ((More.refl w).alloc #[.slice ra rl rc, .slice ca cl cc, .int .i64 code, .int .i64 regs] 63).cell hc0
      clear hc0
      by_cases hlo : x k < 0
      · go_wp2
        go_ret
        exact Says.no (fun h => by have := (h k hk).1; omega) ((More.refl _).alloc _ _)
      · by_cases hhi : regs ≤ x k
        · go_wp2
          go_ret
          exact Says.no (fun h => by have := (h k hk).2; omega) ((More.refl _).alloc _ _)
        · go_wp2
          go_roundg q
          case measure => omega
          case rel =>
            refine ⟨k + 1, by omega, by first | rfl | simp, fun j hj => ?_, rfl⟩
            by_cases e : j = k
            · subst e; exact ⟨by omega, by omega⟩
            · exact Hok.out j (by omega)

theorem region_calls (ra : Option Addr) (rl rc : Nat) (ca : Option Addr) (cl cc : Nat) (code regs : Int) (c : Int) (w : World) :
    Calls Try.prog 101 #[.agg #[.slice ra rl rc, .slice ca cl cc, .int .i64 code, .int .i64 regs], .int .i64 c] w (Says (Rgn rl c) w) := by
  by_cases h0 : 0 ≤ c
  · by_cases h1 : c < (rl : Int)
    · go_enter Try.func101, Try.ntmps101
      go_wp2
      go_ret
      exact Says.yes ⟨h0, h1⟩ ((More.refl _).alloc _ _)
    · go_enter Try.func101, Try.ntmps101
      go_wp2
      go_ret
      exact Says.no (fun h => by have := h.2; omega) ((More.refl _).alloc _ _)
  · go_enter Try.func101, Try.ntmps101
    go_wp2
    go_ret
    exact Says.no (fun h => by have := h.1; omega) ((More.refl _).alloc _ _)

theorem lay_below_calls (n e : Int) (w : World) : Calls Try.prog 102 #[.int .i64 n, .int .i64 e] w (Says (Blw n e) w) := by
  by_cases h0 : 0 ≤ n
  · by_cases h1 : n < e
    · go_enter Try.func102, Try.ntmps102
      go_wp2
      go_ret
      exact Says.yes ⟨h0, h1⟩ (More.refl _)
    · go_enter Try.func102, Try.ntmps102
      go_wp2
      go_ret
      exact Says.no (fun h => by have := h.2; omega) (More.refl _)
  · go_enter Try.func102, Try.ntmps102
    go_wp2
    go_ret
    exact Says.no (fun h => by have := h.1; omega) (More.refl _)

theorem place_calls (ra : Option Addr) (rl rc : Nat) (ca : Option Addr) (cl cc : Nat) (code regs : Int) (n : Int) (w : World) :
    Calls Try.prog 103 #[.agg #[.slice ra rl rc, .slice ca cl cc, .int .i64 code, .int .i64 regs], .int .i64 n] w (Says (Plc cl n) w) := by
  go_enter Try.func103, Try.ntmps103
  go_wp2_with (fail)
  refine (lay_below_calls _ _ _).mono ?_
  rintro e w1 ⟨r, rfl, hr, m⟩
  have Hr : Hid ((r = true ↔ Plc cl n) ∧ More w w1) := ⟨hr, ((More.refl _).alloc _ _).trans m⟩
  clear hr m
  go_wp2
  go_ret
  exact ⟨r, rfl, Hr.out.1, Hr.out.2⟩

theorem condition_calls (c : Int) (w : World) : Calls Try.prog 104 #[.int .i64 c] w (Says (Btw 1 4 c) w) := by
  by_cases h0 : 1 ≤ c
  · by_cases h1 : c ≤ 4
    · go_enter Try.func104, Try.ntmps104
      go_wp2
      go_ret
      exact Says.yes ⟨h0, h1⟩ (More.refl _)
    · go_enter Try.func104, Try.ntmps104
      go_wp2
      go_ret
      exact Says.no (fun h => by have := h.2; omega) (More.refl _)
  · go_enter Try.func104, Try.ntmps104
    go_wp2
    go_ret
    exact Says.no (fun h => by have := h.1; omega) (More.refl _)

theorem operation_calls (c : Int) (w : World) : Calls Try.prog 105 #[.int .i64 c] w (Says (Btw 21 30 c) w) := by
  by_cases h0 : 21 ≤ c
  · by_cases h1 : c ≤ 30
    · go_enter Try.func105, Try.ntmps105
      go_wp2
      go_ret
      exact Says.yes ⟨h0, h1⟩ (More.refl _)
    · go_enter Try.func105, Try.ntmps105
      go_wp2
      go_ret
      exact Says.no (fun h => by have := h.2; omega) (More.refl _)
  · go_enter Try.func105, Try.ntmps105
    go_wp2
    go_ret
    exact Says.no (fun h => by have := h.1; omega) (More.refl _)

theorem words_lit (l : Int) (h0 : 0 ≤ l) (h1 : l ≤ 6) (n : Int) (hn : n = wordsI l) (s : Bool) (w : World) :
    Calls Try.prog 41 #[.agg #[.int .i64 l, .bool s]] w fun e w' => e = .returned (.int .i64 n) ∧ More w w' := by
  have : l = 0 ∨ l = 1 ∨ l = 2 ∨ l = 3 ∨ l = 4 ∨ l = 5 ∨ l = 6 := by omega
  clear h0 h1
  rcases this with rfl | rfl | rfl | rfl | rfl | rfl | rfl
  all_goals
    simp [wordsI] at hn
    subst hn
    go_enter Try.func41, Try.ntmps41
    go_wp2
    go_ret
    exact ⟨rfl, (More.refl _).alloc _ _⟩

theorem words_calls (l : Int) (h0 : 0 ≤ l) (h1 : l ≤ 6) (s : Bool) (w : World) :
    Calls Try.prog 41 #[.agg #[.int .i64 l, .bool s]] w fun e w' => e = .returned (.int .i64 (wordsI l)) ∧ More w w' :=
  words_lit l h0 h1 _ rfl s w

end Go.Proofs.Ytbfhchhggkpbdaa

/-
  What layout's fieldsAllowed comes to, operation by operation.
-/
namespace Go.Proofs.Ytbfhchhggkpbdaa
open Go.RowKit

/-- What the named fields must be. -/
def FieldsOk (rl : Nat) (log : Nat → Int) (cl : Nat) (regs op a b c n : Int) : Prop :=
  if op = 1 then Reg regs a
  else if op = 2 then Reg regs a ∧ Reg regs b
  else if op = 3 then (Reg regs a ∧ Reg regs b) ∧ Rgn rl c
  else if op = 4 then (Reg regs a ∧ Reg regs b) ∧ Rgn rl c
  else if op = 5 then Reg regs a ∧ Rgn rl c ∧ Wrd log c n
  else if op = 6 then Reg regs a ∧ Rgn rl c ∧ Wrd log c n
  else if op = 7 then Plc cl n
  else if op = 8 then (Reg regs a ∧ Reg regs b) ∧ Btw 1 4 c ∧ Plc cl n
  else if op = 9 then Reg regs a
  else if op = 10 then Reg regs a ∧ Reg regs b
  else if op = 11 then Reg regs a ∧ Btw 1 64 n
  else if op = 12 then True
  else Btw 21 30 op ∧ Reg regs a ∧ Reg regs b ∧ Reg regs c

theorem registers1 (ra : Option Addr) (rl rc : Nat) (ca : Option Addr) (cl cc : Nat) (code regs : Int) (g c : Nat) (x : Int) (w : World) (h0 : w.cell? ⟨g, 0, none⟩ = some (.int .i64 x)) :
    Calls Try.prog 100 #[.agg #[.slice ra rl rc, .slice ca cl cc, .int .i64 code, .int .i64 regs], .slice (some ⟨g, 0, none⟩) 1 c] w (Says (Reg regs x) w) := by
  refine (registers_calls ra rl rc ca cl cc code regs g 1 c (by omega) (fun _ => x) w (fun i hi => ?_)).mono ?_
  · obtain rfl : i = 0 := by omega
    exact h0
  · rintro e w' ⟨r, rfl, hr, m⟩
    exact ⟨r, rfl, hr.trans ⟨fun h => h 0 (by omega), fun h _ _ => h⟩, m⟩

theorem registers2 (ra : Option Addr) (rl rc : Nat) (ca : Option Addr) (cl cc : Nat) (code regs : Int) (g c : Nat) (x y : Int) (w : World) (h0 : w.cell? ⟨g, 0, none⟩ = some (.int .i64 x)) (h1 : w.cell? ⟨g, 1, none⟩ = some (.int .i64 y)) :
    Calls Try.prog 100 #[.agg #[.slice ra rl rc, .slice ca cl cc, .int .i64 code, .int .i64 regs], .slice (some ⟨g, 0, none⟩) 2 c] w (Says (Reg regs x ∧ Reg regs y) w) := by
  refine (registers_calls ra rl rc ca cl cc code regs g 2 c (by omega) (fun i => if i = 0 then x else y) w (fun i hi => ?_)).mono ?_
  · have : i = 0 ∨ i = 1 := by omega
    rcases this with rfl | rfl
    · exact h0
    · exact h1
  · rintro e w' ⟨r, rfl, hr, m⟩
    refine ⟨r, rfl, hr.trans ⟨fun h => ⟨h 0 (by omega), h 1 (by omega)⟩, fun h i hi => ?_⟩, m⟩
    have : i = 0 ∨ i = 1 := by omega
    rcases this with rfl | rfl
    · exact h.1
    · exact h.2

theorem registers3 (ra : Option Addr) (rl rc : Nat) (ca : Option Addr) (cl cc : Nat) (code regs : Int) (g c : Nat) (x y z : Int) (w : World) (h0 : w.cell? ⟨g, 0, none⟩ = some (.int .i64 x)) (h1 : w.cell? ⟨g, 1, none⟩ = some (.int .i64 y)) (h2 : w.cell? ⟨g, 2, none⟩ = some (.int .i64 z)) :
    Calls Try.prog 100 #[.agg #[.slice ra rl rc, .slice ca cl cc, .int .i64 code, .int .i64 regs], .slice (some ⟨g, 0, none⟩) 3 c] w (Says (Reg regs x ∧ Reg regs y ∧ Reg regs z) w) := by
  refine (registers_calls ra rl rc ca cl cc code regs g 3 c (by omega) (fun i => if i = 0 then x else if i = 1 then y else z) w (fun i hi => ?_)).mono ?_
  · have : i = 0 ∨ i = 1 ∨ i = 2 := by omega
    rcases this with rfl | rfl | rfl
    · exact h0
    · exact h1
    · exact h2
  · rintro e w' ⟨r, rfl, hr, m⟩
    refine ⟨r, rfl, hr.trans ⟨fun h => ⟨h 0 (by omega), h 1 (by omega), h 2 (by omega)⟩, fun h i hi => ?_⟩, m⟩
    have : i = 0 ∨ i = 1 ∨ i = 2 := by omega
    rcases this with rfl | rfl | rfl
    · exact h.1
    · exact h.2.1
    · exact h.2.2

/-- The two boxes of the receiver and of the instruction, in a world that has grown since. -/
theorem boxes {w w1 : World} {x0 x1 x2 x3 y0 y1 y2 y3 y4 : Value} {t u : TypeId} (m : More ((w.alloc (.cells #[x0, x1, x2, x3] t)).alloc (.cells #[y0, y1, y2, y3, y4] u)) w1) :
    (w1.cell? ⟨w.heap.size, 0, none⟩ = some x0 ∧ w1.cell? ⟨w.heap.size, 1, none⟩ = some x1 ∧ w1.cell? ⟨w.heap.size, 2, none⟩ = some x2 ∧ w1.cell? ⟨w.heap.size, 3, none⟩ = some x3) ∧
    w1.cell? ⟨w.heap.size + 1, 0, none⟩ = some y0 ∧ w1.cell? ⟨w.heap.size + 1, 1, none⟩ = some y1 ∧ w1.cell? ⟨w.heap.size + 1, 2, none⟩ = some y2 ∧ w1.cell? ⟨w.heap.size + 1, 3, none⟩ = some y3 ∧ w1.cell? ⟨w.heap.size + 1, 4, none⟩ = some y4 := by
  refine ⟨⟨m.cell (by go_simp), m.cell (by go_simp), m.cell (by go_simp), m.cell (by go_simp)⟩, m.cell (by go_simp), m.cell (by go_simp), m.cell (by go_simp), m.cell (by go_simp), m.cell (by go_simp)⟩

theorem fields_1 (ra : Option Addr) (rl rc : Nat) (ca : Option Addr) (cl cc : Nat) (code regs : Int) (a b c n : Int) (w : World) :
    Calls Try.prog 90 #[.agg #[.slice ra rl rc, .slice ca cl cc, .int .i64 code, .int .i64 regs], .agg #[.int .i64 1, .int .i64 a, .int .i64 b, .int .i64 c, .int .i64 n]] w (Says (Reg regs a) w) := by
  go_enter Try.func90, Try.ntmps90
  go_wp2_with (fail)
  refine (registers1 ra rl rc ca cl cc code regs _ _ a _ (by go_simp)).mono ?_
  rintro e w1 ⟨r, rfl, hr, m⟩
  have Hr : Hid ((r = true ↔ Reg regs a) ∧ More w w1) := ⟨hr, ((((More.refl _).alloc _ _).alloc _ _).alloc _ _).trans m⟩
  clear hr m
  go_wp2
  go_ret
  exact ⟨r, rfl, Hr.out.1, Hr.out.2⟩

theorem fields_9 (ra : Option Addr) (rl rc : Nat) (ca : Option Addr) (cl cc : Nat) (code regs : Int) (a b c n : Int) (w : World) :
    Calls Try.prog 90 #[.agg #[.slice ra rl rc, .slice ca cl cc, .int .i64 code, .int .i64 regs], .agg #[.int .i64 9, .int .i64 a, .int .i64 b, .int .i64 c, .int .i64 n]] w (Says (Reg regs a) w) := by
  go_enter Try.func90, Try.ntmps90
  go_wp2_with (fail)
  refine (registers1 ra rl rc ca cl cc code regs _ _ a _ (by go_simp)).mono ?_
  rintro e w1 ⟨r, rfl, hr, m⟩
  have Hr : Hid ((r = true ↔ Reg regs a) ∧ More w w1) := ⟨hr, ((((More.refl _).alloc _ _).alloc _ _).alloc _ _).trans m⟩
  clear hr m
  go_wp2
  go_ret
  exact ⟨r, rfl, Hr.out.1, Hr.out.2⟩

theorem fields_2 (ra : Option Addr) (rl rc : Nat) (ca : Option Addr) (cl cc : Nat) (code regs : Int) (a b c n : Int) (w : World) :
    Calls Try.prog 90 #[.agg #[.slice ra rl rc, .slice ca cl cc, .int .i64 code, .int .i64 regs], .agg #[.int .i64 2, .int .i64 a, .int .i64 b, .int .i64 c, .int .i64 n]] w (Says (Reg regs a ∧ Reg regs b) w) := by
  go_enter Try.func90, Try.ntmps90
  go_wp2_with (fail)
  refine (registers2 ra rl rc ca cl cc code regs _ _ a b _ (by go_simp) (by go_simp)).mono ?_
  rintro e w1 ⟨r, rfl, hr, m⟩
  have Hr : Hid ((r = true ↔ Reg regs a ∧ Reg regs b) ∧ More w w1) := ⟨hr, ((((More.refl _).alloc _ _).alloc _ _).alloc _ _).trans m⟩
  clear hr m
  go_wp2
  go_ret
  exact ⟨r, rfl, Hr.out.1, Hr.out.2⟩

theorem fields_10 (ra : Option Addr) (rl rc : Nat) (ca : Option Addr) (cl cc : Nat) (code regs : Int) (a b c n : Int) (w : World) :
    Calls Try.prog 90 #[.agg #[.slice ra rl rc, .slice ca cl cc, .int .i64 code, .int .i64 regs], .agg #[.int .i64 10, .int .i64 a, .int .i64 b, .int .i64 c, .int .i64 n]] w (Says (Reg regs a ∧ Reg regs b) w) := by
  go_enter Try.func90, Try.ntmps90
  go_wp2_with (fail)
  refine (registers2 ra rl rc ca cl cc code regs _ _ a b _ (by go_simp) (by go_simp)).mono ?_
  rintro e w1 ⟨r, rfl, hr, m⟩
  have Hr : Hid ((r = true ↔ Reg regs a ∧ Reg regs b) ∧ More w w1) := ⟨hr, ((((More.refl _).alloc _ _).alloc _ _).alloc _ _).trans m⟩
  clear hr m
  go_wp2
  go_ret
  exact ⟨r, rfl, Hr.out.1, Hr.out.2⟩

theorem fields_3 (ra : Option Addr) (rl rc : Nat) (ca : Option Addr) (cl cc : Nat) (code regs : Int) (a b c n : Int) (w : World) :
    Calls Try.prog 90 #[.agg #[.slice ra rl rc, .slice ca cl cc, .int .i64 code, .int .i64 regs], .agg #[.int .i64 3, .int .i64 a, .int .i64 b, .int .i64 c, .int .i64 n]] w (Says ((Reg regs a ∧ Reg regs b) ∧ Rgn rl c) w) := by
  go_enter Try.func90, Try.ntmps90
  go_wp2_with (fail)
  refine (registers2 ra rl rc ca cl cc code regs _ _ a b _ (by go_simp) (by go_simp)).mono ?_
  rintro e w1 ⟨r, rfl, hr, m⟩
  obtain ⟨⟨c0, c1, c2, c3⟩, d0, d1, d2, d3, d4⟩ := boxes (((More.refl _).alloc _ _).trans m)
  have m' := ((((More.refl _).alloc _ _).alloc _ _).alloc _ _).trans m
  have Hm : Hid (More w w1) := m'
  clear m m'
  cases r with
  | false =>
    have Hr : Hid (¬ (Reg regs a ∧ Reg regs b)) := fun h => by simpa using hr.2 h
    clear hr
    go_wp2
    go_ret
    exact Says.no (fun h => Hr.out h.1) Hm.out
  | true =>
    have Hr : Hid (Reg regs a ∧ Reg regs b) := hr.1 rfl
    clear hr
    go_wp2_with (fail)
    refine (region_calls ra rl rc ca cl cc code regs c _).mono ?_
    rintro e w2 ⟨r2, rfl, hr2, m2⟩
    have H2 : Hid ((r2 = true ↔ Rgn rl c) ∧ More w1 w2) := ⟨hr2, m2⟩
    clear hr2 m2
    go_wp2
    go_ret
    exact ⟨r2, rfl, H2.out.1.trans ⟨fun h => ⟨Hr.out, h⟩, fun h => h.2⟩, Hm.out.trans H2.out.2⟩

theorem fields_4 (ra : Option Addr) (rl rc : Nat) (ca : Option Addr) (cl cc : Nat) (code regs : Int) (a b c n : Int) (w : World) :
    Calls Try.prog 90 #[.agg #[.slice ra rl rc, .slice ca cl cc, .int .i64 code, .int .i64 regs], .agg #[.int .i64 4, .int .i64 a, .int .i64 b, .int .i64 c, .int .i64 n]] w (Says ((Reg regs a ∧ Reg regs b) ∧ Rgn rl c) w) := by
  go_enter Try.func90, Try.ntmps90
  go_wp2_with (fail)
  refine (registers2 ra rl rc ca cl cc code regs _ _ a b _ (by go_simp) (by go_simp)).mono ?_
  rintro e w1 ⟨r, rfl, hr, m⟩
  obtain ⟨⟨c0, c1, c2, c3⟩, d0, d1, d2, d3, d4⟩ := boxes (((More.refl _).alloc _ _).trans m)
  have m' := ((((More.refl _).alloc _ _).alloc _ _).alloc _ _).trans m
  have Hm : Hid (More w w1) := m'
  clear m m'
  cases r with
  | false =>
    have Hr : Hid (¬ (Reg regs a ∧ Reg regs b)) := fun h => by simpa using hr.2 h
    clear hr
    go_wp2
    go_ret
    exact Says.no (fun h => Hr.out h.1) Hm.out
  | true =>
    have Hr : Hid (Reg regs a ∧ Reg regs b) := hr.1 rfl
    clear hr
    go_wp2_with (fail)
    refine (region_calls ra rl rc ca cl cc code regs c _).mono ?_
    rintro e w2 ⟨r2, rfl, hr2, m2⟩
    have H2 : Hid ((r2 = true ↔ Rgn rl c) ∧ More w1 w2) := ⟨hr2, m2⟩
    clear hr2 m2
    go_wp2
    go_ret
    exact ⟨r2, rfl, H2.out.1.trans ⟨fun h => ⟨Hr.out, h⟩, fun h => h.2⟩, Hm.out.trans H2.out.2⟩

theorem fields_7 (ra : Option Addr) (rl rc : Nat) (ca : Option Addr) (cl cc : Nat) (code regs : Int) (a b c n : Int) (w : World) :
    Calls Try.prog 90 #[.agg #[.slice ra rl rc, .slice ca cl cc, .int .i64 code, .int .i64 regs], .agg #[.int .i64 7, .int .i64 a, .int .i64 b, .int .i64 c, .int .i64 n]] w (Says (Plc cl n) w) := by
  go_enter Try.func90, Try.ntmps90
  go_wp2_with (fail)
  refine (place_calls ra rl rc ca cl cc code regs n _).mono ?_
  rintro e w1 ⟨r, rfl, hr, m⟩
  have Hr : Hid ((r = true ↔ Plc cl n) ∧ More w w1) := ⟨hr, (((More.refl _).alloc _ _).alloc _ _).trans m⟩
  clear hr m
  go_wp2
  go_ret
  exact ⟨r, rfl, Hr.out.1, Hr.out.2⟩

theorem fields_8 (ra : Option Addr) (rl rc : Nat) (ca : Option Addr) (cl cc : Nat) (code regs : Int) (a b c n : Int) (w : World) :
    Calls Try.prog 90 #[.agg #[.slice ra rl rc, .slice ca cl cc, .int .i64 code, .int .i64 regs], .agg #[.int .i64 8, .int .i64 a, .int .i64 b, .int .i64 c, .int .i64 n]] w (Says ((Reg regs a ∧ Reg regs b) ∧ Btw 1 4 c ∧ Plc cl n) w) := by
  go_enter Try.func90, Try.ntmps90
  go_wp2_with (fail)
  refine (registers2 ra rl rc ca cl cc code regs _ _ a b _ (by go_simp) (by go_simp)).mono ?_
  rintro e w1 ⟨r, rfl, hr, m⟩
  obtain ⟨⟨c0, c1, c2, c3⟩, d0, d1, d2, d3, d4⟩ := boxes (((More.refl _).alloc _ _).trans m)
  have m' := ((((More.refl _).alloc _ _).alloc _ _).alloc _ _).trans m
  have Hm : Hid (More w w1) := m'
  clear m m'
  cases r with
  | false =>
    have Hr : Hid (¬ (Reg regs a ∧ Reg regs b)) := fun h => by simpa using hr.2 h
    clear hr
    go_wp2
    go_ret
    exact Says.no (fun h => Hr.out h.1) Hm.out
  | true =>
    have Hr : Hid (Reg regs a ∧ Reg regs b) := hr.1 rfl
    clear hr
    go_wp2_with (fail)
    refine (condition_calls c _).mono ?_
    rintro e w2 ⟨r2, rfl, hr2, m2⟩
    have e0 := m2.cell c0
    have e1 := m2.cell c1
    have e2 := m2.cell c2
    have e3 := m2.cell c3
    have e4 := m2.cell d4
    clear c0 c1 c2 c3 d0 d1 d2 d3 d4
    have H2m : Hid (More w1 w2) := m2
    clear m2
    cases r2 with
    | false =>
      have H2 : Hid (¬ Btw 1 4 c) := fun h => by simpa using hr2.2 h
      clear hr2
      go_wp2
      go_ret
      exact Says.no (fun h => H2.out h.2.1) (Hm.out.trans H2m.out)
    | true =>
      have H2 : Hid (Btw 1 4 c) := hr2.1 rfl
      clear hr2
      go_wp2_with (fail)
      refine (place_calls ra rl rc ca cl cc code regs n _).mono ?_
      rintro e w3 ⟨r3, rfl, hr3, m3⟩
      have H3 : Hid ((r3 = true ↔ Plc cl n) ∧ More w2 w3) := ⟨hr3, m3⟩
      clear hr3 m3
      go_wp2
      go_ret
      exact ⟨r3, rfl, H3.out.1.trans ⟨fun h => ⟨Hr.out, H2.out, h⟩, fun h => h.2.2⟩, (Hm.out.trans H2m.out).trans H3.out.2⟩

theorem fields_11 (ra : Option Addr) (rl rc : Nat) (ca : Option Addr) (cl cc : Nat) (code regs : Int) (a b c n : Int) (w : World) :
    Calls Try.prog 90 #[.agg #[.slice ra rl rc, .slice ca cl cc, .int .i64 code, .int .i64 regs], .agg #[.int .i64 11, .int .i64 a, .int .i64 b, .int .i64 c, .int .i64 n]] w (Says (Reg regs a ∧ Btw 1 64 n) w) := by
  go_enter Try.func90, Try.ntmps90
  go_wp2_with (fail)
  refine (registers1 ra rl rc ca cl cc code regs _ _ a _ (by go_simp)).mono ?_
  rintro e w1 ⟨r, rfl, hr, m⟩
  obtain ⟨⟨c0, c1, c2, c3⟩, d0, d1, d2, d3, d4⟩ := boxes (((More.refl _).alloc _ _).trans m)
  have m' := ((((More.refl _).alloc _ _).alloc _ _).alloc _ _).trans m
  have Hm : Hid (More w w1) := m'
  clear m m'
  cases r with
  | false =>
    have Hr : Hid (¬ (Reg regs a)) := fun h => by simpa using hr.2 h
    clear hr
    go_wp2
    go_ret
    exact Says.no (fun h => Hr.out h.1) Hm.out
  | true =>
    have Hr : Hid (Reg regs a) := hr.1 rfl
    clear hr
    by_cases h0 : 1 ≤ n
    · by_cases h1 : n ≤ 64
      · go_wp2
        go_ret
        exact Says.yes ⟨Hr.out, h0, h1⟩ Hm.out
      · go_wp2
        go_ret
        exact ⟨_, rfl, ⟨fun h => by simp at h <;> omega, fun h => by have := h.2.2; omega⟩, Hm.out⟩
    · go_wp2
      go_ret
      exact Says.no (fun h => by have := h.2.1; omega) Hm.out

theorem fields_12 (ra : Option Addr) (rl rc : Nat) (ca : Option Addr) (cl cc : Nat) (code regs : Int) (a b c n : Int) (w : World) :
    Calls Try.prog 90 #[.agg #[.slice ra rl rc, .slice ca cl cc, .int .i64 code, .int .i64 regs], .agg #[.int .i64 12, .int .i64 a, .int .i64 b, .int .i64 c, .int .i64 n]] w (Says (True) w) := by
  go_enter Try.func90, Try.ntmps90
  go_wp2
  go_ret
  exact Says.yes trivial (((More.refl _).alloc _ _).alloc _ _)

theorem fields_else (ra : Option Addr) (rl rc : Nat) (ca : Option Addr) (cl cc : Nat) (code regs : Int) (op a b c n : Int) (h1 : ¬ op = 1) (h2 : ¬ op = 2) (h3 : ¬ op = 3) (h4 : ¬ op = 4) (h5 : ¬ op = 5) (h6 : ¬ op = 6) (h7 : ¬ op = 7) (h8 : ¬ op = 8) (h9 : ¬ op = 9) (h10 : ¬ op = 10) (h11 : ¬ op = 11) (h12 : ¬ op = 12) (w : World) :
    Calls Try.prog 90 #[.agg #[.slice ra rl rc, .slice ca cl cc, .int .i64 code, .int .i64 regs], .agg #[.int .i64 op, .int .i64 a, .int .i64 b, .int .i64 c, .int .i64 n]] w (Says (Btw 21 30 op ∧ Reg regs a ∧ Reg regs b ∧ Reg regs c) w) := by
  go_enter Try.func90, Try.ntmps90
  go_wp2_with (fail)
  clear h1 h2 h3 h4 h5 h6 h7 h8 h9 h10 h11 h12
  refine (operation_calls op _).mono ?_
  rintro e w1 ⟨r, rfl, hr, m⟩
  obtain ⟨⟨c0, c1, c2, c3⟩, d0, d1, d2, d3, d4⟩ := boxes m
  have Hm : Hid (More w w1) := (((More.refl _).alloc _ _).alloc _ _).trans m
  clear m
  cases r with
  | false =>
    have Hr : Hid (¬ (Btw 21 30 op)) := fun h => by simpa using hr.2 h
    clear hr
    go_wp2
    go_ret
    exact Says.no (fun h => Hr.out h.1) Hm.out
  | true =>
    have Hr : Hid (Btw 21 30 op) := hr.1 rfl
    clear hr
    go_wp2_with (fail)
    refine (registers3 ra rl rc ca cl cc code regs _ _ a b c _ (by go_simp) (by go_simp) (by go_simp)).mono ?_
    rintro e w2 ⟨r2, rfl, hr2, m2⟩
    have H2 : Hid ((r2 = true ↔ Reg regs a ∧ Reg regs b ∧ Reg regs c) ∧ More w1 w2) := ⟨hr2, ((More.refl _).alloc _ _).trans m2⟩
    clear hr2 m2
    go_wp2
    go_ret
    exact ⟨r2, rfl, H2.out.1.trans ⟨fun h => ⟨Hr.out, h⟩, fun h => h.2⟩, Hm.out.trans H2.out.2⟩

end Go.Proofs.Ytbfhchhggkpbdaa
