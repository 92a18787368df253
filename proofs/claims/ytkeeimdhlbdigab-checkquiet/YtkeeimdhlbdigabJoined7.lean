/-
  The texts Bitwise, Shift, Divide, Ref, RefStep, RefMore, one behind the other.
-/
import Derived.Test.YtkeeimdhlbdigabJoined6
import Derived.RegionTactic
import Derived.ChangeAlike
import Derived.Test.YtkeeimdhlbdigabRows
import Derived.WalkKit
import Derived.Deep.LoopGhost
import Derived.Test.YtkeeimdhlbdigabJoined1
import Derived.Test.YtkeeimdhlbdigabJoined0
import Derived.Test.YtkeeimdhlbdigabJoined5

/-
  What a call of evenkeelref1.bitwise does, for each of its three operations.
-/
namespace Go.Proofs.Ytkeeimdhlbdigab
open Go.RowKit

theorem bits_cells (a : Int) (h0 : -9223372036854775808 ≤ a) (h1 : a ≤ 9223372036854775807) (w : World) :
    Calls Try.prog 83 #[.int .i64 a] w fun e w' => ∃ c, e = .returned (.agg c) ∧ Hid (c = arr (fun i => (toU a).testBit i)) ∧ More w w' :=
  (bits_calls a h0 h1 w).mono fun _ _ h => ⟨_, h.1, rfl, h.2⟩

theorem info_of {c : Array Value} {f : Nat → Bool} (h : Hid (c = arr f)) : (Try.prog.info? 130).map (·.size) = some c.size := by rw [h.out]; exact info_arr f
theorem size_of {c : Array Value} {f : Nat → Bool} (h : Hid (c = arr f)) : 64 = c.size := by rw [h.out, arr_size]
theorem one_of {c : Array Value} {f : Nat → Bool} (h : Hid (c = arr f)) : c.all (·.oneCell') = true := by rw [h.out]; exact arr_one f
theorem get_of {c : Array Value} {f : Nat → Bool} (h : Hid (c = arr f)) (i : Nat) (hi : i < 64) : c[i]? = some (.bool (f i)) := by rw [h.out]; exact arr_get f i hi

/-- Three arrays of 64 bools, of which the last is the call's own to write. -/
structure St3 (w : World) (B1 B2 B3 : Nat) (c1 c2 c3 : Array Value) (wr : World) : Prop where
  one : wr.heap[B1]? = some (.cells c1 130 (0, 0))
  two : wr.heap[B2]? = some (.cells c2 130 (0, 0))
  three : wr.heap[B3]? = some (.cells c3 130 (0, 0))
  more : More w wr
  new : w.heap.size ≤ B3
  apart1 : B1 ≠ B3
  apart2 : B2 ≠ B3

theorem St3.set {w wr : World} {B1 B2 B3 : Nat} {c1 c2 c3 c4 : Array Value} (h : St3 w B1 B2 B3 c1 c2 c3 wr) (k : Nat) (v : Value) (e : c3.setIfInBounds k v = c4) :
    St3 w B1 B2 B3 c1 c2 c4 (wr.setCell ⟨B3, k, none⟩ v) := by
  subst e
  exact ⟨(heap_setCell_other _ _ _ _ h.apart1).trans h.one, (heap_setCell_other _ _ _ _ h.apart2).trans h.two, heap_setCell_same _ _ _ _ _ _ h.three, h.more.setCell h.new v, h.new, h.apart1, h.apart2⟩
theorem St3.drew {w wr : World} {B1 B2 B3 : Nat} {c1 c2 c3 : Array Value} (h : St3 w B1 B2 B3 c1 c2 c3 wr) : St3 w B1 B2 B3 c1 c2 c3 wr.drew :=
  ⟨h.one, h.two, h.three, h.more.drew, h.new, h.apart1, h.apart2⟩

theorem part_lit (u : Nat) : part u 0 = #[.bool false, .bool false, .bool false, .bool false, .bool false, .bool false, .bool false, .bool false, .bool false, .bool false, .bool false, .bool false, .bool false, .bool false, .bool false, .bool false, .bool false, .bool false, .bool false, .bool false, .bool false, .bool false, .bool false, .bool false, .bool false, .bool false, .bool false, .bool false, .bool false, .bool false, .bool false, .bool false, .bool false, .bool false, .bool false, .bool false, .bool false, .bool false, .bool false, .bool false, .bool false, .bool false, .bool false, .bool false, .bool false, .bool false, .bool false, .bool false, .bool false, .bool false, .bool false, .bool false, .bool false, .bool false, .bool false, .bool false, .bool false, .bool false, .bool false, .bool false, .bool false, .bool false, .bool false, .bool false] := (part_zero u).trans rfl

theorem St3.start {w w1 w2 : World} {c1 c2 c3 : Array Value} (m1 : More w w1) (m2 : More (w1.alloc (.cells c1 130)) w2) :
    St3 w w1.heap.size w2.heap.size (w2.heap.size + 1) c1 c2 c3 ((w2.alloc (.cells c2 130)).alloc (.cells c3 130)) := by
  have s1 : (w1.alloc (.cells c1 130)).heap.size = w1.heap.size + 1 := by simp
  have s2 : (w2.alloc (.cells c2 130)).heap.size = w2.heap.size + 1 := by simp
  have s3 := m2.size
  have s4 := m1.size
  refine ⟨?_, ?_, ?_, (((m1.alloc c1 130).trans m2).alloc c2 130).alloc c3 130, by omega, by omega, by omega⟩
  · rw [Below.heap_alloc _ _ _ (by omega), Below.heap_alloc _ _ _ (by omega), m2.block _ (by omega)]; exact heap_alloc_last _ _
  · rw [Below.heap_alloc _ _ _ (by omega)]; exact heap_alloc_last _ _
  · rw [← s2]; exact heap_alloc_last _ _

theorem of_num (U : Nat) (h : U < 18446744073709551616) (w : World) :
    Calls Try.prog 93 #[.agg (arr (fun i => U.testBit i))] w fun e w' => e = .returned (.int .i64 (wrap64 (U : Int))) ∧ More w w' := by
  have := of_calls (fun i => U.testBit i) w
  rw [val_all U h] at this
  exact this

set_option maxHeartbeats 1000000 in
theorem bitwise_and (a b : Int) (U : Nat) (a0 : -9223372036854775808 ≤ a) (a1 : a ≤ 9223372036854775807) (b0 : -9223372036854775808 ≤ b) (b1 : b ≤ 9223372036854775807)
    (hU : Hid (U < 18446744073709551616)) (hB : Hid (∀ k, U.testBit k = ((toU a).testBit k && (toU b).testBit k))) (w : World) :
    Calls Try.prog 82 #[.int .i64 4, .int .i64 a, .int .i64 b] w fun e w' => e = .returned (.int .i64 (wrap64 (U : Int))) ∧ More w w' := by
  go_enter Try.func82, Try.ntmps82
  go_wp2_with (fail)
  refine (bits_cells a a0 a1 _).mono ?_
  rintro e w1 ⟨cx, rfl, hx, m1⟩
  go_wp2_with (refine wpList_store_row rfl 130 (.tmp 7) (.tmp 12) rfl _ _ rfl rfl 130 _ (heap_alloc_last _ _) (info_of hx) (size_of hx) (one_of hx) ?_; rw [World.setRow_alloc_new])
  refine (bits_cells b b0 b1 _).mono ?_
  rintro e w2 ⟨cy, rfl, hy, m2⟩
  go_wp2_with (refine wpList_store_row rfl 130 (.tmp 8) (.tmp 14) rfl _ _ rfl rfl 130 _ (heap_alloc_last _ _) (info_of hy) (size_of hy) (one_of hy) ?_; rw [World.setRow_alloc_new])
  have H0 := St3.start (c2 := cy) (c3 := part U 0) m1 m2
  go_loopg [10] 64 (fun g i wr => ∃ (k : Nat), k + g = 64 ∧ i = .int .i64 k ∧ St3 w w1.heap.size w2.heap.size (w2.heap.size + 1) cx cy (part U k) wr)
  case atStart =>
    refine ⟨0, by omega, rfl, ?_⟩
    rw [part_lit] at H0 ⊢
    exact H0
  case round =>
    obtain ⟨k, hkg, rfl, hst⟩ := hrel
    clear H0 m1 m2
    cases gk with
    | zero =>
      obtain rfl : k = 64 := by omega
      have hg := hst.three
      have hm := hst.more
      rw [part_all] at hg
      clear hst
      go_wp2_with (refine wpList_load_row rfl 130 (.tmp 9) rfl _ rfl 130 _ (0, 0) _ hg Try.underlying130 rfl (info_arr _) ?_)
      refine (of_num U hU.out _).mono ?_
      rintro e w3 ⟨rfl, m3⟩
      go_wp2
      go_ret
      exact ⟨rfl, hm.trans m3⟩
    | succ g =>
      have hk : k < 64 := by omega
      have hk' : (k : Int) < 64 := by omega
      have hb := hB.out k
      obtain ⟨x, ex⟩ : ∃ x, (toU a).testBit k = x := ⟨_, rfl⟩
      obtain ⟨y, ey⟩ : ∃ y, (toU b).testBit k = y := ⟨_, rfl⟩
      have c1 : wr.cell? ⟨w1.heap.size, k, none⟩ = some (.bool x) := by rw [cell_of_row _ _ _ _ _ _ hst.one, get_of hx k hk, ex]
      have c2 : wr.cell? ⟨w2.heap.size, k, none⟩ = some (.bool y) := by rw [cell_of_row _ _ _ _ _ _ hst.two, get_of hy k hk, ey]
      have c3 : wr.cell? ⟨w2.heap.size + 1, k, none⟩ = some (.bool false) := by rw [cell_of_row _ _ _ _ _ _ hst.three]; unfold part; rw [arr_get _ _ hk]; simp
      have f3 : wr.frozen? ⟨w2.heap.size + 1, k, none⟩ = false := frozen_of_row _ _ _ _ _ hst.three
      rw [ex, ey] at hb
      have Hb : Hid (U.testBit k = (x && y)) := hb
      have Hst : Hid (St3 w w1.heap.size w2.heap.size (w2.heap.size + 1) cx cy (part U k) wr) := hst
      clear hb ex ey hst
      cases x <;> cases y
      all_goals
        go_wp2
        go_roundg g
        case measure => omega
        case rel => exact ⟨k + 1, by omega, by first | rfl | simp, Hst.out.set k _ (part_next _ k _ Hb.out)⟩

set_option maxHeartbeats 1000000 in
theorem bitwise_or (a b : Int) (U : Nat) (a0 : -9223372036854775808 ≤ a) (a1 : a ≤ 9223372036854775807) (b0 : -9223372036854775808 ≤ b) (b1 : b ≤ 9223372036854775807)
    (hU : Hid (U < 18446744073709551616)) (hB : Hid (∀ k, U.testBit k = ((toU a).testBit k || (toU b).testBit k))) (w : World) :
    Calls Try.prog 82 #[.int .i64 5, .int .i64 a, .int .i64 b] w fun e w' => e = .returned (.int .i64 (wrap64 (U : Int))) ∧ More w w' := by
  go_enter Try.func82, Try.ntmps82
  go_wp2_with (fail)
  refine (bits_cells a a0 a1 _).mono ?_
  rintro e w1 ⟨cx, rfl, hx, m1⟩
  go_wp2_with (refine wpList_store_row rfl 130 (.tmp 7) (.tmp 12) rfl _ _ rfl rfl 130 _ (heap_alloc_last _ _) (info_of hx) (size_of hx) (one_of hx) ?_; rw [World.setRow_alloc_new])
  refine (bits_cells b b0 b1 _).mono ?_
  rintro e w2 ⟨cy, rfl, hy, m2⟩
  go_wp2_with (refine wpList_store_row rfl 130 (.tmp 8) (.tmp 14) rfl _ _ rfl rfl 130 _ (heap_alloc_last _ _) (info_of hy) (size_of hy) (one_of hy) ?_; rw [World.setRow_alloc_new])
  have H0 := St3.start (c2 := cy) (c3 := part U 0) m1 m2
  go_loopg [10] 64 (fun g i wr => ∃ (k : Nat), k + g = 64 ∧ i = .int .i64 k ∧ St3 w w1.heap.size w2.heap.size (w2.heap.size + 1) cx cy (part U k) wr)
  case atStart =>
    refine ⟨0, by omega, rfl, ?_⟩
    rw [part_lit] at H0 ⊢
    exact H0
  case round =>
    obtain ⟨k, hkg, rfl, hst⟩ := hrel
    clear H0 m1 m2
    cases gk with
    | zero =>
      obtain rfl : k = 64 := by omega
      have hg := hst.three
      have hm := hst.more
      rw [part_all] at hg
      clear hst
      go_wp2_with (refine wpList_load_row rfl 130 (.tmp 9) rfl _ rfl 130 _ (0, 0) _ hg Try.underlying130 rfl (info_arr _) ?_)
      refine (of_num U hU.out _).mono ?_
      rintro e w3 ⟨rfl, m3⟩
      go_wp2
      go_ret
      exact ⟨rfl, hm.trans m3⟩
    | succ g =>
      have hk : k < 64 := by omega
      have hk' : (k : Int) < 64 := by omega
      have hb := hB.out k
      obtain ⟨x, ex⟩ : ∃ x, (toU a).testBit k = x := ⟨_, rfl⟩
      obtain ⟨y, ey⟩ : ∃ y, (toU b).testBit k = y := ⟨_, rfl⟩
      have c1 : wr.cell? ⟨w1.heap.size, k, none⟩ = some (.bool x) := by rw [cell_of_row _ _ _ _ _ _ hst.one, get_of hx k hk, ex]
      have c2 : wr.cell? ⟨w2.heap.size, k, none⟩ = some (.bool y) := by rw [cell_of_row _ _ _ _ _ _ hst.two, get_of hy k hk, ey]
      have c3 : wr.cell? ⟨w2.heap.size + 1, k, none⟩ = some (.bool false) := by rw [cell_of_row _ _ _ _ _ _ hst.three]; unfold part; rw [arr_get _ _ hk]; simp
      have f3 : wr.frozen? ⟨w2.heap.size + 1, k, none⟩ = false := frozen_of_row _ _ _ _ _ hst.three
      rw [ex, ey] at hb
      have Hb : Hid (U.testBit k = (x || y)) := hb
      have Hst : Hid (St3 w w1.heap.size w2.heap.size (w2.heap.size + 1) cx cy (part U k) wr) := hst
      clear hb ex ey hst
      cases x <;> cases y
      all_goals
        go_wp2
        go_roundg g
        case measure => omega
        case rel => exact ⟨k + 1, by omega, by first | rfl | simp, Hst.out.set k _ (part_next _ k _ Hb.out)⟩

set_option maxHeartbeats 1000000 in
theorem bitwise_xor (a b : Int) (U : Nat) (a0 : -9223372036854775808 ≤ a) (a1 : a ≤ 9223372036854775807) (b0 : -9223372036854775808 ≤ b) (b1 : b ≤ 9223372036854775807)
    (hU : Hid (U < 18446744073709551616)) (hB : Hid (∀ k, U.testBit k = ((toU a).testBit k ^^ (toU b).testBit k))) (w : World) :
    Calls Try.prog 82 #[.int .i64 6, .int .i64 a, .int .i64 b] w fun e w' => e = .returned (.int .i64 (wrap64 (U : Int))) ∧ More w w' := by
  go_enter Try.func82, Try.ntmps82
  go_wp2_with (fail)
  refine (bits_cells a a0 a1 _).mono ?_
  rintro e w1 ⟨cx, rfl, hx, m1⟩
  go_wp2_with (refine wpList_store_row rfl 130 (.tmp 7) (.tmp 12) rfl _ _ rfl rfl 130 _ (heap_alloc_last _ _) (info_of hx) (size_of hx) (one_of hx) ?_; rw [World.setRow_alloc_new])
  refine (bits_cells b b0 b1 _).mono ?_
  rintro e w2 ⟨cy, rfl, hy, m2⟩
  go_wp2_with (refine wpList_store_row rfl 130 (.tmp 8) (.tmp 14) rfl _ _ rfl rfl 130 _ (heap_alloc_last _ _) (info_of hy) (size_of hy) (one_of hy) ?_; rw [World.setRow_alloc_new])
  have H0 := St3.start (c2 := cy) (c3 := part U 0) m1 m2
  go_loopg [10] 64 (fun g i wr => ∃ (k : Nat), k + g = 64 ∧ i = .int .i64 k ∧ St3 w w1.heap.size w2.heap.size (w2.heap.size + 1) cx cy (part U k) wr)
  case atStart =>
    refine ⟨0, by omega, rfl, ?_⟩
    rw [part_lit] at H0 ⊢
    exact H0
  case round =>
    obtain ⟨k, hkg, rfl, hst⟩ := hrel
    clear H0 m1 m2
    cases gk with
    | zero =>
      obtain rfl : k = 64 := by omega
      have hg := hst.three
      have hm := hst.more
      rw [part_all] at hg
      clear hst
      go_wp2_with (refine wpList_load_row rfl 130 (.tmp 9) rfl _ rfl 130 _ (0, 0) _ hg Try.underlying130 rfl (info_arr _) ?_)
      refine (of_num U hU.out _).mono ?_
      rintro e w3 ⟨rfl, m3⟩
      go_wp2
      go_ret
      exact ⟨rfl, hm.trans m3⟩
    | succ g =>
      have hk : k < 64 := by omega
      have hk' : (k : Int) < 64 := by omega
      have hb := hB.out k
      obtain ⟨x, ex⟩ : ∃ x, (toU a).testBit k = x := ⟨_, rfl⟩
      obtain ⟨y, ey⟩ : ∃ y, (toU b).testBit k = y := ⟨_, rfl⟩
      have c1 : wr.cell? ⟨w1.heap.size, k, none⟩ = some (.bool x) := by rw [cell_of_row _ _ _ _ _ _ hst.one, get_of hx k hk, ex]
      have c2 : wr.cell? ⟨w2.heap.size, k, none⟩ = some (.bool y) := by rw [cell_of_row _ _ _ _ _ _ hst.two, get_of hy k hk, ey]
      have c3 : wr.cell? ⟨w2.heap.size + 1, k, none⟩ = some (.bool false) := by rw [cell_of_row _ _ _ _ _ _ hst.three]; unfold part; rw [arr_get _ _ hk]; simp
      have f3 : wr.frozen? ⟨w2.heap.size + 1, k, none⟩ = false := frozen_of_row _ _ _ _ _ hst.three
      rw [ex, ey] at hb
      have Hb : Hid (U.testBit k = (x ^^ y)) := hb
      have Hst : Hid (St3 w w1.heap.size w2.heap.size (w2.heap.size + 1) cx cy (part U k) wr) := hst
      clear hb ex ey hst
      cases x <;> cases y
      all_goals
        go_wp2
        go_region
        go_wp2
        go_roundg g
        case measure => omega
        case rel => exact ⟨k + 1, by omega, by first | rfl | simp, (Hst.out.set k _ (part_next _ k _ Hb.out)).drew⟩

end Go.Proofs.Ytkeeimdhlbdigab

/-
  What a call of evenkeelref1.Below and of evenkeelref1.shift does.
-/
namespace Go.Proofs.Ytkeeimdhlbdigab
open Go.RowKit

/-! ### Below -/
theorem below_apart (a b : Int) (v : Bool) (ha : decide (a < 0) = !v) (hb : decide (b < 0) = v) (w : World) :
    Calls Try.prog 63 #[.int .i64 a, .int .i64 b] w fun e w' => e = .returned (.bool v) ∧ w' = w := by
  cases v
  all_goals
    go_enter Try.func63, Try.ntmps63
    go_wp2
    go_ret
    exact ⟨rfl, rfl⟩
theorem below_same (a b : Int) (v : Bool) (ha : decide (a < 0) = v) (hb : decide (b < 0) = v) (w : World) :
    Calls Try.prog 63 #[.int .i64 a, .int .i64 b] w fun e w' => e = .returned (.bool (decide (a < b))) ∧ w' = w := by
  cases v
  all_goals
    go_enter Try.func63, Try.ntmps63
    go_wp2
    go_ret
    exact ⟨rfl, rfl⟩

theorem below_calls (a b : Int) (a0 : -9223372036854775808 ≤ a) (a1 : a ≤ 9223372036854775807) (b0 : -9223372036854775808 ≤ b) (b1 : b ≤ 9223372036854775807) (w : World) :
    Calls Try.prog 63 #[.int .i64 a, .int .i64 b] w fun e w' => e = .returned (.bool (decide (toU a < toU b))) ∧ w' = w := by
  by_cases ha : a < 0 <;> by_cases hb : b < 0
  · rw [show decide (toU a < toU b) = decide (a < b) by rw [decide_eq_decide]; unfold toU; omega]
    exact below_same a b true (by simp [ha]) (by simp [hb]) w
  · rw [show decide (toU a < toU b) = false by rw [decide_eq_false_iff_not]; unfold toU; omega]
    exact below_apart a b false (by simp [ha]) (by simp; omega) w
  · rw [show decide (toU a < toU b) = true by rw [decide_eq_true_iff]; unfold toU; omega]
    exact below_apart a b true (by simp; omega) (by simp [hb]) w
  · rw [show decide (toU a < toU b) = decide (a < b) by rw [decide_eq_decide]; unfold toU; omega]
    exact below_same a b false (by simp; omega) (by simp; omega) w

/-! ### shift -/
theorem part_skip (u k : Nat) (h : u.testBit k = false) : part u k = part u (k + 1) := by
  unfold part
  apply arr_ext
  intro i hi
  by_cases e : i = k
  · subst e; simp [h]
  · have : (i < k + 1) ↔ (i < k) := by omega
    simp [this]

theorem St3.start2 {w w1 : World} {c1 c3 : Array Value} (m1 : More w w1) :
    St3 w w1.heap.size w1.heap.size (w1.heap.size + 1) c1 c1 c3 ((w1.alloc (.cells c1 130)).alloc (.cells c3 130)) := by
  have s1 : (w1.alloc (.cells c1 130)).heap.size = w1.heap.size + 1 := by simp
  have s4 := m1.size
  have h1 : ((w1.alloc (.cells c1 130)).alloc (.cells c3 130)).heap[w1.heap.size]? = some (.cells c1 130 (0, 0)) := by
    rw [Below.heap_alloc _ _ _ (by omega)]; exact heap_alloc_last _ _
  refine ⟨h1, h1, ?_, (m1.alloc c1 130).alloc c3 130, by omega, by omega, by omega⟩
  rw [← s1]; exact heap_alloc_last _ _

set_option maxHeartbeats 1000000 in
theorem shift_calls (a s : Int) (U : Nat) (a0 : -9223372036854775808 ≤ a) (a1 : a ≤ 9223372036854775807) (s0 : -63 ≤ s) (s1 : s ≤ 63)
    (hU : Hid (U < 18446744073709551616)) (hB : Hid (∀ k : Nat, k < 64 → U.testBit k = (decide (0 ≤ (k : Int) - s ∧ (k : Int) - s < 64) && (toU a).testBit ((k : Int) - s).toNat))) (w : World) :
    Calls Try.prog 84 #[.int .i64 a, .int .i64 s] w fun e w' => e = .returned (.int .i64 (wrap64 (U : Int))) ∧ More w w' := by
  go_enter Try.func84, Try.ntmps84
  go_wp2_with (fail)
  refine (bits_cells a a0 a1 _).mono ?_
  rintro e w1 ⟨cx, rfl, hx, m1⟩
  go_wp2_with (refine wpList_store_row rfl 130 (.tmp 5) (.tmp 9) rfl _ _ rfl rfl 130 _ (heap_alloc_last _ _) (info_of hx) (size_of hx) (one_of hx) ?_; rw [World.setRow_alloc_new])
  have H0 := St3.start2 (c1 := cx) (c3 := part U 0) m1
  go_loopg [7] 64 (fun g i wr => ∃ (k : Nat), k + g = 64 ∧ i = .int .i64 k ∧ St3 w w1.heap.size w1.heap.size (w1.heap.size + 1) cx cx (part U k) wr)
  case atStart =>
    refine ⟨0, by omega, rfl, ?_⟩
    rw [part_lit] at H0 ⊢
    exact H0
  case round =>
    obtain ⟨k, hkg, rfl, hst⟩ := hrel
    clear H0 m1
    cases gk with
    | zero =>
      obtain rfl : k = 64 := by omega
      have hg := hst.three
      have hm := hst.more
      rw [part_all] at hg
      clear hst
      go_wp2_with (refine wpList_load_row rfl 130 (.tmp 6) rfl _ rfl 130 _ (0, 0) _ hg Try.underlying130 rfl (info_arr _) ?_)
      refine (of_num U hU.out _).mono ?_
      rintro e w3 ⟨rfl, m3⟩
      go_wp2
      go_ret
      exact ⟨rfl, hm.trans m3⟩
    | succ g =>
      have hk : k < 64 := by omega
      have hk' : (k : Int) < 64 := by omega
      have hb := hB.out k hk
      have c3 : wr.cell? ⟨w1.heap.size + 1, k, none⟩ = some (.bool false) := by rw [cell_of_row _ _ _ _ _ _ hst.three]; unfold part; rw [arr_get _ _ hk]; simp
      have f3 : wr.frozen? ⟨w1.heap.size + 1, k, none⟩ = false := frozen_of_row _ _ _ _ _ hst.three
      have Hst : Hid (St3 w w1.heap.size w1.heap.size (w1.heap.size + 1) cx cx (part U k) wr) := hst
      by_cases h1 : 0 ≤ (k : Int) - s
      · by_cases h2 : (k : Int) - s < 64
        · obtain ⟨j, hj⟩ : ∃ j : Nat, (k : Int) - s = (j : Int) := ⟨((k : Int) - s).toNat, by omega⟩
          have hj64 : j < 64 := by omega
          have hjI : (j : Int) < 64 := by omega
          obtain ⟨x, ex⟩ : ∃ x, (toU a).testBit j = x := ⟨_, rfl⟩
          have c1 : wr.cell? ⟨w1.heap.size, j, none⟩ = some (.bool x) := by rw [cell_of_row _ _ _ _ _ _ hst.one, get_of hx j hj64, ex]
          rw [hj, Int.toNat_natCast, ex, decide_eq_true (by omega), Bool.true_and] at hb
          have Hb : Hid (U.testBit k = x) := hb
          clear hb ex hst h1 h2
          go_wp2
          go_roundg g
          case measure => omega
          case rel => exact ⟨k + 1, by omega, by first | rfl | simp, Hst.out.set k _ (part_next _ k _ Hb.out)⟩
        · rw [decide_eq_false (by omega), Bool.false_and] at hb
          have Hb : Hid (U.testBit k = false) := hb
          clear hb hst
          go_wp2
          go_roundg g
          case measure => omega
          case rel => exact ⟨k + 1, by omega, by first | rfl | simp, part_skip _ k Hb.out ▸ Hst.out⟩
      · rw [decide_eq_false (by omega), Bool.false_and] at hb
        have Hb : Hid (U.testBit k = false) := hb
        clear hb hst
        go_wp2
        go_roundg g
        case measure => omega
        case rel => exact ⟨k + 1, by omega, by first | rfl | simp, part_skip _ k Hb.out ▸ Hst.out⟩

end Go.Proofs.Ytkeeimdhlbdigab

/-
  What a call of evenkeelref1.divide does: the quotient, and what is left over.
-/
namespace Go.Proofs.Ytkeeimdhlbdigab
open Go.RowKit

/-- The upper bits of a number, the others not yet. -/
def top (u g : Nat) : Array Value := arr (fun i => decide (g ≤ i) && u.testBit i)
theorem top_start (u : Nat) : top u 64 = part u 0 := arr_ext fun i hi => by
  have : ¬ 64 ≤ i := by omega
  simp [this]
theorem top_all (u : Nat) : top u 0 = arr (fun i => u.testBit i) := arr_ext fun i _ => by simp
theorem top_next (u g : Nat) (b : Bool) (h : u.testBit g = b) : (top u (g + 1)).setIfInBounds g (.bool b) = top u g := by
  unfold top
  rw [arr_set]
  apply arr_ext
  intro i hi
  by_cases e : i = g
  · subst e; simp [h]
  · have : (g + 1 ≤ i) ↔ (g ≤ i) := by omega
    simp [e, this]
theorem top_skip (u g : Nat) (h : u.testBit g = false) : top u (g + 1) = top u g := by
  unfold top
  apply arr_ext
  intro i hi
  by_cases e : i = g
  · subst e; simp [h]
  · have : (g + 1 ≤ i) ↔ (g ≤ i) := by omega
    simp [this]

/-! ### A step of the division: plain -/
theorem step_num (T x B : Nat) (hB : 0 < B) (hx : x < 2) :
    (2 * T + x) % B = (if B ≤ 2 * (T % B) + x then 2 * (T % B) + x - B else 2 * (T % B) + x) ∧ (2 * T + x) / B % 2 = (if B ≤ 2 * (T % B) + x then 1 else 0) := by
  have h1 := Nat.div_add_mod T B
  have h2 := Nat.mod_lt T hB
  generalize T % B = r at *
  generalize T / B = q at *
  have e : 2 * T + x = (2 * r + x) + B * (2 * q) := by
    rw [← h1, Nat.mul_left_comm B 2 q]; omega
  rw [e, Nat.add_mul_mod_self_left, Nat.add_mul_div_left _ _ hB]
  split
  · rename_i h
    have e2 : 2 * r + x = (2 * r + x - B) + B * 1 := by omega
    constructor
    · rw [e2, Nat.add_mul_mod_self_left, Nat.mod_eq_of_lt (by omega)]; omega
    · rw [e2, Nat.add_mul_div_left _ _ hB, Nat.div_eq_of_lt (by omega)]; omega
  · rename_i h
    constructor
    · exact Nat.mod_eq_of_lt (by omega)
    · rw [Nat.div_eq_of_lt (by omega)]; omega

theorem bit_down (A g : Nat) : A / 2 ^ g = 2 * (A / 2 ^ (g + 1)) + (A.testBit g).toNat := by
  rw [Nat.pow_succ, ← Nat.div_div_eq_div_mul, Nat.testBit_eq_decide_div_mod_eq]
  generalize A / 2 ^ g = n
  rcases Nat.mod_two_eq_zero_or_one n with h | h <;> simp [h] <;> omega

/-- What is left over ahead of the bit g. -/
def left (A B g : Nat) : Nat := A / 2 ^ g % B

theorem left_start (A B : Nat) (h : A < 18446744073709551616) : left A B 64 = 0 := by
  unfold left; rw [Nat.div_eq_of_lt (by simpa using h)]; simp
theorem left_end (A B : Nat) : left A B 0 = A % B := by unfold left; simp
theorem left_lt (A B g : Nat) (hB : 0 < B) : left A B g < B := Nat.mod_lt _ hB
theorem left_next (A B g : Nat) (hB : 0 < B) : left A B g = if B ≤ 2 * left A B (g + 1) + (A.testBit g).toNat then 2 * left A B (g + 1) + (A.testBit g).toNat - B else 2 * left A B (g + 1) + (A.testBit g).toNat := by
  unfold left
  rw [bit_down A g]
  exact (step_num _ _ _ hB (Bool.toNat_lt _)).1
theorem quo_bit (A B g : Nat) (hB : 0 < B) : (A / B).testBit g = decide (B ≤ 2 * left A B (g + 1) + (A.testBit g).toNat) := by
  rw [Nat.testBit_eq_decide_div_mod_eq, Nat.div_div_eq_div_mul, Nat.mul_comm, ← Nat.div_div_eq_div_mul, bit_down A g, (step_num _ _ _ hB (Bool.toNat_lt _)).2]
  unfold left
  by_cases h : B ≤ 2 * (A / 2 ^ (g + 1) % B) + (A.testBit g).toNat <;> simp [h]

/-! ### The words of a step -/
theorem word_neg (r : Nat) (h : r < 18446744073709551616) : wrap64 (r : Int) < 0 ↔ 9223372036854775808 ≤ r := by unfold wrap64; omega
theorem word_two (r : Nat) : wrap64 (wrap64 (r : Int) + wrap64 (r : Int)) = wrap64 ((2 * r : Nat) : Int) := by unfold wrap64; omega
theorem word_one (r : Nat) : wrap64 (wrap64 (r : Int) + 1) = wrap64 ((r + 1 : Nat) : Int) := by unfold wrap64; omega
theorem word_less (n : Nat) (b : Int) (h : toU b ≤ n) : wrap64 (wrap64 (n : Int) - b) = wrap64 ((n - toU b : Nat) : Int) := by
  have := toU_cast b
  unfold wrap64; omega
theorem word_toU (n : Nat) (h : n < 18446744073709551616) : toU (wrap64 (n : Int)) = n := by unfold toU wrap64; omega
theorem word_low (n : Int) : -9223372036854775808 ≤ wrap64 n := by unfold wrap64; omega
theorem word_high (n : Int) : wrap64 n ≤ 9223372036854775807 := by unfold wrap64; omega

set_option maxHeartbeats 2000000 in
theorem divide_calls (a b : Int) (a0 : -9223372036854775808 ≤ a) (a1 : a ≤ 9223372036854775807) (b0 : -9223372036854775808 ≤ b) (b1 : b ≤ 9223372036854775807) (hb : Hid (0 < toU b)) (w : World) :
    Calls Try.prog 85 #[.int .i64 a, .int .i64 b] w fun e w' => e = .returned (.tuple #[.int .i64 (wrap64 ((toU a / toU b : Nat) : Int)), .int .i64 (wrap64 ((toU a % toU b : Nat) : Int))]) ∧ More w w' := by
  obtain ⟨Q, hQ⟩ : ∃ Q, Hid (toU a / toU b = Q) := ⟨_, rfl⟩
  obtain ⟨M, hM⟩ : ∃ M, Hid (wrap64 ((toU a % toU b : Nat) : Int) = M) := ⟨_, rfl⟩
  rw [hQ.out, hM.out]
  go_enter Try.func85, Try.ntmps85
  go_wp2_with (fail)
  refine (bits_cells a a0 a1 _).mono ?_
  rintro e w1 ⟨cx, rfl, hx, m1⟩
  go_wp2_with (refine wpList_store_row rfl 130 (.tmp 6) (.tmp 12) rfl _ _ rfl rfl 130 _ (heap_alloc_last _ _) (info_of hx) (size_of hx) (one_of hx) ?_; rw [World.setRow_alloc_new])
  have H0 := St3.start2 (c1 := cx) (c3 := part Q 0) m1
  go_loopg [8, 9] 64 (fun g r i wr => ∃ (rv : Int), g ≤ 64 ∧ Hid (rv = wrap64 ((left (toU a) (toU b) g : Nat) : Int)) ∧ i = .int .i64 ((g : Int) - 1) ∧ r = .int .i64 rv ∧ St3 w w1.heap.size w1.heap.size (w1.heap.size + 1) cx cx (top Q g) wr)
  case atStart =>
    refine ⟨0, by omega, ?_, rfl, rfl, ?_⟩
    · show (0 : Int) = _
      rw [left_start _ _ (toU_lt a)]; unfold wrap64; omega
    · rw [top_start]
      rw [part_lit] at H0 ⊢
      exact H0
  case round =>
    obtain ⟨rv, hg64, hrv, rfl, rfl, hst⟩ := hrel
    clear H0 m1
    cases gk with
    | zero =>
      have hg := hst.three
      have hm := hst.more
      rw [top_all] at hg
      have hQl : Hid (Q < 18446744073709551616) := by
        show Q < 18446744073709551616
        rw [← hQ.out]; exact Nat.lt_of_le_of_lt (Nat.div_le_self _ _) (toU_lt a)
      have hr2 : Hid (rv = M) := by
        show rv = M
        rw [hrv.out, left_end, hM.out]
      clear hst
      go_wp2_with (refine wpList_load_row rfl 130 (.tmp 7) rfl _ rfl 130 _ (0, 0) _ hg Try.underlying130 rfl (info_arr _) ?_)
      refine (of_num Q hQl.out _).mono ?_
      rintro e w3 ⟨rfl, m3⟩
      go_wp2
      go_ret2
      exact ⟨by rw [← hr2.out]; rfl, hm.trans m3⟩
    | succ g =>
      have hk : g < 64 := by omega
      have hk' : (g : Int) < 64 := by omega
      have eg : (((g + 1 : Nat)) : Int) - 1 = (g : Int) := by omega
      rw [eg]
      have hR := left_lt (toU a) (toU b) (g + 1) hb.out
      have hRB := toU_lt b
      obtain ⟨x, ex⟩ : ∃ x, (toU a).testBit g = x := ⟨_, rfl⟩
      have c1 : wr.cell? ⟨w1.heap.size, g, none⟩ = some (.bool x) := by rw [cell_of_row _ _ _ _ _ _ hst.one, get_of hx g hk, ex]
      have c3 : wr.cell? ⟨w1.heap.size + 1, g, none⟩ = some (.bool false) := by rw [cell_of_row _ _ _ _ _ _ hst.three]; unfold top; rw [arr_get _ _ hk]; simp; omega
      have f3 : wr.frozen? ⟨w1.heap.size + 1, g, none⟩ = false := frozen_of_row _ _ _ _ _ hst.three
      have Hst : Hid (St3 w w1.heap.size w1.heap.size (w1.heap.size + 1) cx cx (top Q (g + 1)) wr) := hst
      clear hst eg
      obtain ⟨r2, h2⟩ : ∃ r, wrap64 (rv + rv) = r := ⟨_, rfl⟩
      have H2 : Hid (r2 = wrap64 ((2 * left (toU a) (toU b) (g + 1) : Nat) : Int)) := by
        show r2 = _
        rw [← h2, hrv.out]; exact word_two _
      have r20 : -9223372036854775808 ≤ r2 := h2 ▸ word_low _
      have r21 : r2 ≤ 9223372036854775807 := h2 ▸ word_high _
      cases x with
      | true =>
        have HX : Hid ((toU a).testBit g = true) := ex
        clear ex
        obtain ⟨r3, h3⟩ : ∃ r, wrap64 (r2 + 1) = r := ⟨_, rfl⟩
        have H3 : Hid (r3 = wrap64 ((2 * left (toU a) (toU b) (g + 1) + 1 : Nat) : Int)) := by
          show r3 = _
          rw [← h3, H2.out]; exact word_one _
        have r30 : -9223372036854775808 ≤ r3 := h3 ▸ word_low _
        have r31 : r3 ≤ 9223372036854775807 := h3 ▸ word_high _
        by_cases hov : 9223372036854775808 ≤ left (toU a) (toU b) (g + 1)
        · have ho : rv < 0 := by rw [hrv.out]; exact (word_neg _ (by omega)).2 hov
          · have Hn : Hid (left (toU a) (toU b) g = 2 * left (toU a) (toU b) (g + 1) + 1 - toU b) := by
              show left (toU a) (toU b) g = _
              rw [left_next _ _ _ hb.out, HX.out]; simp only [Bool.toNat_true]; rw [if_pos (by omega)]
            have Hq : Hid (Q.testBit g = true) := by
              show Q.testBit g = _
              rw [← hQ.out, quo_bit _ _ _ hb.out, HX.out]; simp only [Bool.toNat_true]; simp; omega
            have Hs : Hid (wrap64 (r3 - b) = wrap64 (((2 * left (toU a) (toU b) (g + 1) + 1) - toU b : Nat) : Int)) := by
              show wrap64 (r3 - b) = _
              rw [H3.out]; exact word_less _ _ (by omega)
            clear hR hRB
            go_wp2_with fail
            go_roundg g
            case measure => omega
            case rel => exact ⟨_, by omega, Hs.out.trans (by rw [Hn.out]), by first | rfl | simp, rfl, Hst.out.set g _ (top_next _ g _ Hq.out)⟩
        · have ho : ¬ rv < 0 := by rw [hrv.out]; exact fun h => hov ((word_neg _ (by omega)).1 h)
          have HT : Hid (toU r3 = 2 * left (toU a) (toU b) (g + 1) + 1) := by
            show toU r3 = _
            rw [H3.out]; exact word_toU _ (by omega)
          by_cases hlt : 2 * left (toU a) (toU b) (g + 1) + 1 < toU b
          · have hbel : ∀ wx : World, Calls Try.prog 63 #[.int .i64 r3, .int .i64 b] wx fun e w' => e = .returned (.bool true) ∧ w' = wx := fun wx => by
              have h := below_calls r3 b r30 r31 b0 b1 wx
              rw [HT.out] at h
              have hd : decide (2 * left (toU a) (toU b) (g + 1) + 1 < toU b) = true := by simp; omega
              rw [hd] at h
              exact h
            have Hn : Hid (left (toU a) (toU b) g = 2 * left (toU a) (toU b) (g + 1) + 1) := by
              show left (toU a) (toU b) g = _
              rw [left_next _ _ _ hb.out, HX.out]; simp only [Bool.toNat_true]; rw [if_neg (by omega)]
            have Hq : Hid (Q.testBit g = false) := by
              show Q.testBit g = _
              rw [← hQ.out, quo_bit _ _ _ hb.out, HX.out]; simp only [Bool.toNat_true]; simp; omega
            clear hR hRB
            go_wp2_with (go_at_call 63; refine (hbel _).mono ?_; rintro e w' ⟨rfl, hw⟩; rw [hw])
            go_roundg g
            case measure => omega
            case rel => exact ⟨_, by omega, H3.out.trans (by rw [Hn.out]), by first | rfl | simp, rfl, top_skip _ g Hq.out ▸ Hst.out⟩
          · have hbel : ∀ wx : World, Calls Try.prog 63 #[.int .i64 r3, .int .i64 b] wx fun e w' => e = .returned (.bool false) ∧ w' = wx := fun wx => by
              have h := below_calls r3 b r30 r31 b0 b1 wx
              rw [HT.out] at h
              have hd : decide (2 * left (toU a) (toU b) (g + 1) + 1 < toU b) = false := by simp; omega
              rw [hd] at h
              exact h
            have Hn : Hid (left (toU a) (toU b) g = 2 * left (toU a) (toU b) (g + 1) + 1 - toU b) := by
              show left (toU a) (toU b) g = _
              rw [left_next _ _ _ hb.out, HX.out]; simp only [Bool.toNat_true]; rw [if_pos (by omega)]
            have Hq : Hid (Q.testBit g = true) := by
              show Q.testBit g = _
              rw [← hQ.out, quo_bit _ _ _ hb.out, HX.out]; simp only [Bool.toNat_true]; simp; omega
            have Hs : Hid (wrap64 (r3 - b) = wrap64 (((2 * left (toU a) (toU b) (g + 1) + 1) - toU b : Nat) : Int)) := by
              show wrap64 (r3 - b) = _
              rw [H3.out]; exact word_less _ _ (by omega)
            clear hR hRB
            go_wp2_with (go_at_call 63; refine (hbel _).mono ?_; rintro e w' ⟨rfl, hw⟩; rw [hw])
            go_roundg g
            case measure => omega
            case rel => exact ⟨_, by omega, Hs.out.trans (by rw [Hn.out]), by first | rfl | simp, rfl, Hst.out.set g _ (top_next _ g _ Hq.out)⟩
      | false =>
        have HX : Hid ((toU a).testBit g = false) := ex
        clear ex
        have H3 := H2
        by_cases hov : 9223372036854775808 ≤ left (toU a) (toU b) (g + 1)
        · have ho : rv < 0 := by rw [hrv.out]; exact (word_neg _ (by omega)).2 hov
          · have Hn : Hid (left (toU a) (toU b) g = 2 * left (toU a) (toU b) (g + 1) - toU b) := by
              show left (toU a) (toU b) g = _
              rw [left_next _ _ _ hb.out, HX.out]; simp only [Bool.toNat_false, Nat.add_zero]; rw [if_pos (by omega)]
            have Hq : Hid (Q.testBit g = true) := by
              show Q.testBit g = _
              rw [← hQ.out, quo_bit _ _ _ hb.out, HX.out]; simp only [Bool.toNat_false, Nat.add_zero]; simp; omega
            have Hs : Hid (wrap64 (r2 - b) = wrap64 (((2 * left (toU a) (toU b) (g + 1)) - toU b : Nat) : Int)) := by
              show wrap64 (r2 - b) = _
              rw [H3.out]; exact word_less _ _ (by omega)
            clear hR hRB
            go_wp2_with fail
            go_roundg g
            case measure => omega
            case rel => exact ⟨_, by omega, Hs.out.trans (by rw [Hn.out]), by first | rfl | simp, rfl, Hst.out.set g _ (top_next _ g _ Hq.out)⟩
        · have ho : ¬ rv < 0 := by rw [hrv.out]; exact fun h => hov ((word_neg _ (by omega)).1 h)
          have HT : Hid (toU r2 = 2 * left (toU a) (toU b) (g + 1)) := by
            show toU r2 = _
            rw [H3.out]; exact word_toU _ (by omega)
          by_cases hlt : 2 * left (toU a) (toU b) (g + 1) < toU b
          · have hbel : ∀ wx : World, Calls Try.prog 63 #[.int .i64 r2, .int .i64 b] wx fun e w' => e = .returned (.bool true) ∧ w' = wx := fun wx => by
              have h := below_calls r2 b r20 r21 b0 b1 wx
              rw [HT.out] at h
              have hd : decide (2 * left (toU a) (toU b) (g + 1) < toU b) = true := by simp; omega
              rw [hd] at h
              exact h
            have Hn : Hid (left (toU a) (toU b) g = 2 * left (toU a) (toU b) (g + 1)) := by
              show left (toU a) (toU b) g = _
              rw [left_next _ _ _ hb.out, HX.out]; simp only [Bool.toNat_false, Nat.add_zero]; rw [if_neg (by omega)]
            have Hq : Hid (Q.testBit g = false) := by
              show Q.testBit g = _
              rw [← hQ.out, quo_bit _ _ _ hb.out, HX.out]; simp only [Bool.toNat_false, Nat.add_zero]; simp; omega
            clear hR hRB
            go_wp2_with (go_at_call 63; refine (hbel _).mono ?_; rintro e w' ⟨rfl, hw⟩; rw [hw])
            go_roundg g
            case measure => omega
            case rel => exact ⟨_, by omega, H3.out.trans (by rw [Hn.out]), by first | rfl | simp, rfl, top_skip _ g Hq.out ▸ Hst.out⟩
          · have hbel : ∀ wx : World, Calls Try.prog 63 #[.int .i64 r2, .int .i64 b] wx fun e w' => e = .returned (.bool false) ∧ w' = wx := fun wx => by
              have h := below_calls r2 b r20 r21 b0 b1 wx
              rw [HT.out] at h
              have hd : decide (2 * left (toU a) (toU b) (g + 1) < toU b) = false := by simp; omega
              rw [hd] at h
              exact h
            have Hn : Hid (left (toU a) (toU b) g = 2 * left (toU a) (toU b) (g + 1) - toU b) := by
              show left (toU a) (toU b) g = _
              rw [left_next _ _ _ hb.out, HX.out]; simp only [Bool.toNat_false, Nat.add_zero]; rw [if_pos (by omega)]
            have Hq : Hid (Q.testBit g = true) := by
              show Q.testBit g = _
              rw [← hQ.out, quo_bit _ _ _ hb.out, HX.out]; simp only [Bool.toNat_false, Nat.add_zero]; simp; omega
            have Hs : Hid (wrap64 (r2 - b) = wrap64 (((2 * left (toU a) (toU b) (g + 1)) - toU b : Nat) : Int)) := by
              show wrap64 (r2 - b) = _
              rw [H3.out]; exact word_less _ _ (by omega)
            clear hR hRB
            go_wp2_with (go_at_call 63; refine (hbel _).mono ?_; rintro e w' ⟨rfl, hw⟩; rw [hw])
            go_roundg g
            case measure => omega
            case rel => exact ⟨_, by omega, Hs.out.trans (by rw [Hn.out]), by first | rfl | simp, rfl, Hst.out.set g _ (top_next _ g _ Hq.out)⟩

end Go.Proofs.Ytkeeimdhlbdigab

/-
  What a call of evenkeelref1.Op and of evenkeelref1.Holds does, for every operation or condition and any two numbers.
-/
namespace Go.Proofs.Ytkeeimdhlbdigab
open Go.RowKit

theorem ref_1 (a b : Int) (w : World) :
    Calls Try.prog 64 #[.int .i64 1, .int .i64 a, .int .i64 b] w fun e w' => e = .returned (.int .i64 (wrap64 (a + b))) ∧ More w w' := by
  go_enter Try.func64, Try.ntmps64
  go_wp2
  go_ret
  exact ⟨rfl, More.refl _⟩

theorem ref_2 (a b : Int) (w : World) :
    Calls Try.prog 64 #[.int .i64 2, .int .i64 a, .int .i64 b] w fun e w' => e = .returned (.int .i64 (wrap64 (a - b))) ∧ More w w' := by
  go_enter Try.func64, Try.ntmps64
  go_wp2
  go_ret
  exact ⟨rfl, More.refl _⟩

theorem ref_3 (a b : Int) (w : World) :
    Calls Try.prog 64 #[.int .i64 3, .int .i64 a, .int .i64 b] w fun e w' => e = .returned (.int .i64 (wrap64 (a * b))) ∧ More w w' := by
  go_enter Try.func64, Try.ntmps64
  go_wp2
  go_ret
  exact ⟨rfl, More.refl _⟩

theorem ref_4 (a b : Int) (a0 : -9223372036854775808 ≤ a) (a1 : a ≤ 9223372036854775807) (b0 : -9223372036854775808 ≤ b) (b1 : b ≤ 9223372036854775807) (w : World) :
    Calls Try.prog 64 #[.int .i64 4, .int .i64 a, .int .i64 b] w fun e w' => e = .returned (.int .i64 (wrap64 ((toU a &&& toU b : Nat) : Int))) ∧ More w w' := by
  obtain ⟨U, hU⟩ : ∃ U, toU a &&& toU b = U := ⟨_, rfl⟩
  have c := bitwise_and a b U a0 a1 b0 b1 (by show U < _; rw [← hU]; exact Nat.lt_of_le_of_lt Nat.and_le_left (toU_lt a)) (by show ∀ k, _; intro k; rw [← hU]; exact Nat.testBit_and _ _ _) w
  rw [hU]
  clear hU
  go_enter Try.func64, Try.ntmps64
  go_wp2_with (fail)
  refine c.mono ?_
  rintro e w1 ⟨rfl, m1⟩
  go_wp2
  go_ret
  exact ⟨rfl, m1⟩

theorem ref_5 (a b : Int) (a0 : -9223372036854775808 ≤ a) (a1 : a ≤ 9223372036854775807) (b0 : -9223372036854775808 ≤ b) (b1 : b ≤ 9223372036854775807) (w : World) :
    Calls Try.prog 64 #[.int .i64 5, .int .i64 a, .int .i64 b] w fun e w' => e = .returned (.int .i64 (wrap64 ((toU a ||| toU b : Nat) : Int))) ∧ More w w' := by
  obtain ⟨U, hU⟩ : ∃ U, toU a ||| toU b = U := ⟨_, rfl⟩
  have c := bitwise_or a b U a0 a1 b0 b1 (by show U < _; rw [← hU]; exact Nat.or_lt_two_pow (n := 64) (toU_lt a) (toU_lt b)) (by show ∀ k, _; intro k; rw [← hU]; exact Nat.testBit_or _ _ _) w
  rw [hU]
  clear hU
  go_enter Try.func64, Try.ntmps64
  go_wp2_with (fail)
  refine c.mono ?_
  rintro e w1 ⟨rfl, m1⟩
  go_wp2
  go_ret
  exact ⟨rfl, m1⟩

theorem ref_6 (a b : Int) (a0 : -9223372036854775808 ≤ a) (a1 : a ≤ 9223372036854775807) (b0 : -9223372036854775808 ≤ b) (b1 : b ≤ 9223372036854775807) (w : World) :
    Calls Try.prog 64 #[.int .i64 6, .int .i64 a, .int .i64 b] w fun e w' => e = .returned (.int .i64 (wrap64 ((toU a ^^^ toU b : Nat) : Int))) ∧ More w w' := by
  obtain ⟨U, hU⟩ : ∃ U, toU a ^^^ toU b = U := ⟨_, rfl⟩
  have c := bitwise_xor a b U a0 a1 b0 b1 (by show U < _; rw [← hU]; exact Nat.xor_lt_two_pow (n := 64) (toU_lt a) (toU_lt b)) (by show ∀ k, _; intro k; rw [← hU]; exact Nat.testBit_xor _ _ _) w
  rw [hU]
  clear hU
  go_enter Try.func64, Try.ntmps64
  go_wp2_with (fail)
  refine c.mono ?_
  rintro e w1 ⟨rfl, m1⟩
  go_wp2
  go_ret
  exact ⟨rfl, m1⟩

theorem ref_other (op a b : Int) (w : World) (h : op < 1 ∨ 10 < op) :
    Calls Try.prog 64 #[.int .i64 op, .int .i64 a, .int .i64 b] w fun e w' => e = .returned (.int .i64 0) ∧ More w w' := by
  have e1 : (op == 1) = false := by simp; omega
  have e2 : (op == 2) = false := by simp; omega
  have e3 : (op == 3) = false := by simp; omega
  have e4 : (op == 4) = false := by simp; omega
  have e5 : (op == 5) = false := by simp; omega
  have e6 : (op == 6) = false := by simp; omega
  have e7 : (op == 7) = false := by simp; omega
  have e8 : (op == 8) = false := by simp; omega
  have e9 : (op == 9) = false := by simp; omega
  have e10 : (op == 10) = false := by simp; omega
  clear h
  go_enter Try.func64, Try.ntmps64
  go_wp2
  go_ret
  exact ⟨rfl, More.refl _⟩

theorem ref_9_zero (a : Int) (w : World) :
    Calls Try.prog 64 #[.int .i64 9, .int .i64 a, .int .i64 0] w fun e w' => e = .returned (.int .i64 0) ∧ More w w' := by
  go_enter Try.func64, Try.ntmps64
  go_wp2
  go_ret
  exact ⟨rfl, More.refl _⟩

theorem ref_9_more (a b : Int) (a0 : -9223372036854775808 ≤ a) (a1 : a ≤ 9223372036854775807) (b0 : -9223372036854775808 ≤ b) (b1 : b ≤ 9223372036854775807) (hb : (b == 0) = false) (w : World) :
    Calls Try.prog 64 #[.int .i64 9, .int .i64 a, .int .i64 b] w fun e w' => e = .returned (.int .i64 (wrap64 ((toU a / toU b : Nat) : Int))) ∧ More w w' := by
  have hB : Hid (0 < toU b) := by
    show 0 < toU b
    have : b ≠ 0 := by simpa using hb
    unfold toU; omega
  have c := divide_calls a b a0 a1 b0 b1 hB w
  obtain ⟨q, hq⟩ : ∃ q, wrap64 ((toU a / toU b : Nat) : Int) = q := ⟨_, rfl⟩
  obtain ⟨r, hr⟩ : ∃ r, wrap64 ((toU a % toU b : Nat) : Int) = r := ⟨_, rfl⟩
  rw [hq, hr] at c
  rw [hq]
  clear hq hr
  go_enter Try.func64, Try.ntmps64
  go_wp2_with (fail)
  refine c.mono ?_
  rintro e w1 ⟨rfl, m1⟩
  go_wp2
  go_ret
  exact ⟨rfl, m1⟩

theorem ref_10_zero (a : Int) (w : World) :
    Calls Try.prog 64 #[.int .i64 10, .int .i64 a, .int .i64 0] w fun e w' => e = .returned (.int .i64 a) ∧ More w w' := by
  go_enter Try.func64, Try.ntmps64
  go_wp2
  go_ret
  exact ⟨rfl, More.refl _⟩

theorem ref_10_more (a b : Int) (a0 : -9223372036854775808 ≤ a) (a1 : a ≤ 9223372036854775807) (b0 : -9223372036854775808 ≤ b) (b1 : b ≤ 9223372036854775807) (hb : (b == 0) = false) (w : World) :
    Calls Try.prog 64 #[.int .i64 10, .int .i64 a, .int .i64 b] w fun e w' => e = .returned (.int .i64 (wrap64 ((toU a % toU b : Nat) : Int))) ∧ More w w' := by
  have hB : Hid (0 < toU b) := by
    show 0 < toU b
    have : b ≠ 0 := by simpa using hb
    unfold toU; omega
  have c := divide_calls a b a0 a1 b0 b1 hB w
  obtain ⟨q, hq⟩ : ∃ q, wrap64 ((toU a / toU b : Nat) : Int) = q := ⟨_, rfl⟩
  obtain ⟨r, hr⟩ : ∃ r, wrap64 ((toU a % toU b : Nat) : Int) = r := ⟨_, rfl⟩
  rw [hq, hr] at c
  rw [hr]
  clear hq hr
  go_enter Try.func64, Try.ntmps64
  go_wp2_with (fail)
  refine c.mono ?_
  rintro e w1 ⟨rfl, m1⟩
  go_wp2
  go_ret
  exact ⟨rfl, m1⟩

set_option maxHeartbeats 1000000 in
theorem ref_7 (a b : Int) (R : Int) (b0 : -9223372036854775808 ≤ b) (b1 : b ≤ 9223372036854775807)
    (hR : Hid (∀ w : World, Calls Try.prog 84 #[.int .i64 a, .int .i64 (((toU b % 64 : Nat) : Int))] w fun e w' => e = .returned (.int .i64 R) ∧ More w w')) (w : World) :
    Calls Try.prog 64 #[.int .i64 7, .int .i64 a, .int .i64 b] w fun e w' => e = .returned (.int .i64 R) ∧ More w w' := by
  go_enter Try.func64, Try.ntmps64
  go_wp2_with (fail)
  refine (bits_cells b b0 b1 _).mono ?_
  rintro e w1 ⟨cy, rfl, hy, m1⟩
  go_wp2_with (refine wpList_store_row rfl 130 (.tmp 7) (.tmp 41) rfl _ _ rfl rfl 130 _ (heap_alloc_last _ _) (info_of hy) (size_of hy) (one_of hy) ?_; rw [World.setRow_alloc_new])
  have H0 := (m1.alloc cy 130)
  have hsz := (size_of hy).symm
  go_loopg [8, 9, 10] 6 (fun g sv pv i wr => ∃ (k : Nat) (s p : Int), k + g = 6 ∧ Hid (s = ((toU b % 2 ^ k : Nat) : Int)) ∧ Hid (p = ((2 ^ k : Nat) : Int)) ∧ 0 ≤ s ∧ s < 64 ∧ 0 ≤ p ∧ p ≤ 64 ∧ sv = .int .i64 s ∧ pv = .int .i64 p ∧ i = .int .i64 k ∧ wr = w1.alloc (.cells cy 130))
  case atStart => exact ⟨0, 0, 1, by omega, by show (0 : Int) = _; simp [Nat.mod_one], rfl, by omega, by omega, by omega, by omega, rfl, rfl, rfl, rfl⟩
  case round =>
    obtain ⟨k, s, p, hkg, hs, hp, s0, s1, p0, p1, rfl, rfl, rfl, rfl⟩ := hrel
    cases gk with
    | zero =>
      obtain rfl : k = 6 := by omega
      have c := hR.out (w1.alloc (.cells cy 130))
      rw [show ((toU b % 64 : Nat) : Int) = s from hs.out.symm] at c
      go_wp2_with (fail)
      refine c.mono ?_
      rintro e w2 ⟨rfl, m2⟩
      go_wp2
      go_ret
      exact ⟨rfl, H0.trans m2⟩
    | succ g =>
      have hk : k < 6 := by omega
      have hk64 : k < 64 := by omega
      have hk' : (k : Int) < 64 := by omega
      have hk6 : (k : Int) < 6 := by omega
      obtain ⟨x, ex⟩ : ∃ x, (toU b).testBit k = x := ⟨_, rfl⟩
      have hcs : cy[k]'(by omega) = .bool x := by have h := get_of hy k (by omega); rw [ex] at h; exact (Array.getElem?_eq_some_iff.1 h).2
      have hpw : Hid (p + p = ((2 ^ (k + 1) : Nat) : Int)) := by show p + p = _; rw [hp.out, Nat.pow_succ]; omega
      have hpb : p ≤ 32 := by
        rw [hp.out]
        have : 2 ^ k ≤ 2 ^ 5 := Nat.pow_le_pow_right (by omega) (by omega)
        omega
      have hmod : toU b % 2 ^ (k + 1) = toU b % 2 ^ k + 2 ^ k * (toU b / 2 ^ k % 2) := Nat.mod_pow_succ
      have htb := Nat.testBit_eq_decide_div_mod_eq (x := toU b) (i := k)
      rw [ex] at htb
      cases x with
      | true =>
        have h1 : toU b / 2 ^ k % 2 = 1 := by simpa using htb.symm
        have hsn : Hid (s + p = ((toU b % 2 ^ (k + 1) : Nat) : Int)) := by
          show s + p = _
          rw [hmod, h1, hs.out, hp.out]; push_cast; omega
        have hsb : s + p < 64 := by
          rw [hsn.out]
          have h2 : toU b % 2 ^ (k + 1) < 2 ^ (k + 1) := Nat.mod_lt _ (Nat.pow_pos (by decide))
          have h3 : 2 ^ (k + 1) ≤ 2 ^ 6 := Nat.pow_le_pow_right (by omega) (by omega)
          omega
        clear hmod htb h1 ex
        go_wp2
        go_roundg g
        case measure => omega
        case rel => exact ⟨k + 1, s + p, p + p, by omega, hsn, hpw, by omega, by omega, by omega, by omega, rfl, rfl, by first | rfl | simp, rfl⟩
      | false =>
        have h1 : toU b / 2 ^ k % 2 = 0 := by
          have h2 : ¬ toU b / 2 ^ k % 2 = 1 := by simpa using htb.symm
          omega
        have hsn : Hid (s = ((toU b % 2 ^ (k + 1) : Nat) : Int)) := by
          show s = _
          rw [hmod, h1, hs.out]; simp
        clear hmod htb h1 ex
        go_wp2
        go_roundg g
        case measure => omega
        case rel => exact ⟨k + 1, s, p + p, by omega, hsn, hpw, by omega, by omega, by omega, by omega, rfl, rfl, by first | rfl | simp, rfl⟩

set_option maxHeartbeats 1000000 in
theorem ref_8 (a b : Int) (R : Int) (b0 : -9223372036854775808 ≤ b) (b1 : b ≤ 9223372036854775807)
    (hR : Hid (∀ w : World, Calls Try.prog 84 #[.int .i64 a, .int .i64 (-((toU b % 64 : Nat) : Int))] w fun e w' => e = .returned (.int .i64 R) ∧ More w w')) (w : World) :
    Calls Try.prog 64 #[.int .i64 8, .int .i64 a, .int .i64 b] w fun e w' => e = .returned (.int .i64 R) ∧ More w w' := by
  go_enter Try.func64, Try.ntmps64
  go_wp2_with (fail)
  refine (bits_cells b b0 b1 _).mono ?_
  rintro e w1 ⟨cy, rfl, hy, m1⟩
  go_wp2_with (refine wpList_store_row rfl 130 (.tmp 7) (.tmp 41) rfl _ _ rfl rfl 130 _ (heap_alloc_last _ _) (info_of hy) (size_of hy) (one_of hy) ?_; rw [World.setRow_alloc_new])
  have H0 := (m1.alloc cy 130)
  have hsz := (size_of hy).symm
  go_loopg [8, 9, 10] 6 (fun g sv pv i wr => ∃ (k : Nat) (s p : Int), k + g = 6 ∧ Hid (s = ((toU b % 2 ^ k : Nat) : Int)) ∧ Hid (p = ((2 ^ k : Nat) : Int)) ∧ 0 ≤ s ∧ s < 64 ∧ 0 ≤ p ∧ p ≤ 64 ∧ sv = .int .i64 s ∧ pv = .int .i64 p ∧ i = .int .i64 k ∧ wr = w1.alloc (.cells cy 130))
  case atStart => exact ⟨0, 0, 1, by omega, by show (0 : Int) = _; simp [Nat.mod_one], rfl, by omega, by omega, by omega, by omega, rfl, rfl, rfl, rfl⟩
  case round =>
    obtain ⟨k, s, p, hkg, hs, hp, s0, s1, p0, p1, rfl, rfl, rfl, rfl⟩ := hrel
    cases gk with
    | zero =>
      obtain rfl : k = 6 := by omega
      have c := hR.out (w1.alloc (.cells cy 130))
      rw [show ((toU b % 64 : Nat) : Int) = s from hs.out.symm] at c
      go_wp2_with (fail)
      refine c.mono ?_
      rintro e w2 ⟨rfl, m2⟩
      go_wp2
      go_ret
      exact ⟨rfl, H0.trans m2⟩
    | succ g =>
      have hk : k < 6 := by omega
      have hk64 : k < 64 := by omega
      have hk' : (k : Int) < 64 := by omega
      have hk6 : (k : Int) < 6 := by omega
      obtain ⟨x, ex⟩ : ∃ x, (toU b).testBit k = x := ⟨_, rfl⟩
      have hcs : cy[k]'(by omega) = .bool x := by have h := get_of hy k (by omega); rw [ex] at h; exact (Array.getElem?_eq_some_iff.1 h).2
      have hpw : Hid (p + p = ((2 ^ (k + 1) : Nat) : Int)) := by show p + p = _; rw [hp.out, Nat.pow_succ]; omega
      have hpb : p ≤ 32 := by
        rw [hp.out]
        have : 2 ^ k ≤ 2 ^ 5 := Nat.pow_le_pow_right (by omega) (by omega)
        omega
      have hmod : toU b % 2 ^ (k + 1) = toU b % 2 ^ k + 2 ^ k * (toU b / 2 ^ k % 2) := Nat.mod_pow_succ
      have htb := Nat.testBit_eq_decide_div_mod_eq (x := toU b) (i := k)
      rw [ex] at htb
      cases x with
      | true =>
        have h1 : toU b / 2 ^ k % 2 = 1 := by simpa using htb.symm
        have hsn : Hid (s + p = ((toU b % 2 ^ (k + 1) : Nat) : Int)) := by
          show s + p = _
          rw [hmod, h1, hs.out, hp.out]; push_cast; omega
        have hsb : s + p < 64 := by
          rw [hsn.out]
          have h2 : toU b % 2 ^ (k + 1) < 2 ^ (k + 1) := Nat.mod_lt _ (Nat.pow_pos (by decide))
          have h3 : 2 ^ (k + 1) ≤ 2 ^ 6 := Nat.pow_le_pow_right (by omega) (by omega)
          omega
        clear hmod htb h1 ex
        go_wp2
        go_roundg g
        case measure => omega
        case rel => exact ⟨k + 1, s + p, p + p, by omega, hsn, hpw, by omega, by omega, by omega, by omega, rfl, rfl, by first | rfl | simp, rfl⟩
      | false =>
        have h1 : toU b / 2 ^ k % 2 = 0 := by
          have h2 : ¬ toU b / 2 ^ k % 2 = 1 := by simpa using htb.symm
          omega
        have hsn : Hid (s = ((toU b % 2 ^ (k + 1) : Nat) : Int)) := by
          show s = _
          rw [hmod, h1, hs.out]; simp
        clear hmod htb h1 ex
        go_wp2
        go_roundg g
        case measure => omega
        case rel => exact ⟨k + 1, s, p + p, by omega, hsn, hpw, by omega, by omega, by omega, by omega, rfl, rfl, by first | rfl | simp, rfl⟩

theorem wrap_mod (n : Nat) : wrap64 ((n % 18446744073709551616 : Nat) : Int) = wrap64 (n : Int) := by unfold wrap64; omega
theorem wrap_back (a : Int) (a0 : -9223372036854775808 ≤ a) (a1 : a ≤ 9223372036854775807) : wrap64 ((toU a : Nat) : Int) = a := by rw [toU_cast]; unfold wrap64; omega
theorem wrap_nil : wrap64 ((0 : Nat) : Int) = 0 := by unfold wrap64; omega

theorem shift_up (a b : Int) (a0 : -9223372036854775808 ≤ a) (a1 : a ≤ 9223372036854775807) (w : World) :
    Calls Try.prog 84 #[.int .i64 a, .int .i64 (((toU b % 64 : Nat)) : Int)] w fun e w' => e = .returned (.int .i64 (wrap64 ((toU a * 2 ^ (toU b % 64) : Nat) : Int))) ∧ More w w' := by
  have hs : toU b % 64 < 64 := Nat.mod_lt _ (by decide)
  generalize toU b % 64 = s at *
  rw [← wrap_mod]
  refine shift_calls a (s : Int) _ a0 a1 (by omega) (by omega) (Nat.mod_lt _ (by decide)) ?_ w
  show ∀ k, _
  intro k hk
  have e : (18446744073709551616 : Nat) = 2 ^ 64 := by decide
  rw [e, Nat.testBit_mod_two_pow, Nat.testBit_mul_two_pow]
  by_cases h : s ≤ k
  · have h1 : ((k : Int) - (s : Int)).toNat = k - s := by omega
    have h2 : (0 ≤ (k : Int) - (s : Int) ∧ (k : Int) - (s : Int) < 64) := by omega
    rw [h1]; simp [hk, h, h2]
  · have h2 : ¬ (0 ≤ (k : Int) - (s : Int) ∧ (k : Int) - (s : Int) < 64) := by omega
    simp only [h, h2]; simp

theorem shift_down (a b : Int) (a0 : -9223372036854775808 ≤ a) (a1 : a ≤ 9223372036854775807) (w : World) :
    Calls Try.prog 84 #[.int .i64 a, .int .i64 (-(((toU b % 64 : Nat)) : Int))] w fun e w' => e = .returned (.int .i64 (wrap64 ((toU a / 2 ^ (toU b % 64) : Nat) : Int))) ∧ More w w' := by
  have hs : toU b % 64 < 64 := Nat.mod_lt _ (by decide)
  generalize toU b % 64 = s at *
  refine shift_calls a (-(s : Int)) _ a0 a1 (by omega) (by omega) (Nat.lt_of_le_of_lt (Nat.div_le_self _ _) (toU_lt a)) ?_ w
  show ∀ k, _
  intro k hk
  have h1 : ((k : Int) - -(s : Int)).toNat = k + s := by omega
  rw [Nat.testBit_div_two_pow, h1]
  by_cases h : k + s < 64
  · rw [decide_eq_true (by omega), Bool.true_and]
  · have h2 : ¬ (0 ≤ (k : Int) - -(s : Int) ∧ (k : Int) - -(s : Int) < 64) := by omega
    have h3 : (toU a).testBit (k + s) = false := Nat.testBit_lt_two_pow (Nat.lt_of_lt_of_le (toU_lt a) (by
      have : 2 ^ 64 ≤ 2 ^ (k + s) := Nat.pow_le_pow_right (by decide) (by omega)
      omega))
    rw [h3]; simp

/-- evenkeelref1.Op, whatever the operation. -/
theorem ref_op (op a b : Int) (a0 : -9223372036854775808 ≤ a) (a1 : a ≤ 9223372036854775807) (b0 : -9223372036854775808 ≤ b) (b1 : b ≤ 9223372036854775807) (w : World) :
    Calls Try.prog 64 #[.int .i64 op, .int .i64 a, .int .i64 b] w fun e w' => e = .returned (.int .i64 (opI op a b)) ∧ More w w' := by
  by_cases h : op < 1 ∨ 10 < op
  · rw [show opI op a b = 0 by unfold opI; rw [if_neg (by omega), if_neg (by omega), if_neg (by omega), if_neg (by omega), if_neg (by omega), if_neg (by omega), if_neg (by omega), if_neg (by omega), if_neg (by omega), if_neg (by omega)]]
    exact ref_other op a b w h
  have hs : op = 1 ∨ op = 2 ∨ op = 3 ∨ op = 4 ∨ op = 5 ∨ op = 6 ∨ op = 7 ∨ op = 8 ∨ op = 9 ∨ op = 10 := by omega
  rcases hs with rfl | rfl | rfl | rfl | rfl | rfl | rfl | rfl | rfl | rfl
  · rw [opI_1]; exact ref_1 a b w
  · rw [opI_2]; exact ref_2 a b w
  · rw [opI_3]; exact ref_3 a b w
  · rw [opI_4]; exact ref_4 a b a0 a1 b0 b1 w
  · rw [opI_5]; exact ref_5 a b a0 a1 b0 b1 w
  · rw [opI_6]; exact ref_6 a b a0 a1 b0 b1 w
  · rw [opI_7]; exact ref_7 a b _ b0 b1 (fun w => shift_up a b a0 a1 w) w
  · rw [opI_8]; exact ref_8 a b _ b0 b1 (fun w => shift_down a b a0 a1 w) w
  · by_cases hb : b = 0
    · subst hb
      rw [opI_9, show toU 0 = 0 by unfold toU; omega, Nat.div_zero, wrap_nil]
      exact ref_9_zero a w
    · rw [opI_9]; exact ref_9_more a b a0 a1 b0 b1 (by simp [hb]) w
  · by_cases hb : b = 0
    · subst hb
      rw [opI_10, show toU 0 = 0 by unfold toU; omega, Nat.mod_zero, wrap_back a a0 a1]
      exact ref_10_zero a w
    · rw [opI_10]; exact ref_10_more a b a0 a1 b0 b1 (by simp [hb]) w

/-! ### Holds -/
theorem rh_1 (a b : Int) (w : World) :
    Calls Try.prog 40 #[.int .i64 1, .int .i64 a, .int .i64 b] w fun e w' => e = .returned (.bool (a == b)) ∧ More w w' := by
  go_enter Try.func40, Try.ntmps40
  go_wp2
  go_ret
  exact ⟨rfl, More.refl _⟩
theorem rh_2 (a b : Int) (w : World) :
    Calls Try.prog 40 #[.int .i64 2, .int .i64 a, .int .i64 b] w fun e w' => e = .returned (.bool (a != b)) ∧ More w w' := by
  go_enter Try.func40, Try.ntmps40
  go_wp2
  go_ret
  exact ⟨rfl, More.refl _⟩
theorem rh_3 (a b : Int) (v : Bool) (hv : ∀ w : World, Calls Try.prog 63 #[.int .i64 a, .int .i64 b] w fun e w' => e = .returned (.bool v) ∧ w' = w) (w : World) :
    Calls Try.prog 40 #[.int .i64 3, .int .i64 a, .int .i64 b] w fun e w' => e = .returned (.bool v) ∧ More w w' := by
  go_enter Try.func40, Try.ntmps40
  go_wp2_with (fail)
  refine (hv w).mono ?_
  rintro e w' ⟨rfl, hw⟩
  rw [hw]
  go_wp2
  go_ret
  exact ⟨rfl, More.refl _⟩
theorem rh_4 (a b : Int) (v : Bool) (hv : ∀ w : World, Calls Try.prog 63 #[.int .i64 a, .int .i64 b] w fun e w' => e = .returned (.bool v) ∧ w' = w) (w : World) :
    Calls Try.prog 40 #[.int .i64 4, .int .i64 a, .int .i64 b] w fun e w' => e = .returned (.bool !v) ∧ More w w' := by
  go_enter Try.func40, Try.ntmps40
  go_wp2_with (fail)
  refine (hv w).mono ?_
  rintro e w' ⟨rfl, hw⟩
  rw [hw]
  go_wp2
  go_ret
  exact ⟨rfl, More.refl _⟩
theorem rh_other (c a b : Int) (w : World) (h1 : (c == 1) = false) (h2 : (c == 2) = false) (h3 : (c == 3) = false) (h4 : (c == 4) = false) :
    Calls Try.prog 40 #[.int .i64 c, .int .i64 a, .int .i64 b] w fun e w' => e = .returned (.bool false) ∧ More w w' := by
  go_enter Try.func40, Try.ntmps40
  go_wp2
  go_ret
  exact ⟨rfl, More.refl _⟩

/-- evenkeelref1.Holds, whatever the condition. -/
theorem ref_holds (c a b : Int) (a0 : -9223372036854775808 ≤ a) (a1 : a ≤ 9223372036854775807) (b0 : -9223372036854775808 ≤ b) (b1 : b ≤ 9223372036854775807) (w : World) :
    Calls Try.prog 40 #[.int .i64 c, .int .i64 a, .int .i64 b] w fun e w' => e = .returned (.bool (holdsI c a b)) ∧ More w w' := by
  by_cases h1 : c = 1
  · subst h1
    rw [show holdsI 1 a b = (a == b) by simp only [holdsI]; rw [Bool.eq_iff_iff]; simp; unfold toU; omega]
    exact rh_1 a b w
  by_cases h2 : c = 2
  · subst h2
    rw [show holdsI 2 a b = (a != b) by simp only [holdsI]; rw [Bool.eq_iff_iff]; simp; unfold toU; omega]
    exact rh_2 a b w
  by_cases h3 : c = 3
  · subst h3
    rw [show holdsI 3 a b = decide (toU a < toU b) by simp [holdsI]]
    exact rh_3 a b _ (fun w => below_calls a b a0 a1 b0 b1 w) w
  by_cases h4 : c = 4
  · subst h4
    rw [show holdsI 4 a b = !decide (toU a < toU b) by simp [holdsI]; rw [Bool.eq_iff_iff]; simp]
    exact rh_4 a b _ (fun w => below_calls a b a0 a1 b0 b1 w) w
  rw [show holdsI c a b = false by simp [holdsI, *]]
  exact rh_other c a b w (by simp [h1]) (by simp [h2]) (by simp [h3]) (by simp [h4])

end Go.Proofs.Ytkeeimdhlbdigab

/-
  What the reference's Put, Index, Base and Registers come to, called in whatever memory.
-/
namespace Go.Proofs.Ytkeeimdhlbdigab
open Go.RowKit

theorem ref_put (op a b c n : Int) (w : World) :
    Calls Try.prog 39 #[.agg #[.int .i64 op, .int .i64 a, .int .i64 b, .int .i64 c, .int .i64 n]] w fun e w' => e = .returned (.int .i64 (putI ⟨op, a, b, c, n⟩)) ∧ More w w' := by
  by_cases h3 : op = 3
  · subst h3
    go_enter Try.func39, Try.ntmps39
    go_wp2
    go_ret
    exact ⟨by simp [putI], (More.refl _).alloc _ _⟩
  by_cases h5 : op = 5
  · subst h5
    go_enter Try.func39, Try.ntmps39
    go_wp2
    go_ret
    exact ⟨by simp [putI], (More.refl _).alloc _ _⟩
  by_cases h4 : op = 4
  · subst h4
    go_enter Try.func39, Try.ntmps39
    go_wp2
    go_ret
    exact ⟨by simp [putI], (More.refl _).alloc _ _⟩
  by_cases h6 : op = 6
  · subst h6
    go_enter Try.func39, Try.ntmps39
    go_wp2
    go_ret
    exact ⟨by simp [putI], (More.refl _).alloc _ _⟩
  obtain ⟨P, hP⟩ : ∃ P, putI ⟨op, a, b, c, n⟩ = P := ⟨_, rfl⟩
  have HP : Hid (P = -1) := (show P = -1 by rw [← hP]; unfold putI; dsimp only; rw [if_neg (by omega), if_neg (by omega)])
  rw [hP, HP.out]
  clear hP HP
  go_enter Try.func39, Try.ntmps39
  go_wp2
  go_ret
  exact ⟨rfl, (More.refl _).alloc _ _⟩

theorem ref_index_k (op a b c n : Int) (sv : Value) (h : op = 5 ∨ op = 6) (w : World) :
    Calls Try.prog 41 #[sv, .agg #[.int .i64 op, .int .i64 a, .int .i64 b, .int .i64 c, .int .i64 n]] w fun e w' => e = .returned (.int .i64 n) ∧ More w w' := by
  rcases h with rfl | rfl
  all_goals
    go_enter Try.func41, Try.ntmps41
    go_wp2
    go_ret
    exact ⟨rfl, (More.refl _).alloc _ _⟩

set_option maxHeartbeats 400000 in
theorem ref_index_r (op a b c n : Int) (g : Nat) {gc : Nat} (x : Int) (h5 : ¬ op = 5) (h6 : ¬ op = 6) (hb : 0 ≤ b) (hb' : b < 10) (w : World) (hx : w.cell? ⟨g, b.toNat, none⟩ = some (.int .i64 x)) :
    Calls Try.prog 41 #[.slice (some ⟨g, 0, none⟩) 10 gc, .agg #[.int .i64 op, .int .i64 a, .int .i64 b, .int .i64 c, .int .i64 n]] w fun e w' => e = .returned (.int .i64 (wrap64 (x + n))) ∧ More w w' := by
  obtain ⟨W, HW⟩ : ∃ W : World, Hid (W = w.alloc (.cells #[.int .i64 op, .int .i64 a, .int .i64 b, .int .i64 c, .int .i64 n] 67)) := ⟨_, rfl⟩
  have Hw : Hid (More w W) := HW.out ▸ (More.refl _).alloc _ _
  obtain ⟨S, HS⟩ : ∃ S : World → Prop, Hid (∀ w', S w' ↔ More W w') := ⟨fun w' => More W w', fun _ => Iff.rfl⟩
  have k0 : ∀ i : { w' // S w' }, i.val.cell? ⟨g, b.toNat, none⟩ = some (.int .i64 x) := fun i => ((HS.out _).1 i.property).cell (Hw.out.cell hx)
  have k2 : ∀ i : { w' // S w' }, i.val.cell? ⟨w.heap.size, 2, none⟩ = some (.int .i64 b) := fun i => ((HS.out _).1 i.property).cell (by rw [HW.out]; go_simp)
  have k4 : ∀ i : { w' // S w' }, i.val.cell? ⟨w.heap.size, 4, none⟩ = some (.int .i64 n) := fun i => ((HS.out _).1 i.property).cell (by rw [HW.out]; go_simp)
  have hne : Nonempty { w' // S w' } := ⟨⟨W, (HS.out _).2 (More.refl _)⟩⟩
  have hwr := wrapEq
  have t5 : (op == 5) = false := by simp [h5]
  have t6 : (op == 6) = false := by simp [h6]
  clear hx h5 h6
  go_enter Try.func41, Try.ntmps41
  go_wp2_with (fail)
  refine wp_region_ord (S := S) [(0, true), (1, true), (2, true), (3, true), (4, true), (5, true), (6, true), (7, true), (8, true)] (by kernel_rfl) (by kernel_rfl) (by kernel_rfl) ((HS.out _).2 (by rw [HW.out]; exact (More.refl _).drew)) ?_
  iterate 9 (refine wpOrd_take rfl (by kernel_rfl) (fun K hK => ?_); go_simp; refine hK _ _ ?_; clear hK K)
  refine wpOrd_done ?_
  clear k0 k2 k4 hne
  go_wp2
  go_ret
  exact ⟨rfl, ((More.refl _).alloc _ _).drew⟩

set_option maxHeartbeats 400000 in
theorem ref_base (ra : Option Addr) (rl rc : Nat) (ca : Option Addr) (cl cc : Nat) (c : Int) (rb ro : Nat) (log : Nat → Int) (sec : Nat → Bool) (w : World) (h0 : 0 ≤ c) (h1 : c < (rl : Int))
    (hra : 0 < rl → ra = some ⟨rb, ro, none⟩) (hr : RegsAt w rb ro rl log sec) (hok : RegionsOk rl log) :
    Calls Try.prog 42 #[.agg #[.slice ra rl rc, .slice ca cl cc], .int .i64 c] w fun e w' => e = .returned (.int .i64 (baseI log c.toNat)) ∧ More w w' := by
  obtain ⟨k0, rfl⟩ : ∃ k : Nat, c = k := ⟨c.toNat, by omega⟩
  have Hr : Hid (RegsAt w rb ro rl log sec ∧ RegionsOk rl log) := ⟨hr, hok⟩
  obtain rfl := hra (by omega)
  have hk0 : k0 < rl := by omega
  have h6 : rl ≤ 6 := hok.1
  obtain ⟨R, HR⟩ : ∃ R, Hid (baseI log k0 = R) := ⟨_, rfl⟩
  rw [show ((k0 : Int)).toNat = k0 by omega, HR.out]
  clear hra hr hok h0 h1
  go_enter Try.func42, Try.ntmps42
  go_wp2
  go_loopg [5, 6] k0 (fun g nv i wr => ∃ (k : Nat) (m : Int), k + g = k0 ∧ m = baseI log k ∧ (0 ≤ m ∧ m ≤ 64 * k) ∧ nv = .int .i64 m ∧ i = .int .i64 k ∧ More (w.alloc (.cells #[.slice (some ⟨rb, ro, none⟩) rl rc, .slice ca cl cc] 30)) wr)
  case atStart => exact ⟨0, 0, by omega, rfl, by omega, rfl, rfl, More.refl _⟩
  case round =>
    obtain ⟨k, m, hkg, hm, ⟨b0, b1⟩, rfl, rfl, mm⟩ := hrel
    have e0 : wr.cell? ⟨w.heap.size, 0, none⟩ = some (.slice (some ⟨rb, ro, none⟩) rl rc) := mm.cell (by go_simp)
    have e1 : wr.cell? ⟨w.heap.size, 1, none⟩ = some (.slice ca cl cc) := mm.cell (by go_simp)
    have Hm : Hid (m = baseI log k ∧ More (w.alloc (.cells #[.slice (some ⟨rb, ro, none⟩) rl rc, .slice ca cl cc] 30)) wr) := ⟨hm, mm⟩
    clear hm mm
    cases gk with
    | zero =>
      obtain rfl : k = k0 := by omega
      go_wp2
      go_ret
      exact ⟨congrArg (fun n => Ending.returned (.int .i64 n)) (Hm.out.1.trans HR.out), ((More.refl _).alloc _ _).trans Hm.out.2⟩
    | succ g =>
      have hk : k < rl := by omega
      have hk' : (k : Int) < (k0 : Int) := by omega
      have hkr : (k : Int) < (rl : Int) := by omega
      have hk1 : (0 : Int) ≤ (k : Int) := by omega
      have mw : More w wr := ((More.refl _).alloc _ _).trans Hm.out.2
      have q0 := ((Hr.out.1.more mw) k hk).1
      have q1 := ((Hr.out.1.more mw) k hk).2
      clear mw
      have Hlog : Hid (0 ≤ log k ∧ log k ≤ 6) := Hr.out.2.2 k hk
      obtain ⟨lk, hlk⟩ : ∃ x, log k = x := ⟨_, rfl⟩
      rw [hlk] at q0 Hlog
      have Hlk : Hid (log k = lk) := hlk
      clear hlk
      go_wp2_with (fail)
      obtain ⟨nw, hnw⟩ : ∃ x, wordsI lk = x := ⟨_, rfl⟩
      refine (ref_words lk Hlog.out.1 Hlog.out.2 (sec k) _).mono ?_
      rw [hnw]
      have hnb : 1 ≤ nw ∧ nw ≤ 64 := by
        rw [← hnw]
        exact two_pow_le (k := lk.toNat) (by have := Hlog.out; omega)
      have Hnw : Hid (wordsI (log k) = nw) := by rw [Hlk.out]; exact hnw
      clear hnw q0 q1
      rintro e w2 ⟨rfl, m2⟩
      have Hm2 : Hid (More (w.alloc (.cells #[.slice (some ⟨rb, ro, none⟩) rl rc, .slice ca cl cc] 30)) w2) := Hm.out.2.trans m2
      clear m2 e0 e1
      go_wp2
      go_roundg g
      case measure => omega
      case rel =>
        refine ⟨k + 1, m + nw, by omega, by rw [baseI, ← Hm.out.1, Hnw.out], by push_cast; omega, ?_, by first | rfl | simp, Hm2.out⟩
        first | rfl | (simp; unfold wrap64; omega)

set_option maxHeartbeats 400000 in
theorem reg_1 (a b c n : Int) (g : Nat) {gc : Nat} (r : Nat → Int) (w : World) (hr : RegsR w g r) (a0 : 0 ≤ a) (a1 : a < 10) :
    Calls Try.prog 43 #[.slice (some ⟨g, 0, none⟩) 10 gc, .agg #[.int .i64 1, .int .i64 a, .int .i64 b, .int .i64 c, .int .i64 n]] w fun e w' => e = .returned (.slice none 0 0) ∧ RegsR w' g (setR r a n) ∧ w.grownBy w' (some g) := by
  have Hr : Hid (RegsR w g r) := hr
  have hrW : RegsR (w.alloc (.cells #[.int .i64 1, .int .i64 a, .int .i64 b, .int .i64 c, .int .i64 n] 67)) g r := hr.alloc _ _
  have hg : g < w.heap.size := cell_block (hr 0 (by omega)).1
  have ca := (hr a.toNat (by omega)).1
  have fa := (hr a.toNat (by omega)).2
  clear hr hrW
  go_enter Try.func43, Try.ntmps43
  go_wp2
  go_ret
  exact ⟨rfl, (by repeat (first | exact Hr.out | apply RegsR.drew | apply RegsR.alloc | apply RegsR.set)), (by repeat (first | exact grown_refl _ _ | apply gr_drew | apply gr_alloc | apply gr_set))⟩

set_option maxHeartbeats 400000 in
theorem reg_12 (a b c n : Int) (g : Nat) {gc : Nat} (r : Nat → Int) (w : World) (hr : RegsR w g r) :
    Calls Try.prog 43 #[.slice (some ⟨g, 0, none⟩) 10 gc, .agg #[.int .i64 12, .int .i64 a, .int .i64 b, .int .i64 c, .int .i64 n]] w fun e w' => e = .returned (.slice none 0 0) ∧ RegsR w' g (r) ∧ w.grownBy w' (some g) := by
  have Hr : Hid (RegsR w g r) := hr
  have hrW : RegsR (w.alloc (.cells #[.int .i64 12, .int .i64 a, .int .i64 b, .int .i64 c, .int .i64 n] 67)) g r := hr.alloc _ _
  have hg : g < w.heap.size := cell_block (hr 0 (by omega)).1
  clear hr hrW
  go_enter Try.func43, Try.ntmps43
  go_wp2
  go_ret
  exact ⟨rfl, (by repeat (first | exact Hr.out | apply RegsR.drew | apply RegsR.alloc | apply RegsR.set)), (by repeat (first | exact grown_refl _ _ | apply gr_drew | apply gr_alloc | apply gr_set))⟩

set_option maxHeartbeats 400000 in
theorem reg_2 (a b c n : Int) (g : Nat) {gc : Nat} (r : Nat → Int) (w : World) (hr : RegsR w g r) (a0 : 0 ≤ a) (a1 : a < 10) (b0 : 0 ≤ b) (b1 : b < 10) :
    Calls Try.prog 43 #[.slice (some ⟨g, 0, none⟩) 10 gc, .agg #[.int .i64 2, .int .i64 a, .int .i64 b, .int .i64 c, .int .i64 n]] w fun e w' => e = .returned (.slice none 0 0) ∧ RegsR w' g (setR r a (r b.toNat)) ∧ w.grownBy w' (some g) := by
  have Hr : Hid (RegsR w g r) := hr
  have hrW : RegsR (w.alloc (.cells #[.int .i64 2, .int .i64 a, .int .i64 b, .int .i64 c, .int .i64 n] 67)) g r := hr.alloc _ _
  have hg : g < w.heap.size := cell_block (hr 0 (by omega)).1
  have ca := (hr a.toNat (by omega)).1
  have fa := (hr a.toNat (by omega)).2
  have cb := (hr b.toNat (by omega)).1
  have fb := (hr b.toNat (by omega)).2
  obtain ⟨S, HS⟩ : ∃ S : World → Prop, Hid (∀ w', S w' ↔ w'.cell? ⟨w.heap.size, 1, none⟩ = some (.int .i64 a) ∧ w'.cell? ⟨w.heap.size, 2, none⟩ = some (.int .i64 b)) := ⟨_, fun _ => Iff.rfl⟩
  have k1 : ∀ i : { w' // S w' }, i.val.cell? ⟨w.heap.size, 1, none⟩ = some (.int .i64 a) := fun i => ((HS.out _).1 i.property).1
  have k2 : ∀ i : { w' // S w' }, i.val.cell? ⟨w.heap.size, 2, none⟩ = some (.int .i64 b) := fun i => ((HS.out _).1 i.property).2
  have hne : Nonempty { w' // S w' } := ⟨⟨w.alloc (.cells #[.int .i64 2, .int .i64 a, .int .i64 b, .int .i64 c, .int .i64 n] 67), (HS.out _).2 (by go_simp)⟩⟩
  clear hr hrW
  go_enter Try.func43, Try.ntmps43
  go_wp2_with (fail)
  refine wp_region_ord (S := S) [(0, true), (1, true), (2, true), (3, true), (4, true), (5, true), (6, true), (7, false), (8, true), (9, false)] (by kernel_rfl) (by kernel_rfl) (by kernel_rfl) ((HS.out _).2 (by go_simp)) ?_
  iterate 7 (refine wpOrd_take rfl (by kernel_rfl) (fun K hK => ?_); go_simp; refine hK _ _ ?_; clear hK K)
  refine wpOrd_busy rfl (by kernel_rfl) (fun K hK => ?_); go_simp
  refine hK _ _ ((HS.out _).2 (by go_simp)) ?_; clear hK K
  refine wpOrd_take rfl (by kernel_rfl) (fun K hK => ?_); go_simp; refine hK _ _ ?_; clear hK K
  refine wpOrd_busy rfl (by kernel_rfl) (fun K hK => ?_); go_simp
  refine hK _ _ ((HS.out _).2 (by go_simp)) ?_; clear hK K
  refine wpOrd_done ?_
  clear k1 k2 hne
  go_wp2
  go_ret
  exact ⟨rfl, (by repeat (first | exact Hr.out | apply RegsR.drew | apply RegsR.alloc | apply RegsR.set)), (by repeat (first | exact grown_refl _ _ | apply gr_drew | apply gr_alloc | apply gr_set))⟩

set_option maxHeartbeats 400000 in
theorem reg_10 (a b c n : Int) (g : Nat) {gc : Nat} (r : Nat → Int) (w : World) (hr : RegsR w g r) (a0 : 0 ≤ a) (a1 : a < 10) (b0 : 0 ≤ b) (b1 : b < 10) :
    Calls Try.prog 43 #[.slice (some ⟨g, 0, none⟩) 10 gc, .agg #[.int .i64 10, .int .i64 a, .int .i64 b, .int .i64 c, .int .i64 n]] w fun e w' => e = .returned (.slice none 0 0) ∧ RegsR w' g (setR r a (wrap64 (r b.toNat + n))) ∧ w.grownBy w' (some g) := by
  have Hr : Hid (RegsR w g r) := hr
  have hrW : RegsR (w.alloc (.cells #[.int .i64 10, .int .i64 a, .int .i64 b, .int .i64 c, .int .i64 n] 67)) g r := hr.alloc _ _
  have hg : g < w.heap.size := cell_block (hr 0 (by omega)).1
  have ca := (hr a.toNat (by omega)).1
  have fa := (hr a.toNat (by omega)).2
  have cb := (hr b.toNat (by omega)).1
  have fb := (hr b.toNat (by omega)).2
  obtain ⟨S, HS⟩ : ∃ S : World → Prop, Hid (∀ w', S w' ↔ w'.cell? ⟨w.heap.size, 1, none⟩ = some (.int .i64 a) ∧ w'.cell? ⟨w.heap.size, 2, none⟩ = some (.int .i64 b) ∧ w'.cell? ⟨w.heap.size, 4, none⟩ = some (.int .i64 n)) := ⟨_, fun _ => Iff.rfl⟩
  have k1 : ∀ i : { w' // S w' }, i.val.cell? ⟨w.heap.size, 1, none⟩ = some (.int .i64 a) := fun i => ((HS.out _).1 i.property).1
  have k2 : ∀ i : { w' // S w' }, i.val.cell? ⟨w.heap.size, 2, none⟩ = some (.int .i64 b) := fun i => ((HS.out _).1 i.property).2.1
  have k4 : ∀ i : { w' // S w' }, i.val.cell? ⟨w.heap.size, 4, none⟩ = some (.int .i64 n) := fun i => ((HS.out _).1 i.property).2.2
  have hne : Nonempty { w' // S w' } := ⟨⟨w.alloc (.cells #[.int .i64 10, .int .i64 a, .int .i64 b, .int .i64 c, .int .i64 n] 67), (HS.out _).2 (by go_simp)⟩⟩
  have hwr := wrapEq
  clear hr hrW
  go_enter Try.func43, Try.ntmps43
  go_wp2_with (fail)
  refine wp_region_ord (S := S) [(0, true), (1, true), (2, true), (3, true), (4, true), (5, true), (6, true), (8, true), (9, true), (7, false), (10, true), (11, true), (12, false)] (by kernel_rfl) (by kernel_rfl) (by kernel_rfl) ((HS.out _).2 (by go_simp)) ?_
  iterate 9 (refine wpOrd_take rfl (by kernel_rfl) (fun K hK => ?_); go_simp; refine hK _ _ ?_; clear hK K)
  refine wpOrd_busy rfl (by kernel_rfl) (fun K hK => ?_); go_simp
  refine hK _ _ ((HS.out _).2 (by go_simp)) ?_; clear hK K
  iterate 2 (refine wpOrd_take rfl (by kernel_rfl) (fun K hK => ?_); go_simp; refine hK _ _ ?_; clear hK K)
  refine wpOrd_busy rfl (by kernel_rfl) (fun K hK => ?_); go_simp
  refine hK _ _ ((HS.out _).2 (by go_simp)) ?_; clear hK K
  refine wpOrd_done ?_
  clear k1 k2 k4 hne
  go_wp2
  go_ret
  exact ⟨rfl, (by repeat (first | exact Hr.out | apply RegsR.drew | apply RegsR.alloc | apply RegsR.set)), (by repeat (first | exact grown_refl _ _ | apply gr_drew | apply gr_alloc | apply gr_set))⟩

set_option maxHeartbeats 1000000 in
theorem reg_11_lo (a b c n : Int) (g : Nat) {gc : Nat} (r : Nat → Int) (x : Int) (w : World) (hr : RegsR w g r) (hx : r a.toNat = x) (a0 : 0 ≤ a) (a1 : a < 10) (hlo : x < 0) :
    Calls Try.prog 43 #[.slice (some ⟨g, 0, none⟩) 10 gc, .agg #[.int .i64 11, .int .i64 a, .int .i64 b, .int .i64 c, .int .i64 n]] w fun e w' => e = .returned (.slice none 0 0) ∧ RegsR w' g (setR r a 0) ∧ w.grownBy w' (some g) := by
  have Hr : Hid (RegsR w g r) := hr
  have hrW : RegsR (w.alloc (.cells #[.int .i64 11, .int .i64 a, .int .i64 b, .int .i64 c, .int .i64 n] 67)) g r := hr.alloc _ _
  have hg : g < w.heap.size := cell_block (hr 0 (by omega)).1
  have ca := (hr a.toNat (by omega)).1
  have fa := (hr a.toNat (by omega)).2
  rw [hx] at ca
  obtain ⟨S, HS⟩ : ∃ S : World → Prop, Hid (∀ w', S w' ↔ w'.cell? ⟨w.heap.size, 1, none⟩ = some (.int .i64 a) ∧ w'.cell? ⟨w.heap.size, 4, none⟩ = some (.int .i64 n) ∧ w'.cell? ⟨g, a.toNat, none⟩ = some (.int .i64 x)) := ⟨_, fun _ => Iff.rfl⟩
  have k1 : ∀ i : { w' // S w' }, i.val.cell? ⟨w.heap.size, 1, none⟩ = some (.int .i64 a) := fun i => ((HS.out _).1 i.property).1
  have k4 : ∀ i : { w' // S w' }, i.val.cell? ⟨w.heap.size, 4, none⟩ = some (.int .i64 n) := fun i => ((HS.out _).1 i.property).2.1
  have kx : ∀ i : { w' // S w' }, i.val.cell? ⟨g, a.toNat, none⟩ = some (.int .i64 x) := fun i => ((HS.out _).1 i.property).2.2
  have hne : Nonempty { w' // S w' } := ⟨⟨w.alloc (.cells #[.int .i64 11, .int .i64 a, .int .i64 b, .int .i64 c, .int .i64 n] 67), (HS.out _).2 (by go_simp)⟩⟩
  clear hr hrW hx
  go_enter Try.func43, Try.ntmps43
  go_wp2_with (fail)
  refine wp_region_ord (S := S) [(0, true), (1, true), (2, true), (3, true), (4, true), (5, true), (6, true), (7, true), (8, true), (9, true), (10, true), (11, true), (12, true), (13, true), (14, true), (15, true)] (by kernel_rfl) (by kernel_rfl) (by kernel_rfl) ((HS.out _).2 (by go_simp)) ?_
  iterate 6 (refine wpOrd_take rfl (by kernel_rfl) (fun K hK => ?_); go_simp; refine hK _ _ ?_; clear hK K)
  refine wpOrd_move rfl rfl (by kernel_rfl) (fun K hK => ?_); go_simp; refine hK _ _ ?_; clear hK K
  iterate 8 (refine wpOrd_skip rfl ((HS.out _).2 (by go_simp)) (by kernel_rfl) (by kernel_rfl) ?_)
  refine wpOrd_pickT rfl rfl (by kernel_rfl) rfl (fun K hK => ?_); go_simp; refine hK _ _ ?_; clear hK K
  refine wpOrd_done ?_
  clear k1 k4 kx hne
  go_wp2
  go_ret
  exact ⟨rfl, (by repeat (first | exact Hr.out | apply RegsR.drew | apply RegsR.alloc | apply RegsR.set)), (by repeat (first | exact grown_refl _ _ | apply gr_drew | apply gr_alloc | apply gr_set))⟩

set_option maxHeartbeats 1000000 in
theorem reg_11_hi (a b c n : Int) (g : Nat) {gc : Nat} (r : Nat → Int) (x : Int) (w : World) (hr : RegsR w g r) (hx : r a.toNat = x) (a0 : 0 ≤ a) (a1 : a < 10) (hlo : ¬ x < 0) (hhi : n ≤ x) :
    Calls Try.prog 43 #[.slice (some ⟨g, 0, none⟩) 10 gc, .agg #[.int .i64 11, .int .i64 a, .int .i64 b, .int .i64 c, .int .i64 n]] w fun e w' => e = .returned (.slice none 0 0) ∧ RegsR w' g (setR r a 0) ∧ w.grownBy w' (some g) := by
  have Hr : Hid (RegsR w g r) := hr
  have hrW : RegsR (w.alloc (.cells #[.int .i64 11, .int .i64 a, .int .i64 b, .int .i64 c, .int .i64 n] 67)) g r := hr.alloc _ _
  have hg : g < w.heap.size := cell_block (hr 0 (by omega)).1
  have ca := (hr a.toNat (by omega)).1
  have fa := (hr a.toNat (by omega)).2
  rw [hx] at ca
  obtain ⟨S, HS⟩ : ∃ S : World → Prop, Hid (∀ w', S w' ↔ w'.cell? ⟨w.heap.size, 1, none⟩ = some (.int .i64 a) ∧ w'.cell? ⟨w.heap.size, 4, none⟩ = some (.int .i64 n) ∧ w'.cell? ⟨g, a.toNat, none⟩ = some (.int .i64 x)) := ⟨_, fun _ => Iff.rfl⟩
  have k1 : ∀ i : { w' // S w' }, i.val.cell? ⟨w.heap.size, 1, none⟩ = some (.int .i64 a) := fun i => ((HS.out _).1 i.property).1
  have k4 : ∀ i : { w' // S w' }, i.val.cell? ⟨w.heap.size, 4, none⟩ = some (.int .i64 n) := fun i => ((HS.out _).1 i.property).2.1
  have kx : ∀ i : { w' // S w' }, i.val.cell? ⟨g, a.toNat, none⟩ = some (.int .i64 x) := fun i => ((HS.out _).1 i.property).2.2
  have hne : Nonempty { w' // S w' } := ⟨⟨w.alloc (.cells #[.int .i64 11, .int .i64 a, .int .i64 b, .int .i64 c, .int .i64 n] 67), (HS.out _).2 (by go_simp)⟩⟩
  clear hr hrW hx
  go_enter Try.func43, Try.ntmps43
  go_wp2_with (fail)
  refine wp_region_ord (S := S) [(0, true), (1, true), (2, true), (3, true), (4, true), (5, true), (6, true), (7, true), (8, true), (9, true), (10, true), (11, true), (12, true), (13, true), (14, true), (15, true)] (by kernel_rfl) (by kernel_rfl) (by kernel_rfl) ((HS.out _).2 (by go_simp)) ?_
  have hd0 : decide (x < 0) = false := by simp; omega
  iterate 6 (refine wpOrd_take rfl (by kernel_rfl) (fun K hK => ?_); go_simp; refine hK _ _ ?_; clear hK K)
  refine wpOrd_move rfl rfl (by kernel_rfl) (fun K hK => ?_); go_simp; refine hK _ _ ?_; clear hK K
  iterate 8 (refine wpOrd_take rfl (by kernel_rfl) (fun K hK => ?_); go_simp; refine hK _ _ ?_; clear hK K)
  refine wpOrd_pickF rfl rfl (by kernel_rfl) rfl (fun K hK => ?_); go_simp; refine hK _ _ ?_; clear hK K
  refine wpOrd_done ?_
  clear k1 k4 kx hne
  go_wp2
  go_ret
  exact ⟨rfl, (by repeat (first | exact Hr.out | apply RegsR.drew | apply RegsR.alloc | apply RegsR.set)), (by repeat (first | exact grown_refl _ _ | apply gr_drew | apply gr_alloc | apply gr_set))⟩

set_option maxHeartbeats 1000000 in
theorem reg_11_in (a b c n : Int) (g : Nat) {gc : Nat} (r : Nat → Int) (x : Int) (w : World) (hr : RegsR w g r) (hx : r a.toNat = x) (a0 : 0 ≤ a) (a1 : a < 10) (hlo : ¬ x < 0) (hhi : x < n) :
    Calls Try.prog 43 #[.slice (some ⟨g, 0, none⟩) 10 gc, .agg #[.int .i64 11, .int .i64 a, .int .i64 b, .int .i64 c, .int .i64 n]] w fun e w' => e = .returned (.slice none 0 0) ∧ RegsR w' g (r) ∧ w.grownBy w' (some g) := by
  have Hr : Hid (RegsR w g r) := hr
  have hrW : RegsR (w.alloc (.cells #[.int .i64 11, .int .i64 a, .int .i64 b, .int .i64 c, .int .i64 n] 67)) g r := hr.alloc _ _
  have hg : g < w.heap.size := cell_block (hr 0 (by omega)).1
  have ca := (hr a.toNat (by omega)).1
  have fa := (hr a.toNat (by omega)).2
  rw [hx] at ca
  obtain ⟨S, HS⟩ : ∃ S : World → Prop, Hid (∀ w', S w' ↔ w'.cell? ⟨w.heap.size, 1, none⟩ = some (.int .i64 a) ∧ w'.cell? ⟨w.heap.size, 4, none⟩ = some (.int .i64 n) ∧ w'.cell? ⟨g, a.toNat, none⟩ = some (.int .i64 x)) := ⟨_, fun _ => Iff.rfl⟩
  have k1 : ∀ i : { w' // S w' }, i.val.cell? ⟨w.heap.size, 1, none⟩ = some (.int .i64 a) := fun i => ((HS.out _).1 i.property).1
  have k4 : ∀ i : { w' // S w' }, i.val.cell? ⟨w.heap.size, 4, none⟩ = some (.int .i64 n) := fun i => ((HS.out _).1 i.property).2.1
  have kx : ∀ i : { w' // S w' }, i.val.cell? ⟨g, a.toNat, none⟩ = some (.int .i64 x) := fun i => ((HS.out _).1 i.property).2.2
  have hne : Nonempty { w' // S w' } := ⟨⟨w.alloc (.cells #[.int .i64 11, .int .i64 a, .int .i64 b, .int .i64 c, .int .i64 n] 67), (HS.out _).2 (by go_simp)⟩⟩
  clear hr hrW hx
  go_enter Try.func43, Try.ntmps43
  go_wp2_with (fail)
  refine wp_region_ord (S := S) [(0, true), (1, true), (2, true), (3, true), (4, true), (5, true), (6, true), (7, true), (8, true), (9, true), (10, true), (11, true), (12, true), (13, true), (14, true), (15, true)] (by kernel_rfl) (by kernel_rfl) (by kernel_rfl) ((HS.out _).2 (by go_simp)) ?_
  have hd0 : decide (x < 0) = false := by simp; omega
  iterate 6 (refine wpOrd_take rfl (by kernel_rfl) (fun K hK => ?_); go_simp; refine hK _ _ ?_; clear hK K)
  refine wpOrd_move rfl rfl (by kernel_rfl) (fun K hK => ?_); go_simp; refine hK _ _ ?_; clear hK K
  iterate 7 (refine wpOrd_take rfl (by kernel_rfl) (fun K hK => ?_); go_simp; refine hK _ _ ?_; clear hK K)
  have hd : decide (n ≤ x) = false := by simp; omega
  iterate 1 (refine wpOrd_take rfl (by kernel_rfl) (fun K hK => ?_); go_simp; refine hK _ _ ?_; clear hK K)
  refine wpOrd_pickF rfl rfl (by kernel_rfl) rfl (fun K hK => ?_); go_simp; refine hK _ _ ?_; clear hK K
  refine wpOrd_done ?_
  clear k1 k4 kx hne
  go_wp2
  go_ret
  exact ⟨rfl, (by repeat (first | exact Hr.out | apply RegsR.drew | apply RegsR.alloc | apply RegsR.set)), (by repeat (first | exact grown_refl _ _ | apply gr_drew | apply gr_alloc | apply gr_set))⟩

set_option maxHeartbeats 1000000 in
theorem reg_op_no (op a b c n : Int) (g : Nat) {gc : Nat} (r : Nat → Int) (w : World) (hr : RegsR w g r) (o0 : 21 ≤ op) (o1 : op ≤ 30) (a0 : 0 ≤ a) (a1 : a < 10) (b0 : 0 ≤ b) (b1 : b < 10) (c0 : 0 ≤ c) (c1 : c < 10) (h29 : ¬ op = 29) (h30 : ¬ op = 30) (hb : B64 (r b.toNat)) (hc : B64 (r c.toNat)) :
    Calls Try.prog 43 #[.slice (some ⟨g, 0, none⟩) 10 gc, .agg #[.int .i64 op, .int .i64 a, .int .i64 b, .int .i64 c, .int .i64 n]] w fun e w' => e = .returned (.slice none 0 0) ∧ RegsR w' g (setR r a (opI (op - 20) (r b.toNat) (r c.toNat))) ∧ w.grownBy w' (some g) := by
  have Hr : Hid (RegsR w g r) := hr
  have hrW : RegsR (w.alloc (.cells #[.int .i64 op, .int .i64 a, .int .i64 b, .int .i64 c, .int .i64 n] 67)) g r := hr.alloc _ _
  have hg : g < w.heap.size := cell_block (hr 0 (by omega)).1
  have ca := (hr a.toNat (by omega)).1
  have fa := (hr a.toNat (by omega)).2
  have cb := (hr b.toNat (by omega)).1
  have fb := (hr b.toNat (by omega)).2
  have cx := (hr c.toNat (by omega)).1
  have fx := (hr c.toNat (by omega)).2
  obtain ⟨S, HS⟩ : ∃ S : World → Prop, Hid (∀ w', S w' ↔ w'.cell? ⟨w.heap.size, 0, none⟩ = some (.int .i64 op) ∧ w'.cell? ⟨w.heap.size, 1, none⟩ = some (.int .i64 a)) := ⟨_, fun _ => Iff.rfl⟩
  have k0 : ∀ i : { w' // S w' }, i.val.cell? ⟨w.heap.size, 0, none⟩ = some (.int .i64 op) := fun i => ((HS.out _).1 i.property).1
  have k1 : ∀ i : { w' // S w' }, i.val.cell? ⟨w.heap.size, 1, none⟩ = some (.int .i64 a) := fun i => ((HS.out _).1 i.property).2
  have hne : Nonempty { w' // S w' } := ⟨⟨w.alloc (.cells #[.int .i64 op, .int .i64 a, .int .i64 b, .int .i64 c, .int .i64 n] 67), (HS.out _).2 (by go_simp)⟩⟩
  have hwr := wrapEq
  have Hop : Hid (∀ w : World, Calls Try.prog 64 #[.int .i64 (op - 20), .int .i64 (r b.toNat), .int .i64 (r c.toNat)] w fun e w' => e = .returned (.int .i64 (opI (op - 20) (r b.toNat) (r c.toNat))) ∧ More w w') := fun w => ref_op _ _ _ hb.1 hb.2 hc.1 hc.2 w
  obtain ⟨v, hv⟩ : ∃ v, opI (op - 20) (r b.toNat) (r c.toNat) = v := ⟨_, rfl⟩
  rw [hv] at Hop
  rw [hv]
  have hs : wrap64 (op - 20) = op - 20 := by unfold wrap64; omega
  obtain ⟨q, hq⟩ : ∃ q, op - 20 = q := ⟨_, rfl⟩
  rw [hq] at Hop hs
  have t29 : (op == 29) = false := by simp [h29]
  have t30 : (op == 30) = false := by simp [h30]
  clear h29 h30
  clear hr hrW hb hc hv
  go_enter Try.func43, Try.ntmps43
  go_wp2_with (fail)
  refine wp_region_ord (S := S) [(0, true), (1, true), (2, true), (3, true), (4, true), (5, true), (6, true), (7, true), (8, false), (9, true), (10, false)] (by kernel_rfl) (by kernel_rfl) (by kernel_rfl) ((HS.out _).2 (by go_simp)) ?_
  iterate 8 (refine wpOrd_take rfl (by kernel_rfl) (fun K hK => ?_); go_simp; refine hK _ _ ?_; clear hK K)
  refine wpOrd_busy rfl (by kernel_rfl) (fun K hK => ?_); go_simp
  refine (Hop.out _).mono ?_
  rintro e w1 ⟨rfl, m1⟩
  have e0 : w1.cell? ⟨w.heap.size, 0, none⟩ = some (.int .i64 op) := m1.cell (by go_simp)
  have e1 : w1.cell? ⟨w.heap.size, 1, none⟩ = some (.int .i64 a) := m1.cell (by go_simp)
  have Hr1 : Hid (RegsR w1 g r) := ((Hr.out.alloc _ _).drew).more m1
  have c1a := (Hr1.out a.toNat (by omega)).1
  have f1a := (Hr1.out a.toNat (by omega)).2
  have Hg1 : Hid (w.grownBy w1 (some g)) := gr_more (gr_drew (gr_alloc (grown_refl _ _) _)) m1
  clear m1
  go_simp
  refine hK _ _ ((HS.out _).2 ⟨e0, e1⟩) ?_; clear hK K
  refine wpOrd_take rfl (by kernel_rfl) (fun K hK => ?_); go_simp; refine hK _ _ ?_; clear hK K
  refine wpOrd_busy rfl (by kernel_rfl) (fun K hK => ?_); go_simp
  have e0' : (w1.setCell ⟨g, a.toNat, none⟩ (.int .i64 v)).cell? ⟨w.heap.size, 0, none⟩ = some (.int .i64 op) := by rw [World.cell?_setCell_other _ _ _ _ (by simp <;> omega)]; exact e0
  have e1' : (w1.setCell ⟨g, a.toNat, none⟩ (.int .i64 v)).cell? ⟨w.heap.size, 1, none⟩ = some (.int .i64 a) := by rw [World.cell?_setCell_other _ _ _ _ (by simp <;> omega)]; exact e1
  refine hK _ _ ((HS.out _).2 ⟨e0', e1'⟩) ?_; clear hK K
  refine wpOrd_done ?_
  have Hr2 : Hid (RegsR (w1.setCell ⟨g, a.toNat, none⟩ (.int .i64 v)) g (setR r a v)) := Hr1.out.set a v
  have Hg2 : Hid (w.grownBy (w1.setCell ⟨g, a.toNat, none⟩ (.int .i64 v)) (some g)) := gr_set Hg1.out _ _
  obtain ⟨w3, hw3⟩ : ∃ w3, w1.setCell ⟨g, a.toNat, none⟩ (.int .i64 v) = w3 := ⟨_, rfl⟩
  rw [hw3] at e0' Hr2 Hg2 ⊢
  clear hw3 k0 k1 hne ca fa cb fb cx fx c1a f1a e0 e1 e1' hwr
  go_wp2
  go_ret
  exact ⟨rfl, Hr2.out, Hg2.out⟩

set_option maxHeartbeats 1000000 in
theorem reg_op_div (op a b c n : Int) (g : Nat) {gc : Nat} (r : Nat → Int) (w : World) (hr : RegsR w g r) (o0 : 21 ≤ op) (o1 : op ≤ 30) (a0 : 0 ≤ a) (a1 : a < 10) (b0 : 0 ≤ b) (b1 : b < 10) (c0 : 0 ≤ c) (c1 : c < 10) (h : op = 29) (hb : B64 (r b.toNat)) (hc : B64 (r c.toNat)) :
    Calls Try.prog 43 #[.slice (some ⟨g, 0, none⟩) 10 gc, .agg #[.int .i64 op, .int .i64 a, .int .i64 b, .int .i64 c, .int .i64 n]] w fun e w' => ∃ sv, e = .returned sv ∧ SeenAt w' sv ([⟨3, r b.toNat, r c.toNat⟩]) ∧ RegsR w' g (setR r a (opI (op - 20) (r b.toNat) (r c.toNat))) ∧ w.grownBy w' (some g) := by
  have Hr : Hid (RegsR w g r) := hr
  have hrW : RegsR (w.alloc (.cells #[.int .i64 op, .int .i64 a, .int .i64 b, .int .i64 c, .int .i64 n] 67)) g r := hr.alloc _ _
  have hg : g < w.heap.size := cell_block (hr 0 (by omega)).1
  have ca := (hr a.toNat (by omega)).1
  have fa := (hr a.toNat (by omega)).2
  have cb := (hr b.toNat (by omega)).1
  have fb := (hr b.toNat (by omega)).2
  have cx := (hr c.toNat (by omega)).1
  have fx := (hr c.toNat (by omega)).2
  obtain ⟨S, HS⟩ : ∃ S : World → Prop, Hid (∀ w', S w' ↔ w'.cell? ⟨w.heap.size, 0, none⟩ = some (.int .i64 op) ∧ w'.cell? ⟨w.heap.size, 1, none⟩ = some (.int .i64 a)) := ⟨_, fun _ => Iff.rfl⟩
  have k0 : ∀ i : { w' // S w' }, i.val.cell? ⟨w.heap.size, 0, none⟩ = some (.int .i64 op) := fun i => ((HS.out _).1 i.property).1
  have k1 : ∀ i : { w' // S w' }, i.val.cell? ⟨w.heap.size, 1, none⟩ = some (.int .i64 a) := fun i => ((HS.out _).1 i.property).2
  have hne : Nonempty { w' // S w' } := ⟨⟨w.alloc (.cells #[.int .i64 op, .int .i64 a, .int .i64 b, .int .i64 c, .int .i64 n] 67), (HS.out _).2 (by go_simp)⟩⟩
  have hwr := wrapEq
  have Hop : Hid (∀ w : World, Calls Try.prog 64 #[.int .i64 (op - 20), .int .i64 (r b.toNat), .int .i64 (r c.toNat)] w fun e w' => e = .returned (.int .i64 (opI (op - 20) (r b.toNat) (r c.toNat))) ∧ More w w') := fun w => ref_op _ _ _ hb.1 hb.2 hc.1 hc.2 w
  obtain ⟨v, hv⟩ : ∃ v, opI (op - 20) (r b.toNat) (r c.toNat) = v := ⟨_, rfl⟩
  rw [hv] at Hop
  rw [hv]
  have hs : wrap64 (op - 20) = op - 20 := by unfold wrap64; omega
  obtain ⟨q, hq⟩ : ∃ q, op - 20 = q := ⟨_, rfl⟩
  rw [hq] at Hop hs
  have Hh : Hid (op = 29) := h
  clear h
  clear hr hrW hb hc hv
  go_enter Try.func43, Try.ntmps43
  go_wp2_with (fail)
  refine wp_region_ord (S := S) [(0, true), (1, true), (2, true), (3, true), (4, true), (5, true), (6, true), (7, true), (8, false), (9, true), (10, false)] (by kernel_rfl) (by kernel_rfl) (by kernel_rfl) ((HS.out _).2 (by go_simp)) ?_
  iterate 8 (refine wpOrd_take rfl (by kernel_rfl) (fun K hK => ?_); go_simp; refine hK _ _ ?_; clear hK K)
  refine wpOrd_busy rfl (by kernel_rfl) (fun K hK => ?_); go_simp
  refine (Hop.out _).mono ?_
  rintro e w1 ⟨rfl, m1⟩
  have e0 : w1.cell? ⟨w.heap.size, 0, none⟩ = some (.int .i64 op) := m1.cell (by go_simp)
  have e1 : w1.cell? ⟨w.heap.size, 1, none⟩ = some (.int .i64 a) := m1.cell (by go_simp)
  have Hr1 : Hid (RegsR w1 g r) := ((Hr.out.alloc _ _).drew).more m1
  have c1a := (Hr1.out a.toNat (by omega)).1
  have f1a := (Hr1.out a.toNat (by omega)).2
  have Hg1 : Hid (w.grownBy w1 (some g)) := gr_more (gr_drew (gr_alloc (grown_refl _ _) _)) m1
  clear m1
  go_simp
  refine hK _ _ ((HS.out _).2 ⟨e0, e1⟩) ?_; clear hK K
  refine wpOrd_take rfl (by kernel_rfl) (fun K hK => ?_); go_simp; refine hK _ _ ?_; clear hK K
  refine wpOrd_busy rfl (by kernel_rfl) (fun K hK => ?_); go_simp
  have e0' : (w1.setCell ⟨g, a.toNat, none⟩ (.int .i64 v)).cell? ⟨w.heap.size, 0, none⟩ = some (.int .i64 op) := by rw [World.cell?_setCell_other _ _ _ _ (by simp <;> omega)]; exact e0
  have e1' : (w1.setCell ⟨g, a.toNat, none⟩ (.int .i64 v)).cell? ⟨w.heap.size, 1, none⟩ = some (.int .i64 a) := by rw [World.cell?_setCell_other _ _ _ _ (by simp <;> omega)]; exact e1
  refine hK _ _ ((HS.out _).2 ⟨e0', e1'⟩) ?_; clear hK K
  refine wpOrd_done ?_
  have Hr2 : Hid (RegsR (w1.setCell ⟨g, a.toNat, none⟩ (.int .i64 v)) g (setR r a v)) := Hr1.out.set a v
  have Hg2 : Hid (w.grownBy (w1.setCell ⟨g, a.toNat, none⟩ (.int .i64 v)) (some g)) := gr_set Hg1.out _ _
  obtain ⟨w3, hw3⟩ : ∃ w3, w1.setCell ⟨g, a.toNat, none⟩ (.int .i64 v) = w3 := ⟨_, rfl⟩
  rw [hw3] at e0' Hr2 Hg2 ⊢
  clear hw3 k0 k1 hne ca fa cb fb cx fx c1a f1a e0 e1 e1' hwr
  obtain rfl := Hh.out
  go_wp2
  go_ret
  refine ⟨_, rfl, ⟨some ⟨w3.heap.size, 0, none⟩, w3.heap.size, 0, 1, rfl, fun _ => rfl, fun i s h => ?_, by simp⟩, by repeat (first | exact Hr2.out | apply RegsR.drew | apply RegsR.alloc), by repeat (first | exact Hg2.out | apply gr_drew | apply gr_alloc)⟩
  have hi : i = 0 := by have := (List.getElem?_eq_some_iff.1 h).1; simp at this; omega
  subst hi
  simp at h
  subst h
  refine ⟨?_, ?_, ?_⟩ <;> go_simp

set_option maxHeartbeats 1000000 in
theorem reg_op_mod (op a b c n : Int) (g : Nat) {gc : Nat} (r : Nat → Int) (w : World) (hr : RegsR w g r) (o0 : 21 ≤ op) (o1 : op ≤ 30) (a0 : 0 ≤ a) (a1 : a < 10) (b0 : 0 ≤ b) (b1 : b < 10) (c0 : 0 ≤ c) (c1 : c < 10) (h : op = 30) (hb : B64 (r b.toNat)) (hc : B64 (r c.toNat)) :
    Calls Try.prog 43 #[.slice (some ⟨g, 0, none⟩) 10 gc, .agg #[.int .i64 op, .int .i64 a, .int .i64 b, .int .i64 c, .int .i64 n]] w fun e w' => ∃ sv, e = .returned sv ∧ SeenAt w' sv ([⟨3, r b.toNat, r c.toNat⟩]) ∧ RegsR w' g (setR r a (opI (op - 20) (r b.toNat) (r c.toNat))) ∧ w.grownBy w' (some g) := by
  have Hr : Hid (RegsR w g r) := hr
  have hrW : RegsR (w.alloc (.cells #[.int .i64 op, .int .i64 a, .int .i64 b, .int .i64 c, .int .i64 n] 67)) g r := hr.alloc _ _
  have hg : g < w.heap.size := cell_block (hr 0 (by omega)).1
  have ca := (hr a.toNat (by omega)).1
  have fa := (hr a.toNat (by omega)).2
  have cb := (hr b.toNat (by omega)).1
  have fb := (hr b.toNat (by omega)).2
  have cx := (hr c.toNat (by omega)).1
  have fx := (hr c.toNat (by omega)).2
  obtain ⟨S, HS⟩ : ∃ S : World → Prop, Hid (∀ w', S w' ↔ w'.cell? ⟨w.heap.size, 0, none⟩ = some (.int .i64 op) ∧ w'.cell? ⟨w.heap.size, 1, none⟩ = some (.int .i64 a)) := ⟨_, fun _ => Iff.rfl⟩
  have k0 : ∀ i : { w' // S w' }, i.val.cell? ⟨w.heap.size, 0, none⟩ = some (.int .i64 op) := fun i => ((HS.out _).1 i.property).1
  have k1 : ∀ i : { w' // S w' }, i.val.cell? ⟨w.heap.size, 1, none⟩ = some (.int .i64 a) := fun i => ((HS.out _).1 i.property).2
  have hne : Nonempty { w' // S w' } := ⟨⟨w.alloc (.cells #[.int .i64 op, .int .i64 a, .int .i64 b, .int .i64 c, .int .i64 n] 67), (HS.out _).2 (by go_simp)⟩⟩
  have hwr := wrapEq
  have Hop : Hid (∀ w : World, Calls Try.prog 64 #[.int .i64 (op - 20), .int .i64 (r b.toNat), .int .i64 (r c.toNat)] w fun e w' => e = .returned (.int .i64 (opI (op - 20) (r b.toNat) (r c.toNat))) ∧ More w w') := fun w => ref_op _ _ _ hb.1 hb.2 hc.1 hc.2 w
  obtain ⟨v, hv⟩ : ∃ v, opI (op - 20) (r b.toNat) (r c.toNat) = v := ⟨_, rfl⟩
  rw [hv] at Hop
  rw [hv]
  have hs : wrap64 (op - 20) = op - 20 := by unfold wrap64; omega
  obtain ⟨q, hq⟩ : ∃ q, op - 20 = q := ⟨_, rfl⟩
  rw [hq] at Hop hs
  have Hh : Hid (op = 30) := h
  clear h
  clear hr hrW hb hc hv
  go_enter Try.func43, Try.ntmps43
  go_wp2_with (fail)
  refine wp_region_ord (S := S) [(0, true), (1, true), (2, true), (3, true), (4, true), (5, true), (6, true), (7, true), (8, false), (9, true), (10, false)] (by kernel_rfl) (by kernel_rfl) (by kernel_rfl) ((HS.out _).2 (by go_simp)) ?_
  iterate 8 (refine wpOrd_take rfl (by kernel_rfl) (fun K hK => ?_); go_simp; refine hK _ _ ?_; clear hK K)
  refine wpOrd_busy rfl (by kernel_rfl) (fun K hK => ?_); go_simp
  refine (Hop.out _).mono ?_
  rintro e w1 ⟨rfl, m1⟩
  have e0 : w1.cell? ⟨w.heap.size, 0, none⟩ = some (.int .i64 op) := m1.cell (by go_simp)
  have e1 : w1.cell? ⟨w.heap.size, 1, none⟩ = some (.int .i64 a) := m1.cell (by go_simp)
  have Hr1 : Hid (RegsR w1 g r) := ((Hr.out.alloc _ _).drew).more m1
  have c1a := (Hr1.out a.toNat (by omega)).1
  have f1a := (Hr1.out a.toNat (by omega)).2
  have Hg1 : Hid (w.grownBy w1 (some g)) := gr_more (gr_drew (gr_alloc (grown_refl _ _) _)) m1
  clear m1
  go_simp
  refine hK _ _ ((HS.out _).2 ⟨e0, e1⟩) ?_; clear hK K
  refine wpOrd_take rfl (by kernel_rfl) (fun K hK => ?_); go_simp; refine hK _ _ ?_; clear hK K
  refine wpOrd_busy rfl (by kernel_rfl) (fun K hK => ?_); go_simp
  have e0' : (w1.setCell ⟨g, a.toNat, none⟩ (.int .i64 v)).cell? ⟨w.heap.size, 0, none⟩ = some (.int .i64 op) := by rw [World.cell?_setCell_other _ _ _ _ (by simp <;> omega)]; exact e0
  have e1' : (w1.setCell ⟨g, a.toNat, none⟩ (.int .i64 v)).cell? ⟨w.heap.size, 1, none⟩ = some (.int .i64 a) := by rw [World.cell?_setCell_other _ _ _ _ (by simp <;> omega)]; exact e1
  refine hK _ _ ((HS.out _).2 ⟨e0', e1'⟩) ?_; clear hK K
  refine wpOrd_done ?_
  have Hr2 : Hid (RegsR (w1.setCell ⟨g, a.toNat, none⟩ (.int .i64 v)) g (setR r a v)) := Hr1.out.set a v
  have Hg2 : Hid (w.grownBy (w1.setCell ⟨g, a.toNat, none⟩ (.int .i64 v)) (some g)) := gr_set Hg1.out _ _
  obtain ⟨w3, hw3⟩ : ∃ w3, w1.setCell ⟨g, a.toNat, none⟩ (.int .i64 v) = w3 := ⟨_, rfl⟩
  rw [hw3] at e0' Hr2 Hg2 ⊢
  clear hw3 k0 k1 hne ca fa cb fb cx fx c1a f1a e0 e1 e1' hwr
  obtain rfl := Hh.out
  go_wp2
  go_ret
  refine ⟨_, rfl, ⟨some ⟨w3.heap.size, 0, none⟩, w3.heap.size, 0, 1, rfl, fun _ => rfl, fun i s h => ?_, by simp⟩, by repeat (first | exact Hr2.out | apply RegsR.drew | apply RegsR.alloc), by repeat (first | exact Hg2.out | apply gr_drew | apply gr_alloc)⟩
  have hi : i = 0 := by have := (List.getElem?_eq_some_iff.1 h).1; simp at this; omega
  subst hi
  simp at h
  subst h
  refine ⟨?_, ?_, ?_⟩ <;> go_simp

end Go.Proofs.Ytkeeimdhlbdigab

/-
  What the reference's Registers and Wrong come to, whatever the instruction.
-/
namespace Go.Proofs.Ytkeeimdhlbdigab
open Go.RowKit

theorem seen_none (w : World) : SeenAt w (.slice none 0 0) [] := ⟨none, 0, 0, 0, rfl, fun h => absurd h (Nat.not_lt_zero _), fun i s h => by simp at h, by simp⟩

/-- An instruction of registers alone, such as a hard program has. -/
theorem ref_registers (i : Ins) (g : Nat) {gc : Nat} (r : Nat → Int) (w : World) (hr : RegsR w g r) (hb : ∀ j, j < 10 → B64 (r j)) {rl : Nat} {log : Nat → Int} {cl : Nat} (hi : InsOk rl log cl 10 i)
    (h3 : ¬ i.op = 3) (h4 : ¬ i.op = 4) (h5 : ¬ i.op = 5) (h6 : ¬ i.op = 6) (h7 : ¬ i.op = 7) (h8 : ¬ i.op = 8) (h9 : ¬ i.op = 9) :
    Calls Try.prog 43 #[.slice (some ⟨g, 0, none⟩) 10 gc, .agg #[.int .i64 i.op, .int .i64 i.a, .int .i64 i.b, .int .i64 i.c, .int .i64 i.n]] w fun e w' =>
      ∃ sv, e = .returned sv ∧ (((regsI r i).2 = [] ∧ sv = .slice none 0 0) ∨ ∃ t, (regsI r i).2 = [t]) ∧ SeenAt w' sv (regsI r i).2 ∧ RegsR w' g (regsI r i).1 ∧ w.grownBy w' (some g) := by
  obtain ⟨op, a, b, c, n⟩ := i
  dsimp only at h3 h4 h5 h6 h7 h8 h9 ⊢
  unfold InsOk at hi
  unfold regsI
  dsimp only at hi ⊢
  by_cases h1 : op = 1
  · subst h1
    simp only [if_true] at hi ⊢
    refine (reg_1 a b c n g r w hr hi.1.1 hi.1.2).mono ?_
    rintro e w' ⟨rfl, k1, k2⟩
    exact ⟨_, rfl, .inl (by simp), seen_none _, k1, k2⟩
  rw [if_neg h1] at hi ⊢
  by_cases h2 : op = 2
  · subst h2
    simp only [if_true] at hi ⊢
    refine (reg_2 a b c n g r w hr hi.1.1 hi.1.2 hi.2.1.1 hi.2.1.2).mono ?_
    rintro e w' ⟨rfl, k1, k2⟩
    exact ⟨_, rfl, .inl (by simp), seen_none _, k1, k2⟩
  rw [if_neg h2] at hi ⊢
  rw [if_neg h3, if_neg h4, if_neg h5, if_neg h6, if_neg h7, if_neg h8, if_neg h9] at hi
  by_cases h10 : op = 10
  · subst h10
    simp only [if_true] at hi ⊢
    refine (reg_10 a b c n g r w hr hi.1.1 hi.1.2 hi.2.1.1 hi.2.1.2).mono ?_
    rintro e w' ⟨rfl, k1, k2⟩
    exact ⟨_, rfl, .inl (by simp), seen_none _, k1, k2⟩
  rw [if_neg h10] at hi ⊢
  by_cases h11 : op = 11
  · subst h11
    simp only [if_true] at hi ⊢
    by_cases hlo : r a.toNat < 0
    · rw [if_pos (Or.inl hlo)]
      refine (reg_11_lo a b c n g r _ w hr rfl hi.1.1 hi.1.2 hlo).mono ?_
      rintro e w' ⟨rfl, k1, k2⟩
      exact ⟨_, rfl, .inl (by simp), seen_none _, k1, k2⟩
    · by_cases hhi : n ≤ r a.toNat
      · rw [if_pos (Or.inr hhi)]
        refine (reg_11_hi a b c n g r _ w hr rfl hi.1.1 hi.1.2 hlo hhi).mono ?_
        rintro e w' ⟨rfl, k1, k2⟩
        exact ⟨_, rfl, .inl (by simp), seen_none _, k1, k2⟩
      · rw [if_neg (by omega)]
        refine (reg_11_in a b c n g r _ w hr rfl hi.1.1 hi.1.2 hlo (by omega)).mono ?_
        rintro e w' ⟨rfl, k1, k2⟩
        exact ⟨_, rfl, .inl (by simp), seen_none _, k1, k2⟩
  rw [if_neg h11] at hi ⊢
  by_cases h12 : op = 12
  · subst h12
    simp only [if_true] at hi ⊢
    refine (reg_12 a b c n g r w hr).mono ?_
    rintro e w' ⟨rfl, k1, k2⟩
    exact ⟨_, rfl, .inl (by simp), seen_none _, k1, k2⟩
  rw [if_neg h12] at hi ⊢
  obtain ⟨⟨o0, o1⟩, ⟨a0, a1⟩, ⟨b0, b1⟩, ⟨c0, c1⟩, _⟩ := hi
  have hb1 := hb b.toNat (by omega)
  have hb2 := hb c.toNat (by omega)
  by_cases h29 : op = 29
  · rw [if_pos (Or.inl h29)]
    refine (reg_op_div op a b c n g r w hr o0 o1 a0 a1 b0 b1 c0 c1 h29 hb1 hb2).mono ?_
    rintro e w' ⟨sv, rfl, k0, k1, k2⟩
    exact ⟨sv, rfl, .inr ⟨_, rfl⟩, k0, k1, k2⟩
  by_cases h30 : op = 30
  · rw [if_pos (Or.inr h30)]
    refine (reg_op_mod op a b c n g r w hr o0 o1 a0 a1 b0 b1 c0 c1 h30 hb1 hb2).mono ?_
    rintro e w' ⟨sv, rfl, k0, k1, k2⟩
    exact ⟨sv, rfl, .inr ⟨_, rfl⟩, k0, k1, k2⟩
  rw [if_neg (by omega)]
  refine (reg_op_no op a b c n g r w hr o0 o1 a0 a1 b0 b1 c0 c1 h29 h30 hb1 hb2).mono ?_
  rintro e w' ⟨rfl, k1, k2⟩
  exact ⟨_, rfl, .inl (by simp), seen_none _, k1, k2⟩

/-- Index, whichever of the four it is. -/
theorem ref_index (i : Ins) (g : Nat) {gc : Nat} (r : Nat → Int) (w : World) (hr : RegsR w g r) (b0 : 0 ≤ i.b) (b1 : i.b < 10) :
    Calls Try.prog 41 #[.slice (some ⟨g, 0, none⟩) 10 gc, .agg #[.int .i64 i.op, .int .i64 i.a, .int .i64 i.b, .int .i64 i.c, .int .i64 i.n]] w fun e w' => e = .returned (.int .i64 (idxI r i)) ∧ More w w' := by
  unfold idxI
  by_cases h : i.op = 5 ∨ i.op = 6
  · rw [if_pos h]
    exact ref_index_k i.op i.a i.b i.c i.n _ h w
  · rw [if_neg h]
    exact ref_index_r i.op i.a i.b i.c i.n g (r i.b.toNat) (fun e => h (.inl e)) (fun e => h (.inr e)) b0 b1 w (hr i.b.toNat (by omega)).1

/-- What is wrong first (C1). -/
def wrongI (hard fits : Prop) [Decidable hard] [Decidable fits] (fuel : Int) : Int :=
  if ¬ hard ∨ ¬ fits then 2 else if fuel < 0 ∨ 40000 < fuel then 3 else 0

end Go.Proofs.Ytkeeimdhlbdigab
