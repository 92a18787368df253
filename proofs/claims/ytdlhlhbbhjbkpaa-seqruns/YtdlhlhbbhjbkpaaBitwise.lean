/-
  What a call of evenkeelref1.bitwise does, for each of its three operations.
-/
import Derived.Test.YtdlhlhbbhjbkpaaBits
import Derived.RegionTactic
import Derived.ChangeAlike
namespace Go.Proofs.Ytdlhlhbbhjbkpaa
open Go.RowKit

theorem bits_cells (a : Int) (h0 : -9223372036854775808 ≤ a) (h1 : a ≤ 9223372036854775807) (w : World) :
    Calls Try.prog 28 #[.int .i64 a] w fun e w' => ∃ c, e = .returned (.agg c) ∧ Hid (c = arr (fun i => (toU a).testBit i)) ∧ More w w' :=
  (bits_calls a h0 h1 w).mono fun _ _ h => ⟨_, h.1, rfl, h.2⟩

theorem info_of {c : Array Value} {f : Nat → Bool} (h : Hid (c = arr f)) : (Try.prog.info? 50).map (·.size) = some c.size := by rw [h.out]; exact info_arr f
theorem size_of {c : Array Value} {f : Nat → Bool} (h : Hid (c = arr f)) : 64 = c.size := by rw [h.out, arr_size]
theorem one_of {c : Array Value} {f : Nat → Bool} (h : Hid (c = arr f)) : c.all (·.oneCell') = true := by rw [h.out]; exact arr_one f
theorem get_of {c : Array Value} {f : Nat → Bool} (h : Hid (c = arr f)) (i : Nat) (hi : i < 64) : c[i]? = some (.bool (f i)) := by rw [h.out]; exact arr_get f i hi

/-- Three arrays of 64 bools, of which the last is the call's own to write. -/
structure St3 (w : World) (B1 B2 B3 : Nat) (c1 c2 c3 : Array Value) (wr : World) : Prop where
  one : wr.heap[B1]? = some (.cells c1 50 (0, 0))
  two : wr.heap[B2]? = some (.cells c2 50 (0, 0))
  three : wr.heap[B3]? = some (.cells c3 50 (0, 0))
  more : More w wr
  new : w.heap.size ≤ B3
  apart1 : B1 ≠ B3
  apart2 : B2 ≠ B3

theorem St3.set {w wr : World} {B1 B2 B3 : Nat} {c1 c2 c3 c4 : Array Value} (h : St3 w B1 B2 B3 c1 c2 c3 wr) (k : Nat) (v : Value) (e : c3.setIfInBounds k v = c4) :
    St3 w B1 B2 B3 c1 c2 c4 (wr.setCell ⟨B3, k, none⟩ v) := by
  subst e
  exact ⟨(heap_setCell_other _ _ _ _ h.apart1).trans h.one, (heap_setCell_other _ _ _ _ h.apart2).trans h.two, heap_setCell_same _ _ _ _ _ _ h.three, h.more.setCell h.new v, h.new, h.apart1, h.apart2⟩
theorem St3.drew {w wr : World} {B1 B2 B3 : Nat} {c1 c2 c3 : Array Value} (h : St3 w B1 B2 B3 c1 c2 c3 wr) : St3 w B1 B2 B3 c1 c2 c3 wr.drew :=
  ⟨h.one, h.two, h.three, h.more.drew, h.new, h.apart1, h.apart2⟩

theorem part_lit (u : Nat) : part u 0 = #[.bool false, .bool false, .bool false, .bool false, .bool false, .bool false, .bool false, .bool false, .bool false, .bool false, .bool false, .bool false, .bool false, .bool false, .bool false, .bool false, .bool false, .bool false, .bool false, .bool false, .bool false, .bool false, .bool false, .bool false, .bool false, .bool false, .bool false, .bool false, .bool false, .bool false, .bool false, .bool false, .bool false, .bool false, .bool false, .bool false, .bool false, .bool false, .bool false, .bool false, .bool false, .bool false, .bool false, .bool false, .bool false, .bool false, .bool false, .bool false, .bool false, .bool false, .bool false, .bool false, .bool false, .bool false, .bool false, .bool false, .bool false, .bool false, .bool false, .bool false, .bool false, .bool false, .bool false, .bool false] := (part_zero u).trans rfl

theorem St3.start {w w1 w2 : World} {c1 c2 c3 : Array Value} (m1 : More w w1) (m2 : More (w1.alloc (.cells c1 50)) w2) :
    St3 w w1.heap.size w2.heap.size (w2.heap.size + 1) c1 c2 c3 ((w2.alloc (.cells c2 50)).alloc (.cells c3 50)) := by
  have s1 : (w1.alloc (.cells c1 50)).heap.size = w1.heap.size + 1 := by simp
  have s2 : (w2.alloc (.cells c2 50)).heap.size = w2.heap.size + 1 := by simp
  have s3 := m2.size
  have s4 := m1.size
  refine ⟨?_, ?_, ?_, (((m1.alloc c1 50).trans m2).alloc c2 50).alloc c3 50, by omega, by omega, by omega⟩
  · rw [Below.heap_alloc _ _ _ (by omega), Below.heap_alloc _ _ _ (by omega), m2.block _ (by omega)]; exact heap_alloc_last _ _
  · rw [Below.heap_alloc _ _ _ (by omega)]; exact heap_alloc_last _ _
  · rw [← s2]; exact heap_alloc_last _ _

theorem of_num (U : Nat) (h : U < 18446744073709551616) (w : World) :
    Calls Try.prog 53 #[.agg (arr (fun i => U.testBit i))] w fun e w' => e = .returned (.int .i64 (wrap64 (U : Int))) ∧ More w w' := by
  have := of_calls (fun i => U.testBit i) w
  rw [val_all U h] at this
  exact this

set_option maxHeartbeats 1000000 in
theorem bitwise_and (a b : Int) (U : Nat) (a0 : -9223372036854775808 ≤ a) (a1 : a ≤ 9223372036854775807) (b0 : -9223372036854775808 ≤ b) (b1 : b ≤ 9223372036854775807)
    (hU : Hid (U < 18446744073709551616)) (hB : Hid (∀ k, U.testBit k = ((toU a).testBit k && (toU b).testBit k))) (w : World) :
    Calls Try.prog 27 #[.int .i64 4, .int .i64 a, .int .i64 b] w fun e w' => e = .returned (.int .i64 (wrap64 (U : Int))) ∧ More w w' := by
  go_enter Try.func27, Try.ntmps27
  go_wp2_with (fail)
  refine (bits_cells a a0 a1 _).mono ?_
  rintro e w1 ⟨cx, rfl, hx, m1⟩
  go_wp2_with (refine wpList_store_row rfl 50 (.tmp 7) (.tmp 12) rfl _ _ rfl rfl 50 _ (heap_alloc_last _ _) (info_of hx) (size_of hx) (one_of hx) ?_; rw [World.setRow_alloc_new])
  refine (bits_cells b b0 b1 _).mono ?_
  rintro e w2 ⟨cy, rfl, hy, m2⟩
  go_wp2_with (refine wpList_store_row rfl 50 (.tmp 8) (.tmp 14) rfl _ _ rfl rfl 50 _ (heap_alloc_last _ _) (info_of hy) (size_of hy) (one_of hy) ?_; rw [World.setRow_alloc_new])
  have H0 := St3.start (c2 := cy) (c3 := part U 0) m1 m2
  go_loopg [10] 64 (fun g i wr => ∃ (k : Nat), k + g = 64 ∧ i = .int .i64 k ∧ St3 w w1.heap.size w2.heap.size (w2.heap.size + 1) cx cy (part U k) wr)
  case atStart =>
    refine ⟨0, by omega, rfl, ?_⟩
    rw [part_lit] at H0 ⊢
    exact H0
  case round =>
    obtain ⟨k, hkg, rfl, hst⟩ := hrel
    clear H0 m1 m2
    cases gk with
    | zero =>
      obtain rfl : k = 64 := by omega
      have hg := hst.three
      have hm := hst.more
      rw [part_all] at hg
      clear hst
      go_wp2_with (refine wpList_load_row rfl 50 (.tmp 9) rfl _ rfl 50 _ (0, 0) _ hg Try.underlying50 rfl (info_arr _) ?_)
      refine (of_num U hU.out _).mono ?_
      rintro e w3 ⟨rfl, m3⟩
      go_wp2
      go_ret
      exact ⟨rfl, hm.trans m3⟩
    | succ g =>
      have hk : k < 64 := by omega
      have hk' : (k : Int) < 64 := by omega
      have hb := hB.out k
      obtain ⟨x, ex⟩ : ∃ x, (toU a).testBit k = x := ⟨_, rfl⟩
      obtain ⟨y, ey⟩ : ∃ y, (toU b).testBit k = y := ⟨_, rfl⟩
      have c1 : wr.cell? ⟨w1.heap.size, k, none⟩ = some (.bool x) := by rw [cell_of_row _ _ _ _ _ _ hst.one, get_of hx k hk, ex]
      have c2 : wr.cell? ⟨w2.heap.size, k, none⟩ = some (.bool y) := by rw [cell_of_row _ _ _ _ _ _ hst.two, get_of hy k hk, ey]
      have c3 : wr.cell? ⟨w2.heap.size + 1, k, none⟩ = some (.bool false) := by rw [cell_of_row _ _ _ _ _ _ hst.three]; unfold part; rw [arr_get _ _ hk]; simp
      have f3 : wr.frozen? ⟨w2.heap.size + 1, k, none⟩ = false := frozen_of_row _ _ _ _ _ hst.three
      rw [ex, ey] at hb
      have Hb : Hid (U.testBit k = (x && y)) := hb
      have Hst : Hid (St3 w w1.heap.size w2.heap.size (w2.heap.size + 1) cx cy (part U k) wr) := hst
      clear hb ex ey hst
      cases x <;> cases y
      all_goals
        go_wp2
        go_roundg g
        case measure => omega
        case rel => exact ⟨k + 1, by omega, by first | rfl | simp, Hst.out.set k _ (part_next _ k _ Hb.out)⟩

set_option maxHeartbeats 1000000 in
theorem bitwise_or (a b : Int) (U : Nat) (a0 : -9223372036854775808 ≤ a) (a1 : a ≤ 9223372036854775807) (b0 : -9223372036854775808 ≤ b) (b1 : b ≤ 9223372036854775807)
    (hU : Hid (U < 18446744073709551616)) (hB : Hid (∀ k, U.testBit k = ((toU a).testBit k || (toU b).testBit k))) (w : World) :
    Calls Try.prog 27 #[.int .i64 5, .int .i64 a, .int .i64 b] w fun e w' => e = .returned (.int .i64 (wrap64 (U : Int))) ∧ More w w' := by
  go_enter Try.func27, Try.ntmps27
  go_wp2_with (fail)
  refine (bits_cells a a0 a1 _).mono ?_
  rintro e w1 ⟨cx, rfl, hx, m1⟩
  go_wp2_with (refine wpList_store_row rfl 50 (.tmp 7) (.tmp 12) rfl _ _ rfl rfl 50 _ (heap_alloc_last _ _) (info_of hx) (size_of hx) (one_of hx) ?_; rw [World.setRow_alloc_new])
  refine (bits_cells b b0 b1 _).mono ?_
  rintro e w2 ⟨cy, rfl, hy, m2⟩
  go_wp2_with (refine wpList_store_row rfl 50 (.tmp 8) (.tmp 14) rfl _ _ rfl rfl 50 _ (heap_alloc_last _ _) (info_of hy) (size_of hy) (one_of hy) ?_; rw [World.setRow_alloc_new])
  have H0 := St3.start (c2 := cy) (c3 := part U 0) m1 m2
  go_loopg [10] 64 (fun g i wr => ∃ (k : Nat), k + g = 64 ∧ i = .int .i64 k ∧ St3 w w1.heap.size w2.heap.size (w2.heap.size + 1) cx cy (part U k) wr)
  case atStart =>
    refine ⟨0, by omega, rfl, ?_⟩
    rw [part_lit] at H0 ⊢
    exact H0
  case round =>
    obtain ⟨k, hkg, rfl, hst⟩ := hrel
    clear H0 m1 m2
    cases gk with
    | zero =>
      obtain rfl : k = 64 := by omega
      have hg := hst.three
      have hm := hst.more
      rw [part_all] at hg
      clear hst
      go_wp2_with (refine wpList_load_row rfl 50 (.tmp 9) rfl _ rfl 50 _ (0, 0) _ hg Try.underlying50 rfl (info_arr _) ?_)
      refine (of_num U hU.out _).mono ?_
      rintro e w3 ⟨rfl, m3⟩
      go_wp2
      go_ret
      exact ⟨rfl, hm.trans m3⟩
    | succ g =>
      have hk : k < 64 := by omega
      have hk' : (k : Int) < 64 := by omega
      have hb := hB.out k
      obtain ⟨x, ex⟩ : ∃ x, (toU a).testBit k = x := ⟨_, rfl⟩
      obtain ⟨y, ey⟩ : ∃ y, (toU b).testBit k = y := ⟨_, rfl⟩
      have c1 : wr.cell? ⟨w1.heap.size, k, none⟩ = some (.bool x) := by rw [cell_of_row _ _ _ _ _ _ hst.one, get_of hx k hk, ex]
      have c2 : wr.cell? ⟨w2.heap.size, k, none⟩ = some (.bool y) := by rw [cell_of_row _ _ _ _ _ _ hst.two, get_of hy k hk, ey]
      have c3 : wr.cell? ⟨w2.heap.size + 1, k, none⟩ = some (.bool false) := by rw [cell_of_row _ _ _ _ _ _ hst.three]; unfold part; rw [arr_get _ _ hk]; simp
      have f3 : wr.frozen? ⟨w2.heap.size + 1, k, none⟩ = false := frozen_of_row _ _ _ _ _ hst.three
      rw [ex, ey] at hb
      have Hb : Hid (U.testBit k = (x || y)) := hb
      have Hst : Hid (St3 w w1.heap.size w2.heap.size (w2.heap.size + 1) cx cy (part U k) wr) := hst
      clear hb ex ey hst
      cases x <;> cases y
      all_goals
        go_wp2
        go_roundg g
        case measure => omega
        case rel => exact ⟨k + 1, by omega, by first | rfl | simp, Hst.out.set k _ (part_next _ k _ Hb.out)⟩

set_option maxHeartbeats 1000000 in
theorem bitwise_xor (a b : Int) (U : Nat) (a0 : -9223372036854775808 ≤ a) (a1 : a ≤ 9223372036854775807) (b0 : -9223372036854775808 ≤ b) (b1 : b ≤ 9223372036854775807)
    (hU : Hid (U < 18446744073709551616)) (hB : Hid (∀ k, U.testBit k = ((toU a).testBit k ^^ (toU b).testBit k))) (w : World) :
    Calls Try.prog 27 #[.int .i64 6, .int .i64 a, .int .i64 b] w fun e w' => e = .returned (.int .i64 (wrap64 (U : Int))) ∧ More w w' := by
  go_enter Try.func27, Try.ntmps27
  go_wp2_with (fail)
  refine (bits_cells a a0 a1 _).mono ?_
  rintro e w1 ⟨cx, rfl, hx, m1⟩
  go_wp2_with (refine wpList_store_row rfl 50 (.tmp 7) (.tmp 12) rfl _ _ rfl rfl 50 _ (heap_alloc_last _ _) (info_of hx) (size_of hx) (one_of hx) ?_; rw [World.setRow_alloc_new])
  refine (bits_cells b b0 b1 _).mono ?_
  rintro e w2 ⟨cy, rfl, hy, m2⟩
  go_wp2_with (refine wpList_store_row rfl 50 (.tmp 8) (.tmp 14) rfl _ _ rfl rfl 50 _ (heap_alloc_last _ _) (info_of hy) (size_of hy) (one_of hy) ?_; rw [World.setRow_alloc_new])
  have H0 := St3.start (c2 := cy) (c3 := part U 0) m1 m2
  go_loopg [10] 64 (fun g i wr => ∃ (k : Nat), k + g = 64 ∧ i = .int .i64 k ∧ St3 w w1.heap.size w2.heap.size (w2.heap.size + 1) cx cy (part U k) wr)
  case atStart =>
    refine ⟨0, by omega, rfl, ?_⟩
    rw [part_lit] at H0 ⊢
    exact H0
  case round =>
    obtain ⟨k, hkg, rfl, hst⟩ := hrel
    clear H0 m1 m2
    cases gk with
    | zero =>
      obtain rfl : k = 64 := by omega
      have hg := hst.three
      have hm := hst.more
      rw [part_all] at hg
      clear hst
      go_wp2_with (refine wpList_load_row rfl 50 (.tmp 9) rfl _ rfl 50 _ (0, 0) _ hg Try.underlying50 rfl (info_arr _) ?_)
      refine (of_num U hU.out _).mono ?_
      rintro e w3 ⟨rfl, m3⟩
      go_wp2
      go_ret
      exact ⟨rfl, hm.trans m3⟩
    | succ g =>
      have hk : k < 64 := by omega
      have hk' : (k : Int) < 64 := by omega
      have hb := hB.out k
      obtain ⟨x, ex⟩ : ∃ x, (toU a).testBit k = x := ⟨_, rfl⟩
      obtain ⟨y, ey⟩ : ∃ y, (toU b).testBit k = y := ⟨_, rfl⟩
      have c1 : wr.cell? ⟨w1.heap.size, k, none⟩ = some (.bool x) := by rw [cell_of_row _ _ _ _ _ _ hst.one, get_of hx k hk, ex]
      have c2 : wr.cell? ⟨w2.heap.size, k, none⟩ = some (.bool y) := by rw [cell_of_row _ _ _ _ _ _ hst.two, get_of hy k hk, ey]
      have c3 : wr.cell? ⟨w2.heap.size + 1, k, none⟩ = some (.bool false) := by rw [cell_of_row _ _ _ _ _ _ hst.three]; unfold part; rw [arr_get _ _ hk]; simp
      have f3 : wr.frozen? ⟨w2.heap.size + 1, k, none⟩ = false := frozen_of_row _ _ _ _ _ hst.three
      rw [ex, ey] at hb
      have Hb : Hid (U.testBit k = (x ^^ y)) := hb
      have Hst : Hid (St3 w w1.heap.size w2.heap.size (w2.heap.size + 1) cx cy (part U k) wr) := hst
      clear hb ex ey hst
      cases x <;> cases y
      all_goals
        go_wp2
        go_region
        go_wp2
        go_roundg g
        case measure => omega
        case rel => exact ⟨k + 1, by omega, by first | rfl | simp, (Hst.out.set k _ (part_next _ k _ Hb.out)).drew⟩

end Go.Proofs.Ytdlhlhbbhjbkpaa
