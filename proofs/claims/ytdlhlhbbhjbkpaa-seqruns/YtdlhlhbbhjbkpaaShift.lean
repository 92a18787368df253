/-
  What a call of evenkeelref1.Below and of evenkeelref1.shift does.
-/
import Derived.Test.YtdlhlhbbhjbkpaaBitwise
namespace Go.Proofs.Ytdlhlhbbhjbkpaa
open Go.RowKit

/-! ### Below -/
theorem below_apart (a b : Int) (v : Bool) (ha : decide (a < 0) = !v) (hb : decide (b < 0) = v) (w : World) :
    Calls Try.prog 31 #[.int .i64 a, .int .i64 b] w fun e w' => e = .returned (.bool v) ∧ w' = w := by
  cases v
  all_goals
    go_enter Try.func31, Try.ntmps31
    go_wp2
    go_ret
    exact ⟨rfl, rfl⟩
theorem below_same (a b : Int) (v : Bool) (ha : decide (a < 0) = v) (hb : decide (b < 0) = v) (w : World) :
    Calls Try.prog 31 #[.int .i64 a, .int .i64 b] w fun e w' => e = .returned (.bool (decide (a < b))) ∧ w' = w := by
  cases v
  all_goals
    go_enter Try.func31, Try.ntmps31
    go_wp2
    go_ret
    exact ⟨rfl, rfl⟩

theorem below_calls (a b : Int) (a0 : -9223372036854775808 ≤ a) (a1 : a ≤ 9223372036854775807) (b0 : -9223372036854775808 ≤ b) (b1 : b ≤ 9223372036854775807) (w : World) :
    Calls Try.prog 31 #[.int .i64 a, .int .i64 b] w fun e w' => e = .returned (.bool (decide (toU a < toU b))) ∧ w' = w := by
  by_cases ha : a < 0 <;> by_cases hb : b < 0
  · rw [show decide (toU a < toU b) = decide (a < b) by rw [decide_eq_decide]; unfold toU; omega]
    exact below_same a b true (by simp [ha]) (by simp [hb]) w
  · rw [show decide (toU a < toU b) = false by rw [decide_eq_false_iff_not]; unfold toU; omega]
    exact below_apart a b false (by simp [ha]) (by simp; omega) w
  · rw [show decide (toU a < toU b) = true by rw [decide_eq_true_iff]; unfold toU; omega]
    exact below_apart a b true (by simp; omega) (by simp [hb]) w
  · rw [show decide (toU a < toU b) = decide (a < b) by rw [decide_eq_decide]; unfold toU; omega]
    exact below_same a b false (by simp; omega) (by simp; omega) w

/-! ### shift -/
theorem part_skip (u k : Nat) (h : u.testBit k = false) : part u k = part u (k + 1) := by
  unfold part
  apply arr_ext
  intro i hi
  by_cases e : i = k
  · subst e; simp [h]
  · have : (i < k + 1) ↔ (i < k) := by omega
    simp [this]

theorem St3.start2 {w w1 : World} {c1 c3 : Array Value} (m1 : More w w1) :
    St3 w w1.heap.size w1.heap.size (w1.heap.size + 1) c1 c1 c3 ((w1.alloc (.cells c1 50)).alloc (.cells c3 50)) := by
  have s1 : (w1.alloc (.cells c1 50)).heap.size = w1.heap.size + 1 := by simp
  have s4 := m1.size
  have h1 : ((w1.alloc (.cells c1 50)).alloc (.cells c3 50)).heap[w1.heap.size]? = some (.cells c1 50 (0, 0)) := by
    rw [Below.heap_alloc _ _ _ (by omega)]; exact heap_alloc_last _ _
  refine ⟨h1, h1, ?_, (m1.alloc c1 50).alloc c3 50, by omega, by omega, by omega⟩
  rw [← s1]; exact heap_alloc_last _ _

set_option maxHeartbeats 1000000 in
theorem shift_calls (a s : Int) (U : Nat) (a0 : -9223372036854775808 ≤ a) (a1 : a ≤ 9223372036854775807) (s0 : -63 ≤ s) (s1 : s ≤ 63)
    (hU : Hid (U < 18446744073709551616)) (hB : Hid (∀ k : Nat, k < 64 → U.testBit k = (decide (0 ≤ (k : Int) - s ∧ (k : Int) - s < 64) && (toU a).testBit ((k : Int) - s).toNat))) (w : World) :
    Calls Try.prog 29 #[.int .i64 a, .int .i64 s] w fun e w' => e = .returned (.int .i64 (wrap64 (U : Int))) ∧ More w w' := by
  go_enter Try.func29, Try.ntmps29
  go_wp2_with (fail)
  refine (bits_cells a a0 a1 _).mono ?_
  rintro e w1 ⟨cx, rfl, hx, m1⟩
  go_wp2_with (refine wpList_store_row rfl 50 (.tmp 5) (.tmp 9) rfl _ _ rfl rfl 50 _ (heap_alloc_last _ _) (info_of hx) (size_of hx) (one_of hx) ?_; rw [World.setRow_alloc_new])
  have H0 := St3.start2 (c1 := cx) (c3 := part U 0) m1
  go_loopg [7] 64 (fun g i wr => ∃ (k : Nat), k + g = 64 ∧ i = .int .i64 k ∧ St3 w w1.heap.size w1.heap.size (w1.heap.size + 1) cx cx (part U k) wr)
  case atStart =>
    refine ⟨0, by omega, rfl, ?_⟩
    rw [part_lit] at H0 ⊢
    exact H0
  case round =>
    obtain ⟨k, hkg, rfl, hst⟩ := hrel
    clear H0 m1
    cases gk with
    | zero =>
      obtain rfl : k = 64 := by omega
      have hg := hst.three
      have hm := hst.more
      rw [part_all] at hg
      clear hst
      go_wp2_with (refine wpList_load_row rfl 50 (.tmp 6) rfl _ rfl 50 _ (0, 0) _ hg Try.underlying50 rfl (info_arr _) ?_)
      refine (of_num U hU.out _).mono ?_
      rintro e w3 ⟨rfl, m3⟩
      go_wp2
      go_ret
      exact ⟨rfl, hm.trans m3⟩
    | succ g =>
      have hk : k < 64 := by omega
      have hk' : (k : Int) < 64 := by omega
      have hb := hB.out k hk
      have c3 : wr.cell? ⟨w1.heap.size + 1, k, none⟩ = some (.bool false) := by rw [cell_of_row _ _ _ _ _ _ hst.three]; unfold part; rw [arr_get _ _ hk]; simp
      have f3 : wr.frozen? ⟨w1.heap.size + 1, k, none⟩ = false := frozen_of_row _ _ _ _ _ hst.three
      have Hst : Hid (St3 w w1.heap.size w1.heap.size (w1.heap.size + 1) cx cx (part U k) wr) := hst
      by_cases h1 : 0 ≤ (k : Int) - s
      · by_cases h2 : (k : Int) - s < 64
        · obtain ⟨j, hj⟩ : ∃ j : Nat, (k : Int) - s = (j : Int) := ⟨((k : Int) - s).toNat, by omega⟩
          have hj64 : j < 64 := by omega
          have hjI : (j : Int) < 64 := by omega
          obtain ⟨x, ex⟩ : ∃ x, (toU a).testBit j = x := ⟨_, rfl⟩
          have c1 : wr.cell? ⟨w1.heap.size, j, none⟩ = some (.bool x) := by rw [cell_of_row _ _ _ _ _ _ hst.one, get_of hx j hj64, ex]
          rw [hj, Int.toNat_natCast, ex, decide_eq_true (by omega), Bool.true_and] at hb
          have Hb : Hid (U.testBit k = x) := hb
          clear hb ex hst h1 h2
          go_wp2
          go_roundg g
          case measure => omega
          case rel => exact ⟨k + 1, by omega, by first | rfl | simp, Hst.out.set k _ (part_next _ k _ Hb.out)⟩
        · rw [decide_eq_false (by omega), Bool.false_and] at hb
          have Hb : Hid (U.testBit k = false) := hb
          clear hb hst
          go_wp2
          go_roundg g
          case measure => omega
          case rel => exact ⟨k + 1, by omega, by first | rfl | simp, part_skip _ k Hb.out ▸ Hst.out⟩
      · rw [decide_eq_false (by omega), Bool.false_and] at hb
        have Hb : Hid (U.testBit k = false) := hb
        clear hb hst
        go_wp2
        go_roundg g
        case measure => omega
        case rel => exact ⟨k + 1, by omega, by first | rfl | simp, part_skip _ k Hb.out ▸ Hst.out⟩

end Go.Proofs.Ytdlhlhbbhjbkpaa
