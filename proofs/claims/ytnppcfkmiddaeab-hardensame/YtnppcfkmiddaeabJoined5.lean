/-
  The texts Bits, Bitwise, Shift, Divide, Ref, RefStep, RefMore, Copy, Own, Inv, PAt, PlayAux, StepEq, one behind the other, with what is used of them.
-/
import Derived.Test.YtnppcfkmiddaeabProg
import Derived.WalkKit
import Derived.WalkSpells
import Derived.WalkLawsBesides
import Derived.Deep.WholeRow
import Derived.Deep.LoopGhost
import Derived.Test.YtnppcfkmiddaeabJoined4
import Derived.RegionTactic
import Derived.ChangeAlike
import Derived.Test.YtnppcfkmiddaeabRows
import Derived.Test.YtnppcfkmiddaeabJoined0
import Derived.Deep.AppendLies
import Derived.OwnWalk
import Derived.Laws.OwnMore
import Derived.Deep.OwnRows
namespace Go.Proofs.Ytnppcfkmiddaeab
section
open Go.RowKit
theorem info29 : (Try.prog.info? 133).map (·.size) = some 64 := by kernel_rfl
theorem info_arr (f : Nat → Bool) : (Try.prog.info? 133).map (·.size) = some (arr f).size := by rw [arr_size]; exact info29

theorem setRow_alloc2 (w : World) (c c' : Array Value) (t : TypeId) (o : Obj) :
    ((w.alloc (.cells c t)).alloc o).setRow w.heap.size c' = (w.alloc (.cells c' t)).alloc o := by
  simp only [World.setRow, World.alloc]
  congr 1
  apply Array.ext_getElem?
  intro i
  rw [Array.getElem?_modify]
  by_cases h : w.heap.size = i
  · subst h
    simp [Array.getElem?_push]
  · have h' : ¬ i = w.heap.size := fun e => h e.symm
    simp [h, h', Array.getElem?_push]

/-- The first bits of a number, the others not yet. -/
def part (u k : Nat) : Array Value := arr (fun i => decide (i < k) && u.testBit i)

theorem part_zero (u : Nat) : part u 0 = Array.replicate 64 (.bool false) := by
  rw [← arr_zero]; exact arr_ext fun i _ => by simp
theorem part_all (u : Nat) : part u 64 = arr (fun i => u.testBit i) := arr_ext fun i hi => by simp [hi]
theorem part_next (u k : Nat) (b : Bool) (h : u.testBit k = b) : (part u k).setIfInBounds k (.bool b) = part u (k + 1) := by
  unfold part
  rw [arr_set]
  apply arr_ext
  intro i hi
  by_cases e : i = k
  · subst e; simp [h]
  · have : (i < k + 1) ↔ (i < k) := by omega
    simp [e, this]

set_option maxHeartbeats 400000 in
theorem bits_calls (a : Int) (h0 : -9223372036854775808 ≤ a) (h1 : a ≤ 9223372036854775807) (w : World) :
    Calls Try.prog 87 #[.int .i64 a] w fun e w' => e = .returned (.agg (arr (fun i => (toU a).testBit i))) ∧ More w w' := by
  rw [← part_all]
  go_enter Try.func87, Try.ntmps87
  go_wp2
  go_loopg [0, 4] 64 (fun g n i wr => ∃ (k : Nat) (m : Int), k + g = 64 ∧ a / 2 ^ k = m ∧ -9223372036854775808 ≤ m ∧ m ≤ 9223372036854775807 ∧ i = .int .i64 k ∧ n = .int .i64 m ∧ wr = (w.alloc (.cells (part (toU a) 0) 133)).alloc (.cells (part (toU a) k) 133))
  case atStart => exact ⟨0, a, by omega, by simp, h0, h1, rfl, rfl, by rw [part_zero]; rfl⟩
  case round =>
    obtain ⟨k, n, hkg, hn, b0, b1, rfl, rfl, rfl⟩ := hrel
    cases gk with
    | zero =>
      obtain rfl : k = 64 := by omega
      have hi29 : (Try.prog.info? 133).map (·.size) = some (part (toU a) 64).size := info_arr _
      have hg1 := heap_alloc2_new w (.cells (part (toU a) 0) 133) (.cells (part (toU a) 64) 133)
      have hg0 := heap_alloc2_old w (.cells (part (toU a) 0) 133) (.cells (part (toU a) 64) 133)
      have hold : (part (toU a) 0).size = (part (toU a) 64).size := by unfold part; rw [arr_size, arr_size]
      have hall : (part (toU a) 64).all (·.oneCell') = true := arr_one _
      go_wp2_with (first | (refine wpList_load_row rfl 133 (.tmp 3) rfl (w.heap.size + 1) rfl 133 _ (0, 0) _ hg1 Try.underlying133 rfl hi29 ?_) | (refine wpList_store_row rfl 133 (.tmp 2) (.tmp 24) rfl w.heap.size _ rfl rfl 133 _ hg0 hi29 hold hall ?_; rw [setRow_alloc2]))
      refine bodyPost_ret (results_cell_row rfl _ _ w.heap.size 133 (part (toU a) 64) (0, 0) _ rfl (heap_alloc2_old _ _ _) Try.underlying133 rfl hi29) rfl ⟨rfl, by repeat (first | exact More.refl _ | apply More.drew | apply More.alloc)⟩
    | succ g =>
      have hk : k < 64 := by omega
      have hk' : (k : Int) < 64 := by omega
      have hb := half_bit a k hk
      have hnx := half_next a k
      rw [hn] at hb hnx
      have hcs : (part (toU a) k)[k]? = some (.bool false) := by
        unfold part; rw [arr_get _ _ hk]; simp
      have hsz : (part (toU a) k).size = 64 := by unfold part; exact arr_size _
      have Hb : Hid ((toU a).testBit k = decide (n % 2 = 1)) := hb
      have Hx : Hid (a / 2 ^ (k + 1) = n / 2) := hnx
      clear hb hnx
      by_cases hr : n % 2 = 0
      · have hr1 : n.tmod 2 = 0 := Int.tmod_eq_zero_of_dvd (Int.dvd_of_emod_eq_zero hr)
        have hd : n.tdiv 2 = n / 2 := Int.tdiv_eq_ediv_of_dvd (Int.dvd_of_emod_eq_zero hr)
        go_wp2
        go_roundg g
        case measure => omega
        case rel => exact ⟨k + 1, n / 2, by omega, Hx.out, by omega, by omega, by first | rfl | simp, rfl, by rw [← part_next (toU a) k false (by rw [Hb.out]; simp [hr])]⟩
      · have hs : (n - 1).tdiv 2 = n / 2 := by rw [Int.tdiv_eq_ediv_of_dvd (by omega)]; omega
        by_cases hp : 0 ≤ n
        · have hr1 : n.tmod 2 = 1 := by rw [Int.tmod_eq_emod_of_nonneg hp]; omega
          go_wp2
          go_roundg g
          case measure => omega
          case rel => exact ⟨k + 1, n / 2, by omega, Hx.out, by omega, by omega, by first | rfl | simp, rfl, by rw [← part_next (toU a) k true (by rw [Hb.out]; simp; omega)]⟩
        · have hr1 : n.tmod 2 = -1 := by rw [Int.tmod_eq_emod, if_neg (by omega)]; omega
          go_wp2
          go_roundg g
          case measure => omega
          case rel => exact ⟨k + 1, n / 2, by omega, Hx.out, by omega, by omega, by first | rfl | simp, rfl, by rw [← part_next (toU a) k true (by rw [Hb.out]; simp; omega)]⟩

theorem wrap_sum (x y : Int) : wrap64 (wrap64 x + wrap64 y) = wrap64 (x + y) := by unfold wrap64; omega

theorem val_yes (f : Nat → Bool) (k : Nat) (s p : Int) (hs : s = wrap64 (val f k : Nat)) (hp : p = wrap64 ((2 ^ k : Nat) : Int)) (h : f k = true) : wrap64 (s + p) = wrap64 (val f (k + 1) : Nat) := by
  subst hs; subst hp
  rw [wrap_sum, val, if_pos h]; push_cast; rfl
theorem val_no (f : Nat → Bool) (k : Nat) (s : Int) (hs : s = wrap64 (val f k : Nat)) (h : f k = false) : s = wrap64 (val f (k + 1) : Nat) := by
  rw [hs, val, h]; simp
theorem pow_next (k : Nat) (p : Int) (hp : p = wrap64 ((2 ^ k : Nat) : Int)) : wrap64 (p + p) = wrap64 ((2 ^ (k + 1) : Nat) : Int) := by
  subst hp
  rw [wrap_sum, Nat.pow_succ]; push_cast; congr 1; omega

set_option maxHeartbeats 400000 in
theorem of_cells (f : Nat → Bool) (c : Array Value) (hsz : c.size = 64) (hc : ∀ i, i < 64 → c[i]? = some (.bool (f i))) (w : World) :
    Calls Try.prog 97 #[.agg c] w fun e w' => e = .returned (.int .i64 (wrap64 ((val f 64 : Nat) : Int))) ∧ More w w' := by
  have Hc : Hid (∀ i, i < 64 → c[i]? = some (.bool (f i))) := hc
  clear hc
  go_enter Try.func97, Try.ntmps97
  go_wp2
  go_loopg [3, 4, 5] 64 (fun g sv pv i wr => ∃ (k : Nat) (s p : Int), k + g = 64 ∧ s = wrap64 ((val f k : Nat) : Int) ∧ p = wrap64 ((2 ^ k : Nat) : Int) ∧ sv = .int .i64 s ∧ pv = .int .i64 p ∧ i = .int .i64 k ∧ wr = w.alloc (.cells c 133))
  case atStart => exact ⟨0, 0, 1, by omega, by unfold val wrap64; omega, by unfold wrap64; omega, rfl, rfl, rfl, rfl⟩
  case round =>
    obtain ⟨k, s, p, hkg, hs, hp, rfl, rfl, rfl, rfl⟩ := hrel
    have Hs : Hid (s = wrap64 ((val f k : Nat) : Int)) := hs
    have Hp : Hid (p = wrap64 ((2 ^ k : Nat) : Int)) := hp
    clear hs hp
    cases gk with
    | zero =>
      obtain rfl : k = 64 := by omega
      go_wp2
      go_ret
      exact ⟨congrArg (fun n => Ending.returned (.int .i64 n)) Hs.out, by repeat (first | exact More.refl _ | apply More.drew | apply More.alloc)⟩
    | succ g =>
      have hk : k < 64 := by omega
      have hk' : (k : Int) < 64 := by omega
      cases hf : f k with
      | true =>
        have hcs : c[k]'(by omega) = .bool true := by have h := Hc.out k hk; rw [hf] at h; exact (Array.getElem?_eq_some_iff.1 h).2
        have Hf : Hid (f k = true) := hf
        clear hf
        go_wp2
        go_roundg g
        case measure => omega
        case rel => exact ⟨k + 1, _, _, by omega, val_yes f k s p Hs.out Hp.out Hf.out, pow_next k p Hp.out, rfl, rfl, by first | rfl | simp, rfl⟩
      | false =>
        have hcs : c[k]'(by omega) = .bool false := by have h := Hc.out k hk; rw [hf] at h; exact (Array.getElem?_eq_some_iff.1 h).2
        have Hf : Hid (f k = false) := hf
        clear hf
        go_wp2
        go_roundg g
        case measure => omega
        case rel => exact ⟨k + 1, _, _, by omega, val_no f k s Hs.out Hf.out, pow_next k p Hp.out, rfl, rfl, by first | rfl | simp, rfl⟩

theorem of_calls (f : Nat → Bool) (w : World) :
    Calls Try.prog 97 #[.agg (arr f)] w fun e w' => e = .returned (.int .i64 (wrap64 ((val f 64 : Nat) : Int))) ∧ More w w' :=
  of_cells f (arr f) (arr_size f) (fun i hi => arr_get f i hi) w
theorem bits_cells (a : Int) (h0 : -9223372036854775808 ≤ a) (h1 : a ≤ 9223372036854775807) (w : World) :
    Calls Try.prog 87 #[.int .i64 a] w fun e w' => ∃ c, e = .returned (.agg c) ∧ Hid (c = arr (fun i => (toU a).testBit i)) ∧ More w w' :=
  (bits_calls a h0 h1 w).mono fun _ _ h => ⟨_, h.1, rfl, h.2⟩

theorem info_of {c : Array Value} {f : Nat → Bool} (h : Hid (c = arr f)) : (Try.prog.info? 133).map (·.size) = some c.size := by rw [h.out]; exact info_arr f
theorem size_of {c : Array Value} {f : Nat → Bool} (h : Hid (c = arr f)) : 64 = c.size := by rw [h.out, arr_size]
theorem one_of {c : Array Value} {f : Nat → Bool} (h : Hid (c = arr f)) : c.all (·.oneCell') = true := by rw [h.out]; exact arr_one f
theorem get_of {c : Array Value} {f : Nat → Bool} (h : Hid (c = arr f)) (i : Nat) (hi : i < 64) : c[i]? = some (.bool (f i)) := by rw [h.out]; exact arr_get f i hi

/-- Three arrays of 64 bools, of which the last is the call's own to write. -/
structure St3 (w : World) (B1 B2 B3 : Nat) (c1 c2 c3 : Array Value) (wr : World) : Prop where
  one : wr.heap[B1]? = some (.cells c1 133 (0, 0))
  two : wr.heap[B2]? = some (.cells c2 133 (0, 0))
  three : wr.heap[B3]? = some (.cells c3 133 (0, 0))
  more : More w wr
  new : w.heap.size ≤ B3
  apart1 : B1 ≠ B3
  apart2 : B2 ≠ B3

theorem St3.set {w wr : World} {B1 B2 B3 : Nat} {c1 c2 c3 c4 : Array Value} (h : St3 w B1 B2 B3 c1 c2 c3 wr) (k : Nat) (v : Value) (e : c3.setIfInBounds k v = c4) :
    St3 w B1 B2 B3 c1 c2 c4 (wr.setCell ⟨B3, k, none⟩ v) := by
  subst e
  exact ⟨(heap_setCell_other _ _ _ _ h.apart1).trans h.one, (heap_setCell_other _ _ _ _ h.apart2).trans h.two, heap_setCell_same _ _ _ _ _ _ h.three, h.more.setCell h.new v, h.new, h.apart1, h.apart2⟩
theorem St3.drew {w wr : World} {B1 B2 B3 : Nat} {c1 c2 c3 : Array Value} (h : St3 w B1 B2 B3 c1 c2 c3 wr) : St3 w B1 B2 B3 c1 c2 c3 wr.drew :=
  ⟨h.one, h.two, h.three, h.more.drew, h.new, h.apart1, h.apart2⟩

theorem part_lit (u : Nat) : part u 0 = #[.bool false, .bool false, .bool false, .bool false, .bool false, .bool false, .bool false, .bool false, .bool false, .bool false, .bool false, .bool false, .bool false, .bool false, .bool false, .bool false, .bool false, .bool false, .bool false, .bool false, .bool false, .bool false, .bool false, .bool false, .bool false, .bool false, .bool false, .bool false, .bool false, .bool false, .bool false, .bool false, .bool false, .bool false, .bool false, .bool false, .bool false, .bool false, .bool false, .bool false, .bool false, .bool false, .bool false, .bool false, .bool false, .bool false, .bool false, .bool false, .bool false, .bool false, .bool false, .bool false, .bool false, .bool false, .bool false, .bool false, .bool false, .bool false, .bool false, .bool false, .bool false, .bool false, .bool false, .bool false] := (part_zero u).trans rfl

theorem St3.start {w w1 w2 : World} {c1 c2 c3 : Array Value} (m1 : More w w1) (m2 : More (w1.alloc (.cells c1 133)) w2) :
    St3 w w1.heap.size w2.heap.size (w2.heap.size + 1) c1 c2 c3 ((w2.alloc (.cells c2 133)).alloc (.cells c3 133)) := by
  have s1 : (w1.alloc (.cells c1 133)).heap.size = w1.heap.size + 1 := by simp
  have s2 : (w2.alloc (.cells c2 133)).heap.size = w2.heap.size + 1 := by simp
  have s3 := m2.size
  have s4 := m1.size
  refine ⟨?_, ?_, ?_, (((m1.alloc c1 133).trans m2).alloc c2 133).alloc c3 133, by omega, by omega, by omega⟩
  · rw [Below.heap_alloc _ _ _ (by omega), Below.heap_alloc _ _ _ (by omega), m2.block _ (by omega)]; exact heap_alloc_last _ _
  · rw [Below.heap_alloc _ _ _ (by omega)]; exact heap_alloc_last _ _
  · rw [← s2]; exact heap_alloc_last _ _

theorem of_num (U : Nat) (h : U < 18446744073709551616) (w : World) :
    Calls Try.prog 97 #[.agg (arr (fun i => U.testBit i))] w fun e w' => e = .returned (.int .i64 (wrap64 (U : Int))) ∧ More w w' := by
  have := of_calls (fun i => U.testBit i) w
  rw [val_all U h] at this
  exact this

set_option maxHeartbeats 1000000 in
theorem bitwise_and (a b : Int) (U : Nat) (a0 : -9223372036854775808 ≤ a) (a1 : a ≤ 9223372036854775807) (b0 : -9223372036854775808 ≤ b) (b1 : b ≤ 9223372036854775807)
    (hU : Hid (U < 18446744073709551616)) (hB : Hid (∀ k, U.testBit k = ((toU a).testBit k && (toU b).testBit k))) (w : World) :
    Calls Try.prog 86 #[.int .i64 4, .int .i64 a, .int .i64 b] w fun e w' => e = .returned (.int .i64 (wrap64 (U : Int))) ∧ More w w' := by
  go_enter Try.func86, Try.ntmps86
  go_wp2_with (fail)
  refine (bits_cells a a0 a1 _).mono ?_
  rintro e w1 ⟨cx, rfl, hx, m1⟩
  go_wp2_with (refine wpList_store_row rfl 133 (.tmp 7) (.tmp 12) rfl _ _ rfl rfl 133 _ (heap_alloc_last _ _) (info_of hx) (size_of hx) (one_of hx) ?_; rw [World.setRow_alloc_new])
  refine (bits_cells b b0 b1 _).mono ?_
  rintro e w2 ⟨cy, rfl, hy, m2⟩
  go_wp2_with (refine wpList_store_row rfl 133 (.tmp 8) (.tmp 14) rfl _ _ rfl rfl 133 _ (heap_alloc_last _ _) (info_of hy) (size_of hy) (one_of hy) ?_; rw [World.setRow_alloc_new])
  have H0 := St3.start (c2 := cy) (c3 := part U 0) m1 m2
  go_loopg [10] 64 (fun g i wr => ∃ (k : Nat), k + g = 64 ∧ i = .int .i64 k ∧ St3 w w1.heap.size w2.heap.size (w2.heap.size + 1) cx cy (part U k) wr)
  case atStart =>
    refine ⟨0, by omega, rfl, ?_⟩
    rw [part_lit] at H0 ⊢
    exact H0
  case round =>
    obtain ⟨k, hkg, rfl, hst⟩ := hrel
    clear H0 m1 m2
    cases gk with
    | zero =>
      obtain rfl : k = 64 := by omega
      have hg := hst.three
      have hm := hst.more
      rw [part_all] at hg
      clear hst
      go_wp2_with (refine wpList_load_row rfl 133 (.tmp 9) rfl _ rfl 133 _ (0, 0) _ hg Try.underlying133 rfl (info_arr _) ?_)
      refine (of_num U hU.out _).mono ?_
      rintro e w3 ⟨rfl, m3⟩
      go_wp2
      go_ret
      exact ⟨rfl, hm.trans m3⟩
    | succ g =>
      have hk : k < 64 := by omega
      have hk' : (k : Int) < 64 := by omega
      have hb := hB.out k
      obtain ⟨x, ex⟩ : ∃ x, (toU a).testBit k = x := ⟨_, rfl⟩
      obtain ⟨y, ey⟩ : ∃ y, (toU b).testBit k = y := ⟨_, rfl⟩
      have c1 : wr.cell? ⟨w1.heap.size, k, none⟩ = some (.bool x) := by rw [cell_of_row _ _ _ _ _ _ hst.one, get_of hx k hk, ex]
      have c2 : wr.cell? ⟨w2.heap.size, k, none⟩ = some (.bool y) := by rw [cell_of_row _ _ _ _ _ _ hst.two, get_of hy k hk, ey]
      have c3 : wr.cell? ⟨w2.heap.size + 1, k, none⟩ = some (.bool false) := by rw [cell_of_row _ _ _ _ _ _ hst.three]; unfold part; rw [arr_get _ _ hk]; simp
      have f3 : wr.frozen? ⟨w2.heap.size + 1, k, none⟩ = false := frozen_of_row _ _ _ _ _ hst.three
      rw [ex, ey] at hb
      have Hb : Hid (U.testBit k = (x && y)) := hb
      have Hst : Hid (St3 w w1.heap.size w2.heap.size (w2.heap.size + 1) cx cy (part U k) wr) := hst
      clear hb ex ey hst
      cases x <;> cases y
      all_goals
        go_wp2
        go_roundg g
        case measure => omega
        case rel => exact ⟨k + 1, by omega, by first | rfl | simp, Hst.out.set k _ (part_next _ k _ Hb.out)⟩

set_option maxHeartbeats 1000000 in
theorem bitwise_or (a b : Int) (U : Nat) (a0 : -9223372036854775808 ≤ a) (a1 : a ≤ 9223372036854775807) (b0 : -9223372036854775808 ≤ b) (b1 : b ≤ 9223372036854775807)
    (hU : Hid (U < 18446744073709551616)) (hB : Hid (∀ k, U.testBit k = ((toU a).testBit k || (toU b).testBit k))) (w : World) :
    Calls Try.prog 86 #[.int .i64 5, .int .i64 a, .int .i64 b] w fun e w' => e = .returned (.int .i64 (wrap64 (U : Int))) ∧ More w w' := by
  go_enter Try.func86, Try.ntmps86
  go_wp2_with (fail)
  refine (bits_cells a a0 a1 _).mono ?_
  rintro e w1 ⟨cx, rfl, hx, m1⟩
  go_wp2_with (refine wpList_store_row rfl 133 (.tmp 7) (.tmp 12) rfl _ _ rfl rfl 133 _ (heap_alloc_last _ _) (info_of hx) (size_of hx) (one_of hx) ?_; rw [World.setRow_alloc_new])
  refine (bits_cells b b0 b1 _).mono ?_
  rintro e w2 ⟨cy, rfl, hy, m2⟩
  go_wp2_with (refine wpList_store_row rfl 133 (.tmp 8) (.tmp 14) rfl _ _ rfl rfl 133 _ (heap_alloc_last _ _) (info_of hy) (size_of hy) (one_of hy) ?_; rw [World.setRow_alloc_new])
  have H0 := St3.start (c2 := cy) (c3 := part U 0) m1 m2
  go_loopg [10] 64 (fun g i wr => ∃ (k : Nat), k + g = 64 ∧ i = .int .i64 k ∧ St3 w w1.heap.size w2.heap.size (w2.heap.size + 1) cx cy (part U k) wr)
  case atStart =>
    refine ⟨0, by omega, rfl, ?_⟩
    rw [part_lit] at H0 ⊢
    exact H0
  case round =>
    obtain ⟨k, hkg, rfl, hst⟩ := hrel
    clear H0 m1 m2
    cases gk with
    | zero =>
      obtain rfl : k = 64 := by omega
      have hg := hst.three
      have hm := hst.more
      rw [part_all] at hg
      clear hst
      go_wp2_with (refine wpList_load_row rfl 133 (.tmp 9) rfl _ rfl 133 _ (0, 0) _ hg Try.underlying133 rfl (info_arr _) ?_)
      refine (of_num U hU.out _).mono ?_
      rintro e w3 ⟨rfl, m3⟩
      go_wp2
      go_ret
      exact ⟨rfl, hm.trans m3⟩
    | succ g =>
      have hk : k < 64 := by omega
      have hk' : (k : Int) < 64 := by omega
      have hb := hB.out k
      obtain ⟨x, ex⟩ : ∃ x, (toU a).testBit k = x := ⟨_, rfl⟩
      obtain ⟨y, ey⟩ : ∃ y, (toU b).testBit k = y := ⟨_, rfl⟩
      have c1 : wr.cell? ⟨w1.heap.size, k, none⟩ = some (.bool x) := by rw [cell_of_row _ _ _ _ _ _ hst.one, get_of hx k hk, ex]
      have c2 : wr.cell? ⟨w2.heap.size, k, none⟩ = some (.bool y) := by rw [cell_of_row _ _ _ _ _ _ hst.two, get_of hy k hk, ey]
      have c3 : wr.cell? ⟨w2.heap.size + 1, k, none⟩ = some (.bool false) := by rw [cell_of_row _ _ _ _ _ _ hst.three]; unfold part; rw [arr_get _ _ hk]; simp
      have f3 : wr.frozen? ⟨w2.heap.size + 1, k, none⟩ = false := frozen_of_row _ _ _ _ _ hst.three
      rw [ex, ey] at hb
      have Hb : Hid (U.testBit k = (x || y)) := hb
      have Hst : Hid (St3 w w1.heap.size w2.heap.size (w2.heap.size + 1) cx cy (part U k) wr) := hst
      clear hb ex ey hst
      cases x <;> cases y
      all_goals
        go_wp2
        go_roundg g
        case measure => omega
        case rel => exact ⟨k + 1, by omega, by first | rfl | simp, Hst.out.set k _ (part_next _ k _ Hb.out)⟩

set_option maxHeartbeats 1000000 in
theorem bitwise_xor (a b : Int) (U : Nat) (a0 : -9223372036854775808 ≤ a) (a1 : a ≤ 9223372036854775807) (b0 : -9223372036854775808 ≤ b) (b1 : b ≤ 9223372036854775807)
    (hU : Hid (U < 18446744073709551616)) (hB : Hid (∀ k, U.testBit k = ((toU a).testBit k ^^ (toU b).testBit k))) (w : World) :
    Calls Try.prog 86 #[.int .i64 6, .int .i64 a, .int .i64 b] w fun e w' => e = .returned (.int .i64 (wrap64 (U : Int))) ∧ More w w' := by
  go_enter Try.func86, Try.ntmps86
  go_wp2_with (fail)
  refine (bits_cells a a0 a1 _).mono ?_
  rintro e w1 ⟨cx, rfl, hx, m1⟩
  go_wp2_with (refine wpList_store_row rfl 133 (.tmp 7) (.tmp 12) rfl _ _ rfl rfl 133 _ (heap_alloc_last _ _) (info_of hx) (size_of hx) (one_of hx) ?_; rw [World.setRow_alloc_new])
  refine (bits_cells b b0 b1 _).mono ?_
  rintro e w2 ⟨cy, rfl, hy, m2⟩
  go_wp2_with (refine wpList_store_row rfl 133 (.tmp 8) (.tmp 14) rfl _ _ rfl rfl 133 _ (heap_alloc_last _ _) (info_of hy) (size_of hy) (one_of hy) ?_; rw [World.setRow_alloc_new])
  have H0 := St3.start (c2 := cy) (c3 := part U 0) m1 m2
  go_loopg [10] 64 (fun g i wr => ∃ (k : Nat), k + g = 64 ∧ i = .int .i64 k ∧ St3 w w1.heap.size w2.heap.size (w2.heap.size + 1) cx cy (part U k) wr)
  case atStart =>
    refine ⟨0, by omega, rfl, ?_⟩
    rw [part_lit] at H0 ⊢
    exact H0
  case round =>
    obtain ⟨k, hkg, rfl, hst⟩ := hrel
    clear H0 m1 m2
    cases gk with
    | zero =>
      obtain rfl : k = 64 := by omega
      have hg := hst.three
      have hm := hst.more
      rw [part_all] at hg
      clear hst
      go_wp2_with (refine wpList_load_row rfl 133 (.tmp 9) rfl _ rfl 133 _ (0, 0) _ hg Try.underlying133 rfl (info_arr _) ?_)
      refine (of_num U hU.out _).mono ?_
      rintro e w3 ⟨rfl, m3⟩
      go_wp2
      go_ret
      exact ⟨rfl, hm.trans m3⟩
    | succ g =>
      have hk : k < 64 := by omega
      have hk' : (k : Int) < 64 := by omega
      have hb := hB.out k
      obtain ⟨x, ex⟩ : ∃ x, (toU a).testBit k = x := ⟨_, rfl⟩
      obtain ⟨y, ey⟩ : ∃ y, (toU b).testBit k = y := ⟨_, rfl⟩
      have c1 : wr.cell? ⟨w1.heap.size, k, none⟩ = some (.bool x) := by rw [cell_of_row _ _ _ _ _ _ hst.one, get_of hx k hk, ex]
      have c2 : wr.cell? ⟨w2.heap.size, k, none⟩ = some (.bool y) := by rw [cell_of_row _ _ _ _ _ _ hst.two, get_of hy k hk, ey]
      have c3 : wr.cell? ⟨w2.heap.size + 1, k, none⟩ = some (.bool false) := by rw [cell_of_row _ _ _ _ _ _ hst.three]; unfold part; rw [arr_get _ _ hk]; simp
      have f3 : wr.frozen? ⟨w2.heap.size + 1, k, none⟩ = false := frozen_of_row _ _ _ _ _ hst.three
      rw [ex, ey] at hb
      have Hb : Hid (U.testBit k = (x ^^ y)) := hb
      have Hst : Hid (St3 w w1.heap.size w2.heap.size (w2.heap.size + 1) cx cy (part U k) wr) := hst
      clear hb ex ey hst
      cases x <;> cases y
      all_goals
        go_wp2
        go_region
        go_wp2
        go_roundg g
        case measure => omega
        case rel => exact ⟨k + 1, by omega, by first | rfl | simp, (Hst.out.set k _ (part_next _ k _ Hb.out)).drew⟩
theorem below_apart (a b : Int) (v : Bool) (ha : decide (a < 0) = !v) (hb : decide (b < 0) = v) (w : World) :
    Calls Try.prog 66 #[.int .i64 a, .int .i64 b] w fun e w' => e = .returned (.bool v) ∧ w' = w := by
  cases v
  all_goals
    go_enter Try.func66, Try.ntmps66
    go_wp2
    go_ret
    exact ⟨rfl, rfl⟩
theorem below_same (a b : Int) (v : Bool) (ha : decide (a < 0) = v) (hb : decide (b < 0) = v) (w : World) :
    Calls Try.prog 66 #[.int .i64 a, .int .i64 b] w fun e w' => e = .returned (.bool (decide (a < b))) ∧ w' = w := by
  cases v
  all_goals
    go_enter Try.func66, Try.ntmps66
    go_wp2
    go_ret
    exact ⟨rfl, rfl⟩

theorem below_calls (a b : Int) (a0 : -9223372036854775808 ≤ a) (a1 : a ≤ 9223372036854775807) (b0 : -9223372036854775808 ≤ b) (b1 : b ≤ 9223372036854775807) (w : World) :
    Calls Try.prog 66 #[.int .i64 a, .int .i64 b] w fun e w' => e = .returned (.bool (decide (toU a < toU b))) ∧ w' = w := by
  by_cases ha : a < 0 <;> by_cases hb : b < 0
  · rw [show decide (toU a < toU b) = decide (a < b) by rw [decide_eq_decide]; unfold toU; omega]
    exact below_same a b true (by simp [ha]) (by simp [hb]) w
  · rw [show decide (toU a < toU b) = false by rw [decide_eq_false_iff_not]; unfold toU; omega]
    exact below_apart a b false (by simp [ha]) (by simp; omega) w
  · rw [show decide (toU a < toU b) = true by rw [decide_eq_true_iff]; unfold toU; omega]
    exact below_apart a b true (by simp; omega) (by simp [hb]) w
  · rw [show decide (toU a < toU b) = decide (a < b) by rw [decide_eq_decide]; unfold toU; omega]
    exact below_same a b false (by simp; omega) (by simp; omega) w

theorem part_skip (u k : Nat) (h : u.testBit k = false) : part u k = part u (k + 1) := by
  unfold part
  apply arr_ext
  intro i hi
  by_cases e : i = k
  · subst e; simp [h]
  · have : (i < k + 1) ↔ (i < k) := by omega
    simp [this]

theorem St3.start2 {w w1 : World} {c1 c3 : Array Value} (m1 : More w w1) :
    St3 w w1.heap.size w1.heap.size (w1.heap.size + 1) c1 c1 c3 ((w1.alloc (.cells c1 133)).alloc (.cells c3 133)) := by
  have s1 : (w1.alloc (.cells c1 133)).heap.size = w1.heap.size + 1 := by simp
  have s4 := m1.size
  have h1 : ((w1.alloc (.cells c1 133)).alloc (.cells c3 133)).heap[w1.heap.size]? = some (.cells c1 133 (0, 0)) := by
    rw [Below.heap_alloc _ _ _ (by omega)]; exact heap_alloc_last _ _
  refine ⟨h1, h1, ?_, (m1.alloc c1 133).alloc c3 133, by omega, by omega, by omega⟩
  rw [← s1]; exact heap_alloc_last _ _

set_option maxHeartbeats 1000000 in
theorem shift_calls (a s : Int) (U : Nat) (a0 : -9223372036854775808 ≤ a) (a1 : a ≤ 9223372036854775807) (s0 : -63 ≤ s) (s1 : s ≤ 63)
    (hU : Hid (U < 18446744073709551616)) (hB : Hid (∀ k : Nat, k < 64 → U.testBit k = (decide (0 ≤ (k : Int) - s ∧ (k : Int) - s < 64) && (toU a).testBit ((k : Int) - s).toNat))) (w : World) :
    Calls Try.prog 88 #[.int .i64 a, .int .i64 s] w fun e w' => e = .returned (.int .i64 (wrap64 (U : Int))) ∧ More w w' := by
  go_enter Try.func88, Try.ntmps88
  go_wp2_with (fail)
  refine (bits_cells a a0 a1 _).mono ?_
  rintro e w1 ⟨cx, rfl, hx, m1⟩
  go_wp2_with (refine wpList_store_row rfl 133 (.tmp 5) (.tmp 9) rfl _ _ rfl rfl 133 _ (heap_alloc_last _ _) (info_of hx) (size_of hx) (one_of hx) ?_; rw [World.setRow_alloc_new])
  have H0 := St3.start2 (c1 := cx) (c3 := part U 0) m1
  go_loopg [7] 64 (fun g i wr => ∃ (k : Nat), k + g = 64 ∧ i = .int .i64 k ∧ St3 w w1.heap.size w1.heap.size (w1.heap.size + 1) cx cx (part U k) wr)
  case atStart =>
    refine ⟨0, by omega, rfl, ?_⟩
    rw [part_lit] at H0 ⊢
    exact H0
  case round =>
    obtain ⟨k, hkg, rfl, hst⟩ := hrel
    clear H0 m1
    cases gk with
    | zero =>
      obtain rfl : k = 64 := by omega
      have hg := hst.three
      have hm := hst.more
      rw [part_all] at hg
      clear hst
      go_wp2_with (refine wpList_load_row rfl 133 (.tmp 6) rfl _ rfl 133 _ (0, 0) _ hg Try.underlying133 rfl (info_arr _) ?_)
      refine (of_num U hU.out _).mono ?_
      rintro e w3 ⟨rfl, m3⟩
      go_wp2
      go_ret
      exact ⟨rfl, hm.trans m3⟩
    | succ g =>
      have hk : k < 64 := by omega
      have hk' : (k : Int) < 64 := by omega
      have hb := hB.out k hk
      have c3 : wr.cell? ⟨w1.heap.size + 1, k, none⟩ = some (.bool false) := by rw [cell_of_row _ _ _ _ _ _ hst.three]; unfold part; rw [arr_get _ _ hk]; simp
      have f3 : wr.frozen? ⟨w1.heap.size + 1, k, none⟩ = false := frozen_of_row _ _ _ _ _ hst.three
      have Hst : Hid (St3 w w1.heap.size w1.heap.size (w1.heap.size + 1) cx cx (part U k) wr) := hst
      by_cases h1 : 0 ≤ (k : Int) - s
      · by_cases h2 : (k : Int) - s < 64
        · obtain ⟨j, hj⟩ : ∃ j : Nat, (k : Int) - s = (j : Int) := ⟨((k : Int) - s).toNat, by omega⟩
          have hj64 : j < 64 := by omega
          have hjI : (j : Int) < 64 := by omega
          obtain ⟨x, ex⟩ : ∃ x, (toU a).testBit j = x := ⟨_, rfl⟩
          have c1 : wr.cell? ⟨w1.heap.size, j, none⟩ = some (.bool x) := by rw [cell_of_row _ _ _ _ _ _ hst.one, get_of hx j hj64, ex]
          rw [hj, Int.toNat_natCast, ex, decide_eq_true (by omega), Bool.true_and] at hb
          have Hb : Hid (U.testBit k = x) := hb
          clear hb ex hst h1 h2
          go_wp2
          go_roundg g
          case measure => omega
          case rel => exact ⟨k + 1, by omega, by first | rfl | simp, Hst.out.set k _ (part_next _ k _ Hb.out)⟩
        · rw [decide_eq_false (by omega), Bool.false_and] at hb
          have Hb : Hid (U.testBit k = false) := hb
          clear hb hst
          go_wp2
          go_roundg g
          case measure => omega
          case rel => exact ⟨k + 1, by omega, by first | rfl | simp, part_skip _ k Hb.out ▸ Hst.out⟩
      · rw [decide_eq_false (by omega), Bool.false_and] at hb
        have Hb : Hid (U.testBit k = false) := hb
        clear hb hst
        go_wp2
        go_roundg g
        case measure => omega
        case rel => exact ⟨k + 1, by omega, by first | rfl | simp, part_skip _ k Hb.out ▸ Hst.out⟩
/-- The upper bits of a number, the others not yet. -/
def top (u g : Nat) : Array Value := arr (fun i => decide (g ≤ i) && u.testBit i)
theorem top_start (u : Nat) : top u 64 = part u 0 := arr_ext fun i hi => by
  have : ¬ 64 ≤ i := by omega
  simp [this]
theorem top_all (u : Nat) : top u 0 = arr (fun i => u.testBit i) := arr_ext fun i _ => by simp
theorem top_next (u g : Nat) (b : Bool) (h : u.testBit g = b) : (top u (g + 1)).setIfInBounds g (.bool b) = top u g := by
  unfold top
  rw [arr_set]
  apply arr_ext
  intro i hi
  by_cases e : i = g
  · subst e; simp [h]
  · have : (g + 1 ≤ i) ↔ (g ≤ i) := by omega
    simp [e, this]
theorem top_skip (u g : Nat) (h : u.testBit g = false) : top u (g + 1) = top u g := by
  unfold top
  apply arr_ext
  intro i hi
  by_cases e : i = g
  · subst e; simp [h]
  · have : (g + 1 ≤ i) ↔ (g ≤ i) := by omega
    simp [this]

theorem step_num (T x B : Nat) (hB : 0 < B) (hx : x < 2) :
    (2 * T + x) % B = (if B ≤ 2 * (T % B) + x then 2 * (T % B) + x - B else 2 * (T % B) + x) ∧ (2 * T + x) / B % 2 = (if B ≤ 2 * (T % B) + x then 1 else 0) := by
  have h1 := Nat.div_add_mod T B
  have h2 := Nat.mod_lt T hB
  generalize T % B = r at *
  generalize T / B = q at *
  have e : 2 * T + x = (2 * r + x) + B * (2 * q) := by
    rw [← h1, Nat.mul_left_comm B 2 q]; omega
  rw [e, Nat.add_mul_mod_self_left, Nat.add_mul_div_left _ _ hB]
  split
  · rename_i h
    have e2 : 2 * r + x = (2 * r + x - B) + B * 1 := by omega
    constructor
    · rw [e2, Nat.add_mul_mod_self_left, Nat.mod_eq_of_lt (by omega)]; omega
    · rw [e2, Nat.add_mul_div_left _ _ hB, Nat.div_eq_of_lt (by omega)]; omega
  · rename_i h
    constructor
    · exact Nat.mod_eq_of_lt (by omega)
    · rw [Nat.div_eq_of_lt (by omega)]; omega

theorem bit_down (A g : Nat) : A / 2 ^ g = 2 * (A / 2 ^ (g + 1)) + (A.testBit g).toNat := by
  rw [Nat.pow_succ, ← Nat.div_div_eq_div_mul, Nat.testBit_eq_decide_div_mod_eq]
  generalize A / 2 ^ g = n
  rcases Nat.mod_two_eq_zero_or_one n with h | h <;> simp [h] <;> omega

/-- What is left over ahead of the bit g. -/
def left (A B g : Nat) : Nat := A / 2 ^ g % B

theorem left_start (A B : Nat) (h : A < 18446744073709551616) : left A B 64 = 0 := by
  unfold left; rw [Nat.div_eq_of_lt (by simpa using h)]; simp
theorem left_end (A B : Nat) : left A B 0 = A % B := by unfold left; simp
theorem left_lt (A B g : Nat) (hB : 0 < B) : left A B g < B := Nat.mod_lt _ hB
theorem left_next (A B g : Nat) (hB : 0 < B) : left A B g = if B ≤ 2 * left A B (g + 1) + (A.testBit g).toNat then 2 * left A B (g + 1) + (A.testBit g).toNat - B else 2 * left A B (g + 1) + (A.testBit g).toNat := by
  unfold left
  rw [bit_down A g]
  exact (step_num _ _ _ hB (Bool.toNat_lt _)).1
theorem quo_bit (A B g : Nat) (hB : 0 < B) : (A / B).testBit g = decide (B ≤ 2 * left A B (g + 1) + (A.testBit g).toNat) := by
  rw [Nat.testBit_eq_decide_div_mod_eq, Nat.div_div_eq_div_mul, Nat.mul_comm, ← Nat.div_div_eq_div_mul, bit_down A g, (step_num _ _ _ hB (Bool.toNat_lt _)).2]
  unfold left
  by_cases h : B ≤ 2 * (A / 2 ^ (g + 1) % B) + (A.testBit g).toNat <;> simp [h]

theorem word_neg (r : Nat) (h : r < 18446744073709551616) : wrap64 (r : Int) < 0 ↔ 9223372036854775808 ≤ r := by unfold wrap64; omega
theorem word_two (r : Nat) : wrap64 (wrap64 (r : Int) + wrap64 (r : Int)) = wrap64 ((2 * r : Nat) : Int) := by unfold wrap64; omega
theorem word_one (r : Nat) : wrap64 (wrap64 (r : Int) + 1) = wrap64 ((r + 1 : Nat) : Int) := by unfold wrap64; omega
theorem word_less (n : Nat) (b : Int) (h : toU b ≤ n) : wrap64 (wrap64 (n : Int) - b) = wrap64 ((n - toU b : Nat) : Int) := by
  have := toU_cast b
  unfold wrap64; omega
theorem word_toU (n : Nat) (h : n < 18446744073709551616) : toU (wrap64 (n : Int)) = n := by unfold toU wrap64; omega
theorem word_low (n : Int) : -9223372036854775808 ≤ wrap64 n := by unfold wrap64; omega
theorem word_high (n : Int) : wrap64 n ≤ 9223372036854775807 := by unfold wrap64; omega

set_option maxHeartbeats 2000000 in
theorem divide_calls (a b : Int) (a0 : -9223372036854775808 ≤ a) (a1 : a ≤ 9223372036854775807) (b0 : -9223372036854775808 ≤ b) (b1 : b ≤ 9223372036854775807) (hb : Hid (0 < toU b)) (w : World) :
    Calls Try.prog 89 #[.int .i64 a, .int .i64 b] w fun e w' => e = .returned (.tuple #[.int .i64 (wrap64 ((toU a / toU b : Nat) : Int)), .int .i64 (wrap64 ((toU a % toU b : Nat) : Int))]) ∧ More w w' := by
  obtain ⟨Q, hQ⟩ : ∃ Q, Hid (toU a / toU b = Q) := ⟨_, rfl⟩
  obtain ⟨M, hM⟩ : ∃ M, Hid (wrap64 ((toU a % toU b : Nat) : Int) = M) := ⟨_, rfl⟩
  rw [hQ.out, hM.out]
  go_enter Try.func89, Try.ntmps89
  go_wp2_with (fail)
  refine (bits_cells a a0 a1 _).mono ?_
  rintro e w1 ⟨cx, rfl, hx, m1⟩
  go_wp2_with (refine wpList_store_row rfl 133 (.tmp 6) (.tmp 12) rfl _ _ rfl rfl 133 _ (heap_alloc_last _ _) (info_of hx) (size_of hx) (one_of hx) ?_; rw [World.setRow_alloc_new])
  have H0 := St3.start2 (c1 := cx) (c3 := part Q 0) m1
  go_loopg [8, 9] 64 (fun g r i wr => ∃ (rv : Int), g ≤ 64 ∧ Hid (rv = wrap64 ((left (toU a) (toU b) g : Nat) : Int)) ∧ i = .int .i64 ((g : Int) - 1) ∧ r = .int .i64 rv ∧ St3 w w1.heap.size w1.heap.size (w1.heap.size + 1) cx cx (top Q g) wr)
  case atStart =>
    refine ⟨0, by omega, ?_, rfl, rfl, ?_⟩
    · show (0 : Int) = _
      rw [left_start _ _ (toU_lt a)]; unfold wrap64; omega
    · rw [top_start]
      rw [part_lit] at H0 ⊢
      exact H0
  case round =>
    obtain ⟨rv, hg64, hrv, rfl, rfl, hst⟩ := hrel
    clear H0 m1
    cases gk with
    | zero =>
      have hg := hst.three
      have hm := hst.more
      rw [top_all] at hg
      have hQl : Hid (Q < 18446744073709551616) := by
        show Q < 18446744073709551616
        rw [← hQ.out]; exact Nat.lt_of_le_of_lt (Nat.div_le_self _ _) (toU_lt a)
      have hr2 : Hid (rv = M) := by
        show rv = M
        rw [hrv.out, left_end, hM.out]
      clear hst
      go_wp2_with (refine wpList_load_row rfl 133 (.tmp 7) rfl _ rfl 133 _ (0, 0) _ hg Try.underlying133 rfl (info_arr _) ?_)
      refine (of_num Q hQl.out _).mono ?_
      rintro e w3 ⟨rfl, m3⟩
      go_wp2
      go_ret2
      exact ⟨by rw [← hr2.out]; rfl, hm.trans m3⟩
    | succ g =>
      have hk : g < 64 := by omega
      have hk' : (g : Int) < 64 := by omega
      have eg : (((g + 1 : Nat)) : Int) - 1 = (g : Int) := by omega
      rw [eg]
      have hR := left_lt (toU a) (toU b) (g + 1) hb.out
      have hRB := toU_lt b
      obtain ⟨x, ex⟩ : ∃ x, (toU a).testBit g = x := ⟨_, rfl⟩
      have c1 : wr.cell? ⟨w1.heap.size, g, none⟩ = some (.bool x) := by rw [cell_of_row _ _ _ _ _ _ hst.one, get_of hx g hk, ex]
      have c3 : wr.cell? ⟨w1.heap.size + 1, g, none⟩ = some (.bool false) := by rw [cell_of_row _ _ _ _ _ _ hst.three]; unfold top; rw [arr_get _ _ hk]; simp; omega
      have f3 : wr.frozen? ⟨w1.heap.size + 1, g, none⟩ = false := frozen_of_row _ _ _ _ _ hst.three
      have Hst : Hid (St3 w w1.heap.size w1.heap.size (w1.heap.size + 1) cx cx (top Q (g + 1)) wr) := hst
      clear hst eg
      obtain ⟨r2, h2⟩ : ∃ r, wrap64 (rv + rv) = r := ⟨_, rfl⟩
      have H2 : Hid (r2 = wrap64 ((2 * left (toU a) (toU b) (g + 1) : Nat) : Int)) := by
        show r2 = _
        rw [← h2, hrv.out]; exact word_two _
      have r20 : -9223372036854775808 ≤ r2 := h2 ▸ word_low _
      have r21 : r2 ≤ 9223372036854775807 := h2 ▸ word_high _
      cases x with
      | true =>
        have HX : Hid ((toU a).testBit g = true) := ex
        clear ex
        obtain ⟨r3, h3⟩ : ∃ r, wrap64 (r2 + 1) = r := ⟨_, rfl⟩
        have H3 : Hid (r3 = wrap64 ((2 * left (toU a) (toU b) (g + 1) + 1 : Nat) : Int)) := by
          show r3 = _
          rw [← h3, H2.out]; exact word_one _
        have r30 : -9223372036854775808 ≤ r3 := h3 ▸ word_low _
        have r31 : r3 ≤ 9223372036854775807 := h3 ▸ word_high _
        by_cases hov : 9223372036854775808 ≤ left (toU a) (toU b) (g + 1)
        · have ho : rv < 0 := by rw [hrv.out]; exact (word_neg _ (by omega)).2 hov
          · have Hn : Hid (left (toU a) (toU b) g = 2 * left (toU a) (toU b) (g + 1) + 1 - toU b) := by
              show left (toU a) (toU b) g = _
              rw [left_next _ _ _ hb.out, HX.out]; simp only [Bool.toNat_true]; rw [if_pos (by omega)]
            have Hq : Hid (Q.testBit g = true) := by
              show Q.testBit g = _
              rw [← hQ.out, quo_bit _ _ _ hb.out, HX.out]; simp only [Bool.toNat_true]; simp; omega
            have Hs : Hid (wrap64 (r3 - b) = wrap64 (((2 * left (toU a) (toU b) (g + 1) + 1) - toU b : Nat) : Int)) := by
              show wrap64 (r3 - b) = _
              rw [H3.out]; exact word_less _ _ (by omega)
            clear hR hRB
            go_wp2_with fail
            go_roundg g
            case measure => omega
            case rel => exact ⟨_, by omega, Hs.out.trans (by rw [Hn.out]), by first | rfl | simp, rfl, Hst.out.set g _ (top_next _ g _ Hq.out)⟩
        · have ho : ¬ rv < 0 := by rw [hrv.out]; exact fun h => hov ((word_neg _ (by omega)).1 h)
          have HT : Hid (toU r3 = 2 * left (toU a) (toU b) (g + 1) + 1) := by
            show toU r3 = _
            rw [H3.out]; exact word_toU _ (by omega)
          by_cases hlt : 2 * left (toU a) (toU b) (g + 1) + 1 < toU b
          · have hbel : ∀ wx : World, Calls Try.prog 66 #[.int .i64 r3, .int .i64 b] wx fun e w' => e = .returned (.bool true) ∧ w' = wx := fun wx => by
              have h := below_calls r3 b r30 r31 b0 b1 wx
              rw [HT.out] at h
              have hd : decide (2 * left (toU a) (toU b) (g + 1) + 1 < toU b) = true := by simp; omega
              rw [hd] at h
              exact h
            have Hn : Hid (left (toU a) (toU b) g = 2 * left (toU a) (toU b) (g + 1) + 1) := by
              show left (toU a) (toU b) g = _
              rw [left_next _ _ _ hb.out, HX.out]; simp only [Bool.toNat_true]; rw [if_neg (by omega)]
            have Hq : Hid (Q.testBit g = false) := by
              show Q.testBit g = _
              rw [← hQ.out, quo_bit _ _ _ hb.out, HX.out]; simp only [Bool.toNat_true]; simp; omega
            clear hR hRB
            go_wp2_with (go_at_call 66; refine (hbel _).mono ?_; rintro e w' ⟨rfl, hw⟩; rw [hw])
            go_roundg g
            case measure => omega
            case rel => exact ⟨_, by omega, H3.out.trans (by rw [Hn.out]), by first | rfl | simp, rfl, top_skip _ g Hq.out ▸ Hst.out⟩
          · have hbel : ∀ wx : World, Calls Try.prog 66 #[.int .i64 r3, .int .i64 b] wx fun e w' => e = .returned (.bool false) ∧ w' = wx := fun wx => by
              have h := below_calls r3 b r30 r31 b0 b1 wx
              rw [HT.out] at h
              have hd : decide (2 * left (toU a) (toU b) (g + 1) + 1 < toU b) = false := by simp; omega
              rw [hd] at h
              exact h
            have Hn : Hid (left (toU a) (toU b) g = 2 * left (toU a) (toU b) (g + 1) + 1 - toU b) := by
              show left (toU a) (toU b) g = _
              rw [left_next _ _ _ hb.out, HX.out]; simp only [Bool.toNat_true]; rw [if_pos (by omega)]
            have Hq : Hid (Q.testBit g = true) := by
              show Q.testBit g = _
              rw [← hQ.out, quo_bit _ _ _ hb.out, HX.out]; simp only [Bool.toNat_true]; simp; omega
            have Hs : Hid (wrap64 (r3 - b) = wrap64 (((2 * left (toU a) (toU b) (g + 1) + 1) - toU b : Nat) : Int)) := by
              show wrap64 (r3 - b) = _
              rw [H3.out]; exact word_less _ _ (by omega)
            clear hR hRB
            go_wp2_with (go_at_call 66; refine (hbel _).mono ?_; rintro e w' ⟨rfl, hw⟩; rw [hw])
            go_roundg g
            case measure => omega
            case rel => exact ⟨_, by omega, Hs.out.trans (by rw [Hn.out]), by first | rfl | simp, rfl, Hst.out.set g _ (top_next _ g _ Hq.out)⟩
      | false =>
        have HX : Hid ((toU a).testBit g = false) := ex
        clear ex
        have H3 := H2
        by_cases hov : 9223372036854775808 ≤ left (toU a) (toU b) (g + 1)
        · have ho : rv < 0 := by rw [hrv.out]; exact (word_neg _ (by omega)).2 hov
          · have Hn : Hid (left (toU a) (toU b) g = 2 * left (toU a) (toU b) (g + 1) - toU b) := by
              show left (toU a) (toU b) g = _
              rw [left_next _ _ _ hb.out, HX.out]; simp only [Bool.toNat_false, Nat.add_zero]; rw [if_pos (by omega)]
            have Hq : Hid (Q.testBit g = true) := by
              show Q.testBit g = _
              rw [← hQ.out, quo_bit _ _ _ hb.out, HX.out]; simp only [Bool.toNat_false, Nat.add_zero]; simp; omega
            have Hs : Hid (wrap64 (r2 - b) = wrap64 (((2 * left (toU a) (toU b) (g + 1)) - toU b : Nat) : Int)) := by
              show wrap64 (r2 - b) = _
              rw [H3.out]; exact word_less _ _ (by omega)
            clear hR hRB
            go_wp2_with fail
            go_roundg g
            case measure => omega
            case rel => exact ⟨_, by omega, Hs.out.trans (by rw [Hn.out]), by first | rfl | simp, rfl, Hst.out.set g _ (top_next _ g _ Hq.out)⟩
        · have ho : ¬ rv < 0 := by rw [hrv.out]; exact fun h => hov ((word_neg _ (by omega)).1 h)
          have HT : Hid (toU r2 = 2 * left (toU a) (toU b) (g + 1)) := by
            show toU r2 = _
            rw [H3.out]; exact word_toU _ (by omega)
          by_cases hlt : 2 * left (toU a) (toU b) (g + 1) < toU b
          · have hbel : ∀ wx : World, Calls Try.prog 66 #[.int .i64 r2, .int .i64 b] wx fun e w' => e = .returned (.bool true) ∧ w' = wx := fun wx => by
              have h := below_calls r2 b r20 r21 b0 b1 wx
              rw [HT.out] at h
              have hd : decide (2 * left (toU a) (toU b) (g + 1) < toU b) = true := by simp; omega
              rw [hd] at h
              exact h
            have Hn : Hid (left (toU a) (toU b) g = 2 * left (toU a) (toU b) (g + 1)) := by
              show left (toU a) (toU b) g = _
              rw [left_next _ _ _ hb.out, HX.out]; simp only [Bool.toNat_false, Nat.add_zero]; rw [if_neg (by omega)]
            have Hq : Hid (Q.testBit g = false) := by
              show Q.testBit g = _
              rw [← hQ.out, quo_bit _ _ _ hb.out, HX.out]; simp only [Bool.toNat_false, Nat.add_zero]; simp; omega
            clear hR hRB
            go_wp2_with (go_at_call 66; refine (hbel _).mono ?_; rintro e w' ⟨rfl, hw⟩; rw [hw])
            go_roundg g
            case measure => omega
            case rel => exact ⟨_, by omega, H3.out.trans (by rw [Hn.out]), by first | rfl | simp, rfl, top_skip _ g Hq.out ▸ Hst.out⟩
          · have hbel : ∀ wx : World, Calls Try.prog 66 #[.int .i64 r2, .int .i64 b] wx fun e w' => e = .returned (.bool false) ∧ w' = wx := fun wx => by
              have h := below_calls r2 b r20 r21 b0 b1 wx
              rw [HT.out] at h
              have hd : decide (2 * left (toU a) (toU b) (g + 1) < toU b) = false := by simp; omega
              rw [hd] at h
              exact h
            have Hn : Hid (left (toU a) (toU b) g = 2 * left (toU a) (toU b) (g + 1) - toU b) := by
              show left (toU a) (toU b) g = _
              rw [left_next _ _ _ hb.out, HX.out]; simp only [Bool.toNat_false, Nat.add_zero]; rw [if_pos (by omega)]
            have Hq : Hid (Q.testBit g = true) := by
              show Q.testBit g = _
              rw [← hQ.out, quo_bit _ _ _ hb.out, HX.out]; simp only [Bool.toNat_false, Nat.add_zero]; simp; omega
            have Hs : Hid (wrap64 (r2 - b) = wrap64 (((2 * left (toU a) (toU b) (g + 1)) - toU b : Nat) : Int)) := by
              show wrap64 (r2 - b) = _
              rw [H3.out]; exact word_less _ _ (by omega)
            clear hR hRB
            go_wp2_with (go_at_call 66; refine (hbel _).mono ?_; rintro e w' ⟨rfl, hw⟩; rw [hw])
            go_roundg g
            case measure => omega
            case rel => exact ⟨_, by omega, Hs.out.trans (by rw [Hn.out]), by first | rfl | simp, rfl, Hst.out.set g _ (top_next _ g _ Hq.out)⟩
theorem ref_1 (a b : Int) (w : World) :
    Calls Try.prog 67 #[.int .i64 1, .int .i64 a, .int .i64 b] w fun e w' => e = .returned (.int .i64 (wrap64 (a + b))) ∧ More w w' := by
  go_enter Try.func67, Try.ntmps67
  go_wp2
  go_ret
  exact ⟨rfl, More.refl _⟩

theorem ref_2 (a b : Int) (w : World) :
    Calls Try.prog 67 #[.int .i64 2, .int .i64 a, .int .i64 b] w fun e w' => e = .returned (.int .i64 (wrap64 (a - b))) ∧ More w w' := by
  go_enter Try.func67, Try.ntmps67
  go_wp2
  go_ret
  exact ⟨rfl, More.refl _⟩

theorem ref_3 (a b : Int) (w : World) :
    Calls Try.prog 67 #[.int .i64 3, .int .i64 a, .int .i64 b] w fun e w' => e = .returned (.int .i64 (wrap64 (a * b))) ∧ More w w' := by
  go_enter Try.func67, Try.ntmps67
  go_wp2
  go_ret
  exact ⟨rfl, More.refl _⟩

theorem ref_4 (a b : Int) (a0 : -9223372036854775808 ≤ a) (a1 : a ≤ 9223372036854775807) (b0 : -9223372036854775808 ≤ b) (b1 : b ≤ 9223372036854775807) (w : World) :
    Calls Try.prog 67 #[.int .i64 4, .int .i64 a, .int .i64 b] w fun e w' => e = .returned (.int .i64 (wrap64 ((toU a &&& toU b : Nat) : Int))) ∧ More w w' := by
  obtain ⟨U, hU⟩ : ∃ U, toU a &&& toU b = U := ⟨_, rfl⟩
  have c := bitwise_and a b U a0 a1 b0 b1 (by show U < _; rw [← hU]; exact Nat.lt_of_le_of_lt Nat.and_le_left (toU_lt a)) (by show ∀ k, _; intro k; rw [← hU]; exact Nat.testBit_and _ _ _) w
  rw [hU]
  clear hU
  go_enter Try.func67, Try.ntmps67
  go_wp2_with (fail)
  refine c.mono ?_
  rintro e w1 ⟨rfl, m1⟩
  go_wp2
  go_ret
  exact ⟨rfl, m1⟩

theorem ref_5 (a b : Int) (a0 : -9223372036854775808 ≤ a) (a1 : a ≤ 9223372036854775807) (b0 : -9223372036854775808 ≤ b) (b1 : b ≤ 9223372036854775807) (w : World) :
    Calls Try.prog 67 #[.int .i64 5, .int .i64 a, .int .i64 b] w fun e w' => e = .returned (.int .i64 (wrap64 ((toU a ||| toU b : Nat) : Int))) ∧ More w w' := by
  obtain ⟨U, hU⟩ : ∃ U, toU a ||| toU b = U := ⟨_, rfl⟩
  have c := bitwise_or a b U a0 a1 b0 b1 (by show U < _; rw [← hU]; exact Nat.or_lt_two_pow (n := 64) (toU_lt a) (toU_lt b)) (by show ∀ k, _; intro k; rw [← hU]; exact Nat.testBit_or _ _ _) w
  rw [hU]
  clear hU
  go_enter Try.func67, Try.ntmps67
  go_wp2_with (fail)
  refine c.mono ?_
  rintro e w1 ⟨rfl, m1⟩
  go_wp2
  go_ret
  exact ⟨rfl, m1⟩

theorem ref_6 (a b : Int) (a0 : -9223372036854775808 ≤ a) (a1 : a ≤ 9223372036854775807) (b0 : -9223372036854775808 ≤ b) (b1 : b ≤ 9223372036854775807) (w : World) :
    Calls Try.prog 67 #[.int .i64 6, .int .i64 a, .int .i64 b] w fun e w' => e = .returned (.int .i64 (wrap64 ((toU a ^^^ toU b : Nat) : Int))) ∧ More w w' := by
  obtain ⟨U, hU⟩ : ∃ U, toU a ^^^ toU b = U := ⟨_, rfl⟩
  have c := bitwise_xor a b U a0 a1 b0 b1 (by show U < _; rw [← hU]; exact Nat.xor_lt_two_pow (n := 64) (toU_lt a) (toU_lt b)) (by show ∀ k, _; intro k; rw [← hU]; exact Nat.testBit_xor _ _ _) w
  rw [hU]
  clear hU
  go_enter Try.func67, Try.ntmps67
  go_wp2_with (fail)
  refine c.mono ?_
  rintro e w1 ⟨rfl, m1⟩
  go_wp2
  go_ret
  exact ⟨rfl, m1⟩

theorem ref_other (op a b : Int) (w : World) (h : op < 1 ∨ 10 < op) :
    Calls Try.prog 67 #[.int .i64 op, .int .i64 a, .int .i64 b] w fun e w' => e = .returned (.int .i64 0) ∧ More w w' := by
  have e1 : (op == 1) = false := by simp; omega
  have e2 : (op == 2) = false := by simp; omega
  have e3 : (op == 3) = false := by simp; omega
  have e4 : (op == 4) = false := by simp; omega
  have e5 : (op == 5) = false := by simp; omega
  have e6 : (op == 6) = false := by simp; omega
  have e7 : (op == 7) = false := by simp; omega
  have e8 : (op == 8) = false := by simp; omega
  have e9 : (op == 9) = false := by simp; omega
  have e10 : (op == 10) = false := by simp; omega
  clear h
  go_enter Try.func67, Try.ntmps67
  go_wp2
  go_ret
  exact ⟨rfl, More.refl _⟩

theorem ref_9_zero (a : Int) (w : World) :
    Calls Try.prog 67 #[.int .i64 9, .int .i64 a, .int .i64 0] w fun e w' => e = .returned (.int .i64 0) ∧ More w w' := by
  go_enter Try.func67, Try.ntmps67
  go_wp2
  go_ret
  exact ⟨rfl, More.refl _⟩

theorem ref_9_more (a b : Int) (a0 : -9223372036854775808 ≤ a) (a1 : a ≤ 9223372036854775807) (b0 : -9223372036854775808 ≤ b) (b1 : b ≤ 9223372036854775807) (hb : (b == 0) = false) (w : World) :
    Calls Try.prog 67 #[.int .i64 9, .int .i64 a, .int .i64 b] w fun e w' => e = .returned (.int .i64 (wrap64 ((toU a / toU b : Nat) : Int))) ∧ More w w' := by
  have hB : Hid (0 < toU b) := by
    show 0 < toU b
    have : b ≠ 0 := by simpa using hb
    unfold toU; omega
  have c := divide_calls a b a0 a1 b0 b1 hB w
  obtain ⟨q, hq⟩ : ∃ q, wrap64 ((toU a / toU b : Nat) : Int) = q := ⟨_, rfl⟩
  obtain ⟨r, hr⟩ : ∃ r, wrap64 ((toU a % toU b : Nat) : Int) = r := ⟨_, rfl⟩
  rw [hq, hr] at c
  rw [hq]
  clear hq hr
  go_enter Try.func67, Try.ntmps67
  go_wp2_with (fail)
  refine c.mono ?_
  rintro e w1 ⟨rfl, m1⟩
  go_wp2
  go_ret
  exact ⟨rfl, m1⟩

theorem ref_10_zero (a : Int) (w : World) :
    Calls Try.prog 67 #[.int .i64 10, .int .i64 a, .int .i64 0] w fun e w' => e = .returned (.int .i64 a) ∧ More w w' := by
  go_enter Try.func67, Try.ntmps67
  go_wp2
  go_ret
  exact ⟨rfl, More.refl _⟩

theorem ref_10_more (a b : Int) (a0 : -9223372036854775808 ≤ a) (a1 : a ≤ 9223372036854775807) (b0 : -9223372036854775808 ≤ b) (b1 : b ≤ 9223372036854775807) (hb : (b == 0) = false) (w : World) :
    Calls Try.prog 67 #[.int .i64 10, .int .i64 a, .int .i64 b] w fun e w' => e = .returned (.int .i64 (wrap64 ((toU a % toU b : Nat) : Int))) ∧ More w w' := by
  have hB : Hid (0 < toU b) := by
    show 0 < toU b
    have : b ≠ 0 := by simpa using hb
    unfold toU; omega
  have c := divide_calls a b a0 a1 b0 b1 hB w
  obtain ⟨q, hq⟩ : ∃ q, wrap64 ((toU a / toU b : Nat) : Int) = q := ⟨_, rfl⟩
  obtain ⟨r, hr⟩ : ∃ r, wrap64 ((toU a % toU b : Nat) : Int) = r := ⟨_, rfl⟩
  rw [hq, hr] at c
  rw [hr]
  clear hq hr
  go_enter Try.func67, Try.ntmps67
  go_wp2_with (fail)
  refine c.mono ?_
  rintro e w1 ⟨rfl, m1⟩
  go_wp2
  go_ret
  exact ⟨rfl, m1⟩

set_option maxHeartbeats 1000000 in
theorem ref_7 (a b : Int) (R : Int) (b0 : -9223372036854775808 ≤ b) (b1 : b ≤ 9223372036854775807)
    (hR : Hid (∀ w : World, Calls Try.prog 88 #[.int .i64 a, .int .i64 (((toU b % 64 : Nat) : Int))] w fun e w' => e = .returned (.int .i64 R) ∧ More w w')) (w : World) :
    Calls Try.prog 67 #[.int .i64 7, .int .i64 a, .int .i64 b] w fun e w' => e = .returned (.int .i64 R) ∧ More w w' := by
  go_enter Try.func67, Try.ntmps67
  go_wp2_with (fail)
  refine (bits_cells b b0 b1 _).mono ?_
  rintro e w1 ⟨cy, rfl, hy, m1⟩
  go_wp2_with (refine wpList_store_row rfl 133 (.tmp 7) (.tmp 41) rfl _ _ rfl rfl 133 _ (heap_alloc_last _ _) (info_of hy) (size_of hy) (one_of hy) ?_; rw [World.setRow_alloc_new])
  have H0 := (m1.alloc cy 133)
  have hsz := (size_of hy).symm
  go_loopg [8, 9, 10] 6 (fun g sv pv i wr => ∃ (k : Nat) (s p : Int), k + g = 6 ∧ Hid (s = ((toU b % 2 ^ k : Nat) : Int)) ∧ Hid (p = ((2 ^ k : Nat) : Int)) ∧ 0 ≤ s ∧ s < 64 ∧ 0 ≤ p ∧ p ≤ 64 ∧ sv = .int .i64 s ∧ pv = .int .i64 p ∧ i = .int .i64 k ∧ wr = w1.alloc (.cells cy 133))
  case atStart => exact ⟨0, 0, 1, by omega, by show (0 : Int) = _; simp [Nat.mod_one], rfl, by omega, by omega, by omega, by omega, rfl, rfl, rfl, rfl⟩
  case round =>
    obtain ⟨k, s, p, hkg, hs, hp, s0, s1, p0, p1, rfl, rfl, rfl, rfl⟩ := hrel
    cases gk with
    | zero =>
      obtain rfl : k = 6 := by omega
      have c := hR.out (w1.alloc (.cells cy 133))
      rw [show ((toU b % 64 : Nat) : Int) = s from hs.out.symm] at c
      go_wp2_with (fail)
      refine c.mono ?_
      rintro e w2 ⟨rfl, m2⟩
      go_wp2
      go_ret
      exact ⟨rfl, H0.trans m2⟩
    | succ g =>
      have hk : k < 6 := by omega
      have hk64 : k < 64 := by omega
      have hk' : (k : Int) < 64 := by omega
      have hk6 : (k : Int) < 6 := by omega
      obtain ⟨x, ex⟩ : ∃ x, (toU b).testBit k = x := ⟨_, rfl⟩
      have hcs : cy[k]'(by omega) = .bool x := by have h := get_of hy k (by omega); rw [ex] at h; exact (Array.getElem?_eq_some_iff.1 h).2
      have hpw : Hid (p + p = ((2 ^ (k + 1) : Nat) : Int)) := by show p + p = _; rw [hp.out, Nat.pow_succ]; omega
      have hpb : p ≤ 32 := by
        rw [hp.out]
        have : 2 ^ k ≤ 2 ^ 5 := Nat.pow_le_pow_right (by omega) (by omega)
        omega
      have hmod : toU b % 2 ^ (k + 1) = toU b % 2 ^ k + 2 ^ k * (toU b / 2 ^ k % 2) := Nat.mod_pow_succ
      have htb := Nat.testBit_eq_decide_div_mod_eq (x := toU b) (i := k)
      rw [ex] at htb
      cases x with
      | true =>
        have h1 : toU b / 2 ^ k % 2 = 1 := by simpa using htb.symm
        have hsn : Hid (s + p = ((toU b % 2 ^ (k + 1) : Nat) : Int)) := by
          show s + p = _
          rw [hmod, h1, hs.out, hp.out]; push_cast; omega
        have hsb : s + p < 64 := by
          rw [hsn.out]
          have h2 : toU b % 2 ^ (k + 1) < 2 ^ (k + 1) := Nat.mod_lt _ (Nat.pow_pos (by decide))
          have h3 : 2 ^ (k + 1) ≤ 2 ^ 6 := Nat.pow_le_pow_right (by omega) (by omega)
          omega
        clear hmod htb h1 ex
        go_wp2
        go_roundg g
        case measure => omega
        case rel => exact ⟨k + 1, s + p, p + p, by omega, hsn, hpw, by omega, by omega, by omega, by omega, rfl, rfl, by first | rfl | simp, rfl⟩
      | false =>
        have h1 : toU b / 2 ^ k % 2 = 0 := by
          have h2 : ¬ toU b / 2 ^ k % 2 = 1 := by simpa using htb.symm
          omega
        have hsn : Hid (s = ((toU b % 2 ^ (k + 1) : Nat) : Int)) := by
          show s = _
          rw [hmod, h1, hs.out]; simp
        clear hmod htb h1 ex
        go_wp2
        go_roundg g
        case measure => omega
        case rel => exact ⟨k + 1, s, p + p, by omega, hsn, hpw, by omega, by omega, by omega, by omega, rfl, rfl, by first | rfl | simp, rfl⟩

set_option maxHeartbeats 1000000 in
theorem ref_8 (a b : Int) (R : Int) (b0 : -9223372036854775808 ≤ b) (b1 : b ≤ 9223372036854775807)
    (hR : Hid (∀ w : World, Calls Try.prog 88 #[.int .i64 a, .int .i64 (-((toU b % 64 : Nat) : Int))] w fun e w' => e = .returned (.int .i64 R) ∧ More w w')) (w : World) :
    Calls Try.prog 67 #[.int .i64 8, .int .i64 a, .int .i64 b] w fun e w' => e = .returned (.int .i64 R) ∧ More w w' := by
  go_enter Try.func67, Try.ntmps67
  go_wp2_with (fail)
  refine (bits_cells b b0 b1 _).mono ?_
  rintro e w1 ⟨cy, rfl, hy, m1⟩
  go_wp2_with (refine wpList_store_row rfl 133 (.tmp 7) (.tmp 41) rfl _ _ rfl rfl 133 _ (heap_alloc_last _ _) (info_of hy) (size_of hy) (one_of hy) ?_; rw [World.setRow_alloc_new])
  have H0 := (m1.alloc cy 133)
  have hsz := (size_of hy).symm
  go_loopg [8, 9, 10] 6 (fun g sv pv i wr => ∃ (k : Nat) (s p : Int), k + g = 6 ∧ Hid (s = ((toU b % 2 ^ k : Nat) : Int)) ∧ Hid (p = ((2 ^ k : Nat) : Int)) ∧ 0 ≤ s ∧ s < 64 ∧ 0 ≤ p ∧ p ≤ 64 ∧ sv = .int .i64 s ∧ pv = .int .i64 p ∧ i = .int .i64 k ∧ wr = w1.alloc (.cells cy 133))
  case atStart => exact ⟨0, 0, 1, by omega, by show (0 : Int) = _; simp [Nat.mod_one], rfl, by omega, by omega, by omega, by omega, rfl, rfl, rfl, rfl⟩
  case round =>
    obtain ⟨k, s, p, hkg, hs, hp, s0, s1, p0, p1, rfl, rfl, rfl, rfl⟩ := hrel
    cases gk with
    | zero =>
      obtain rfl : k = 6 := by omega
      have c := hR.out (w1.alloc (.cells cy 133))
      rw [show ((toU b % 64 : Nat) : Int) = s from hs.out.symm] at c
      go_wp2_with (fail)
      refine c.mono ?_
      rintro e w2 ⟨rfl, m2⟩
      go_wp2
      go_ret
      exact ⟨rfl, H0.trans m2⟩
    | succ g =>
      have hk : k < 6 := by omega
      have hk64 : k < 64 := by omega
      have hk' : (k : Int) < 64 := by omega
      have hk6 : (k : Int) < 6 := by omega
      obtain ⟨x, ex⟩ : ∃ x, (toU b).testBit k = x := ⟨_, rfl⟩
      have hcs : cy[k]'(by omega) = .bool x := by have h := get_of hy k (by omega); rw [ex] at h; exact (Array.getElem?_eq_some_iff.1 h).2
      have hpw : Hid (p + p = ((2 ^ (k + 1) : Nat) : Int)) := by show p + p = _; rw [hp.out, Nat.pow_succ]; omega
      have hpb : p ≤ 32 := by
        rw [hp.out]
        have : 2 ^ k ≤ 2 ^ 5 := Nat.pow_le_pow_right (by omega) (by omega)
        omega
      have hmod : toU b % 2 ^ (k + 1) = toU b % 2 ^ k + 2 ^ k * (toU b / 2 ^ k % 2) := Nat.mod_pow_succ
      have htb := Nat.testBit_eq_decide_div_mod_eq (x := toU b) (i := k)
      rw [ex] at htb
      cases x with
      | true =>
        have h1 : toU b / 2 ^ k % 2 = 1 := by simpa using htb.symm
        have hsn : Hid (s + p = ((toU b % 2 ^ (k + 1) : Nat) : Int)) := by
          show s + p = _
          rw [hmod, h1, hs.out, hp.out]; push_cast; omega
        have hsb : s + p < 64 := by
          rw [hsn.out]
          have h2 : toU b % 2 ^ (k + 1) < 2 ^ (k + 1) := Nat.mod_lt _ (Nat.pow_pos (by decide))
          have h3 : 2 ^ (k + 1) ≤ 2 ^ 6 := Nat.pow_le_pow_right (by omega) (by omega)
          omega
        clear hmod htb h1 ex
        go_wp2
        go_roundg g
        case measure => omega
        case rel => exact ⟨k + 1, s + p, p + p, by omega, hsn, hpw, by omega, by omega, by omega, by omega, rfl, rfl, by first | rfl | simp, rfl⟩
      | false =>
        have h1 : toU b / 2 ^ k % 2 = 0 := by
          have h2 : ¬ toU b / 2 ^ k % 2 = 1 := by simpa using htb.symm
          omega
        have hsn : Hid (s = ((toU b % 2 ^ (k + 1) : Nat) : Int)) := by
          show s = _
          rw [hmod, h1, hs.out]; simp
        clear hmod htb h1 ex
        go_wp2
        go_roundg g
        case measure => omega
        case rel => exact ⟨k + 1, s, p + p, by omega, hsn, hpw, by omega, by omega, by omega, by omega, rfl, rfl, by first | rfl | simp, rfl⟩

theorem wrap_mod (n : Nat) : wrap64 ((n % 18446744073709551616 : Nat) : Int) = wrap64 (n : Int) := by unfold wrap64; omega
theorem wrap_back (a : Int) (a0 : -9223372036854775808 ≤ a) (a1 : a ≤ 9223372036854775807) : wrap64 ((toU a : Nat) : Int) = a := by rw [toU_cast]; unfold wrap64; omega
theorem wrap_nil : wrap64 ((0 : Nat) : Int) = 0 := by unfold wrap64; omega

theorem shift_up (a b : Int) (a0 : -9223372036854775808 ≤ a) (a1 : a ≤ 9223372036854775807) (w : World) :
    Calls Try.prog 88 #[.int .i64 a, .int .i64 (((toU b % 64 : Nat)) : Int)] w fun e w' => e = .returned (.int .i64 (wrap64 ((toU a * 2 ^ (toU b % 64) : Nat) : Int))) ∧ More w w' := by
  have hs : toU b % 64 < 64 := Nat.mod_lt _ (by decide)
  generalize toU b % 64 = s at *
  rw [← wrap_mod]
  refine shift_calls a (s : Int) _ a0 a1 (by omega) (by omega) (Nat.mod_lt _ (by decide)) ?_ w
  show ∀ k, _
  intro k hk
  have e : (18446744073709551616 : Nat) = 2 ^ 64 := by decide
  rw [e, Nat.testBit_mod_two_pow, Nat.testBit_mul_two_pow]
  by_cases h : s ≤ k
  · have h1 : ((k : Int) - (s : Int)).toNat = k - s := by omega
    have h2 : (0 ≤ (k : Int) - (s : Int) ∧ (k : Int) - (s : Int) < 64) := by omega
    rw [h1]; simp [hk, h, h2]
  · have h2 : ¬ (0 ≤ (k : Int) - (s : Int) ∧ (k : Int) - (s : Int) < 64) := by omega
    simp only [h, h2]; simp

theorem shift_down (a b : Int) (a0 : -9223372036854775808 ≤ a) (a1 : a ≤ 9223372036854775807) (w : World) :
    Calls Try.prog 88 #[.int .i64 a, .int .i64 (-(((toU b % 64 : Nat)) : Int))] w fun e w' => e = .returned (.int .i64 (wrap64 ((toU a / 2 ^ (toU b % 64) : Nat) : Int))) ∧ More w w' := by
  have hs : toU b % 64 < 64 := Nat.mod_lt _ (by decide)
  generalize toU b % 64 = s at *
  refine shift_calls a (-(s : Int)) _ a0 a1 (by omega) (by omega) (Nat.lt_of_le_of_lt (Nat.div_le_self _ _) (toU_lt a)) ?_ w
  show ∀ k, _
  intro k hk
  have h1 : ((k : Int) - -(s : Int)).toNat = k + s := by omega
  rw [Nat.testBit_div_two_pow, h1]
  by_cases h : k + s < 64
  · rw [decide_eq_true (by omega), Bool.true_and]
  · have h2 : ¬ (0 ≤ (k : Int) - -(s : Int) ∧ (k : Int) - -(s : Int) < 64) := by omega
    have h3 : (toU a).testBit (k + s) = false := Nat.testBit_lt_two_pow (Nat.lt_of_lt_of_le (toU_lt a) (by
      have : 2 ^ 64 ≤ 2 ^ (k + s) := Nat.pow_le_pow_right (by decide) (by omega)
      omega))
    rw [h3]; simp

/-- evenkeelref1.Op, whatever the operation. -/
theorem ref_op (op a b : Int) (a0 : -9223372036854775808 ≤ a) (a1 : a ≤ 9223372036854775807) (b0 : -9223372036854775808 ≤ b) (b1 : b ≤ 9223372036854775807) (w : World) :
    Calls Try.prog 67 #[.int .i64 op, .int .i64 a, .int .i64 b] w fun e w' => e = .returned (.int .i64 (opI op a b)) ∧ More w w' := by
  by_cases h : op < 1 ∨ 10 < op
  · rw [show opI op a b = 0 by unfold opI; rw [if_neg (by omega), if_neg (by omega), if_neg (by omega), if_neg (by omega), if_neg (by omega), if_neg (by omega), if_neg (by omega), if_neg (by omega), if_neg (by omega), if_neg (by omega)]]
    exact ref_other op a b w h
  have hs : op = 1 ∨ op = 2 ∨ op = 3 ∨ op = 4 ∨ op = 5 ∨ op = 6 ∨ op = 7 ∨ op = 8 ∨ op = 9 ∨ op = 10 := by omega
  rcases hs with rfl | rfl | rfl | rfl | rfl | rfl | rfl | rfl | rfl | rfl
  · rw [opI_1]; exact ref_1 a b w
  · rw [opI_2]; exact ref_2 a b w
  · rw [opI_3]; exact ref_3 a b w
  · rw [opI_4]; exact ref_4 a b a0 a1 b0 b1 w
  · rw [opI_5]; exact ref_5 a b a0 a1 b0 b1 w
  · rw [opI_6]; exact ref_6 a b a0 a1 b0 b1 w
  · rw [opI_7]; exact ref_7 a b _ b0 b1 (fun w => shift_up a b a0 a1 w) w
  · rw [opI_8]; exact ref_8 a b _ b0 b1 (fun w => shift_down a b a0 a1 w) w
  · by_cases hb : b = 0
    · subst hb
      rw [opI_9, show toU 0 = 0 by unfold toU; omega, Nat.div_zero, wrap_nil]
      exact ref_9_zero a w
    · rw [opI_9]; exact ref_9_more a b a0 a1 b0 b1 (by simp [hb]) w
  · by_cases hb : b = 0
    · subst hb
      rw [opI_10, show toU 0 = 0 by unfold toU; omega, Nat.mod_zero, wrap_back a a0 a1]
      exact ref_10_zero a w
    · rw [opI_10]; exact ref_10_more a b a0 a1 b0 b1 (by simp [hb]) w

theorem rh_1 (a b : Int) (w : World) :
    Calls Try.prog 42 #[.int .i64 1, .int .i64 a, .int .i64 b] w fun e w' => e = .returned (.bool (a == b)) ∧ More w w' := by
  go_enter Try.func42, Try.ntmps42
  go_wp2
  go_ret
  exact ⟨rfl, More.refl _⟩
theorem rh_2 (a b : Int) (w : World) :
    Calls Try.prog 42 #[.int .i64 2, .int .i64 a, .int .i64 b] w fun e w' => e = .returned (.bool (a != b)) ∧ More w w' := by
  go_enter Try.func42, Try.ntmps42
  go_wp2
  go_ret
  exact ⟨rfl, More.refl _⟩
theorem rh_3 (a b : Int) (v : Bool) (hv : ∀ w : World, Calls Try.prog 66 #[.int .i64 a, .int .i64 b] w fun e w' => e = .returned (.bool v) ∧ w' = w) (w : World) :
    Calls Try.prog 42 #[.int .i64 3, .int .i64 a, .int .i64 b] w fun e w' => e = .returned (.bool v) ∧ More w w' := by
  go_enter Try.func42, Try.ntmps42
  go_wp2_with (fail)
  refine (hv w).mono ?_
  rintro e w' ⟨rfl, hw⟩
  rw [hw]
  go_wp2
  go_ret
  exact ⟨rfl, More.refl _⟩
theorem rh_4 (a b : Int) (v : Bool) (hv : ∀ w : World, Calls Try.prog 66 #[.int .i64 a, .int .i64 b] w fun e w' => e = .returned (.bool v) ∧ w' = w) (w : World) :
    Calls Try.prog 42 #[.int .i64 4, .int .i64 a, .int .i64 b] w fun e w' => e = .returned (.bool !v) ∧ More w w' := by
  go_enter Try.func42, Try.ntmps42
  go_wp2_with (fail)
  refine (hv w).mono ?_
  rintro e w' ⟨rfl, hw⟩
  rw [hw]
  go_wp2
  go_ret
  exact ⟨rfl, More.refl _⟩
theorem rh_other (c a b : Int) (w : World) (h1 : (c == 1) = false) (h2 : (c == 2) = false) (h3 : (c == 3) = false) (h4 : (c == 4) = false) :
    Calls Try.prog 42 #[.int .i64 c, .int .i64 a, .int .i64 b] w fun e w' => e = .returned (.bool false) ∧ More w w' := by
  go_enter Try.func42, Try.ntmps42
  go_wp2
  go_ret
  exact ⟨rfl, More.refl _⟩

/-- evenkeelref1.Holds, whatever the condition. -/
theorem ref_holds (c a b : Int) (a0 : -9223372036854775808 ≤ a) (a1 : a ≤ 9223372036854775807) (b0 : -9223372036854775808 ≤ b) (b1 : b ≤ 9223372036854775807) (w : World) :
    Calls Try.prog 42 #[.int .i64 c, .int .i64 a, .int .i64 b] w fun e w' => e = .returned (.bool (holdsI c a b)) ∧ More w w' := by
  by_cases h1 : c = 1
  · subst h1
    rw [show holdsI 1 a b = (a == b) by simp only [holdsI]; rw [Bool.eq_iff_iff]; simp; unfold toU; omega]
    exact rh_1 a b w
  by_cases h2 : c = 2
  · subst h2
    rw [show holdsI 2 a b = (a != b) by simp only [holdsI]; rw [Bool.eq_iff_iff]; simp; unfold toU; omega]
    exact rh_2 a b w
  by_cases h3 : c = 3
  · subst h3
    rw [show holdsI 3 a b = decide (toU a < toU b) by simp [holdsI]]
    exact rh_3 a b _ (fun w => below_calls a b a0 a1 b0 b1 w) w
  by_cases h4 : c = 4
  · subst h4
    rw [show holdsI 4 a b = !decide (toU a < toU b) by simp [holdsI]; rw [Bool.eq_iff_iff]; simp]
    exact rh_4 a b _ (fun w => below_calls a b a0 a1 b0 b1 w) w
  rw [show holdsI c a b = false by simp [holdsI, *]]
  exact rh_other c a b w (by simp [h1]) (by simp [h2]) (by simp [h3]) (by simp [h4])
theorem ref_put (op a b c n : Int) (w : World) :
    Calls Try.prog 41 #[.agg #[.int .i64 op, .int .i64 a, .int .i64 b, .int .i64 c, .int .i64 n]] w fun e w' => e = .returned (.int .i64 (putI ⟨op, a, b, c, n⟩)) ∧ More w w' := by
  by_cases h3 : op = 3
  · subst h3
    go_enter Try.func41, Try.ntmps41
    go_wp2
    go_ret
    exact ⟨by simp [putI], (More.refl _).alloc _ _⟩
  by_cases h5 : op = 5
  · subst h5
    go_enter Try.func41, Try.ntmps41
    go_wp2
    go_ret
    exact ⟨by simp [putI], (More.refl _).alloc _ _⟩
  by_cases h4 : op = 4
  · subst h4
    go_enter Try.func41, Try.ntmps41
    go_wp2
    go_ret
    exact ⟨by simp [putI], (More.refl _).alloc _ _⟩
  by_cases h6 : op = 6
  · subst h6
    go_enter Try.func41, Try.ntmps41
    go_wp2
    go_ret
    exact ⟨by simp [putI], (More.refl _).alloc _ _⟩
  obtain ⟨P, hP⟩ : ∃ P, putI ⟨op, a, b, c, n⟩ = P := ⟨_, rfl⟩
  have HP : Hid (P = -1) := (show P = -1 by rw [← hP]; unfold putI; dsimp only; rw [if_neg (by omega), if_neg (by omega)])
  rw [hP, HP.out]
  clear hP HP
  go_enter Try.func41, Try.ntmps41
  go_wp2
  go_ret
  exact ⟨rfl, (More.refl _).alloc _ _⟩

theorem ref_index_k (op a b c n : Int) (sv : Value) (h : op = 5 ∨ op = 6) (w : World) :
    Calls Try.prog 43 #[sv, .agg #[.int .i64 op, .int .i64 a, .int .i64 b, .int .i64 c, .int .i64 n]] w fun e w' => e = .returned (.int .i64 n) ∧ More w w' := by
  rcases h with rfl | rfl
  all_goals
    go_enter Try.func43, Try.ntmps43
    go_wp2
    go_ret
    exact ⟨rfl, (More.refl _).alloc _ _⟩

set_option maxHeartbeats 400000 in
theorem ref_index_r (op a b c n : Int) (g : Nat) {gc : Nat} (x : Int) (h5 : ¬ op = 5) (h6 : ¬ op = 6) (hb : 0 ≤ b) (hb' : b < 10) (w : World) (hx : w.cell? ⟨g, b.toNat, none⟩ = some (.int .i64 x)) :
    Calls Try.prog 43 #[.slice (some ⟨g, 0, none⟩) 10 gc, .agg #[.int .i64 op, .int .i64 a, .int .i64 b, .int .i64 c, .int .i64 n]] w fun e w' => e = .returned (.int .i64 (wrap64 (x + n))) ∧ More w w' := by
  obtain ⟨W, HW⟩ : ∃ W : World, Hid (W = w.alloc (.cells #[.int .i64 op, .int .i64 a, .int .i64 b, .int .i64 c, .int .i64 n] 67)) := ⟨_, rfl⟩
  have Hw : Hid (More w W) := HW.out ▸ (More.refl _).alloc _ _
  obtain ⟨S, HS⟩ : ∃ S : World → Prop, Hid (∀ w', S w' ↔ More W w') := ⟨fun w' => More W w', fun _ => Iff.rfl⟩
  have k0 : ∀ i : { w' // S w' }, i.val.cell? ⟨g, b.toNat, none⟩ = some (.int .i64 x) := fun i => ((HS.out _).1 i.property).cell (Hw.out.cell hx)
  have k2 : ∀ i : { w' // S w' }, i.val.cell? ⟨w.heap.size, 2, none⟩ = some (.int .i64 b) := fun i => ((HS.out _).1 i.property).cell (by rw [HW.out]; go_simp)
  have k4 : ∀ i : { w' // S w' }, i.val.cell? ⟨w.heap.size, 4, none⟩ = some (.int .i64 n) := fun i => ((HS.out _).1 i.property).cell (by rw [HW.out]; go_simp)
  have hne : Nonempty { w' // S w' } := ⟨⟨W, (HS.out _).2 (More.refl _)⟩⟩
  have hwr := wrapEq
  have t5 : (op == 5) = false := by simp [h5]
  have t6 : (op == 6) = false := by simp [h6]
  clear hx h5 h6
  go_enter Try.func43, Try.ntmps43
  go_wp2_with (fail)
  refine wp_region_ord (S := S) [(0, true), (1, true), (2, true), (3, true), (4, true), (5, true), (6, true), (7, true), (8, true)] (by kernel_rfl) (by kernel_rfl) (by kernel_rfl) ((HS.out _).2 (by rw [HW.out]; exact (More.refl _).drew)) ?_
  iterate 9 (refine wpOrd_take rfl (by kernel_rfl) (fun K hK => ?_); go_simp; refine hK _ _ ?_; clear hK K)
  refine wpOrd_done ?_
  clear k0 k2 k4 hne
  go_wp2
  go_ret
  exact ⟨rfl, ((More.refl _).alloc _ _).drew⟩

set_option maxHeartbeats 400000 in
theorem ref_base (ra : Option Addr) (rl rc : Nat) (ca : Option Addr) (cl cc : Nat) (c : Int) (rb ro : Nat) (log : Nat → Int) (sec : Nat → Bool) (w : World) (h0 : 0 ≤ c) (h1 : c < (rl : Int))
    (hra : 0 < rl → ra = some ⟨rb, ro, none⟩) (hr : RegsAt w rb ro rl log sec) (hok : RegionsOk rl log) :
    Calls Try.prog 44 #[.agg #[.slice ra rl rc, .slice ca cl cc], .int .i64 c] w fun e w' => e = .returned (.int .i64 (baseI log c.toNat)) ∧ More w w' := by
  obtain ⟨k0, rfl⟩ : ∃ k : Nat, c = k := ⟨c.toNat, by omega⟩
  have Hr : Hid (RegsAt w rb ro rl log sec ∧ RegionsOk rl log) := ⟨hr, hok⟩
  obtain rfl := hra (by omega)
  have hk0 : k0 < rl := by omega
  have h6 : rl ≤ 6 := hok.1
  obtain ⟨R, HR⟩ : ∃ R, Hid (baseI log k0 = R) := ⟨_, rfl⟩
  rw [show ((k0 : Int)).toNat = k0 by omega, HR.out]
  clear hra hr hok h0 h1
  go_enter Try.func44, Try.ntmps44
  go_wp2
  go_loopg [5, 6] k0 (fun g nv i wr => ∃ (k : Nat) (m : Int), k + g = k0 ∧ m = baseI log k ∧ (0 ≤ m ∧ m ≤ 64 * k) ∧ nv = .int .i64 m ∧ i = .int .i64 k ∧ More (w.alloc (.cells #[.slice (some ⟨rb, ro, none⟩) rl rc, .slice ca cl cc] 30)) wr)
  case atStart => exact ⟨0, 0, by omega, rfl, by omega, rfl, rfl, More.refl _⟩
  case round =>
    obtain ⟨k, m, hkg, hm, ⟨b0, b1⟩, rfl, rfl, mm⟩ := hrel
    have e0 : wr.cell? ⟨w.heap.size, 0, none⟩ = some (.slice (some ⟨rb, ro, none⟩) rl rc) := mm.cell (by go_simp)
    have e1 : wr.cell? ⟨w.heap.size, 1, none⟩ = some (.slice ca cl cc) := mm.cell (by go_simp)
    have Hm : Hid (m = baseI log k ∧ More (w.alloc (.cells #[.slice (some ⟨rb, ro, none⟩) rl rc, .slice ca cl cc] 30)) wr) := ⟨hm, mm⟩
    clear hm mm
    cases gk with
    | zero =>
      obtain rfl : k = k0 := by omega
      go_wp2
      go_ret
      exact ⟨congrArg (fun n => Ending.returned (.int .i64 n)) (Hm.out.1.trans HR.out), ((More.refl _).alloc _ _).trans Hm.out.2⟩
    | succ g =>
      have hk : k < rl := by omega
      have hk' : (k : Int) < (k0 : Int) := by omega
      have hkr : (k : Int) < (rl : Int) := by omega
      have hk1 : (0 : Int) ≤ (k : Int) := by omega
      have mw : More w wr := ((More.refl _).alloc _ _).trans Hm.out.2
      have q0 := ((Hr.out.1.more mw) k hk).1
      have q1 := ((Hr.out.1.more mw) k hk).2
      clear mw
      have Hlog : Hid (0 ≤ log k ∧ log k ≤ 6) := Hr.out.2.2 k hk
      obtain ⟨lk, hlk⟩ : ∃ x, log k = x := ⟨_, rfl⟩
      rw [hlk] at q0 Hlog
      have Hlk : Hid (log k = lk) := hlk
      clear hlk
      go_wp2_with (fail)
      obtain ⟨nw, hnw⟩ : ∃ x, wordsI lk = x := ⟨_, rfl⟩
      refine (ref_words lk Hlog.out.1 Hlog.out.2 (sec k) _).mono ?_
      rw [hnw]
      have hnb : 1 ≤ nw ∧ nw ≤ 64 := by
        rw [← hnw]
        exact two_pow_le (k := lk.toNat) (by have := Hlog.out; omega)
      have Hnw : Hid (wordsI (log k) = nw) := by rw [Hlk.out]; exact hnw
      clear hnw q0 q1
      rintro e w2 ⟨rfl, m2⟩
      have Hm2 : Hid (More (w.alloc (.cells #[.slice (some ⟨rb, ro, none⟩) rl rc, .slice ca cl cc] 30)) w2) := Hm.out.2.trans m2
      clear m2 e0 e1
      go_wp2
      go_roundg g
      case measure => omega
      case rel =>
        refine ⟨k + 1, m + nw, by omega, by rw [baseI, ← Hm.out.1, Hnw.out], by push_cast; omega, ?_, by first | rfl | simp, Hm2.out⟩
        first | rfl | (simp; unfold wrap64; omega)

set_option maxHeartbeats 400000 in
theorem reg_1 (a b c n : Int) (g : Nat) {gc : Nat} (r : Nat → Int) (w : World) (hr : RegsR w g r) (a0 : 0 ≤ a) (a1 : a < 10) :
    Calls Try.prog 45 #[.slice (some ⟨g, 0, none⟩) 10 gc, .agg #[.int .i64 1, .int .i64 a, .int .i64 b, .int .i64 c, .int .i64 n]] w fun e w' => e = .returned (.slice none 0 0) ∧ RegsR w' g (setR r a n) ∧ w.grownBy w' (some g) := by
  have Hr : Hid (RegsR w g r) := hr
  have hrW : RegsR (w.alloc (.cells #[.int .i64 1, .int .i64 a, .int .i64 b, .int .i64 c, .int .i64 n] 67)) g r := hr.alloc _ _
  have hg : g < w.heap.size := cell_block (hr 0 (by omega)).1
  have ca := (hr a.toNat (by omega)).1
  have fa := (hr a.toNat (by omega)).2
  clear hr hrW
  go_enter Try.func45, Try.ntmps45
  go_wp2
  go_ret
  exact ⟨rfl, (by repeat (first | exact Hr.out | apply RegsR.drew | apply RegsR.alloc | apply RegsR.set)), (by repeat (first | exact grown_refl _ _ | apply gr_drew | apply gr_alloc | apply gr_set))⟩

set_option maxHeartbeats 400000 in
theorem reg_12 (a b c n : Int) (g : Nat) {gc : Nat} (r : Nat → Int) (w : World) (hr : RegsR w g r) :
    Calls Try.prog 45 #[.slice (some ⟨g, 0, none⟩) 10 gc, .agg #[.int .i64 12, .int .i64 a, .int .i64 b, .int .i64 c, .int .i64 n]] w fun e w' => e = .returned (.slice none 0 0) ∧ RegsR w' g (r) ∧ w.grownBy w' (some g) := by
  have Hr : Hid (RegsR w g r) := hr
  have hrW : RegsR (w.alloc (.cells #[.int .i64 12, .int .i64 a, .int .i64 b, .int .i64 c, .int .i64 n] 67)) g r := hr.alloc _ _
  have hg : g < w.heap.size := cell_block (hr 0 (by omega)).1
  clear hr hrW
  go_enter Try.func45, Try.ntmps45
  go_wp2
  go_ret
  exact ⟨rfl, (by repeat (first | exact Hr.out | apply RegsR.drew | apply RegsR.alloc | apply RegsR.set)), (by repeat (first | exact grown_refl _ _ | apply gr_drew | apply gr_alloc | apply gr_set))⟩

set_option maxHeartbeats 400000 in
theorem reg_2 (a b c n : Int) (g : Nat) {gc : Nat} (r : Nat → Int) (w : World) (hr : RegsR w g r) (a0 : 0 ≤ a) (a1 : a < 10) (b0 : 0 ≤ b) (b1 : b < 10) :
    Calls Try.prog 45 #[.slice (some ⟨g, 0, none⟩) 10 gc, .agg #[.int .i64 2, .int .i64 a, .int .i64 b, .int .i64 c, .int .i64 n]] w fun e w' => e = .returned (.slice none 0 0) ∧ RegsR w' g (setR r a (r b.toNat)) ∧ w.grownBy w' (some g) := by
  have Hr : Hid (RegsR w g r) := hr
  have hrW : RegsR (w.alloc (.cells #[.int .i64 2, .int .i64 a, .int .i64 b, .int .i64 c, .int .i64 n] 67)) g r := hr.alloc _ _
  have hg : g < w.heap.size := cell_block (hr 0 (by omega)).1
  have ca := (hr a.toNat (by omega)).1
  have fa := (hr a.toNat (by omega)).2
  have cb := (hr b.toNat (by omega)).1
  have fb := (hr b.toNat (by omega)).2
  obtain ⟨S, HS⟩ : ∃ S : World → Prop, Hid (∀ w', S w' ↔ w'.cell? ⟨w.heap.size, 1, none⟩ = some (.int .i64 a) ∧ w'.cell? ⟨w.heap.size, 2, none⟩ = some (.int .i64 b)) := ⟨_, fun _ => Iff.rfl⟩
  have k1 : ∀ i : { w' // S w' }, i.val.cell? ⟨w.heap.size, 1, none⟩ = some (.int .i64 a) := fun i => ((HS.out _).1 i.property).1
  have k2 : ∀ i : { w' // S w' }, i.val.cell? ⟨w.heap.size, 2, none⟩ = some (.int .i64 b) := fun i => ((HS.out _).1 i.property).2
  have hne : Nonempty { w' // S w' } := ⟨⟨w.alloc (.cells #[.int .i64 2, .int .i64 a, .int .i64 b, .int .i64 c, .int .i64 n] 67), (HS.out _).2 (by go_simp)⟩⟩
  clear hr hrW
  go_enter Try.func45, Try.ntmps45
  go_wp2_with (fail)
  refine wp_region_ord (S := S) [(0, true), (1, true), (2, true), (3, true), (4, true), (5, true), (6, true), (7, false), (8, true), (9, false)] (by kernel_rfl) (by kernel_rfl) (by kernel_rfl) ((HS.out _).2 (by go_simp)) ?_
  iterate 7 (refine wpOrd_take rfl (by kernel_rfl) (fun K hK => ?_); go_simp; refine hK _ _ ?_; clear hK K)
  refine wpOrd_busy rfl (by kernel_rfl) (fun K hK => ?_); go_simp
  refine hK _ _ ((HS.out _).2 (by go_simp)) ?_; clear hK K
  refine wpOrd_take rfl (by kernel_rfl) (fun K hK => ?_); go_simp; refine hK _ _ ?_; clear hK K
  refine wpOrd_busy rfl (by kernel_rfl) (fun K hK => ?_); go_simp
  refine hK _ _ ((HS.out _).2 (by go_simp)) ?_; clear hK K
  refine wpOrd_done ?_
  clear k1 k2 hne
  go_wp2
  go_ret
  exact ⟨rfl, (by repeat (first | exact Hr.out | apply RegsR.drew | apply RegsR.alloc | apply RegsR.set)), (by repeat (first | exact grown_refl _ _ | apply gr_drew | apply gr_alloc | apply gr_set))⟩

set_option maxHeartbeats 400000 in
theorem reg_10 (a b c n : Int) (g : Nat) {gc : Nat} (r : Nat → Int) (w : World) (hr : RegsR w g r) (a0 : 0 ≤ a) (a1 : a < 10) (b0 : 0 ≤ b) (b1 : b < 10) :
    Calls Try.prog 45 #[.slice (some ⟨g, 0, none⟩) 10 gc, .agg #[.int .i64 10, .int .i64 a, .int .i64 b, .int .i64 c, .int .i64 n]] w fun e w' => e = .returned (.slice none 0 0) ∧ RegsR w' g (setR r a (wrap64 (r b.toNat + n))) ∧ w.grownBy w' (some g) := by
  have Hr : Hid (RegsR w g r) := hr
  have hrW : RegsR (w.alloc (.cells #[.int .i64 10, .int .i64 a, .int .i64 b, .int .i64 c, .int .i64 n] 67)) g r := hr.alloc _ _
  have hg : g < w.heap.size := cell_block (hr 0 (by omega)).1
  have ca := (hr a.toNat (by omega)).1
  have fa := (hr a.toNat (by omega)).2
  have cb := (hr b.toNat (by omega)).1
  have fb := (hr b.toNat (by omega)).2
  obtain ⟨S, HS⟩ : ∃ S : World → Prop, Hid (∀ w', S w' ↔ w'.cell? ⟨w.heap.size, 1, none⟩ = some (.int .i64 a) ∧ w'.cell? ⟨w.heap.size, 2, none⟩ = some (.int .i64 b) ∧ w'.cell? ⟨w.heap.size, 4, none⟩ = some (.int .i64 n)) := ⟨_, fun _ => Iff.rfl⟩
  have k1 : ∀ i : { w' // S w' }, i.val.cell? ⟨w.heap.size, 1, none⟩ = some (.int .i64 a) := fun i => ((HS.out _).1 i.property).1
  have k2 : ∀ i : { w' // S w' }, i.val.cell? ⟨w.heap.size, 2, none⟩ = some (.int .i64 b) := fun i => ((HS.out _).1 i.property).2.1
  have k4 : ∀ i : { w' // S w' }, i.val.cell? ⟨w.heap.size, 4, none⟩ = some (.int .i64 n) := fun i => ((HS.out _).1 i.property).2.2
  have hne : Nonempty { w' // S w' } := ⟨⟨w.alloc (.cells #[.int .i64 10, .int .i64 a, .int .i64 b, .int .i64 c, .int .i64 n] 67), (HS.out _).2 (by go_simp)⟩⟩
  have hwr := wrapEq
  clear hr hrW
  go_enter Try.func45, Try.ntmps45
  go_wp2_with (fail)
  refine wp_region_ord (S := S) [(0, true), (1, true), (2, true), (3, true), (4, true), (5, true), (6, true), (8, true), (9, true), (7, false), (10, true), (11, true), (12, false)] (by kernel_rfl) (by kernel_rfl) (by kernel_rfl) ((HS.out _).2 (by go_simp)) ?_
  iterate 9 (refine wpOrd_take rfl (by kernel_rfl) (fun K hK => ?_); go_simp; refine hK _ _ ?_; clear hK K)
  refine wpOrd_busy rfl (by kernel_rfl) (fun K hK => ?_); go_simp
  refine hK _ _ ((HS.out _).2 (by go_simp)) ?_; clear hK K
  iterate 2 (refine wpOrd_take rfl (by kernel_rfl) (fun K hK => ?_); go_simp; refine hK _ _ ?_; clear hK K)
  refine wpOrd_busy rfl (by kernel_rfl) (fun K hK => ?_); go_simp
  refine hK _ _ ((HS.out _).2 (by go_simp)) ?_; clear hK K
  refine wpOrd_done ?_
  clear k1 k2 k4 hne
  go_wp2
  go_ret
  exact ⟨rfl, (by repeat (first | exact Hr.out | apply RegsR.drew | apply RegsR.alloc | apply RegsR.set)), (by repeat (first | exact grown_refl _ _ | apply gr_drew | apply gr_alloc | apply gr_set))⟩

set_option maxHeartbeats 1000000 in
theorem reg_11_lo (a b c n : Int) (g : Nat) {gc : Nat} (r : Nat → Int) (x : Int) (w : World) (hr : RegsR w g r) (hx : r a.toNat = x) (a0 : 0 ≤ a) (a1 : a < 10) (hlo : x < 0) :
    Calls Try.prog 45 #[.slice (some ⟨g, 0, none⟩) 10 gc, .agg #[.int .i64 11, .int .i64 a, .int .i64 b, .int .i64 c, .int .i64 n]] w fun e w' => e = .returned (.slice none 0 0) ∧ RegsR w' g (setR r a 0) ∧ w.grownBy w' (some g) := by
  have Hr : Hid (RegsR w g r) := hr
  have hrW : RegsR (w.alloc (.cells #[.int .i64 11, .int .i64 a, .int .i64 b, .int .i64 c, .int .i64 n] 67)) g r := hr.alloc _ _
  have hg : g < w.heap.size := cell_block (hr 0 (by omega)).1
  have ca := (hr a.toNat (by omega)).1
  have fa := (hr a.toNat (by omega)).2
  rw [hx] at ca
  obtain ⟨S, HS⟩ : ∃ S : World → Prop, Hid (∀ w', S w' ↔ w'.cell? ⟨w.heap.size, 1, none⟩ = some (.int .i64 a) ∧ w'.cell? ⟨w.heap.size, 4, none⟩ = some (.int .i64 n) ∧ w'.cell? ⟨g, a.toNat, none⟩ = some (.int .i64 x)) := ⟨_, fun _ => Iff.rfl⟩
  have k1 : ∀ i : { w' // S w' }, i.val.cell? ⟨w.heap.size, 1, none⟩ = some (.int .i64 a) := fun i => ((HS.out _).1 i.property).1
  have k4 : ∀ i : { w' // S w' }, i.val.cell? ⟨w.heap.size, 4, none⟩ = some (.int .i64 n) := fun i => ((HS.out _).1 i.property).2.1
  have kx : ∀ i : { w' // S w' }, i.val.cell? ⟨g, a.toNat, none⟩ = some (.int .i64 x) := fun i => ((HS.out _).1 i.property).2.2
  have hne : Nonempty { w' // S w' } := ⟨⟨w.alloc (.cells #[.int .i64 11, .int .i64 a, .int .i64 b, .int .i64 c, .int .i64 n] 67), (HS.out _).2 (by go_simp)⟩⟩
  clear hr hrW hx
  go_enter Try.func45, Try.ntmps45
  go_wp2_with (fail)
  refine wp_region_ord (S := S) [(0, true), (1, true), (2, true), (3, true), (4, true), (5, true), (6, true), (7, true), (8, true), (9, true), (10, true), (11, true), (12, true), (13, true), (14, true), (15, true)] (by kernel_rfl) (by kernel_rfl) (by kernel_rfl) ((HS.out _).2 (by go_simp)) ?_
  iterate 6 (refine wpOrd_take rfl (by kernel_rfl) (fun K hK => ?_); go_simp; refine hK _ _ ?_; clear hK K)
  refine wpOrd_move rfl rfl (by kernel_rfl) (fun K hK => ?_); go_simp; refine hK _ _ ?_; clear hK K
  iterate 8 (refine wpOrd_skip rfl ((HS.out _).2 (by go_simp)) (by kernel_rfl) (by kernel_rfl) ?_)
  refine wpOrd_pickT rfl rfl (by kernel_rfl) rfl (fun K hK => ?_); go_simp; refine hK _ _ ?_; clear hK K
  refine wpOrd_done ?_
  clear k1 k4 kx hne
  go_wp2
  go_ret
  exact ⟨rfl, (by repeat (first | exact Hr.out | apply RegsR.drew | apply RegsR.alloc | apply RegsR.set)), (by repeat (first | exact grown_refl _ _ | apply gr_drew | apply gr_alloc | apply gr_set))⟩

set_option maxHeartbeats 1000000 in
theorem reg_11_hi (a b c n : Int) (g : Nat) {gc : Nat} (r : Nat → Int) (x : Int) (w : World) (hr : RegsR w g r) (hx : r a.toNat = x) (a0 : 0 ≤ a) (a1 : a < 10) (hlo : ¬ x < 0) (hhi : n ≤ x) :
    Calls Try.prog 45 #[.slice (some ⟨g, 0, none⟩) 10 gc, .agg #[.int .i64 11, .int .i64 a, .int .i64 b, .int .i64 c, .int .i64 n]] w fun e w' => e = .returned (.slice none 0 0) ∧ RegsR w' g (setR r a 0) ∧ w.grownBy w' (some g) := by
  have Hr : Hid (RegsR w g r) := hr
  have hrW : RegsR (w.alloc (.cells #[.int .i64 11, .int .i64 a, .int .i64 b, .int .i64 c, .int .i64 n] 67)) g r := hr.alloc _ _
  have hg : g < w.heap.size := cell_block (hr 0 (by omega)).1
  have ca := (hr a.toNat (by omega)).1
  have fa := (hr a.toNat (by omega)).2
  rw [hx] at ca
  obtain ⟨S, HS⟩ : ∃ S : World → Prop, Hid (∀ w', S w' ↔ w'.cell? ⟨w.heap.size, 1, none⟩ = some (.int .i64 a) ∧ w'.cell? ⟨w.heap.size, 4, none⟩ = some (.int .i64 n) ∧ w'.cell? ⟨g, a.toNat, none⟩ = some (.int .i64 x)) := ⟨_, fun _ => Iff.rfl⟩
  have k1 : ∀ i : { w' // S w' }, i.val.cell? ⟨w.heap.size, 1, none⟩ = some (.int .i64 a) := fun i => ((HS.out _).1 i.property).1
  have k4 : ∀ i : { w' // S w' }, i.val.cell? ⟨w.heap.size, 4, none⟩ = some (.int .i64 n) := fun i => ((HS.out _).1 i.property).2.1
  have kx : ∀ i : { w' // S w' }, i.val.cell? ⟨g, a.toNat, none⟩ = some (.int .i64 x) := fun i => ((HS.out _).1 i.property).2.2
  have hne : Nonempty { w' // S w' } := ⟨⟨w.alloc (.cells #[.int .i64 11, .int .i64 a, .int .i64 b, .int .i64 c, .int .i64 n] 67), (HS.out _).2 (by go_simp)⟩⟩
  clear hr hrW hx
  go_enter Try.func45, Try.ntmps45
  go_wp2_with (fail)
  refine wp_region_ord (S := S) [(0, true), (1, true), (2, true), (3, true), (4, true), (5, true), (6, true), (7, true), (8, true), (9, true), (10, true), (11, true), (12, true), (13, true), (14, true), (15, true)] (by kernel_rfl) (by kernel_rfl) (by kernel_rfl) ((HS.out _).2 (by go_simp)) ?_
  have hd0 : decide (x < 0) = false := by simp; omega
  iterate 6 (refine wpOrd_take rfl (by kernel_rfl) (fun K hK => ?_); go_simp; refine hK _ _ ?_; clear hK K)
  refine wpOrd_move rfl rfl (by kernel_rfl) (fun K hK => ?_); go_simp; refine hK _ _ ?_; clear hK K
  iterate 8 (refine wpOrd_take rfl (by kernel_rfl) (fun K hK => ?_); go_simp; refine hK _ _ ?_; clear hK K)
  refine wpOrd_pickF rfl rfl (by kernel_rfl) rfl (fun K hK => ?_); go_simp; refine hK _ _ ?_; clear hK K
  refine wpOrd_done ?_
  clear k1 k4 kx hne
  go_wp2
  go_ret
  exact ⟨rfl, (by repeat (first | exact Hr.out | apply RegsR.drew | apply RegsR.alloc | apply RegsR.set)), (by repeat (first | exact grown_refl _ _ | apply gr_drew | apply gr_alloc | apply gr_set))⟩

set_option maxHeartbeats 1000000 in
theorem reg_11_in (a b c n : Int) (g : Nat) {gc : Nat} (r : Nat → Int) (x : Int) (w : World) (hr : RegsR w g r) (hx : r a.toNat = x) (a0 : 0 ≤ a) (a1 : a < 10) (hlo : ¬ x < 0) (hhi : x < n) :
    Calls Try.prog 45 #[.slice (some ⟨g, 0, none⟩) 10 gc, .agg #[.int .i64 11, .int .i64 a, .int .i64 b, .int .i64 c, .int .i64 n]] w fun e w' => e = .returned (.slice none 0 0) ∧ RegsR w' g (r) ∧ w.grownBy w' (some g) := by
  have Hr : Hid (RegsR w g r) := hr
  have hrW : RegsR (w.alloc (.cells #[.int .i64 11, .int .i64 a, .int .i64 b, .int .i64 c, .int .i64 n] 67)) g r := hr.alloc _ _
  have hg : g < w.heap.size := cell_block (hr 0 (by omega)).1
  have ca := (hr a.toNat (by omega)).1
  have fa := (hr a.toNat (by omega)).2
  rw [hx] at ca
  obtain ⟨S, HS⟩ : ∃ S : World → Prop, Hid (∀ w', S w' ↔ w'.cell? ⟨w.heap.size, 1, none⟩ = some (.int .i64 a) ∧ w'.cell? ⟨w.heap.size, 4, none⟩ = some (.int .i64 n) ∧ w'.cell? ⟨g, a.toNat, none⟩ = some (.int .i64 x)) := ⟨_, fun _ => Iff.rfl⟩
  have k1 : ∀ i : { w' // S w' }, i.val.cell? ⟨w.heap.size, 1, none⟩ = some (.int .i64 a) := fun i => ((HS.out _).1 i.property).1
  have k4 : ∀ i : { w' // S w' }, i.val.cell? ⟨w.heap.size, 4, none⟩ = some (.int .i64 n) := fun i => ((HS.out _).1 i.property).2.1
  have kx : ∀ i : { w' // S w' }, i.val.cell? ⟨g, a.toNat, none⟩ = some (.int .i64 x) := fun i => ((HS.out _).1 i.property).2.2
  have hne : Nonempty { w' // S w' } := ⟨⟨w.alloc (.cells #[.int .i64 11, .int .i64 a, .int .i64 b, .int .i64 c, .int .i64 n] 67), (HS.out _).2 (by go_simp)⟩⟩
  clear hr hrW hx
  go_enter Try.func45, Try.ntmps45
  go_wp2_with (fail)
  refine wp_region_ord (S := S) [(0, true), (1, true), (2, true), (3, true), (4, true), (5, true), (6, true), (7, true), (8, true), (9, true), (10, true), (11, true), (12, true), (13, true), (14, true), (15, true)] (by kernel_rfl) (by kernel_rfl) (by kernel_rfl) ((HS.out _).2 (by go_simp)) ?_
  have hd0 : decide (x < 0) = false := by simp; omega
  iterate 6 (refine wpOrd_take rfl (by kernel_rfl) (fun K hK => ?_); go_simp; refine hK _ _ ?_; clear hK K)
  refine wpOrd_move rfl rfl (by kernel_rfl) (fun K hK => ?_); go_simp; refine hK _ _ ?_; clear hK K
  iterate 7 (refine wpOrd_take rfl (by kernel_rfl) (fun K hK => ?_); go_simp; refine hK _ _ ?_; clear hK K)
  have hd : decide (n ≤ x) = false := by simp; omega
  iterate 1 (refine wpOrd_take rfl (by kernel_rfl) (fun K hK => ?_); go_simp; refine hK _ _ ?_; clear hK K)
  refine wpOrd_pickF rfl rfl (by kernel_rfl) rfl (fun K hK => ?_); go_simp; refine hK _ _ ?_; clear hK K
  refine wpOrd_done ?_
  clear k1 k4 kx hne
  go_wp2
  go_ret
  exact ⟨rfl, (by repeat (first | exact Hr.out | apply RegsR.drew | apply RegsR.alloc | apply RegsR.set)), (by repeat (first | exact grown_refl _ _ | apply gr_drew | apply gr_alloc | apply gr_set))⟩

set_option maxHeartbeats 1000000 in
theorem reg_op_no (op a b c n : Int) (g : Nat) {gc : Nat} (r : Nat → Int) (w : World) (hr : RegsR w g r) (o0 : 21 ≤ op) (o1 : op ≤ 30) (a0 : 0 ≤ a) (a1 : a < 10) (b0 : 0 ≤ b) (b1 : b < 10) (c0 : 0 ≤ c) (c1 : c < 10) (h29 : ¬ op = 29) (h30 : ¬ op = 30) (hb : B64 (r b.toNat)) (hc : B64 (r c.toNat)) :
    Calls Try.prog 45 #[.slice (some ⟨g, 0, none⟩) 10 gc, .agg #[.int .i64 op, .int .i64 a, .int .i64 b, .int .i64 c, .int .i64 n]] w fun e w' => e = .returned (.slice none 0 0) ∧ RegsR w' g (setR r a (opI (op - 20) (r b.toNat) (r c.toNat))) ∧ w.grownBy w' (some g) := by
  have Hr : Hid (RegsR w g r) := hr
  have hrW : RegsR (w.alloc (.cells #[.int .i64 op, .int .i64 a, .int .i64 b, .int .i64 c, .int .i64 n] 67)) g r := hr.alloc _ _
  have hg : g < w.heap.size := cell_block (hr 0 (by omega)).1
  have ca := (hr a.toNat (by omega)).1
  have fa := (hr a.toNat (by omega)).2
  have cb := (hr b.toNat (by omega)).1
  have fb := (hr b.toNat (by omega)).2
  have cx := (hr c.toNat (by omega)).1
  have fx := (hr c.toNat (by omega)).2
  obtain ⟨S, HS⟩ : ∃ S : World → Prop, Hid (∀ w', S w' ↔ w'.cell? ⟨w.heap.size, 0, none⟩ = some (.int .i64 op) ∧ w'.cell? ⟨w.heap.size, 1, none⟩ = some (.int .i64 a)) := ⟨_, fun _ => Iff.rfl⟩
  have k0 : ∀ i : { w' // S w' }, i.val.cell? ⟨w.heap.size, 0, none⟩ = some (.int .i64 op) := fun i => ((HS.out _).1 i.property).1
  have k1 : ∀ i : { w' // S w' }, i.val.cell? ⟨w.heap.size, 1, none⟩ = some (.int .i64 a) := fun i => ((HS.out _).1 i.property).2
  have hne : Nonempty { w' // S w' } := ⟨⟨w.alloc (.cells #[.int .i64 op, .int .i64 a, .int .i64 b, .int .i64 c, .int .i64 n] 67), (HS.out _).2 (by go_simp)⟩⟩
  have hwr := wrapEq
  have Hop : Hid (∀ w : World, Calls Try.prog 67 #[.int .i64 (op - 20), .int .i64 (r b.toNat), .int .i64 (r c.toNat)] w fun e w' => e = .returned (.int .i64 (opI (op - 20) (r b.toNat) (r c.toNat))) ∧ More w w') := fun w => ref_op _ _ _ hb.1 hb.2 hc.1 hc.2 w
  obtain ⟨v, hv⟩ : ∃ v, opI (op - 20) (r b.toNat) (r c.toNat) = v := ⟨_, rfl⟩
  rw [hv] at Hop
  rw [hv]
  have hs : wrap64 (op - 20) = op - 20 := by unfold wrap64; omega
  obtain ⟨q, hq⟩ : ∃ q, op - 20 = q := ⟨_, rfl⟩
  rw [hq] at Hop hs
  have t29 : (op == 29) = false := by simp [h29]
  have t30 : (op == 30) = false := by simp [h30]
  clear h29 h30
  clear hr hrW hb hc hv
  go_enter Try.func45, Try.ntmps45
  go_wp2_with (fail)
  refine wp_region_ord (S := S) [(0, true), (1, true), (2, true), (3, true), (4, true), (5, true), (6, true), (7, true), (8, false), (9, true), (10, false)] (by kernel_rfl) (by kernel_rfl) (by kernel_rfl) ((HS.out _).2 (by go_simp)) ?_
  iterate 8 (refine wpOrd_take rfl (by kernel_rfl) (fun K hK => ?_); go_simp; refine hK _ _ ?_; clear hK K)
  refine wpOrd_busy rfl (by kernel_rfl) (fun K hK => ?_); go_simp
  refine (Hop.out _).mono ?_
  rintro e w1 ⟨rfl, m1⟩
  have e0 : w1.cell? ⟨w.heap.size, 0, none⟩ = some (.int .i64 op) := m1.cell (by go_simp)
  have e1 : w1.cell? ⟨w.heap.size, 1, none⟩ = some (.int .i64 a) := m1.cell (by go_simp)
  have Hr1 : Hid (RegsR w1 g r) := ((Hr.out.alloc _ _).drew).more m1
  have c1a := (Hr1.out a.toNat (by omega)).1
  have f1a := (Hr1.out a.toNat (by omega)).2
  have Hg1 : Hid (w.grownBy w1 (some g)) := gr_more (gr_drew (gr_alloc (grown_refl _ _) _)) m1
  clear m1
  go_simp
  refine hK _ _ ((HS.out _).2 ⟨e0, e1⟩) ?_; clear hK K
  refine wpOrd_take rfl (by kernel_rfl) (fun K hK => ?_); go_simp; refine hK _ _ ?_; clear hK K
  refine wpOrd_busy rfl (by kernel_rfl) (fun K hK => ?_); go_simp
  have e0' : (w1.setCell ⟨g, a.toNat, none⟩ (.int .i64 v)).cell? ⟨w.heap.size, 0, none⟩ = some (.int .i64 op) := by rw [World.cell?_setCell_other _ _ _ _ (by simp <;> omega)]; exact e0
  have e1' : (w1.setCell ⟨g, a.toNat, none⟩ (.int .i64 v)).cell? ⟨w.heap.size, 1, none⟩ = some (.int .i64 a) := by rw [World.cell?_setCell_other _ _ _ _ (by simp <;> omega)]; exact e1
  refine hK _ _ ((HS.out _).2 ⟨e0', e1'⟩) ?_; clear hK K
  refine wpOrd_done ?_
  have Hr2 : Hid (RegsR (w1.setCell ⟨g, a.toNat, none⟩ (.int .i64 v)) g (setR r a v)) := Hr1.out.set a v
  have Hg2 : Hid (w.grownBy (w1.setCell ⟨g, a.toNat, none⟩ (.int .i64 v)) (some g)) := gr_set Hg1.out _ _
  obtain ⟨w3, hw3⟩ : ∃ w3, w1.setCell ⟨g, a.toNat, none⟩ (.int .i64 v) = w3 := ⟨_, rfl⟩
  rw [hw3] at e0' Hr2 Hg2 ⊢
  clear hw3 k0 k1 hne ca fa cb fb cx fx c1a f1a e0 e1 e1' hwr
  go_wp2
  go_ret
  exact ⟨rfl, Hr2.out, Hg2.out⟩

set_option maxHeartbeats 1000000 in
theorem reg_op_div (op a b c n : Int) (g : Nat) {gc : Nat} (r : Nat → Int) (w : World) (hr : RegsR w g r) (o0 : 21 ≤ op) (o1 : op ≤ 30) (a0 : 0 ≤ a) (a1 : a < 10) (b0 : 0 ≤ b) (b1 : b < 10) (c0 : 0 ≤ c) (c1 : c < 10) (h : op = 29) (hb : B64 (r b.toNat)) (hc : B64 (r c.toNat)) :
    Calls Try.prog 45 #[.slice (some ⟨g, 0, none⟩) 10 gc, .agg #[.int .i64 op, .int .i64 a, .int .i64 b, .int .i64 c, .int .i64 n]] w fun e w' => ∃ sv, e = .returned sv ∧ SeenAt w' sv ([⟨3, r b.toNat, r c.toNat⟩]) ∧ RegsR w' g (setR r a (opI (op - 20) (r b.toNat) (r c.toNat))) ∧ w.grownBy w' (some g) := by
  have Hr : Hid (RegsR w g r) := hr
  have hrW : RegsR (w.alloc (.cells #[.int .i64 op, .int .i64 a, .int .i64 b, .int .i64 c, .int .i64 n] 67)) g r := hr.alloc _ _
  have hg : g < w.heap.size := cell_block (hr 0 (by omega)).1
  have ca := (hr a.toNat (by omega)).1
  have fa := (hr a.toNat (by omega)).2
  have cb := (hr b.toNat (by omega)).1
  have fb := (hr b.toNat (by omega)).2
  have cx := (hr c.toNat (by omega)).1
  have fx := (hr c.toNat (by omega)).2
  obtain ⟨S, HS⟩ : ∃ S : World → Prop, Hid (∀ w', S w' ↔ w'.cell? ⟨w.heap.size, 0, none⟩ = some (.int .i64 op) ∧ w'.cell? ⟨w.heap.size, 1, none⟩ = some (.int .i64 a)) := ⟨_, fun _ => Iff.rfl⟩
  have k0 : ∀ i : { w' // S w' }, i.val.cell? ⟨w.heap.size, 0, none⟩ = some (.int .i64 op) := fun i => ((HS.out _).1 i.property).1
  have k1 : ∀ i : { w' // S w' }, i.val.cell? ⟨w.heap.size, 1, none⟩ = some (.int .i64 a) := fun i => ((HS.out _).1 i.property).2
  have hne : Nonempty { w' // S w' } := ⟨⟨w.alloc (.cells #[.int .i64 op, .int .i64 a, .int .i64 b, .int .i64 c, .int .i64 n] 67), (HS.out _).2 (by go_simp)⟩⟩
  have hwr := wrapEq
  have Hop : Hid (∀ w : World, Calls Try.prog 67 #[.int .i64 (op - 20), .int .i64 (r b.toNat), .int .i64 (r c.toNat)] w fun e w' => e = .returned (.int .i64 (opI (op - 20) (r b.toNat) (r c.toNat))) ∧ More w w') := fun w => ref_op _ _ _ hb.1 hb.2 hc.1 hc.2 w
  obtain ⟨v, hv⟩ : ∃ v, opI (op - 20) (r b.toNat) (r c.toNat) = v := ⟨_, rfl⟩
  rw [hv] at Hop
  rw [hv]
  have hs : wrap64 (op - 20) = op - 20 := by unfold wrap64; omega
  obtain ⟨q, hq⟩ : ∃ q, op - 20 = q := ⟨_, rfl⟩
  rw [hq] at Hop hs
  have Hh : Hid (op = 29) := h
  clear h
  clear hr hrW hb hc hv
  go_enter Try.func45, Try.ntmps45
  go_wp2_with (fail)
  refine wp_region_ord (S := S) [(0, true), (1, true), (2, true), (3, true), (4, true), (5, true), (6, true), (7, true), (8, false), (9, true), (10, false)] (by kernel_rfl) (by kernel_rfl) (by kernel_rfl) ((HS.out _).2 (by go_simp)) ?_
  iterate 8 (refine wpOrd_take rfl (by kernel_rfl) (fun K hK => ?_); go_simp; refine hK _ _ ?_; clear hK K)
  refine wpOrd_busy rfl (by kernel_rfl) (fun K hK => ?_); go_simp
  refine (Hop.out _).mono ?_
  rintro e w1 ⟨rfl, m1⟩
  have e0 : w1.cell? ⟨w.heap.size, 0, none⟩ = some (.int .i64 op) := m1.cell (by go_simp)
  have e1 : w1.cell? ⟨w.heap.size, 1, none⟩ = some (.int .i64 a) := m1.cell (by go_simp)
  have Hr1 : Hid (RegsR w1 g r) := ((Hr.out.alloc _ _).drew).more m1
  have c1a := (Hr1.out a.toNat (by omega)).1
  have f1a := (Hr1.out a.toNat (by omega)).2
  have Hg1 : Hid (w.grownBy w1 (some g)) := gr_more (gr_drew (gr_alloc (grown_refl _ _) _)) m1
  clear m1
  go_simp
  refine hK _ _ ((HS.out _).2 ⟨e0, e1⟩) ?_; clear hK K
  refine wpOrd_take rfl (by kernel_rfl) (fun K hK => ?_); go_simp; refine hK _ _ ?_; clear hK K
  refine wpOrd_busy rfl (by kernel_rfl) (fun K hK => ?_); go_simp
  have e0' : (w1.setCell ⟨g, a.toNat, none⟩ (.int .i64 v)).cell? ⟨w.heap.size, 0, none⟩ = some (.int .i64 op) := by rw [World.cell?_setCell_other _ _ _ _ (by simp <;> omega)]; exact e0
  have e1' : (w1.setCell ⟨g, a.toNat, none⟩ (.int .i64 v)).cell? ⟨w.heap.size, 1, none⟩ = some (.int .i64 a) := by rw [World.cell?_setCell_other _ _ _ _ (by simp <;> omega)]; exact e1
  refine hK _ _ ((HS.out _).2 ⟨e0', e1'⟩) ?_; clear hK K
  refine wpOrd_done ?_
  have Hr2 : Hid (RegsR (w1.setCell ⟨g, a.toNat, none⟩ (.int .i64 v)) g (setR r a v)) := Hr1.out.set a v
  have Hg2 : Hid (w.grownBy (w1.setCell ⟨g, a.toNat, none⟩ (.int .i64 v)) (some g)) := gr_set Hg1.out _ _
  obtain ⟨w3, hw3⟩ : ∃ w3, w1.setCell ⟨g, a.toNat, none⟩ (.int .i64 v) = w3 := ⟨_, rfl⟩
  rw [hw3] at e0' Hr2 Hg2 ⊢
  clear hw3 k0 k1 hne ca fa cb fb cx fx c1a f1a e0 e1 e1' hwr
  obtain rfl := Hh.out
  go_wp2
  go_ret
  refine ⟨_, rfl, ⟨some ⟨w3.heap.size, 0, none⟩, w3.heap.size, 0, 1, rfl, fun _ => rfl, fun i s h => ?_, by simp⟩, by repeat (first | exact Hr2.out | apply RegsR.drew | apply RegsR.alloc), by repeat (first | exact Hg2.out | apply gr_drew | apply gr_alloc)⟩
  have hi : i = 0 := by have := (List.getElem?_eq_some_iff.1 h).1; simp at this; omega
  subst hi
  simp at h
  subst h
  refine ⟨?_, ?_, ?_⟩ <;> go_simp

set_option maxHeartbeats 1000000 in
theorem reg_op_mod (op a b c n : Int) (g : Nat) {gc : Nat} (r : Nat → Int) (w : World) (hr : RegsR w g r) (o0 : 21 ≤ op) (o1 : op ≤ 30) (a0 : 0 ≤ a) (a1 : a < 10) (b0 : 0 ≤ b) (b1 : b < 10) (c0 : 0 ≤ c) (c1 : c < 10) (h : op = 30) (hb : B64 (r b.toNat)) (hc : B64 (r c.toNat)) :
    Calls Try.prog 45 #[.slice (some ⟨g, 0, none⟩) 10 gc, .agg #[.int .i64 op, .int .i64 a, .int .i64 b, .int .i64 c, .int .i64 n]] w fun e w' => ∃ sv, e = .returned sv ∧ SeenAt w' sv ([⟨3, r b.toNat, r c.toNat⟩]) ∧ RegsR w' g (setR r a (opI (op - 20) (r b.toNat) (r c.toNat))) ∧ w.grownBy w' (some g) := by
  have Hr : Hid (RegsR w g r) := hr
  have hrW : RegsR (w.alloc (.cells #[.int .i64 op, .int .i64 a, .int .i64 b, .int .i64 c, .int .i64 n] 67)) g r := hr.alloc _ _
  have hg : g < w.heap.size := cell_block (hr 0 (by omega)).1
  have ca := (hr a.toNat (by omega)).1
  have fa := (hr a.toNat (by omega)).2
  have cb := (hr b.toNat (by omega)).1
  have fb := (hr b.toNat (by omega)).2
  have cx := (hr c.toNat (by omega)).1
  have fx := (hr c.toNat (by omega)).2
  obtain ⟨S, HS⟩ : ∃ S : World → Prop, Hid (∀ w', S w' ↔ w'.cell? ⟨w.heap.size, 0, none⟩ = some (.int .i64 op) ∧ w'.cell? ⟨w.heap.size, 1, none⟩ = some (.int .i64 a)) := ⟨_, fun _ => Iff.rfl⟩
  have k0 : ∀ i : { w' // S w' }, i.val.cell? ⟨w.heap.size, 0, none⟩ = some (.int .i64 op) := fun i => ((HS.out _).1 i.property).1
  have k1 : ∀ i : { w' // S w' }, i.val.cell? ⟨w.heap.size, 1, none⟩ = some (.int .i64 a) := fun i => ((HS.out _).1 i.property).2
  have hne : Nonempty { w' // S w' } := ⟨⟨w.alloc (.cells #[.int .i64 op, .int .i64 a, .int .i64 b, .int .i64 c, .int .i64 n] 67), (HS.out _).2 (by go_simp)⟩⟩
  have hwr := wrapEq
  have Hop : Hid (∀ w : World, Calls Try.prog 67 #[.int .i64 (op - 20), .int .i64 (r b.toNat), .int .i64 (r c.toNat)] w fun e w' => e = .returned (.int .i64 (opI (op - 20) (r b.toNat) (r c.toNat))) ∧ More w w') := fun w => ref_op _ _ _ hb.1 hb.2 hc.1 hc.2 w
  obtain ⟨v, hv⟩ : ∃ v, opI (op - 20) (r b.toNat) (r c.toNat) = v := ⟨_, rfl⟩
  rw [hv] at Hop
  rw [hv]
  have hs : wrap64 (op - 20) = op - 20 := by unfold wrap64; omega
  obtain ⟨q, hq⟩ : ∃ q, op - 20 = q := ⟨_, rfl⟩
  rw [hq] at Hop hs
  have Hh : Hid (op = 30) := h
  clear h
  clear hr hrW hb hc hv
  go_enter Try.func45, Try.ntmps45
  go_wp2_with (fail)
  refine wp_region_ord (S := S) [(0, true), (1, true), (2, true), (3, true), (4, true), (5, true), (6, true), (7, true), (8, false), (9, true), (10, false)] (by kernel_rfl) (by kernel_rfl) (by kernel_rfl) ((HS.out _).2 (by go_simp)) ?_
  iterate 8 (refine wpOrd_take rfl (by kernel_rfl) (fun K hK => ?_); go_simp; refine hK _ _ ?_; clear hK K)
  refine wpOrd_busy rfl (by kernel_rfl) (fun K hK => ?_); go_simp
  refine (Hop.out _).mono ?_
  rintro e w1 ⟨rfl, m1⟩
  have e0 : w1.cell? ⟨w.heap.size, 0, none⟩ = some (.int .i64 op) := m1.cell (by go_simp)
  have e1 : w1.cell? ⟨w.heap.size, 1, none⟩ = some (.int .i64 a) := m1.cell (by go_simp)
  have Hr1 : Hid (RegsR w1 g r) := ((Hr.out.alloc _ _).drew).more m1
  have c1a := (Hr1.out a.toNat (by omega)).1
  have f1a := (Hr1.out a.toNat (by omega)).2
  have Hg1 : Hid (w.grownBy w1 (some g)) := gr_more (gr_drew (gr_alloc (grown_refl _ _) _)) m1
  clear m1
  go_simp
  refine hK _ _ ((HS.out _).2 ⟨e0, e1⟩) ?_; clear hK K
  refine wpOrd_take rfl (by kernel_rfl) (fun K hK => ?_); go_simp; refine hK _ _ ?_; clear hK K
  refine wpOrd_busy rfl (by kernel_rfl) (fun K hK => ?_); go_simp
  have e0' : (w1.setCell ⟨g, a.toNat, none⟩ (.int .i64 v)).cell? ⟨w.heap.size, 0, none⟩ = some (.int .i64 op) := by rw [World.cell?_setCell_other _ _ _ _ (by simp <;> omega)]; exact e0
  have e1' : (w1.setCell ⟨g, a.toNat, none⟩ (.int .i64 v)).cell? ⟨w.heap.size, 1, none⟩ = some (.int .i64 a) := by rw [World.cell?_setCell_other _ _ _ _ (by simp <;> omega)]; exact e1
  refine hK _ _ ((HS.out _).2 ⟨e0', e1'⟩) ?_; clear hK K
  refine wpOrd_done ?_
  have Hr2 : Hid (RegsR (w1.setCell ⟨g, a.toNat, none⟩ (.int .i64 v)) g (setR r a v)) := Hr1.out.set a v
  have Hg2 : Hid (w.grownBy (w1.setCell ⟨g, a.toNat, none⟩ (.int .i64 v)) (some g)) := gr_set Hg1.out _ _
  obtain ⟨w3, hw3⟩ : ∃ w3, w1.setCell ⟨g, a.toNat, none⟩ (.int .i64 v) = w3 := ⟨_, rfl⟩
  rw [hw3] at e0' Hr2 Hg2 ⊢
  clear hw3 k0 k1 hne ca fa cb fb cx fx c1a f1a e0 e1 e1' hwr
  obtain rfl := Hh.out
  go_wp2
  go_ret
  refine ⟨_, rfl, ⟨some ⟨w3.heap.size, 0, none⟩, w3.heap.size, 0, 1, rfl, fun _ => rfl, fun i s h => ?_, by simp⟩, by repeat (first | exact Hr2.out | apply RegsR.drew | apply RegsR.alloc), by repeat (first | exact Hg2.out | apply gr_drew | apply gr_alloc)⟩
  have hi : i = 0 := by have := (List.getElem?_eq_some_iff.1 h).1; simp at this; omega
  subst hi
  simp at h
  subst h
  refine ⟨?_, ?_, ?_⟩ <;> go_simp
theorem seen_none (w : World) : SeenAt w (.slice none 0 0) [] := ⟨none, 0, 0, 0, rfl, fun h => absurd h (Nat.not_lt_zero _), fun i s h => by simp at h, by simp⟩

/-- An instruction of registers alone, such as a hard program has. -/
theorem ref_registers (i : Ins) (g : Nat) {gc : Nat} (r : Nat → Int) (w : World) (hr : RegsR w g r) (hb : ∀ j, j < 10 → B64 (r j)) {rl : Nat} {log : Nat → Int} {cl : Nat} (hi : InsOk rl log cl 10 i)
    (h3 : ¬ i.op = 3) (h4 : ¬ i.op = 4) (h5 : ¬ i.op = 5) (h6 : ¬ i.op = 6) (h7 : ¬ i.op = 7) (h8 : ¬ i.op = 8) (h9 : ¬ i.op = 9) :
    Calls Try.prog 45 #[.slice (some ⟨g, 0, none⟩) 10 gc, .agg #[.int .i64 i.op, .int .i64 i.a, .int .i64 i.b, .int .i64 i.c, .int .i64 i.n]] w fun e w' =>
      ∃ sv, e = .returned sv ∧ (((regsI r i).2 = [] ∧ sv = .slice none 0 0) ∨ ∃ t, (regsI r i).2 = [t]) ∧ SeenAt w' sv (regsI r i).2 ∧ RegsR w' g (regsI r i).1 ∧ w.grownBy w' (some g) := by
  obtain ⟨op, a, b, c, n⟩ := i
  dsimp only at h3 h4 h5 h6 h7 h8 h9 ⊢
  unfold InsOk at hi
  unfold regsI
  dsimp only at hi ⊢
  by_cases h1 : op = 1
  · subst h1
    simp only [if_true] at hi ⊢
    refine (reg_1 a b c n g r w hr hi.1.1 hi.1.2).mono ?_
    rintro e w' ⟨rfl, k1, k2⟩
    exact ⟨_, rfl, .inl (by simp), seen_none _, k1, k2⟩
  rw [if_neg h1] at hi ⊢
  by_cases h2 : op = 2
  · subst h2
    simp only [if_true] at hi ⊢
    refine (reg_2 a b c n g r w hr hi.1.1 hi.1.2 hi.2.1.1 hi.2.1.2).mono ?_
    rintro e w' ⟨rfl, k1, k2⟩
    exact ⟨_, rfl, .inl (by simp), seen_none _, k1, k2⟩
  rw [if_neg h2] at hi ⊢
  rw [if_neg h3, if_neg h4, if_neg h5, if_neg h6, if_neg h7, if_neg h8, if_neg h9] at hi
  by_cases h10 : op = 10
  · subst h10
    simp only [if_true] at hi ⊢
    refine (reg_10 a b c n g r w hr hi.1.1 hi.1.2 hi.2.1.1 hi.2.1.2).mono ?_
    rintro e w' ⟨rfl, k1, k2⟩
    exact ⟨_, rfl, .inl (by simp), seen_none _, k1, k2⟩
  rw [if_neg h10] at hi ⊢
  by_cases h11 : op = 11
  · subst h11
    simp only [if_true] at hi ⊢
    by_cases hlo : r a.toNat < 0
    · rw [if_pos (Or.inl hlo)]
      refine (reg_11_lo a b c n g r _ w hr rfl hi.1.1 hi.1.2 hlo).mono ?_
      rintro e w' ⟨rfl, k1, k2⟩
      exact ⟨_, rfl, .inl (by simp), seen_none _, k1, k2⟩
    · by_cases hhi : n ≤ r a.toNat
      · rw [if_pos (Or.inr hhi)]
        refine (reg_11_hi a b c n g r _ w hr rfl hi.1.1 hi.1.2 hlo hhi).mono ?_
        rintro e w' ⟨rfl, k1, k2⟩
        exact ⟨_, rfl, .inl (by simp), seen_none _, k1, k2⟩
      · rw [if_neg (by omega)]
        refine (reg_11_in a b c n g r _ w hr rfl hi.1.1 hi.1.2 hlo (by omega)).mono ?_
        rintro e w' ⟨rfl, k1, k2⟩
        exact ⟨_, rfl, .inl (by simp), seen_none _, k1, k2⟩
  rw [if_neg h11] at hi ⊢
  by_cases h12 : op = 12
  · subst h12
    simp only [if_true] at hi ⊢
    refine (reg_12 a b c n g r w hr).mono ?_
    rintro e w' ⟨rfl, k1, k2⟩
    exact ⟨_, rfl, .inl (by simp), seen_none _, k1, k2⟩
  rw [if_neg h12] at hi ⊢
  obtain ⟨⟨o0, o1⟩, ⟨a0, a1⟩, ⟨b0, b1⟩, ⟨c0, c1⟩, _⟩ := hi
  have hb1 := hb b.toNat (by omega)
  have hb2 := hb c.toNat (by omega)
  by_cases h29 : op = 29
  · rw [if_pos (Or.inl h29)]
    refine (reg_op_div op a b c n g r w hr o0 o1 a0 a1 b0 b1 c0 c1 h29 hb1 hb2).mono ?_
    rintro e w' ⟨sv, rfl, k0, k1, k2⟩
    exact ⟨sv, rfl, .inr ⟨_, rfl⟩, k0, k1, k2⟩
  by_cases h30 : op = 30
  · rw [if_pos (Or.inr h30)]
    refine (reg_op_mod op a b c n g r w hr o0 o1 a0 a1 b0 b1 c0 c1 h30 hb1 hb2).mono ?_
    rintro e w' ⟨sv, rfl, k0, k1, k2⟩
    exact ⟨sv, rfl, .inr ⟨_, rfl⟩, k0, k1, k2⟩
  rw [if_neg (by omega)]
  refine (reg_op_no op a b c n g r w hr o0 o1 a0 a1 b0 b1 c0 c1 h29 h30 hb1 hb2).mono ?_
  rintro e w' ⟨rfl, k1, k2⟩
  exact ⟨_, rfl, .inl (by simp), seen_none _, k1, k2⟩

/-- Index, whichever of the four it is. -/
theorem ref_index (i : Ins) (g : Nat) {gc : Nat} (r : Nat → Int) (w : World) (hr : RegsR w g r) (b0 : 0 ≤ i.b) (b1 : i.b < 10) :
    Calls Try.prog 43 #[.slice (some ⟨g, 0, none⟩) 10 gc, .agg #[.int .i64 i.op, .int .i64 i.a, .int .i64 i.b, .int .i64 i.c, .int .i64 i.n]] w fun e w' => e = .returned (.int .i64 (idxI r i)) ∧ More w w' := by
  unfold idxI
  by_cases h : i.op = 5 ∨ i.op = 6
  · rw [if_pos h]
    exact ref_index_k i.op i.a i.b i.c i.n _ h w
  · rw [if_neg h]
    exact ref_index_r i.op i.a i.b i.c i.n g (r i.b.toNat) (fun e => h (.inl e)) (fun e => h (.inr e)) b0 b1 w (hr i.b.toNat (by omega)).1
end
section
open Go.RowKit
set_option linter.unusedVariables false
theorem info2 : (Try.prog.info? 2).map (fun i => (i.zero, i.size, i.bytes)) = some (some (.int .i64 0), 1, 8) := by kernel_rfl
theorem info43 : (Try.prog.info? 78).map (fun i => (i.zero, i.size, i.bytes)) = some (some (.slice none 0 0), 1, 24) := by kernel_rfl

/-- The words of a list, as cells. -/
def wordsL (m : Mem) (j : Nat) : List Value := (List.range (m.len j)).map fun i => .int .i64 (m.wd j i)
theorem wordsL_length (m : Mem) (j : Nat) : (wordsL m j).length = m.len j := by simp [wordsL]
theorem wordsL_one (m : Mem) (j : Nat) : ∀ u ∈ wordsL m j, u.oneCell' = true := by
  intro u hu
  simp only [wordsL, List.mem_map] at hu
  obtain ⟨i, _, rfl⟩ := hu
  rfl
theorem wordsL_at (m : Mem) (j i : Nat) (h : i < m.len j) : (wordsL m j)[i]? = some (.int .i64 (m.wd j i)) := by simp [wordsL, h]

/-- So many lists have been copied. -/
structure CpAt (w : World) (base : Nat) (m : Mem) (k : Nat) (v : Value) (G C : Nat → Nat) : Prop where
  own : w.ownsRow base 78 1 v k ((List.range k).map fun j => .slice (some ⟨G j, 0, none⟩) (m.len j) (C j))
  row : ∀ j, j < k → w.ownsRow base 2 1 (.slice (some ⟨G j, 0, none⟩) (m.len j) (C j)) (m.len j) (wordsL m j)
  apart : ∀ j, j < k → v.ownBlock ≠ some (G j)
  apart2 : ∀ j j', j < k → j' < k → j ≠ j' → G j ≠ G j'

theorem CpAt.start (w : World) (base : Nat) (m : Mem) : CpAt w base m 0 (.slice none 0 0) (fun _ => 0) (fun _ => 0) :=
  ⟨World.ownsRow_nil _ _ _ _, fun j hj => absurd hj (Nat.not_lt_zero _), fun j hj => absurd hj (Nat.not_lt_zero _), fun j j' hj => absurd hj (Nat.not_lt_zero _)⟩

theorem CpAt.lt {w : World} {base : Nat} {m : Mem} {k : Nat} {v : Value} {G C : Nat → Nat} (c : CpAt w base m k v G C) (j : Nat) (hj : j < k) : G j < w.heap.size := ((c.row j hj).lt _ rfl).2

theorem CpAt.own3 {wr w2 : World} {base : Nat} {m : Mem} {k : Nat} {v : Value} {G C : Nat → Nat} (c : CpAt wr base m k v G C) (o o3 : Obj) (gr2 : (wr.alloc o).grownBy w2 (some wr.heap.size)) :
    (w2.alloc o3).ownsRow base 78 1 v k ((List.range k).map fun j => .slice (some ⟨G j, 0, none⟩) (m.len j) (C j)) :=
  ((c.own.alloc o).kept gr2 (by
    cases hb : v.ownBlock with
    | none => left; rfl
    | some b => right; have := (c.own.lt b hb).2; simp; omega)).alloc o3

theorem CpAt.step {wr w2 w4 : World} {base : Nat} {m : Mem} {k : Nat} {v : Value} {G C : Nat → Nat} (c : CpAt wr base m k v G C) (o o3 : Obj) (g cap g2 cap2 : Nat)
    (own2 : w2.ownsRow base 2 1 (.slice (some ⟨g, 0, none⟩) (m.len k) cap) (m.len k) (wordsL m k)) (gr2 : (wr.alloc o).grownBy w2 (some wr.heap.size)) (hg : wr.heap.size ≤ g)
    (own4 : w4.ownsRow base 78 1 (.slice (some ⟨g2, 0, none⟩) (k + 1) cap2) (k + 1) (((List.range k).map fun j => .slice (some ⟨G j, 0, none⟩) (m.len j) (C j)) ++ [.slice (some ⟨g, 0, none⟩) (m.len k) cap]))
    (gr4 : (w2.alloc o3).grownBy w4 v.ownBlock) (hat : v.ownBlock = some g2 ∨ g2 = w2.heap.size + 1) :
    CpAt w4 base m (k + 1) (.slice (some ⟨g2, 0, none⟩) (k + 1) cap2) (fun j => if j = k then g else G j) (fun j => if j = k then cap else C j) := by
  have hs1 : wr.heap.size + 1 ≤ w2.heap.size := by have := gr2.size; simpa using this
  have hgl : g < w2.heap.size := ((own2.lt _ rfl).2)
  have hvl : ∀ b, v.ownBlock = some b → b < wr.heap.size := fun b hb => ((c.own.lt b hb).2)
  refine ⟨?_, fun j hj => ?_, fun j hj => ?_, fun j j' hj hj' hne => ?_⟩
  · have e : ((List.range (k + 1)).map fun j => (Value.slice (some ⟨(if j = k then g else G j), 0, none⟩) (m.len j) (if j = k then cap else C j)))
        = ((List.range k).map fun j => (Value.slice (some ⟨G j, 0, none⟩) (m.len j) (C j))) ++ [.slice (some ⟨g, 0, none⟩) (m.len k) cap] := by
      rw [List.range_succ, List.map_append]
      congr 1
      · refine List.map_congr_left fun j hj => ?_
        have : j ≠ k := by have := List.mem_range.1 hj; omega
        simp [this]
      · simp
    rw [e]
    exact own4
  · by_cases e : j = k
    · subst e
      simp only [if_true]
      exact (own2.alloc o3).kept gr4 (by
        cases hb : v.ownBlock with
        | none => right; simp [Value.ownBlock]
        | some b => right; have := hvl b hb; simp [Value.ownBlock]; omega)
    · simp only [e, if_false]
      have hj' : j < k := by omega
      have hl := c.lt j hj'
      refine ((((c.row j hj').alloc o).kept gr2 (by right; simp [Value.ownBlock]; omega)).alloc o3).kept gr4 (by right; simp only [Value.ownBlock]; exact fun h => c.apart j hj' h.symm)
  · simp only [Value.ownBlock]
    intro h
    simp only [Option.some.injEq] at h
    by_cases e : j = k
    · simp only [e, if_true] at h
      rcases hat with h1 | h1
      · have := hvl g2 h1; omega
      · omega
    · simp only [e, if_false] at h
      have hj' : j < k := by omega
      rcases hat with h1 | h1
      · exact c.apart j hj' (by rw [h1, h])
      · have := c.lt j hj'; omega
  · by_cases e : j = k
    · by_cases e' : j' = k
      · omega
      · simp only [e, e', if_true, if_false]
        have := c.lt j' (by omega)
        omega
    · by_cases e' : j' = k
      · simp only [e, e', if_true, if_false]
        have := c.lt j (by omega)
        omega
      · simp only [e, e', if_false]
        exact c.apart2 j j' (by omega) (by omega) hne

set_option maxHeartbeats 1000000 in
theorem ref_copy (m : Mem) (l : MLoc) (w : World) (h : MIn w m l) (hl : m.ml ≤ 6) (hw : ∀ i, i < m.ml → 0 < m.len i ∧ m.len i ≤ 64) :
    Calls Try.prog 40 #[.slice l.ma m.ml l.mc] w fun e w' => ∃ (v : Value) (G C : Nat → Nat), e = .returned v ∧ CpAt w' w.heap.size m m.ml v G C ∧ More w w' := by
  obtain ⟨ma, mb, mo, mc, A, C0, gb, go⟩ := l
  obtain ⟨i0, hi, hz0, hz1, hz2⟩ := info_parts info2
  obtain ⟨i1, hi', hz0', hz1', hz2'⟩ := info_parts info43
  have H : Hid (MIn w m ⟨ma, mb, mo, mc, A, C0, gb, go⟩ ∧ m.ml ≤ 6 ∧ ∀ i, i < m.ml → 0 < m.len i ∧ m.len i ≤ 64) := ⟨h, hl, hw⟩
  have Hi : Hid (Try.prog.info? 2 = some i0 ∧ i0.zero = some (.int .i64 0) ∧ i0.size = 1 ∧ i0.bytes = 8) := ⟨hi, hz0, hz1, hz2⟩
  have Hi' : Hid (Try.prog.info? 78 = some i1 ∧ i1.zero = some (.slice none 0 0) ∧ i1.size = 1 ∧ i1.bytes = 24) := ⟨hi', hz0', hz1', hz2'⟩
  clear h hl hw hi hz0 hz1 hz2 hi' hz0' hz1' hz2'
  obtain ⟨n, hn⟩ : ∃ n, m.ml = n := ⟨_, rfl⟩
  dsimp only
  rw [hn]
  have Hn : Hid (m.ml = n) := hn
  clear hn
  go_enter Try.func40, Try.ntmps40
  go_wp2
  go_loopg [3, 4] n (fun q v i wr => ∃ (k : Nat) (G C : Nat → Nat), k + q = n ∧ i = .int .i64 k ∧ CpAt wr w.heap.size m k v G C ∧ More w wr)
  case atStart => exact ⟨0, _, _, by omega, rfl, CpAt.start _ _ _, More.refl _⟩
  case round =>
    obtain ⟨k, G, C, hkg, rfl, hc, mm⟩ := hrel
    have Hm : Hid (CpAt wr w.heap.size m k u3 G C ∧ More w wr) := ⟨hc, mm⟩
    clear hc mm
    cases gk with
    | zero =>
      obtain rfl : k = n := by omega
      go_wp2
      go_ret
      exact ⟨_, G, C, rfl, Hm.out.1, Hm.out.2⟩
    | succ q =>
      have hk : k < n := by omega
      have hk' : (k : Int) < (n : Int) := by omega
      have hk0 : (0 : Int) ≤ (k : Int) := by omega
      have Hk : Hid (k < m.ml) := by rw [show Hid (k < m.ml) = (k < m.ml) from rfl, Hn.out]; exact hk
      obtain rfl : ma = some ⟨mb, mo, none⟩ := H.out.1.hm (by have := Hk.out; omega)
      have q1 := (H.out.1.lists.more Hm.out.2) k Hk.out
      dsimp only at q1
      rw [show A k = some ⟨gb k, go k, none⟩ from H.out.1.hg k Hk.out (H.out.2.2 k Hk.out).1] at q1
      have q2 : (wr.alloc (.cells #[] 2)).cell? ⟨mb, mo + k, none⟩ = some (.slice (some ⟨gb k, go k, none⟩) (m.len k) (C0 k)) := ((More.refl _).alloc _ _).cell q1
      clear q1
      have Hl : Hid (0 < m.len k ∧ m.len k ≤ 64) := H.out.2.2 k Hk.out
      have Hown1 : Hid ((wr.alloc (.cells #[] 2)).ownsRow w.heap.size 2 1 (.slice (some ⟨wr.heap.size, 0, none⟩) 0 0) 0 []) := World.ownsRow_made _ #[] 0 Hm.out.2.size (by unfold maxLen; omega) rfl
      have Hnews : Hid (∀ j u, (wordsL m k)[j]? = some u → (wr.alloc (.cells #[] 2)).cell? ((⟨gb k, go k, none⟩ : Addr).add j) = some u) := by
        intro j u hu
        have hj : j < m.len k := by have := (List.getElem?_eq_some_iff.1 hu).1; rw [wordsL_length] at this; exact this
        rw [wordsL_at m k j hj] at hu
        rw [Go.WideShapes.add_plain, ← Option.some.inj hu]
        exact (Hm.out.2.trans ((More.refl _).alloc _ _)).cell (H.out.1.words k Hk.out j hj)
      obtain ⟨r, hr⟩ : ∃ r, m.len k = r := ⟨_, rfl⟩
      rw [hr] at q2 Hl
      have Hr : Hid (m.len k = r) := hr
      clear hr
      go_wp2_with (first
        | (at_builtin; refine wpList_append_lies _ rfl (.tmp 12) (.tmp 16) 78 rfl w.heap.size 2 i0 (.int .i64 0) 1 8 Try.underlying78 Hi.out.1 Hi.out.2.1 Hi.out.2.2.1 Hi.out.2.2.2 rfl (by decide) (.slice (some ⟨wr.heap.size, 0, none⟩) 0 0) 0 [] rfl Hown1.out ⟨gb k, go k, none⟩ r (C0 k) (wordsL m k) rfl (by rw [wordsL_length, Hr.out, Nat.mul_one]) Hnews.out (wordsL_one m k) Hl.out.1 (by have := Hl.out.2; unfold maxLen; omega) (by have := Hl.out.2; omega) (by have := Hm.out.2.size; simp; omega) (wr.heap.size + 1) (by simp) ?_; intro g cap w2 own2 gr2 hat2 hlt2)
        | (at_builtin; refine wpList_append_lies _ rfl (.tmp 11) (.tmp 18) 36 rfl w.heap.size 78 i1 (.slice none 0 0) 1 24 Try.underlying36 Hi'.out.1 Hi'.out.2.1 Hi'.out.2.2.1 Hi'.out.2.2.2 rfl (by decide) u3 k ((List.range k).map fun j => .slice (some ⟨G j, 0, none⟩) (m.len j) (C j)) rfl (Hm.out.1.own3 _ _ gr2) ⟨w2.heap.size, 0, none⟩ 1 1 [.slice (some ⟨g, 0, none⟩) r cap] rfl rfl (cell_one_new _ _ _) (fun x hx => by simp at hx; subst hx; rfl) (by decide) (by have := H.out.2.1; have := Hk.out; unfold maxLen; omega) (by have := H.out.2.1; have := Hk.out; omega) (by have := Hm.out.2.size; have := gr2.size; simp at this ⊢; omega) (w2.heap.size + 1) (by simp) ?_; intro g2 cap2 w4 own4 gr4 hat4 hlt4))
      go_roundg q
      case measure => omega
      case rel =>
        have hgg : wr.heap.size ≤ g := by
          rcases hat2 with h1 | h1
          · simp [Value.ownBlock] at h1; omega
          · omega
        have hs2 : wr.heap.size + 1 ≤ w2.heap.size := by have := gr2.size; simpa using this
        have hw := Hm.out.2.size
        refine ⟨k + 1, _, _, by omega, by first | rfl | (simp; unfold wrap64; have := H.out.2.1; have := Hk.out; omega), Hm.out.1.step (.cells #[] 2) (.cells #[.slice (some ⟨g, 0, none⟩) r cap] 78) g cap g2 cap2 ?_ gr2 hgg ?_ gr4 hat4, ?_⟩
        · rw [Hr.out]
          simpa using own2
        · rw [Hr.out]
          exact own4
        · have m2 : More w w2 := (Hm.out.2.trans ((More.refl _).alloc #[] 2)).grownBy gr2 (fun b hb => by have h9 : wr.heap.size = b := (by simpa [Value.ownBlock] using hb); omega)
          refine (m2.alloc _ _).grownBy gr4 (fun b hb => ?_)
          exact (Hm.out.1.own.lt b hb).1
def flatS : List Se → List Value
  | [] => []
  | s :: l => .int .i64 s.kind :: .int .i64 s.a :: .int .i64 s.b :: flatS l
theorem flatS_append : ∀ l l' : List Se, flatS (l ++ l') = flatS l ++ flatS l'
  | [], _ => rfl
  | s :: l, l' => by simp [flatS, flatS_append l l']
theorem flatS_at : ∀ (l : List Se) (i : Nat) (s : Se), l[i]? = some s → (flatS l)[i * 3]? = some (.int .i64 s.kind) ∧ (flatS l)[i * 3 + 1]? = some (.int .i64 s.a) ∧ (flatS l)[i * 3 + 2]? = some (.int .i64 s.b)
  | [], i, s, h => by simp at h
  | x :: l, 0, s, h => by simp at h; subst h; simp [flatS]
  | x :: l, i + 1, s, h => by
    have := flatS_at l i s (by simpa using h)
    rw [show (i + 1) * 3 = i * 3 + 1 + 1 + 1 by omega, flatS]
    simpa using this

/-- What was shown, in a row of the run's own. -/
def SeenOwn (w : World) (base : Nat) (v : Value) (l : List Se) : Prop := w.ownsRow base 81 3 v l.length (flatS l)

theorem SeenOwn.at_ {w : World} {base : Nat} {v : Value} {l : List Se} (h : SeenOwn w base v l) (hb : l.length < 4611686018427387904) : SeenAt w v l := by
  by_cases h0 : l.length = 0
  · rcases h.2 with ⟨rfl, _⟩ | ⟨g, cap, cur, rfl, _⟩
    · have : l = [] := List.eq_nil_of_length_eq_zero h0
      subst this
      exact ⟨none, 0, 0, 0, rfl, fun h => absurd h (Nat.not_lt_zero _), fun i s h => by simp at h, by simp⟩
    · have : l = [] := List.eq_nil_of_length_eq_zero h0
      subst this
      exact ⟨_, 0, 0, cap, rfl, fun h => absurd h (Nat.not_lt_zero _), fun i s h => by simp at h, by simp⟩
  · obtain ⟨g, cap, rfl, _, _⟩ := World.ownsRow.form h (by omega)
    refine ⟨_, g, 0, cap, rfl, fun _ => rfl, fun i s hs => ?_, hb⟩
    have hi : i < l.length := (List.getElem?_eq_some_iff.1 hs).1
    obtain ⟨f0, f1, f2⟩ := flatS_at l i s hs
    simp only [Nat.zero_add]
    exact ⟨by rw [World.ownsRow.cellAt h _ (by omega)]; exact f0, by rw [World.ownsRow.cellAt h _ (by omega)]; exact f1, by rw [World.ownsRow.cellAt h _ (by omega)]; exact f2⟩

theorem SeenOwn.kept {w w' : World} {base : Nat} {v : Value} {l : List Se} (h : SeenOwn w base v l) {row : Option Nat} (hg : w.grownBy w' row) (hr : ∀ b, row = some b → b < base) : SeenOwn w' base v l := by
  refine World.ownsRow.kept h hg ?_
  cases hv : v.ownBlock with
  | none => left; rfl
  | some b =>
    right
    intro e
    have h1 := (World.ownsRow.lt h b hv).1
    have h2 := hr b e.symm
    omega

structure MemOwn (w : World) (lo hi : Nat) (m : Mem) (mv : Value) (mb mc : Nat) (G C : Nat → Nat) : Prop where
  val : 0 < m.ml → mv = .slice (some ⟨mb, 0, none⟩) m.ml mc ∧ lo ≤ mb ∧ mb < hi
  nil : m.ml = 0 → ∃ a c, mv = .slice a 0 c
  rows : ∀ j, j < m.ml → w.cell? ⟨mb, j, none⟩ = some (.slice (some ⟨G j, 0, none⟩) (m.len j) (C j))
  words : ∀ j, j < m.ml → ∀ i, i < m.len j → w.cell? ⟨G j, i, none⟩ = some (.int .i64 (m.wd j i)) ∧ w.frozen? ⟨G j, i, none⟩ = false
  at_ : ∀ j, j < m.ml → lo ≤ G j ∧ G j < hi ∧ G j ≠ mb
  apart : ∀ j j', j < m.ml → j' < m.ml → j ≠ j' → G j ≠ G j'

theorem CpAt.own_ {w : World} {base : Nat} {m : Mem} {v : Value} {G C : Nat → Nat} (c : CpAt w base m m.ml v G C) : ∃ mb mc, MemOwn w base w.heap.size m v mb mc G C := by
  by_cases h0 : m.ml = 0
  · have hv : ∃ a cap, v = .slice a 0 cap := by
      rcases c.own.2 with ⟨h, _⟩ | ⟨g, cap, cur, h, _⟩
      · exact ⟨_, _, h⟩
      · exact ⟨_, cap, by rw [h, h0]⟩
    exact ⟨0, 0, fun h => by omega, fun _ => hv, fun j hj => by omega, fun j hj => by omega, fun j hj => by omega, fun j j' hj => by omega⟩
  · obtain ⟨g, cap, rfl, hb, hl⟩ := World.ownsRow.form c.own (by omega)
    refine ⟨g, cap, fun _ => ⟨rfl, hb, hl⟩, fun h => absurd h h0, fun j hj => ?_, fun j hj i hi => ⟨?_, World.ownsRow.frozenAt (c.row j hj) i⟩, fun j hj => ⟨((c.row j hj).lt _ rfl).1, ((c.row j hj).lt _ rfl).2, fun e => c.apart j hj (by rw [e]; rfl)⟩, c.apart2⟩
    · rw [World.ownsRow.cellAt c.own j (by omega)]
      simp [hj]
    · rw [World.ownsRow.cellAt (c.row j hj) i (by omega)]
      exact wordsL_at m j i hi

theorem MemOwn.kept {w w' : World} {lo hi : Nat} {m : Mem} {mv : Value} {mb mc : Nat} {G C : Nat → Nat} (h : MemOwn w lo hi m mv mb mc G C) {row : Option Nat} (hg : w.grownBy w' row) (hr : ∀ b, row = some b → b < lo ∨ hi ≤ b) :
    MemOwn w' lo hi m mv mb mc G C := by
  refine ⟨h.val, h.nil, fun j hj => ?_, fun j hj i hi' => ?_, h.at_, h.apart⟩
  · exact hg.cell (h.rows j hj) (fun e => by have := hr mb e.symm; have := h.val (by omega); omega)
  · have hne : some (G j) ≠ row := fun e => by have := hr (G j) e.symm; have := h.at_ j hj; omega
    exact ⟨hg.cell (h.words j hj i hi').1 hne, (frozen_kept hg (h.words j hj i hi').1 hne).trans (h.words j hj i hi').2⟩

theorem MemOwn.set {w : World} {lo hi : Nat} {m : Mem} {mv : Value} {mb mc : Nat} {G C : Nat → Nat} (h : MemOwn w lo hi m mv mb mc G C) (c i : Nat) (hc : c < m.ml) (hi' : i < m.len c) (v : Int) :
    MemOwn (w.setCell ⟨G c, i, none⟩ (.int .i64 v)) lo hi (setW m c i v) mv mb mc G C := by
  refine ⟨h.val, h.nil, fun j hj => ?_, fun j hj x hx => ?_, h.at_, h.apart⟩
  · rw [World.cell?_setCell_other _ _ _ _ (by intro e; simp only [Addr.mk.injEq] at e; exact (h.at_ c hc).2.2 e.1)]
    exact h.rows j hj
  · have hw := h.words j hj x hx
    refine ⟨?_, by rw [World.frozen?_setCell]; exact hw.2⟩
    unfold setW
    dsimp only
    by_cases e : j = c ∧ x = i
    · obtain ⟨rfl, rfl⟩ := e
      rw [if_pos ⟨rfl, rfl⟩]
      exact World.cell?_setCell_same _ _ _ hw.1
    · rw [if_neg e, World.cell?_setCell_other]
      · exact hw.1
      · intro e'
        simp only [Addr.mk.injEq] at e'
        by_cases ej : j = c
        · exact e ⟨ej, by subst ej; exact e'.2.1.symm⟩
        · exact h.apart j c hj hc ej e'.1.symm

theorem MemOwn.in_ {w : World} {lo hi : Nat} {m : Mem} {mv : Value} {mb mc : Nat} {G C : Nat → Nat} (h : MemOwn w lo hi m mv mb mc G C) (f1 : m.ml < 4611686018427387904) (f2 : ∀ i, i < m.ml → m.len i < 4611686018427387904) :
    ∃ l : MLoc, mv = .slice l.ma m.ml l.mc ∧ MIn w m l := by
  by_cases h0 : m.ml = 0
  · obtain ⟨a, c, hv⟩ := h.nil h0
    refine ⟨⟨a, 0, 0, c, fun _ => none, fun _ => 0, fun _ => 0, fun _ => 0⟩, by rw [hv, h0], fun h => by omega, fun j hj => by omega, fun j hj => by omega, fun j hj => by omega, f1, f2⟩
  · refine ⟨⟨some ⟨mb, 0, none⟩, mb, 0, mc, fun j => some ⟨G j, 0, none⟩, C, G, fun _ => 0⟩, (h.val (by omega)).1, fun _ => rfl, fun j hj => ?_, fun j hj _ => rfl, fun j hj i hi => ?_, f1, f2⟩
    · simpa using h.rows j hj
    · simpa using (h.words j hj i hi).1
end
section
open Go.RowKit
set_option linter.unusedSimpArgs false
set_option linter.unusedVariables false
/-- What holds of every state that a run comes to. -/
structure Inv (p : Prg) (m : Mem) (k : Nat) (s : St) : Prop where
  at_ : s.at_ ≤ p.cl
  r : ∀ j, j < 10 → B64 (s.r j)
  ml : s.m.ml = m.ml
  len : ∀ j, s.m.len j = m.len j
  wd : ∀ j, j < m.ml → ∀ i, i < m.len j → B64 (s.m.wd j i)
  seen : s.seen.length ≤ 2 * k

theorem own_form {w : World} {base : Nat} {e : TypeId} {size : Nat} {v : Value} {n : Nat} {xs : List Value} (h : w.ownsRow base e size v n xs) : ∃ a c, v = .slice a n c := by
  rcases h.2 with ⟨h, h0⟩ | ⟨g, cap, cur, h, _⟩
  · exact ⟨none, 0, by rw [h, h0]⟩
  · exact ⟨_, cap, h⟩
end
section
open Go.RowKit
set_option linter.unusedVariables false
/-- A cell that may be written. -/
def Wr (w : World) (b o : Nat) (v : Value) : Prop := w.cell? ⟨b, o, none⟩ = some v ∧ w.frozen? ⟨b, o, none⟩ = false
theorem Wr.kept {w w' : World} {row : Option Nat} (hg : w.grownBy w' row) {b o : Nat} {v : Value} (h : Wr w b o v) (hne : some b ≠ row) : Wr w' b o v :=
  ⟨hg.cell h.1 hne, (frozen_kept hg h.1 hne).trans h.2⟩
theorem Wr.same {w : World} {b o : Nat} {v : Value} (h : Wr w b o v) (u : Value) : Wr (w.setCell ⟨b, o, none⟩ u) b o u :=
  ⟨World.cell?_setCell_same _ _ _ h.1, by rw [World.frozen?_setCell]; exact h.2⟩
theorem Wr.other {w : World} {b o : Nat} {v : Value} (h : Wr w b o v) (b' o' : Nat) (u : Value) (hne : b' ≠ b ∨ o' ≠ o) : Wr (w.setCell ⟨b', o', none⟩ u) b o v :=
  ⟨by rw [World.cell?_setCell_other _ _ _ _ (by intro e; simp only [Addr.mk.injEq] at e; omega)]; exact h.1, by rw [World.frozen?_setCell]; exact h.2⟩

/-- N: the box of the program; N + 1: the result; B: what is shown; B + 1: the registers; behind them what was seen; between N + 1 and B the words. -/
structure PAt (w wr : World) (rv cv : Value) (B : Nat) (s : St) (k : Nat) (sv mv : Value) (mb mc : Nat) (G C : Nat → Nat) : Prop where
  more : More w wr
  size : B + 1 < wr.heap.size
  low : w.heap.size + 2 ≤ B
  b0 : Wr wr w.heap.size 0 rv
  b1 : Wr wr w.heap.size 1 cv
  o0 : Wr wr (w.heap.size + 1) 0 (.int .i64 0)
  o1 : Wr wr (w.heap.size + 1) 1 (.int .i64 0)
  o2 : Wr wr (w.heap.size + 1) 2 (.int .i64 0)
  o3 : Wr wr (w.heap.size + 1) 3 (.slice none 0 0)
  o4 : Wr wr (w.heap.size + 1) 4 (.slice none 0 0)
  s0 : Wr wr B 0 (.int .i64 0)
  s1 : Wr wr B 1 (.int .i64 0)
  s2 : Wr wr B 2 (.int .i64 k)
  s3 : Wr wr B 3 sv
  s4 : Wr wr B 4 mv
  regs : RegsR wr (B + 1) s.r
  seen : SeenOwn wr (B + 2) sv s.seen
  mem : MemOwn wr (w.heap.size + 2) B s.m mv mb mc G C

section
variable {w wr w' : World} {rv cv : Value} {B : Nat} {s : St} {k : Nat} {sv mv : Value} {mb mc : Nat} {G C : Nat → Nat}

theorem PAt.grown (h : PAt w wr rv cv B s k sv mv mb mc G C) (hg : wr.grownBy w' none) : PAt w w' rv cv B s k sv mv mb mc G C :=
  ⟨h.more.grownBy hg (fun b hb => by cases hb), Nat.lt_of_lt_of_le h.size hg.size, h.low, h.b0.kept hg (by simp), h.b1.kept hg (by simp), h.o0.kept hg (by simp), h.o1.kept hg (by simp), h.o2.kept hg (by simp), h.o3.kept hg (by simp), h.o4.kept hg (by simp),
    h.s0.kept hg (by simp), h.s1.kept hg (by simp), h.s2.kept hg (by simp), h.s3.kept hg (by simp), h.s4.kept hg (by simp), h.regs.kept hg (by simp), h.seen.kept hg (fun b hb => by cases hb), h.mem.kept hg (fun b hb => by cases hb)⟩
theorem PAt.alloc (h : PAt w wr rv cv B s k sv mv mb mc G C) (o : Obj) : PAt w (wr.alloc o) rv cv B s k sv mv mb mc G C := h.grown (World.grownBy_alloc _ _ _)
theorem PAt.drew (h : PAt w wr rv cv B s k sv mv mb mc G C) : PAt w wr.drew rv cv B s k sv mv mb mc G C := h.grown (grown_drew _ _)
theorem PAt.on (h : PAt w wr rv cv B s k sv mv mb mc G C) (m : More wr w') : PAt w w' rv cv B s k sv mv mb mc G C := h.grown (m.grow _)

/-- One step more. -/
theorem PAt.steps (h : PAt w wr rv cv B s k sv mv mb mc G C) (k' : Nat) (n : Int) (hn : n = k') : PAt w (wr.setCell ⟨B, 2, none⟩ (.int .i64 n)) rv cv B s k' sv mv mb mc G C := by
  subst hn
  have hl := h.low
  have hg := grown_set wr B 2 (.int .i64 (k' : Int))
  exact ⟨h.more.grownBy hg (fun b hb => by have := Option.some.inj hb; omega), Nat.lt_of_lt_of_le h.size hg.size, h.low, h.b0.other _ _ _ (by omega), h.b1.other _ _ _ (by omega), h.o0.other _ _ _ (by omega), h.o1.other _ _ _ (by omega), h.o2.other _ _ _ (by omega), h.o3.other _ _ _ (by omega), h.o4.other _ _ _ (by omega),
    h.s0.other _ _ _ (by omega), h.s1.other _ _ _ (by omega), h.s2.same _, h.s3.other _ _ _ (by omega), h.s4.other _ _ _ (by omega), h.regs.kept hg (by simp), h.seen.kept hg (fun b hb => by have := Option.some.inj hb; omega), h.mem.kept hg (fun b hb => by have := Option.some.inj hb; omega)⟩

/-- Something more was shown: the row has grown, and its place is stored. -/
theorem PAt.shown (h : PAt w wr rv cv B s k sv mv mb mc G C) (l : List Se) (sv' : Value) (own : SeenOwn w' (B + 2) sv' l) (gr : wr.grownBy w' sv.ownBlock) :
    PAt w (w'.setCell ⟨B, 3, none⟩ sv') rv cv B ⟨s.at_, s.r, s.m, l⟩ k sv' mv mb mc G C := by
  have hl := h.low
  have hrow : ∀ b, sv.ownBlock = some b → B + 2 ≤ b := fun b hb => (World.ownsRow.lt h.seen b hb).1
  have hne : ∀ b, b < B + 2 → some b ≠ sv.ownBlock := fun b hb e => by have := hrow b e.symm; omega
  have hg := grown_set w' B 3 sv'
  have hm : More w w' := h.more.grownBy gr (fun b hb => by have := hrow b hb; omega)
  have q0 := h.size
  exact ⟨hm.grownBy hg (fun b hb => by have := Option.some.inj hb; omega), Nat.lt_of_lt_of_le (Nat.lt_of_lt_of_le h.size gr.size) hg.size, h.low,
    (h.b0.kept gr (hne _ (by omega))).other _ _ _ (by omega), (h.b1.kept gr (hne _ (by omega))).other _ _ _ (by omega), (h.o0.kept gr (hne _ (by omega))).other _ _ _ (by omega), (h.o1.kept gr (hne _ (by omega))).other _ _ _ (by omega),
    (h.o2.kept gr (hne _ (by omega))).other _ _ _ (by omega), (h.o3.kept gr (hne _ (by omega))).other _ _ _ (by omega), (h.o4.kept gr (hne _ (by omega))).other _ _ _ (by omega),
    (h.s0.kept gr (hne _ (by omega))).other _ _ _ (by omega), (h.s1.kept gr (hne _ (by omega))).other _ _ _ (by omega), (h.s2.kept gr (hne _ (by omega))).other _ _ _ (by omega), (h.s3.kept gr (hne _ (by omega))).same _, (h.s4.kept gr (hne _ (by omega))).other _ _ _ (by omega),
    (h.regs.kept gr (hne _ (by omega))).kept hg (by simp), own.kept hg (fun b hb => by have := Option.some.inj hb; omega),
    (h.mem.kept gr (fun b hb => by have := hrow b hb; omega)).kept hg (fun b hb => by have := Option.some.inj hb; omega)⟩

/-- The registers have changed, and nothing else. -/
theorem PAt.regd (h : PAt w wr rv cv B s k sv mv mb mc G C) (r : Nat → Int) (hr : RegsR w' (B + 1) r) (gr : wr.grownBy w' (some (B + 1))) : PAt w w' rv cv B ⟨s.at_, r, s.m, s.seen⟩ k sv mv mb mc G C := by
  have hl := h.low
  have hne : ∀ b, b < B + 1 → some b ≠ some (B + 1) := fun b hb e => by have := Option.some.inj e; omega
  exact ⟨h.more.grownBy gr (fun b hb => by have := Option.some.inj hb; omega), Nat.lt_of_lt_of_le h.size gr.size, h.low, h.b0.kept gr (hne _ (by omega)), h.b1.kept gr (hne _ (by omega)), h.o0.kept gr (hne _ (by omega)), h.o1.kept gr (hne _ (by omega)), h.o2.kept gr (hne _ (by omega)), h.o3.kept gr (hne _ (by omega)), h.o4.kept gr (hne _ (by omega)),
    h.s0.kept gr (hne _ (by omega)), h.s1.kept gr (hne _ (by omega)), h.s2.kept gr (hne _ (by omega)), h.s3.kept gr (hne _ (by omega)), h.s4.kept gr (hne _ (by omega)), hr, h.seen.kept gr (fun b hb => by have := Option.some.inj hb; omega), h.mem.kept gr (fun b hb => by have := Option.some.inj hb; omega)⟩

/-- A word has been put. -/
theorem PAt.worded (h : PAt w wr rv cv B s k sv mv mb mc G C) (c i : Nat) (hc : c < s.m.ml) (hi : i < s.m.len c) (v : Int) :
    PAt w (wr.setCell ⟨G c, i, none⟩ (.int .i64 v)) rv cv B ⟨s.at_, s.r, setW s.m c i v, s.seen⟩ k sv mv mb mc G C := by
  have hl := h.low
  obtain ⟨g0, g1, _⟩ := h.mem.at_ c hc
  have hg := grown_set wr (G c) i (.int .i64 v)
  exact ⟨h.more.grownBy hg (fun b hb => by have := Option.some.inj hb; omega), Nat.lt_of_lt_of_le h.size hg.size, h.low, h.b0.other _ _ _ (by omega), h.b1.other _ _ _ (by omega), h.o0.other _ _ _ (by omega), h.o1.other _ _ _ (by omega), h.o2.other _ _ _ (by omega), h.o3.other _ _ _ (by omega), h.o4.other _ _ _ (by omega),
    h.s0.other _ _ _ (by omega), h.s1.other _ _ _ (by omega), h.s2.other _ _ _ (by omega), h.s3.other _ _ _ (by omega), h.s4.other _ _ _ (by omega), h.regs.kept hg (by simp; omega), h.seen.kept hg (fun b hb => by have := Option.some.inj hb; omega), h.mem.set c i hc hi v⟩

end
end
section
open Go.RowKit
set_option linter.unusedSimpArgs false
set_option linter.unusedVariables false
theorem made_at (j : Nat) (h : j < 10) : (madeCells #[.int .i64 0] 10)[j]? = some (.int .i64 0) := by
  unfold madeCells
  simp [h, Nat.mod_one]

theorem play_start {w w1 : World} {rv cv : Value} {m : Mem} {va : Option Addr} {vc mb mc : Nat} {G C : Nat → Nat} {t u : TypeId}
    (m1 : More ((w.alloc (.cells #[rv, cv] t)).alloc (.cells #[.int .i64 0, .int .i64 0, .int .i64 0, .slice none 0 0, .slice none 0 0] u)) w1) (hs : w.heap.size + 2 ≤ w1.heap.size)
    (hm : MemOwn w1 (w.heap.size + 2) w1.heap.size m (.slice va m.ml vc) mb mc G C) :
    PAt w ((w1.alloc (.cells #[.int .i64 0, .int .i64 0, .int .i64 0, .slice none 0 0, .slice va m.ml vc] 41)).alloc (.cells (madeCells #[.int .i64 0] 10) 2)) rv cv w1.heap.size ⟨0, fun _ => 0, m, []⟩ 0 (.slice none 0 0) (.slice va m.ml vc) mb mc G C := by
  have mw : More w w1 := (((More.refl _).alloc _ _).alloc _ _).trans m1
  have m2 : More w1 ((w1.alloc (.cells #[.int .i64 0, .int .i64 0, .int .i64 0, .slice none 0 0, .slice va m.ml vc] 41)).alloc (.cells (madeCells #[.int .i64 0] 10) 2)) := ((More.refl _).alloc _ _).alloc _ _
  have old : ∀ b o v, Wr ((w.alloc (.cells #[rv, cv] t)).alloc (.cells #[.int .i64 0, .int .i64 0, .int .i64 0, .slice none 0 0, .slice none 0 0] u)) b o v →
      Wr ((w1.alloc (.cells #[.int .i64 0, .int .i64 0, .int .i64 0, .slice none 0 0, .slice va m.ml vc] 41)).alloc (.cells (madeCells #[.int .i64 0] 10) 2)) b o v :=
    fun b o v h => (h.kept (m1.grow none) (by simp)).kept (m2.grow none) (by simp)
  refine ⟨mw.trans m2, by simp, hs, old _ _ _ ⟨by go_simp, by go_simp⟩, old _ _ _ ⟨by go_simp, by go_simp⟩, old _ _ _ ⟨by go_simp, by go_simp⟩, old _ _ _ ⟨by go_simp, by go_simp⟩, old _ _ _ ⟨by go_simp, by go_simp⟩, old _ _ _ ⟨by go_simp, by go_simp⟩, old _ _ _ ⟨by go_simp, by go_simp⟩,
    ⟨by go_simp, by go_simp⟩, ⟨by go_simp, by go_simp⟩, ⟨by go_simp, by go_simp⟩, ⟨by go_simp, by go_simp⟩, ⟨by go_simp, by go_simp⟩, fun j hj => ?_, World.ownsRow_nil _ _ _ _, hm.kept (m2.grow none) (fun b hb => by cases hb)⟩
  have hj2 := made_at j hj
  exact ⟨by go_simp, by go_simp⟩

/-- The result is laid. -/
theorem PAt.ends {w wr : World} {rv cv : Value} {B : Nat} {s : St} {k : Nat} {sv : Value} {va : Option Addr} {n vc : Nat} {mb mc : Nat} {G C : Nat → Nat} (h : PAt w wr rv cv B s k sv (.slice va n vc) mb mc G C) (hb : s.seen.length < 4611686018427387904) (f1 : s.m.ml < 4611686018427387904) (f2 : ∀ i, i < s.m.ml → s.m.len i < 4611686018427387904)
    (hn : n = s.m.ml) {w0 w' : World} (hg0 : wr.grownBy w0 (some B)) (hg : w0.grownBy w' (some (w.heap.size + 1))) (f v t : Int) : ShownAt w' (.agg #[.int .i64 f, .int .i64 v, .int .i64 t, sv, .slice va n vc]) ⟨f, v, t, s.seen, s.m⟩ ∧ More w w' := by
  subst hn
  have hl := h.low
  obtain ⟨l, hv, hi⟩ := ((h.mem.kept hg0 (fun b hb => by have := Option.some.inj hb; omega)).kept hg (fun b hb => by have := Option.some.inj hb; omega)).in_ f1 f2
  exact ⟨⟨sv, l, by dsimp only; rw [hv], ((h.seen.kept hg0 (fun b hb => by have := Option.some.inj hb; omega)).kept hg (fun b hb => by have := Option.some.inj hb; omega)).at_ hb, hi⟩, (h.more.grownBy hg0 (fun b hb => by have := Option.some.inj hb; omega)).grownBy hg (fun b hb => by have := Option.some.inj hb; omega)⟩

theorem PAt.cells {w wr : World} {rv cv : Value} {B : Nat} {s : St} {k : Nat} {sv mv : Value} {mb mc : Nat} {G C : Nat → Nat} (h : PAt w wr rv cv B s k sv mv mb mc G C) :
    wr.cell? ⟨w.heap.size, 0, none⟩ = some rv ∧ wr.cell? ⟨w.heap.size, 1, none⟩ = some cv ∧
    (wr.cell? ⟨w.heap.size + 1, 0, none⟩ = some (.int .i64 0) ∧ wr.frozen? ⟨w.heap.size + 1, 0, none⟩ = false) ∧ (wr.cell? ⟨w.heap.size + 1, 1, none⟩ = some (.int .i64 0) ∧ wr.frozen? ⟨w.heap.size + 1, 1, none⟩ = false) ∧
    (wr.cell? ⟨w.heap.size + 1, 2, none⟩ = some (.int .i64 0) ∧ wr.frozen? ⟨w.heap.size + 1, 2, none⟩ = false) ∧ (wr.cell? ⟨w.heap.size + 1, 3, none⟩ = some (.slice none 0 0) ∧ wr.frozen? ⟨w.heap.size + 1, 3, none⟩ = false) ∧
    (wr.cell? ⟨w.heap.size + 1, 4, none⟩ = some (.slice none 0 0) ∧ wr.frozen? ⟨w.heap.size + 1, 4, none⟩ = false) ∧
    (wr.cell? ⟨B, 0, none⟩ = some (.int .i64 0) ∧ wr.frozen? ⟨B, 0, none⟩ = false) ∧ (wr.cell? ⟨B, 1, none⟩ = some (.int .i64 0) ∧ wr.frozen? ⟨B, 1, none⟩ = false) ∧ (wr.cell? ⟨B, 2, none⟩ = some (.int .i64 k) ∧ wr.frozen? ⟨B, 2, none⟩ = false) ∧
    (wr.cell? ⟨B, 3, none⟩ = some sv ∧ wr.frozen? ⟨B, 3, none⟩ = false) ∧ (wr.cell? ⟨B, 4, none⟩ = some mv ∧ wr.frozen? ⟨B, 4, none⟩ = false) :=
  ⟨h.b0.1, h.b1.1, h.o0, h.o1, h.o2, h.o3, h.o4, h.s0, h.s1, h.s2, h.s3, h.s4⟩
end
section
open Go.RowKit
set_option linter.unusedVariables false
theorem putI_load {i : Ins} (h : i.op = 3 ∨ i.op = 5) : putI i = 0 := by unfold putI; rw [if_pos h]
theorem putI_put {i : Ins} (h : i.op = 4 ∨ i.op = 6) : putI i = 1 := by unfold putI; rw [if_neg (by omega), if_pos h]
theorem putI_no {i : Ins} (h3 : ¬ i.op = 3) (h4 : ¬ i.op = 4) (h5 : ¬ i.op = 5) (h6 : ¬ i.op = 6) : putI i = -1 := by unfold putI; rw [if_neg (by omega), if_neg (by omega)]

theorem step_out {p : Prg} {s : St} {i : Ins} (hI : p.ins s.at_ = i) (hop : i.op = 3 ∨ i.op = 4 ∨ i.op = 5 ∨ i.op = 6) (hx : idxI s.r i < 0 ∨ (s.m.len i.c.toNat : Int) ≤ idxI s.r i) :
    stepI p s = (⟨s.at_ + 1, s.r, s.m, s.seen ++ [⟨1, s.at_, 0⟩]⟩, some (2, 0)) := by
  subst hI
  have hp : 0 ≤ putI (p.ins s.at_) := by
    rcases hop with h | h | h | h
    · rw [putI_load (.inl h)]; decide
    · rw [putI_put (.inl h)]; decide
    · rw [putI_load (.inr h)]; decide
    · rw [putI_put (.inr h)]; decide
  unfold stepI
  rw [if_neg (by omega), if_neg (by omega), if_neg (by omega), if_pos hp, if_pos hx]

theorem step_put {p : Prg} {s : St} {i : Ins} (hI : p.ins s.at_ = i) (hop : i.op = 4 ∨ i.op = 6) (hx : ¬ (idxI s.r i < 0 ∨ (s.m.len i.c.toNat : Int) ≤ idxI s.r i)) :
    stepI p s = (⟨s.at_ + 1, s.r, setW s.m i.c.toNat (idxI s.r i).toNat (s.r i.a.toNat), s.seen ++ [⟨1, s.at_, 0⟩] ++ [⟨2, baseI p.log i.c.toNat + idxI s.r i, 1⟩]⟩, none) := by
  subst hI
  have hp := putI_put hop
  unfold stepI
  rw [if_neg (by omega), if_neg (by omega), if_neg (by omega), if_pos (by rw [hp]; decide), if_neg hx, if_pos hp]

theorem step_load {p : Prg} {s : St} {i : Ins} (hI : p.ins s.at_ = i) (hop : i.op = 3 ∨ i.op = 5) (hx : ¬ (idxI s.r i < 0 ∨ (s.m.len i.c.toNat : Int) ≤ idxI s.r i)) :
    stepI p s = (⟨s.at_ + 1, setR s.r i.a (s.m.wd i.c.toNat (idxI s.r i).toNat), s.m, s.seen ++ [⟨1, s.at_, 0⟩] ++ [⟨2, baseI p.log i.c.toNat + idxI s.r i, 0⟩]⟩, none) := by
  subst hI
  have hp := putI_load hop
  unfold stepI
  rw [if_neg (by omega), if_neg (by omega), if_neg (by omega), if_pos (by rw [hp]; decide), if_neg hx, if_neg (by rw [hp]; decide)]

theorem step_regs {p : Prg} {s : St} {i : Ins} (hI : p.ins s.at_ = i) (h3 : ¬ i.op = 3) (h4 : ¬ i.op = 4) (h5 : ¬ i.op = 5) (h6 : ¬ i.op = 6) (h7 : ¬ i.op = 7) (h8 : ¬ i.op = 8) (h9 : ¬ i.op = 9) :
    stepI p s = (⟨s.at_ + 1, (regsI s.r i).1, s.m, s.seen ++ [⟨1, s.at_, 0⟩] ++ (regsI s.r i).2⟩, none) := by
  subst hI
  have hp := putI_no h3 h4 h5 h6
  unfold stepI
  rw [if_neg h7, if_neg h8, if_neg h9, if_neg (by rw [hp]; decide)]

theorem run_next {p : Prg} {g k : Nat} {s s' : St} {R : Sh} (h : runI p (g + 1) k s = R) (hat : s.at_ < p.cl) (e : stepI p s = (s', none)) : runI p g (k + 1) s' = R := by
  rw [runI, if_neg (by omega), e] at h
  exact h
theorem run_stop {p : Prg} {g k : Nat} {s s' : St} {R : Sh} {f v : Int} (h : runI p (g + 1) k s = R) (hat : s.at_ < p.cl) (e : stepI p s = (s', some (f, v))) : R = ⟨f, v, (k : Int) + 1, s'.seen, s'.m⟩ := by
  rw [runI, if_neg (by omega), e] at h
  exact h.symm
end
end Go.Proofs.Ytnppcfkmiddaeab
