/-
  The texts Bitwise, Shift, Divide, Ref, RefStep, RefMore, Copy, Own, Inv, PAt, PlayAux, Way, Play, PlayNeg, CvTold, CkCopy, KnRef, KnRefA, KnRefB, one behind the other, with what is used of them.
-/
import Derived.Test.YtlbfbjeilfcjeaaGreatJoined4
import Derived.RegionTactic
import Derived.ChangeAlike
import Derived.Test.YtlbfbjeilfcjeaaGreatRows
import Derived.WalkKit
import Derived.Deep.LoopGhost
import Derived.Test.YtlbfbjeilfcjeaaGreatJoined0
import Derived.Deep.AppendLies
import Derived.OwnWalk
import Derived.Laws.OwnMore
import Derived.Deep.OwnRows
import Derived.Laws.AppendOwnNone
import Derived.Test.YtlbfbjeilfcjeaaGreatJoined1
import Derived.Test.YtlbfbjeilfcjeaaGreatProg
namespace Go.Proofs.YtlbfbjeilfcjeaaGreat
set_option maxHeartbeats 4000000
section
open Go.RowKit
theorem J1f (a : Int) (h0 : -9223372036854775808 <= a) (h1 : a <= 9223372036854775807) (w : World) :
  Calls Tryz.prog 75 #[.int .i64 a] w fun e w' => ∃ c, e = .returned (.agg c) /\ Hid (c = arr (fun i => (toU a).testBit i)) /\ More w w' :=
 (Jc7 a h0 h1 w).mono fun _ _ h => ⟨_, h.1, rfl, h.2⟩

theorem J33 {c : Array Value} {f : Nat -> Bool} (h : Hid (c = arr f)) : (Tryz.prog.info? 133).map (·.size) = some c.size := by rw [h.out]; exact J3k f
theorem J2l {c : Array Value} {f : Nat -> Bool} (h : Hid (c = arr f)) : 64 = c.size := by rw [h.out, J2n]
theorem J4l {c : Array Value} {f : Nat -> Bool} (h : Hid (c = arr f)) : c.all (·.oneCell') = true := by rw [h.out]; exact Jdd f
theorem J4j {c : Array Value} {f : Nat -> Bool} (h : Hid (c = arr f)) (i : Nat) (hi : i < 64) : c[i]? = some (.bool (f i)) := by rw [h.out]; exact J31 f i hi

structure St3 (w : World) (B1 B2 B3 : Nat) (c1 c2 c3 : Array Value) (wr : World) : Prop where
 one : wr.heap[B1]? = some (.cells c1 133 (0, 0))
 two : wr.heap[B2]? = some (.cells c2 133 (0, 0))
 three : wr.heap[B3]? = some (.cells c3 133 (0, 0))
 more : More w wr
 new : w.heap.size <= B3
 apart1 : B1 ≠ B3
 apart2 : B2 ≠ B3

theorem St3.set {w wr : World} {B1 B2 B3 : Nat} {c1 c2 c3 c4 : Array Value} (h : St3 w B1 B2 B3 c1 c2 c3 wr) (k : Nat) (v : Value) (e : c3.setIfInBounds k v = c4) :
  St3 w B1 B2 B3 c1 c2 c4 (wr.setCell ⟨B3, k, none⟩ v) := by
 subst e;exact ⟨(heap_setCell_other _ _ _ _ h.apart1).trans h.one, (heap_setCell_other _ _ _ _ h.apart2).trans h.two, heap_setCell_same _ _ _ _ _ _ h.three, h.more.setCell h.new v, h.new, h.apart1, h.apart2⟩
theorem St3.drew {w wr : World} {B1 B2 B3 : Nat} {c1 c2 c3 : Array Value} (h : St3 w B1 B2 B3 c1 c2 c3 wr) : St3 w B1 B2 B3 c1 c2 c3 wr.drew :=
 ⟨h.one, h.two, h.three, h.more.drew, h.new, h.apart1, h.apart2⟩

theorem J56 (u : Nat) : part u 0 = #[.bool false, .bool false, .bool false, .bool false, .bool false, .bool false, .bool false, .bool false, .bool false, .bool false, .bool false, .bool false, .bool false, .bool false, .bool false, .bool false, .bool false, .bool false, .bool false, .bool false, .bool false, .bool false, .bool false, .bool false, .bool false, .bool false, .bool false, .bool false, .bool false, .bool false, .bool false, .bool false, .bool false, .bool false, .bool false, .bool false, .bool false, .bool false, .bool false, .bool false, .bool false, .bool false, .bool false, .bool false, .bool false, .bool false, .bool false, .bool false, .bool false, .bool false, .bool false, .bool false, .bool false, .bool false, .bool false, .bool false, .bool false, .bool false, .bool false, .bool false, .bool false, .bool false, .bool false, .bool false] := (J9e u).trans rfl

theorem St3.start {w w1 w2 : World} {c1 c2 c3 : Array Value} (m1 : More w w1) (m2 : More (w1.alloc (.cells c1 133)) w2) :
  St3 w w1.heap.size w2.heap.size (w2.heap.size + 1) c1 c2 c3 ((w2.alloc (.cells c2 133)).alloc (.cells c3 133)) := by
 have s1 : (w1.alloc (.cells c1 133)).heap.size = w1.heap.size + 1 := by simp
 have s2 : (w2.alloc (.cells c2 133)).heap.size = w2.heap.size + 1 := by simp
 have s3 := m2.size;have s4 := m1.size;refine ⟨?_, ?_, ?_, (((m1.alloc c1 133).trans m2).alloc c2 133).alloc c3 133, by omega, by omega, by omega⟩
 ·rw [Below.heap_alloc _ _ _ (by omega), Below.heap_alloc _ _ _ (by omega), m2.block _ (by omega)]; exact heap_alloc_last _ _
 ·rw [Below.heap_alloc _ _ _ (by omega)]; exact heap_alloc_last _ _
 ·rw [<- s2]; exact heap_alloc_last _ _

theorem J9a (U : Nat) (h : U < 18446744073709551616) (w : World) :
  Calls Tryz.prog 87 #[.agg (arr (fun i => U.testBit i))] w fun e w' => e = .returned (.int .i64 (wrap64 (U : Int))) /\ More w w' := by
 have := Jh1 (fun i => U.testBit i) w;rw [Jkt U h] at this;exact this

theorem J9y (a b : Int) (U : Nat) (a0 : -9223372036854775808 <= a) (a1 : a <= 9223372036854775807) (b0 : -9223372036854775808 <= b) (b1 : b <= 9223372036854775807)
  (hU : Hid (U < 18446744073709551616)) (hB : Hid (∀ k, U.testBit k = ((toU a).testBit k && (toU b).testBit k))) (w : World) :
  Calls Tryz.prog 74 #[.int .i64 4, .int .i64 a, .int .i64 b] w fun e w' => e = .returned (.int .i64 (wrap64 (U : Int))) /\ More w w' := by
 go_enter Tryz.func74, Tryz.ntmps74;go_wp2_with (fail)
 refine (J1f a a0 a1 _).mono ?_;rintro e w1 ⟨cx, rfl, hx, m1⟩;go_wp2_with (refine wpList_store_row rfl 133 (.tmp 7) (.tmp 12) rfl _ _ rfl rfl 133 _ (heap_alloc_last _ _) (J33 hx) (J2l hx) (J4l hx) ?_; rw [World.setRow_alloc_new])
 refine (J1f b b0 b1 _).mono ?_;rintro e w2 ⟨cy, rfl, hy, m2⟩;go_wp2_with (refine wpList_store_row rfl 133 (.tmp 8) (.tmp 14) rfl _ _ rfl rfl 133 _ (heap_alloc_last _ _) (J33 hy) (J2l hy) (J4l hy) ?_; rw [World.setRow_alloc_new])
 have H0 := St3.start (c2 := cy) (c3 := part U 0) m1 m2;go_loopg [10] 64 (fun g i wr => ∃ (k : Nat), k + g = 64 /\ i = .int .i64 k /\ St3 w w1.heap.size w2.heap.size (w2.heap.size + 1) cx cy (part U k) wr)
 case atStart =>
  refine ⟨0, by omega, rfl, ?_⟩;rw [J56] at H0 |-;exact H0
 case round =>
  obtain ⟨k, hkg, rfl, hst⟩ := hrel;clear H0 m1 m2;cases gk with
  | zero =>
   obtain rfl : k = 64 := by omega
   have hg := hst.three;have hm := hst.more;rw [J55] at hg;clear hst;go_wp2_with (refine wpList_load_row rfl 133 (.tmp 9) rfl _ rfl 133 _ (0, 0) _ hg Tryz.underlying133 rfl (J3k _) ?_)
   refine (J9a U hU.out _).mono ?_;rintro e w3 ⟨rfl, m3⟩;go_wp2;go_ret;exact ⟨rfl, hm.trans m3⟩
  | succ g =>
   have hk : k < 64 := by omega
   have hk' : (k : Int) < 64 := by omega
   have hb := hB.out k;obtain ⟨x, ex⟩ : ∃ x, (toU a).testBit k = x := ⟨_, rfl⟩;obtain ⟨y, ey⟩ : ∃ y, (toU b).testBit k = y := ⟨_, rfl⟩;have c1 : wr.cell? ⟨w1.heap.size, k, none⟩ = some (.bool x) := by rw [cell_of_row _ _ _ _ _ _ hst.one, J4j hx k hk, ex]
   have c2 : wr.cell? ⟨w2.heap.size, k, none⟩ = some (.bool y) := by rw [cell_of_row _ _ _ _ _ _ hst.two, J4j hy k hk, ey]
   have c3 : wr.cell? ⟨w2.heap.size + 1, k, none⟩ = some (.bool false) := by rw [cell_of_row _ _ _ _ _ _ hst.three]; unfold part; rw [J31 _ _ hk]; simp
   have f3 : wr.frozen? ⟨w2.heap.size + 1, k, none⟩ = false := frozen_of_row _ _ _ _ _ hst.three;rw [ex, ey] at hb;have Hb : Hid (U.testBit k = (x && y)) := hb;have Hst : Hid (St3 w w1.heap.size w2.heap.size (w2.heap.size + 1) cx cy (part U k) wr) := hst;clear hb ex ey hst;cases x <;> cases y
   all_goals
    go_wp2;go_roundg g
    case measure => omega
    case rel => exact ⟨k + 1, by omega, by first | rfl | simp, Hst.out.set k _ (J2r _ k _ Hb.out)⟩

theorem Jc8 (a b : Int) (U : Nat) (a0 : -9223372036854775808 <= a) (a1 : a <= 9223372036854775807) (b0 : -9223372036854775808 <= b) (b1 : b <= 9223372036854775807)
  (hU : Hid (U < 18446744073709551616)) (hB : Hid (∀ k, U.testBit k = ((toU a).testBit k || (toU b).testBit k))) (w : World) :
  Calls Tryz.prog 74 #[.int .i64 5, .int .i64 a, .int .i64 b] w fun e w' => e = .returned (.int .i64 (wrap64 (U : Int))) /\ More w w' := by
 go_enter Tryz.func74, Tryz.ntmps74;go_wp2_with (fail)
 refine (J1f a a0 a1 _).mono ?_;rintro e w1 ⟨cx, rfl, hx, m1⟩;go_wp2_with (refine wpList_store_row rfl 133 (.tmp 7) (.tmp 12) rfl _ _ rfl rfl 133 _ (heap_alloc_last _ _) (J33 hx) (J2l hx) (J4l hx) ?_; rw [World.setRow_alloc_new])
 refine (J1f b b0 b1 _).mono ?_;rintro e w2 ⟨cy, rfl, hy, m2⟩;go_wp2_with (refine wpList_store_row rfl 133 (.tmp 8) (.tmp 14) rfl _ _ rfl rfl 133 _ (heap_alloc_last _ _) (J33 hy) (J2l hy) (J4l hy) ?_; rw [World.setRow_alloc_new])
 have H0 := St3.start (c2 := cy) (c3 := part U 0) m1 m2;go_loopg [10] 64 (fun g i wr => ∃ (k : Nat), k + g = 64 /\ i = .int .i64 k /\ St3 w w1.heap.size w2.heap.size (w2.heap.size + 1) cx cy (part U k) wr)
 case atStart =>
  refine ⟨0, by omega, rfl, ?_⟩;rw [J56] at H0 |-;exact H0
 case round =>
  obtain ⟨k, hkg, rfl, hst⟩ := hrel;clear H0 m1 m2;cases gk with
  | zero =>
   obtain rfl : k = 64 := by omega
   have hg := hst.three;have hm := hst.more;rw [J55] at hg;clear hst;go_wp2_with (refine wpList_load_row rfl 133 (.tmp 9) rfl _ rfl 133 _ (0, 0) _ hg Tryz.underlying133 rfl (J3k _) ?_)
   refine (J9a U hU.out _).mono ?_;rintro e w3 ⟨rfl, m3⟩;go_wp2;go_ret;exact ⟨rfl, hm.trans m3⟩
  | succ g =>
   have hk : k < 64 := by omega
   have hk' : (k : Int) < 64 := by omega
   have hb := hB.out k;obtain ⟨x, ex⟩ : ∃ x, (toU a).testBit k = x := ⟨_, rfl⟩;obtain ⟨y, ey⟩ : ∃ y, (toU b).testBit k = y := ⟨_, rfl⟩;have c1 : wr.cell? ⟨w1.heap.size, k, none⟩ = some (.bool x) := by rw [cell_of_row _ _ _ _ _ _ hst.one, J4j hx k hk, ex]
   have c2 : wr.cell? ⟨w2.heap.size, k, none⟩ = some (.bool y) := by rw [cell_of_row _ _ _ _ _ _ hst.two, J4j hy k hk, ey]
   have c3 : wr.cell? ⟨w2.heap.size + 1, k, none⟩ = some (.bool false) := by rw [cell_of_row _ _ _ _ _ _ hst.three]; unfold part; rw [J31 _ _ hk]; simp
   have f3 : wr.frozen? ⟨w2.heap.size + 1, k, none⟩ = false := frozen_of_row _ _ _ _ _ hst.three;rw [ex, ey] at hb;have Hb : Hid (U.testBit k = (x || y)) := hb;have Hst : Hid (St3 w w1.heap.size w2.heap.size (w2.heap.size + 1) cx cy (part U k) wr) := hst;clear hb ex ey hst;cases x <;> cases y
   all_goals
    go_wp2;go_roundg g
    case measure => omega
    case rel => exact ⟨k + 1, by omega, by first | rfl | simp, Hst.out.set k _ (J2r _ k _ Hb.out)⟩

theorem J9z (a b : Int) (U : Nat) (a0 : -9223372036854775808 <= a) (a1 : a <= 9223372036854775807) (b0 : -9223372036854775808 <= b) (b1 : b <= 9223372036854775807)
  (hU : Hid (U < 18446744073709551616)) (hB : Hid (∀ k, U.testBit k = ((toU a).testBit k ^^ (toU b).testBit k))) (w : World) :
  Calls Tryz.prog 74 #[.int .i64 6, .int .i64 a, .int .i64 b] w fun e w' => e = .returned (.int .i64 (wrap64 (U : Int))) /\ More w w' := by
 go_enter Tryz.func74, Tryz.ntmps74;go_wp2_with (fail)
 refine (J1f a a0 a1 _).mono ?_;rintro e w1 ⟨cx, rfl, hx, m1⟩;go_wp2_with (refine wpList_store_row rfl 133 (.tmp 7) (.tmp 12) rfl _ _ rfl rfl 133 _ (heap_alloc_last _ _) (J33 hx) (J2l hx) (J4l hx) ?_; rw [World.setRow_alloc_new])
 refine (J1f b b0 b1 _).mono ?_;rintro e w2 ⟨cy, rfl, hy, m2⟩;go_wp2_with (refine wpList_store_row rfl 133 (.tmp 8) (.tmp 14) rfl _ _ rfl rfl 133 _ (heap_alloc_last _ _) (J33 hy) (J2l hy) (J4l hy) ?_; rw [World.setRow_alloc_new])
 have H0 := St3.start (c2 := cy) (c3 := part U 0) m1 m2;go_loopg [10] 64 (fun g i wr => ∃ (k : Nat), k + g = 64 /\ i = .int .i64 k /\ St3 w w1.heap.size w2.heap.size (w2.heap.size + 1) cx cy (part U k) wr)
 case atStart =>
  refine ⟨0, by omega, rfl, ?_⟩;rw [J56] at H0 |-;exact H0
 case round =>
  obtain ⟨k, hkg, rfl, hst⟩ := hrel;clear H0 m1 m2;cases gk with
  | zero =>
   obtain rfl : k = 64 := by omega
   have hg := hst.three;have hm := hst.more;rw [J55] at hg;clear hst;go_wp2_with (refine wpList_load_row rfl 133 (.tmp 9) rfl _ rfl 133 _ (0, 0) _ hg Tryz.underlying133 rfl (J3k _) ?_)
   refine (J9a U hU.out _).mono ?_;rintro e w3 ⟨rfl, m3⟩;go_wp2;go_ret;exact ⟨rfl, hm.trans m3⟩
  | succ g =>
   have hk : k < 64 := by omega
   have hk' : (k : Int) < 64 := by omega
   have hb := hB.out k;obtain ⟨x, ex⟩ : ∃ x, (toU a).testBit k = x := ⟨_, rfl⟩;obtain ⟨y, ey⟩ : ∃ y, (toU b).testBit k = y := ⟨_, rfl⟩;have c1 : wr.cell? ⟨w1.heap.size, k, none⟩ = some (.bool x) := by rw [cell_of_row _ _ _ _ _ _ hst.one, J4j hx k hk, ex]
   have c2 : wr.cell? ⟨w2.heap.size, k, none⟩ = some (.bool y) := by rw [cell_of_row _ _ _ _ _ _ hst.two, J4j hy k hk, ey]
   have c3 : wr.cell? ⟨w2.heap.size + 1, k, none⟩ = some (.bool false) := by rw [cell_of_row _ _ _ _ _ _ hst.three]; unfold part; rw [J31 _ _ hk]; simp
   have f3 : wr.frozen? ⟨w2.heap.size + 1, k, none⟩ = false := frozen_of_row _ _ _ _ _ hst.three;rw [ex, ey] at hb;have Hb : Hid (U.testBit k = (x ^^ y)) := hb;have Hst : Hid (St3 w w1.heap.size w2.heap.size (w2.heap.size + 1) cx cy (part U k) wr) := hst;clear hb ex ey hst;cases x <;> cases y
   all_goals
    go_wp2
    go_region
    go_wp2;go_roundg g
    case measure => omega
    case rel => exact ⟨k + 1, by omega, by first | rfl | simp, (Hst.out.set k _ (J2r _ k _ Hb.out)).drew⟩
theorem J69 (a b : Int) (v : Bool) (ha : decide (a < 0) = !v) (hb : decide (b < 0) = v) (w : World) :
  Calls Tryz.prog 62 #[.int .i64 a, .int .i64 b] w fun e w' => e = .returned (.bool v) /\ w' = w := by
 cases v
 all_goals
  go_enter Tryz.func62, Tryz.ntmps62;go_wp2;go_ret;exact ⟨rfl, rfl⟩
theorem J7o (a b : Int) (v : Bool) (ha : decide (a < 0) = v) (hb : decide (b < 0) = v) (w : World) :
  Calls Tryz.prog 62 #[.int .i64 a, .int .i64 b] w fun e w' => e = .returned (.bool (decide (a < b))) /\ w' = w := by
 cases v
 all_goals
  go_enter Tryz.func62, Tryz.ntmps62;go_wp2;go_ret;exact ⟨rfl, rfl⟩

theorem J2c (a b : Int) (a0 : -9223372036854775808 <= a) (a1 : a <= 9223372036854775807) (b0 : -9223372036854775808 <= b) (b1 : b <= 9223372036854775807) (w : World) :
  Calls Tryz.prog 62 #[.int .i64 a, .int .i64 b] w fun e w' => e = .returned (.bool (decide (toU a < toU b))) /\ w' = w := by
 by_cases ha : a < 0 <;> by_cases hb : b < 0
 ·rw [show decide (toU a < toU b) = decide (a < b) by rw [decide_eq_decide]; unfold toU; omega]
  exact J7o a b true (by simp [ha]) (by simp [hb]) w
 ·rw [show decide (toU a < toU b) = false by rw [decide_eq_false_iff_not]; unfold toU; omega]
  exact J69 a b false (by simp [ha]) (by simp; omega) w
 ·rw [show decide (toU a < toU b) = true by rw [decide_eq_true_iff]; unfold toU; omega]
  exact J69 a b true (by simp; omega) (by simp [hb]) w
 ·rw [show decide (toU a < toU b) = decide (a < b) by rw [decide_eq_decide]; unfold toU; omega]
  exact J7o a b false (by simp; omega) (by simp; omega) w

theorem J9d (u k : Nat) (h : u.testBit k = false) : part u k = part u (k + 1) := by
 unfold part;apply J3s;intro i hi;by_cases e : i = k
 ·subst e; simp [h]
 ·have : (i < k + 1) ↔ (i < k) := by omega
  simp [this]

theorem St3.start2 {w w1 : World} {c1 c3 : Array Value} (m1 : More w w1) :
  St3 w w1.heap.size w1.heap.size (w1.heap.size + 1) c1 c1 c3 ((w1.alloc (.cells c1 133)).alloc (.cells c3 133)) := by
 have s1 : (w1.alloc (.cells c1 133)).heap.size = w1.heap.size + 1 := by simp
 have s4 := m1.size
 have h1 : ((w1.alloc (.cells c1 133)).alloc (.cells c3 133)).heap[w1.heap.size]? = some (.cells c1 133 (0, 0)) := by
  rw [Below.heap_alloc _ _ _ (by omega)]; exact heap_alloc_last _ _
 refine ⟨h1, h1, ?_, (m1.alloc c1 133).alloc c3 133, by omega, by omega, by omega⟩;rw [<- s1]; exact heap_alloc_last _ _

theorem J76 (a s : Int) (U : Nat) (a0 : -9223372036854775808 <= a) (a1 : a <= 9223372036854775807) (s0 : -63 <= s) (s1 : s <= 63)
  (hU : Hid (U < 18446744073709551616)) (hB : Hid (∀ k : Nat, k < 64 -> U.testBit k = (decide (0 <= (k : Int) - s /\ (k : Int) - s < 64) && (toU a).testBit ((k : Int) - s).toNat))) (w : World) :
  Calls Tryz.prog 76 #[.int .i64 a, .int .i64 s] w fun e w' => e = .returned (.int .i64 (wrap64 (U : Int))) /\ More w w' := by
 go_enter Tryz.func76, Tryz.ntmps76;go_wp2_with (fail)
 refine (J1f a a0 a1 _).mono ?_;rintro e w1 ⟨cx, rfl, hx, m1⟩;go_wp2_with (refine wpList_store_row rfl 133 (.tmp 5) (.tmp 9) rfl _ _ rfl rfl 133 _ (heap_alloc_last _ _) (J33 hx) (J2l hx) (J4l hx) ?_; rw [World.setRow_alloc_new])
 have H0 := St3.start2 (c1 := cx) (c3 := part U 0) m1;go_loopg [7] 64 (fun g i wr => ∃ (k : Nat), k + g = 64 /\ i = .int .i64 k /\ St3 w w1.heap.size w1.heap.size (w1.heap.size + 1) cx cx (part U k) wr)
 case atStart =>
  refine ⟨0, by omega, rfl, ?_⟩;rw [J56] at H0 |-;exact H0
 case round =>
  obtain ⟨k, hkg, rfl, hst⟩ := hrel;clear H0 m1;cases gk with
  | zero =>
   obtain rfl : k = 64 := by omega
   have hg := hst.three;have hm := hst.more;rw [J55] at hg;clear hst;go_wp2_with (refine wpList_load_row rfl 133 (.tmp 6) rfl _ rfl 133 _ (0, 0) _ hg Tryz.underlying133 rfl (J3k _) ?_)
   refine (J9a U hU.out _).mono ?_;rintro e w3 ⟨rfl, m3⟩;go_wp2;go_ret;exact ⟨rfl, hm.trans m3⟩
  | succ g =>
   have hk : k < 64 := by omega
   have hk' : (k : Int) < 64 := by omega
   have hb := hB.out k hk;have c3 : wr.cell? ⟨w1.heap.size + 1, k, none⟩ = some (.bool false) := by rw [cell_of_row _ _ _ _ _ _ hst.three]; unfold part; rw [J31 _ _ hk]; simp
   have f3 : wr.frozen? ⟨w1.heap.size + 1, k, none⟩ = false := frozen_of_row _ _ _ _ _ hst.three;have Hst : Hid (St3 w w1.heap.size w1.heap.size (w1.heap.size + 1) cx cx (part U k) wr) := hst;by_cases h1 : 0 <= (k : Int) - s
   ·by_cases h2 : (k : Int) - s < 64
    ·obtain ⟨j, hj⟩ : ∃ j : Nat, (k : Int) - s = (j : Int) := ⟨((k : Int) - s).toNat, by omega⟩
     have hj64 : j < 64 := by omega
     have hjI : (j : Int) < 64 := by omega
     obtain ⟨x, ex⟩ : ∃ x, (toU a).testBit j = x := ⟨_, rfl⟩;have c1 : wr.cell? ⟨w1.heap.size, j, none⟩ = some (.bool x) := by rw [cell_of_row _ _ _ _ _ _ hst.one, J4j hx j hj64, ex]
     rw [hj, Int.toNat_natCast, ex, decide_eq_true (by omega), Bool.true_and] at hb;have Hb : Hid (U.testBit k = x) := hb;clear hb ex hst h1 h2;go_wp2;go_roundg g
     case measure => omega
     case rel => exact ⟨k + 1, by omega, by first | rfl | simp, Hst.out.set k _ (J2r _ k _ Hb.out)⟩
    ·rw [decide_eq_false (by omega), Bool.false_and] at hb
     have Hb : Hid (U.testBit k = false) := hb;clear hb hst;go_wp2;go_roundg g
     case measure => omega
     case rel => exact ⟨k + 1, by omega, by first | rfl | simp, J9d _ k Hb.out ▸ Hst.out⟩
   ·rw [decide_eq_false (by omega), Bool.false_and] at hb
    have Hb : Hid (U.testBit k = false) := hb;clear hb hst;go_wp2;go_roundg g
    case measure => omega
    case rel => exact ⟨k + 1, by omega, by first | rfl | simp, J9d _ k Hb.out ▸ Hst.out⟩
def top (u g : Nat) : Array Value := arr (fun i => decide (g <= i) && u.testBit i)
theorem Jfi (u : Nat) : top u 64 = part u 0 := J3s fun i hi => by
 have : ¬ 64 <= i := by omega
 simp [this]
theorem Jks (u : Nat) : top u 0 = arr (fun i => u.testBit i) := J3s fun i _ => by simp
theorem J63 (u g : Nat) (b : Bool) (h : u.testBit g = b) : (top u (g + 1)).setIfInBounds g (.bool b) = top u g := by
 unfold top;rw [Jde];apply J3s;intro i hi;by_cases e : i = g
 ·subst e; simp [h]
 ·have : (g + 1 <= i) ↔ (g <= i) := by omega
  simp [e, this]
theorem Jc0 (u g : Nat) (h : u.testBit g = false) : top u (g + 1) = top u g := by
 unfold top;apply J3s;intro i hi;by_cases e : i = g
 ·subst e; simp [h]
 ·have : (g + 1 <= i) ↔ (g <= i) := by omega
  simp [this]

theorem Jbz (T x B : Nat) (hB : 0 < B) (hx : x < 2) :
  (2 * T + x) % B = (if B <= 2 * (T % B) + x then 2 * (T % B) + x - B else 2 * (T % B) + x) /\ (2 * T + x) / B % 2 = (if B <= 2 * (T % B) + x then 1 else 0) := by
 have h1 := Nat.div_add_mod T B;have h2 := Nat.mod_lt T hB;generalize T % B = r at *;generalize T / B = q at *
 have e : 2 * T + x = (2 * r + x) + B * (2 * q) := by
  rw [<- h1, Nat.mul_left_comm B 2 q]; omega
 rw [e, Nat.add_mul_mod_self_left, Nat.add_mul_div_left _ _ hB]
 split
 ·rename_i h
  have e2 : 2 * r + x = (2 * r + x - B) + B * 1 := by omega
  constructor
  ·rw [e2, Nat.add_mul_mod_self_left, Nat.mod_eq_of_lt (by omega)]; omega
  ·rw [e2, Nat.add_mul_div_left _ _ hB, Nat.div_eq_of_lt (by omega)]; omega
 ·rename_i h
  constructor
  ·exact Nat.mod_eq_of_lt (by omega)
  ·rw [Nat.div_eq_of_lt (by omega)]; omega

theorem Jb8 (A g : Nat) : A / 2 ^ g = 2 * (A / 2 ^ (g + 1)) + (A.testBit g).toNat := by
 rw [Nat.pow_succ, <- Nat.div_div_eq_div_mul, Nat.testBit_eq_decide_div_mod_eq];generalize A / 2 ^ g = n;rcases Nat.mod_two_eq_zero_or_one n with h | h <;> simp [h] <;> omega

def left (A B g : Nat) : Nat := A / 2 ^ g % B

theorem Jck (A B : Nat) (h : A < 18446744073709551616) : left A B 64 = 0 := by
 unfold left; rw [Nat.div_eq_of_lt (by simpa using h)]; simp
theorem Jgs (A B : Nat) : left A B 0 = A % B := by unfold left; simp
theorem Jjq (A B g : Nat) (hB : 0 < B) : left A B g < B := Nat.mod_lt _ hB
theorem J38 (A B g : Nat) (hB : 0 < B) : left A B g = if B <= 2 * left A B (g + 1) + (A.testBit g).toNat then 2 * left A B (g + 1) + (A.testBit g).toNat - B else 2 * left A B (g + 1) + (A.testBit g).toNat := by
 unfold left;rw [Jb8 A g];exact (Jbz _ _ _ hB (Bool.toNat_lt _)).1
theorem J5j (A B g : Nat) (hB : 0 < B) : (A / B).testBit g = decide (B <= 2 * left A B (g + 1) + (A.testBit g).toNat) := by
 rw [Nat.testBit_eq_decide_div_mod_eq, Nat.div_div_eq_div_mul, Nat.mul_comm, <- Nat.div_div_eq_div_mul, Jb8 A g, (Jbz _ _ _ hB (Bool.toNat_lt _)).2];unfold left;by_cases h : B <= 2 * (A / 2 ^ (g + 1) % B) + (A.testBit g).toNat <;> simp [h]

theorem J64 (r : Nat) (h : r < 18446744073709551616) : wrap64 (r : Int) < 0 ↔ 9223372036854775808 <= r := by unfold wrap64; omega
theorem Jia (r : Nat) : wrap64 (wrap64 (r : Int) + wrap64 (r : Int)) = wrap64 ((2 * r : Nat) : Int) := by unfold wrap64; omega
theorem Ji9 (r : Nat) : wrap64 (wrap64 (r : Int) + 1) = wrap64 ((r + 1 : Nat) : Int) := by unfold wrap64; omega
theorem J5a (n : Nat) (b : Int) (h : toU b <= n) : wrap64 (wrap64 (n : Int) - b) = wrap64 ((n - toU b : Nat) : Int) := by
 have := J59 b;unfold wrap64; omega
theorem Jc3 (n : Nat) (h : n < 18446744073709551616) : toU (wrap64 (n : Int)) = n := by unfold toU wrap64; omega
theorem Jc2 (n : Int) : -9223372036854775808 <= wrap64 n := by unfold wrap64; omega
theorem J9w (n : Int) : wrap64 n <= 9223372036854775807 := by unfold wrap64; omega

theorem J5m (a b : Int) (a0 : -9223372036854775808 <= a) (a1 : a <= 9223372036854775807) (b0 : -9223372036854775808 <= b) (b1 : b <= 9223372036854775807) (hb : Hid (0 < toU b)) (w : World) :
  Calls Tryz.prog 77 #[.int .i64 a, .int .i64 b] w fun e w' => e = .returned (.tuple #[.int .i64 (wrap64 ((toU a / toU b : Nat) : Int)), .int .i64 (wrap64 ((toU a % toU b : Nat) : Int))]) /\ More w w' := by
 obtain ⟨Q, hQ⟩ : ∃ Q, Hid (toU a / toU b = Q) := ⟨_, rfl⟩;obtain ⟨M, hM⟩ : ∃ M, Hid (wrap64 ((toU a % toU b : Nat) : Int) = M) := ⟨_, rfl⟩;rw [hQ.out, hM.out];go_enter Tryz.func77, Tryz.ntmps77;go_wp2_with (fail)
 refine (J1f a a0 a1 _).mono ?_;rintro e w1 ⟨cx, rfl, hx, m1⟩;go_wp2_with (refine wpList_store_row rfl 133 (.tmp 6) (.tmp 12) rfl _ _ rfl rfl 133 _ (heap_alloc_last _ _) (J33 hx) (J2l hx) (J4l hx) ?_; rw [World.setRow_alloc_new])
 have H0 := St3.start2 (c1 := cx) (c3 := part Q 0) m1;go_loopg [8, 9] 64 (fun g r i wr => ∃ (rv : Int), g <= 64 /\ Hid (rv = wrap64 ((left (toU a) (toU b) g : Nat) : Int)) /\ i = .int .i64 ((g : Int) - 1) /\ r = .int .i64 rv /\ St3 w w1.heap.size w1.heap.size (w1.heap.size + 1) cx cx (top Q g) wr)
 case atStart =>
  refine ⟨0, by omega, ?_, rfl, rfl, ?_⟩
  ·show (0 : Int) = _
   rw [Jck _ _ (J3p a)]; unfold wrap64; omega
  ·rw [Jfi]
   rw [J56] at H0 |-;exact H0
 case round =>
  obtain ⟨rv, hg64, hrv, rfl, rfl, hst⟩ := hrel;clear H0 m1;cases gk with
  | zero =>
   have hg := hst.three;have hm := hst.more;rw [Jks] at hg
   have hQl : Hid (Q < 18446744073709551616) := by
    show Q < 18446744073709551616;rw [<- hQ.out]; exact Nat.lt_of_le_of_lt (Nat.div_le_self _ _) (J3p a)
   have hr2 : Hid (rv = M) := by
    show rv = M;rw [hrv.out, Jgs, hM.out]
   clear hst;go_wp2_with (refine wpList_load_row rfl 133 (.tmp 7) rfl _ rfl 133 _ (0, 0) _ hg Tryz.underlying133 rfl (J3k _) ?_)
   refine (J9a Q hQl.out _).mono ?_;rintro e w3 ⟨rfl, m3⟩;go_wp2;go_ret2;exact ⟨by rw [<- hr2.out]; rfl, hm.trans m3⟩
  | succ g =>
   have hk : g < 64 := by omega
   have hk' : (g : Int) < 64 := by omega
   have eg : (((g + 1 : Nat)) : Int) - 1 = (g : Int) := by omega
   rw [eg];have hR := Jjq (toU a) (toU b) (g + 1) hb.out;have hRB := J3p b;obtain ⟨x, ex⟩ : ∃ x, (toU a).testBit g = x := ⟨_, rfl⟩;have c1 : wr.cell? ⟨w1.heap.size, g, none⟩ = some (.bool x) := by rw [cell_of_row _ _ _ _ _ _ hst.one, J4j hx g hk, ex]
   have c3 : wr.cell? ⟨w1.heap.size + 1, g, none⟩ = some (.bool false) := by rw [cell_of_row _ _ _ _ _ _ hst.three]; unfold top; rw [J31 _ _ hk]; simp; omega
   have f3 : wr.frozen? ⟨w1.heap.size + 1, g, none⟩ = false := frozen_of_row _ _ _ _ _ hst.three;have Hst : Hid (St3 w w1.heap.size w1.heap.size (w1.heap.size + 1) cx cx (top Q (g + 1)) wr) := hst;clear hst eg;obtain ⟨r2, h2⟩ : ∃ r, wrap64 (rv + rv) = r := ⟨_, rfl⟩
   have H2 : Hid (r2 = wrap64 ((2 * left (toU a) (toU b) (g + 1) : Nat) : Int)) := by
    show r2 = _;rw [<- h2, hrv.out]; exact Jia _
   have r20 : -9223372036854775808 <= r2 := h2 ▸ Jc2 _;have r21 : r2 <= 9223372036854775807 := h2 ▸ J9w _;cases x with
   | true =>
    have HX : Hid ((toU a).testBit g = true) := ex;clear ex;obtain ⟨r3, h3⟩ : ∃ r, wrap64 (r2 + 1) = r := ⟨_, rfl⟩
    have H3 : Hid (r3 = wrap64 ((2 * left (toU a) (toU b) (g + 1) + 1 : Nat) : Int)) := by
     show r3 = _;rw [<- h3, H2.out]; exact Ji9 _
    have r30 : -9223372036854775808 <= r3 := h3 ▸ Jc2 _;have r31 : r3 <= 9223372036854775807 := h3 ▸ J9w _;by_cases hov : 9223372036854775808 <= left (toU a) (toU b) (g + 1)
    ·have ho : rv < 0 := by rw [hrv.out]; exact (J64 _ (by omega)).2 hov
     ·have Hn : Hid (left (toU a) (toU b) g = 2 * left (toU a) (toU b) (g + 1) + 1 - toU b) := by
       show left (toU a) (toU b) g = _;rw [J38 _ _ _ hb.out, HX.out]; simp only [Bool.toNat_true]; rw [if_pos (by omega)]
      have Hq : Hid (Q.testBit g = true) := by
       show Q.testBit g = _;rw [<- hQ.out, J5j _ _ _ hb.out, HX.out]; simp only [Bool.toNat_true]; simp; omega
      have Hs : Hid (wrap64 (r3 - b) = wrap64 (((2 * left (toU a) (toU b) (g + 1) + 1) - toU b : Nat) : Int)) := by
       show wrap64 (r3 - b) = _;rw [H3.out]; exact J5a _ _ (by omega)
      clear hR hRB;go_wp2_with fail
      go_roundg g
      case measure => omega
      case rel => exact ⟨_, by omega, Hs.out.trans (by rw [Hn.out]), by first | rfl | simp, rfl, Hst.out.set g _ (J63 _ g _ Hq.out)⟩
    ·have ho : ¬ rv < 0 := by rw [hrv.out]; exact fun h => hov ((J64 _ (by omega)).1 h)
     have HT : Hid (toU r3 = 2 * left (toU a) (toU b) (g + 1) + 1) := by
      show toU r3 = _;rw [H3.out]; exact Jc3 _ (by omega)
     by_cases hlt : 2 * left (toU a) (toU b) (g + 1) + 1 < toU b
     ·have hbel : ∀ wx : World, Calls Tryz.prog 62 #[.int .i64 r3, .int .i64 b] wx fun e w' => e = .returned (.bool true) /\ w' = wx := fun wx => by
       have h := J2c r3 b r30 r31 b0 b1 wx;rw [HT.out] at h;have hd : decide (2 * left (toU a) (toU b) (g + 1) + 1 < toU b) = true := by simp; omega
       rw [hd] at h;exact h
      have Hn : Hid (left (toU a) (toU b) g = 2 * left (toU a) (toU b) (g + 1) + 1) := by
       show left (toU a) (toU b) g = _;rw [J38 _ _ _ hb.out, HX.out]; simp only [Bool.toNat_true]; rw [if_neg (by omega)]
      have Hq : Hid (Q.testBit g = false) := by
       show Q.testBit g = _;rw [<- hQ.out, J5j _ _ _ hb.out, HX.out]; simp only [Bool.toNat_true]; simp; omega
      clear hR hRB;go_wp2_with (go_at_call 62; refine (hbel _).mono ?_; rintro e w' ⟨rfl, hw⟩; rw [hw])
      go_roundg g
      case measure => omega
      case rel => exact ⟨_, by omega, H3.out.trans (by rw [Hn.out]), by first | rfl | simp, rfl, Jc0 _ g Hq.out ▸ Hst.out⟩
     ·have hbel : ∀ wx : World, Calls Tryz.prog 62 #[.int .i64 r3, .int .i64 b] wx fun e w' => e = .returned (.bool false) /\ w' = wx := fun wx => by
       have h := J2c r3 b r30 r31 b0 b1 wx;rw [HT.out] at h;have hd : decide (2 * left (toU a) (toU b) (g + 1) + 1 < toU b) = false := by simp; omega
       rw [hd] at h;exact h
      have Hn : Hid (left (toU a) (toU b) g = 2 * left (toU a) (toU b) (g + 1) + 1 - toU b) := by
       show left (toU a) (toU b) g = _;rw [J38 _ _ _ hb.out, HX.out]; simp only [Bool.toNat_true]; rw [if_pos (by omega)]
      have Hq : Hid (Q.testBit g = true) := by
       show Q.testBit g = _;rw [<- hQ.out, J5j _ _ _ hb.out, HX.out]; simp only [Bool.toNat_true]; simp; omega
      have Hs : Hid (wrap64 (r3 - b) = wrap64 (((2 * left (toU a) (toU b) (g + 1) + 1) - toU b : Nat) : Int)) := by
       show wrap64 (r3 - b) = _;rw [H3.out]; exact J5a _ _ (by omega)
      clear hR hRB;go_wp2_with (go_at_call 62; refine (hbel _).mono ?_; rintro e w' ⟨rfl, hw⟩; rw [hw])
      go_roundg g
      case measure => omega
      case rel => exact ⟨_, by omega, Hs.out.trans (by rw [Hn.out]), by first | rfl | simp, rfl, Hst.out.set g _ (J63 _ g _ Hq.out)⟩
   | false =>
    have HX : Hid ((toU a).testBit g = false) := ex;clear ex;have H3 := H2;by_cases hov : 9223372036854775808 <= left (toU a) (toU b) (g + 1)
    ·have ho : rv < 0 := by rw [hrv.out]; exact (J64 _ (by omega)).2 hov
     ·have Hn : Hid (left (toU a) (toU b) g = 2 * left (toU a) (toU b) (g + 1) - toU b) := by
       show left (toU a) (toU b) g = _;rw [J38 _ _ _ hb.out, HX.out]; simp only [Bool.toNat_false, Nat.add_zero]; rw [if_pos (by omega)]
      have Hq : Hid (Q.testBit g = true) := by
       show Q.testBit g = _;rw [<- hQ.out, J5j _ _ _ hb.out, HX.out]; simp only [Bool.toNat_false, Nat.add_zero]; simp; omega
      have Hs : Hid (wrap64 (r2 - b) = wrap64 (((2 * left (toU a) (toU b) (g + 1)) - toU b : Nat) : Int)) := by
       show wrap64 (r2 - b) = _;rw [H3.out]; exact J5a _ _ (by omega)
      clear hR hRB;go_wp2_with fail
      go_roundg g
      case measure => omega
      case rel => exact ⟨_, by omega, Hs.out.trans (by rw [Hn.out]), by first | rfl | simp, rfl, Hst.out.set g _ (J63 _ g _ Hq.out)⟩
    ·have ho : ¬ rv < 0 := by rw [hrv.out]; exact fun h => hov ((J64 _ (by omega)).1 h)
     have HT : Hid (toU r2 = 2 * left (toU a) (toU b) (g + 1)) := by
      show toU r2 = _;rw [H3.out]; exact Jc3 _ (by omega)
     by_cases hlt : 2 * left (toU a) (toU b) (g + 1) < toU b
     ·have hbel : ∀ wx : World, Calls Tryz.prog 62 #[.int .i64 r2, .int .i64 b] wx fun e w' => e = .returned (.bool true) /\ w' = wx := fun wx => by
       have h := J2c r2 b r20 r21 b0 b1 wx;rw [HT.out] at h;have hd : decide (2 * left (toU a) (toU b) (g + 1) < toU b) = true := by simp; omega
       rw [hd] at h;exact h
      have Hn : Hid (left (toU a) (toU b) g = 2 * left (toU a) (toU b) (g + 1)) := by
       show left (toU a) (toU b) g = _;rw [J38 _ _ _ hb.out, HX.out]; simp only [Bool.toNat_false, Nat.add_zero]; rw [if_neg (by omega)]
      have Hq : Hid (Q.testBit g = false) := by
       show Q.testBit g = _;rw [<- hQ.out, J5j _ _ _ hb.out, HX.out]; simp only [Bool.toNat_false, Nat.add_zero]; simp; omega
      clear hR hRB;go_wp2_with (go_at_call 62; refine (hbel _).mono ?_; rintro e w' ⟨rfl, hw⟩; rw [hw])
      go_roundg g
      case measure => omega
      case rel => exact ⟨_, by omega, H3.out.trans (by rw [Hn.out]), by first | rfl | simp, rfl, Jc0 _ g Hq.out ▸ Hst.out⟩
     ·have hbel : ∀ wx : World, Calls Tryz.prog 62 #[.int .i64 r2, .int .i64 b] wx fun e w' => e = .returned (.bool false) /\ w' = wx := fun wx => by
       have h := J2c r2 b r20 r21 b0 b1 wx;rw [HT.out] at h;have hd : decide (2 * left (toU a) (toU b) (g + 1) < toU b) = false := by simp; omega
       rw [hd] at h;exact h
      have Hn : Hid (left (toU a) (toU b) g = 2 * left (toU a) (toU b) (g + 1) - toU b) := by
       show left (toU a) (toU b) g = _;rw [J38 _ _ _ hb.out, HX.out]; simp only [Bool.toNat_false, Nat.add_zero]; rw [if_pos (by omega)]
      have Hq : Hid (Q.testBit g = true) := by
       show Q.testBit g = _;rw [<- hQ.out, J5j _ _ _ hb.out, HX.out]; simp only [Bool.toNat_false, Nat.add_zero]; simp; omega
      have Hs : Hid (wrap64 (r2 - b) = wrap64 (((2 * left (toU a) (toU b) (g + 1)) - toU b : Nat) : Int)) := by
       show wrap64 (r2 - b) = _;rw [H3.out]; exact J5a _ _ (by omega)
      clear hR hRB;go_wp2_with (go_at_call 62; refine (hbel _).mono ?_; rintro e w' ⟨rfl, hw⟩; rw [hw])
      go_roundg g
      case measure => omega
      case rel => exact ⟨_, by omega, Hs.out.trans (by rw [Hn.out]), by first | rfl | simp, rfl, Hst.out.set g _ (J63 _ g _ Hq.out)⟩
theorem ref_1 (a b : Int) (w : World) :
  Calls Tryz.prog 65 #[.int .i64 1, .int .i64 a, .int .i64 b] w fun e w' => e = .returned (.int .i64 (wrap64 (a + b))) /\ More w w' := by
 go_enter Tryz.func65, Tryz.ntmps65;go_wp2;go_ret;exact ⟨rfl, More.refl _⟩

theorem ref_2 (a b : Int) (w : World) :
  Calls Tryz.prog 65 #[.int .i64 2, .int .i64 a, .int .i64 b] w fun e w' => e = .returned (.int .i64 (wrap64 (a - b))) /\ More w w' := by
 go_enter Tryz.func65, Tryz.ntmps65;go_wp2;go_ret;exact ⟨rfl, More.refl _⟩

theorem ref_3 (a b : Int) (w : World) :
  Calls Tryz.prog 65 #[.int .i64 3, .int .i64 a, .int .i64 b] w fun e w' => e = .returned (.int .i64 (wrap64 (a * b))) /\ More w w' := by
 go_enter Tryz.func65, Tryz.ntmps65;go_wp2;go_ret;exact ⟨rfl, More.refl _⟩

theorem ref_4 (a b : Int) (a0 : -9223372036854775808 <= a) (a1 : a <= 9223372036854775807) (b0 : -9223372036854775808 <= b) (b1 : b <= 9223372036854775807) (w : World) :
  Calls Tryz.prog 65 #[.int .i64 4, .int .i64 a, .int .i64 b] w fun e w' => e = .returned (.int .i64 (wrap64 ((toU a &&& toU b : Nat) : Int))) /\ More w w' := by
 obtain ⟨U, hU⟩ : ∃ U, toU a &&& toU b = U := ⟨_, rfl⟩;have c := J9y a b U a0 a1 b0 b1 (by show U < _; rw [<- hU]; exact Nat.lt_of_le_of_lt Nat.and_le_left (J3p a)) (by show ∀ k, _; intro k; rw [<- hU]; exact Nat.testBit_and _ _ _) w;rw [hU];clear hU;go_enter Tryz.func65, Tryz.ntmps65;go_wp2_with (fail)
 refine c.mono ?_;rintro e w1 ⟨rfl, m1⟩;go_wp2;go_ret;exact ⟨rfl, m1⟩

theorem ref_5 (a b : Int) (a0 : -9223372036854775808 <= a) (a1 : a <= 9223372036854775807) (b0 : -9223372036854775808 <= b) (b1 : b <= 9223372036854775807) (w : World) :
  Calls Tryz.prog 65 #[.int .i64 5, .int .i64 a, .int .i64 b] w fun e w' => e = .returned (.int .i64 (wrap64 ((toU a ||| toU b : Nat) : Int))) /\ More w w' := by
 obtain ⟨U, hU⟩ : ∃ U, toU a ||| toU b = U := ⟨_, rfl⟩;have c := Jc8 a b U a0 a1 b0 b1 (by show U < _; rw [<- hU]; exact Nat.or_lt_two_pow (n := 64) (J3p a) (J3p b)) (by show ∀ k, _; intro k; rw [<- hU]; exact Nat.testBit_or _ _ _) w;rw [hU];clear hU;go_enter Tryz.func65, Tryz.ntmps65;go_wp2_with (fail)
 refine c.mono ?_;rintro e w1 ⟨rfl, m1⟩;go_wp2;go_ret;exact ⟨rfl, m1⟩

theorem ref_6 (a b : Int) (a0 : -9223372036854775808 <= a) (a1 : a <= 9223372036854775807) (b0 : -9223372036854775808 <= b) (b1 : b <= 9223372036854775807) (w : World) :
  Calls Tryz.prog 65 #[.int .i64 6, .int .i64 a, .int .i64 b] w fun e w' => e = .returned (.int .i64 (wrap64 ((toU a ^^^ toU b : Nat) : Int))) /\ More w w' := by
 obtain ⟨U, hU⟩ : ∃ U, toU a ^^^ toU b = U := ⟨_, rfl⟩;have c := J9z a b U a0 a1 b0 b1 (by show U < _; rw [<- hU]; exact Nat.xor_lt_two_pow (n := 64) (J3p a) (J3p b)) (by show ∀ k, _; intro k; rw [<- hU]; exact Nat.testBit_xor _ _ _) w;rw [hU];clear hU;go_enter Tryz.func65, Tryz.ntmps65;go_wp2_with (fail)
 refine c.mono ?_;rintro e w1 ⟨rfl, m1⟩;go_wp2;go_ret;exact ⟨rfl, m1⟩

theorem Jeq (op a b : Int) (w : World) (h : op < 1 \/ 10 < op) :
  Calls Tryz.prog 65 #[.int .i64 op, .int .i64 a, .int .i64 b] w fun e w' => e = .returned (.int .i64 0) /\ More w w' := by
 have e1 : (op == 1) = false := by simp; omega
 have e2 : (op == 2) = false := by simp; omega
 have e3 : (op == 3) = false := by simp; omega
 have e4 : (op == 4) = false := by simp; omega
 have e5 : (op == 5) = false := by simp; omega
 have e6 : (op == 6) = false := by simp; omega
 have e7 : (op == 7) = false := by simp; omega
 have e8 : (op == 8) = false := by simp; omega
 have e9 : (op == 9) = false := by simp; omega
 have e10 : (op == 10) = false := by simp; omega
 clear h;go_enter Tryz.func65, Tryz.ntmps65;go_wp2;go_ret;exact ⟨rfl, More.refl _⟩

theorem Jcw (a : Int) (w : World) :
  Calls Tryz.prog 65 #[.int .i64 9, .int .i64 a, .int .i64 0] w fun e w' => e = .returned (.int .i64 0) /\ More w w' := by
 go_enter Tryz.func65, Tryz.ntmps65;go_wp2;go_ret;exact ⟨rfl, More.refl _⟩

theorem Jcv (a b : Int) (a0 : -9223372036854775808 <= a) (a1 : a <= 9223372036854775807) (b0 : -9223372036854775808 <= b) (b1 : b <= 9223372036854775807) (hb : (b == 0) = false) (w : World) :
  Calls Tryz.prog 65 #[.int .i64 9, .int .i64 a, .int .i64 b] w fun e w' => e = .returned (.int .i64 (wrap64 ((toU a / toU b : Nat) : Int))) /\ More w w' := by
 have hB : Hid (0 < toU b) := by
  show 0 < toU b;have : b ≠ 0 := by simpa using hb
  unfold toU; omega
 have c := J5m a b a0 a1 b0 b1 hB w;obtain ⟨q, hq⟩ : ∃ q, wrap64 ((toU a / toU b : Nat) : Int) = q := ⟨_, rfl⟩;obtain ⟨r, hr⟩ : ∃ r, wrap64 ((toU a % toU b : Nat) : Int) = r := ⟨_, rfl⟩;rw [hq, hr] at c;rw [hq];clear hq hr;go_enter Tryz.func65, Tryz.ntmps65;go_wp2_with (fail)
 refine c.mono ?_;rintro e w1 ⟨rfl, m1⟩;go_wp2;go_ret;exact ⟨rfl, m1⟩

theorem Jap (a : Int) (w : World) :
  Calls Tryz.prog 65 #[.int .i64 10, .int .i64 a, .int .i64 0] w fun e w' => e = .returned (.int .i64 a) /\ More w w' := by
 go_enter Tryz.func65, Tryz.ntmps65;go_wp2;go_ret;exact ⟨rfl, More.refl _⟩

theorem Jao (a b : Int) (a0 : -9223372036854775808 <= a) (a1 : a <= 9223372036854775807) (b0 : -9223372036854775808 <= b) (b1 : b <= 9223372036854775807) (hb : (b == 0) = false) (w : World) :
  Calls Tryz.prog 65 #[.int .i64 10, .int .i64 a, .int .i64 b] w fun e w' => e = .returned (.int .i64 (wrap64 ((toU a % toU b : Nat) : Int))) /\ More w w' := by
 have hB : Hid (0 < toU b) := by
  show 0 < toU b;have : b ≠ 0 := by simpa using hb
  unfold toU; omega
 have c := J5m a b a0 a1 b0 b1 hB w;obtain ⟨q, hq⟩ : ∃ q, wrap64 ((toU a / toU b : Nat) : Int) = q := ⟨_, rfl⟩;obtain ⟨r, hr⟩ : ∃ r, wrap64 ((toU a % toU b : Nat) : Int) = r := ⟨_, rfl⟩;rw [hq, hr] at c;rw [hr];clear hq hr;go_enter Tryz.func65, Tryz.ntmps65;go_wp2_with (fail)
 refine c.mono ?_;rintro e w1 ⟨rfl, m1⟩;go_wp2;go_ret;exact ⟨rfl, m1⟩

theorem ref_7 (a b : Int) (R : Int) (b0 : -9223372036854775808 <= b) (b1 : b <= 9223372036854775807)
  (hR : Hid (∀ w : World, Calls Tryz.prog 76 #[.int .i64 a, .int .i64 (((toU b % 64 : Nat) : Int))] w fun e w' => e = .returned (.int .i64 R) /\ More w w')) (w : World) :
  Calls Tryz.prog 65 #[.int .i64 7, .int .i64 a, .int .i64 b] w fun e w' => e = .returned (.int .i64 R) /\ More w w' := by
 go_enter Tryz.func65, Tryz.ntmps65;go_wp2_with (fail)
 refine (J1f b b0 b1 _).mono ?_;rintro e w1 ⟨cy, rfl, hy, m1⟩;go_wp2_with (refine wpList_store_row rfl 133 (.tmp 7) (.tmp 41) rfl _ _ rfl rfl 133 _ (heap_alloc_last _ _) (J33 hy) (J2l hy) (J4l hy) ?_; rw [World.setRow_alloc_new])
 have H0 := (m1.alloc cy 133);have hsz := (J2l hy).symm;go_loopg [8, 9, 10] 6 (fun g sv pv i wr => ∃ (k : Nat) (s p : Int), k + g = 6 /\ Hid (s = ((toU b % 2 ^ k : Nat) : Int)) /\ Hid (p = ((2 ^ k : Nat) : Int)) /\ 0 <= s /\ s < 64 /\ 0 <= p /\ p <= 64 /\ sv = .int .i64 s /\ pv = .int .i64 p /\ i = .int .i64 k /\ wr = w1.alloc (.cells cy 133))
 case atStart => exact ⟨0, 0, 1, by omega, by show (0 : Int) = _; simp [Nat.mod_one], rfl, by omega, by omega, by omega, by omega, rfl, rfl, rfl, rfl⟩
 case round =>
  obtain ⟨k, s, p, hkg, hs, hp, s0, s1, p0, p1, rfl, rfl, rfl, rfl⟩ := hrel;cases gk with
  | zero =>
   obtain rfl : k = 6 := by omega
   have c := hR.out (w1.alloc (.cells cy 133));rw [show ((toU b % 64 : Nat) : Int) = s from hs.out.symm] at c;go_wp2_with (fail)
   refine c.mono ?_;rintro e w2 ⟨rfl, m2⟩;go_wp2;go_ret;exact ⟨rfl, H0.trans m2⟩
  | succ g =>
   have hk : k < 6 := by omega
   have hk64 : k < 64 := by omega
   have hk' : (k : Int) < 64 := by omega
   have hk6 : (k : Int) < 6 := by omega
   obtain ⟨x, ex⟩ : ∃ x, (toU b).testBit k = x := ⟨_, rfl⟩;have hcs : cy[k]'(by omega) = .bool x := by have h := J4j hy k (by omega); rw [ex] at h; exact (Array.getElem?_eq_some_iff.1 h).2
   have hpw : Hid (p + p = ((2 ^ (k + 1) : Nat) : Int)) := by show p + p = _; rw [hp.out, Nat.pow_succ]; omega
   have hpb : p <= 32 := by
    rw [hp.out];have : 2 ^ k <= 2 ^ 5 := Nat.pow_le_pow_right (by omega) (by omega);omega
   have hmod : toU b % 2 ^ (k + 1) = toU b % 2 ^ k + 2 ^ k * (toU b / 2 ^ k % 2) := Nat.mod_pow_succ;have htb := Nat.testBit_eq_decide_div_mod_eq (x := toU b) (i := k);rw [ex] at htb;cases x with
   | true =>
    have h1 : toU b / 2 ^ k % 2 = 1 := by simpa using htb.symm
    have hsn : Hid (s + p = ((toU b % 2 ^ (k + 1) : Nat) : Int)) := by
     show s + p = _;rw [hmod, h1, hs.out, hp.out]; push_cast; omega
    have hsb : s + p < 64 := by
     rw [hsn.out];have h2 : toU b % 2 ^ (k + 1) < 2 ^ (k + 1) := Nat.mod_lt _ (Nat.pow_pos (by decide));have h3 : 2 ^ (k + 1) <= 2 ^ 6 := Nat.pow_le_pow_right (by omega) (by omega);omega
    clear hmod htb h1 ex;go_wp2;go_roundg g
    case measure => omega
    case rel => exact ⟨k + 1, s + p, p + p, by omega, hsn, hpw, by omega, by omega, by omega, by omega, rfl, rfl, by first | rfl | simp, rfl⟩
   | false =>
    have h1 : toU b / 2 ^ k % 2 = 0 := by
     have h2 : ¬ toU b / 2 ^ k % 2 = 1 := by simpa using htb.symm
     omega
    have hsn : Hid (s = ((toU b % 2 ^ (k + 1) : Nat) : Int)) := by
     show s = _;rw [hmod, h1, hs.out]; simp
    clear hmod htb h1 ex;go_wp2;go_roundg g
    case measure => omega
    case rel => exact ⟨k + 1, s, p + p, by omega, hsn, hpw, by omega, by omega, by omega, by omega, rfl, rfl, by first | rfl | simp, rfl⟩

theorem ref_8 (a b : Int) (R : Int) (b0 : -9223372036854775808 <= b) (b1 : b <= 9223372036854775807)
  (hR : Hid (∀ w : World, Calls Tryz.prog 76 #[.int .i64 a, .int .i64 (-((toU b % 64 : Nat) : Int))] w fun e w' => e = .returned (.int .i64 R) /\ More w w')) (w : World) :
  Calls Tryz.prog 65 #[.int .i64 8, .int .i64 a, .int .i64 b] w fun e w' => e = .returned (.int .i64 R) /\ More w w' := by
 go_enter Tryz.func65, Tryz.ntmps65;go_wp2_with (fail)
 refine (J1f b b0 b1 _).mono ?_;rintro e w1 ⟨cy, rfl, hy, m1⟩;go_wp2_with (refine wpList_store_row rfl 133 (.tmp 7) (.tmp 41) rfl _ _ rfl rfl 133 _ (heap_alloc_last _ _) (J33 hy) (J2l hy) (J4l hy) ?_; rw [World.setRow_alloc_new])
 have H0 := (m1.alloc cy 133);have hsz := (J2l hy).symm;go_loopg [8, 9, 10] 6 (fun g sv pv i wr => ∃ (k : Nat) (s p : Int), k + g = 6 /\ Hid (s = ((toU b % 2 ^ k : Nat) : Int)) /\ Hid (p = ((2 ^ k : Nat) : Int)) /\ 0 <= s /\ s < 64 /\ 0 <= p /\ p <= 64 /\ sv = .int .i64 s /\ pv = .int .i64 p /\ i = .int .i64 k /\ wr = w1.alloc (.cells cy 133))
 case atStart => exact ⟨0, 0, 1, by omega, by show (0 : Int) = _; simp [Nat.mod_one], rfl, by omega, by omega, by omega, by omega, rfl, rfl, rfl, rfl⟩
 case round =>
  obtain ⟨k, s, p, hkg, hs, hp, s0, s1, p0, p1, rfl, rfl, rfl, rfl⟩ := hrel;cases gk with
  | zero =>
   obtain rfl : k = 6 := by omega
   have c := hR.out (w1.alloc (.cells cy 133));rw [show ((toU b % 64 : Nat) : Int) = s from hs.out.symm] at c;go_wp2_with (fail)
   refine c.mono ?_;rintro e w2 ⟨rfl, m2⟩;go_wp2;go_ret;exact ⟨rfl, H0.trans m2⟩
  | succ g =>
   have hk : k < 6 := by omega
   have hk64 : k < 64 := by omega
   have hk' : (k : Int) < 64 := by omega
   have hk6 : (k : Int) < 6 := by omega
   obtain ⟨x, ex⟩ : ∃ x, (toU b).testBit k = x := ⟨_, rfl⟩;have hcs : cy[k]'(by omega) = .bool x := by have h := J4j hy k (by omega); rw [ex] at h; exact (Array.getElem?_eq_some_iff.1 h).2
   have hpw : Hid (p + p = ((2 ^ (k + 1) : Nat) : Int)) := by show p + p = _; rw [hp.out, Nat.pow_succ]; omega
   have hpb : p <= 32 := by
    rw [hp.out];have : 2 ^ k <= 2 ^ 5 := Nat.pow_le_pow_right (by omega) (by omega);omega
   have hmod : toU b % 2 ^ (k + 1) = toU b % 2 ^ k + 2 ^ k * (toU b / 2 ^ k % 2) := Nat.mod_pow_succ;have htb := Nat.testBit_eq_decide_div_mod_eq (x := toU b) (i := k);rw [ex] at htb;cases x with
   | true =>
    have h1 : toU b / 2 ^ k % 2 = 1 := by simpa using htb.symm
    have hsn : Hid (s + p = ((toU b % 2 ^ (k + 1) : Nat) : Int)) := by
     show s + p = _;rw [hmod, h1, hs.out, hp.out]; push_cast; omega
    have hsb : s + p < 64 := by
     rw [hsn.out];have h2 : toU b % 2 ^ (k + 1) < 2 ^ (k + 1) := Nat.mod_lt _ (Nat.pow_pos (by decide));have h3 : 2 ^ (k + 1) <= 2 ^ 6 := Nat.pow_le_pow_right (by omega) (by omega);omega
    clear hmod htb h1 ex;go_wp2;go_roundg g
    case measure => omega
    case rel => exact ⟨k + 1, s + p, p + p, by omega, hsn, hpw, by omega, by omega, by omega, by omega, rfl, rfl, by first | rfl | simp, rfl⟩
   | false =>
    have h1 : toU b / 2 ^ k % 2 = 0 := by
     have h2 : ¬ toU b / 2 ^ k % 2 = 1 := by simpa using htb.symm
     omega
    have hsn : Hid (s = ((toU b % 2 ^ (k + 1) : Nat) : Int)) := by
     show s = _;rw [hmod, h1, hs.out]; simp
    clear hmod htb h1 ex;go_wp2;go_roundg g
    case measure => omega
    case rel => exact ⟨k + 1, s, p + p, by omega, hsn, hpw, by omega, by omega, by omega, by omega, rfl, rfl, by first | rfl | simp, rfl⟩

theorem Jib (n : Nat) : wrap64 ((n % 18446744073709551616 : Nat) : Int) = wrap64 (n : Int) := by unfold wrap64; omega
theorem Jfn (a : Int) (a0 : -9223372036854775808 <= a) (a1 : a <= 9223372036854775807) : wrap64 ((toU a : Nat) : Int) = a := by rw [J59]; unfold wrap64; omega
theorem Jic : wrap64 ((0 : Nat) : Int) = 0 := by unfold wrap64; omega

theorem Ji7 (a b : Int) (a0 : -9223372036854775808 <= a) (a1 : a <= 9223372036854775807) (w : World) :
  Calls Tryz.prog 76 #[.int .i64 a, .int .i64 (((toU b % 64 : Nat)) : Int)] w fun e w' => e = .returned (.int .i64 (wrap64 ((toU a * 2 ^ (toU b % 64) : Nat) : Int))) /\ More w w' := by
 have hs : toU b % 64 < 64 := Nat.mod_lt _ (by decide);generalize toU b % 64 = s at *;rw [<- Jib];refine J76 a (s : Int) _ a0 a1 (by omega) (by omega) (Nat.mod_lt _ (by decide)) ?_ w;show ∀ k, _;intro k hk;have e : (18446744073709551616 : Nat) = 2 ^ 64 := by decide
 rw [e, Nat.testBit_mod_two_pow, Nat.testBit_mul_two_pow];by_cases h : s <= k
 ·have h1 : ((k : Int) - (s : Int)).toNat = k - s := by omega
  have h2 : (0 <= (k : Int) - (s : Int) /\ (k : Int) - (s : Int) < 64) := by omega
  rw [h1]; simp [hk, h, h2]
 ·have h2 : ¬ (0 <= (k : Int) - (s : Int) /\ (k : Int) - (s : Int) < 64) := by omega
  simp only [h, h2]; simp

theorem Jd6 (a b : Int) (a0 : -9223372036854775808 <= a) (a1 : a <= 9223372036854775807) (w : World) :
  Calls Tryz.prog 76 #[.int .i64 a, .int .i64 (-(((toU b % 64 : Nat)) : Int))] w fun e w' => e = .returned (.int .i64 (wrap64 ((toU a / 2 ^ (toU b % 64) : Nat) : Int))) /\ More w w' := by
 have hs : toU b % 64 < 64 := Nat.mod_lt _ (by decide);generalize toU b % 64 = s at *;refine J76 a (-(s : Int)) _ a0 a1 (by omega) (by omega) (Nat.lt_of_le_of_lt (Nat.div_le_self _ _) (J3p a)) ?_ w;show ∀ k, _;intro k hk;have h1 : ((k : Int) - -(s : Int)).toNat = k + s := by omega
 rw [Nat.testBit_div_two_pow, h1];by_cases h : k + s < 64
 ·rw [decide_eq_true (by omega), Bool.true_and]
 ·have h2 : ¬ (0 <= (k : Int) - -(s : Int) /\ (k : Int) - -(s : Int) < 64) := by omega
  have h3 : (toU a).testBit (k + s) = false := Nat.testBit_lt_two_pow (Nat.lt_of_lt_of_le (J3p a) (by
   have : 2 ^ 64 <= 2 ^ (k + s) := Nat.pow_le_pow_right (by decide) (by omega);omega))
  rw [h3]; simp

theorem Jep (op a b : Int) (a0 : -9223372036854775808 <= a) (a1 : a <= 9223372036854775807) (b0 : -9223372036854775808 <= b) (b1 : b <= 9223372036854775807) (w : World) :
  Calls Tryz.prog 65 #[.int .i64 op, .int .i64 a, .int .i64 b] w fun e w' => e = .returned (.int .i64 (opI op a b)) /\ More w w' := by
 by_cases h : op < 1 \/ 10 < op
 ·rw [show opI op a b = 0 by unfold opI; rw [if_neg (by omega), if_neg (by omega), if_neg (by omega), if_neg (by omega), if_neg (by omega), if_neg (by omega), if_neg (by omega), if_neg (by omega), if_neg (by omega), if_neg (by omega)]]
  exact Jeq op a b w h
 have hs : op = 1 \/ op = 2 \/ op = 3 \/ op = 4 \/ op = 5 \/ op = 6 \/ op = 7 \/ op = 8 \/ op = 9 \/ op = 10 := by omega
 rcases hs with rfl | rfl | rfl | rfl | rfl | rfl | rfl | rfl | rfl | rfl
 ·rw [opI_1]; exact ref_1 a b w
 ·rw [opI_2]; exact ref_2 a b w
 ·rw [opI_3]; exact ref_3 a b w
 ·rw [opI_4]; exact ref_4 a b a0 a1 b0 b1 w
 ·rw [opI_5]; exact ref_5 a b a0 a1 b0 b1 w
 ·rw [opI_6]; exact ref_6 a b a0 a1 b0 b1 w
 ·rw [opI_7]; exact ref_7 a b _ b0 b1 (fun w => Ji7 a b a0 a1 w) w
 ·rw [opI_8]; exact ref_8 a b _ b0 b1 (fun w => Jd6 a b a0 a1 w) w
 ·by_cases hb : b = 0
  ·subst hb
   rw [opI_9, show toU 0 = 0 by unfold toU; omega, Nat.div_zero, Jic];exact Jcw a w
  ·rw [opI_9]; exact Jcv a b a0 a1 b0 b1 (by simp [hb]) w
 ·by_cases hb : b = 0
  ·subst hb
   rw [Jir, show toU 0 = 0 by unfold toU; omega, Nat.mod_zero, Jfn a a0 a1];exact Jap a w
  ·rw [Jir]; exact Jao a b a0 a1 b0 b1 (by simp [hb]) w

theorem rh_1 (a b : Int) (w : World) :
  Calls Tryz.prog 44 #[.int .i64 1, .int .i64 a, .int .i64 b] w fun e w' => e = .returned (.bool (a == b)) /\ More w w' := by
 go_enter Tryz.func44, Tryz.ntmps44;go_wp2;go_ret;exact ⟨rfl, More.refl _⟩
theorem rh_2 (a b : Int) (w : World) :
  Calls Tryz.prog 44 #[.int .i64 2, .int .i64 a, .int .i64 b] w fun e w' => e = .returned (.bool (a != b)) /\ More w w' := by
 go_enter Tryz.func44, Tryz.ntmps44;go_wp2;go_ret;exact ⟨rfl, More.refl _⟩
theorem rh_3 (a b : Int) (v : Bool) (hv : ∀ w : World, Calls Tryz.prog 62 #[.int .i64 a, .int .i64 b] w fun e w' => e = .returned (.bool v) /\ w' = w) (w : World) :
  Calls Tryz.prog 44 #[.int .i64 3, .int .i64 a, .int .i64 b] w fun e w' => e = .returned (.bool v) /\ More w w' := by
 go_enter Tryz.func44, Tryz.ntmps44;go_wp2_with (fail)
 refine (hv w).mono ?_;rintro e w' ⟨rfl, hw⟩;rw [hw];go_wp2;go_ret;exact ⟨rfl, More.refl _⟩
theorem rh_4 (a b : Int) (v : Bool) (hv : ∀ w : World, Calls Tryz.prog 62 #[.int .i64 a, .int .i64 b] w fun e w' => e = .returned (.bool v) /\ w' = w) (w : World) :
  Calls Tryz.prog 44 #[.int .i64 4, .int .i64 a, .int .i64 b] w fun e w' => e = .returned (.bool !v) /\ More w w' := by
 go_enter Tryz.func44, Tryz.ntmps44;go_wp2_with (fail)
 refine (hv w).mono ?_;rintro e w' ⟨rfl, hw⟩;rw [hw];go_wp2;go_ret;exact ⟨rfl, More.refl _⟩
theorem Jhr (c a b : Int) (w : World) (h1 : (c == 1) = false) (h2 : (c == 2) = false) (h3 : (c == 3) = false) (h4 : (c == 4) = false) :
  Calls Tryz.prog 44 #[.int .i64 c, .int .i64 a, .int .i64 b] w fun e w' => e = .returned (.bool false) /\ More w w' := by
 go_enter Tryz.func44, Tryz.ntmps44;go_wp2;go_ret;exact ⟨rfl, More.refl _⟩

theorem ref_holds (c a b : Int) (a0 : -9223372036854775808 <= a) (a1 : a <= 9223372036854775807) (b0 : -9223372036854775808 <= b) (b1 : b <= 9223372036854775807) (w : World) :
  Calls Tryz.prog 44 #[.int .i64 c, .int .i64 a, .int .i64 b] w fun e w' => e = .returned (.bool (J1x c a b)) /\ More w w' := by
 by_cases h1 : c = 1
 ·subst h1
  rw [show J1x 1 a b = (a == b) by simp only [J1x]; rw [Bool.eq_iff_iff]; simp; unfold toU; omega];exact rh_1 a b w
 by_cases h2 : c = 2
 ·subst h2
  rw [show J1x 2 a b = (a != b) by simp only [J1x]; rw [Bool.eq_iff_iff]; simp; unfold toU; omega];exact rh_2 a b w
 by_cases h3 : c = 3
 ·subst h3
  rw [show J1x 3 a b = decide (toU a < toU b) by simp [J1x]];exact rh_3 a b _ (fun w => J2c a b a0 a1 b0 b1 w) w
 by_cases h4 : c = 4
 ·subst h4
  rw [show J1x 4 a b = !decide (toU a < toU b) by simp [J1x]; rw [Bool.eq_iff_iff]; simp];exact rh_4 a b _ (fun w => J2c a b a0 a1 b0 b1 w) w
 rw [show J1x c a b = false by simp [J1x, *]];exact Jhr c a b w (by simp [h1]) (by simp [h2]) (by simp [h3]) (by simp [h4])
theorem J43 (op a b c n : Int) (w : World) :
  Calls Tryz.prog 43 #[.agg #[.int .i64 op, .int .i64 a, .int .i64 b, .int .i64 c, .int .i64 n]] w fun e w' => e = .returned (.int .i64 (putI ⟨op, a, b, c, n⟩)) /\ More w w' := by
 by_cases h3 : op = 3
 ·subst h3
  go_enter Tryz.func43, Tryz.ntmps43;go_wp2;go_ret;exact ⟨by simp [putI], (More.refl _).alloc _ _⟩
 by_cases h5 : op = 5
 ·subst h5
  go_enter Tryz.func43, Tryz.ntmps43;go_wp2;go_ret;exact ⟨by simp [putI], (More.refl _).alloc _ _⟩
 by_cases h4 : op = 4
 ·subst h4
  go_enter Tryz.func43, Tryz.ntmps43;go_wp2;go_ret;exact ⟨by simp [putI], (More.refl _).alloc _ _⟩
 by_cases h6 : op = 6
 ·subst h6
  go_enter Tryz.func43, Tryz.ntmps43;go_wp2;go_ret;exact ⟨by simp [putI], (More.refl _).alloc _ _⟩
 obtain ⟨P, hP⟩ : ∃ P, putI ⟨op, a, b, c, n⟩ = P := ⟨_, rfl⟩;have HP : Hid (P = -1) := (show P = -1 by rw [<- hP]; unfold putI; dsimp only; rw [if_neg (by omega), if_neg (by omega)]);rw [hP, HP.out];clear hP HP;go_enter Tryz.func43, Tryz.ntmps43;go_wp2;go_ret;exact ⟨rfl, (More.refl _).alloc _ _⟩

theorem Jaq (op a b c n : Int) (sv : Value) (h : op = 5 \/ op = 6) (w : World) :
  Calls Tryz.prog 64 #[sv, .agg #[.int .i64 op, .int .i64 a, .int .i64 b, .int .i64 c, .int .i64 n]] w fun e w' => e = .returned (.int .i64 n) /\ More w w' := by
 rcases h with rfl | rfl
 all_goals
  go_enter Tryz.func64, Tryz.ntmps64;go_wp2;go_ret;exact ⟨rfl, (More.refl _).alloc _ _⟩

theorem Jar (op a b c n : Int) (g : Nat) {gc : Nat} (x : Int) (h5 : ¬ op = 5) (h6 : ¬ op = 6) (hb : 0 <= b) (hb' : b < 10) (w : World) (hx : w.cell? ⟨g, b.toNat, none⟩ = some (.int .i64 x)) :
  Calls Tryz.prog 64 #[.slice (some ⟨g, 0, none⟩) 10 gc, .agg #[.int .i64 op, .int .i64 a, .int .i64 b, .int .i64 c, .int .i64 n]] w fun e w' => e = .returned (.int .i64 (wrap64 (x + n))) /\ More w w' := by
 obtain ⟨W, HW⟩ : ∃ W : World, Hid (W = w.alloc (.cells #[.int .i64 op, .int .i64 a, .int .i64 b, .int .i64 c, .int .i64 n] 53)) := ⟨_, rfl⟩;have Hw : Hid (More w W) := HW.out ▸ (More.refl _).alloc _ _;obtain ⟨S, HS⟩ : ∃ S : World -> Prop, Hid (∀ w', S w' ↔ More W w') := ⟨fun w' => More W w', fun _ => Iff.rfl⟩;have k0 : ∀ i : { w' // S w' }, i.val.cell? ⟨g, b.toNat, none⟩ = some (.int .i64 x) := fun i => ((HS.out _).1 i.property).cell (Hw.out.cell hx)
 have k2 : ∀ i : { w' // S w' }, i.val.cell? ⟨w.heap.size, 2, none⟩ = some (.int .i64 b) := fun i => ((HS.out _).1 i.property).cell (by rw [HW.out]; go_simp)
 have k4 : ∀ i : { w' // S w' }, i.val.cell? ⟨w.heap.size, 4, none⟩ = some (.int .i64 n) := fun i => ((HS.out _).1 i.property).cell (by rw [HW.out]; go_simp)
 have hne : Nonempty { w' // S w' } := ⟨⟨W, (HS.out _).2 (More.refl _)⟩⟩;have hwr := J2b;have t5 : (op == 5) = false := by simp [h5]
 have t6 : (op == 6) = false := by simp [h6]
 clear hx h5 h6;go_enter Tryz.func64, Tryz.ntmps64;go_wp2_with (fail)
 refine J01 (S := S) [(0, true), (1, true), (2, true), (3, true), (4, true), (5, true), (6, true), (7, true), (8, true)] (by kernel_rfl) (by kernel_rfl) (by kernel_rfl) ((HS.out _).2 (by rw [HW.out]; exact (More.refl _).drew)) ?_
 iterate 9 (refine J00 rfl (by kernel_rfl) (fun K hK => ?_); go_simp; refine hK _ _ ?_; clear hK K)
 refine J04 ?_;clear k0 k2 k4 hne;go_wp2;go_ret;exact ⟨rfl, ((More.refl _).alloc _ _).drew⟩

theorem Jbt (ra : Option Addr) (rl rc : Nat) (ca : Option Addr) (cl cc : Nat) (c : Int) (rb ro : Nat) (log : Nat -> Int) (sec : Nat -> Bool) (w : World) (h0 : 0 <= c) (h1 : c < (rl : Int))
  (hra : 0 < rl -> ra = some ⟨rb, ro, none⟩) (hr : RegsAt w rb ro rl log sec) (hok : J0g rl log) :
  Calls Tryz.prog 26 #[.agg #[.slice ra rl rc, .slice ca cl cc], .int .i64 c] w fun e w' => e = .returned (.int .i64 (baseI log c.toNat)) /\ More w w' := by
 obtain ⟨k0, rfl⟩ : ∃ k : Nat, c = k := ⟨c.toNat, by omega⟩;have Hr : Hid (RegsAt w rb ro rl log sec /\ J0g rl log) := ⟨hr, hok⟩;obtain rfl := hra (by omega);have hk0 : k0 < rl := by omega
 have h6 : rl <= 6 := hok.1;obtain ⟨R, HR⟩ : ∃ R, Hid (baseI log k0 = R) := ⟨_, rfl⟩;rw [show ((k0 : Int)).toNat = k0 by omega, HR.out];clear hra hr hok h0 h1;go_enter Tryz.func26, Tryz.ntmps26;go_wp2;go_loopg [5, 6] k0 (fun g nv i wr => ∃ (k : Nat) (m : Int), k + g = k0 /\ m = baseI log k /\ (0 <= m /\ m <= 64 * k) /\ nv = .int .i64 m /\ i = .int .i64 k /\ More (w.alloc (.cells #[.slice (some ⟨rb, ro, none⟩) rl rc, .slice ca cl cc] 25)) wr)
 case atStart => exact ⟨0, 0, by omega, rfl, by omega, rfl, rfl, More.refl _⟩
 case round =>
  obtain ⟨k, m, hkg, hm, ⟨b0, b1⟩, rfl, rfl, mm⟩ := hrel;have e0 : wr.cell? ⟨w.heap.size, 0, none⟩ = some (.slice (some ⟨rb, ro, none⟩) rl rc) := mm.cell (by go_simp);have e1 : wr.cell? ⟨w.heap.size, 1, none⟩ = some (.slice ca cl cc) := mm.cell (by go_simp);have Hm : Hid (m = baseI log k /\ More (w.alloc (.cells #[.slice (some ⟨rb, ro, none⟩) rl rc, .slice ca cl cc] 25)) wr) := ⟨hm, mm⟩;clear hm mm;cases gk with
  | zero =>
   obtain rfl : k = k0 := by omega
   go_wp2;go_ret;exact ⟨congrArg (fun n => Ending.returned (.int .i64 n)) (Hm.out.1.trans HR.out), ((More.refl _).alloc _ _).trans Hm.out.2⟩
  | succ g =>
   have hk : k < rl := by omega
   have hk' : (k : Int) < (k0 : Int) := by omega
   have hkr : (k : Int) < (rl : Int) := by omega
   have hk1 : (0 : Int) <= (k : Int) := by omega
   have mw : More w wr := ((More.refl _).alloc _ _).trans Hm.out.2;have q0 := ((Hr.out.1.more mw) k hk).1;have q1 := ((Hr.out.1.more mw) k hk).2;clear mw;have Hlog : Hid (0 <= log k /\ log k <= 6) := Hr.out.2.2 k hk;obtain ⟨lk, hlk⟩ : ∃ x, log k = x := ⟨_, rfl⟩;rw [hlk] at q0 Hlog;have Hlk : Hid (log k = lk) := hlk;clear hlk;go_wp2_with (fail)
   obtain ⟨nw, hnw⟩ : ∃ x, J0c lk = x := ⟨_, rfl⟩;refine (J3a lk Hlog.out.1 Hlog.out.2 (sec k) _).mono ?_;rw [hnw]
   have hnb : 1 <= nw /\ nw <= 64 := by
    rw [<- hnw];exact J1b (k := lk.toNat) (by have := Hlog.out; omega)
   have Hnw : Hid (J0c (log k) = nw) := by rw [Hlk.out]; exact hnw
   clear hnw q0 q1;rintro e w2 ⟨rfl, m2⟩;have Hm2 : Hid (More (w.alloc (.cells #[.slice (some ⟨rb, ro, none⟩) rl rc, .slice ca cl cc] 25)) w2) := Hm.out.2.trans m2;clear m2 e0 e1;go_wp2;go_roundg g
   case measure => omega
   case rel =>
    refine ⟨k + 1, m + nw, by omega, by rw [baseI, <- Hm.out.1, Hnw.out], by push_cast; omega, ?_, by first | rfl | simp, Hm2.out⟩
    first | rfl | (simp; unfold wrap64; omega)

theorem reg_1 (a b c n : Int) (g : Nat) {gc : Nat} (r : Nat -> Int) (w : World) (hr : RegsR w g r) (a0 : 0 <= a) (a1 : a < 10) :
  Calls Tryz.prog 48 #[.slice (some ⟨g, 0, none⟩) 10 gc, .agg #[.int .i64 1, .int .i64 a, .int .i64 b, .int .i64 c, .int .i64 n]] w fun e w' => e = .returned (.slice none 0 0) /\ RegsR w' g (setR r a n) /\ w.grownBy w' (some g) := by
 have Hr : Hid (RegsR w g r) := hr;have hrW : RegsR (w.alloc (.cells #[.int .i64 1, .int .i64 a, .int .i64 b, .int .i64 c, .int .i64 n] 53)) g r := hr.alloc _ _;have hg : g < w.heap.size := J05 (hr 0 (by omega)).1;have ca := (hr a.toNat (by omega)).1;have fa := (hr a.toNat (by omega)).2;clear hr hrW;go_enter Tryz.func48, Tryz.ntmps48;go_wp2;go_ret;exact ⟨rfl, (by repeat (first | exact Hr.out | apply RegsR.drew | apply RegsR.alloc | apply RegsR.set)), (by repeat (first | exact J0j _ _ | apply J2j | apply J1m | apply J10))⟩

theorem Jlf (a b c n : Int) (g : Nat) {gc : Nat} (r : Nat -> Int) (w : World) (hr : RegsR w g r) :
  Calls Tryz.prog 48 #[.slice (some ⟨g, 0, none⟩) 10 gc, .agg #[.int .i64 12, .int .i64 a, .int .i64 b, .int .i64 c, .int .i64 n]] w fun e w' => e = .returned (.slice none 0 0) /\ RegsR w' g (r) /\ w.grownBy w' (some g) := by
 have Hr : Hid (RegsR w g r) := hr;have hrW : RegsR (w.alloc (.cells #[.int .i64 12, .int .i64 a, .int .i64 b, .int .i64 c, .int .i64 n] 53)) g r := hr.alloc _ _;have hg : g < w.heap.size := J05 (hr 0 (by omega)).1;clear hr hrW;go_enter Tryz.func48, Tryz.ntmps48;go_wp2;go_ret;exact ⟨rfl, (by repeat (first | exact Hr.out | apply RegsR.drew | apply RegsR.alloc | apply RegsR.set)), (by repeat (first | exact J0j _ _ | apply J2j | apply J1m | apply J10))⟩

theorem reg_2 (a b c n : Int) (g : Nat) {gc : Nat} (r : Nat -> Int) (w : World) (hr : RegsR w g r) (a0 : 0 <= a) (a1 : a < 10) (b0 : 0 <= b) (b1 : b < 10) :
  Calls Tryz.prog 48 #[.slice (some ⟨g, 0, none⟩) 10 gc, .agg #[.int .i64 2, .int .i64 a, .int .i64 b, .int .i64 c, .int .i64 n]] w fun e w' => e = .returned (.slice none 0 0) /\ RegsR w' g (setR r a (r b.toNat)) /\ w.grownBy w' (some g) := by
 have Hr : Hid (RegsR w g r) := hr;have hrW : RegsR (w.alloc (.cells #[.int .i64 2, .int .i64 a, .int .i64 b, .int .i64 c, .int .i64 n] 53)) g r := hr.alloc _ _;have hg : g < w.heap.size := J05 (hr 0 (by omega)).1;have ca := (hr a.toNat (by omega)).1;have fa := (hr a.toNat (by omega)).2;have cb := (hr b.toNat (by omega)).1;have fb := (hr b.toNat (by omega)).2;obtain ⟨S, HS⟩ : ∃ S : World -> Prop, Hid (∀ w', S w' ↔ w'.cell? ⟨w.heap.size, 1, none⟩ = some (.int .i64 a) /\ w'.cell? ⟨w.heap.size, 2, none⟩ = some (.int .i64 b)) := ⟨_, fun _ => Iff.rfl⟩;have k1 : ∀ i : { w' // S w' }, i.val.cell? ⟨w.heap.size, 1, none⟩ = some (.int .i64 a) := fun i => ((HS.out _).1 i.property).1
 have k2 : ∀ i : { w' // S w' }, i.val.cell? ⟨w.heap.size, 2, none⟩ = some (.int .i64 b) := fun i => ((HS.out _).1 i.property).2
 have hne : Nonempty { w' // S w' } := ⟨⟨w.alloc (.cells #[.int .i64 2, .int .i64 a, .int .i64 b, .int .i64 c, .int .i64 n] 53), (HS.out _).2 (by go_simp)⟩⟩;clear hr hrW;go_enter Tryz.func48, Tryz.ntmps48;go_wp2_with (fail)
 refine J01 (S := S) [(0, true), (1, true), (2, true), (3, true), (4, true), (5, true), (6, true), (7, false), (8, true), (9, false)] (by kernel_rfl) (by kernel_rfl) (by kernel_rfl) ((HS.out _).2 (by go_simp)) ?_
 iterate 7 (refine J00 rfl (by kernel_rfl) (fun K hK => ?_); go_simp; refine hK _ _ ?_; clear hK K)
 refine J02 rfl (by kernel_rfl) (fun K hK => ?_); go_simp;refine hK _ _ ((HS.out _).2 (by go_simp)) ?_; clear hK K;refine J00 rfl (by kernel_rfl) (fun K hK => ?_); go_simp; refine hK _ _ ?_; clear hK K;refine J02 rfl (by kernel_rfl) (fun K hK => ?_); go_simp;refine hK _ _ ((HS.out _).2 (by go_simp)) ?_; clear hK K;refine J04 ?_;clear k1 k2 hne;go_wp2;go_ret;exact ⟨rfl, (by repeat (first | exact Hr.out | apply RegsR.drew | apply RegsR.alloc | apply RegsR.set)), (by repeat (first | exact J0j _ _ | apply J2j | apply J1m | apply J10))⟩

theorem Jle (a b c n : Int) (g : Nat) {gc : Nat} (r : Nat -> Int) (w : World) (hr : RegsR w g r) (a0 : 0 <= a) (a1 : a < 10) (b0 : 0 <= b) (b1 : b < 10) :
  Calls Tryz.prog 48 #[.slice (some ⟨g, 0, none⟩) 10 gc, .agg #[.int .i64 10, .int .i64 a, .int .i64 b, .int .i64 c, .int .i64 n]] w fun e w' => e = .returned (.slice none 0 0) /\ RegsR w' g (setR r a (wrap64 (r b.toNat + n))) /\ w.grownBy w' (some g) := by
 have Hr : Hid (RegsR w g r) := hr;have hrW : RegsR (w.alloc (.cells #[.int .i64 10, .int .i64 a, .int .i64 b, .int .i64 c, .int .i64 n] 53)) g r := hr.alloc _ _;have hg : g < w.heap.size := J05 (hr 0 (by omega)).1;have ca := (hr a.toNat (by omega)).1;have fa := (hr a.toNat (by omega)).2;have cb := (hr b.toNat (by omega)).1;have fb := (hr b.toNat (by omega)).2;obtain ⟨S, HS⟩ : ∃ S : World -> Prop, Hid (∀ w', S w' ↔ w'.cell? ⟨w.heap.size, 1, none⟩ = some (.int .i64 a) /\ w'.cell? ⟨w.heap.size, 2, none⟩ = some (.int .i64 b) /\ w'.cell? ⟨w.heap.size, 4, none⟩ = some (.int .i64 n)) := ⟨_, fun _ => Iff.rfl⟩;have k1 : ∀ i : { w' // S w' }, i.val.cell? ⟨w.heap.size, 1, none⟩ = some (.int .i64 a) := fun i => ((HS.out _).1 i.property).1
 have k2 : ∀ i : { w' // S w' }, i.val.cell? ⟨w.heap.size, 2, none⟩ = some (.int .i64 b) := fun i => ((HS.out _).1 i.property).2.1
 have k4 : ∀ i : { w' // S w' }, i.val.cell? ⟨w.heap.size, 4, none⟩ = some (.int .i64 n) := fun i => ((HS.out _).1 i.property).2.2
 have hne : Nonempty { w' // S w' } := ⟨⟨w.alloc (.cells #[.int .i64 10, .int .i64 a, .int .i64 b, .int .i64 c, .int .i64 n] 53), (HS.out _).2 (by go_simp)⟩⟩;have hwr := J2b;clear hr hrW;go_enter Tryz.func48, Tryz.ntmps48;go_wp2_with (fail)
 refine J01 (S := S) [(0, true), (1, true), (2, true), (3, true), (4, true), (5, true), (6, true), (8, true), (9, true), (7, false), (10, true), (11, true), (12, false)] (by kernel_rfl) (by kernel_rfl) (by kernel_rfl) ((HS.out _).2 (by go_simp)) ?_
 iterate 9 (refine J00 rfl (by kernel_rfl) (fun K hK => ?_); go_simp; refine hK _ _ ?_; clear hK K)
 refine J02 rfl (by kernel_rfl) (fun K hK => ?_); go_simp;refine hK _ _ ((HS.out _).2 (by go_simp)) ?_; clear hK K
 iterate 2 (refine J00 rfl (by kernel_rfl) (fun K hK => ?_); go_simp; refine hK _ _ ?_; clear hK K)
 refine J02 rfl (by kernel_rfl) (fun K hK => ?_); go_simp;refine hK _ _ ((HS.out _).2 (by go_simp)) ?_; clear hK K;refine J04 ?_;clear k1 k2 k4 hne;go_wp2;go_ret;exact ⟨rfl, (by repeat (first | exact Hr.out | apply RegsR.drew | apply RegsR.alloc | apply RegsR.set)), (by repeat (first | exact J0j _ _ | apply J2j | apply J1m | apply J10))⟩

theorem Jet (a b c n : Int) (g : Nat) {gc : Nat} (r : Nat -> Int) (x : Int) (w : World) (hr : RegsR w g r) (hx : r a.toNat = x) (a0 : 0 <= a) (a1 : a < 10) (hlo : x < 0) :
  Calls Tryz.prog 48 #[.slice (some ⟨g, 0, none⟩) 10 gc, .agg #[.int .i64 11, .int .i64 a, .int .i64 b, .int .i64 c, .int .i64 n]] w fun e w' => e = .returned (.slice none 0 0) /\ RegsR w' g (setR r a 0) /\ w.grownBy w' (some g) := by
 have Hr : Hid (RegsR w g r) := hr;have hrW : RegsR (w.alloc (.cells #[.int .i64 11, .int .i64 a, .int .i64 b, .int .i64 c, .int .i64 n] 53)) g r := hr.alloc _ _;have hg : g < w.heap.size := J05 (hr 0 (by omega)).1;have ca := (hr a.toNat (by omega)).1;have fa := (hr a.toNat (by omega)).2;rw [hx] at ca;obtain ⟨S, HS⟩ : ∃ S : World -> Prop, Hid (∀ w', S w' ↔ w'.cell? ⟨w.heap.size, 1, none⟩ = some (.int .i64 a) /\ w'.cell? ⟨w.heap.size, 4, none⟩ = some (.int .i64 n) /\ w'.cell? ⟨g, a.toNat, none⟩ = some (.int .i64 x)) := ⟨_, fun _ => Iff.rfl⟩;have k1 : ∀ i : { w' // S w' }, i.val.cell? ⟨w.heap.size, 1, none⟩ = some (.int .i64 a) := fun i => ((HS.out _).1 i.property).1
 have k4 : ∀ i : { w' // S w' }, i.val.cell? ⟨w.heap.size, 4, none⟩ = some (.int .i64 n) := fun i => ((HS.out _).1 i.property).2.1
 have kx : ∀ i : { w' // S w' }, i.val.cell? ⟨g, a.toNat, none⟩ = some (.int .i64 x) := fun i => ((HS.out _).1 i.property).2.2
 have hne : Nonempty { w' // S w' } := ⟨⟨w.alloc (.cells #[.int .i64 11, .int .i64 a, .int .i64 b, .int .i64 c, .int .i64 n] 53), (HS.out _).2 (by go_simp)⟩⟩;clear hr hrW hx;go_enter Tryz.func48, Tryz.ntmps48;go_wp2_with (fail)
 refine J01 (S := S) [(0, true), (1, true), (2, true), (3, true), (4, true), (5, true), (6, true), (7, true), (8, true), (9, true), (10, true), (11, true), (12, true), (13, true), (14, true), (15, true)] (by kernel_rfl) (by kernel_rfl) (by kernel_rfl) ((HS.out _).2 (by go_simp)) ?_
 iterate 6 (refine J00 rfl (by kernel_rfl) (fun K hK => ?_); go_simp; refine hK _ _ ?_; clear hK K)
 refine J1c rfl rfl (by kernel_rfl) (fun K hK => ?_); go_simp; refine hK _ _ ?_; clear hK K
 iterate 8 (refine J1s rfl ((HS.out _).2 (by go_simp)) (by kernel_rfl) (by kernel_rfl) ?_)
 refine J0s rfl rfl (by kernel_rfl) rfl (fun K hK => ?_); go_simp; refine hK _ _ ?_; clear hK K;refine J04 ?_;clear k1 k4 kx hne;go_wp2;go_ret;exact ⟨rfl, (by repeat (first | exact Hr.out | apply RegsR.drew | apply RegsR.alloc | apply RegsR.set)), (by repeat (first | exact J0j _ _ | apply J2j | apply J1m | apply J10))⟩

theorem Jer (a b c n : Int) (g : Nat) {gc : Nat} (r : Nat -> Int) (x : Int) (w : World) (hr : RegsR w g r) (hx : r a.toNat = x) (a0 : 0 <= a) (a1 : a < 10) (hlo : ¬ x < 0) (hhi : n <= x) :
  Calls Tryz.prog 48 #[.slice (some ⟨g, 0, none⟩) 10 gc, .agg #[.int .i64 11, .int .i64 a, .int .i64 b, .int .i64 c, .int .i64 n]] w fun e w' => e = .returned (.slice none 0 0) /\ RegsR w' g (setR r a 0) /\ w.grownBy w' (some g) := by
 have Hr : Hid (RegsR w g r) := hr;have hrW : RegsR (w.alloc (.cells #[.int .i64 11, .int .i64 a, .int .i64 b, .int .i64 c, .int .i64 n] 53)) g r := hr.alloc _ _;have hg : g < w.heap.size := J05 (hr 0 (by omega)).1;have ca := (hr a.toNat (by omega)).1;have fa := (hr a.toNat (by omega)).2;rw [hx] at ca;obtain ⟨S, HS⟩ : ∃ S : World -> Prop, Hid (∀ w', S w' ↔ w'.cell? ⟨w.heap.size, 1, none⟩ = some (.int .i64 a) /\ w'.cell? ⟨w.heap.size, 4, none⟩ = some (.int .i64 n) /\ w'.cell? ⟨g, a.toNat, none⟩ = some (.int .i64 x)) := ⟨_, fun _ => Iff.rfl⟩;have k1 : ∀ i : { w' // S w' }, i.val.cell? ⟨w.heap.size, 1, none⟩ = some (.int .i64 a) := fun i => ((HS.out _).1 i.property).1
 have k4 : ∀ i : { w' // S w' }, i.val.cell? ⟨w.heap.size, 4, none⟩ = some (.int .i64 n) := fun i => ((HS.out _).1 i.property).2.1
 have kx : ∀ i : { w' // S w' }, i.val.cell? ⟨g, a.toNat, none⟩ = some (.int .i64 x) := fun i => ((HS.out _).1 i.property).2.2
 have hne : Nonempty { w' // S w' } := ⟨⟨w.alloc (.cells #[.int .i64 11, .int .i64 a, .int .i64 b, .int .i64 c, .int .i64 n] 53), (HS.out _).2 (by go_simp)⟩⟩;clear hr hrW hx;go_enter Tryz.func48, Tryz.ntmps48;go_wp2_with (fail)
 refine J01 (S := S) [(0, true), (1, true), (2, true), (3, true), (4, true), (5, true), (6, true), (7, true), (8, true), (9, true), (10, true), (11, true), (12, true), (13, true), (14, true), (15, true)] (by kernel_rfl) (by kernel_rfl) (by kernel_rfl) ((HS.out _).2 (by go_simp)) ?_;have hd0 : decide (x < 0) = false := by simp; omega
 iterate 6 (refine J00 rfl (by kernel_rfl) (fun K hK => ?_); go_simp; refine hK _ _ ?_; clear hK K)
 refine J1c rfl rfl (by kernel_rfl) (fun K hK => ?_); go_simp; refine hK _ _ ?_; clear hK K
 iterate 8 (refine J00 rfl (by kernel_rfl) (fun K hK => ?_); go_simp; refine hK _ _ ?_; clear hK K)
 refine J0o rfl rfl (by kernel_rfl) rfl (fun K hK => ?_); go_simp; refine hK _ _ ?_; clear hK K;refine J04 ?_;clear k1 k4 kx hne;go_wp2;go_ret;exact ⟨rfl, (by repeat (first | exact Hr.out | apply RegsR.drew | apply RegsR.alloc | apply RegsR.set)), (by repeat (first | exact J0j _ _ | apply J2j | apply J1m | apply J10))⟩

theorem Jes (a b c n : Int) (g : Nat) {gc : Nat} (r : Nat -> Int) (x : Int) (w : World) (hr : RegsR w g r) (hx : r a.toNat = x) (a0 : 0 <= a) (a1 : a < 10) (hlo : ¬ x < 0) (hhi : x < n) :
  Calls Tryz.prog 48 #[.slice (some ⟨g, 0, none⟩) 10 gc, .agg #[.int .i64 11, .int .i64 a, .int .i64 b, .int .i64 c, .int .i64 n]] w fun e w' => e = .returned (.slice none 0 0) /\ RegsR w' g (r) /\ w.grownBy w' (some g) := by
 have Hr : Hid (RegsR w g r) := hr;have hrW : RegsR (w.alloc (.cells #[.int .i64 11, .int .i64 a, .int .i64 b, .int .i64 c, .int .i64 n] 53)) g r := hr.alloc _ _;have hg : g < w.heap.size := J05 (hr 0 (by omega)).1;have ca := (hr a.toNat (by omega)).1;have fa := (hr a.toNat (by omega)).2;rw [hx] at ca;obtain ⟨S, HS⟩ : ∃ S : World -> Prop, Hid (∀ w', S w' ↔ w'.cell? ⟨w.heap.size, 1, none⟩ = some (.int .i64 a) /\ w'.cell? ⟨w.heap.size, 4, none⟩ = some (.int .i64 n) /\ w'.cell? ⟨g, a.toNat, none⟩ = some (.int .i64 x)) := ⟨_, fun _ => Iff.rfl⟩;have k1 : ∀ i : { w' // S w' }, i.val.cell? ⟨w.heap.size, 1, none⟩ = some (.int .i64 a) := fun i => ((HS.out _).1 i.property).1
 have k4 : ∀ i : { w' // S w' }, i.val.cell? ⟨w.heap.size, 4, none⟩ = some (.int .i64 n) := fun i => ((HS.out _).1 i.property).2.1
 have kx : ∀ i : { w' // S w' }, i.val.cell? ⟨g, a.toNat, none⟩ = some (.int .i64 x) := fun i => ((HS.out _).1 i.property).2.2
 have hne : Nonempty { w' // S w' } := ⟨⟨w.alloc (.cells #[.int .i64 11, .int .i64 a, .int .i64 b, .int .i64 c, .int .i64 n] 53), (HS.out _).2 (by go_simp)⟩⟩;clear hr hrW hx;go_enter Tryz.func48, Tryz.ntmps48;go_wp2_with (fail)
 refine J01 (S := S) [(0, true), (1, true), (2, true), (3, true), (4, true), (5, true), (6, true), (7, true), (8, true), (9, true), (10, true), (11, true), (12, true), (13, true), (14, true), (15, true)] (by kernel_rfl) (by kernel_rfl) (by kernel_rfl) ((HS.out _).2 (by go_simp)) ?_;have hd0 : decide (x < 0) = false := by simp; omega
 iterate 6 (refine J00 rfl (by kernel_rfl) (fun K hK => ?_); go_simp; refine hK _ _ ?_; clear hK K)
 refine J1c rfl rfl (by kernel_rfl) (fun K hK => ?_); go_simp; refine hK _ _ ?_; clear hK K
 iterate 7 (refine J00 rfl (by kernel_rfl) (fun K hK => ?_); go_simp; refine hK _ _ ?_; clear hK K)
 have hd : decide (n <= x) = false := by simp; omega
 iterate 1 (refine J00 rfl (by kernel_rfl) (fun K hK => ?_); go_simp; refine hK _ _ ?_; clear hK K)
 refine J0o rfl rfl (by kernel_rfl) rfl (fun K hK => ?_); go_simp; refine hK _ _ ?_; clear hK K;refine J04 ?_;clear k1 k4 kx hne;go_wp2;go_ret;exact ⟨rfl, (by repeat (first | exact Hr.out | apply RegsR.drew | apply RegsR.alloc | apply RegsR.set)), (by repeat (first | exact J0j _ _ | apply J2j | apply J1m | apply J10))⟩

theorem Jeu (op a b c n : Int) (g : Nat) {gc : Nat} (r : Nat -> Int) (w : World) (hr : RegsR w g r) (o0 : 21 <= op) (o1 : op <= 30) (a0 : 0 <= a) (a1 : a < 10) (b0 : 0 <= b) (b1 : b < 10) (c0 : 0 <= c) (c1 : c < 10) (h29 : ¬ op = 29) (h30 : ¬ op = 30) (hb : B64 (r b.toNat)) (hc : B64 (r c.toNat)) :
  Calls Tryz.prog 48 #[.slice (some ⟨g, 0, none⟩) 10 gc, .agg #[.int .i64 op, .int .i64 a, .int .i64 b, .int .i64 c, .int .i64 n]] w fun e w' => e = .returned (.slice none 0 0) /\ RegsR w' g (setR r a (opI (op - 20) (r b.toNat) (r c.toNat))) /\ w.grownBy w' (some g) := by
 have Hr : Hid (RegsR w g r) := hr;have hrW : RegsR (w.alloc (.cells #[.int .i64 op, .int .i64 a, .int .i64 b, .int .i64 c, .int .i64 n] 53)) g r := hr.alloc _ _;have hg : g < w.heap.size := J05 (hr 0 (by omega)).1;have ca := (hr a.toNat (by omega)).1;have fa := (hr a.toNat (by omega)).2;have cb := (hr b.toNat (by omega)).1;have fb := (hr b.toNat (by omega)).2;have cx := (hr c.toNat (by omega)).1;have fx := (hr c.toNat (by omega)).2;obtain ⟨S, HS⟩ : ∃ S : World -> Prop, Hid (∀ w', S w' ↔ w'.cell? ⟨w.heap.size, 0, none⟩ = some (.int .i64 op) /\ w'.cell? ⟨w.heap.size, 1, none⟩ = some (.int .i64 a)) := ⟨_, fun _ => Iff.rfl⟩;have k0 : ∀ i : { w' // S w' }, i.val.cell? ⟨w.heap.size, 0, none⟩ = some (.int .i64 op) := fun i => ((HS.out _).1 i.property).1
 have k1 : ∀ i : { w' // S w' }, i.val.cell? ⟨w.heap.size, 1, none⟩ = some (.int .i64 a) := fun i => ((HS.out _).1 i.property).2
 have hne : Nonempty { w' // S w' } := ⟨⟨w.alloc (.cells #[.int .i64 op, .int .i64 a, .int .i64 b, .int .i64 c, .int .i64 n] 53), (HS.out _).2 (by go_simp)⟩⟩;have hwr := J2b;have Hop : Hid (∀ w : World, Calls Tryz.prog 65 #[.int .i64 (op - 20), .int .i64 (r b.toNat), .int .i64 (r c.toNat)] w fun e w' => e = .returned (.int .i64 (opI (op - 20) (r b.toNat) (r c.toNat))) /\ More w w') := fun w => Jep _ _ _ hb.1 hb.2 hc.1 hc.2 w
 obtain ⟨v, hv⟩ : ∃ v, opI (op - 20) (r b.toNat) (r c.toNat) = v := ⟨_, rfl⟩;rw [hv] at Hop;rw [hv];have hs : wrap64 (op - 20) = op - 20 := by unfold wrap64; omega
 obtain ⟨q, hq⟩ : ∃ q, op - 20 = q := ⟨_, rfl⟩;rw [hq] at Hop hs;have t29 : (op == 29) = false := by simp [h29]
 have t30 : (op == 30) = false := by simp [h30]
 clear h29 h30;clear hr hrW hb hc hv;go_enter Tryz.func48, Tryz.ntmps48;go_wp2_with (fail)
 refine J01 (S := S) [(0, true), (1, true), (2, true), (3, true), (4, true), (5, true), (6, true), (7, true), (8, false), (9, true), (10, false)] (by kernel_rfl) (by kernel_rfl) (by kernel_rfl) ((HS.out _).2 (by go_simp)) ?_
 iterate 8 (refine J00 rfl (by kernel_rfl) (fun K hK => ?_); go_simp; refine hK _ _ ?_; clear hK K)
 refine J02 rfl (by kernel_rfl) (fun K hK => ?_); go_simp;refine (Hop.out _).mono ?_;rintro e w1 ⟨rfl, m1⟩;have e0 : w1.cell? ⟨w.heap.size, 0, none⟩ = some (.int .i64 op) := m1.cell (by go_simp);have e1 : w1.cell? ⟨w.heap.size, 1, none⟩ = some (.int .i64 a) := m1.cell (by go_simp);have Hr1 : Hid (RegsR w1 g r) := ((Hr.out.alloc _ _).drew).more m1;have c1a := (Hr1.out a.toNat (by omega)).1;have f1a := (Hr1.out a.toNat (by omega)).2;have Hg1 : Hid (w.grownBy w1 (some g)) := J4s (J2j (J1m (J0j _ _) _)) m1;clear m1
 go_simp
 refine hK _ _ ((HS.out _).2 ⟨e0, e1⟩) ?_; clear hK K;refine J00 rfl (by kernel_rfl) (fun K hK => ?_); go_simp; refine hK _ _ ?_; clear hK K;refine J02 rfl (by kernel_rfl) (fun K hK => ?_); go_simp;have e0' : (w1.setCell ⟨g, a.toNat, none⟩ (.int .i64 v)).cell? ⟨w.heap.size, 0, none⟩ = some (.int .i64 op) := by rw [World.cell?_setCell_other _ _ _ _ (by simp <;> omega)]; exact e0
 have e1' : (w1.setCell ⟨g, a.toNat, none⟩ (.int .i64 v)).cell? ⟨w.heap.size, 1, none⟩ = some (.int .i64 a) := by rw [World.cell?_setCell_other _ _ _ _ (by simp <;> omega)]; exact e1
 refine hK _ _ ((HS.out _).2 ⟨e0', e1'⟩) ?_; clear hK K;refine J04 ?_;have Hr2 : Hid (RegsR (w1.setCell ⟨g, a.toNat, none⟩ (.int .i64 v)) g (setR r a v)) := Hr1.out.set a v;have Hg2 : Hid (w.grownBy (w1.setCell ⟨g, a.toNat, none⟩ (.int .i64 v)) (some g)) := J10 Hg1.out _ _;obtain ⟨w3, hw3⟩ : ∃ w3, w1.setCell ⟨g, a.toNat, none⟩ (.int .i64 v) = w3 := ⟨_, rfl⟩;rw [hw3] at e0' Hr2 Hg2 |-;clear hw3 k0 k1 hne ca fa cb fb cx fx c1a f1a e0 e1 e1' hwr;go_wp2;go_ret;exact ⟨rfl, Hr2.out, Hg2.out⟩

theorem Jcy (op a b c n : Int) (g : Nat) {gc : Nat} (r : Nat -> Int) (w : World) (hr : RegsR w g r) (o0 : 21 <= op) (o1 : op <= 30) (a0 : 0 <= a) (a1 : a < 10) (b0 : 0 <= b) (b1 : b < 10) (c0 : 0 <= c) (c1 : c < 10) (h : op = 29) (hb : B64 (r b.toNat)) (hc : B64 (r c.toNat)) :
  Calls Tryz.prog 48 #[.slice (some ⟨g, 0, none⟩) 10 gc, .agg #[.int .i64 op, .int .i64 a, .int .i64 b, .int .i64 c, .int .i64 n]] w fun e w' => ∃ sv, e = .returned sv /\ SeenAt w' sv ([⟨3, r b.toNat, r c.toNat⟩]) /\ RegsR w' g (setR r a (opI (op - 20) (r b.toNat) (r c.toNat))) /\ w.grownBy w' (some g) := by
 have Hr : Hid (RegsR w g r) := hr;have hrW : RegsR (w.alloc (.cells #[.int .i64 op, .int .i64 a, .int .i64 b, .int .i64 c, .int .i64 n] 53)) g r := hr.alloc _ _;have hg : g < w.heap.size := J05 (hr 0 (by omega)).1;have ca := (hr a.toNat (by omega)).1;have fa := (hr a.toNat (by omega)).2;have cb := (hr b.toNat (by omega)).1;have fb := (hr b.toNat (by omega)).2;have cx := (hr c.toNat (by omega)).1;have fx := (hr c.toNat (by omega)).2;obtain ⟨S, HS⟩ : ∃ S : World -> Prop, Hid (∀ w', S w' ↔ w'.cell? ⟨w.heap.size, 0, none⟩ = some (.int .i64 op) /\ w'.cell? ⟨w.heap.size, 1, none⟩ = some (.int .i64 a)) := ⟨_, fun _ => Iff.rfl⟩;have k0 : ∀ i : { w' // S w' }, i.val.cell? ⟨w.heap.size, 0, none⟩ = some (.int .i64 op) := fun i => ((HS.out _).1 i.property).1
 have k1 : ∀ i : { w' // S w' }, i.val.cell? ⟨w.heap.size, 1, none⟩ = some (.int .i64 a) := fun i => ((HS.out _).1 i.property).2
 have hne : Nonempty { w' // S w' } := ⟨⟨w.alloc (.cells #[.int .i64 op, .int .i64 a, .int .i64 b, .int .i64 c, .int .i64 n] 53), (HS.out _).2 (by go_simp)⟩⟩;have hwr := J2b;have Hop : Hid (∀ w : World, Calls Tryz.prog 65 #[.int .i64 (op - 20), .int .i64 (r b.toNat), .int .i64 (r c.toNat)] w fun e w' => e = .returned (.int .i64 (opI (op - 20) (r b.toNat) (r c.toNat))) /\ More w w') := fun w => Jep _ _ _ hb.1 hb.2 hc.1 hc.2 w
 obtain ⟨v, hv⟩ : ∃ v, opI (op - 20) (r b.toNat) (r c.toNat) = v := ⟨_, rfl⟩;rw [hv] at Hop;rw [hv];have hs : wrap64 (op - 20) = op - 20 := by unfold wrap64; omega
 obtain ⟨q, hq⟩ : ∃ q, op - 20 = q := ⟨_, rfl⟩;rw [hq] at Hop hs;have Hh : Hid (op = 29) := h;clear h;clear hr hrW hb hc hv;go_enter Tryz.func48, Tryz.ntmps48;go_wp2_with (fail)
 refine J01 (S := S) [(0, true), (1, true), (2, true), (3, true), (4, true), (5, true), (6, true), (7, true), (8, false), (9, true), (10, false)] (by kernel_rfl) (by kernel_rfl) (by kernel_rfl) ((HS.out _).2 (by go_simp)) ?_
 iterate 8 (refine J00 rfl (by kernel_rfl) (fun K hK => ?_); go_simp; refine hK _ _ ?_; clear hK K)
 refine J02 rfl (by kernel_rfl) (fun K hK => ?_); go_simp;refine (Hop.out _).mono ?_;rintro e w1 ⟨rfl, m1⟩;have e0 : w1.cell? ⟨w.heap.size, 0, none⟩ = some (.int .i64 op) := m1.cell (by go_simp);have e1 : w1.cell? ⟨w.heap.size, 1, none⟩ = some (.int .i64 a) := m1.cell (by go_simp);have Hr1 : Hid (RegsR w1 g r) := ((Hr.out.alloc _ _).drew).more m1;have c1a := (Hr1.out a.toNat (by omega)).1;have f1a := (Hr1.out a.toNat (by omega)).2;have Hg1 : Hid (w.grownBy w1 (some g)) := J4s (J2j (J1m (J0j _ _) _)) m1;clear m1
 go_simp
 refine hK _ _ ((HS.out _).2 ⟨e0, e1⟩) ?_; clear hK K;refine J00 rfl (by kernel_rfl) (fun K hK => ?_); go_simp; refine hK _ _ ?_; clear hK K;refine J02 rfl (by kernel_rfl) (fun K hK => ?_); go_simp;have e0' : (w1.setCell ⟨g, a.toNat, none⟩ (.int .i64 v)).cell? ⟨w.heap.size, 0, none⟩ = some (.int .i64 op) := by rw [World.cell?_setCell_other _ _ _ _ (by simp <;> omega)]; exact e0
 have e1' : (w1.setCell ⟨g, a.toNat, none⟩ (.int .i64 v)).cell? ⟨w.heap.size, 1, none⟩ = some (.int .i64 a) := by rw [World.cell?_setCell_other _ _ _ _ (by simp <;> omega)]; exact e1
 refine hK _ _ ((HS.out _).2 ⟨e0', e1'⟩) ?_; clear hK K;refine J04 ?_;have Hr2 : Hid (RegsR (w1.setCell ⟨g, a.toNat, none⟩ (.int .i64 v)) g (setR r a v)) := Hr1.out.set a v;have Hg2 : Hid (w.grownBy (w1.setCell ⟨g, a.toNat, none⟩ (.int .i64 v)) (some g)) := J10 Hg1.out _ _;obtain ⟨w3, hw3⟩ : ∃ w3, w1.setCell ⟨g, a.toNat, none⟩ (.int .i64 v) = w3 := ⟨_, rfl⟩;rw [hw3] at e0' Hr2 Hg2 |-;clear hw3 k0 k1 hne ca fa cb fb cx fx c1a f1a e0 e1 e1' hwr;obtain rfl := Hh.out;go_wp2;go_ret;refine ⟨_, rfl, ⟨some ⟨w3.heap.size, 0, none⟩, w3.heap.size, 0, 1, rfl, fun _ => rfl, fun i s h => ?_, by simp⟩, by repeat (first | exact Hr2.out | apply RegsR.drew | apply RegsR.alloc), by repeat (first | exact Hg2.out | apply J2j | apply J1m)⟩;have hi : i = 0 := by have := (List.getElem?_eq_some_iff.1 h).1; simp at this; omega
 subst hi;simp at h;subst h;refine ⟨?_, ?_, ?_⟩ <;> go_simp

theorem Jcz (op a b c n : Int) (g : Nat) {gc : Nat} (r : Nat -> Int) (w : World) (hr : RegsR w g r) (o0 : 21 <= op) (o1 : op <= 30) (a0 : 0 <= a) (a1 : a < 10) (b0 : 0 <= b) (b1 : b < 10) (c0 : 0 <= c) (c1 : c < 10) (h : op = 30) (hb : B64 (r b.toNat)) (hc : B64 (r c.toNat)) :
  Calls Tryz.prog 48 #[.slice (some ⟨g, 0, none⟩) 10 gc, .agg #[.int .i64 op, .int .i64 a, .int .i64 b, .int .i64 c, .int .i64 n]] w fun e w' => ∃ sv, e = .returned sv /\ SeenAt w' sv ([⟨3, r b.toNat, r c.toNat⟩]) /\ RegsR w' g (setR r a (opI (op - 20) (r b.toNat) (r c.toNat))) /\ w.grownBy w' (some g) := by
 have Hr : Hid (RegsR w g r) := hr;have hrW : RegsR (w.alloc (.cells #[.int .i64 op, .int .i64 a, .int .i64 b, .int .i64 c, .int .i64 n] 53)) g r := hr.alloc _ _;have hg : g < w.heap.size := J05 (hr 0 (by omega)).1;have ca := (hr a.toNat (by omega)).1;have fa := (hr a.toNat (by omega)).2;have cb := (hr b.toNat (by omega)).1;have fb := (hr b.toNat (by omega)).2;have cx := (hr c.toNat (by omega)).1;have fx := (hr c.toNat (by omega)).2;obtain ⟨S, HS⟩ : ∃ S : World -> Prop, Hid (∀ w', S w' ↔ w'.cell? ⟨w.heap.size, 0, none⟩ = some (.int .i64 op) /\ w'.cell? ⟨w.heap.size, 1, none⟩ = some (.int .i64 a)) := ⟨_, fun _ => Iff.rfl⟩;have k0 : ∀ i : { w' // S w' }, i.val.cell? ⟨w.heap.size, 0, none⟩ = some (.int .i64 op) := fun i => ((HS.out _).1 i.property).1
 have k1 : ∀ i : { w' // S w' }, i.val.cell? ⟨w.heap.size, 1, none⟩ = some (.int .i64 a) := fun i => ((HS.out _).1 i.property).2
 have hne : Nonempty { w' // S w' } := ⟨⟨w.alloc (.cells #[.int .i64 op, .int .i64 a, .int .i64 b, .int .i64 c, .int .i64 n] 53), (HS.out _).2 (by go_simp)⟩⟩;have hwr := J2b;have Hop : Hid (∀ w : World, Calls Tryz.prog 65 #[.int .i64 (op - 20), .int .i64 (r b.toNat), .int .i64 (r c.toNat)] w fun e w' => e = .returned (.int .i64 (opI (op - 20) (r b.toNat) (r c.toNat))) /\ More w w') := fun w => Jep _ _ _ hb.1 hb.2 hc.1 hc.2 w
 obtain ⟨v, hv⟩ : ∃ v, opI (op - 20) (r b.toNat) (r c.toNat) = v := ⟨_, rfl⟩;rw [hv] at Hop;rw [hv];have hs : wrap64 (op - 20) = op - 20 := by unfold wrap64; omega
 obtain ⟨q, hq⟩ : ∃ q, op - 20 = q := ⟨_, rfl⟩;rw [hq] at Hop hs;have Hh : Hid (op = 30) := h;clear h;clear hr hrW hb hc hv;go_enter Tryz.func48, Tryz.ntmps48;go_wp2_with (fail)
 refine J01 (S := S) [(0, true), (1, true), (2, true), (3, true), (4, true), (5, true), (6, true), (7, true), (8, false), (9, true), (10, false)] (by kernel_rfl) (by kernel_rfl) (by kernel_rfl) ((HS.out _).2 (by go_simp)) ?_
 iterate 8 (refine J00 rfl (by kernel_rfl) (fun K hK => ?_); go_simp; refine hK _ _ ?_; clear hK K)
 refine J02 rfl (by kernel_rfl) (fun K hK => ?_); go_simp;refine (Hop.out _).mono ?_;rintro e w1 ⟨rfl, m1⟩;have e0 : w1.cell? ⟨w.heap.size, 0, none⟩ = some (.int .i64 op) := m1.cell (by go_simp);have e1 : w1.cell? ⟨w.heap.size, 1, none⟩ = some (.int .i64 a) := m1.cell (by go_simp);have Hr1 : Hid (RegsR w1 g r) := ((Hr.out.alloc _ _).drew).more m1;have c1a := (Hr1.out a.toNat (by omega)).1;have f1a := (Hr1.out a.toNat (by omega)).2;have Hg1 : Hid (w.grownBy w1 (some g)) := J4s (J2j (J1m (J0j _ _) _)) m1;clear m1
 go_simp
 refine hK _ _ ((HS.out _).2 ⟨e0, e1⟩) ?_; clear hK K;refine J00 rfl (by kernel_rfl) (fun K hK => ?_); go_simp; refine hK _ _ ?_; clear hK K;refine J02 rfl (by kernel_rfl) (fun K hK => ?_); go_simp;have e0' : (w1.setCell ⟨g, a.toNat, none⟩ (.int .i64 v)).cell? ⟨w.heap.size, 0, none⟩ = some (.int .i64 op) := by rw [World.cell?_setCell_other _ _ _ _ (by simp <;> omega)]; exact e0
 have e1' : (w1.setCell ⟨g, a.toNat, none⟩ (.int .i64 v)).cell? ⟨w.heap.size, 1, none⟩ = some (.int .i64 a) := by rw [World.cell?_setCell_other _ _ _ _ (by simp <;> omega)]; exact e1
 refine hK _ _ ((HS.out _).2 ⟨e0', e1'⟩) ?_; clear hK K;refine J04 ?_;have Hr2 : Hid (RegsR (w1.setCell ⟨g, a.toNat, none⟩ (.int .i64 v)) g (setR r a v)) := Hr1.out.set a v;have Hg2 : Hid (w.grownBy (w1.setCell ⟨g, a.toNat, none⟩ (.int .i64 v)) (some g)) := J10 Hg1.out _ _;obtain ⟨w3, hw3⟩ : ∃ w3, w1.setCell ⟨g, a.toNat, none⟩ (.int .i64 v) = w3 := ⟨_, rfl⟩;rw [hw3] at e0' Hr2 Hg2 |-;clear hw3 k0 k1 hne ca fa cb fb cx fx c1a f1a e0 e1 e1' hwr;obtain rfl := Hh.out;go_wp2;go_ret;refine ⟨_, rfl, ⟨some ⟨w3.heap.size, 0, none⟩, w3.heap.size, 0, 1, rfl, fun _ => rfl, fun i s h => ?_, by simp⟩, by repeat (first | exact Hr2.out | apply RegsR.drew | apply RegsR.alloc), by repeat (first | exact Hg2.out | apply J2j | apply J1m)⟩;have hi : i = 0 := by have := (List.getElem?_eq_some_iff.1 h).1; simp at this; omega
 subst hi;simp at h;subst h;refine ⟨?_, ?_, ?_⟩ <;> go_simp
theorem J2h (w : World) : SeenAt w (.slice none 0 0) [] := ⟨none, 0, 0, 0, rfl, fun h => absurd h (Nat.not_lt_zero _), fun i s h => by simp at h, by simp⟩

theorem J8m (i : Ins) (g : Nat) {gc : Nat} (r : Nat -> Int) (w : World) (hr : RegsR w g r) (hb : ∀ j, j < 10 -> B64 (r j)) {rl : Nat} {log : Nat -> Int} {cl : Nat} (hi : InsOk rl log cl 10 i)
  (h3 : ¬ i.op = 3) (h4 : ¬ i.op = 4) (h5 : ¬ i.op = 5) (h6 : ¬ i.op = 6) (h7 : ¬ i.op = 7) (h8 : ¬ i.op = 8) (h9 : ¬ i.op = 9) :
  Calls Tryz.prog 48 #[.slice (some ⟨g, 0, none⟩) 10 gc, .agg #[.int .i64 i.op, .int .i64 i.a, .int .i64 i.b, .int .i64 i.c, .int .i64 i.n]] w fun e w' =>
   ∃ sv, e = .returned sv /\ (((regsI r i).2 = [] /\ sv = .slice none 0 0) \/ ∃ t, (regsI r i).2 = [t]) /\ SeenAt w' sv (regsI r i).2 /\ RegsR w' g (regsI r i).1 /\ w.grownBy w' (some g) := by
 obtain ⟨op, a, b, c, n⟩ := i;dsimp only at h3 h4 h5 h6 h7 h8 h9 |-;unfold InsOk at hi;unfold regsI;dsimp only at hi |-;by_cases h1 : op = 1
 ·subst h1
  simp only [if_true] at hi |-;refine (reg_1 a b c n g r w hr hi.1.1 hi.1.2).mono ?_;rintro e w' ⟨rfl, k1, k2⟩;exact ⟨_, rfl, .inl (by simp), J2h _, k1, k2⟩
 rw [if_neg h1] at hi |-;by_cases h2 : op = 2
 ·subst h2
  simp only [if_true] at hi |-;refine (reg_2 a b c n g r w hr hi.1.1 hi.1.2 hi.2.1.1 hi.2.1.2).mono ?_;rintro e w' ⟨rfl, k1, k2⟩;exact ⟨_, rfl, .inl (by simp), J2h _, k1, k2⟩
 rw [if_neg h2] at hi |-;rw [if_neg h3, if_neg h4, if_neg h5, if_neg h6, if_neg h7, if_neg h8, if_neg h9] at hi;by_cases h10 : op = 10
 ·subst h10
  simp only [if_true] at hi |-;refine (Jle a b c n g r w hr hi.1.1 hi.1.2 hi.2.1.1 hi.2.1.2).mono ?_;rintro e w' ⟨rfl, k1, k2⟩;exact ⟨_, rfl, .inl (by simp), J2h _, k1, k2⟩
 rw [if_neg h10] at hi |-;by_cases h11 : op = 11
 ·subst h11
  simp only [if_true] at hi |-;by_cases hlo : r a.toNat < 0
  ·rw [if_pos (Or.inl hlo)]
   refine (Jet a b c n g r _ w hr rfl hi.1.1 hi.1.2 hlo).mono ?_;rintro e w' ⟨rfl, k1, k2⟩;exact ⟨_, rfl, .inl (by simp), J2h _, k1, k2⟩
  ·by_cases hhi : n <= r a.toNat
   ·rw [if_pos (Or.inr hhi)]
    refine (Jer a b c n g r _ w hr rfl hi.1.1 hi.1.2 hlo hhi).mono ?_;rintro e w' ⟨rfl, k1, k2⟩;exact ⟨_, rfl, .inl (by simp), J2h _, k1, k2⟩
   ·rw [if_neg (by omega)]
    refine (Jes a b c n g r _ w hr rfl hi.1.1 hi.1.2 hlo (by omega)).mono ?_;rintro e w' ⟨rfl, k1, k2⟩;exact ⟨_, rfl, .inl (by simp), J2h _, k1, k2⟩
 rw [if_neg h11] at hi |-;by_cases h12 : op = 12
 ·subst h12
  simp only [if_true] at hi |-;refine (Jlf a b c n g r w hr).mono ?_;rintro e w' ⟨rfl, k1, k2⟩;exact ⟨_, rfl, .inl (by simp), J2h _, k1, k2⟩
 rw [if_neg h12] at hi |-;obtain ⟨⟨o0, o1⟩, ⟨a0, a1⟩, ⟨b0, b1⟩, ⟨c0, c1⟩, _⟩ := hi;have hb1 := hb b.toNat (by omega);have hb2 := hb c.toNat (by omega);by_cases h29 : op = 29
 ·rw [if_pos (Or.inl h29)]
  refine (Jcy op a b c n g r w hr o0 o1 a0 a1 b0 b1 c0 c1 h29 hb1 hb2).mono ?_;rintro e w' ⟨sv, rfl, k0, k1, k2⟩;exact ⟨sv, rfl, .inr ⟨_, rfl⟩, k0, k1, k2⟩
 by_cases h30 : op = 30
 ·rw [if_pos (Or.inr h30)]
  refine (Jcz op a b c n g r w hr o0 o1 a0 a1 b0 b1 c0 c1 h30 hb1 hb2).mono ?_;rintro e w' ⟨sv, rfl, k0, k1, k2⟩;exact ⟨sv, rfl, .inr ⟨_, rfl⟩, k0, k1, k2⟩
 rw [if_neg (by omega)];refine (Jeu op a b c n g r w hr o0 o1 a0 a1 b0 b1 c0 c1 h29 h30 hb1 hb2).mono ?_;rintro e w' ⟨rfl, k1, k2⟩;exact ⟨_, rfl, .inl (by simp), J2h _, k1, k2⟩

theorem Jen (i : Ins) (g : Nat) {gc : Nat} (r : Nat -> Int) (w : World) (hr : RegsR w g r) (b0 : 0 <= i.b) (b1 : i.b < 10) :
  Calls Tryz.prog 64 #[.slice (some ⟨g, 0, none⟩) 10 gc, .agg #[.int .i64 i.op, .int .i64 i.a, .int .i64 i.b, .int .i64 i.c, .int .i64 i.n]] w fun e w' => e = .returned (.int .i64 (idxI r i)) /\ More w w' := by
 unfold idxI;by_cases h : i.op = 5 \/ i.op = 6
 ·rw [if_pos h]
  exact Jaq i.op i.a i.b i.c i.n _ h w
 ·rw [if_neg h]
  exact Jar i.op i.a i.b i.c i.n g (r i.b.toNat) (fun e => h (.inl e)) (fun e => h (.inr e)) b0 b1 w (hr i.b.toNat (by omega)).1
end
section
open Go.RowKit
set_option linter.unusedVariables false
theorem info2 : (Tryz.prog.info? 2).map (fun i => (i.zero, i.size, i.bytes)) = some (some (.int .i64 0), 1, 8) := by kernel_rfl
theorem Jim : (Tryz.prog.info? 65).map (fun i => (i.zero, i.size, i.bytes)) = some (some (.slice none 0 0), 1, 24) := by kernel_rfl

def J2i (m : Mem) (j : Nat) : List Value := (List.range (m.len j)).map fun i => .int .i64 (m.wd j i)
theorem J2o (m : Mem) (j : Nat) : (J2i m j).length = m.len j := by simp [J2i]
theorem J81 (m : Mem) (j : Nat) : ∀ u ∈ J2i m j, u.oneCell' = true := by
 intro u hu;simp only [J2i, List.mem_map] at hu;obtain ⟨i, _, rfl⟩ := hu
 rfl
theorem J46 (m : Mem) (j i : Nat) (h : i < m.len j) : (J2i m j)[i]? = some (.int .i64 (m.wd j i)) := by simp [J2i, h]

structure CpAt (w : World) (base : Nat) (m : Mem) (k : Nat) (v : Value) (G C : Nat -> Nat) : Prop where
 own : w.ownsRow base 65 1 v k ((List.range k).map fun j => .slice (some ⟨G j, 0, none⟩) (m.len j) (C j))
 row : ∀ j, j < k -> w.ownsRow base 2 1 (.slice (some ⟨G j, 0, none⟩) (m.len j) (C j)) (m.len j) (J2i m j)
 apart : ∀ j, j < k -> v.ownBlock ≠ some (G j)
 apart2 : ∀ j j', j < k -> j' < k -> j ≠ j' -> G j ≠ G j'

theorem CpAt.start (w : World) (base : Nat) (m : Mem) : CpAt w base m 0 (.slice none 0 0) (fun _ => 0) (fun _ => 0) :=
 ⟨World.ownsRow_nil _ _ _ _, fun j hj => absurd hj (Nat.not_lt_zero _), fun j hj => absurd hj (Nat.not_lt_zero _), fun j j' hj => absurd hj (Nat.not_lt_zero _)⟩

theorem CpAt.lt {w : World} {base : Nat} {m : Mem} {k : Nat} {v : Value} {G C : Nat -> Nat} (c : CpAt w base m k v G C) (j : Nat) (hj : j < k) : G j < w.heap.size := ((c.row j hj).lt _ rfl).2

theorem CpAt.own3 {wr w2 : World} {base : Nat} {m : Mem} {k : Nat} {v : Value} {G C : Nat -> Nat} (c : CpAt wr base m k v G C) (o o3 : Obj) (gr2 : (wr.alloc o).grownBy w2 (some wr.heap.size)) :
  (w2.alloc o3).ownsRow base 65 1 v k ((List.range k).map fun j => .slice (some ⟨G j, 0, none⟩) (m.len j) (C j)) :=
 ((c.own.alloc o).kept gr2 (by
  cases hb : v.ownBlock with
  | none => left; rfl
  | some b => right; have := (c.own.lt b hb).2; simp; omega)).alloc o3

theorem CpAt.step {wr w2 w4 : World} {base : Nat} {m : Mem} {k : Nat} {v : Value} {G C : Nat -> Nat} (c : CpAt wr base m k v G C) (o o3 : Obj) (g cap g2 cap2 : Nat)
  (own2 : w2.ownsRow base 2 1 (.slice (some ⟨g, 0, none⟩) (m.len k) cap) (m.len k) (J2i m k)) (gr2 : (wr.alloc o).grownBy w2 (some wr.heap.size)) (hg : wr.heap.size <= g)
  (own4 : w4.ownsRow base 65 1 (.slice (some ⟨g2, 0, none⟩) (k + 1) cap2) (k + 1) (((List.range k).map fun j => .slice (some ⟨G j, 0, none⟩) (m.len j) (C j)) ++ [.slice (some ⟨g, 0, none⟩) (m.len k) cap]))
  (gr4 : (w2.alloc o3).grownBy w4 v.ownBlock) (hat : v.ownBlock = some g2 \/ g2 = w2.heap.size + 1) :
  CpAt w4 base m (k + 1) (.slice (some ⟨g2, 0, none⟩) (k + 1) cap2) (fun j => if j = k then g else G j) (fun j => if j = k then cap else C j) := by
 have hs1 : wr.heap.size + 1 <= w2.heap.size := by have := gr2.size; simpa using this
 have hgl : g < w2.heap.size := ((own2.lt _ rfl).2);have hvl : ∀ b, v.ownBlock = some b -> b < wr.heap.size := fun b hb => ((c.own.lt b hb).2)
 refine ⟨?_, fun j hj => ?_, fun j hj => ?_, fun j j' hj hj' hne => ?_⟩
 ·have e : ((List.range (k + 1)).map fun j => (Value.slice (some ⟨(if j = k then g else G j), 0, none⟩) (m.len j) (if j = k then cap else C j)))
    = ((List.range k).map fun j => (Value.slice (some ⟨G j, 0, none⟩) (m.len j) (C j))) ++ [.slice (some ⟨g, 0, none⟩) (m.len k) cap] := by
   rw [List.range_succ, List.map_append]
   congr 1
   ·refine List.map_congr_left fun j hj => ?_
    have : j ≠ k := by have := List.mem_range.1 hj; omega
    simp [this]
   ·simp
  rw [e];exact own4
 ·by_cases e : j = k
  ·subst e
   simp only [if_true]
   exact (own2.alloc o3).kept gr4 (by
    cases hb : v.ownBlock with
    | none => right; simp [Value.ownBlock]
    | some b => right; have := hvl b hb; simp [Value.ownBlock]; omega)
  ·simp only [e, if_false]
   have hj' : j < k := by omega
   have hl := c.lt j hj';refine ((((c.row j hj').alloc o).kept gr2 (by right; simp [Value.ownBlock]; omega)).alloc o3).kept gr4 (by right; simp only [Value.ownBlock]; exact fun h => c.apart j hj' h.symm)
 ·simp only [Value.ownBlock]
  intro h;simp only [Option.some.injEq] at h;by_cases e : j = k
  ·simp only [e, if_true] at h
   rcases hat with h1 | h1
   ·have := hvl g2 h1; omega
   ·omega
  ·simp only [e, if_false] at h
   have hj' : j < k := by omega
   rcases hat with h1 | h1
   ·exact c.apart j hj' (by rw [h1, h])
   ·have := c.lt j hj'; omega
 ·by_cases e : j = k
  ·by_cases e' : j' = k
   ·omega
   ·simp only [e, e', if_true, if_false]
    have := c.lt j' (by omega);omega
  ·by_cases e' : j' = k
   ·simp only [e, e', if_true, if_false]
    have := c.lt j (by omega);omega
   ·simp only [e, e', if_false]
    exact c.apart2 j j' (by omega) (by omega) hne
def flatS : List Se -> List Value
 | [] => []
 | s :: l => .int .i64 s.kind :: .int .i64 s.a :: .int .i64 s.b :: flatS l
theorem J5o : ∀ l : List Se, (flatS l).length = l.length * 3
 | [] => rfl
 | s :: l => by simp [flatS, J5o l]; omega
theorem J3y : ∀ l l' : List Se, flatS (l ++ l') = flatS l ++ flatS l'
 | [], _ => rfl
 | s :: l, l' => by simp [flatS, J3y l l']
theorem Jbg : ∀ (l : List Se) (i : Nat) (s : Se), l[i]? = some s -> (flatS l)[i * 3]? = some (.int .i64 s.kind) /\ (flatS l)[i * 3 + 1]? = some (.int .i64 s.a) /\ (flatS l)[i * 3 + 2]? = some (.int .i64 s.b)
 | [], i, s, h => by simp at h
 | x :: l, 0, s, h => by simp at h; subst h; simp [flatS]
 | x :: l, i + 1, s, h => by
  have := Jbg l i s (by simpa using h);rw [show (i + 1) * 3 = i * 3 + 1 + 1 + 1 by omega, flatS];simpa using this

def SeenOwn (w : World) (base : Nat) (v : Value) (l : List Se) : Prop := w.ownsRow base 96 3 v l.length (flatS l)

theorem SeenOwn.at_ {w : World} {base : Nat} {v : Value} {l : List Se} (h : SeenOwn w base v l) (hb : l.length < 4611686018427387904) : SeenAt w v l := by
 by_cases h0 : l.length = 0
 ·rcases h.2 with ⟨rfl, _⟩ | ⟨g, cap, cur, rfl, _⟩
  ·have : l = [] := List.eq_nil_of_length_eq_zero h0
   subst this;exact ⟨none, 0, 0, 0, rfl, fun h => absurd h (Nat.not_lt_zero _), fun i s h => by simp at h, by simp⟩
  ·have : l = [] := List.eq_nil_of_length_eq_zero h0
   subst this;exact ⟨_, 0, 0, cap, rfl, fun h => absurd h (Nat.not_lt_zero _), fun i s h => by simp at h, by simp⟩
 ·obtain ⟨g, cap, rfl, _, _⟩ := World.ownsRow.form h (by omega)
  refine ⟨_, g, 0, cap, rfl, fun _ => rfl, fun i s hs => ?_, hb⟩;have hi : i < l.length := (List.getElem?_eq_some_iff.1 hs).1;obtain ⟨f0, f1, f2⟩ := Jbg l i s hs;simp only [Nat.zero_add];exact ⟨by rw [World.ownsRow.cellAt h _ (by omega)]; exact f0, by rw [World.ownsRow.cellAt h _ (by omega)]; exact f1, by rw [World.ownsRow.cellAt h _ (by omega)]; exact f2⟩

theorem SeenOwn.kept {w w' : World} {base : Nat} {v : Value} {l : List Se} (h : SeenOwn w base v l) {row : Option Nat} (hg : w.grownBy w' row) (hr : ∀ b, row = some b -> b < base) : SeenOwn w' base v l := by
 refine World.ownsRow.kept h hg ?_;cases hv : v.ownBlock with
 | none => left; rfl
 | some b =>
  right;intro e;have h1 := (World.ownsRow.lt h b hv).1;have h2 := hr b e.symm;omega

structure MemOwn (w : World) (lo hi : Nat) (m : Mem) (mv : Value) (mb mc : Nat) (G C : Nat -> Nat) : Prop where
 val : 0 < m.ml -> mv = .slice (some ⟨mb, 0, none⟩) m.ml mc /\ lo <= mb /\ mb < hi
 nil : m.ml = 0 -> ∃ a c, mv = .slice a 0 c
 rows : ∀ j, j < m.ml -> w.cell? ⟨mb, j, none⟩ = some (.slice (some ⟨G j, 0, none⟩) (m.len j) (C j))
 words : ∀ j, j < m.ml -> ∀ i, i < m.len j -> w.cell? ⟨G j, i, none⟩ = some (.int .i64 (m.wd j i)) /\ w.frozen? ⟨G j, i, none⟩ = false
 at_ : ∀ j, j < m.ml -> lo <= G j /\ G j < hi /\ G j ≠ mb
 apart : ∀ j j', j < m.ml -> j' < m.ml -> j ≠ j' -> G j ≠ G j'

theorem CpAt.own_ {w : World} {base : Nat} {m : Mem} {v : Value} {G C : Nat -> Nat} (c : CpAt w base m m.ml v G C) : ∃ mb mc, MemOwn w base w.heap.size m v mb mc G C := by
 by_cases h0 : m.ml = 0
 ·have hv : ∃ a cap, v = .slice a 0 cap := by
   rcases c.own.2 with ⟨h, _⟩ | ⟨g, cap, cur, h, _⟩
   ·exact ⟨_, _, h⟩
   ·exact ⟨_, cap, by rw [h, h0]⟩
  exact ⟨0, 0, fun h => by omega, fun _ => hv, fun j hj => by omega, fun j hj => by omega, fun j hj => by omega, fun j j' hj => by omega⟩
 ·obtain ⟨g, cap, rfl, hb, hl⟩ := World.ownsRow.form c.own (by omega)
  refine ⟨g, cap, fun _ => ⟨rfl, hb, hl⟩, fun h => absurd h h0, fun j hj => ?_, fun j hj i hi => ⟨?_, World.ownsRow.frozenAt (c.row j hj) i⟩, fun j hj => ⟨((c.row j hj).lt _ rfl).1, ((c.row j hj).lt _ rfl).2, fun e => c.apart j hj (by rw [e]; rfl)⟩, c.apart2⟩
  ·rw [World.ownsRow.cellAt c.own j (by omega)]
   simp [hj]
  ·rw [World.ownsRow.cellAt (c.row j hj) i (by omega)]
   exact J46 m j i hi

theorem MemOwn.in_ {w : World} {lo hi : Nat} {m : Mem} {mv : Value} {mb mc : Nat} {G C : Nat -> Nat} (h : MemOwn w lo hi m mv mb mc G C) (f1 : m.ml < 4611686018427387904) (f2 : ∀ i, i < m.ml -> m.len i < 4611686018427387904) :
  ∃ l : MLoc, mv = .slice l.ma m.ml l.mc /\ MIn w m l := by
 by_cases h0 : m.ml = 0
 ·obtain ⟨a, c, hv⟩ := h.nil h0
  refine ⟨⟨a, 0, 0, c, fun _ => none, fun _ => 0, fun _ => 0, fun _ => 0⟩, by rw [hv, h0], fun h => by omega, fun j hj => by omega, fun j hj => by omega, fun j hj => by omega, f1, f2⟩
 ·refine ⟨⟨some ⟨mb, 0, none⟩, mb, 0, mc, fun j => some ⟨G j, 0, none⟩, C, G, fun _ => 0⟩, (h.val (by omega)).1, fun _ => rfl, fun j hj => ?_, fun j hj _ => rfl, fun j hj i hi => ?_, f1, f2⟩
  ·simpa using h.rows j hj
  ·simpa using (h.words j hj i hi).1
end
section
open Go.RowKit
set_option linter.unusedSimpArgs false
set_option linter.unusedVariables false
theorem J27 {w : World} {base : Nat} {e : TypeId} {size : Nat} {v : Value} {n : Nat} {xs : List Value} (h : w.ownsRow base e size v n xs) : ∃ a c, v = .slice a n c := by
 rcases h.2 with ⟨h, h0⟩ | ⟨g, cap, cur, h, _⟩
 ·exact ⟨none, 0, by rw [h, h0]⟩
 ·exact ⟨_, cap, h⟩
end
section
open Go.RowKit
set_option linter.unusedVariables false
def Wr (w : World) (b o : Nat) (v : Value) : Prop := w.cell? ⟨b, o, none⟩ = some v /\ w.frozen? ⟨b, o, none⟩ = false
theorem Wr.kept {w w' : World} {row : Option Nat} (hg : w.grownBy w' row) {b o : Nat} {v : Value} (h : Wr w b o v) (hne : some b ≠ row) : Wr w' b o v :=
 ⟨hg.cell h.1 hne, (J6e hg h.1 hne).trans h.2⟩
theorem Wr.same {w : World} {b o : Nat} {v : Value} (h : Wr w b o v) (u : Value) : Wr (w.setCell ⟨b, o, none⟩ u) b o u :=
 ⟨World.cell?_setCell_same _ _ _ h.1, by rw [World.frozen?_setCell]; exact h.2⟩
theorem Wr.other {w : World} {b o : Nat} {v : Value} (h : Wr w b o v) (b' o' : Nat) (u : Value) (hne : b' ≠ b \/ o' ≠ o) : Wr (w.setCell ⟨b', o', none⟩ u) b o v :=
 ⟨by rw [World.cell?_setCell_other _ _ _ _ (by intro e; simp only [Addr.mk.injEq] at e; omega)]; exact h.1, by rw [World.frozen?_setCell]; exact h.2⟩

section
variable {w wr w' : World} {rv cv : Value} {B : Nat} {s : St} {k : Nat} {sv mv : Value} {mb mc : Nat} {G C : Nat -> Nat}

end
end
section
open Go.RowKit
set_option linter.unusedSimpArgs false
set_option linter.unusedVariables false
theorem Jjr (j : Nat) (h : j < 10) : (madeCells #[.int .i64 0] 10)[j]? = some (.int .i64 0) := by
 unfold madeCells;simp [h, Nat.mod_one]
theorem Jk1 (o x y : Int) : B64 (opI o x y) := by
  unfold opI
  repeat' split
  all_goals first | exact Jb4 _ | exact J4a

theorem J4g {r : Nat -> Int} (hr : ∀ j, j < 10 -> B64 (r j)) (a v : Int) (hv : B64 v) : ∀ j, j < 10 -> B64 (setR r a v j) := by
  intro j hj;unfold setR
  split
  · exact hv
  · exact hr j hj

theorem Jev {r : Nat -> Int} (hr : ∀ j, j < 10 -> B64 (r j)) (i : Ins) (hb : i.op = 2 -> i.b.toNat < 10) (hn : B64 i.n) : ∀ j, j < 10 -> B64 ((regsI r i).1 j) := by
  unfold regsI;by_cases h1 : i.op = 1
  · rw [if_pos h1]; exact J4g hr _ _ hn
  rw [if_neg h1];by_cases h2 : i.op = 2
  · rw [if_pos h2]; exact J4g hr _ _ (hr _ (hb h2))
  rw [if_neg h2];by_cases h3 : i.op = 10
  · rw [if_pos h3]; exact J4g hr _ _ (Jb4 _)
  rw [if_neg h3];by_cases h4 : i.op = 11
  · rw [if_pos h4]
    dsimp only
    split
    · exact J4g hr _ _ J4a
    · exact hr
  rw [if_neg h4];by_cases h5 : i.op = 12
  · rw [if_pos h5]; exact hr
  rw [if_neg h5];exact J4g hr _ _ (Jk1 _ _ _)
theorem J9m (r : Nat -> Int) (i : Ins) : (regsI r i).2.length <= 1 := by
  unfold regsI
  repeat' split
  all_goals first | exact Nat.zero_le _ | exact Nat.le_refl _

def baseN (len : Nat -> Nat) : Nat -> Nat
  | 0 => 0
  | k + 1 => baseN len k + len k
theorem Jb7 (len : Nat -> Nat) : ∀ k, (∀ j, j < k -> len j <= 64) -> baseN len k <= 64 * k
  | 0, _ => by simp [baseN]
  | k + 1, h => by
    have := Jb7 len k (fun j hj => h j (by omega));have := h k (by omega);simp only [baseN];omega
theorem J4c (len : Nat -> Nat) (a : Nat) : ∀ k, a <= k -> baseN len a <= baseN len k
  | 0, h => by obtain rfl : a = 0 := by omega
               exact Nat.le_refl _
  | k + 1, h => by
    by_cases e : a = k + 1
    · subst e; exact Nat.le_refl _
    · have := J4c len a k (by omega)
      simp only [baseN];omega

theorem J83 (p : Prg) (m : Mem) (hlen : ∀ i, i < m.ml -> (m.len i : Int) = J0c (p.log i)) : ∀ j, j <= m.ml -> (baseN m.len j : Int) = baseI p.log j
  | 0, _ => rfl
  | j + 1, h => by
    simp only [baseN, baseI];rw [<- J83 p m hlen j (by omega), <- hlen j (by omega)]
    push_cast
    rfl
end
section
open Go.RowKit
set_option linter.unusedSimpArgs false
set_option linter.unusedVariables false
set_option maxRecDepth 8000
def Told (p : Prg) (f : Int × Int) : Prop := (¬ p.Ok 200 8 /\ f = (2, 0)) \/ (p.Ok 200 8 /\ ∃ l, Known p l /\ f = J0e p l)
theorem Told.ok {p : Prg} {f : Int × Int} (h : Told p f) (h0 : f.1 = 0) : p.Ok 200 8 /\ ∃ l, Known p l /\ (J0e p l).1 = 0 := by
 rcases h with ⟨_, rfl⟩ | ⟨h1, l, h2, rfl⟩
 ·exact absurd h0 (by decide)
 ·exact ⟨h1, l, h2, h0⟩
theorem Told.one {p : Prg} {f g : Int × Int} (h : Told p f) (k : Told p g) : f = g := by
 rcases h with ⟨h1, rfl⟩ | ⟨h1, l, h2, rfl⟩
 ·rcases k with ⟨_, rfl⟩ | ⟨k1, _⟩
  ·rfl
  ·exact absurd k1 h1
 ·rcases k with ⟨k1, _⟩ | ⟨_, l', k2, rfl⟩
  ·exact absurd h1 k1
  ·exact Jdk h1 h2 k2

theorem Jca (p : Prg) (l : Loc) (w : World) (hp : PIn w p l) (hf : p.Fit) :
  Calls Tryz.prog 36 #[.agg #[.slice l.ra p.rl l.rc, .slice l.ca p.cl l.cc]] w fun e w' => ∃ f : Int × Int, Told p f /\ e = .returned (.agg #[.int .i64 f.1, .int .i64 f.2]) /\ More w w' := by
 by_cases hok : p.Ok 200 8
 ·refine (J7e p l w hp hok (fun i hi => (hf.ins i hi).2.2.2.2)).mono ?_
  rintro e w' ⟨l', h1, rfl, m⟩;exact ⟨_, .inr ⟨hok, l', h1, rfl⟩, rfl, m⟩
 ·exact (Jc9 p l w hp hok).mono (fun e w' ⟨h1, h2⟩ => ⟨(2, 0), .inl ⟨hok, rfl⟩, h1, h2⟩)
theorem Jgv (p : Prg) (l : Loc) (w : World) (hp : PIn w p l) (hok : p.Ok 200 8) :
  Calls Tryz.prog 12 #[.agg #[.slice l.ra p.rl l.rc, .slice l.ca p.cl l.cc]] w fun e w' => e = .returned (.bool true) /\ More w w' := by
 refine (Jeo p l _ hp).mono ?_;rintro e w' ⟨r, rfl, hr, m⟩;cases r with
 | true => exact ⟨rfl, m⟩
 | false => exact absurd (hr.2 hok) (by simp)
theorem J8z (p : Prg) (l : Loc) (m : Mem) (ml : MLoc) (w : World) (hp : PIn w p l) (hm : MRaw w m ml) (r : Bool) (hr : r = true ↔ J1t p.rl p.log m.ml m.len) :
  Calls Tryz.prog 5 #[.agg #[.slice l.ra p.rl l.rc, .slice l.ca p.cl l.cc], .slice ml.ma m.ml ml.mc] w fun e w' => e = .returned (.bool r) /\ More w w' := by
 refine (Jho l.ra p.rl l.rc l.ca p.cl l.cc ml.ma m.ml ml.mc l.rb l.ro ml.mb ml.mo p.log p.sec ml.A m.len ml.C w hp.hr hp.regs hm.hm hm.lists).mono ?_;rintro e w' ⟨q, rfl, hq, mm⟩;have : q = r := Bool.eq_iff_iff.2 (hq.trans hr.symm);rw [this];exact ⟨rfl, mm⟩
theorem J88 {p : Prg} {m : Mem} (hok : p.Ok 200 8) (h : J1t p.rl p.log m.ml m.len) : m.ml = p.rl /\ m.ml <= 6 /\ (∀ i, i < m.ml -> (m.len i : Int) = J0c (p.log i)) /\ ∀ i, i < m.ml -> m.len i <= 64 := by
 have h1 : m.ml = p.rl := h.2.1;refine ⟨h1, by rw [h1]; exact hok.1.1, fun i hi => h.2.2 i (by omega), fun i hi => ?_⟩;have h2 := h.2.2 i (by omega);have h3 := hok.1.2 i (by omega);have h4 := J1b (k := (p.log i).toNat) (by omega);unfold J0c at h2;omega
theorem Jik : (Tryz.prog.info? 59).map (fun i => (i.zero, i.size, i.bytes)) = some (some (.agg #[.int .i64 0, .bool false]), 2, 16) := by kernel_rfl

abbrev st (b : Bool) (g c : Nat) : Value := .agg #[.bool b, .slice (some ⟨g, 0, none⟩) 8 c]

theorem J0p (b : Bool) (g c : Nat) (s : KS) (w : World) (h : KRow w g s) :
  Calls Tryz.prog 31 #[st b g c] w fun e w' => ∃ g' c', e = .returned (st b g' c') /\ w.heap.size <= g' /\ KRow w' g' s /\ More w w' := by
 obtain ⟨i0, hi, hz0, hz1, hz2⟩ := info_parts Jik;have Hi : Hid (Tryz.prog.info? 59 = some i0 /\ i0.zero = some (.agg #[.int .i64 0, .bool false]) /\ i0.size = 2 /\ i0.bytes = 16) := ⟨hi, hz0, hz1, hz2⟩;have H : Hid (KRow w g s) := h;clear h hi hz0 hz1 hz2;unfold st;obtain ⟨W, HW⟩ : ∃ W : World, Hid (W = (w.alloc (.cells #[.bool b, .slice (some ⟨g, 0, none⟩) 8 c] 51)).alloc (.cells #[.bool false, .slice none 0 0] 51)) := ⟨_, rfl⟩;have HmW : Hid (More w W /\ W.heap.size = w.heap.size + 2) := HW.out ▸ ⟨((More.refl _).alloc _ _).alloc _ _, by simp⟩;have a0 : W.cell? ⟨w.heap.size, 0, none⟩ = some (.bool b) := by rw [HW.out]; go_simp
 have a1 : W.cell? ⟨w.heap.size, 1, none⟩ = some (.slice (some ⟨g, 0, none⟩) 8 c) := by rw [HW.out]; go_simp
 obtain ⟨S, HS⟩ : ∃ S : World -> Prop, Hid (∀ w', S w' ↔ (w'.cell? ⟨w.heap.size, 0, none⟩ = some (.bool b) /\ w'.cell? ⟨w.heap.size, 1, none⟩ = some (.slice (some ⟨g, 0, none⟩) 8 c))) := ⟨_, fun _ => Iff.rfl⟩;have HS0 : S W.drew := (HS.out _).2 ⟨a0, a1⟩;have hne : Nonempty { w' // S w' } := ⟨⟨_, HS0⟩⟩;have k0 : ∀ i : { w' // S w' }, i.val.cell? ⟨w.heap.size, 0, none⟩ = some (.bool b) := fun i => ((HS.out _).1 i.property).1
 have k1 : ∀ i : { w' // S w' }, i.val.cell? ⟨w.heap.size, 1, none⟩ = some (.slice (some ⟨g, 0, none⟩) 8 c) := fun i => ((HS.out _).1 i.property).2
 have Hown : Hid ((W.drew.alloc (.cells #[] 59)).ownsRow W.heap.size 59 2 (.slice (some ⟨W.heap.size, 0, none⟩) 0 0) 0 []) := World.ownsRow_made W.drew #[] 0 (Nat.le_refl _) (by unfold maxLen; omega) rfl;have Hnews : Hid (∀ j u, (flatK s 8)[j]? = some u -> (W.drew.alloc (.cells #[] 59)).cell? ((⟨g, 0, none⟩ : Addr).add j) = some u) := Jgd (H.out.more (HmW.out.1.drew.alloc _ _));go_enter Tryz.func31, Tryz.ntmps31;go_wp2_with (fail)
 rw [<- HW.out];refine J01 (S := S) [(0, true), (1, true), (3, true), (4, true), (2, false), (5, false), (6, true), (7, false)] (by kernel_rfl) (by kernel_rfl) (by kernel_rfl) HS0 ?_
 iterate 4 (refine J00 rfl (by kernel_rfl) (fun K hK => ?_); go_simp; refine hK _ _ ?_; clear hK K)
 refine J02 rfl (by kernel_rfl) (fun K hK => ?_); go_simp;refine hK _ _ ((HS.out _).2 ⟨((More.refl _).drew.alloc _ _).cell a0, ((More.refl _).drew.alloc _ _).cell a1⟩) ?_; clear hK K;refine J02 rfl (by kernel_rfl) (fun K hK => ?_);refine wp_append_lies _ (.tmp 5) (.tmp 7) 49 rfl W.heap.size 59 i0 (.agg #[.int .i64 0, .bool false]) 2 16 Tryz.underlying49 Hi.out.1 Hi.out.2.1 Hi.out.2.2.1 Hi.out.2.2.2 rfl (by decide) (.slice (some ⟨W.heap.size, 0, none⟩) 0 0) 0 [] rfl Hown.out ⟨g, 0, none⟩ 8 c (flatK s 8) rfl (by rw [J11]) Hnews.out (J51 s 8) (by decide) (by unfold maxLen; omega) (by omega) (by simp) (W.heap.size + 1) (by simp) ?_;intro g1 cap w2 own2 gr2 hat2 hlt2;simp only [Value.ownBlock] at gr2 hat2;simp only [Nat.zero_add, List.nil_append] at own2;have hs2 := HmW.out.2
 have Hg1 : Hid (w.heap.size + 1 < g1) := by
  show _ < _;rcases hat2 with q | q
  ·have := Option.some.inj q; omega
  ·omega
 have Hm2 : Hid (More w w2) := ((HmW.out.1.alloc _ _).drew).grownBy gr2 (fun k hk => by have := Option.some.inj hk; omega);have c0 : w2.cell? ⟨w.heap.size, 0, none⟩ = some (.bool b) := gr2.cell (((More.refl _).drew.alloc _ _).cell a0) (by simp; omega);have c1 : w2.cell? ⟨w.heap.size, 1, none⟩ = some (.slice (some ⟨g, 0, none⟩) 8 c) := gr2.cell (((More.refl _).drew.alloc _ _).cell a1) (by simp; omega)
 have hblk : w2.heap[w.heap.size + 1]? = some (.cells #[.bool false, .slice none 0 0] 51 (0, 0)) := by
  have e1 := gr2.block (w.heap.size + 1) (by simp; omega) (by simp; omega);rw [e1];have e2 := ((More.refl W).alloc #[] 59).drew.block (w.heap.size + 1) (by omega);rw [e2, HW.out];have := heap_alloc_last (w.alloc (.cells #[.bool b, .slice (some ⟨g, 0, none⟩) 8 c] 51)) (.cells #[.bool false, .slice none 0 0] 51);simpa using this
 have d0 : w2.cell? ⟨w.heap.size + 1, 0, none⟩ = some (.bool false) := by rw [cell_of_row _ _ _ _ _ _ hblk]; rfl
 have d1 : w2.cell? ⟨w.heap.size + 1, 1, none⟩ = some (.slice none 0 0) := by rw [cell_of_row _ _ _ _ _ _ hblk]; rfl
 have f0 : w2.frozen? ⟨w.heap.size + 1, 0, none⟩ = false := frozen_of_row _ _ _ _ _ hblk;have f1 : w2.frozen? ⟨w.heap.size + 1, 1, none⟩ = false := frozen_of_row _ _ _ _ _ hblk;have HR : Hid (KRow w2 g1 s) := Jae own2;clear own2 gr2 hat2 hlt2 hblk hs2 a0 a1
 go_simp
 refine hK _ _ ((HS.out _).2 ⟨c0, c1⟩) ?_; clear hK K;refine J00 rfl (by kernel_rfl) (fun K hK => ?_); go_simp; refine hK _ _ ?_; clear hK K;refine J02 rfl (by kernel_rfl) (fun K hK => ?_); go_simp;refine hK _ _ ((HS.out _).2 ⟨by go_simp, by go_simp⟩) ?_; clear hK K;refine J04 ?_;clear k0 k1 hne HS0;go_wp2;refine bodyPost_ret (by simp [results, Tryz.results31, go_sem, *]) rfl ⟨g1, cap, rfl, by have := Hg1.out; omega, ?_, ?_⟩
 ·exact (HR.out.other (by have := Hg1.out; omega) _ _).other (by have := Hg1.out; omega) _ _
 ·exact (Hm2.out.setCell (by simp) _).setCell (by simp) _
end
section
open Go.RowKit
set_option linter.unusedVariables false
theorem J24 (a : Int) (sa : Bool) (w : World) :
  Calls Tryz.prog 52 #[kn a sa] w fun e w' => e = .returned (kn (bnd a) sa) /\ w' = (w.alloc (.cells #[.int .i64 (bnd a), .bool sa] 59)).alloc (.cells #[.int .i64 (bnd a), .bool sa] 59) := by
 unfold kn;by_cases h : a < 0
 ·rw [J4p (.inl h)]
  go_enter Tryz.func52, Tryz.ntmps52;go_wp2;exact bodyPost_ret (by simp [results, Tryz.results52, go_sem]) rfl ⟨rfl, rfl⟩
 by_cases h2 : 16 < a
 ·rw [J4p (.inr h2)]
  go_enter Tryz.func52, Tryz.ntmps52;go_wp2;exact bodyPost_ret (by simp [results, Tryz.results52, go_sem]) rfl ⟨rfl, rfl⟩
 ·rw [Jba (by omega) (by omega)]
  go_enter Tryz.func52, Tryz.ntmps52;go_wp2;exact bodyPost_ret (by simp [results, Tryz.results52, go_sem]) rfl ⟨rfl, rfl⟩

theorem J4i (n : Int) (h0 : 0 <= n) (w : World) :
  Calls Tryz.prog 53 #[.int .i64 n] w fun e w' => e = .returned (.int .i64 (bnd n)) /\ w' = w := by
 by_cases h2 : 16 < n
 ·rw [J4p (.inr h2)]
  go_enter Tryz.func53, Tryz.ntmps53;go_wp2;go_ret;exact ⟨rfl, rfl⟩
 ·rw [Jba (by omega) (by omega)]
  go_enter Tryz.func53, Tryz.ntmps53;go_wp2;go_ret;exact ⟨rfl, rfl⟩

theorem Jam (b : Nat) (hb : b <= 16) (w : World) :
  Calls Tryz.prog 67 #[.int .i64 b] w fun e w' => e = .returned (.int .i64 (2 ^ b)) /\ w' = w := by
 obtain ⟨R, hR⟩ : ∃ R : Int, (2 ^ b : Int) = R := ⟨_, rfl⟩;rw [hR];have HR : Hid ((2 ^ b : Int) = R) := hR;clear hR;go_enter Tryz.func67, Tryz.ntmps67;go_wp2;go_loopg [3, 4] b (fun g nv iv wr => ∃ (k : Nat) (p : Int), k + g = b /\ Hid (p = ((2 ^ k : Nat) : Int)) /\ 0 <= p /\ p <= 65536 /\ nv = .int .i64 p /\ iv = .int .i64 k /\ wr = w)
 case atStart => exact ⟨0, 1, by omega, rfl, by omega, by omega, rfl, rfl, rfl⟩
 case round =>
  obtain ⟨k, p, hkg, hp, p0, p1, rfl, rfl, rfl⟩ := hrel;cases gk with
  | zero =>
   obtain rfl : k = b := by omega
   go_wp2;go_ret;exact ⟨by rw [<- HR.out, hp.out, Jed]; rfl, rfl⟩
  | succ g =>
   have hk : (k : Int) < b := by omega
   have hpn : Hid (p + p = ((2 ^ (k + 1) : Nat) : Int)) := by show p + p = _; rw [hp.out, Nat.pow_succ]; omega
   have hpb : p <= 32768 := by
    rw [hp.out];have : 2 ^ k <= 2 ^ 15 := Nat.pow_le_pow_right (by omega) (by omega);omega
   go_wp2;go_roundg g
   case measure => omega
   case rel => exact ⟨k + 1, p + p, by omega, hpn, by omega, by omega, rfl, by first | rfl | simp, rfl⟩

theorem Jhs (a n : Int) (sa : Bool) (h : bnd a = 17) (w : World) :
  Calls Tryz.prog 51 #[kn a sa, .int .i64 n] w fun e w' => e = .returned (.bool true) /\ More w w' := by
 have c := fun w => J24 a sa w
 rw [h] at c;unfold kn at *;go_enter Tryz.func51, Tryz.ntmps51;go_wp2_with (fail)
 refine (c _).mono ?_;rintro e w1 ⟨rfl, rfl⟩;go_wp2;go_ret;exact ⟨rfl, (((More.refl _).alloc _ _).alloc _ _).alloc _ _⟩

theorem Jex (a n x p : Int) (sa : Bool) (hx : bnd a = x) (hn : (x == 17) = false)
  (cp : ∀ w : World, Calls Tryz.prog 67 #[.int .i64 x] w fun e w' => e = .returned (.int .i64 p) /\ w' = w) (r : Bool) (hr : (decide (0 <= n) && decide (n < p)) = r) (w : World) :
  Calls Tryz.prog 51 #[kn a sa, .int .i64 n] w fun e w' => e = .returned (.bool r) /\ More w w' := by
 have c := fun w => J24 a sa w
 rw [hx] at c;clear hx;unfold kn at *;by_cases h0 : 0 <= n
 ·have e0 : decide (0 <= n) = true := by simp [h0]
  rw [e0, Bool.true_and] at hr;go_enter Tryz.func51, Tryz.ntmps51;go_wp2_with (fail)
  refine (c _).mono ?_;rintro e w1 ⟨rfl, rfl⟩;go_wp2_with (fail)
  refine (cp _).mono ?_;rintro e w1 ⟨rfl, rfl⟩;go_wp2;go_ret;exact ⟨rfl, (((More.refl _).alloc _ _).alloc _ _).alloc _ _⟩
 ·have e0 : decide (0 <= n) = false := by simp [h0]
  rw [e0, Bool.false_and] at hr;subst hr;go_enter Tryz.func51, Tryz.ntmps51;go_wp2_with (fail)
  refine (c _).mono ?_;rintro e w1 ⟨rfl, rfl⟩;go_wp2;go_ret;exact ⟨rfl, (((More.refl _).alloc _ _).alloc _ _).alloc _ _⟩

theorem Jd2 (a n : Int) (sa : Bool) (w : World) :
  Calls Tryz.prog 51 #[kn a sa, .int .i64 n] w fun e w' => e = .returned (.bool (hasI a n)) /\ More w w' := by
 by_cases h : bnd a = 17
 ·rw [Jgf h]; exact Jhs a n sa h w
 ·have hr := J0w a
  have e : hasI a n = (decide (0 <= n) && decide (n < 2 ^ (bnd a).toNat)) := by
   unfold hasI; rw [Bool.eq_iff_iff]; simp [h]
  rw [e];have hb : (((bnd a).toNat : Nat) : Int) = bnd a := by omega
  exact Jex a n (bnd a) _ sa rfl (by simp [h]) (fun w => hb ▸ Jam (bnd a).toNat (by omega) w) _ rfl w

theorem J75 (n : Int) (n0 : -9223372036854775808 <= n) (n1 : n <= 9223372036854775807) (w : World) :
  Calls Tryz.prog 33 #[.int .i64 n] w fun e w' => e = .returned (kn (fitI n) false) /\ More w w' := by
 obtain ⟨f, hf⟩ : ∃ f, fitI n = f := ⟨_, rfl⟩;have hfr := J8y n
 have c : ∀ k : Nat, k <= 16 -> ∀ w : World, Calls Tryz.prog 51 #[.agg #[.int .i64 (k : Int), .bool false], .int .i64 n] w fun e w' => e = .returned (.bool (decide (f <= (k : Int)))) /\ More w w' := by
  intro k hk w;have h := Jd2 (k : Int) n false w;rw [Jgg n0 n1, Jba (by omega) (by omega), hf] at h;exact h
 rw [hf] at hfr |-;have C : Hid (∀ k : Nat, k <= 16 -> ∀ w : World, Calls Tryz.prog 51 #[.agg #[.int .i64 (k : Int), .bool false], .int .i64 n] w fun e w' => e = .returned (.bool (decide (f <= (k : Int)))) /\ More w w') := c;clear hf c n0 n1;unfold kn;go_enter Tryz.func33, Tryz.ntmps33;go_wp2;have hz : Hid (More w (w.alloc (.cells #[.int .i64 0, .bool false] 59)) /\ ∃ wz : World, More (w.alloc (.cells #[.int .i64 0, .bool false] 59)) wz) := ⟨(More.refl _).alloc _ _, _, More.refl _⟩;go_loopg [3] 17 (fun g iv wr => ∃ k : Nat, k + g = 17 /\ (k : Int) <= f /\ iv = .int .i64 k /\ Hid (More (w.alloc (.cells #[.int .i64 0, .bool false] 59)) wr))
 case atStart => exact ⟨0, by omega, by omega, rfl, More.refl _⟩
 case round =>
  obtain ⟨k, hkg, hkf, rfl, Hm⟩ := hrel
  have kf : ∀ {w' : World}, More wr w' -> ∀ j, w'.frozen? ⟨w.heap.size, j, none⟩ = false := fun h j => by
   have hb := (Hm.out.trans h).block w.heap.size (by simp);rw [heap_alloc_last] at hb;exact frozen_of_row _ _ _ _ _ hb
  have k0 : ∀ {w' : World}, More wr w' -> w'.cell? ⟨w.heap.size, 0, none⟩ = some (.int .i64 0) := fun h => (Hm.out.trans h).cell (by go_simp)
  have k1 : ∀ {w' : World}, More wr w' -> w'.cell? ⟨w.heap.size, 1, none⟩ = some (.bool false) := fun h => (Hm.out.trans h).cell (by go_simp)
  have hm : Hid (More w wr) := ((More.refl _).alloc _ _).trans Hm.out;cases gk with
  | zero =>
   obtain rfl : k = 17 := by omega
   obtain rfl : f = 17 := by omega
   have q0 := k0 (More.refl _);have q1 := k1 (More.refl _);have q2 := kf (More.refl _) 0;have q3 := kf (More.refl _) 1;clear k0 k1 kf;go_wp2;exact bodyPost_ret (by simp [results, Tryz.results33, go_sem, *]) rfl ⟨rfl, (hm.out.setCell (by simp) _).setCell (by simp) _⟩
  | succ g =>
   have hk17 : (k : Int) < 17 := by omega
   go_wp2_with (fail)
   refine (C.out k (by omega) _).mono ?_;rintro e w1 ⟨rfl, m1⟩;have q0 := k0 m1;have q1 := k1 m1;have q2 := kf m1 0;have q3 := kf m1 1;have Hm1 : Hid (More wr w1) := m1;clear k0 k1 kf m1;by_cases hfk : f <= (k : Int)
   ·obtain rfl : f = (k : Int) := by omega
    go_wp2;exact bodyPost_ret (by simp [results, Tryz.results33, go_sem, *]) rfl ⟨rfl, ((hm.out.trans Hm1.out).setCell (by simp) _).setCell (by simp) _⟩
   ·go_wp2
    go_roundg g
    case measure => omega
    case rel => exact ⟨k + 1, by omega, by omega, by first | rfl | simp, Hm.out.trans Hm1.out⟩

theorem Jhu (a b x y r : Int) (sa sb : Bool) (c1 : (∀ w : World, Calls Tryz.prog 52 #[kn a sa] w fun e w' => e = .returned (kn x sa) /\ w' = (w.alloc (.cells #[.int .i64 x, .bool sa] 59)).alloc (.cells #[.int .i64 x, .bool sa] 59))) (c2 : (∀ w : World, Calls Tryz.prog 52 #[kn b sb] w fun e w' => e = .returned (kn y sb) /\ w' = (w.alloc (.cells #[.int .i64 y, .bool sb] 59)).alloc (.cells #[.int .i64 y, .bool sb] 59))) (lt : Bool) (hlt : decide (y < x) = lt) (hr : r = bif lt then y else x) (w : World) :
  Calls Tryz.prog 34 #[kn a sa, kn b sb] w fun e w' => e = .returned (kn r sa) /\ More w w' := by
 unfold kn at *;cases lt
 all_goals
  simp only [cond_true, cond_false] at hr;subst hr;go_enter Tryz.func34, Tryz.ntmps34;go_wp2_with (fail)
  refine (c1 _).mono ?_;rintro e w1 ⟨rfl, rfl⟩;go_wp2_with (fail)
  refine (c2 _).mono ?_;rintro e w1 ⟨rfl, rfl⟩;go_wp2;exact bodyPost_ret (by simp [results, Tryz.results34, go_sem]) rfl ⟨rfl, ((((((((More.refl _).alloc _ _).alloc _ _).alloc _ _).alloc _ _).alloc _ _).alloc _ _).alloc _ _)⟩

theorem J74 (a b : Int) (sa sb : Bool) (w : World) :
  Calls Tryz.prog 34 #[kn a sa, kn b sb] w fun e w' => e = .returned (kn (min (bnd a) (bnd b)) sa) /\ More w w' :=
 Jhu a b _ _ _ sa sb (J24 a sa) (J24 b sb) _ rfl (by by_cases h : bnd b < bnd a <;> simp [h] <;> omega) w

theorem Jht (a b x y r : Int) (sa sb : Bool) (c1 : (∀ w : World, Calls Tryz.prog 52 #[kn a sa] w fun e w' => e = .returned (kn x sa) /\ w' = (w.alloc (.cells #[.int .i64 x, .bool sa] 59)).alloc (.cells #[.int .i64 x, .bool sa] 59))) (c2 : (∀ w : World, Calls Tryz.prog 52 #[kn b sb] w fun e w' => e = .returned (kn y sb) /\ w' = (w.alloc (.cells #[.int .i64 y, .bool sb] 59)).alloc (.cells #[.int .i64 y, .bool sb] 59))) (lt : Bool) (hlt : decide (x < y) = lt) (hr : r = bif lt then y else x) (w : World) :
  Calls Tryz.prog 50 #[kn a sa, kn b sb] w fun e w' => e = .returned (kn r (sa || sb)) /\ More w w' := by
 unfold kn at *;cases lt <;> cases sa
 all_goals
  simp only [cond_true, cond_false] at hr;subst hr;go_enter Tryz.func50, Tryz.ntmps50;go_wp2_with (fail)
  refine (c1 _).mono ?_;rintro e w1 ⟨rfl, rfl⟩;go_wp2_with (fail)
  refine (c2 _).mono ?_;rintro e w1 ⟨rfl, rfl⟩;go_wp2;exact bodyPost_ret (by simp [results, Tryz.results50, go_sem]) rfl ⟨rfl, ((((((((More.refl _).alloc _ _).alloc _ _).alloc _ _).alloc _ _).alloc _ _).alloc _ _).alloc _ _)⟩

theorem Jat (a b : Int) (sa sb : Bool) (w : World) :
  Calls Tryz.prog 50 #[kn a sa, kn b sb] w fun e w' => e = .returned (kn (max (bnd a) (bnd b)) (sa || sb)) /\ More w w' :=
 Jht a b _ _ _ sa sb (J24 a sa) (J24 b sb) _ rfl (by by_cases h : bnd a < bnd b <;> simp [h] <;> omega) w
theorem Jlh (a b x y g l : Int) (sa sb : Bool) (c1 : (∀ w : World, Calls Tryz.prog 52 #[kn a sa] w fun e w' => e = .returned (kn x sa) /\ w' = (w.alloc (.cells #[.int .i64 x, .bool sa] 59)).alloc (.cells #[.int .i64 x, .bool sa] 59))) (c2 : (∀ w : World, Calls Tryz.prog 52 #[kn b sb] w fun e w' => e = .returned (kn y sb) /\ w' = (w.alloc (.cells #[.int .i64 y, .bool sb] 59)).alloc (.cells #[.int .i64 y, .bool sb] 59))) (lt : Bool) (hlt : decide (x < y) = lt) (hg : g = bif lt then y else x) (hl : l = bif lt then x else y) (g0 : 0 <= g) (g1 : g <= 17) (l0 : 0 <= l) (l1 : l <= 17) (u : Int) (cu : ∀ w : World, Calls Tryz.prog 53 #[.int .i64 (g + 1)] w fun e w' => e = .returned (.int .i64 u) /\ w' = w) (hz : (l == 0) = true) (w : World) :
  Calls Tryz.prog 35 #[.int .i64 1, kn a sa, kn b sb] w fun e w' => e = .returned (kn (g) (sa || sb)) /\ More w w' := by
 unfold kn at *;cases lt <;> cases sa
 all_goals
  simp only [cond_true, cond_false] at hg hl;subst hg hl;go_enter Tryz.func35, Tryz.ntmps35;go_wp2_with (fail)
  refine (c1 _).mono ?_;rintro e w1 ⟨rfl, rfl⟩;go_wp2_with (fail)
  refine (c2 _).mono ?_;rintro e w1 ⟨rfl, rfl⟩;go_wp2_with (fail)
  refine (cu _).mono ?_;rintro e w1 ⟨rfl, rfl⟩;go_wp2;exact bodyPost_ret (by simp [results, Tryz.results35, go_sem]) rfl ⟨rfl, (((((((((More.refl _).alloc _ _).alloc _ _).alloc _ _).alloc _ _).alloc _ _).alloc _ _).alloc _ _).alloc _ _)⟩

theorem rop_1 (a b x y g l : Int) (sa sb : Bool) (c1 : (∀ w : World, Calls Tryz.prog 52 #[kn a sa] w fun e w' => e = .returned (kn x sa) /\ w' = (w.alloc (.cells #[.int .i64 x, .bool sa] 59)).alloc (.cells #[.int .i64 x, .bool sa] 59))) (c2 : (∀ w : World, Calls Tryz.prog 52 #[kn b sb] w fun e w' => e = .returned (kn y sb) /\ w' = (w.alloc (.cells #[.int .i64 y, .bool sb] 59)).alloc (.cells #[.int .i64 y, .bool sb] 59))) (lt : Bool) (hlt : decide (x < y) = lt) (hg : g = bif lt then y else x) (hl : l = bif lt then x else y) (g0 : 0 <= g) (g1 : g <= 17) (l0 : 0 <= l) (l1 : l <= 17) (u : Int) (cu : ∀ w : World, Calls Tryz.prog 53 #[.int .i64 (g + 1)] w fun e w' => e = .returned (.int .i64 u) /\ w' = w) (hz : (l == 0) = false) (w : World) :
  Calls Tryz.prog 35 #[.int .i64 1, kn a sa, kn b sb] w fun e w' => e = .returned (kn (u) (sa || sb)) /\ More w w' := by
 unfold kn at *;cases lt <;> cases sa
 all_goals
  simp only [cond_true, cond_false] at hg hl;subst hg hl;go_enter Tryz.func35, Tryz.ntmps35;go_wp2_with (fail)
  refine (c1 _).mono ?_;rintro e w1 ⟨rfl, rfl⟩;go_wp2_with (fail)
  refine (c2 _).mono ?_;rintro e w1 ⟨rfl, rfl⟩;go_wp2_with (fail)
  refine (cu _).mono ?_;rintro e w1 ⟨rfl, rfl⟩;go_wp2;exact bodyPost_ret (by simp [results, Tryz.results35, go_sem]) rfl ⟨rfl, (((((((((More.refl _).alloc _ _).alloc _ _).alloc _ _).alloc _ _).alloc _ _).alloc _ _).alloc _ _).alloc _ _)⟩

theorem Jli (a b x y g l : Int) (sa sb : Bool) (c1 : (∀ w : World, Calls Tryz.prog 52 #[kn a sa] w fun e w' => e = .returned (kn x sa) /\ w' = (w.alloc (.cells #[.int .i64 x, .bool sa] 59)).alloc (.cells #[.int .i64 x, .bool sa] 59))) (c2 : (∀ w : World, Calls Tryz.prog 52 #[kn b sb] w fun e w' => e = .returned (kn y sb) /\ w' = (w.alloc (.cells #[.int .i64 y, .bool sb] 59)).alloc (.cells #[.int .i64 y, .bool sb] 59))) (lt : Bool) (hlt : decide (x < y) = lt) (hg : g = bif lt then y else x) (hl : l = bif lt then x else y) (g0 : 0 <= g) (g1 : g <= 17) (l0 : 0 <= l) (l1 : l <= 17) (u : Int) (cu : ∀ w : World, Calls Tryz.prog 53 #[.int .i64 (g + l)] w fun e w' => e = .returned (.int .i64 u) /\ w' = w) (hz : (l == 0) = true) (w : World) :
  Calls Tryz.prog 35 #[.int .i64 3, kn a sa, kn b sb] w fun e w' => e = .returned (kn (0) (sa || sb)) /\ More w w' := by
 unfold kn at *;cases lt <;> cases sa
 all_goals
  simp only [cond_true, cond_false] at hg hl;subst hg hl;go_enter Tryz.func35, Tryz.ntmps35;go_wp2_with (fail)
  refine (c1 _).mono ?_;rintro e w1 ⟨rfl, rfl⟩;go_wp2_with (fail)
  refine (c2 _).mono ?_;rintro e w1 ⟨rfl, rfl⟩;go_wp2_with (fail)
  refine (cu _).mono ?_;rintro e w1 ⟨rfl, rfl⟩;go_wp2;exact bodyPost_ret (by simp [results, Tryz.results35, go_sem]) rfl ⟨rfl, (((((((((More.refl _).alloc _ _).alloc _ _).alloc _ _).alloc _ _).alloc _ _).alloc _ _).alloc _ _).alloc _ _)⟩

theorem rop_3 (a b x y g l : Int) (sa sb : Bool) (c1 : (∀ w : World, Calls Tryz.prog 52 #[kn a sa] w fun e w' => e = .returned (kn x sa) /\ w' = (w.alloc (.cells #[.int .i64 x, .bool sa] 59)).alloc (.cells #[.int .i64 x, .bool sa] 59))) (c2 : (∀ w : World, Calls Tryz.prog 52 #[kn b sb] w fun e w' => e = .returned (kn y sb) /\ w' = (w.alloc (.cells #[.int .i64 y, .bool sb] 59)).alloc (.cells #[.int .i64 y, .bool sb] 59))) (lt : Bool) (hlt : decide (x < y) = lt) (hg : g = bif lt then y else x) (hl : l = bif lt then x else y) (g0 : 0 <= g) (g1 : g <= 17) (l0 : 0 <= l) (l1 : l <= 17) (u : Int) (cu : ∀ w : World, Calls Tryz.prog 53 #[.int .i64 (g + l)] w fun e w' => e = .returned (.int .i64 u) /\ w' = w) (hz : (l == 0) = false) (w : World) :
  Calls Tryz.prog 35 #[.int .i64 3, kn a sa, kn b sb] w fun e w' => e = .returned (kn (u) (sa || sb)) /\ More w w' := by
 unfold kn at *;cases lt <;> cases sa
 all_goals
  simp only [cond_true, cond_false] at hg hl;subst hg hl;go_enter Tryz.func35, Tryz.ntmps35;go_wp2_with (fail)
  refine (c1 _).mono ?_;rintro e w1 ⟨rfl, rfl⟩;go_wp2_with (fail)
  refine (c2 _).mono ?_;rintro e w1 ⟨rfl, rfl⟩;go_wp2_with (fail)
  refine (cu _).mono ?_;rintro e w1 ⟨rfl, rfl⟩;go_wp2;exact bodyPost_ret (by simp [results, Tryz.results35, go_sem]) rfl ⟨rfl, (((((((((More.refl _).alloc _ _).alloc _ _).alloc _ _).alloc _ _).alloc _ _).alloc _ _).alloc _ _).alloc _ _)⟩
theorem rop_4 (a b x y g l : Int) (sa sb : Bool) (c1 : (∀ w : World, Calls Tryz.prog 52 #[kn a sa] w fun e w' => e = .returned (kn x sa) /\ w' = (w.alloc (.cells #[.int .i64 x, .bool sa] 59)).alloc (.cells #[.int .i64 x, .bool sa] 59))) (c2 : (∀ w : World, Calls Tryz.prog 52 #[kn b sb] w fun e w' => e = .returned (kn y sb) /\ w' = (w.alloc (.cells #[.int .i64 y, .bool sb] 59)).alloc (.cells #[.int .i64 y, .bool sb] 59))) (lt : Bool) (hlt : decide (x < y) = lt) (hg : g = bif lt then y else x) (hl : l = bif lt then x else y) (w : World) :
  Calls Tryz.prog 35 #[.int .i64 4, kn a sa, kn b sb] w fun e w' => e = .returned (kn (l) (sa || sb)) /\ More w w' := by
 unfold kn at *;cases lt <;> cases sa
 all_goals
  simp only [cond_true, cond_false] at hg hl;subst hg hl;go_enter Tryz.func35, Tryz.ntmps35;go_wp2_with (fail)
  refine (c1 _).mono ?_;rintro e w1 ⟨rfl, rfl⟩;go_wp2_with (fail)
  refine (c2 _).mono ?_;rintro e w1 ⟨rfl, rfl⟩;go_wp2;exact bodyPost_ret (by simp [results, Tryz.results35, go_sem]) rfl ⟨rfl, (((((((((More.refl _).alloc _ _).alloc _ _).alloc _ _).alloc _ _).alloc _ _).alloc _ _).alloc _ _).alloc _ _)⟩

theorem rop_5 (a b x y g l : Int) (sa sb : Bool) (c1 : (∀ w : World, Calls Tryz.prog 52 #[kn a sa] w fun e w' => e = .returned (kn x sa) /\ w' = (w.alloc (.cells #[.int .i64 x, .bool sa] 59)).alloc (.cells #[.int .i64 x, .bool sa] 59))) (c2 : (∀ w : World, Calls Tryz.prog 52 #[kn b sb] w fun e w' => e = .returned (kn y sb) /\ w' = (w.alloc (.cells #[.int .i64 y, .bool sb] 59)).alloc (.cells #[.int .i64 y, .bool sb] 59))) (lt : Bool) (hlt : decide (x < y) = lt) (hg : g = bif lt then y else x) (hl : l = bif lt then x else y) (w : World) :
  Calls Tryz.prog 35 #[.int .i64 5, kn a sa, kn b sb] w fun e w' => e = .returned (kn (g) (sa || sb)) /\ More w w' := by
 unfold kn at *;cases lt <;> cases sa
 all_goals
  simp only [cond_true, cond_false] at hg hl;subst hg hl;go_enter Tryz.func35, Tryz.ntmps35;go_wp2_with (fail)
  refine (c1 _).mono ?_;rintro e w1 ⟨rfl, rfl⟩;go_wp2_with (fail)
  refine (c2 _).mono ?_;rintro e w1 ⟨rfl, rfl⟩;go_wp2;exact bodyPost_ret (by simp [results, Tryz.results35, go_sem]) rfl ⟨rfl, (((((((((More.refl _).alloc _ _).alloc _ _).alloc _ _).alloc _ _).alloc _ _).alloc _ _).alloc _ _).alloc _ _)⟩

theorem rop_6 (a b x y g l : Int) (sa sb : Bool) (c1 : (∀ w : World, Calls Tryz.prog 52 #[kn a sa] w fun e w' => e = .returned (kn x sa) /\ w' = (w.alloc (.cells #[.int .i64 x, .bool sa] 59)).alloc (.cells #[.int .i64 x, .bool sa] 59))) (c2 : (∀ w : World, Calls Tryz.prog 52 #[kn b sb] w fun e w' => e = .returned (kn y sb) /\ w' = (w.alloc (.cells #[.int .i64 y, .bool sb] 59)).alloc (.cells #[.int .i64 y, .bool sb] 59))) (lt : Bool) (hlt : decide (x < y) = lt) (hg : g = bif lt then y else x) (hl : l = bif lt then x else y) (w : World) :
  Calls Tryz.prog 35 #[.int .i64 6, kn a sa, kn b sb] w fun e w' => e = .returned (kn (g) (sa || sb)) /\ More w w' := by
 unfold kn at *;cases lt <;> cases sa
 all_goals
  simp only [cond_true, cond_false] at hg hl;subst hg hl;go_enter Tryz.func35, Tryz.ntmps35;go_wp2_with (fail)
  refine (c1 _).mono ?_;rintro e w1 ⟨rfl, rfl⟩;go_wp2_with (fail)
  refine (c2 _).mono ?_;rintro e w1 ⟨rfl, rfl⟩;go_wp2;exact bodyPost_ret (by simp [results, Tryz.results35, go_sem]) rfl ⟨rfl, (((((((((More.refl _).alloc _ _).alloc _ _).alloc _ _).alloc _ _).alloc _ _).alloc _ _).alloc _ _).alloc _ _)⟩
end
end Go.Proofs.YtlbfbjeilfcjeaaGreat
