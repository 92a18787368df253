/-
  What the machine's Do comes to, instruction by instruction.
-/
import Derived.Test.YtdlhlhbbhjbkpaaReach
import Derived.Test.YtdlhlhbbhjbkpaaOperate
namespace Go.Proofs.Ytdlhlhbbhjbkpaa
open Go.RowKit
set_option linter.unusedVariables false
set_option linter.unusedSimpArgs false
set_option maxRecDepth 8000

set_option maxHeartbeats 400000 in
theorem do_1 (a b c n : Int) (w : World) (M : Nat) (rv cv : Value) (x : Ms) (se : List Se) (h : Run w M rv cv x se) (a0 : 0 ≤ a) (a1 : a < 10)  :
    Calls Try.prog 40 #[.pointer (some ⟨M, 0, none⟩), .agg #[.int .i64 1, .int .i64 a, .int .i64 b, .int .i64 c, .int .i64 n]] w fun e w' => e = .returned (.tuple #[]) ∧ Run w' M rv cv { x with r := setR x.r a n } se ∧ Below M w w' := by
  have hM := h.lt
  have hn : ¬ M = w.heap.size := by omega
  have hn' : ¬ w.heap.size = M := by omega
  have hwr := wrapEq
  have H : Hid (Run w M rv cv x se) := h
  have Ha : Hid (a.toNat < 10) := (by omega : a.toNat < 10)
  obtain ⟨ya, fa⟩ := h.r a.toNat (by omega)
  clear h
  go_enter Try.func40, Try.ntmps40
  go_wp2
  go_region
  go_wp2
  go_end0
  exact ⟨rfl, (((H.out.setR a.toNat Ha.out n).alloc _).drew), below_drew (below_alloc (below_put (Below.refl _ _) _ _) (by have := H.out.lt; simp; omega) _)⟩

set_option maxHeartbeats 400000 in
theorem do_12 (a b c n : Int) (w : World) (M : Nat) (rv cv : Value) (x : Ms) (se : List Se) (h : Run w M rv cv x se) (a0 : 0 ≤ a) (a1 : a < 10)  :
    Calls Try.prog 40 #[.pointer (some ⟨M, 0, none⟩), .agg #[.int .i64 12, .int .i64 a, .int .i64 b, .int .i64 c, .int .i64 n]] w fun e w' => e = .returned (.tuple #[]) ∧ Run w' M rv cv x se ∧ Below M w w' := by
  have hM := h.lt
  have hn : ¬ M = w.heap.size := by omega
  have hn' : ¬ w.heap.size = M := by omega
  have hwr := wrapEq
  have H : Hid (Run w M rv cv x se) := h
  have Ha : Hid (a.toNat < 10) := (by omega : a.toNat < 10)
  clear h
  go_enter Try.func40, Try.ntmps40
  go_wp2
  go_region
  go_wp2
  go_end0
  exact ⟨rfl, ((H.out.alloc _).drew), below_drew (below_alloc (Below.refl _ _) (Nat.le_of_lt H.out.lt) _)⟩

set_option maxHeartbeats 400000 in
theorem do_7 (a b c n : Int) (w : World) (M : Nat) (rv cv : Value) (x : Ms) (se : List Se) (h : Run w M rv cv x se) (a0 : 0 ≤ a) (a1 : a < 10)  :
    Calls Try.prog 40 #[.pointer (some ⟨M, 0, none⟩), .agg #[.int .i64 7, .int .i64 a, .int .i64 b, .int .i64 c, .int .i64 n]] w fun e w' => e = .returned (.tuple #[]) ∧ Run w' M rv cv { x with next := n } se ∧ Below M w w' := by
  have hM := h.lt
  have hn : ¬ M = w.heap.size := by omega
  have hn' : ¬ w.heap.size = M := by omega
  have hwr := wrapEq
  have H : Hid (Run w M rv cv x se) := h
  have Ha : Hid (a.toNat < 10) := (by omega : a.toNat < 10)
  obtain ⟨ya, fa⟩ := h.next
  clear h
  go_enter Try.func40, Try.ntmps40
  go_wp2
  go_region
  go_wp2
  go_end0
  exact ⟨rfl, (((H.out.setNext n).alloc _).drew), below_drew (below_alloc (below_put (Below.refl _ _) _ _) (by have := H.out.lt; simp; omega) _)⟩

set_option maxHeartbeats 400000 in
theorem do_2 (a b c n : Int) (w : World) (M : Nat) (rv cv : Value) (x : Ms) (se : List Se) (h : Run w M rv cv x se) (a0 : 0 ≤ a) (a1 : a < 10) (b0 : 0 ≤ b) (b1 : b < 10) :
    Calls Try.prog 40 #[.pointer (some ⟨M, 0, none⟩), .agg #[.int .i64 2, .int .i64 a, .int .i64 b, .int .i64 c, .int .i64 n]] w fun e w' => e = .returned (.tuple #[]) ∧ Run w' M rv cv { x with r := setR x.r a (x.r b.toNat) } se ∧ Below M w w' := by
  have hM := h.lt
  have hn : ¬ M = w.heap.size := by omega
  have hn' : ¬ w.heap.size = M := by omega
  have hwr := wrapEq
  have H : Hid (Run w M rv cv x se) := h
  have Ha : Hid (a.toNat < 10) := (by omega : a.toNat < 10)
  obtain ⟨ya, fa⟩ := h.r a.toNat (by omega)
  have yb := (h.r b.toNat (by omega)).1
  obtain ⟨y, hy⟩ : ∃ y, x.r b.toNat = y := ⟨_, rfl⟩
  rw [hy] at yb ⊢
  clear h hy
  go_enter Try.func40, Try.ntmps40
  go_wp2
  go_region
  go_wp2_with (fail)
  go_region
  go_wp2
  go_end0
  exact ⟨rfl, (((H.out.setR a.toNat Ha.out y).alloc _).drew.drew), below_drew (below_drew (below_alloc (below_put (Below.refl _ _) _ _) (by have := H.out.lt; simp; omega) _))⟩

set_option maxHeartbeats 400000 in
theorem do_10 (a b c n : Int) (w : World) (M : Nat) (rv cv : Value) (x : Ms) (se : List Se) (h : Run w M rv cv x se) (a0 : 0 ≤ a) (a1 : a < 10) (b0 : 0 ≤ b) (b1 : b < 10) :
    Calls Try.prog 40 #[.pointer (some ⟨M, 0, none⟩), .agg #[.int .i64 10, .int .i64 a, .int .i64 b, .int .i64 c, .int .i64 n]] w fun e w' => e = .returned (.tuple #[]) ∧ Run w' M rv cv { x with r := setR x.r a (wrap64 (x.r b.toNat + n)) } se ∧ Below M w w' := by
  have hM := h.lt
  have hn : ¬ M = w.heap.size := by omega
  have hn' : ¬ w.heap.size = M := by omega
  have hwr := wrapEq
  have H : Hid (Run w M rv cv x se) := h
  have Ha : Hid (a.toNat < 10) := (by omega : a.toNat < 10)
  obtain ⟨ya, fa⟩ := h.r a.toNat (by omega)
  have yb := (h.r b.toNat (by omega)).1
  obtain ⟨y, hy⟩ : ∃ y, x.r b.toNat = y := ⟨_, rfl⟩
  rw [hy] at yb ⊢
  clear h hy
  go_enter Try.func40, Try.ntmps40
  go_wp2
  go_region
  go_wp2_with (fail)
  go_region
  go_wp2
  go_end0
  exact ⟨rfl, (((H.out.setR a.toNat Ha.out (wrap64 (y + n))).alloc _).drew.drew), below_drew (below_drew (below_alloc (below_put (Below.refl _ _) _ _) (by have := H.out.lt; simp; omega) _))⟩

set_option maxHeartbeats 400000 in
theorem do_9 (a b c n : Int) (w : World) (M : Nat) (rv cv : Value) (x : Ms) (se : List Se) (h : Run w M rv cv x se) (a0 : 0 ≤ a) (a1 : a < 10)  :
    Calls Try.prog 40 #[.pointer (some ⟨M, 0, none⟩), .agg #[.int .i64 9, .int .i64 a, .int .i64 b, .int .i64 c, .int .i64 n]] w fun e w' => e = .returned (.tuple #[]) ∧ Run w' M rv cv { x with val := x.r a.toNat, fin := 1, ended := true } se ∧ Below M w w' := by
  have hM := h.lt
  have hn : ¬ M = w.heap.size := by omega
  have hn' : ¬ w.heap.size = M := by omega
  have hwr := wrapEq
  have H : Hid (Run w M rv cv x se) := h
  have Ha : Hid (a.toNat < 10) := (by omega : a.toNat < 10)
  have ya := (h.r a.toNat (by omega)).1
  obtain ⟨yv, fv⟩ := h.val
  obtain ⟨y, hy⟩ : ∃ y, x.r a.toNat = y := ⟨_, rfl⟩
  rw [hy] at ya ⊢
  clear h hy
  go_enter Try.func40, Try.ntmps40
  go_wp2
  go_region
  go_wp2_with (fail)
  refine (seq_finish _ M rv cv { x with val := y } se 1 (((H.out.setVal y).alloc _).drew)).mono ?_
  rintro e w2 ⟨rfl, r2, b2⟩
  have H2 : Hid (Run w2 M rv cv { x with val := y, fin := 1, ended := true } se ∧ Below M w w2) := ⟨r2, Below.trans (below_drew (below_alloc (below_put (Below.refl _ _) _ _) (by have := H.out.lt; simp; omega) _)) b2⟩
  clear r2 b2
  go_wp2
  go_end0
  exact ⟨rfl, H2.out.1, H2.out.2⟩

set_option maxHeartbeats 400000 in
theorem do_8y (a b c n : Int) (w : World) (M : Nat) (rv cv : Value) (x : Ms) (se : List Se) (h : Run w M rv cv x se) (a0 : 0 ≤ a) (a1 : a < 10) (b0 : 0 ≤ b) (b1 : b < 10) (hh : holdsI c (x.r a.toNat) (x.r b.toNat) = true) :
    Calls Try.prog 40 #[.pointer (some ⟨M, 0, none⟩), .agg #[.int .i64 8, .int .i64 a, .int .i64 b, .int .i64 c, .int .i64 n]] w fun e w' => e = .returned (.tuple #[]) ∧ Run w' M rv cv { x with next := n } se ∧ Below M w w' := by
  have hM := h.lt
  have hn : ¬ M = w.heap.size := by omega
  have hn' : ¬ w.heap.size = M := by omega
  have hwr := wrapEq
  have H : Hid (Run w M rv cv x se) := h
  have Ha : Hid (a.toNat < 10) := (by omega : a.toNat < 10)
  have Hh : Hid (∀ w1, More w w1 → Calls Try.prog 60 #[.pointer (some ⟨M, 0, none⟩), .agg #[.int .i64 8, .int .i64 a, .int .i64 b, .int .i64 c, .int .i64 n]] w1 fun e w' => e = .returned (.bool true) ∧ More w1 w') := fun w1 m => by
    have := seq_holds 8 a b c n (x.r a.toNat) (x.r b.toNat) w1 M a0 a1 b0 b1 ((h.more m).r a.toNat (by omega)).1 ((h.more m).r b.toNat (by omega)).1 (h.more m).lt
    rw [hh] at this
    exact this
  clear h hh
  go_enter Try.func40, Try.ntmps40
  go_wp2
  go_region
  go_wp2_with (fail)
  refine (Hh.out _ ((More.refl _).alloc _ _).drew).mono ?_
  rintro e w2 ⟨rfl, m2⟩
  have j4 : w2.cell? ⟨w.heap.size, 4, none⟩ = some (.int .i64 n) := m2.cell (by go_simp)
  have Hm : Hid (More w w2) := ((More.refl _).alloc _ _).drew.trans m2
  clear m2
  obtain ⟨yv, fv⟩ := (H.out.more Hm.out).next
  go_wp2
  go_end0
  exact ⟨rfl, (H.out.more Hm.out).setNext n, below_put (Below.mono Hm.out (Nat.le_of_lt H.out.lt)) _ _⟩

set_option maxHeartbeats 400000 in
theorem do_8n (a b c n : Int) (w : World) (M : Nat) (rv cv : Value) (x : Ms) (se : List Se) (h : Run w M rv cv x se) (a0 : 0 ≤ a) (a1 : a < 10) (b0 : 0 ≤ b) (b1 : b < 10) (hh : holdsI c (x.r a.toNat) (x.r b.toNat) = false) :
    Calls Try.prog 40 #[.pointer (some ⟨M, 0, none⟩), .agg #[.int .i64 8, .int .i64 a, .int .i64 b, .int .i64 c, .int .i64 n]] w fun e w' => e = .returned (.tuple #[]) ∧ Run w' M rv cv x se ∧ Below M w w' := by
  have hM := h.lt
  have hn : ¬ M = w.heap.size := by omega
  have hn' : ¬ w.heap.size = M := by omega
  have hwr := wrapEq
  have H : Hid (Run w M rv cv x se) := h
  have Ha : Hid (a.toNat < 10) := (by omega : a.toNat < 10)
  have Hh : Hid (∀ w1, More w w1 → Calls Try.prog 60 #[.pointer (some ⟨M, 0, none⟩), .agg #[.int .i64 8, .int .i64 a, .int .i64 b, .int .i64 c, .int .i64 n]] w1 fun e w' => e = .returned (.bool false) ∧ More w1 w') := fun w1 m => by
    have := seq_holds 8 a b c n (x.r a.toNat) (x.r b.toNat) w1 M a0 a1 b0 b1 ((h.more m).r a.toNat (by omega)).1 ((h.more m).r b.toNat (by omega)).1 (h.more m).lt
    rw [hh] at this
    exact this
  clear h hh
  go_enter Try.func40, Try.ntmps40
  go_wp2
  go_region
  go_wp2_with (fail)
  refine (Hh.out _ ((More.refl _).alloc _ _).drew).mono ?_
  rintro e w2 ⟨rfl, m2⟩
  have j4 : w2.cell? ⟨w.heap.size, 4, none⟩ = some (.int .i64 n) := m2.cell (by go_simp)
  have Hm : Hid (More w w2) := ((More.refl _).alloc _ _).drew.trans m2
  clear m2
  obtain ⟨yv, fv⟩ := (H.out.more Hm.out).next
  go_wp2
  go_end0
  exact ⟨rfl, H.out.more Hm.out, Below.mono Hm.out (Nat.le_of_lt H.out.lt)⟩

set_option maxHeartbeats 400000 in
theorem do_11lo (a b c n y : Int) (w : World) (M : Nat) (rv cv : Value) (x : Ms) (se : List Se) (h : Run w M rv cv x se) (a0 : 0 ≤ a) (a1 : a < 10) (hy : x.r a.toNat = y) (hl : y < 0) :
    Calls Try.prog 40 #[.pointer (some ⟨M, 0, none⟩), .agg #[.int .i64 11, .int .i64 a, .int .i64 b, .int .i64 c, .int .i64 n]] w fun e w' => e = .returned (.tuple #[]) ∧ Run w' M rv cv { x with r := setR x.r a 0 } se ∧ Below M w w' := by
  have hM := h.lt
  have hn : ¬ M = w.heap.size := by omega
  have hn' : ¬ w.heap.size = M := by omega
  have hwr := wrapEq
  have H : Hid (Run w M rv cv x se) := h
  have Ha : Hid (a.toNat < 10) := (by omega : a.toNat < 10)
  obtain ⟨ya, fa⟩ := h.r a.toNat (by omega)
  rw [hy] at ya
  clear h hy
  go_enter Try.func40, Try.ntmps40
  go_wp2
  go_region
  go_wp2_with (fail)
  go_region
  go_wp2
  go_end0
  exact ⟨rfl, (((H.out.setR a.toNat Ha.out 0).alloc _).drew.drew), below_drew (below_drew (below_alloc (below_put (Below.refl _ _) _ _) (by have := H.out.lt; simp; omega) _))⟩

set_option maxHeartbeats 400000 in
theorem do_11hi (a b c n y : Int) (w : World) (M : Nat) (rv cv : Value) (x : Ms) (se : List Se) (h : Run w M rv cv x se) (a0 : 0 ≤ a) (a1 : a < 10) (hy : x.r a.toNat = y) (hl : ¬ y < 0) (hh : n ≤ y) :
    Calls Try.prog 40 #[.pointer (some ⟨M, 0, none⟩), .agg #[.int .i64 11, .int .i64 a, .int .i64 b, .int .i64 c, .int .i64 n]] w fun e w' => e = .returned (.tuple #[]) ∧ Run w' M rv cv { x with r := setR x.r a 0 } se ∧ Below M w w' := by
  have hM := h.lt
  have hn : ¬ M = w.heap.size := by omega
  have hn' : ¬ w.heap.size = M := by omega
  have hwr := wrapEq
  have H : Hid (Run w M rv cv x se) := h
  have Ha : Hid (a.toNat < 10) := (by omega : a.toNat < 10)
  obtain ⟨ya, fa⟩ := h.r a.toNat (by omega)
  rw [hy] at ya
  clear h hy
  have hl' : decide (y < 0) = false := by simp; omega
  go_enter Try.func40, Try.ntmps40
  go_wp2
  go_region
  go_wp2_with (fail)
  go_region
  go_wp2
  go_end0
  exact ⟨rfl, (((H.out.setR a.toNat Ha.out 0).alloc _).drew.drew), below_drew (below_drew (below_alloc (below_put (Below.refl _ _) _ _) (by have := H.out.lt; simp; omega) _))⟩

set_option maxHeartbeats 400000 in
theorem do_11in (a b c n y : Int) (w : World) (M : Nat) (rv cv : Value) (x : Ms) (se : List Se) (h : Run w M rv cv x se) (a0 : 0 ≤ a) (a1 : a < 10) (hy : x.r a.toNat = y) (hl : ¬ y < 0) (hh : y < n) :
    Calls Try.prog 40 #[.pointer (some ⟨M, 0, none⟩), .agg #[.int .i64 11, .int .i64 a, .int .i64 b, .int .i64 c, .int .i64 n]] w fun e w' => e = .returned (.tuple #[]) ∧ Run w' M rv cv x se ∧ Below M w w' := by
  have hM := h.lt
  have hn : ¬ M = w.heap.size := by omega
  have hn' : ¬ w.heap.size = M := by omega
  have hwr := wrapEq
  have H : Hid (Run w M rv cv x se) := h
  have Ha : Hid (a.toNat < 10) := (by omega : a.toNat < 10)
  obtain ⟨ya, fa⟩ := h.r a.toNat (by omega)
  rw [hy] at ya
  clear h hy
  have hl' : decide (y < 0) = false := by simp; omega
  go_enter Try.func40, Try.ntmps40
  go_wp2
  go_region
  go_wp2_with (fail)
  go_region
  go_wp2
  go_end0
  exact ⟨rfl, ((H.out.alloc _).drew.drew), below_drew (below_drew (below_alloc (Below.refl _ _) (Nat.le_of_lt H.out.lt) _))⟩

set_option maxHeartbeats 400000 in
theorem do_3_there (a b c n k : Int) (w : World) (M : Nat) (rv cv : Value) (x : Ms) (se : List Se) (h : Run w M rv cv x se) (a0 : 0 ≤ a) (a1 : a < 10) (se2 : List Se) (k0 : 0 ≤ k) (k1 : k < 384) (hR : ∀ w1, More w w1 → Calls Try.prog 59 #[.pointer (some ⟨M, 0, none⟩), .agg #[.int .i64 3, .int .i64 a, .int .i64 b, .int .i64 c, .int .i64 n], .int .i64 0] w1 fun e w' => e = .returned (.tuple #[.int .i64 k, .bool true]) ∧ Run w' M rv cv x se2 ∧ Below M w1 w') :
    Calls Try.prog 40 #[.pointer (some ⟨M, 0, none⟩), .agg #[.int .i64 3, .int .i64 a, .int .i64 b, .int .i64 c, .int .i64 n]] w fun e w' => e = .returned (.tuple #[]) ∧ Run w' M rv cv { x with r := setR x.r a (x.wd k.toNat) } se2 ∧ Below M w w' := by
  have hM := h.lt
  have hn : ¬ M = w.heap.size := by omega
  have hn' : ¬ w.heap.size = M := by omega
  have hwr := wrapEq
  have H : Hid (Run w M rv cv x se) := h
  have Ha : Hid (a.toNat < 10) := (by omega : a.toNat < 10)
  have HR : Hid (∀ w1, More w w1 → Calls Try.prog 59 #[.pointer (some ⟨M, 0, none⟩), .agg #[.int .i64 3, .int .i64 a, .int .i64 b, .int .i64 c, .int .i64 n], .int .i64 0] w1 fun e w' => e = .returned (.tuple #[.int .i64 k, .bool true]) ∧ Run w' M rv cv x se2 ∧ Below M w1 w') := hR
  have Hk : Hid (k.toNat < 384) := (by omega : k.toNat < 384)
  obtain ⟨y, hy⟩ : ∃ y, x.wd k.toNat = y := ⟨_, rfl⟩
  rw [hy]
  have Hy : Hid (x.wd k.toNat = y) := hy
  clear h hR hy
  go_enter Try.func40, Try.ntmps40
  go_wp2
  go_region
  go_wp2_with (fail)
  refine (HR.out _ ((More.refl _).alloc _ _).drew).mono ?_
  rintro e w2 ⟨rfl, r2, b2⟩
  have H2 : Hid (Run w2 M rv cv x se2 ∧ Below M w w2) := ⟨r2, Below.trans (below_drew (below_alloc (Below.refl _ _) (Nat.le_of_lt H.out.lt) _)) b2⟩
  obtain ⟨ya, fa⟩ := r2.r a.toNat Ha.out
  have yk := (r2.wd k.toNat Hk.out).1
  rw [Hy.out] at yk
  clear r2 b2
  go_wp2
  go_end0
  exact ⟨rfl, (H2.out.1.setR a.toNat Ha.out y), below_put H2.out.2 _ _⟩

set_option maxHeartbeats 400000 in
theorem do_5_there (a b c n k : Int) (w : World) (M : Nat) (rv cv : Value) (x : Ms) (se : List Se) (h : Run w M rv cv x se) (a0 : 0 ≤ a) (a1 : a < 10) (se2 : List Se) (k0 : 0 ≤ k) (k1 : k < 384) (hR : ∀ w1, More w w1 → Calls Try.prog 59 #[.pointer (some ⟨M, 0, none⟩), .agg #[.int .i64 5, .int .i64 a, .int .i64 b, .int .i64 c, .int .i64 n], .int .i64 0] w1 fun e w' => e = .returned (.tuple #[.int .i64 k, .bool true]) ∧ Run w' M rv cv x se2 ∧ Below M w1 w') :
    Calls Try.prog 40 #[.pointer (some ⟨M, 0, none⟩), .agg #[.int .i64 5, .int .i64 a, .int .i64 b, .int .i64 c, .int .i64 n]] w fun e w' => e = .returned (.tuple #[]) ∧ Run w' M rv cv { x with r := setR x.r a (x.wd k.toNat) } se2 ∧ Below M w w' := by
  have hM := h.lt
  have hn : ¬ M = w.heap.size := by omega
  have hn' : ¬ w.heap.size = M := by omega
  have hwr := wrapEq
  have H : Hid (Run w M rv cv x se) := h
  have Ha : Hid (a.toNat < 10) := (by omega : a.toNat < 10)
  have HR : Hid (∀ w1, More w w1 → Calls Try.prog 59 #[.pointer (some ⟨M, 0, none⟩), .agg #[.int .i64 5, .int .i64 a, .int .i64 b, .int .i64 c, .int .i64 n], .int .i64 0] w1 fun e w' => e = .returned (.tuple #[.int .i64 k, .bool true]) ∧ Run w' M rv cv x se2 ∧ Below M w1 w') := hR
  have Hk : Hid (k.toNat < 384) := (by omega : k.toNat < 384)
  obtain ⟨y, hy⟩ : ∃ y, x.wd k.toNat = y := ⟨_, rfl⟩
  rw [hy]
  have Hy : Hid (x.wd k.toNat = y) := hy
  clear h hR hy
  go_enter Try.func40, Try.ntmps40
  go_wp2
  go_region
  go_wp2_with (fail)
  refine (HR.out _ ((More.refl _).alloc _ _).drew).mono ?_
  rintro e w2 ⟨rfl, r2, b2⟩
  have H2 : Hid (Run w2 M rv cv x se2 ∧ Below M w w2) := ⟨r2, Below.trans (below_drew (below_alloc (Below.refl _ _) (Nat.le_of_lt H.out.lt) _)) b2⟩
  obtain ⟨ya, fa⟩ := r2.r a.toNat Ha.out
  have yk := (r2.wd k.toNat Hk.out).1
  rw [Hy.out] at yk
  clear r2 b2
  go_wp2
  go_end0
  exact ⟨rfl, (H2.out.1.setR a.toNat Ha.out y), below_put H2.out.2 _ _⟩

set_option maxHeartbeats 400000 in
theorem do_4_there (a b c n k : Int) (w : World) (M : Nat) (rv cv : Value) (x : Ms) (se : List Se) (h : Run w M rv cv x se) (a0 : 0 ≤ a) (a1 : a < 10) (se2 : List Se) (k0 : 0 ≤ k) (k1 : k < 384) (hR : ∀ w1, More w w1 → Calls Try.prog 59 #[.pointer (some ⟨M, 0, none⟩), .agg #[.int .i64 4, .int .i64 a, .int .i64 b, .int .i64 c, .int .i64 n], .int .i64 1] w1 fun e w' => e = .returned (.tuple #[.int .i64 k, .bool true]) ∧ Run w' M rv cv x se2 ∧ Below M w1 w') :
    Calls Try.prog 40 #[.pointer (some ⟨M, 0, none⟩), .agg #[.int .i64 4, .int .i64 a, .int .i64 b, .int .i64 c, .int .i64 n]] w fun e w' => e = .returned (.tuple #[]) ∧ Run w' M rv cv { x with wd := setN x.wd k.toNat (x.r a.toNat) } se2 ∧ Below M w w' := by
  have hM := h.lt
  have hn : ¬ M = w.heap.size := by omega
  have hn' : ¬ w.heap.size = M := by omega
  have hwr := wrapEq
  have H : Hid (Run w M rv cv x se) := h
  have Ha : Hid (a.toNat < 10) := (by omega : a.toNat < 10)
  have HR : Hid (∀ w1, More w w1 → Calls Try.prog 59 #[.pointer (some ⟨M, 0, none⟩), .agg #[.int .i64 4, .int .i64 a, .int .i64 b, .int .i64 c, .int .i64 n], .int .i64 1] w1 fun e w' => e = .returned (.tuple #[.int .i64 k, .bool true]) ∧ Run w' M rv cv x se2 ∧ Below M w1 w') := hR
  have Hk : Hid (k.toNat < 384) := (by omega : k.toNat < 384)
  obtain ⟨y, hy⟩ : ∃ y, x.r a.toNat = y := ⟨_, rfl⟩
  rw [hy]
  have Hy : Hid (x.r a.toNat = y) := hy
  clear h hR hy
  go_enter Try.func40, Try.ntmps40
  go_wp2
  go_region
  go_wp2_with (fail)
  refine (HR.out _ ((More.refl _).alloc _ _).drew).mono ?_
  rintro e w2 ⟨rfl, r2, b2⟩
  have H2 : Hid (Run w2 M rv cv x se2 ∧ Below M w w2) := ⟨r2, Below.trans (below_drew (below_alloc (Below.refl _ _) (Nat.le_of_lt H.out.lt) _)) b2⟩
  have ya := (r2.r a.toNat Ha.out).1
  obtain ⟨yk, fk⟩ := r2.wd k.toNat Hk.out
  rw [Hy.out] at ya
  clear r2 b2
  go_wp2_with (fail)
  go_region
  go_wp2
  go_end0
  exact ⟨rfl, (H2.out.1.setWd k.toNat Hk.out y).drew, below_drew (below_put H2.out.2 _ _)⟩

set_option maxHeartbeats 400000 in
theorem do_6_there (a b c n k : Int) (w : World) (M : Nat) (rv cv : Value) (x : Ms) (se : List Se) (h : Run w M rv cv x se) (a0 : 0 ≤ a) (a1 : a < 10) (se2 : List Se) (k0 : 0 ≤ k) (k1 : k < 384) (hR : ∀ w1, More w w1 → Calls Try.prog 59 #[.pointer (some ⟨M, 0, none⟩), .agg #[.int .i64 6, .int .i64 a, .int .i64 b, .int .i64 c, .int .i64 n], .int .i64 1] w1 fun e w' => e = .returned (.tuple #[.int .i64 k, .bool true]) ∧ Run w' M rv cv x se2 ∧ Below M w1 w') :
    Calls Try.prog 40 #[.pointer (some ⟨M, 0, none⟩), .agg #[.int .i64 6, .int .i64 a, .int .i64 b, .int .i64 c, .int .i64 n]] w fun e w' => e = .returned (.tuple #[]) ∧ Run w' M rv cv { x with wd := setN x.wd k.toNat (x.r a.toNat) } se2 ∧ Below M w w' := by
  have hM := h.lt
  have hn : ¬ M = w.heap.size := by omega
  have hn' : ¬ w.heap.size = M := by omega
  have hwr := wrapEq
  have H : Hid (Run w M rv cv x se) := h
  have Ha : Hid (a.toNat < 10) := (by omega : a.toNat < 10)
  have HR : Hid (∀ w1, More w w1 → Calls Try.prog 59 #[.pointer (some ⟨M, 0, none⟩), .agg #[.int .i64 6, .int .i64 a, .int .i64 b, .int .i64 c, .int .i64 n], .int .i64 1] w1 fun e w' => e = .returned (.tuple #[.int .i64 k, .bool true]) ∧ Run w' M rv cv x se2 ∧ Below M w1 w') := hR
  have Hk : Hid (k.toNat < 384) := (by omega : k.toNat < 384)
  obtain ⟨y, hy⟩ : ∃ y, x.r a.toNat = y := ⟨_, rfl⟩
  rw [hy]
  have Hy : Hid (x.r a.toNat = y) := hy
  clear h hR hy
  go_enter Try.func40, Try.ntmps40
  go_wp2
  go_region
  go_wp2_with (fail)
  refine (HR.out _ ((More.refl _).alloc _ _).drew).mono ?_
  rintro e w2 ⟨rfl, r2, b2⟩
  have H2 : Hid (Run w2 M rv cv x se2 ∧ Below M w w2) := ⟨r2, Below.trans (below_drew (below_alloc (Below.refl _ _) (Nat.le_of_lt H.out.lt) _)) b2⟩
  have ya := (r2.r a.toNat Ha.out).1
  obtain ⟨yk, fk⟩ := r2.wd k.toNat Hk.out
  rw [Hy.out] at ya
  clear r2 b2
  go_wp2_with (fail)
  go_region
  go_wp2
  go_end0
  exact ⟨rfl, (H2.out.1.setWd k.toNat Hk.out y).drew, below_drew (below_put H2.out.2 _ _)⟩

set_option maxHeartbeats 400000 in
theorem do_3_not (a b c n : Int) (w : World) (M : Nat) (rv cv : Value) (x : Ms) (se : List Se) (h : Run w M rv cv x se) (a0 : 0 ≤ a) (a1 : a < 10) (x2 : Ms) (hR : ∀ w1, More w w1 → Calls Try.prog 59 #[.pointer (some ⟨M, 0, none⟩), .agg #[.int .i64 3, .int .i64 a, .int .i64 b, .int .i64 c, .int .i64 n], .int .i64 0] w1 fun e w' => e = .returned (.tuple #[.int .i64 0, .bool false]) ∧ Run w' M rv cv x2 se ∧ Below M w1 w') :
    Calls Try.prog 40 #[.pointer (some ⟨M, 0, none⟩), .agg #[.int .i64 3, .int .i64 a, .int .i64 b, .int .i64 c, .int .i64 n]] w fun e w' => e = .returned (.tuple #[]) ∧ Run w' M rv cv x2 se ∧ Below M w w' := by
  have hM := h.lt
  have hn : ¬ M = w.heap.size := by omega
  have hn' : ¬ w.heap.size = M := by omega
  have hwr := wrapEq
  have H : Hid (Run w M rv cv x se) := h
  have Ha : Hid (a.toNat < 10) := (by omega : a.toNat < 10)
  have HR : Hid (∀ w1, More w w1 → Calls Try.prog 59 #[.pointer (some ⟨M, 0, none⟩), .agg #[.int .i64 3, .int .i64 a, .int .i64 b, .int .i64 c, .int .i64 n], .int .i64 0] w1 fun e w' => e = .returned (.tuple #[.int .i64 0, .bool false]) ∧ Run w' M rv cv x2 se ∧ Below M w1 w') := hR
  clear h hR
  go_enter Try.func40, Try.ntmps40
  go_wp2
  go_region
  go_wp2_with (fail)
  refine (HR.out _ ((More.refl _).alloc _ _).drew).mono ?_
  rintro e w2 ⟨rfl, r2, b2⟩
  have H2 : Hid (Run w2 M rv cv x2 se ∧ Below M w w2) := ⟨r2, Below.trans (below_drew (below_alloc (Below.refl _ _) (Nat.le_of_lt H.out.lt) _)) b2⟩
  clear r2 b2
  go_wp2
  go_end0
  exact ⟨rfl, H2.out.1, H2.out.2⟩

set_option maxHeartbeats 400000 in
theorem do_5_not (a b c n : Int) (w : World) (M : Nat) (rv cv : Value) (x : Ms) (se : List Se) (h : Run w M rv cv x se) (a0 : 0 ≤ a) (a1 : a < 10) (x2 : Ms) (hR : ∀ w1, More w w1 → Calls Try.prog 59 #[.pointer (some ⟨M, 0, none⟩), .agg #[.int .i64 5, .int .i64 a, .int .i64 b, .int .i64 c, .int .i64 n], .int .i64 0] w1 fun e w' => e = .returned (.tuple #[.int .i64 0, .bool false]) ∧ Run w' M rv cv x2 se ∧ Below M w1 w') :
    Calls Try.prog 40 #[.pointer (some ⟨M, 0, none⟩), .agg #[.int .i64 5, .int .i64 a, .int .i64 b, .int .i64 c, .int .i64 n]] w fun e w' => e = .returned (.tuple #[]) ∧ Run w' M rv cv x2 se ∧ Below M w w' := by
  have hM := h.lt
  have hn : ¬ M = w.heap.size := by omega
  have hn' : ¬ w.heap.size = M := by omega
  have hwr := wrapEq
  have H : Hid (Run w M rv cv x se) := h
  have Ha : Hid (a.toNat < 10) := (by omega : a.toNat < 10)
  have HR : Hid (∀ w1, More w w1 → Calls Try.prog 59 #[.pointer (some ⟨M, 0, none⟩), .agg #[.int .i64 5, .int .i64 a, .int .i64 b, .int .i64 c, .int .i64 n], .int .i64 0] w1 fun e w' => e = .returned (.tuple #[.int .i64 0, .bool false]) ∧ Run w' M rv cv x2 se ∧ Below M w1 w') := hR
  clear h hR
  go_enter Try.func40, Try.ntmps40
  go_wp2
  go_region
  go_wp2_with (fail)
  refine (HR.out _ ((More.refl _).alloc _ _).drew).mono ?_
  rintro e w2 ⟨rfl, r2, b2⟩
  have H2 : Hid (Run w2 M rv cv x2 se ∧ Below M w w2) := ⟨r2, Below.trans (below_drew (below_alloc (Below.refl _ _) (Nat.le_of_lt H.out.lt) _)) b2⟩
  clear r2 b2
  go_wp2
  go_end0
  exact ⟨rfl, H2.out.1, H2.out.2⟩

set_option maxHeartbeats 400000 in
theorem do_4_not (a b c n : Int) (w : World) (M : Nat) (rv cv : Value) (x : Ms) (se : List Se) (h : Run w M rv cv x se) (a0 : 0 ≤ a) (a1 : a < 10) (x2 : Ms) (hR : ∀ w1, More w w1 → Calls Try.prog 59 #[.pointer (some ⟨M, 0, none⟩), .agg #[.int .i64 4, .int .i64 a, .int .i64 b, .int .i64 c, .int .i64 n], .int .i64 1] w1 fun e w' => e = .returned (.tuple #[.int .i64 0, .bool false]) ∧ Run w' M rv cv x2 se ∧ Below M w1 w') :
    Calls Try.prog 40 #[.pointer (some ⟨M, 0, none⟩), .agg #[.int .i64 4, .int .i64 a, .int .i64 b, .int .i64 c, .int .i64 n]] w fun e w' => e = .returned (.tuple #[]) ∧ Run w' M rv cv x2 se ∧ Below M w w' := by
  have hM := h.lt
  have hn : ¬ M = w.heap.size := by omega
  have hn' : ¬ w.heap.size = M := by omega
  have hwr := wrapEq
  have H : Hid (Run w M rv cv x se) := h
  have Ha : Hid (a.toNat < 10) := (by omega : a.toNat < 10)
  have HR : Hid (∀ w1, More w w1 → Calls Try.prog 59 #[.pointer (some ⟨M, 0, none⟩), .agg #[.int .i64 4, .int .i64 a, .int .i64 b, .int .i64 c, .int .i64 n], .int .i64 1] w1 fun e w' => e = .returned (.tuple #[.int .i64 0, .bool false]) ∧ Run w' M rv cv x2 se ∧ Below M w1 w') := hR
  clear h hR
  go_enter Try.func40, Try.ntmps40
  go_wp2
  go_region
  go_wp2_with (fail)
  refine (HR.out _ ((More.refl _).alloc _ _).drew).mono ?_
  rintro e w2 ⟨rfl, r2, b2⟩
  have H2 : Hid (Run w2 M rv cv x2 se ∧ Below M w w2) := ⟨r2, Below.trans (below_drew (below_alloc (Below.refl _ _) (Nat.le_of_lt H.out.lt) _)) b2⟩
  clear r2 b2
  go_wp2
  go_end0
  exact ⟨rfl, H2.out.1, H2.out.2⟩

set_option maxHeartbeats 400000 in
theorem do_6_not (a b c n : Int) (w : World) (M : Nat) (rv cv : Value) (x : Ms) (se : List Se) (h : Run w M rv cv x se) (a0 : 0 ≤ a) (a1 : a < 10) (x2 : Ms) (hR : ∀ w1, More w w1 → Calls Try.prog 59 #[.pointer (some ⟨M, 0, none⟩), .agg #[.int .i64 6, .int .i64 a, .int .i64 b, .int .i64 c, .int .i64 n], .int .i64 1] w1 fun e w' => e = .returned (.tuple #[.int .i64 0, .bool false]) ∧ Run w' M rv cv x2 se ∧ Below M w1 w') :
    Calls Try.prog 40 #[.pointer (some ⟨M, 0, none⟩), .agg #[.int .i64 6, .int .i64 a, .int .i64 b, .int .i64 c, .int .i64 n]] w fun e w' => e = .returned (.tuple #[]) ∧ Run w' M rv cv x2 se ∧ Below M w w' := by
  have hM := h.lt
  have hn : ¬ M = w.heap.size := by omega
  have hn' : ¬ w.heap.size = M := by omega
  have hwr := wrapEq
  have H : Hid (Run w M rv cv x se) := h
  have Ha : Hid (a.toNat < 10) := (by omega : a.toNat < 10)
  have HR : Hid (∀ w1, More w w1 → Calls Try.prog 59 #[.pointer (some ⟨M, 0, none⟩), .agg #[.int .i64 6, .int .i64 a, .int .i64 b, .int .i64 c, .int .i64 n], .int .i64 1] w1 fun e w' => e = .returned (.tuple #[.int .i64 0, .bool false]) ∧ Run w' M rv cv x2 se ∧ Below M w1 w') := hR
  clear h hR
  go_enter Try.func40, Try.ntmps40
  go_wp2
  go_region
  go_wp2_with (fail)
  refine (HR.out _ ((More.refl _).alloc _ _).drew).mono ?_
  rintro e w2 ⟨rfl, r2, b2⟩
  have H2 : Hid (Run w2 M rv cv x2 se ∧ Below M w w2) := ⟨r2, Below.trans (below_drew (below_alloc (Below.refl _ _) (Nat.le_of_lt H.out.lt) _)) b2⟩
  clear r2 b2
  go_wp2
  go_end0
  exact ⟨rfl, H2.out.1, H2.out.2⟩

set_option maxHeartbeats 400000 in
theorem do_op (op a b c n : Int) (w : World) (M : Nat) (rv cv : Value) (x : Ms) (se : List Se) (h : Run w M rv cv x se) (a0 : 0 ≤ a) (a1 : a < 10) (x2 : Ms) (se2 : List Se) (o0 : 21 ≤ op) (hR : ∀ w1, More w w1 → Calls Try.prog 61 #[.pointer (some ⟨M, 0, none⟩), .agg #[.int .i64 op, .int .i64 a, .int .i64 b, .int .i64 c, .int .i64 n]] w1 fun e w' => e = .returned (.tuple #[]) ∧ Run w' M rv cv x2 se2 ∧ Below M w1 w') :
    Calls Try.prog 40 #[.pointer (some ⟨M, 0, none⟩), .agg #[.int .i64 op, .int .i64 a, .int .i64 b, .int .i64 c, .int .i64 n]] w fun e w' => e = .returned (.tuple #[]) ∧ Run w' M rv cv x2 se2 ∧ Below M w w' := by
  have hM := h.lt
  have hn : ¬ M = w.heap.size := by omega
  have hn' : ¬ w.heap.size = M := by omega
  have hwr := wrapEq
  have H : Hid (Run w M rv cv x se) := h
  have Ha : Hid (a.toNat < 10) := (by omega : a.toNat < 10)
  have HR : Hid (∀ w1, More w w1 → Calls Try.prog 61 #[.pointer (some ⟨M, 0, none⟩), .agg #[.int .i64 op, .int .i64 a, .int .i64 b, .int .i64 c, .int .i64 n]] w1 fun e w' => e = .returned (.tuple #[]) ∧ Run w' M rv cv x2 se2 ∧ Below M w1 w') := hR
  clear h hR
  have n1 : ¬ op = 1 := by omega
  have n2 : ¬ op = 2 := by omega
  have n3 : ¬ op = 3 := by omega
  have n4 : ¬ op = 4 := by omega
  have n5 : ¬ op = 5 := by omega
  have n6 : ¬ op = 6 := by omega
  have n7 : ¬ op = 7 := by omega
  have n8 : ¬ op = 8 := by omega
  have n9 : ¬ op = 9 := by omega
  have n10 : ¬ op = 10 := by omega
  have n11 : ¬ op = 11 := by omega
  have n12 : ¬ op = 12 := by omega
  go_enter Try.func40, Try.ntmps40
  go_wp2
  go_region
  go_wp2_with (fail)
  refine (HR.out _ ((More.refl _).alloc _ _).drew).mono ?_
  rintro e w2 ⟨rfl, r2, b2⟩
  have H2 : Hid (Run w2 M rv cv x2 se2 ∧ Below M w w2) := ⟨r2, Below.trans (below_drew (below_alloc (Below.refl _ _) (Nat.le_of_lt H.out.lt) _)) b2⟩
  clear r2 b2
  go_wp2
  go_end0
  exact ⟨rfl, H2.out.1, H2.out.2⟩

end Go.Proofs.Ytdlhlhbbhjbkpaa
