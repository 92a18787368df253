/-
  What the machine's Number and reach come to.
-/
import Derived.Test.YtdlhlhbbhjbkpaaMeth
namespace Go.Proofs.Ytdlhlhbbhjbkpaa
open Go.RowKit
set_option linter.unusedVariables false
set_option linter.unusedSimpArgs false

set_option maxHeartbeats 400000 in
theorem seq_number_r (op a b c n s t x i : Int) (w : World) (M : Nat) (hop : op = 3 ∨ op = 4) (b0 : 0 ≤ b) (b1 : b < 10) (c0 : 0 ≤ c) (c1 : c < 6) (hi : wrap64 (n + x) = i)
    (hs : w.cell? ⟨M, 404 + c.toNat, none⟩ = some (.int .i64 s)) (ht : w.cell? ⟨M, 404 + (c + 1).toNat, none⟩ = some (.int .i64 t)) (hx : w.cell? ⟨M, 7 + b.toNat, none⟩ = some (.int .i64 x)) (hM : M < w.heap.size) :
    Calls Try.prog 67 #[.pointer (some ⟨M, 0, none⟩), .agg #[.int .i64 op, .int .i64 a, .int .i64 b, .int .i64 c, .int .i64 n]] w fun e w' =>
      e = .returned (.tuple #[.int .i64 (wrap64 (i + s)), .bool (decide (0 ≤ i) && decide (i < wrap64 (t - s)))]) ∧ More w w' := by
  have hn : ¬ M = w.heap.size := by omega
  have hn' : ¬ w.heap.size = M := by omega
  have hc1 : wrap64 (c + 1) = c + 1 := by unfold wrap64; omega
  have c2 : c + 1 < 7 := by omega
  have c3 : 0 ≤ c + 1 := by omega
  have c4 : c < 7 := by omega
  have hwr := wrapEq
  by_cases h0 : 0 ≤ i
  · rcases hop with rfl | rfl
    all_goals
      go_enter Try.func67, Try.ntmps67
      go_wp2
      go_region
      go_wp2
      go_region
      go_wp2
      go_ret2
      refine ⟨by simp [h0, hi], ?_⟩
      exact ((More.refl _).alloc _ _).drew.drew
  · rcases hop with rfl | rfl
    all_goals
      go_enter Try.func67, Try.ntmps67
      go_wp2
      go_region
      go_wp2
      go_region
      go_wp2
      go_ret2
      refine ⟨by simp [hi]; omega, ?_⟩
      exact ((More.refl _).alloc _ _).drew.drew

set_option maxHeartbeats 400000 in
theorem seq_number_k (op a b c i s t : Int) (w : World) (M : Nat) (hop : op = 5 ∨ op = 6) (c0 : 0 ≤ c) (c1 : c < 6)
    (hs : w.cell? ⟨M, 404 + c.toNat, none⟩ = some (.int .i64 s)) (ht : w.cell? ⟨M, 404 + (c + 1).toNat, none⟩ = some (.int .i64 t)) (hM : M < w.heap.size) :
    Calls Try.prog 67 #[.pointer (some ⟨M, 0, none⟩), .agg #[.int .i64 op, .int .i64 a, .int .i64 b, .int .i64 c, .int .i64 i]] w fun e w' =>
      e = .returned (.tuple #[.int .i64 (wrap64 (i + s)), .bool (decide (0 ≤ i) && decide (i < wrap64 (t - s)))]) ∧ More w w' := by
  have hn : ¬ M = w.heap.size := by omega
  have hn' : ¬ w.heap.size = M := by omega
  have hc1 : wrap64 (c + 1) = c + 1 := by unfold wrap64; omega
  have c2 : c + 1 < 7 := by omega
  have c3 : 0 ≤ c + 1 := by omega
  have c4 : c < 7 := by omega
  have hwr := wrapEq
  by_cases h0 : 0 ≤ i
  · rcases hop with rfl | rfl
    all_goals
      go_enter Try.func67, Try.ntmps67
      go_wp2
      go_region
      go_wp2
      go_ret2
      refine ⟨by simp [h0], ?_⟩
      exact ((More.refl _).alloc _ _).drew
  · rcases hop with rfl | rfl
    all_goals
      go_enter Try.func67, Try.ntmps67
      go_wp2
      go_region
      go_wp2
      go_ret2
      refine ⟨by simp; omega, ?_⟩
      exact ((More.refl _).alloc _ _).drew

/-- Number, whichever of the four it is. -/
theorem seq_number (i : Ins) (w : World) (M : Nat) (rv cv : Value) (x : Ms) (se : List Se) (h : Run w M rv cv x se) (hop : i.op = 3 ∨ i.op = 4 ∨ i.op = 5 ∨ i.op = 6) (b0 : 0 ≤ i.b) (b1 : i.b < 10) (c0 : 0 ≤ i.c) (c1 : i.c < 6)
    (s0 : 0 ≤ x.st i.c.toNat) (s1 : x.st i.c.toNat ≤ x.st (i.c.toNat + 1)) (s2 : x.st (i.c.toNat + 1) ≤ 384) :
    Calls Try.prog 67 #[.pointer (some ⟨M, 0, none⟩), .agg #[.int .i64 i.op, .int .i64 i.a, .int .i64 i.b, .int .i64 i.c, .int .i64 i.n]] w fun e w' =>
      ∃ (k : Int) (b : Bool), e = .returned (.tuple #[.int .i64 k, .bool b]) ∧ (b = true ↔ 0 ≤ idxI x.r i ∧ idxI x.r i < x.st (i.c.toNat + 1) - x.st i.c.toNat) ∧ (b = true → k = x.st i.c.toNat + idxI x.r i) ∧ More w w' := by
  have ws : wrap64 (x.st (i.c.toNat + 1) - x.st i.c.toNat) = x.st (i.c.toNat + 1) - x.st i.c.toNat := by unfold wrap64; omega
  have hs := (h.st i.c.toNat (by omega)).1
  have ht := (h.st (i.c.toNat + 1) (by omega)).1
  rw [show i.c.toNat + 1 = (i.c + 1).toNat by omega] at ht
  have fin : ∀ (e : Ending) (w' : World), (e = .returned (.tuple #[.int .i64 (wrap64 (idxI x.r i + x.st i.c.toNat)), .bool (decide (0 ≤ idxI x.r i) && decide (idxI x.r i < wrap64 (x.st (i.c.toNat + 1) - x.st i.c.toNat)))]) ∧ More w w') →
      ∃ (k : Int) (b : Bool), e = .returned (.tuple #[.int .i64 k, .bool b]) ∧ (b = true ↔ 0 ≤ idxI x.r i ∧ idxI x.r i < x.st (i.c.toNat + 1) - x.st i.c.toNat) ∧ (b = true → k = x.st i.c.toNat + idxI x.r i) ∧ More w w' := by
    rintro e w' ⟨rfl, m⟩
    rw [ws]
    refine ⟨_, _, rfl, by simp, fun hb => ?_, m⟩
    simp at hb
    unfold wrap64
    omega
  by_cases h34 : i.op = 3 ∨ i.op = 4
  · have hx := (h.r i.b.toNat (by omega)).1
    have e : idxI x.r i = wrap64 (i.n + x.r i.b.toNat) := by unfold idxI; rw [if_neg (by omega), Int.add_comm]
    rw [show (i.c.toNat + 1) = (i.c + 1).toNat by omega] at fin ⊢
    exact (seq_number_r i.op i.a i.b i.c i.n _ _ _ _ w M h34 b0 b1 c0 c1 e.symm hs ht hx h.lt).mono fin
  · have e : idxI x.r i = i.n := by unfold idxI; rw [if_pos (by omega)]
    rw [show (i.c.toNat + 1) = (i.c + 1).toNat by omega] at fin ⊢
    rw [e] at fin ⊢
    exact (seq_number_k i.op i.a i.b i.c i.n _ _ w M (by omega) c0 c1 hs ht h.lt).mono fin

theorem seq_reach_there (i : Ins) (how : Int) (w : World) (M : Nat) (rv cv : Value) (x : Ms) (se : List Se) (h : Run w M rv cv x se) (hl : se.length ≤ 200000) (hop : i.op = 3 ∨ i.op = 4 ∨ i.op = 5 ∨ i.op = 6) (b0 : 0 ≤ i.b) (b1 : i.b < 10) (c0 : 0 ≤ i.c) (c1 : i.c < 6)
    (s0 : 0 ≤ x.st i.c.toNat) (s1 : x.st i.c.toNat ≤ x.st (i.c.toNat + 1)) (s2 : x.st (i.c.toNat + 1) ≤ 384) (hin : 0 ≤ idxI x.r i ∧ idxI x.r i < x.st (i.c.toNat + 1) - x.st i.c.toNat) :
    Calls Try.prog 59 #[.pointer (some ⟨M, 0, none⟩), .agg #[.int .i64 i.op, .int .i64 i.a, .int .i64 i.b, .int .i64 i.c, .int .i64 i.n], .int .i64 how] w fun e w' =>
      e = .returned (.tuple #[.int .i64 (x.st i.c.toNat + idxI x.r i), .bool true]) ∧ Run w' M rv cv x (se ++ [⟨2, x.st i.c.toNat + idxI x.r i, how⟩]) ∧ Below M w w' := by
  have hN := fun w1 (m : More w w1) => seq_number i w1 M rv cv x se (h.more m) hop b0 b1 c0 c1 s0 s1 s2
  obtain ⟨op, a, b, c, n⟩ := i
  dsimp only at *
  have HN : Hid (∀ w1, More w w1 → Calls Try.prog 67 #[.pointer (some ⟨M, 0, none⟩), .agg #[.int .i64 op, .int .i64 a, .int .i64 b, .int .i64 c, .int .i64 n]] w1 fun e w' => e = .returned (.tuple #[.int .i64 (x.st c.toNat + idxI x.r ⟨op, a, b, c, n⟩), .bool true]) ∧ More w1 w') := by
    intro w1 m
    refine (hN w1 m).mono ?_
    rintro e w2 ⟨k, b, rfl, h1, h2, m2⟩
    obtain rfl : b = true := h1.2 hin
    rw [h2 rfl]
    exact ⟨rfl, m2⟩
  have H : Hid (Run w M rv cv x se ∧ se.length ≤ 200000) := ⟨h, hl⟩
  obtain ⟨k, hk⟩ : ∃ k, x.st c.toNat + idxI x.r ⟨op, a, b, c, n⟩ = k := ⟨_, rfl⟩
  rw [hk] at HN ⊢
  clear hN h hl hin hk s0 s1 s2
  go_enter Try.func59, Try.ntmps59
  go_wp2_with (fail)
  refine (HN.out _ ((More.refl _).alloc _ _)).mono ?_
  rintro e w1 ⟨rfl, m1⟩
  have Hm : Hid (More w w1) := ((More.refl _).alloc _ _).trans m1
  clear m1
  go_wp2_with (fail)
  refine (seq_show _ M rv cv x se 2 k how H.out.2 (H.out.1.more Hm.out)).mono ?_
  rintro e w2 ⟨rfl, r2, b2, _⟩
  have H2 : Hid (Run w2 M rv cv x (se ++ [⟨2, k, how⟩]) ∧ Below M w1 w2) := ⟨r2, b2⟩
  clear r2 b2
  go_wp2
  go_ret2
  exact ⟨rfl, H2.out.1, Below.trans (Below.mono Hm.out (Nat.le_of_lt H.out.1.lt)) H2.out.2⟩

theorem seq_reach_not (i : Ins) (how : Int) (w : World) (M : Nat) (rv cv : Value) (x : Ms) (se : List Se) (h : Run w M rv cv x se) (hop : i.op = 3 ∨ i.op = 4 ∨ i.op = 5 ∨ i.op = 6) (b0 : 0 ≤ i.b) (b1 : i.b < 10) (c0 : 0 ≤ i.c) (c1 : i.c < 6)
    (s0 : 0 ≤ x.st i.c.toNat) (s1 : x.st i.c.toNat ≤ x.st (i.c.toNat + 1)) (s2 : x.st (i.c.toNat + 1) ≤ 384) (hin : ¬ (0 ≤ idxI x.r i ∧ idxI x.r i < x.st (i.c.toNat + 1) - x.st i.c.toNat)) :
    Calls Try.prog 59 #[.pointer (some ⟨M, 0, none⟩), .agg #[.int .i64 i.op, .int .i64 i.a, .int .i64 i.b, .int .i64 i.c, .int .i64 i.n], .int .i64 how] w fun e w' =>
      e = .returned (.tuple #[.int .i64 0, .bool false]) ∧ Run w' M rv cv { x with fin := 2, ended := true } se ∧ Below M w w' := by
  have hN := fun w1 (m : More w w1) => seq_number i w1 M rv cv x se (h.more m) hop b0 b1 c0 c1 s0 s1 s2
  obtain ⟨op, a, b, c, n⟩ := i
  dsimp only at *
  have HN : Hid (∀ w1, More w w1 → Calls Try.prog 67 #[.pointer (some ⟨M, 0, none⟩), .agg #[.int .i64 op, .int .i64 a, .int .i64 b, .int .i64 c, .int .i64 n]] w1 fun e w' => (∃ k, e = .returned (.tuple #[.int .i64 k, .bool false])) ∧ More w1 w') := by
    intro w1 m
    refine (hN w1 m).mono ?_
    rintro e w2 ⟨k, b, rfl, h1, h2, m2⟩
    cases b with
    | true => exact absurd (h1.1 rfl) hin
    | false => exact ⟨⟨k, rfl⟩, m2⟩
  have H : Hid (Run w M rv cv x se) := h
  clear hN h hin s0 s1 s2
  go_enter Try.func59, Try.ntmps59
  go_wp2_with (fail)
  refine (HN.out _ ((More.refl _).alloc _ _)).mono ?_
  rintro e w1 ⟨⟨k, rfl⟩, m1⟩
  have Hm : Hid (More w w1) := ((More.refl _).alloc _ _).trans m1
  clear m1
  go_wp2_with (fail)
  refine (seq_finish _ M rv cv x se 2 (H.out.more Hm.out)).mono ?_
  rintro e w2 ⟨rfl, r2, b2⟩
  have H2 : Hid (Run w2 M rv cv { x with fin := 2, ended := true } se ∧ Below M w1 w2) := ⟨r2, b2⟩
  clear r2 b2
  go_wp2
  go_ret2
  exact ⟨rfl, H2.out.1, Below.trans (Below.mono Hm.out (Nat.le_of_lt H.out.lt)) H2.out.2⟩
end Go.Proofs.Ytdlhlhbbhjbkpaa
