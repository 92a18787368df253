/-
  What the machine's Begin and GoesOn come to.
-/
import Derived.Test.YtdlhlhbbhjbkpaaMeth
namespace Go.Proofs.Ytdlhlhbbhjbkpaa
open Go.RowKit
set_option linter.unusedVariables false
set_option linter.unusedSimpArgs false
set_option maxRecDepth 8000

set_option maxHeartbeats 400000 in
theorem seq_begin (op a b c n : Int) (w : World) (M : Nat) (rv : Value) (cb co cl cc at_ : Nat) (x : Ms) (se : List Se) (hl : se.length ≤ 200000) (hnext : x.next = (at_ : Int)) (hat : at_ < cl) (hcl : cl ≤ 8000) (k0 : 0 ≤ x.steps) (k1 : x.steps ≤ 40000) (hcb : cb < M)
    (q0 : w.cell? ⟨cb, co + at_ * 5, none⟩ = some (.int .i64 op)) (q1 : w.cell? ⟨cb, co + at_ * 5 + 1, none⟩ = some (.int .i64 a)) (q2 : w.cell? ⟨cb, co + at_ * 5 + 2, none⟩ = some (.int .i64 b)) (q3 : w.cell? ⟨cb, co + at_ * 5 + 3, none⟩ = some (.int .i64 c)) (q4 : w.cell? ⟨cb, co + at_ * 5 + 4, none⟩ = some (.int .i64 n))
    (h : Run w M rv (.slice (some ⟨cb, co, none⟩) cl cc) x se) :
    Calls Try.prog 41 #[.pointer (some ⟨M, 0, none⟩)] w fun e w' => e = .returned (.agg #[.int .i64 op, .int .i64 a, .int .i64 b, .int .i64 c, .int .i64 n]) ∧ Run w' M rv (.slice (some ⟨cb, co, none⟩) cl cc) { x with steps := x.steps + 1, next := (at_ : Int) + 1 } (se ++ [⟨1, at_, 0⟩]) ∧ Below M w w' := by
  have hM := h.lt
  have hn : ¬ M = w.heap.size := by omega
  have hn' : ¬ w.heap.size = M := by omega
  have hx0 : wrap64 (x.steps + 1) = x.steps + 1 := by unfold wrap64; omega
  have hx1 : wrap64 ((at_ : Int) + 1) = (at_ : Int) + 1 := by unfold wrap64; omega
  obtain ⟨c4, f4⟩ := h.steps
  obtain ⟨c401, f401⟩ := h.next
  rw [hnext] at c401
  obtain ⟨k, hk⟩ : ∃ k, x.steps = k := ⟨_, rfl⟩
  rw [hk] at c4 hx0 ⊢
  have H : Hid (Run w M rv (.slice (some ⟨cb, co, none⟩) cl cc) x se ∧ se.length ≤ 200000 ∧ cb < M) := ⟨h, hl, hcb⟩
  have q0' : Hid (w.cell? ⟨cb, co + at_ * 5, none⟩ = some (.int .i64 op)) := q0
  have q1' : Hid (w.cell? ⟨cb, co + at_ * 5 + 1, none⟩ = some (.int .i64 a)) := q1
  have q2' : Hid (w.cell? ⟨cb, co + at_ * 5 + 2, none⟩ = some (.int .i64 b)) := q2
  have q3' : Hid (w.cell? ⟨cb, co + at_ * 5 + 3, none⟩ = some (.int .i64 c)) := q3
  have q4' : Hid (w.cell? ⟨cb, co + at_ * 5 + 4, none⟩ = some (.int .i64 n)) := q4
  have hat' : (at_ : Int) < (cl : Int) := by omega
  have hat0 : (0 : Int) ≤ (at_ : Int) := by omega
  have Hnx : Hid (x.next = (at_ : Int)) := hnext
  clear h hl hk hnext q0 q1 q2 q3 q4 k0 k1
  go_enter Try.func41, Try.ntmps41
  go_wp2_with (fail)
  refine (seq_show _ M rv (.slice (some ⟨cb, co, none⟩) cl cc) { x with steps := k + 1 } se 1 at_ 0 H.out.2.1 ((H.out.1.setSteps (k + 1)).alloc _)).mono ?_
  rintro e w2 ⟨rfl, r2, b2, kp⟩
  have kb := kp w.heap.size (by simp) (by omega) (((H.out.1.setSteps (k + 1)).notOwn w.heap.size (by simp)).of (World.cell?_of_block ((World.grownBy_alloc _ _ none).block M (by simpa using hM) (by simp))))
  have hb2 : Below M w w2 := Below.trans (below_alloc (below_put (Below.refl _ _) _ _) (by simp; omega) _) b2
  have Hr : Hid (Run w2 M rv (.slice (some ⟨cb, co, none⟩) cl cc) { x with steps := k + 1 } (se ++ [⟨1, at_, 0⟩]) ∧ Below M w w2) := ⟨r2, hb2⟩
  have q0 : w2.cell? ⟨cb, co + at_ * 5, none⟩ = some (.int .i64 op) := by rw [Below.cell hb2 H.out.2.2]; exact q0'.out
  have q1 : w2.cell? ⟨cb, co + at_ * 5 + 1, none⟩ = some (.int .i64 a) := by rw [Below.cell hb2 H.out.2.2]; exact q1'.out
  have q2 : w2.cell? ⟨cb, co + at_ * 5 + 2, none⟩ = some (.int .i64 b) := by rw [Below.cell hb2 H.out.2.2]; exact q2'.out
  have q3 : w2.cell? ⟨cb, co + at_ * 5 + 3, none⟩ = some (.int .i64 c) := by rw [Below.cell hb2 H.out.2.2]; exact q3'.out
  have q4 : w2.cell? ⟨cb, co + at_ * 5 + 4, none⟩ = some (.int .i64 n) := by rw [Below.cell hb2 H.out.2.2]; exact q4'.out
  have z : ∀ j, j < 5 → w2.cell? ⟨w.heap.size, j, none⟩ = some (.int .i64 0) ∧ w2.frozen? ⟨w.heap.size, j, none⟩ = false := by
    intro j hj
    rw [World.cell?_of_block kb.1, World.frozen?_of_block kb.1]
    have : j = 0 ∨ j = 1 ∨ j = 2 ∨ j = 3 ∨ j = 4 := by omega
    rcases this with rfl | rfl | rfl | rfl | rfl <;> exact ⟨by go_simp, by go_simp⟩
  obtain ⟨z0, g0⟩ := z 0 (by omega)
  obtain ⟨z1, g1⟩ := z 1 (by omega)
  obtain ⟨z2, g2⟩ := z 2 (by omega)
  obtain ⟨z3, g3⟩ := z 3 (by omega)
  obtain ⟨z4, g4⟩ := z 4 (by omega)
  obtain ⟨n401, m401⟩ := r2.next
  have n1 := r2.p1.1
  replace n401 : w2.cell? ⟨M, 401, none⟩ = some (.int .i64 at_) := by rw [n401]; exact congrArg (fun v => some (Value.int .i64 v)) Hnx.out
  have d1 : ¬ cb = M := by omega
  have d2 : ¬ M = cb := by omega
  have d3 : ¬ cb = w.heap.size := by omega
  have d4 : ¬ w.heap.size = cb := by omega
  have Hfin : Hid (∀ u0 u1 u2 u3 u4 : Value, Run ((((((w2.setCell ⟨M, 401, none⟩ (.int .i64 ((at_ : Int) + 1))).setCell ⟨w.heap.size, 0, none⟩ u0).setCell ⟨w.heap.size, 1, none⟩ u1).setCell ⟨w.heap.size, 2, none⟩ u2).setCell ⟨w.heap.size, 3, none⟩ u3).setCell ⟨w.heap.size, 4, none⟩ u4) M rv (.slice (some ⟨cb, co, none⟩) cl cc) { x with steps := k + 1, next := (at_ : Int) + 1 } (se ++ [⟨1, at_, 0⟩]) ∧ Below M w ((((((w2.setCell ⟨M, 401, none⟩ (.int .i64 ((at_ : Int) + 1))).setCell ⟨w.heap.size, 0, none⟩ u0).setCell ⟨w.heap.size, 1, none⟩ u1).setCell ⟨w.heap.size, 2, none⟩ u2).setCell ⟨w.heap.size, 3, none⟩ u3).setCell ⟨w.heap.size, 4, none⟩ u4)) := by
    intro u0 u1 u2 u3 u4
    have hle : M ≤ w.heap.size := by omega
    refine ⟨(((((RunA.mk (r2.setNext ((at_ : Int) + 1)) (kb.2.of (World.cell?_setCell_other _ _ _ _ (by simp))) hn').set 0 u0).set 1 u1).set 2 u2).set 3 u3 |>.set 4 u4).run, Below.setCell (Below.setCell (Below.setCell (Below.setCell (Below.setCell (below_put hb2 _ _) hle _) hle _) hle _) hle _) hle _⟩
  clear r2 b2 kp kb z hb2
  go_wp2
  refine bodyPost_ret (v := .agg #[.int .i64 op, .int .i64 a, .int .i64 b, .int .i64 c, .int .i64 n]) (by simp [results, Try.results41, go_sem, *]) rfl ⟨rfl, ?_⟩
  exact Hfin.out _ _ _ _ _

/-- The run goes on. -/
theorem seq_goesOn_on (w : World) (M : Nat) (rv : Value) (ca : Option Addr) (cl cc : Nat) (x : Ms) (se : List Se) (h : Run w M rv (.slice ca cl cc) x se) (he : x.ended = false) (hf : x.steps < x.fuel) (hn : x.next < (cl : Int)) :
    Calls Try.prog 39 #[.pointer (some ⟨M, 0, none⟩)] w fun e w' => e = .returned (.bool true) ∧ Run w' M rv (.slice ca cl cc) x se ∧ Below M w w' := by
  have H : Hid (Run w M rv (.slice ca cl cc) x se) := h
  have e1 := h.ended.1
  rw [he] at e1
  have Hf : Hid (∀ w1, More w w1 → Calls Try.prog 56 #[.pointer (some ⟨M, 0, none⟩)] w1 fun e w' => e = .returned (.bool true) ∧ More w1 w') := fun w1 m => by
    have := seq_hasFuel w1 M _ _ (h.more m).steps.1 (h.more m).fuel.1
    rw [decide_eq_true hf] at this
    exact this
  have Hn : Hid (∀ w1, More w w1 → Calls Try.prog 58 #[.pointer (some ⟨M, 0, none⟩)] w1 fun e w' => e = .returned (.bool true) ∧ More w1 w') := fun w1 m => by
    have := seq_hasNext w1 M _ ca cl cc (h.more m).next.1 (h.more m).p1.1
    rw [decide_eq_true hn] at this
    exact this
  clear h he hf hn
  go_enter Try.func39, Try.ntmps39
  go_wp2_with (fail)
  refine (Hf.out _ (More.refl _)).mono ?_
  rintro e w1 ⟨rfl, m1⟩
  have Hm1 : Hid (More w w1) := m1
  clear m1
  go_wp2_with (fail)
  refine (Hn.out _ Hm1.out).mono ?_
  rintro e w2 ⟨rfl, m2⟩
  have Hm2 : Hid (More w w2) := Hm1.out.trans m2
  have e2 := m2.cell (Hm1.out.cell e1)
  clear m2
  go_wp2
  go_ret
  exact ⟨rfl, H.out.more Hm2.out, Below.mono Hm2.out (Nat.le_of_lt H.out.lt)⟩

/-- The run has ended. -/
theorem seq_goesOn_over (w : World) (M : Nat) (rv cv : Value) (x : Ms) (se : List Se) (h : Run w M rv cv x se) (he : x.ended = true) :
    Calls Try.prog 39 #[.pointer (some ⟨M, 0, none⟩)] w fun e w' => e = .returned (.bool false) ∧ Run w' M rv cv x se ∧ Below M w w' := by
  have H : Hid (Run w M rv cv x se) := h
  have e1 := h.ended.1
  rw [he] at e1
  clear h he
  go_enter Try.func39, Try.ntmps39
  go_wp2
  go_ret
  exact ⟨rfl, H.out, Below.refl _ _⟩

/-- No fuel is left. -/
theorem seq_goesOn_fuel (w : World) (M : Nat) (rv cv : Value) (x : Ms) (se : List Se) (h : Run w M rv cv x se) (he : x.ended = false) (hf : ¬ x.steps < x.fuel) :
    Calls Try.prog 39 #[.pointer (some ⟨M, 0, none⟩)] w fun e w' => e = .returned (.bool false) ∧ Run w' M rv cv { x with fin := 0, ended := true } se ∧ Below M w w' := by
  have H : Hid (Run w M rv cv x se) := h
  have e1 := h.ended.1
  rw [he] at e1
  have Hf : Hid (∀ w1, More w w1 → Calls Try.prog 56 #[.pointer (some ⟨M, 0, none⟩)] w1 fun e w' => e = .returned (.bool false) ∧ More w1 w') := fun w1 m => by
    have := seq_hasFuel w1 M _ _ (h.more m).steps.1 (h.more m).fuel.1
    rw [decide_eq_false hf] at this
    exact this
  clear h he hf
  go_enter Try.func39, Try.ntmps39
  go_wp2_with (fail)
  refine (Hf.out _ (More.refl _)).mono ?_
  rintro e w1 ⟨rfl, m1⟩
  have Hm1 : Hid (More w w1) := m1
  clear m1
  go_wp2_with (fail)
  refine (seq_finish _ M rv cv x se 0 (H.out.more Hm1.out)).mono ?_
  rintro e w2 ⟨rfl, r2, b2⟩
  have H2 : Hid (Run w2 M rv cv { x with fin := 0, ended := true } se ∧ Below M w w2) := ⟨r2, Below.trans (Below.mono Hm1.out (Nat.le_of_lt H.out.lt)) b2⟩
  have e2 := r2.ended.1
  dsimp only at e2
  clear r2 b2
  go_wp2
  go_ret
  exact ⟨rfl, H2.out.1, H2.out.2⟩

/-- No instruction is left. -/
theorem seq_goesOn_next (w : World) (M : Nat) (rv : Value) (ca : Option Addr) (cl cc : Nat) (x : Ms) (se : List Se) (h : Run w M rv (.slice ca cl cc) x se) (he : x.ended = false) (hf : x.steps < x.fuel) (hn : ¬ x.next < (cl : Int)) :
    Calls Try.prog 39 #[.pointer (some ⟨M, 0, none⟩)] w fun e w' => e = .returned (.bool false) ∧ Run w' M rv (.slice ca cl cc) { x with fin := 2, ended := true } se ∧ Below M w w' := by
  have H : Hid (Run w M rv (.slice ca cl cc) x se) := h
  have e1 := h.ended.1
  rw [he] at e1
  have Hf : Hid (∀ w1, More w w1 → Calls Try.prog 56 #[.pointer (some ⟨M, 0, none⟩)] w1 fun e w' => e = .returned (.bool true) ∧ More w1 w') := fun w1 m => by
    have := seq_hasFuel w1 M _ _ (h.more m).steps.1 (h.more m).fuel.1
    rw [decide_eq_true hf] at this
    exact this
  have Hn : Hid (∀ w1, More w w1 → Calls Try.prog 58 #[.pointer (some ⟨M, 0, none⟩)] w1 fun e w' => e = .returned (.bool false) ∧ More w1 w') := fun w1 m => by
    have := seq_hasNext w1 M _ ca cl cc (h.more m).next.1 (h.more m).p1.1
    rw [decide_eq_false hn] at this
    exact this
  clear h he hf hn
  go_enter Try.func39, Try.ntmps39
  go_wp2_with (fail)
  refine (Hf.out _ (More.refl _)).mono ?_
  rintro e w1 ⟨rfl, m1⟩
  have Hm1 : Hid (More w w1) := m1
  clear m1
  go_wp2_with (fail)
  refine (Hn.out _ Hm1.out).mono ?_
  rintro e w2 ⟨rfl, m2⟩
  have Hm2 : Hid (More w w2) := Hm1.out.trans m2
  clear m2
  go_wp2_with (fail)
  refine (seq_finish _ M rv (.slice ca cl cc) x se 2 (H.out.more Hm2.out)).mono ?_
  rintro e w3 ⟨rfl, r3, b3⟩
  have H2 : Hid (Run w3 M rv (.slice ca cl cc) { x with fin := 2, ended := true } se ∧ Below M w w3) := ⟨r3, Below.trans (Below.mono Hm2.out (Nat.le_of_lt H.out.lt)) b3⟩
  have e2 := r3.ended.1
  dsimp only at e2
  clear r3 b3
  go_wp2
  go_ret
  exact ⟨rfl, H2.out.1, H2.out.2⟩
end Go.Proofs.Ytdlhlhbbhjbkpaa
