/-
  The texts Meth, Begin, Built, Part, SMap, Regions, Fields, FieldsK, Named, FieldsAll, Code, Fits, NewAux, SMach, one behind the other, with what is used of them.
-/
import Derived.Test.YtapagihngaiebaaJoined0
import Derived.Test.YtapagihngaiebaaRows
import Derived.WalkKit
import Derived.Deep.LoopGhost
import Derived.Deep.OwnRows
import Derived.Laws.IdiomCopy
import Derived.DeepKeys4
import Derived.Maps.Own
import Derived.Deep.RegionHeld3
namespace Go.Proofs.Ytapagihngaiebaa
section
open Go.RowKit
set_option linter.unusedSimpArgs false
set_option linter.unusedVariables false
theorem seq_hasFuel (w : World) (M : Nat) (a b : Int) (s4 : w.cell? ⟨M, 4, none⟩ = some (.int .i64 a)) (s402 : w.cell? ⟨M, 402, none⟩ = some (.int .i64 b)) :
    Calls Try.prog 27 #[.pointer (some ⟨M, 0, none⟩)] w fun e w' => e = .returned (.bool (decide (a < b))) ∧ More w w' := by
  go_enter Try.func27, Try.ntmps27
  go_wp2
  go_region
  go_wp2
  go_ret
  exact ⟨rfl, (More.refl _).drew⟩

theorem seq_hasNext (w : World) (M : Nat) (a : Int) (ca : Option Addr) (cl cc : Nat) (s : w.cell? ⟨M, 401, none⟩ = some (.int .i64 a)) (s1 : w.cell? ⟨M, 1, none⟩ = some (.slice ca cl cc)) :
    Calls Try.prog 28 #[.pointer (some ⟨M, 0, none⟩)] w fun e w' => e = .returned (.bool (decide (a < (cl : Int)))) ∧ More w w' := by
  go_enter Try.func28, Try.ntmps28
  go_wp2
  go_region
  go_wp2
  go_ret
  exact ⟨rfl, (More.refl _).drew⟩

theorem seq_finish (w : World) (M : Nat) (rv cv : Value) (x : Ms) (se : List Se) (n : Int) (h : Run w M rv cv x se) :
    Calls Try.prog 53 #[.pointer (some ⟨M, 0, none⟩), .int .i64 n] w fun e w' => e = .returned (.tuple #[]) ∧ Run w' M rv cv { x with fin := n, ended := true } se ∧ Below M w w' := by
  obtain ⟨c0, f0⟩ := h.fin
  obtain ⟨c1, f1⟩ := h.ended
  have H : Hid (Run w M rv cv x se) := h
  clear h
  go_enter Try.func53, Try.ntmps53
  go_wp2
  go_end0
  exact ⟨rfl, (H.out.setFin n).setEnded true, below_put (below_put (Below.refl _ _) _ _) _ _⟩

/-- A block that what was shown doesn't lie in. -/
def OwnNot (w : World) (M B : Nat) : Prop := ∀ sv, w.cell? ⟨M, 5, none⟩ = some sv → some B ≠ sv.ownBlock
theorem Run.notOwn {w : World} {M : Nat} {rv cv : Value} {x : Ms} {se : List Se} (h : Run w M rv cv x se) (B : Nat) (hB : w.heap.size ≤ B) : OwnNot w M B := by
  intro sv hc e
  obtain ⟨sv', hm, ho, _⟩ := h.out
  have h5 := hm.sv.1
  dsimp only at h5
  rw [hc] at h5
  obtain rfl := Option.some.inj h5
  have := (World.ownsRow.lt ho B e.symm).2
  omega

theorem OwnNot.of {w w' : World} {M B : Nat} (h : OwnNot w M B) (e : w'.cell? ⟨M, 5, none⟩ = w.cell? ⟨M, 5, none⟩) : OwnNot w' M B := fun sv hc => h sv (by rw [← e]; exact hc)
/-- A machine, and a block beside it. -/
structure RunA (w : World) (M : Nat) (rv cv : Value) (x : Ms) (se : List Se) (R : Nat) : Prop where
  run : Run w M rv cv x se
  own : OwnNot w M R
  ne : R ≠ M
  mo : ∀ q ∈ x.mo, q.1 ≠ R
theorem Run.moLt {w : World} {M : Nat} {rv cv : Value} {x : Ms} {se : List Se} (h : Run w M rv cv x se) : ∀ q ∈ x.mo, q.1 ≠ w.heap.size := by
  intro q e
  obtain ⟨sv, _, _, hq⟩ := h.out
  have := heap_some_lt (hq q e).2.2
  omega
theorem RunA.set {w : World} {M : Nat} {rv cv : Value} {x : Ms} {se : List Se} {R : Nat} (h : RunA w M rv cv x se R) (j : Nat) (v : Value) : RunA (w.setCell ⟨R, j, none⟩ v) M rv cv x se R := by
  obtain ⟨sv, hm, ho, hq⟩ := h.run.out
  have hne : some M ≠ some R := fun e => h.ne (Option.some.inj e).symm
  refine ⟨⟨sv, hm.kept (grown_set w R j v) hne, World.ownsRow.kept ho (grown_set w R j v) (.inr fun e => h.own sv hm.sv.1 e.symm), fun q e => ⟨(hq q e).1, (hq q e).2.1, by rw [(grown_set w R j v).block q.1 (heap_some_lt (hq q e).2.2) (fun e' => h.mo q e (Option.some.inj e'))]; exact (hq q e).2.2⟩⟩, h.own.of (World.cell?_setCell_other _ _ _ _ ?_), h.ne, h.mo⟩
  intro e
  simp only [Addr.mk.injEq] at e
  exact h.ne e.1

set_option maxHeartbeats 400000 in
theorem seq_show (w : World) (M : Nat) (rv cv : Value) (x : Ms) (se : List Se) (k a b : Int) (hl : se.length ≤ 200000) (h : Run w M rv cv x se) :
    Calls Try.prog 52 #[.pointer (some ⟨M, 0, none⟩), .int .i64 k, .int .i64 a, .int .i64 b] w fun e w' => e = .returned (.tuple #[]) ∧ Run w' M rv cv x (se ++ [⟨k, a, b⟩]) ∧ Below M w w' ∧ ∀ B, B < w.heap.size → B ≠ M → OwnNot w M B → w'.heap[B]? = w.heap[B]? ∧ OwnNot w' M B := by
  obtain ⟨sv, hm, ho, hq⟩ := h.out
  obtain ⟨sa, sc, rfl⟩ := own_form ho
  obtain ⟨c5, f5⟩ := hm.sv
  dsimp only at c5
  have hlt := hm.lt
  obtain ⟨i2, hi2, hz0, hz1, hz2⟩ := info_parts info79
  have Hi : Hid (Try.prog.info? 45 = some i2 ∧ i2.zero = some (.agg #[.int .i64 0, .int .i64 0, .int .i64 0]) ∧ i2.size = 3 ∧ i2.bytes = 24) := ⟨hi2, hz0, hz1, hz2⟩
  clear hi2 hz0 hz1 hz2
  have H : Hid (MAt w M rv cv { x with sv := .slice sa se.length sc } ∧ SeenOwn w (M + 1) (.slice sa se.length sc) se ∧ se.length ≤ 200000 ∧ M < w.heap.size) := ⟨hm, ho, hl, hlt⟩
  have Hrow : Hid (some M ≠ (Value.slice sa se.length sc).ownBlock) := fun e => by have := (World.ownsRow.lt ho M e.symm).1; omega
  have Hown : Hid (SeenOwn (w.alloc (.cells #[.int .i64 k, .int .i64 a, .int .i64 b] 45)) (M + 1) (.slice sa se.length sc) se) := ho.kept (World.grownBy_alloc w _ none) (fun b hb => by cases hb)
  have HQ : Hid (∀ q ∈ x.mo, M < q.1 ∧ some q.1 ≠ (Value.slice sa se.length sc).ownBlock ∧ w.heap[q.1]? = some q.2) := hq
  clear hm ho hl h hlt hq
  go_enter Try.func52, Try.ntmps52
  go_wp2_with (at_builtin; refine wpList_append_lies _ rfl (.tmp 13) (.tmp 18) 32 rfl (M + 1) 45 i2 (.agg #[.int .i64 0, .int .i64 0, .int .i64 0]) 3 24 Try.underlying32 Hi.out.1 Hi.out.2.1 Hi.out.2.2.1 Hi.out.2.2.2 rfl (by decide) (.slice sa se.length sc) se.length (flatS se) rfl Hown.out ⟨w.heap.size, 0, none⟩ 1 1 [.int .i64 k, .int .i64 a, .int .i64 b] rfl rfl (by simpa using cell_three_new' w (.int .i64 k) (.int .i64 a) (.int .i64 b) 45) (fun x hx => by simp at hx; rcases hx with rfl | rfl | rfl <;> rfl) (by decide) (by have := H.out.2.2.1; unfold maxLen; omega) (by have := H.out.2.2.1; omega) (by have := H.out.2.2.2; simp; omega) (w.heap.size + 1) (by simp) ?_; intro g_ cap w2 own2 gr2 hat2 hlt2; obtain ⟨t5c, t5f⟩ := (H.out.1.sv.kept (World.grownBy_alloc w (.cells #[.int .i64 k, .int .i64 a, .int .i64 b] 45) none) (by simp)).kept gr2 Hrow.out)
  go_end0
  have kp : ∀ B, B < w.heap.size → B ≠ M → some B ≠ (Value.slice sa se.length sc).ownBlock → (w2.setCell ⟨M, 5, none⟩ (.slice (some ⟨g_, 0, none⟩) (se.length + 1) cap)).heap[B]? = w.heap[B]? ∧ B ≠ g_ := by
    intro B hB hM hO
    refine ⟨by rw [Below.heap_setCell _ _ _ _ (by simpa using hM), gr2.block B (by simp; omega) hO, (World.grownBy_alloc w _ none).block B hB (by simp)], fun e => ?_⟩
    subst e
    rcases hat2 with h1 | h1
    · exact hO h1.symm
    · omega
  refine ⟨rfl, ⟨.slice (some ⟨g_, 0, none⟩) (se.length + 1) cap, ((H.out.1.alloc _).kept gr2 Hrow.out).setSv _, ?_, fun q e => ?_⟩, below_put (Below.grown (below_alloc (Below.refl _ _) (by have := H.out.2.2.2; omega) _) gr2 ?_ ?_) _ _, ?_⟩
  · refine SeenOwn.kept ?_ (grown_set _ _ _ _) (fun b hb => by have := Option.some.inj hb; omega)
    unfold SeenOwn; rw [flatS_append, List.length_append]; exact own2
  · obtain ⟨q1, q2, q3⟩ := HQ.out q e
    have h1 := kp q.1 (heap_some_lt q3) (by omega) q2
    refine ⟨q1, fun e' => h1.2 ?_, by rw [h1.1]; exact q3⟩
    simpa [Value.ownBlock] using e'
  · have := H.out.2.2.2; simp; omega
  · intro b hb; have := (World.ownsRow.lt H.out.2.1 b hb).1; omega
  · intro B hB hM hO
    have h1 := kp B hB hM (hO _ H.out.1.sv.1)
    refine ⟨h1.1, fun sv hc e => ?_⟩
    rw [World.cell?_setCell_same _ _ _ t5c] at hc
    obtain rfl := Option.some.inj hc
    exact h1.2 (by simpa [Value.ownBlock] using e)
end
section
open Go.RowKit
set_option linter.unusedSimpArgs false
set_option linter.unusedVariables false
set_option maxRecDepth 8000
set_option maxHeartbeats 400000 in
theorem seq_begin (op a b c n : Int) (w : World) (M : Nat) (rv : Value) (cb co cl cc at_ : Nat) (x : Ms) (se : List Se) (hl : se.length ≤ 200000) (hnext : x.next = (at_ : Int)) (hat : at_ < cl) (hcl : cl ≤ 8000) (k0 : 0 ≤ x.steps) (k1 : x.steps ≤ 40000) (hcb : cb < M)
    (q0 : w.cell? ⟨cb, co + at_ * 5, none⟩ = some (.int .i64 op)) (q1 : w.cell? ⟨cb, co + at_ * 5 + 1, none⟩ = some (.int .i64 a)) (q2 : w.cell? ⟨cb, co + at_ * 5 + 2, none⟩ = some (.int .i64 b)) (q3 : w.cell? ⟨cb, co + at_ * 5 + 3, none⟩ = some (.int .i64 c)) (q4 : w.cell? ⟨cb, co + at_ * 5 + 4, none⟩ = some (.int .i64 n))
    (h : Run w M rv (.slice (some ⟨cb, co, none⟩) cl cc) x se) :
    Calls Try.prog 31 #[.pointer (some ⟨M, 0, none⟩)] w fun e w' => e = .returned (.agg #[.int .i64 op, .int .i64 a, .int .i64 b, .int .i64 c, .int .i64 n]) ∧ Run w' M rv (.slice (some ⟨cb, co, none⟩) cl cc) { x with steps := x.steps + 1, next := (at_ : Int) + 1 } (se ++ [⟨1, at_, 0⟩]) ∧ Below M w w' := by
  have hM := h.lt
  have hn : ¬ M = w.heap.size := by omega
  have hn' : ¬ w.heap.size = M := by omega
  have hx0 : wrap64 (x.steps + 1) = x.steps + 1 := by unfold wrap64; omega
  have hx1 : wrap64 ((at_ : Int) + 1) = (at_ : Int) + 1 := by unfold wrap64; omega
  obtain ⟨c4, f4⟩ := h.steps
  obtain ⟨c401, f401⟩ := h.next
  rw [hnext] at c401
  obtain ⟨k, hk⟩ : ∃ k, x.steps = k := ⟨_, rfl⟩
  rw [hk] at c4 hx0 ⊢
  have H : Hid (Run w M rv (.slice (some ⟨cb, co, none⟩) cl cc) x se ∧ se.length ≤ 200000 ∧ cb < M) := ⟨h, hl, hcb⟩
  have q0' : Hid (w.cell? ⟨cb, co + at_ * 5, none⟩ = some (.int .i64 op)) := q0
  have q1' : Hid (w.cell? ⟨cb, co + at_ * 5 + 1, none⟩ = some (.int .i64 a)) := q1
  have q2' : Hid (w.cell? ⟨cb, co + at_ * 5 + 2, none⟩ = some (.int .i64 b)) := q2
  have q3' : Hid (w.cell? ⟨cb, co + at_ * 5 + 3, none⟩ = some (.int .i64 c)) := q3
  have q4' : Hid (w.cell? ⟨cb, co + at_ * 5 + 4, none⟩ = some (.int .i64 n)) := q4
  have hat' : (at_ : Int) < (cl : Int) := by omega
  have hat0 : (0 : Int) ≤ (at_ : Int) := by omega
  have Hnx : Hid (x.next = (at_ : Int)) := hnext
  clear h hl hk hnext q0 q1 q2 q3 q4 k0 k1
  go_enter Try.func31, Try.ntmps31
  go_wp2_with (fail)
  refine (seq_show _ M rv (.slice (some ⟨cb, co, none⟩) cl cc) { x with steps := k + 1 } se 1 at_ 0 H.out.2.1 ((H.out.1.setSteps (k + 1)).alloc _)).mono ?_
  rintro e w2 ⟨rfl, r2, b2, kp⟩
  have kb := kp w.heap.size (by simp) (by omega) (((H.out.1.setSteps (k + 1)).notOwn w.heap.size (by simp)).of (World.cell?_of_block ((World.grownBy_alloc _ _ none).block M (by simpa using hM) (by simp))))
  have hb2 : Below M w w2 := Below.trans (below_alloc (below_put (Below.refl _ _) _ _) (by simp; omega) _) b2
  have Hr : Hid (Run w2 M rv (.slice (some ⟨cb, co, none⟩) cl cc) { x with steps := k + 1 } (se ++ [⟨1, at_, 0⟩]) ∧ Below M w w2) := ⟨r2, hb2⟩
  have q0 : w2.cell? ⟨cb, co + at_ * 5, none⟩ = some (.int .i64 op) := by rw [Below.cell hb2 H.out.2.2]; exact q0'.out
  have q1 : w2.cell? ⟨cb, co + at_ * 5 + 1, none⟩ = some (.int .i64 a) := by rw [Below.cell hb2 H.out.2.2]; exact q1'.out
  have q2 : w2.cell? ⟨cb, co + at_ * 5 + 2, none⟩ = some (.int .i64 b) := by rw [Below.cell hb2 H.out.2.2]; exact q2'.out
  have q3 : w2.cell? ⟨cb, co + at_ * 5 + 3, none⟩ = some (.int .i64 c) := by rw [Below.cell hb2 H.out.2.2]; exact q3'.out
  have q4 : w2.cell? ⟨cb, co + at_ * 5 + 4, none⟩ = some (.int .i64 n) := by rw [Below.cell hb2 H.out.2.2]; exact q4'.out
  have z : ∀ j, j < 5 → w2.cell? ⟨w.heap.size, j, none⟩ = some (.int .i64 0) ∧ w2.frozen? ⟨w.heap.size, j, none⟩ = false := by
    intro j hj
    rw [World.cell?_of_block kb.1, World.frozen?_of_block kb.1]
    have : j = 0 ∨ j = 1 ∨ j = 2 ∨ j = 3 ∨ j = 4 := by omega
    rcases this with rfl | rfl | rfl | rfl | rfl <;> exact ⟨by go_simp, by go_simp⟩
  obtain ⟨z0, g0⟩ := z 0 (by omega)
  obtain ⟨z1, g1⟩ := z 1 (by omega)
  obtain ⟨z2, g2⟩ := z 2 (by omega)
  obtain ⟨z3, g3⟩ := z 3 (by omega)
  obtain ⟨z4, g4⟩ := z 4 (by omega)
  obtain ⟨n401, m401⟩ := r2.next
  have n1 := r2.p1.1
  replace n401 : w2.cell? ⟨M, 401, none⟩ = some (.int .i64 at_) := by rw [n401]; exact congrArg (fun v => some (Value.int .i64 v)) Hnx.out
  have d1 : ¬ cb = M := by omega
  have d2 : ¬ M = cb := by omega
  have d3 : ¬ cb = w.heap.size := by omega
  have d4 : ¬ w.heap.size = cb := by omega
  have Hfin : Hid (∀ u0 u1 u2 u3 u4 : Value, Run ((((((w2.setCell ⟨M, 401, none⟩ (.int .i64 ((at_ : Int) + 1))).setCell ⟨w.heap.size, 0, none⟩ u0).setCell ⟨w.heap.size, 1, none⟩ u1).setCell ⟨w.heap.size, 2, none⟩ u2).setCell ⟨w.heap.size, 3, none⟩ u3).setCell ⟨w.heap.size, 4, none⟩ u4) M rv (.slice (some ⟨cb, co, none⟩) cl cc) { x with steps := k + 1, next := (at_ : Int) + 1 } (se ++ [⟨1, at_, 0⟩]) ∧ Below M w ((((((w2.setCell ⟨M, 401, none⟩ (.int .i64 ((at_ : Int) + 1))).setCell ⟨w.heap.size, 0, none⟩ u0).setCell ⟨w.heap.size, 1, none⟩ u1).setCell ⟨w.heap.size, 2, none⟩ u2).setCell ⟨w.heap.size, 3, none⟩ u3).setCell ⟨w.heap.size, 4, none⟩ u4)) := by
    intro u0 u1 u2 u3 u4
    have hle : M ≤ w.heap.size := by omega
    refine ⟨(((((RunA.mk (r2.setNext ((at_ : Int) + 1)) (kb.2.of (World.cell?_setCell_other _ _ _ _ (by simp))) hn' H.out.1.moLt).set 0 u0).set 1 u1).set 2 u2).set 3 u3 |>.set 4 u4).run, Below.setCell (Below.setCell (Below.setCell (Below.setCell (Below.setCell (below_put hb2 _ _) hle _) hle _) hle _) hle _) hle _⟩
  clear r2 b2 kp kb z hb2
  go_wp2
  refine bodyPost_ret (v := .agg #[.int .i64 op, .int .i64 a, .int .i64 b, .int .i64 c, .int .i64 n]) (by simp [results, Try.results31, go_sem, *]) rfl ⟨rfl, ?_⟩
  exact Hfin.out _ _ _ _ _

/-- The run goes on. -/
theorem seq_goesOn_on (w : World) (M : Nat) (rv : Value) (ca : Option Addr) (cl cc : Nat) (x : Ms) (se : List Se) (h : Run w M rv (.slice ca cl cc) x se) (he : x.ended = false) (hf : x.steps < x.fuel) (hn : x.next < (cl : Int)) :
    Calls Try.prog 30 #[.pointer (some ⟨M, 0, none⟩)] w fun e w' => e = .returned (.bool true) ∧ Run w' M rv (.slice ca cl cc) x se ∧ Below M w w' := by
  have H : Hid (Run w M rv (.slice ca cl cc) x se) := h
  have e1 := h.ended.1
  rw [he] at e1
  have Hf : Hid (∀ w1, More w w1 → Calls Try.prog 27 #[.pointer (some ⟨M, 0, none⟩)] w1 fun e w' => e = .returned (.bool true) ∧ More w1 w') := fun w1 m => by
    have := seq_hasFuel w1 M _ _ (h.more m).steps.1 (h.more m).fuel.1
    rw [decide_eq_true hf] at this
    exact this
  have Hn : Hid (∀ w1, More w w1 → Calls Try.prog 28 #[.pointer (some ⟨M, 0, none⟩)] w1 fun e w' => e = .returned (.bool true) ∧ More w1 w') := fun w1 m => by
    have := seq_hasNext w1 M _ ca cl cc (h.more m).next.1 (h.more m).p1.1
    rw [decide_eq_true hn] at this
    exact this
  clear h he hf hn
  go_enter Try.func30, Try.ntmps30
  go_wp2_with (fail)
  refine (Hf.out _ (More.refl _)).mono ?_
  rintro e w1 ⟨rfl, m1⟩
  have Hm1 : Hid (More w w1) := m1
  clear m1
  go_wp2_with (fail)
  refine (Hn.out _ Hm1.out).mono ?_
  rintro e w2 ⟨rfl, m2⟩
  have Hm2 : Hid (More w w2) := Hm1.out.trans m2
  have e2 := m2.cell (Hm1.out.cell e1)
  clear m2
  go_wp2
  go_ret
  exact ⟨rfl, H.out.more Hm2.out, Below.mono Hm2.out (Nat.le_of_lt H.out.lt)⟩

/-- The run has ended. -/
theorem seq_goesOn_over (w : World) (M : Nat) (rv cv : Value) (x : Ms) (se : List Se) (h : Run w M rv cv x se) (he : x.ended = true) :
    Calls Try.prog 30 #[.pointer (some ⟨M, 0, none⟩)] w fun e w' => e = .returned (.bool false) ∧ Run w' M rv cv x se ∧ Below M w w' := by
  have H : Hid (Run w M rv cv x se) := h
  have e1 := h.ended.1
  rw [he] at e1
  clear h he
  go_enter Try.func30, Try.ntmps30
  go_wp2
  go_ret
  exact ⟨rfl, H.out, Below.refl _ _⟩

/-- No fuel is left. -/
theorem seq_goesOn_fuel (w : World) (M : Nat) (rv cv : Value) (x : Ms) (se : List Se) (h : Run w M rv cv x se) (he : x.ended = false) (hf : ¬ x.steps < x.fuel) :
    Calls Try.prog 30 #[.pointer (some ⟨M, 0, none⟩)] w fun e w' => e = .returned (.bool false) ∧ Run w' M rv cv { x with fin := 0, ended := true } se ∧ Below M w w' := by
  have H : Hid (Run w M rv cv x se) := h
  have e1 := h.ended.1
  rw [he] at e1
  have Hf : Hid (∀ w1, More w w1 → Calls Try.prog 27 #[.pointer (some ⟨M, 0, none⟩)] w1 fun e w' => e = .returned (.bool false) ∧ More w1 w') := fun w1 m => by
    have := seq_hasFuel w1 M _ _ (h.more m).steps.1 (h.more m).fuel.1
    rw [decide_eq_false hf] at this
    exact this
  clear h he hf
  go_enter Try.func30, Try.ntmps30
  go_wp2_with (fail)
  refine (Hf.out _ (More.refl _)).mono ?_
  rintro e w1 ⟨rfl, m1⟩
  have Hm1 : Hid (More w w1) := m1
  clear m1
  go_wp2_with (fail)
  refine (seq_finish _ M rv cv x se 0 (H.out.more Hm1.out)).mono ?_
  rintro e w2 ⟨rfl, r2, b2⟩
  have H2 : Hid (Run w2 M rv cv { x with fin := 0, ended := true } se ∧ Below M w w2) := ⟨r2, Below.trans (Below.mono Hm1.out (Nat.le_of_lt H.out.lt)) b2⟩
  have e2 := r2.ended.1
  dsimp only at e2
  clear r2 b2
  go_wp2
  go_ret
  exact ⟨rfl, H2.out.1, H2.out.2⟩

/-- No instruction is left. -/
theorem seq_goesOn_next (w : World) (M : Nat) (rv : Value) (ca : Option Addr) (cl cc : Nat) (x : Ms) (se : List Se) (h : Run w M rv (.slice ca cl cc) x se) (he : x.ended = false) (hf : x.steps < x.fuel) (hn : ¬ x.next < (cl : Int)) :
    Calls Try.prog 30 #[.pointer (some ⟨M, 0, none⟩)] w fun e w' => e = .returned (.bool false) ∧ Run w' M rv (.slice ca cl cc) { x with fin := 2, ended := true } se ∧ Below M w w' := by
  have H : Hid (Run w M rv (.slice ca cl cc) x se) := h
  have e1 := h.ended.1
  rw [he] at e1
  have Hf : Hid (∀ w1, More w w1 → Calls Try.prog 27 #[.pointer (some ⟨M, 0, none⟩)] w1 fun e w' => e = .returned (.bool true) ∧ More w1 w') := fun w1 m => by
    have := seq_hasFuel w1 M _ _ (h.more m).steps.1 (h.more m).fuel.1
    rw [decide_eq_true hf] at this
    exact this
  have Hn : Hid (∀ w1, More w w1 → Calls Try.prog 28 #[.pointer (some ⟨M, 0, none⟩)] w1 fun e w' => e = .returned (.bool false) ∧ More w1 w') := fun w1 m => by
    have := seq_hasNext w1 M _ ca cl cc (h.more m).next.1 (h.more m).p1.1
    rw [decide_eq_false hn] at this
    exact this
  clear h he hf hn
  go_enter Try.func30, Try.ntmps30
  go_wp2_with (fail)
  refine (Hf.out _ (More.refl _)).mono ?_
  rintro e w1 ⟨rfl, m1⟩
  have Hm1 : Hid (More w w1) := m1
  clear m1
  go_wp2_with (fail)
  refine (Hn.out _ Hm1.out).mono ?_
  rintro e w2 ⟨rfl, m2⟩
  have Hm2 : Hid (More w w2) := Hm1.out.trans m2
  clear m2
  go_wp2_with (fail)
  refine (seq_finish _ M rv (.slice ca cl cc) x se 2 (H.out.more Hm2.out)).mono ?_
  rintro e w3 ⟨rfl, r3, b3⟩
  have H2 : Hid (Run w3 M rv (.slice ca cl cc) { x with fin := 2, ended := true } se ∧ Below M w w3) := ⟨r3, Below.trans (Below.mono Hm2.out (Nat.le_of_lt H.out.lt)) b3⟩
  have e2 := r3.ended.1
  dsimp only at e2
  clear r3 b3
  go_wp2
  go_ret
  exact ⟨rfl, H2.out.1, H2.out.2⟩
theorem setCells_row {g : Nat} {T : TypeId} : ∀ (vs : List Value) (o : Nat) (c : Array Value) (w : World), w.heap[g]? = some (.cells c T (0, 0)) → o + vs.length ≤ c.size →
    ∃ c', (w.setCells g o vs).heap[g]? = some (.cells c' T (0, 0)) ∧ c'.size = c.size ∧ ∀ j, c'[j]? = if o ≤ j ∧ j < o + vs.length then vs[j - o]? else c[j]?
  | [], o, c, w, h, _ => ⟨c, h, rfl, fun j => by rw [if_neg (by simp <;> omega)]⟩
  | v :: vs, o, c, w, h, hl => by
    simp only [List.length_cons] at hl
    have h1 : (w.setCell ⟨g, o, none⟩ v).heap[g]? = some (.cells (c.setIfInBounds o v) T (0, 0)) := by
      rw [setCell_eq_setRow w g o c T (0, 0) v h]
      exact setRow_heap w g c _ T _ h
    obtain ⟨c', k1, k2, k3⟩ := setCells_row vs (o + 1) _ _ h1 (by simp; omega)
    refine ⟨c', k1, by simpa using k2, fun j => ?_⟩
    rw [k3 j, Array.getElem?_setIfInBounds]
    simp only [List.length_cons]
    by_cases e : j = o
    · subst e
      rw [if_neg (by omega), if_pos rfl, if_pos (by omega), if_pos (by omega)]
      simp
    · by_cases e2 : o + 1 ≤ j ∧ j < o + 1 + vs.length
      · rw [if_pos e2, if_pos (by omega), show j - o = (j - (o + 1)) + 1 by omega]
        simp
      · rw [if_neg e2, if_neg (fun h => e h.symm), if_neg (by omega)]
theorem fold_put (off : Nat) : ∀ (l : List Value) (k : Nat) (cs : Array Value), off + k + l.length ≤ cs.size →
    ((l.zipIdx k).foldl (fun cs (x : Value × Nat) => cs.setIfInBounds (off + x.2) x.1) cs).size = cs.size ∧ ∀ j, ((l.zipIdx k).foldl (fun cs (x : Value × Nat) => cs.setIfInBounds (off + x.2) x.1) cs)[j]? = if off + k ≤ j ∧ j < off + k + l.length then l[j - (off + k)]? else cs[j]?
  | [], k, cs, _ => ⟨rfl, fun j => by rw [if_neg (by simp <;> omega)]; rfl⟩
  | v :: l, k, cs, h => by
    simp only [List.length_cons] at h
    obtain ⟨h1, h2⟩ := fold_put off l (k + 1) (cs.setIfInBounds (off + k) v) (by simp; omega)
    simp only [List.zipIdx_cons, List.foldl_cons]
    refine ⟨by rw [h1]; simp, fun j => ?_⟩
    rw [h2 j, Array.getElem?_setIfInBounds]
    simp only [List.length_cons]
    by_cases e : j = off + k
    · subst e
      rw [if_neg (by omega), if_pos rfl, if_pos (by omega), if_pos (by omega)]
      simp
    · by_cases e2 : off + (k + 1) ≤ j ∧ j < off + (k + 1) + l.length
      · rw [if_pos e2, if_pos (by omega), show j - (off + k) = (j - (off + (k + 1))) + 1 by omega]
        simp
      · rw [if_neg e2, if_neg (fun h => e h.symm), if_neg (by omega)]
theorem fill_cons (place : Nat → Option (Nat × Nat)) (cs : Array Value) (i : Nat) (v : Value) (rest : List (Nat × Value)) (off size : Nat) (hp : place i = some (off, size)) (hv : v.cells.size = size) (hs : off + size ≤ cs.size) :
    ∃ cs', Instr.fill place cs ((i, v) :: rest) = Instr.fill place cs' rest ∧ cs'.size = cs.size ∧ ∀ j, cs'[j]? = if off ≤ j ∧ j < off + size then v.cells[j - off]? else cs[j]? := by
  obtain ⟨h1, h2⟩ := fold_put off v.cells.toList 0 cs (by simp; omega)
  have e : v.cells.zipIdx.foldl (fun cs (x : Value × Nat) => cs.setIfInBounds (off + x.2) x.1) cs = (v.cells.toList.zipIdx 0).foldl (fun cs (x : Value × Nat) => cs.setIfInBounds (off + x.2) x.1) cs := by
    rw [← Array.foldl_toList]
    simp
  refine ⟨_, ?_, h1, fun j => ?_⟩
  · rw [Instr.fill]
    simp only [hp]
    rw [if_neg (by simp; omega)]
    rw [← e]
  · rw [h2 j]
    simp only [Nat.add_zero, Array.length_toList, hv, Array.getElem?_toList]
theorem built_struct {P : Program} {t : TypeId} {fields : Array Field} {it : TypeInfo} {z : Value} {places : List (Nat × Nat)} (hi : P.info? t = some it) (hu : P.underlying t = some (.struct fields)) (hz : it.zero = some z)
    (hp : fields.toList.mapM (fun f => (P.info? f.type).map fun i => (f.offset, i.size)) = some places) (parts : List (Nat × Value)) : P.built t parts = Instr.fill (places.toArray[·]?) z.cells parts := by
  unfold Program.built
  simp only [hi, hu, hz, hp]

def fieldsOf (P : Program) (t : TypeId) : List Field := match P.underlying t with | some (.struct fs) => fs.toList | _ => []
end
section
open Go.RowKit
set_option linter.unusedSimpArgs false
set_option linter.unusedVariables false
theorem run_load_partS {P : Program} (w : World) (g o : Nat) (ty : TypeId) (cs : List Value) (d : TypeDesc) (hc : ∀ j v, cs[j]? = some v → w.cell? ⟨g, o + j, none⟩ = some v)
    (hu : P.underlying ty = some d) (hd : (match d with | .struct _ | .array _ _ => true | _ => false) = true) (hi : (P.info? ty).map (·.size) = some cs.length) :
    (loadVar ty ⟨g, o, none⟩).run P w = .ok (.agg cs.toArray) w := by
  have hl : (loadCells ⟨g, o, none⟩ cs.length).run P w = .ok cs.toArray w :=
    run_loadCells_list (P := P) w ⟨g, o, none⟩ cs (fun j v hv => by rw [Go.WideShapes.add_plain]; exact hc j v hv)
  cases hq : P.info? ty with
  | none => simp [hq] at hi
  | some i =>
    have hs : i.size = cs.length := by simpa [hq] using hi
    have hagg : (isAgg ty).run P w = .ok true w := by
      unfold isAgg
      rw [Sem.run_bind, run_underlying hu w]
      cases d <;> simp_all
    simp [loadVar, Sem.run_bind, hagg, sizeOf, typeInfo, hq, hs, hl]

theorem run_store_partS {P : Program} (w : World) (g o : Nat) (ty : TypeId) (cs : Array Value) (hi : (P.info? ty).map (·.size) = some cs.size) (hc : ∀ j, j < cs.size → ∃ v, Wr w g (o + j) v) (h1 : ∀ v ∈ cs.toList, v.oneCell' = true) :
    (storeVar ty ⟨g, o, none⟩ (.agg cs)).run P w = .ok () (w.setCells g o cs.toList) := by
  have hst := run_storeCells_cells (P := P) g o cs.toList 0 w (fun j hj => by obtain ⟨v, hv⟩ := hc j (by simpa using hj); simp [hv.1]) (fun j hj => by obtain ⟨v, hv⟩ := hc j (by simpa using hj); simp [hv.2]) h1
  cases hq : P.info? ty with
  | none => simp [hq] at hi
  | some i =>
    have hs : cs.size = i.size := by simp [hq] at hi; omega
    simp [storeVar, sizeOf, typeInfo, hq, Value.cells, hs]
    simpa using hst

theorem wp_store_partS {P : Program} {o : Oper} {a : Act} {w : World} {K : Act → World → Prop} {Q : Exit → Act → World → Prop} (ty : TypeId) (x y : Operand) (ho : o.op = .store ty x y)
    (g k : Nat) (cs : Array Value) (hx : a.eval x = .pointer (some ⟨g, k, none⟩)) (hy : a.eval y = .agg cs) (hi : (P.info? ty).map (·.size) = some cs.size) (hc : ∀ j, j < cs.size → ∃ v, Wr w g (k + j) v) (h1 : ∀ v ∈ cs.toList, v.oneCell' = true)
    (h : K (a.put o.dst undef) (w.setCells g k cs.toList)) : o.wp P a w K Q := by
  unfold Oper.wp execOp
  simp only [ho, hx, hy, Instr.storeAt, Instr.sureAddr, Sem.run_bind, Sem.run_pure, Result.andThen_ok, run_store_partS w g k ty cs hi hc h1]
  exact h

theorem exec_load_partS {P : Program} {o : Oper} {a : Act} {w : World} (ty : TypeId) (x : Operand) (ho : o.op = .load ty x)
    (g k : Nat) (hx : a.eval x = .pointer (some ⟨g, k, none⟩)) (cs : List Value) (d : TypeDesc) (hc : ∀ j v, cs[j]? = some v → w.cell? ⟨g, k + j, none⟩ = some v)
    (hu : P.underlying ty = some d) (hd : (match d with | .struct _ | .array _ _ => true | _ => false) = true) (hi : (P.info? ty).map (·.size) = some cs.length) :
    (execOp a.eval o).run P w = .ok (.value (.agg cs.toArray)) w := by
  unfold execOp
  simp only [ho, hx, Instr.loadAt, Instr.sureAddr, Sem.run_bind, Sem.run_pure, Result.andThen_ok, run_load_partS w g k ty cs d hc hu hd hi]

theorem exec_build {P : Program} {o : Oper} {a : Act} {w : World} (t : TypeId) (parts : Array (Nat × Operand)) (ho : o.op = .build t parts) (C : Array Value)
    (hf : P.built t (parts.map fun (i, x) => (i, a.eval x)).toList = some C) : (execOp a.eval o).run P w = .ok (.value (.agg C)) w := by
  unfold execOp
  simp only [ho, Sem.run_bind, run_build w t _ C hf, Result.andThen_ok, Sem.run_pure]
end
section
open Go.ChangeMaps (setBlock heap_setBlock_same heap_setBlock_other)
open Go.MapKept (Stamped stamped_push stamped_modify stamped_empty)
open Go.RowKit
open Go.WideMaps (KeyLaw)
set_option linter.unusedSimpArgs false
set_option linter.unusedVariables false
set_option maxRecDepth 8000
theorem laidAll : laidOutB Try.prog = true := by kernel_rfl
theorem row127 : (103 : TypeId) < Try.prog.types.size := of_decide_eq_true (by kernel_rfl)
theorem wide127 : (match Try.prog.underlying 103 with | some (.array _ _) | some (.struct _) => true | _ => false) = true := by kernel_rfl
theorem law127 : KeyLaw Try.prog 103 := deep_law_laid laidAll (m := 3) (by omega) row127 (by kernel_rfl) wide127
theorem cells127 : Try.prog.cellsOf 103 = 2 := by kernel_rfl
theorem cells2' : Try.prog.cellsOf 2 = 1 := by kernel_rfl
theorem cells3' : Try.prog.cellsOf 3 = 1 := by kernel_rfl
theorem keyType127 : Try.prog.keyType 103 = true := by kernel_rfl

def pk (n t : Int) : Value := .agg #[.int .i64 n, .int .i64 t]
theorem pk_inj {n t n' t' : Int} (h : pk n t = pk n' t') : n = n' ∧ t = t' := by
  unfold pk at h
  simp at h
  exact h

theorem B64_wf {n : Int} (h : B64 n) : (Lit.int .i64 n).wf = true := by
  unfold B64 at h
  simp [Lit.wf, IntKind.min, IntKind.max, IntKind.signed, IntKind.bits]
  omega

theorem keyOf_two {P : Program} {k : TypeId} {f1 f2 : Field} {m : Nat} (hu : P.underlying k = some (.struct #[f1, f2])) (hkt : P.keyType k = true) (hc : P.cellsOf k = 2) (hn : (#[f1, f2].all (·.name != "_")) = true) (o1 : f1.offset = 0) (o2 : f2.offset = 1)
    (u1 : P.underlying f1.type = some (.int .i64)) (u2 : P.underlying f2.type = some (.int .i64)) (c1 : P.cellsOf f1.type = 1) (c2 : P.cellsOf f2.type = 1) (hm : P.types.size + 1 = m + 2) {a b : Int} (h1 : (Lit.int .i64 a).wf = true) (h2 : (Lit.int .i64 b).wf = true) :
    keyOf P k (.agg #[.int .i64 a, .int .i64 b]) = some (.string (keyBytes [Lit.int .i64 a, Lit.int .i64 b])) := by
  unfold keyOf
  simp only [hu]
  rw [if_pos (by simp [hkt, Value.formed, hu, hc]), hm]
  unfold Program.keyLits
  simp only [hu, Value.cells]
  rw [if_pos ⟨by rw [hc]; rfl, hn⟩]
  simp [List.mapM_cons, o1, o2, c1, c2, Program.keyLits, u1, u2, h1, h2]

theorem key127 {n t : Int} (hn : B64 n) (ht : B64 t) : ∃ l, keyOf Try.prog 103 (pk n t) = some l :=
  ⟨_, keyOf_two (m := 143) Try.underlying103 keyType127 cells127 (by simp) rfl rfl Try.underlying2 Try.underlying3 cells2' cells3' (by kernel_rfl) (B64_wf hn) (B64_wf ht)⟩

/-- Block b is a map in which what is at two numbers is f of them, or nothing where f is 0. -/
structure MapAt (w : World) (b : Nat) (f : Int → Int → Int) : Prop where
  out : ∃ es clock, w.heap[b]? = some (.map es clock) ∧ Stamped es clock ∧ (∀ e ∈ es.toList, ∃ n t, B64 n ∧ B64 t ∧ e.key = pk n t ∧ e.val = .int .i64 (f n t)) ∧ (∀ n t, (∀ e ∈ es.toList, e.key ≠ pk n t) → f n t = 0)

theorem MapAt.lt {w : World} {b : Nat} {f : Int → Int → Int} (h : MapAt w b f) : b < w.heap.size := by
  obtain ⟨es, clock, hb, _⟩ := h.out
  exact (Array.getElem?_eq_some_iff.1 hb).1
theorem MapAt.block {w w' : World} {b : Nat} {f : Int → Int → Int} (h : MapAt w b f) (hb : w'.heap[b]? = w.heap[b]?) : MapAt w' b f := by
  obtain ⟨es, clock, h1, h2⟩ := h.out
  exact ⟨es, clock, hb.trans h1, h2⟩
theorem MapAt.made (w : World) : MapAt (w.alloc (.map #[] 0)) w.heap.size (fun _ _ => 0) :=
  ⟨#[], 0, (MapKept.heap_alloc w _).1, stamped_empty 0, by simp, fun _ _ _ => rfl⟩

theorem MapAt.look {w : World} {b : Nat} {f : Int → Int → Int} (h : MapAt w b f) {n t : Int} (hn : B64 n) (ht : B64 t) : (Instr.lookup 56 (.map (some b)) (pk n t) false).run Try.prog w = .ok (.int .i64 (f n t)) w := by
  obtain ⟨es, clock, hb, hs, he, hz⟩ := h.out
  obtain ⟨l, hkey⟩ := key127 hn ht
  have hzero : (zeroValue 2).run Try.prog w = .ok (.int .i64 0) w := by kernel_rfl
  rcases law127.find w hkey es.toList (fun e hm => by obtain ⟨n', t', h1, h2, h3, _⟩ := he e hm; rw [h3]; exact key127 h1 h2) with ⟨h1, h2⟩ | ⟨j, e0, h1, h2, h3⟩
  · rw [hz n t h2]
    simp [Instr.lookup, run_underlying Try.underlying56, MapKept.run_getObj_map hb, law127.check w _ hkey, h1, hzero, Result.andThen]
  · obtain ⟨n', t', _, _, h5, h6⟩ := he e0 (List.mem_of_getElem? h2)
    obtain ⟨rfl, rfl⟩ := pk_inj (h3.symm.trans h5)
    simp [Instr.lookup, run_underlying Try.underlying56, MapKept.run_getObj_map hb, law127.check w _ hkey, h1, h6, Result.andThen]

theorem MapAt.update {w : World} {b : Nat} {f : Int → Int → Int} (h : MapAt w b f) {n t : Int} (hn : B64 n) (ht : B64 t) (v : Int) :
    ∃ w', (Instr.mapUpdate 56 (.map (some b)) (pk n t) (.int .i64 v)).run Try.prog w = .ok () w' ∧ MapAt w' b (fun n' t' => if n' = n ∧ t' = t then v else f n' t') ∧ w.grownBy w' (some b) := by
  obtain ⟨es, clock, hb, hs, he, hz⟩ := h.out
  obtain ⟨l, hkey⟩ := key127 hn ht
  have grown : ∀ o, w.grownBy (setBlock w b o) (some b) := fun o => ⟨rfl, rfl, rfl, by simp [setBlock], fun i _ hi => heap_setBlock_other hb _ (fun e => hi (by rw [e]))⟩
  rcases law127.find w hkey es.toList (fun e hm => by obtain ⟨n', t', h1, h2, h3, _⟩ := he e hm; rw [h3]; exact key127 h1 h2) with ⟨h1, h2⟩ | ⟨j, e0, h1, h2, h3⟩
  · refine ⟨setBlock w b (.map (es.push ⟨pk n t, .int .i64 v, clock⟩) (clock + 1)), ?_, ⟨_, _, heap_setBlock_same hb _, stamped_push hs h2, fun e hm => ?_, fun n' t' ha => ?_⟩, grown _⟩
    · simp [Instr.mapUpdate, run_underlying Try.underlying56, MapKept.run_getObj_map hb, law127.check w false hkey, h1, MapKept.run_setObj_map _ hb, Result.andThen, setBlock]
    · simp only [Array.toList_push, List.mem_append, List.mem_singleton] at hm
      rcases hm with hm | rfl
      · obtain ⟨n', t', a1, a2, a3, a4⟩ := he e hm
        refine ⟨n', t', a1, a2, a3, ?_⟩
        rw [if_neg (fun hh => h2 e hm (by rw [a3, hh.1, hh.2]))]
        exact a4
      · exact ⟨n, t, hn, ht, rfl, by rw [if_pos ⟨rfl, rfl⟩]⟩
    · simp only [Array.toList_push, List.mem_append, List.mem_singleton] at ha
      have h4 : ¬ (n' = n ∧ t' = t) := fun hh => ha ⟨pk n t, .int .i64 v, clock⟩ (.inr rfl) (by rw [hh.1, hh.2])
      rw [if_neg h4]
      exact hz n' t' (fun e hm => ha e (.inl hm))
  · have hj : es[j]? = some e0 := by simpa using h2
    have hjl : j < es.toList.length := (List.getElem?_eq_some_iff.1 h2).1
    have hlist : (es.modify j (fun e' => { e' with key := pk n t, val := .int .i64 v })).toList = es.toList.set j { e0 with key := pk n t, val := .int .i64 v } := by rw [Array.toList_modify, ChangeMaps.modify_eq_set _ _ _ _ h2]
    refine ⟨setBlock w b (.map (es.modify j (fun e' => { e' with key := pk n t, val := .int .i64 v })) clock), ?_, ⟨_, _, heap_setBlock_same hb _, stamped_modify hs _ _ (fun _ _ => rfl) (fun e' _ he' => by rw [hj] at he'; cases he'; exact h3.symm), fun e hm => ?_, fun n' t' ha => ?_⟩, grown _⟩
    · simp [Instr.mapUpdate, run_underlying Try.underlying56, MapKept.run_getObj_map hb, law127.check w false hkey, h1, hj, h3, law127.stays w hkey, MapKept.run_setObj_map _ hb, Result.andThen, setBlock]
    · rw [hlist] at hm
      obtain ⟨i, hi, ex⟩ := List.getElem_of_mem hm
      rw [List.getElem_set] at ex
      split at ex
      · subst ex
        exact ⟨n, t, hn, ht, rfl, by rw [if_pos ⟨rfl, rfl⟩]⟩
      · rename_i hne
        have hi' : i < es.toList.length := by simpa using hi
        have hm' : e ∈ es.toList := ex ▸ List.getElem_mem hi'
        obtain ⟨n', t', a1, a2, a3, a4⟩ := he e hm'
        refine ⟨n', t', a1, a2, a3, ?_⟩
        rw [if_neg (fun hh => ?_)]
        · exact a4
        have hk : e.key = e0.key := by rw [a3, h3, hh.1, hh.2]
        have hnd := hs.2.2
        have e1 : (es.toList.map (·.key))[i]? = (es.toList.map (·.key))[j]? := by
          rw [List.getElem?_map, List.getElem?_map, h2, List.getElem?_eq_getElem hi', ex]
          simp [hk]
        exact hne (((List.getElem?_inj (by simpa using hi') hnd).1 e1).symm)
    · rw [hlist] at ha
      have h4 : ¬ (n' = n ∧ t' = t) := fun hh => ha { e0 with key := pk n t, val := .int .i64 v } (List.mem_iff_getElem.2 ⟨j, by simpa using hjl, by simp⟩) (by rw [hh.1, hh.2])
      rw [if_neg h4]
      refine hz n' t' (fun e hm hk => ?_)
      obtain ⟨i, hi, ex⟩ := List.getElem_of_mem hm
      by_cases e1 : j = i
      · subst e1
        have : e = e0 := by rw [← ex]; exact (List.getElem?_eq_some_iff.1 h2).2
        subst this
        exact h4 (by obtain ⟨a, b⟩ := pk_inj (hk.symm.trans h3); exact ⟨a, b⟩)
      · exact ha e (List.mem_iff_getElem.2 ⟨i, by simpa using hi, by rw [List.getElem_set, if_neg e1]; exact ex⟩) hk

/-- Both at the operation. -/
theorem wp_look {o : Oper} {a : Act} {w : World} {K : Act → World → Prop} {Q : Exit → Act → World → Prop} (m x : Operand) (ho : o.op = .lookup 56 m x false) (b : Nat) (f : Int → Int → Int) (n t : Int)
    (hm : a.eval m = .map (some b)) (hx : a.eval x = pk n t) (hM : MapAt w b f) (hn : B64 n) (ht : B64 t) (h : K (a.put o.dst (.int .i64 (f n t))) w) : o.wp Try.prog a w K Q := by
  unfold Oper.wp execOp
  simp only [ho, hm, hx, hM.look hn ht, Sem.run_bind, Sem.run_pure, Result.andThen_ok]
  exact h
theorem wp_update {o : Oper} {a : Act} {w : World} {K : Act → World → Prop} {Q : Exit → Act → World → Prop} (m x y : Operand) (ho : o.op = .mapUpdate 56 m x y) (b : Nat) (f : Int → Int → Int) (n t v : Int)
    (hm : a.eval m = .map (some b)) (hx : a.eval x = pk n t) (hy : a.eval y = .int .i64 v) (hM : MapAt w b f) (hn : B64 n) (ht : B64 t)
    (h : ∀ w', MapAt w' b (fun n' t' => if n' = n ∧ t' = t then v else f n' t') → w.grownBy w' (some b) → K (a.put o.dst undef) w') : o.wp Try.prog a w K Q := by
  obtain ⟨w', h1, h2, h3⟩ := hM.update hn ht v
  unfold Oper.wp execOp
  simp only [ho, hm, hx, hy, h1, Sem.run_bind, Sem.run_pure, Result.andThen_ok]
  exact h w' h2 h3
theorem wpList_look {ops : Array Oper} {rest : List Oper} {o : Oper} {a : Act} {w : World} {Q : Exit → Act → World → Prop} (hgd : o.guard = none) (m x : Operand) (ho : o.op = .lookup 56 m x false) (b : Nat) (f : Int → Int → Int) (n t : Int)
    (hm : a.eval m = .map (some b)) (hx : a.eval x = pk n t) (hM : MapAt w b f) (hn : B64 n) (ht : B64 t) (h : wpList Try.prog ops Q rest (a.put o.dst (.int .i64 (f n t))) w) : wpList Try.prog ops Q (o :: rest) a w :=
  wpList_plain hgd fun _ hK => wp_look m x ho b f n t hm hx hM hn ht (hK _ _ h)
end
section
open Go.RowKit
set_option maxHeartbeats 400000 in
theorem regions_calls (ra : Option Addr) (rl rc : Nat) (ca : Option Addr) (cl cc : Nat) (code regs : Int) (b o : Nat) (log : Nat → Int) (sec : Nat → Bool) (w : World)
    (hra : 0 < rl → ra = some ⟨b, o, none⟩) (hr : RegsAt w b o rl log sec) :
    Calls Try.prog 49 #[.agg #[.slice ra rl rc, .slice ca cl cc, .int .i64 code, .int .i64 regs]] w (Says (RegionsOk rl log) w) := by
  by_cases h6 : 6 < rl
  · have Hr : Hid (RegsAt w b o rl log sec) := hr
    clear hr
    have h6' : (6 : Int) < (rl : Int) := by omega
    go_enter Try.func49, Try.ntmps49
    go_wp2
    go_ret
    exact Says.no (fun h => by have := h.1; omega) ((More.refl _).alloc _ _)
  · have h6' : ¬ (6 : Int) < (rl : Int) := by omega
    have Hr : Hid (RegsAt w b o rl log sec) := hr
    have Ha : Hid (0 < rl → ra = some ⟨b, o, none⟩) := hra
    clear hr hra
    go_enter Try.func49, Try.ntmps49
    go_wp2
    go_loopg [14] rl (fun g i wr => ∃ k : Nat, k + g = rl ∧ i = .int .i64 k ∧ (∀ j, j < k → 0 ≤ log j ∧ log j ≤ 6) ∧ More w wr)
    case atStart => exact ⟨0, by omega, rfl, fun j hj => by omega, (More.refl _).alloc _ _⟩
    case round =>
      obtain ⟨k, hkg, rfl, hok, m⟩ := hrel
      have Hm : Hid (More w wr ∧ ∀ j, j < k → 0 ≤ log j ∧ log j ≤ 6) := ⟨m, hok⟩
      clear m hok
      cases gk with
      | zero =>
        obtain rfl : k = rl := by omega
        go_wp2
        go_ret
        exact Says.yes ⟨by omega, Hm.out.2⟩ Hm.out.1
      | succ g =>
        have hk : k < rl := by omega
        have hk' : (k : Int) < (rl : Int) := by omega
        obtain rfl := Ha.out (by omega)
        have hc0 := ((Hr.out.more Hm.out.1) k hk).1
        have hc1 := ((Hr.out.more Hm.out.1) k hk).2
        by_cases hlo : log k < 0
        · go_wp2
          go_ret
          exact Says.no (fun h => by have := (h.2 k hk).1; omega) (by repeat (first | exact Hm.out.1 | apply More.alloc))
        · by_cases hhi : 6 < log k
          · go_wp2
            go_ret
            exact Says.no (fun h => by have := (h.2 k hk).2; omega) (by repeat (first | exact Hm.out.1 | apply More.alloc))
          · go_wp2
            go_roundg g
            case measure => omega
            case rel =>
              refine ⟨k + 1, by omega, by first | rfl | simp, fun j hj => ?_, by repeat (first | exact Hm.out.1 | apply More.alloc)⟩
              by_cases e : j = k
              · subst e; omega
              · exact Hm.out.2 j (by omega)

set_option maxHeartbeats 400000 in
theorem registers_calls (ra : Option Addr) (rl rc : Nat) (ca : Option Addr) (cl cc : Nat) (code regs : Int) (g n c : Nat) (hn : n ≤ 3) (x : Nat → Int) (w : World)
    (hx : ∀ i, i < n → w.cell? ⟨g, i, none⟩ = some (.int .i64 (x i))) :
    Calls Try.prog 84 #[.agg #[.slice ra rl rc, .slice ca cl cc, .int .i64 code, .int .i64 regs], .slice (some ⟨g, 0, none⟩) n c] w (Says (∀ i, i < n → Reg regs (x i)) w) := by
  have Hx : Hid (∀ i, i < n → w.cell? ⟨g, i, none⟩ = some (.int .i64 (x i))) := hx
  clear hx
  go_enter Try.func84, Try.ntmps84
  go_wp2
  go_loopg [9] n (fun q i wr => ∃ k : Nat, k + q = n ∧ i = .int .i64 k ∧ (∀ j, j < k → Reg regs (x j)) ∧ wr = w.alloc (.cells #[.slice ra rl rc, .slice ca cl cc, .int .i64 code, .int .i64 regs] 93))
  case atStart => exact ⟨0, by omega, rfl, fun j hj => by omega, rfl⟩
  case round =>
    obtain ⟨k, hkg, rfl, hok, rfl⟩ := hrel
    have Hok : Hid (∀ j, j < k → Reg regs (x j)) := hok
    clear hok
    cases gk with
    | zero =>
      obtain rfl : k = n := by omega
      go_wp2
      go_ret
      exact Says.yes Hok.out ((More.refl _).alloc _ _)
    | succ q =>
      have hk : k < n := by omega
      have hk' : (k : Int) < (n : Int) := by omega
      have hc0 := Hx.out k hk
      have hc := ((More.refl w).alloc #[.slice ra rl rc, .slice ca cl cc, .int .i64 code, .int .i64 regs] 93).cell hc0
      clear hc0
      by_cases hlo : x k < 0
      · go_wp2
        go_ret
        exact Says.no (fun h => by have := (h k hk).1; omega) ((More.refl _).alloc _ _)
      · by_cases hhi : regs ≤ x k
        · go_wp2
          go_ret
          exact Says.no (fun h => by have := (h k hk).2; omega) ((More.refl _).alloc _ _)
        · go_wp2
          go_roundg q
          case measure => omega
          case rel =>
            refine ⟨k + 1, by omega, by first | rfl | simp, fun j hj => ?_, rfl⟩
            by_cases e : j = k
            · subst e; exact ⟨by omega, by omega⟩
            · exact Hok.out j (by omega)

theorem region_calls (ra : Option Addr) (rl rc : Nat) (ca : Option Addr) (cl cc : Nat) (code regs : Int) (c : Int) (w : World) :
    Calls Try.prog 85 #[.agg #[.slice ra rl rc, .slice ca cl cc, .int .i64 code, .int .i64 regs], .int .i64 c] w (Says (Rgn rl c) w) := by
  by_cases h0 : 0 ≤ c
  · by_cases h1 : c < (rl : Int)
    · go_enter Try.func85, Try.ntmps85
      go_wp2
      go_ret
      exact Says.yes ⟨h0, h1⟩ ((More.refl _).alloc _ _)
    · go_enter Try.func85, Try.ntmps85
      go_wp2
      go_ret
      exact Says.no (fun h => by have := h.2; omega) ((More.refl _).alloc _ _)
  · go_enter Try.func85, Try.ntmps85
    go_wp2
    go_ret
    exact Says.no (fun h => by have := h.1; omega) ((More.refl _).alloc _ _)

theorem lay_below_calls (n e : Int) (w : World) : Calls Try.prog 86 #[.int .i64 n, .int .i64 e] w (Says (Blw n e) w) := by
  by_cases h0 : 0 ≤ n
  · by_cases h1 : n < e
    · go_enter Try.func86, Try.ntmps86
      go_wp2
      go_ret
      exact Says.yes ⟨h0, h1⟩ (More.refl _)
    · go_enter Try.func86, Try.ntmps86
      go_wp2
      go_ret
      exact Says.no (fun h => by have := h.2; omega) (More.refl _)
  · go_enter Try.func86, Try.ntmps86
    go_wp2
    go_ret
    exact Says.no (fun h => by have := h.1; omega) (More.refl _)

theorem place_calls (ra : Option Addr) (rl rc : Nat) (ca : Option Addr) (cl cc : Nat) (code regs : Int) (n : Int) (w : World) :
    Calls Try.prog 87 #[.agg #[.slice ra rl rc, .slice ca cl cc, .int .i64 code, .int .i64 regs], .int .i64 n] w (Says (Plc cl n) w) := by
  go_enter Try.func87, Try.ntmps87
  go_wp2_with (fail)
  refine (lay_below_calls _ _ _).mono ?_
  rintro e w1 ⟨r, rfl, hr, m⟩
  have Hr : Hid ((r = true ↔ Plc cl n) ∧ More w w1) := ⟨hr, ((More.refl _).alloc _ _).trans m⟩
  clear hr m
  go_wp2
  go_ret
  exact ⟨r, rfl, Hr.out.1, Hr.out.2⟩

theorem condition_calls (c : Int) (w : World) : Calls Try.prog 88 #[.int .i64 c] w (Says (Btw 1 4 c) w) := by
  by_cases h0 : 1 ≤ c
  · by_cases h1 : c ≤ 4
    · go_enter Try.func88, Try.ntmps88
      go_wp2
      go_ret
      exact Says.yes ⟨h0, h1⟩ (More.refl _)
    · go_enter Try.func88, Try.ntmps88
      go_wp2
      go_ret
      exact Says.no (fun h => by have := h.2; omega) (More.refl _)
  · go_enter Try.func88, Try.ntmps88
    go_wp2
    go_ret
    exact Says.no (fun h => by have := h.1; omega) (More.refl _)

theorem operation_calls (c : Int) (w : World) : Calls Try.prog 89 #[.int .i64 c] w (Says (Btw 21 30 c) w) := by
  by_cases h0 : 21 ≤ c
  · by_cases h1 : c ≤ 30
    · go_enter Try.func89, Try.ntmps89
      go_wp2
      go_ret
      exact Says.yes ⟨h0, h1⟩ (More.refl _)
    · go_enter Try.func89, Try.ntmps89
      go_wp2
      go_ret
      exact Says.no (fun h => by have := h.2; omega) (More.refl _)
  · go_enter Try.func89, Try.ntmps89
    go_wp2
    go_ret
    exact Says.no (fun h => by have := h.1; omega) (More.refl _)

theorem words_lit (l : Int) (h0 : 0 ≤ l) (h1 : l ≤ 6) (n : Int) (hn : n = wordsI l) (s : Bool) (w : World) :
    Calls Try.prog 50 #[.agg #[.int .i64 l, .bool s]] w fun e w' => e = .returned (.int .i64 n) ∧ More w w' := by
  have : l = 0 ∨ l = 1 ∨ l = 2 ∨ l = 3 ∨ l = 4 ∨ l = 5 ∨ l = 6 := by omega
  clear h0 h1
  rcases this with rfl | rfl | rfl | rfl | rfl | rfl | rfl
  all_goals
    simp [wordsI] at hn
    subst hn
    go_enter Try.func50, Try.ntmps50
    go_wp2
    go_ret
    exact ⟨rfl, (More.refl _).alloc _ _⟩

theorem words_calls (l : Int) (h0 : 0 ≤ l) (h1 : l ≤ 6) (s : Bool) (w : World) :
    Calls Try.prog 50 #[.agg #[.int .i64 l, .bool s]] w fun e w' => e = .returned (.int .i64 (wordsI l)) ∧ More w w' :=
  words_lit l h0 h1 _ rfl s w
/-- What the named fields must be. -/
def FieldsOk (rl : Nat) (log : Nat → Int) (cl : Nat) (regs op a b c n : Int) : Prop :=
  if op = 1 then Reg regs a
  else if op = 2 then Reg regs a ∧ Reg regs b
  else if op = 3 then (Reg regs a ∧ Reg regs b) ∧ Rgn rl c
  else if op = 4 then (Reg regs a ∧ Reg regs b) ∧ Rgn rl c
  else if op = 5 then Reg regs a ∧ Rgn rl c ∧ Wrd log c n
  else if op = 6 then Reg regs a ∧ Rgn rl c ∧ Wrd log c n
  else if op = 7 then Plc cl n
  else if op = 8 then (Reg regs a ∧ Reg regs b) ∧ Btw 1 4 c ∧ Plc cl n
  else if op = 9 then Reg regs a
  else if op = 10 then Reg regs a ∧ Reg regs b
  else if op = 11 then Reg regs a ∧ Btw 1 64 n
  else if op = 12 then True
  else Btw 21 30 op ∧ Reg regs a ∧ Reg regs b ∧ Reg regs c

theorem registers1 (ra : Option Addr) (rl rc : Nat) (ca : Option Addr) (cl cc : Nat) (code regs : Int) (g c : Nat) (x : Int) (w : World) (h0 : w.cell? ⟨g, 0, none⟩ = some (.int .i64 x)) :
    Calls Try.prog 84 #[.agg #[.slice ra rl rc, .slice ca cl cc, .int .i64 code, .int .i64 regs], .slice (some ⟨g, 0, none⟩) 1 c] w (Says (Reg regs x) w) := by
  refine (registers_calls ra rl rc ca cl cc code regs g 1 c (by omega) (fun _ => x) w (fun i hi => ?_)).mono ?_
  · obtain rfl : i = 0 := by omega
    exact h0
  · rintro e w' ⟨r, rfl, hr, m⟩
    exact ⟨r, rfl, hr.trans ⟨fun h => h 0 (by omega), fun h _ _ => h⟩, m⟩

theorem registers2 (ra : Option Addr) (rl rc : Nat) (ca : Option Addr) (cl cc : Nat) (code regs : Int) (g c : Nat) (x y : Int) (w : World) (h0 : w.cell? ⟨g, 0, none⟩ = some (.int .i64 x)) (h1 : w.cell? ⟨g, 1, none⟩ = some (.int .i64 y)) :
    Calls Try.prog 84 #[.agg #[.slice ra rl rc, .slice ca cl cc, .int .i64 code, .int .i64 regs], .slice (some ⟨g, 0, none⟩) 2 c] w (Says (Reg regs x ∧ Reg regs y) w) := by
  refine (registers_calls ra rl rc ca cl cc code regs g 2 c (by omega) (fun i => if i = 0 then x else y) w (fun i hi => ?_)).mono ?_
  · have : i = 0 ∨ i = 1 := by omega
    rcases this with rfl | rfl
    · exact h0
    · exact h1
  · rintro e w' ⟨r, rfl, hr, m⟩
    refine ⟨r, rfl, hr.trans ⟨fun h => ⟨h 0 (by omega), h 1 (by omega)⟩, fun h i hi => ?_⟩, m⟩
    have : i = 0 ∨ i = 1 := by omega
    rcases this with rfl | rfl
    · exact h.1
    · exact h.2

theorem registers3 (ra : Option Addr) (rl rc : Nat) (ca : Option Addr) (cl cc : Nat) (code regs : Int) (g c : Nat) (x y z : Int) (w : World) (h0 : w.cell? ⟨g, 0, none⟩ = some (.int .i64 x)) (h1 : w.cell? ⟨g, 1, none⟩ = some (.int .i64 y)) (h2 : w.cell? ⟨g, 2, none⟩ = some (.int .i64 z)) :
    Calls Try.prog 84 #[.agg #[.slice ra rl rc, .slice ca cl cc, .int .i64 code, .int .i64 regs], .slice (some ⟨g, 0, none⟩) 3 c] w (Says (Reg regs x ∧ Reg regs y ∧ Reg regs z) w) := by
  refine (registers_calls ra rl rc ca cl cc code regs g 3 c (by omega) (fun i => if i = 0 then x else if i = 1 then y else z) w (fun i hi => ?_)).mono ?_
  · have : i = 0 ∨ i = 1 ∨ i = 2 := by omega
    rcases this with rfl | rfl | rfl
    · exact h0
    · exact h1
    · exact h2
  · rintro e w' ⟨r, rfl, hr, m⟩
    refine ⟨r, rfl, hr.trans ⟨fun h => ⟨h 0 (by omega), h 1 (by omega), h 2 (by omega)⟩, fun h i hi => ?_⟩, m⟩
    have : i = 0 ∨ i = 1 ∨ i = 2 := by omega
    rcases this with rfl | rfl | rfl
    · exact h.1
    · exact h.2.1
    · exact h.2.2

/-- The two boxes of the receiver and of the instruction, in a world that has grown since. -/
theorem boxes {w w1 : World} {x0 x1 x2 x3 y0 y1 y2 y3 y4 : Value} {t u : TypeId} (m : More ((w.alloc (.cells #[x0, x1, x2, x3] t)).alloc (.cells #[y0, y1, y2, y3, y4] u)) w1) :
    (w1.cell? ⟨w.heap.size, 0, none⟩ = some x0 ∧ w1.cell? ⟨w.heap.size, 1, none⟩ = some x1 ∧ w1.cell? ⟨w.heap.size, 2, none⟩ = some x2 ∧ w1.cell? ⟨w.heap.size, 3, none⟩ = some x3) ∧
    w1.cell? ⟨w.heap.size + 1, 0, none⟩ = some y0 ∧ w1.cell? ⟨w.heap.size + 1, 1, none⟩ = some y1 ∧ w1.cell? ⟨w.heap.size + 1, 2, none⟩ = some y2 ∧ w1.cell? ⟨w.heap.size + 1, 3, none⟩ = some y3 ∧ w1.cell? ⟨w.heap.size + 1, 4, none⟩ = some y4 := by
  refine ⟨⟨m.cell (by go_simp), m.cell (by go_simp), m.cell (by go_simp), m.cell (by go_simp)⟩, m.cell (by go_simp), m.cell (by go_simp), m.cell (by go_simp), m.cell (by go_simp), m.cell (by go_simp)⟩

theorem fields_1 (ra : Option Addr) (rl rc : Nat) (ca : Option Addr) (cl cc : Nat) (code regs : Int) (a b c n : Int) (w : World) :
    Calls Try.prog 79 #[.agg #[.slice ra rl rc, .slice ca cl cc, .int .i64 code, .int .i64 regs], .agg #[.int .i64 1, .int .i64 a, .int .i64 b, .int .i64 c, .int .i64 n]] w (Says (Reg regs a) w) := by
  go_enter Try.func79, Try.ntmps79
  go_wp2_with (fail)
  refine (registers1 ra rl rc ca cl cc code regs _ _ a _ (by go_simp)).mono ?_
  rintro e w1 ⟨r, rfl, hr, m⟩
  have Hr : Hid ((r = true ↔ Reg regs a) ∧ More w w1) := ⟨hr, ((((More.refl _).alloc _ _).alloc _ _).alloc _ _).trans m⟩
  clear hr m
  go_wp2
  go_ret
  exact ⟨r, rfl, Hr.out.1, Hr.out.2⟩

theorem fields_9 (ra : Option Addr) (rl rc : Nat) (ca : Option Addr) (cl cc : Nat) (code regs : Int) (a b c n : Int) (w : World) :
    Calls Try.prog 79 #[.agg #[.slice ra rl rc, .slice ca cl cc, .int .i64 code, .int .i64 regs], .agg #[.int .i64 9, .int .i64 a, .int .i64 b, .int .i64 c, .int .i64 n]] w (Says (Reg regs a) w) := by
  go_enter Try.func79, Try.ntmps79
  go_wp2_with (fail)
  refine (registers1 ra rl rc ca cl cc code regs _ _ a _ (by go_simp)).mono ?_
  rintro e w1 ⟨r, rfl, hr, m⟩
  have Hr : Hid ((r = true ↔ Reg regs a) ∧ More w w1) := ⟨hr, ((((More.refl _).alloc _ _).alloc _ _).alloc _ _).trans m⟩
  clear hr m
  go_wp2
  go_ret
  exact ⟨r, rfl, Hr.out.1, Hr.out.2⟩

theorem fields_2 (ra : Option Addr) (rl rc : Nat) (ca : Option Addr) (cl cc : Nat) (code regs : Int) (a b c n : Int) (w : World) :
    Calls Try.prog 79 #[.agg #[.slice ra rl rc, .slice ca cl cc, .int .i64 code, .int .i64 regs], .agg #[.int .i64 2, .int .i64 a, .int .i64 b, .int .i64 c, .int .i64 n]] w (Says (Reg regs a ∧ Reg regs b) w) := by
  go_enter Try.func79, Try.ntmps79
  go_wp2_with (fail)
  refine (registers2 ra rl rc ca cl cc code regs _ _ a b _ (by go_simp) (by go_simp)).mono ?_
  rintro e w1 ⟨r, rfl, hr, m⟩
  have Hr : Hid ((r = true ↔ Reg regs a ∧ Reg regs b) ∧ More w w1) := ⟨hr, ((((More.refl _).alloc _ _).alloc _ _).alloc _ _).trans m⟩
  clear hr m
  go_wp2
  go_ret
  exact ⟨r, rfl, Hr.out.1, Hr.out.2⟩

theorem fields_10 (ra : Option Addr) (rl rc : Nat) (ca : Option Addr) (cl cc : Nat) (code regs : Int) (a b c n : Int) (w : World) :
    Calls Try.prog 79 #[.agg #[.slice ra rl rc, .slice ca cl cc, .int .i64 code, .int .i64 regs], .agg #[.int .i64 10, .int .i64 a, .int .i64 b, .int .i64 c, .int .i64 n]] w (Says (Reg regs a ∧ Reg regs b) w) := by
  go_enter Try.func79, Try.ntmps79
  go_wp2_with (fail)
  refine (registers2 ra rl rc ca cl cc code regs _ _ a b _ (by go_simp) (by go_simp)).mono ?_
  rintro e w1 ⟨r, rfl, hr, m⟩
  have Hr : Hid ((r = true ↔ Reg regs a ∧ Reg regs b) ∧ More w w1) := ⟨hr, ((((More.refl _).alloc _ _).alloc _ _).alloc _ _).trans m⟩
  clear hr m
  go_wp2
  go_ret
  exact ⟨r, rfl, Hr.out.1, Hr.out.2⟩

theorem fields_3 (ra : Option Addr) (rl rc : Nat) (ca : Option Addr) (cl cc : Nat) (code regs : Int) (a b c n : Int) (w : World) :
    Calls Try.prog 79 #[.agg #[.slice ra rl rc, .slice ca cl cc, .int .i64 code, .int .i64 regs], .agg #[.int .i64 3, .int .i64 a, .int .i64 b, .int .i64 c, .int .i64 n]] w (Says ((Reg regs a ∧ Reg regs b) ∧ Rgn rl c) w) := by
  go_enter Try.func79, Try.ntmps79
  go_wp2_with (fail)
  refine (registers2 ra rl rc ca cl cc code regs _ _ a b _ (by go_simp) (by go_simp)).mono ?_
  rintro e w1 ⟨r, rfl, hr, m⟩
  obtain ⟨⟨c0, c1, c2, c3⟩, d0, d1, d2, d3, d4⟩ := boxes (((More.refl _).alloc _ _).trans m)
  have m' := ((((More.refl _).alloc _ _).alloc _ _).alloc _ _).trans m
  have Hm : Hid (More w w1) := m'
  clear m m'
  cases r with
  | false =>
    have Hr : Hid (¬ (Reg regs a ∧ Reg regs b)) := fun h => by simpa using hr.2 h
    clear hr
    go_wp2
    go_ret
    exact Says.no (fun h => Hr.out h.1) Hm.out
  | true =>
    have Hr : Hid (Reg regs a ∧ Reg regs b) := hr.1 rfl
    clear hr
    go_wp2_with (fail)
    refine (region_calls ra rl rc ca cl cc code regs c _).mono ?_
    rintro e w2 ⟨r2, rfl, hr2, m2⟩
    have H2 : Hid ((r2 = true ↔ Rgn rl c) ∧ More w1 w2) := ⟨hr2, m2⟩
    clear hr2 m2
    go_wp2
    go_ret
    exact ⟨r2, rfl, H2.out.1.trans ⟨fun h => ⟨Hr.out, h⟩, fun h => h.2⟩, Hm.out.trans H2.out.2⟩

theorem fields_4 (ra : Option Addr) (rl rc : Nat) (ca : Option Addr) (cl cc : Nat) (code regs : Int) (a b c n : Int) (w : World) :
    Calls Try.prog 79 #[.agg #[.slice ra rl rc, .slice ca cl cc, .int .i64 code, .int .i64 regs], .agg #[.int .i64 4, .int .i64 a, .int .i64 b, .int .i64 c, .int .i64 n]] w (Says ((Reg regs a ∧ Reg regs b) ∧ Rgn rl c) w) := by
  go_enter Try.func79, Try.ntmps79
  go_wp2_with (fail)
  refine (registers2 ra rl rc ca cl cc code regs _ _ a b _ (by go_simp) (by go_simp)).mono ?_
  rintro e w1 ⟨r, rfl, hr, m⟩
  obtain ⟨⟨c0, c1, c2, c3⟩, d0, d1, d2, d3, d4⟩ := boxes (((More.refl _).alloc _ _).trans m)
  have m' := ((((More.refl _).alloc _ _).alloc _ _).alloc _ _).trans m
  have Hm : Hid (More w w1) := m'
  clear m m'
  cases r with
  | false =>
    have Hr : Hid (¬ (Reg regs a ∧ Reg regs b)) := fun h => by simpa using hr.2 h
    clear hr
    go_wp2
    go_ret
    exact Says.no (fun h => Hr.out h.1) Hm.out
  | true =>
    have Hr : Hid (Reg regs a ∧ Reg regs b) := hr.1 rfl
    clear hr
    go_wp2_with (fail)
    refine (region_calls ra rl rc ca cl cc code regs c _).mono ?_
    rintro e w2 ⟨r2, rfl, hr2, m2⟩
    have H2 : Hid ((r2 = true ↔ Rgn rl c) ∧ More w1 w2) := ⟨hr2, m2⟩
    clear hr2 m2
    go_wp2
    go_ret
    exact ⟨r2, rfl, H2.out.1.trans ⟨fun h => ⟨Hr.out, h⟩, fun h => h.2⟩, Hm.out.trans H2.out.2⟩

theorem fields_7 (ra : Option Addr) (rl rc : Nat) (ca : Option Addr) (cl cc : Nat) (code regs : Int) (a b c n : Int) (w : World) :
    Calls Try.prog 79 #[.agg #[.slice ra rl rc, .slice ca cl cc, .int .i64 code, .int .i64 regs], .agg #[.int .i64 7, .int .i64 a, .int .i64 b, .int .i64 c, .int .i64 n]] w (Says (Plc cl n) w) := by
  go_enter Try.func79, Try.ntmps79
  go_wp2_with (fail)
  refine (place_calls ra rl rc ca cl cc code regs n _).mono ?_
  rintro e w1 ⟨r, rfl, hr, m⟩
  have Hr : Hid ((r = true ↔ Plc cl n) ∧ More w w1) := ⟨hr, (((More.refl _).alloc _ _).alloc _ _).trans m⟩
  clear hr m
  go_wp2
  go_ret
  exact ⟨r, rfl, Hr.out.1, Hr.out.2⟩

theorem fields_8 (ra : Option Addr) (rl rc : Nat) (ca : Option Addr) (cl cc : Nat) (code regs : Int) (a b c n : Int) (w : World) :
    Calls Try.prog 79 #[.agg #[.slice ra rl rc, .slice ca cl cc, .int .i64 code, .int .i64 regs], .agg #[.int .i64 8, .int .i64 a, .int .i64 b, .int .i64 c, .int .i64 n]] w (Says ((Reg regs a ∧ Reg regs b) ∧ Btw 1 4 c ∧ Plc cl n) w) := by
  go_enter Try.func79, Try.ntmps79
  go_wp2_with (fail)
  refine (registers2 ra rl rc ca cl cc code regs _ _ a b _ (by go_simp) (by go_simp)).mono ?_
  rintro e w1 ⟨r, rfl, hr, m⟩
  obtain ⟨⟨c0, c1, c2, c3⟩, d0, d1, d2, d3, d4⟩ := boxes (((More.refl _).alloc _ _).trans m)
  have m' := ((((More.refl _).alloc _ _).alloc _ _).alloc _ _).trans m
  have Hm : Hid (More w w1) := m'
  clear m m'
  cases r with
  | false =>
    have Hr : Hid (¬ (Reg regs a ∧ Reg regs b)) := fun h => by simpa using hr.2 h
    clear hr
    go_wp2
    go_ret
    exact Says.no (fun h => Hr.out h.1) Hm.out
  | true =>
    have Hr : Hid (Reg regs a ∧ Reg regs b) := hr.1 rfl
    clear hr
    go_wp2_with (fail)
    refine (condition_calls c _).mono ?_
    rintro e w2 ⟨r2, rfl, hr2, m2⟩
    have e0 := m2.cell c0
    have e1 := m2.cell c1
    have e2 := m2.cell c2
    have e3 := m2.cell c3
    have e4 := m2.cell d4
    clear c0 c1 c2 c3 d0 d1 d2 d3 d4
    have H2m : Hid (More w1 w2) := m2
    clear m2
    cases r2 with
    | false =>
      have H2 : Hid (¬ Btw 1 4 c) := fun h => by simpa using hr2.2 h
      clear hr2
      go_wp2
      go_ret
      exact Says.no (fun h => H2.out h.2.1) (Hm.out.trans H2m.out)
    | true =>
      have H2 : Hid (Btw 1 4 c) := hr2.1 rfl
      clear hr2
      go_wp2_with (fail)
      refine (place_calls ra rl rc ca cl cc code regs n _).mono ?_
      rintro e w3 ⟨r3, rfl, hr3, m3⟩
      have H3 : Hid ((r3 = true ↔ Plc cl n) ∧ More w2 w3) := ⟨hr3, m3⟩
      clear hr3 m3
      go_wp2
      go_ret
      exact ⟨r3, rfl, H3.out.1.trans ⟨fun h => ⟨Hr.out, H2.out, h⟩, fun h => h.2.2⟩, (Hm.out.trans H2m.out).trans H3.out.2⟩

theorem fields_11 (ra : Option Addr) (rl rc : Nat) (ca : Option Addr) (cl cc : Nat) (code regs : Int) (a b c n : Int) (w : World) :
    Calls Try.prog 79 #[.agg #[.slice ra rl rc, .slice ca cl cc, .int .i64 code, .int .i64 regs], .agg #[.int .i64 11, .int .i64 a, .int .i64 b, .int .i64 c, .int .i64 n]] w (Says (Reg regs a ∧ Btw 1 64 n) w) := by
  go_enter Try.func79, Try.ntmps79
  go_wp2_with (fail)
  refine (registers1 ra rl rc ca cl cc code regs _ _ a _ (by go_simp)).mono ?_
  rintro e w1 ⟨r, rfl, hr, m⟩
  obtain ⟨⟨c0, c1, c2, c3⟩, d0, d1, d2, d3, d4⟩ := boxes (((More.refl _).alloc _ _).trans m)
  have m' := ((((More.refl _).alloc _ _).alloc _ _).alloc _ _).trans m
  have Hm : Hid (More w w1) := m'
  clear m m'
  cases r with
  | false =>
    have Hr : Hid (¬ (Reg regs a)) := fun h => by simpa using hr.2 h
    clear hr
    go_wp2
    go_ret
    exact Says.no (fun h => Hr.out h.1) Hm.out
  | true =>
    have Hr : Hid (Reg regs a) := hr.1 rfl
    clear hr
    by_cases h0 : 1 ≤ n
    · by_cases h1 : n ≤ 64
      · go_wp2
        go_ret
        exact Says.yes ⟨Hr.out, h0, h1⟩ Hm.out
      · go_wp2
        go_ret
        exact ⟨_, rfl, ⟨fun h => by simp at h <;> omega, fun h => by have := h.2.2; omega⟩, Hm.out⟩
    · go_wp2
      go_ret
      exact Says.no (fun h => by have := h.2.1; omega) Hm.out

theorem fields_12 (ra : Option Addr) (rl rc : Nat) (ca : Option Addr) (cl cc : Nat) (code regs : Int) (a b c n : Int) (w : World) :
    Calls Try.prog 79 #[.agg #[.slice ra rl rc, .slice ca cl cc, .int .i64 code, .int .i64 regs], .agg #[.int .i64 12, .int .i64 a, .int .i64 b, .int .i64 c, .int .i64 n]] w (Says (True) w) := by
  go_enter Try.func79, Try.ntmps79
  go_wp2
  go_ret
  exact Says.yes trivial (((More.refl _).alloc _ _).alloc _ _)

theorem fields_else (ra : Option Addr) (rl rc : Nat) (ca : Option Addr) (cl cc : Nat) (code regs : Int) (op a b c n : Int) (h1 : ¬ op = 1) (h2 : ¬ op = 2) (h3 : ¬ op = 3) (h4 : ¬ op = 4) (h5 : ¬ op = 5) (h6 : ¬ op = 6) (h7 : ¬ op = 7) (h8 : ¬ op = 8) (h9 : ¬ op = 9) (h10 : ¬ op = 10) (h11 : ¬ op = 11) (h12 : ¬ op = 12) (w : World) :
    Calls Try.prog 79 #[.agg #[.slice ra rl rc, .slice ca cl cc, .int .i64 code, .int .i64 regs], .agg #[.int .i64 op, .int .i64 a, .int .i64 b, .int .i64 c, .int .i64 n]] w (Says (Btw 21 30 op ∧ Reg regs a ∧ Reg regs b ∧ Reg regs c) w) := by
  go_enter Try.func79, Try.ntmps79
  go_wp2_with (fail)
  clear h1 h2 h3 h4 h5 h6 h7 h8 h9 h10 h11 h12
  refine (operation_calls op _).mono ?_
  rintro e w1 ⟨r, rfl, hr, m⟩
  obtain ⟨⟨c0, c1, c2, c3⟩, d0, d1, d2, d3, d4⟩ := boxes m
  have Hm : Hid (More w w1) := (((More.refl _).alloc _ _).alloc _ _).trans m
  clear m
  cases r with
  | false =>
    have Hr : Hid (¬ (Btw 21 30 op)) := fun h => by simpa using hr.2 h
    clear hr
    go_wp2
    go_ret
    exact Says.no (fun h => Hr.out h.1) Hm.out
  | true =>
    have Hr : Hid (Btw 21 30 op) := hr.1 rfl
    clear hr
    go_wp2_with (fail)
    refine (registers3 ra rl rc ca cl cc code regs _ _ a b c _ (by go_simp) (by go_simp) (by go_simp)).mono ?_
    rintro e w2 ⟨r2, rfl, hr2, m2⟩
    have H2 : Hid ((r2 = true ↔ Reg regs a ∧ Reg regs b ∧ Reg regs c) ∧ More w1 w2) := ⟨hr2, ((More.refl _).alloc _ _).trans m2⟩
    clear hr2 m2
    go_wp2
    go_ret
    exact ⟨r2, rfl, H2.out.1.trans ⟨fun h => ⟨Hr.out, h⟩, fun h => h.2⟩, Hm.out.trans H2.out.2⟩
set_option maxHeartbeats 1000000 in
theorem fields_56_noreg (ov_ : Int) (hov_ : ov_ = 5 ∨ ov_ = 6) (ra : Option Addr) (rl rc : Nat) (ca : Option Addr) (cl cc : Nat) (code regs : Int) (a b c n : Int) (w : World)
    (creg : ∀ (g cp : Nat) (w : World), w.cell? ⟨g, 0, none⟩ = some (.int .i64 a) → Calls Try.prog 84 #[.agg #[.slice ra rl rc, .slice ca cl cc, .int .i64 code, .int .i64 regs], .slice (some ⟨g, 0, none⟩) 1 cp] w fun e w' => e = .returned (.bool false) ∧ More w w') :
    Calls Try.prog 79 #[.agg #[.slice ra rl rc, .slice ca cl cc, .int .i64 code, .int .i64 regs], .agg #[.int .i64 ov_, .int .i64 a, .int .i64 b, .int .i64 c, .int .i64 n]] w fun e w' => e = .returned (.bool false) ∧ More w w' := by
  have Hcreg : Hid (∀ (g cp : Nat) (w : World), w.cell? ⟨g, 0, none⟩ = some (.int .i64 a) → Calls Try.prog 84 #[.agg #[.slice ra rl rc, .slice ca cl cc, .int .i64 code, .int .i64 regs], .slice (some ⟨g, 0, none⟩) 1 cp] w fun e w' => e = .returned (.bool false) ∧ More w w') := creg
  clear creg
  obtain ⟨W, HW⟩ : ∃ W : World, Hid (W = ((w.alloc (.cells #[.slice ra rl rc, .slice ca cl cc, .int .i64 code, .int .i64 regs] 93)).alloc (.cells #[.int .i64 ov_, .int .i64 a, .int .i64 b, .int .i64 c, .int .i64 n] 75))) := ⟨_, rfl⟩
  rcases hov_ with rfl | rfl
  all_goals
    have Hw : Hid (More w W) := HW.out ▸ (((More.refl _).alloc _ _).alloc _ _)
    obtain ⟨S, HS⟩ : ∃ S : World → Prop, Hid (∀ w', S w' ↔ More W w') := ⟨fun w' => More W w', fun _ => Iff.rfl⟩
    have k00 : ∀ i : { w' // S w' }, i.val.cell? ⟨w.heap.size, 0, none⟩ = some (.slice ra rl rc) := fun i => ((HS.out _).1 i.property).cell (by rw [HW.out]; go_simp)
    have k01 : ∀ i : { w' // S w' }, i.val.cell? ⟨w.heap.size, 1, none⟩ = some (.slice ca cl cc) := fun i => ((HS.out _).1 i.property).cell (by rw [HW.out]; go_simp)
    have k02 : ∀ i : { w' // S w' }, i.val.cell? ⟨w.heap.size, 2, none⟩ = some (.int .i64 code) := fun i => ((HS.out _).1 i.property).cell (by rw [HW.out]; go_simp)
    have k03 : ∀ i : { w' // S w' }, i.val.cell? ⟨w.heap.size, 3, none⟩ = some (.int .i64 regs) := fun i => ((HS.out _).1 i.property).cell (by rw [HW.out]; go_simp)
    have k11 : ∀ i : { w' // S w' }, i.val.cell? ⟨w.heap.size + 1, 1, none⟩ = some (.int .i64 a) := fun i => ((HS.out _).1 i.property).cell (by rw [HW.out]; go_simp)
    have k13 : ∀ i : { w' // S w' }, i.val.cell? ⟨w.heap.size + 1, 3, none⟩ = some (.int .i64 c) := fun i => ((HS.out _).1 i.property).cell (by rw [HW.out]; go_simp)
    have k14 : ∀ i : { w' // S w' }, i.val.cell? ⟨w.heap.size + 1, 4, none⟩ = some (.int .i64 n) := fun i => ((HS.out _).1 i.property).cell (by rw [HW.out]; go_simp)
    have hne : Nonempty { w' // S w' } := ⟨⟨W, (HS.out _).2 (More.refl _)⟩⟩
    go_enter Try.func79, Try.ntmps79
    go_wp2_with (fail)
    refine wp_region_ord (S := S) [(0, true), (1, true), (2, true), (3, false), (4, false), (5, true), (6, true), (7, true), (8, true), (9, false), (10, true), (11, true), (12, true), (13, true), (14, true), (15, true), (16, true), (17, true), (18, true), (19, true), (20, true), (21, false), (22, false), (23, true), (24, true)] (by kernel_rfl) (by kernel_rfl) (by kernel_rfl) ((HS.out _).2 (HW.out ▸ (More.refl _).drew)) ?_
    iterate 3 (refine wpOrd_take rfl (by kernel_rfl) (fun K hK => ?_); go_simp; refine hK _ _ ?_; clear hK K)
    refine wpOrd_busy rfl (by kernel_rfl) (fun K hK => ?_); go_simp; refine hK _ _ ((HS.out _).2 (HW.out ▸ (by repeat (first | exact More.refl _ | apply More.drew | apply More.alloc)))) ?_; clear hK K
    refine wpOrd_busy rfl (by kernel_rfl) (fun K hK => ?_); go_simp
    refine (Hcreg.out _ _ _ (by go_simp)).mono ?_
    rintro e w1 ⟨rfl, m1⟩
    go_simp
    have Hm1 : Hid (More W w1) := HW.out ▸ More.trans (by repeat (first | exact More.refl _ | apply More.drew | apply More.alloc)) m1
    clear m1
    refine hK _ _ ((HS.out _).2 Hm1.out) ?_; clear hK K
    refine wpOrd_move rfl rfl (by kernel_rfl) (fun K hK => ?_); go_simp; refine hK _ _ ?_; clear hK K
    iterate 4 (refine wpOrd_skip rfl ((HS.out _).2 Hm1.out) (by kernel_rfl) (by kernel_rfl) ?_)
    refine wpOrd_pickF rfl rfl (by kernel_rfl) rfl (fun K hK => ?_); go_simp; refine hK _ _ ?_; clear hK K
    refine wpOrd_move rfl rfl (by kernel_rfl) (fun K hK => ?_); go_simp; refine hK _ _ ?_; clear hK K
    iterate 11 (refine wpOrd_skip rfl ((HS.out _).2 Hm1.out) (by kernel_rfl) (by kernel_rfl) ?_)
    refine wpOrd_pickF rfl rfl (by kernel_rfl) rfl (fun K hK => ?_); go_simp; refine hK _ _ ?_; clear hK K
    refine wpOrd_assign rfl rfl (by kernel_rfl) (fun K hK => ?_); go_simp; refine hK _ _ ?_; clear hK K
    refine wpOrd_done ?_
    go_wp2
    go_ret
    exact ⟨rfl, Hw.out.trans Hm1.out⟩

set_option maxHeartbeats 1000000 in
theorem fields_56_norgn (ov_ : Int) (hov_ : ov_ = 5 ∨ ov_ = 6) (ra : Option Addr) (rl rc : Nat) (ca : Option Addr) (cl cc : Nat) (code regs : Int) (a b c n : Int) (w : World)
    (creg : ∀ (g cp : Nat) (w : World), w.cell? ⟨g, 0, none⟩ = some (.int .i64 a) → Calls Try.prog 84 #[.agg #[.slice ra rl rc, .slice ca cl cc, .int .i64 code, .int .i64 regs], .slice (some ⟨g, 0, none⟩) 1 cp] w fun e w' => e = .returned (.bool true) ∧ More w w')
    (crgn : ∀ (w : World), Calls Try.prog 85 #[.agg #[.slice ra rl rc, .slice ca cl cc, .int .i64 code, .int .i64 regs], .int .i64 c] w fun e w' => e = .returned (.bool false) ∧ More w w') :
    Calls Try.prog 79 #[.agg #[.slice ra rl rc, .slice ca cl cc, .int .i64 code, .int .i64 regs], .agg #[.int .i64 ov_, .int .i64 a, .int .i64 b, .int .i64 c, .int .i64 n]] w fun e w' => e = .returned (.bool false) ∧ More w w' := by
  have Hcreg : Hid (∀ (g cp : Nat) (w : World), w.cell? ⟨g, 0, none⟩ = some (.int .i64 a) → Calls Try.prog 84 #[.agg #[.slice ra rl rc, .slice ca cl cc, .int .i64 code, .int .i64 regs], .slice (some ⟨g, 0, none⟩) 1 cp] w fun e w' => e = .returned (.bool true) ∧ More w w') := creg
  clear creg
  have Hcrgn : Hid (∀ (w : World), Calls Try.prog 85 #[.agg #[.slice ra rl rc, .slice ca cl cc, .int .i64 code, .int .i64 regs], .int .i64 c] w fun e w' => e = .returned (.bool false) ∧ More w w') := crgn
  clear crgn
  obtain ⟨W, HW⟩ : ∃ W : World, Hid (W = ((w.alloc (.cells #[.slice ra rl rc, .slice ca cl cc, .int .i64 code, .int .i64 regs] 93)).alloc (.cells #[.int .i64 ov_, .int .i64 a, .int .i64 b, .int .i64 c, .int .i64 n] 75))) := ⟨_, rfl⟩
  rcases hov_ with rfl | rfl
  all_goals
    have Hw : Hid (More w W) := HW.out ▸ (((More.refl _).alloc _ _).alloc _ _)
    obtain ⟨S, HS⟩ : ∃ S : World → Prop, Hid (∀ w', S w' ↔ More W w') := ⟨fun w' => More W w', fun _ => Iff.rfl⟩
    have k00 : ∀ i : { w' // S w' }, i.val.cell? ⟨w.heap.size, 0, none⟩ = some (.slice ra rl rc) := fun i => ((HS.out _).1 i.property).cell (by rw [HW.out]; go_simp)
    have k01 : ∀ i : { w' // S w' }, i.val.cell? ⟨w.heap.size, 1, none⟩ = some (.slice ca cl cc) := fun i => ((HS.out _).1 i.property).cell (by rw [HW.out]; go_simp)
    have k02 : ∀ i : { w' // S w' }, i.val.cell? ⟨w.heap.size, 2, none⟩ = some (.int .i64 code) := fun i => ((HS.out _).1 i.property).cell (by rw [HW.out]; go_simp)
    have k03 : ∀ i : { w' // S w' }, i.val.cell? ⟨w.heap.size, 3, none⟩ = some (.int .i64 regs) := fun i => ((HS.out _).1 i.property).cell (by rw [HW.out]; go_simp)
    have k11 : ∀ i : { w' // S w' }, i.val.cell? ⟨w.heap.size + 1, 1, none⟩ = some (.int .i64 a) := fun i => ((HS.out _).1 i.property).cell (by rw [HW.out]; go_simp)
    have k13 : ∀ i : { w' // S w' }, i.val.cell? ⟨w.heap.size + 1, 3, none⟩ = some (.int .i64 c) := fun i => ((HS.out _).1 i.property).cell (by rw [HW.out]; go_simp)
    have k14 : ∀ i : { w' // S w' }, i.val.cell? ⟨w.heap.size + 1, 4, none⟩ = some (.int .i64 n) := fun i => ((HS.out _).1 i.property).cell (by rw [HW.out]; go_simp)
    have hne : Nonempty { w' // S w' } := ⟨⟨W, (HS.out _).2 (More.refl _)⟩⟩
    go_enter Try.func79, Try.ntmps79
    go_wp2_with (fail)
    refine wp_region_ord (S := S) [(0, true), (1, true), (2, true), (3, false), (4, false), (5, true), (6, true), (7, true), (8, true), (9, false), (10, true), (11, true), (12, true), (13, true), (14, true), (15, true), (16, true), (17, true), (18, true), (19, true), (20, true), (21, false), (22, false), (23, true), (24, true)] (by kernel_rfl) (by kernel_rfl) (by kernel_rfl) ((HS.out _).2 (HW.out ▸ (More.refl _).drew)) ?_
    iterate 3 (refine wpOrd_take rfl (by kernel_rfl) (fun K hK => ?_); go_simp; refine hK _ _ ?_; clear hK K)
    refine wpOrd_busy rfl (by kernel_rfl) (fun K hK => ?_); go_simp; refine hK _ _ ((HS.out _).2 (HW.out ▸ (by repeat (first | exact More.refl _ | apply More.drew | apply More.alloc)))) ?_; clear hK K
    refine wpOrd_busy rfl (by kernel_rfl) (fun K hK => ?_); go_simp
    refine (Hcreg.out _ _ _ (by go_simp)).mono ?_
    rintro e w1 ⟨rfl, m1⟩
    go_simp
    have Hm1 : Hid (More W w1) := HW.out ▸ More.trans (by repeat (first | exact More.refl _ | apply More.drew | apply More.alloc)) m1
    clear m1
    refine hK _ _ ((HS.out _).2 Hm1.out) ?_; clear hK K
    refine wpOrd_move rfl rfl (by kernel_rfl) (fun K hK => ?_); go_simp; refine hK _ _ ?_; clear hK K
    iterate 3 (refine wpOrd_take rfl (by kernel_rfl) (fun K hK => ?_); go_simp; refine hK _ _ ?_; clear hK K)
    refine wpOrd_busy rfl (by kernel_rfl) (fun K hK => ?_); go_simp
    refine (Hcrgn.out _).mono ?_
    rintro e w2 ⟨rfl, m2⟩
    go_simp
    have Hm2 : Hid (More W w2) := Hm1.out.trans m2
    clear m2
    refine hK _ _ ((HS.out _).2 Hm2.out) ?_; clear hK K
    refine wpOrd_pickT rfl rfl (by kernel_rfl) rfl (fun K hK => ?_); go_simp; refine hK _ _ ?_; clear hK K
    refine wpOrd_move rfl rfl (by kernel_rfl) (fun K hK => ?_); go_simp; refine hK _ _ ?_; clear hK K
    iterate 11 (refine wpOrd_skip rfl ((HS.out _).2 Hm2.out) (by kernel_rfl) (by kernel_rfl) ?_)
    refine wpOrd_pickF rfl rfl (by kernel_rfl) rfl (fun K hK => ?_); go_simp; refine hK _ _ ?_; clear hK K
    refine wpOrd_assign rfl rfl (by kernel_rfl) (fun K hK => ?_); go_simp; refine hK _ _ ?_; clear hK K
    refine wpOrd_done ?_
    go_wp2
    go_ret
    exact ⟨rfl, Hw.out.trans Hm2.out⟩

set_option maxHeartbeats 1000000 in
theorem fields_56_all (ov_ : Int) (hov_ : ov_ = 5 ∨ ov_ = 6) (rb ro : Nat) (rl rc : Nat) (ca : Option Addr) (cl cc : Nat) (code regs : Int) (a b c n : Int) (l nw : Int) (s : Bool) (w : World) (h0 : 0 ≤ c) (h1 : c < (rl : Int))
    (hr0 : w.cell? ⟨rb, ro + c.toNat * 2, none⟩ = some (.int .i64 l)) (hr1 : w.cell? ⟨rb, ro + c.toNat * 2 + 1, none⟩ = some (.bool s))
    (creg : ∀ (g cp : Nat) (w : World), w.cell? ⟨g, 0, none⟩ = some (.int .i64 a) → Calls Try.prog 84 #[.agg #[.slice (some ⟨rb, ro, none⟩) rl rc, .slice ca cl cc, .int .i64 code, .int .i64 regs], .slice (some ⟨g, 0, none⟩) 1 cp] w fun e w' => e = .returned (.bool true) ∧ More w w')
    (crgn : ∀ (w : World), Calls Try.prog 85 #[.agg #[.slice (some ⟨rb, ro, none⟩) rl rc, .slice ca cl cc, .int .i64 code, .int .i64 regs], .int .i64 c] w fun e w' => e = .returned (.bool true) ∧ More w w')
    (cwrd : ∀ (w : World), Calls Try.prog 50 #[.agg #[.int .i64 l, .bool s]] w fun e w' => e = .returned (.int .i64 nw) ∧ More w w') :
    Calls Try.prog 79 #[.agg #[.slice (some ⟨rb, ro, none⟩) rl rc, .slice ca cl cc, .int .i64 code, .int .i64 regs], .agg #[.int .i64 ov_, .int .i64 a, .int .i64 b, .int .i64 c, .int .i64 n]] w (Says (Blw n nw) w) := by
  have Hcreg : Hid (∀ (g cp : Nat) (w : World), w.cell? ⟨g, 0, none⟩ = some (.int .i64 a) → Calls Try.prog 84 #[.agg #[.slice (some ⟨rb, ro, none⟩) rl rc, .slice ca cl cc, .int .i64 code, .int .i64 regs], .slice (some ⟨g, 0, none⟩) 1 cp] w fun e w' => e = .returned (.bool true) ∧ More w w') := creg
  clear creg
  have Hcrgn : Hid (∀ (w : World), Calls Try.prog 85 #[.agg #[.slice (some ⟨rb, ro, none⟩) rl rc, .slice ca cl cc, .int .i64 code, .int .i64 regs], .int .i64 c] w fun e w' => e = .returned (.bool true) ∧ More w w') := crgn
  clear crgn
  have Hcwrd : Hid (∀ (w : World), Calls Try.prog 50 #[.agg #[.int .i64 l, .bool s]] w fun e w' => e = .returned (.int .i64 nw) ∧ More w w') := cwrd
  clear cwrd
  obtain ⟨W, HW⟩ : ∃ W : World, Hid (W = ((w.alloc (.cells #[.slice (some ⟨rb, ro, none⟩) rl rc, .slice ca cl cc, .int .i64 code, .int .i64 regs] 93)).alloc (.cells #[.int .i64 ov_, .int .i64 a, .int .i64 b, .int .i64 c, .int .i64 n] 75))) := ⟨_, rfl⟩
  rcases hov_ with rfl | rfl
  all_goals
    have Hw : Hid (More w W) := HW.out ▸ (((More.refl _).alloc _ _).alloc _ _)
    obtain ⟨S, HS⟩ : ∃ S : World → Prop, Hid (∀ w', S w' ↔ More W w') := ⟨fun w' => More W w', fun _ => Iff.rfl⟩
    have k00 : ∀ i : { w' // S w' }, i.val.cell? ⟨w.heap.size, 0, none⟩ = some (.slice (some ⟨rb, ro, none⟩) rl rc) := fun i => ((HS.out _).1 i.property).cell (by rw [HW.out]; go_simp)
    have k01 : ∀ i : { w' // S w' }, i.val.cell? ⟨w.heap.size, 1, none⟩ = some (.slice ca cl cc) := fun i => ((HS.out _).1 i.property).cell (by rw [HW.out]; go_simp)
    have k02 : ∀ i : { w' // S w' }, i.val.cell? ⟨w.heap.size, 2, none⟩ = some (.int .i64 code) := fun i => ((HS.out _).1 i.property).cell (by rw [HW.out]; go_simp)
    have k03 : ∀ i : { w' // S w' }, i.val.cell? ⟨w.heap.size, 3, none⟩ = some (.int .i64 regs) := fun i => ((HS.out _).1 i.property).cell (by rw [HW.out]; go_simp)
    have k11 : ∀ i : { w' // S w' }, i.val.cell? ⟨w.heap.size + 1, 1, none⟩ = some (.int .i64 a) := fun i => ((HS.out _).1 i.property).cell (by rw [HW.out]; go_simp)
    have k13 : ∀ i : { w' // S w' }, i.val.cell? ⟨w.heap.size + 1, 3, none⟩ = some (.int .i64 c) := fun i => ((HS.out _).1 i.property).cell (by rw [HW.out]; go_simp)
    have k14 : ∀ i : { w' // S w' }, i.val.cell? ⟨w.heap.size + 1, 4, none⟩ = some (.int .i64 n) := fun i => ((HS.out _).1 i.property).cell (by rw [HW.out]; go_simp)
    have kr0 : ∀ i : { w' // S w' }, i.val.cell? ⟨rb, ro + c.toNat * 2, none⟩ = some (.int .i64 l) := fun i => ((HS.out _).1 i.property).cell (Hw.out.cell hr0)
    have kr1 : ∀ i : { w' // S w' }, i.val.cell? ⟨rb, ro + c.toNat * 2 + 1, none⟩ = some (.bool s) := fun i => ((HS.out _).1 i.property).cell (Hw.out.cell hr1)
    have hne : Nonempty { w' // S w' } := ⟨⟨W, (HS.out _).2 (More.refl _)⟩⟩
    clear hr0 hr1
    go_enter Try.func79, Try.ntmps79
    go_wp2_with (fail)
    refine wp_region_ord (S := S) [(0, true), (1, true), (2, true), (3, false), (4, false), (5, true), (6, true), (7, true), (8, true), (9, false), (10, true), (11, true), (12, true), (13, true), (14, true), (15, true), (16, true), (17, true), (18, true), (19, true), (20, true), (21, false), (22, false), (23, true), (24, true)] (by kernel_rfl) (by kernel_rfl) (by kernel_rfl) ((HS.out _).2 (HW.out ▸ (More.refl _).drew)) ?_
    iterate 3 (refine wpOrd_take rfl (by kernel_rfl) (fun K hK => ?_); go_simp; refine hK _ _ ?_; clear hK K)
    refine wpOrd_busy rfl (by kernel_rfl) (fun K hK => ?_); go_simp; refine hK _ _ ((HS.out _).2 (HW.out ▸ (by repeat (first | exact More.refl _ | apply More.drew | apply More.alloc)))) ?_; clear hK K
    refine wpOrd_busy rfl (by kernel_rfl) (fun K hK => ?_); go_simp
    refine (Hcreg.out _ _ _ (by go_simp)).mono ?_
    rintro e w1 ⟨rfl, m1⟩
    go_simp
    have Hm1 : Hid (More W w1) := HW.out ▸ More.trans (by repeat (first | exact More.refl _ | apply More.drew | apply More.alloc)) m1
    clear m1
    refine hK _ _ ((HS.out _).2 Hm1.out) ?_; clear hK K
    refine wpOrd_move rfl rfl (by kernel_rfl) (fun K hK => ?_); go_simp; refine hK _ _ ?_; clear hK K
    iterate 3 (refine wpOrd_take rfl (by kernel_rfl) (fun K hK => ?_); go_simp; refine hK _ _ ?_; clear hK K)
    refine wpOrd_busy rfl (by kernel_rfl) (fun K hK => ?_); go_simp
    refine (Hcrgn.out _).mono ?_
    rintro e w2 ⟨rfl, m2⟩
    go_simp
    have Hm2 : Hid (More W w2) := Hm1.out.trans m2
    clear m2
    refine hK _ _ ((HS.out _).2 Hm2.out) ?_; clear hK K
    refine wpOrd_pickT rfl rfl (by kernel_rfl) rfl (fun K hK => ?_); go_simp; refine hK _ _ ?_; clear hK K
    refine wpOrd_move rfl rfl (by kernel_rfl) (fun K hK => ?_); go_simp; refine hK _ _ ?_; clear hK K
    iterate 9 (refine wpOrd_take rfl (by kernel_rfl) (fun K hK => ?_); go_simp; refine hK _ _ ?_; clear hK K)
    refine wpOrd_busy rfl (by kernel_rfl) (fun K hK => ?_); go_simp
    refine (Hcwrd.out _).mono ?_
    rintro e w3 ⟨rfl, m3⟩
    go_simp
    have Hm3 : Hid (More W w3) := Hm2.out.trans m3
    clear m3
    refine hK _ _ ((HS.out _).2 Hm3.out) ?_; clear hK K
    refine wpOrd_busy rfl (by kernel_rfl) (fun K hK => ?_); go_simp
    refine (lay_below_calls n nw _).mono ?_
    rintro e w4 ⟨r, rfl, hr, m4⟩
    have Hr : Hid (r = true ↔ Blw n nw) := hr
    clear hr
    go_simp
    have Hm4 : Hid (More W w4) := Hm3.out.trans m4
    clear m4
    refine hK _ _ ((HS.out _).2 Hm4.out) ?_; clear hK K
    refine wpOrd_pickT rfl rfl (by kernel_rfl) rfl (fun K hK => ?_); go_simp; refine hK _ _ ?_; clear hK K
    refine wpOrd_assign rfl rfl (by kernel_rfl) (fun K hK => ?_); go_simp; refine hK _ _ ?_; clear hK K
    refine wpOrd_done ?_
    go_wp2
    go_ret
    exact ⟨r, rfl, Hr.out, Hw.out.trans Hm4.out⟩
/-- The fields that are not named are 0. -/
def NamedOk (op a b c n : Int) : Prop :=
  if op = 1 then b = 0 ∧ c = 0
  else if op = 2 then c = 0 ∧ n = 0
  else if op = 3 then True
  else if op = 4 then True
  else if op = 5 then b = 0
  else if op = 6 then b = 0
  else if op = 7 then a = 0 ∧ b = 0 ∧ c = 0
  else if op = 8 then True
  else if op = 9 then b = 0 ∧ c = 0 ∧ n = 0
  else if op = 10 then c = 0
  else if op = 11 then b = 0 ∧ c = 0
  else if op = 12 then a = 0 ∧ b = 0 ∧ c = 0 ∧ n = 0
  else n = 0

theorem named_1 (a b c n : Int) (w : World) :
    Calls Try.prog 78 #[.agg #[.int .i64 1, .int .i64 a, .int .i64 b, .int .i64 c, .int .i64 n]] w fun e w' => e = .returned (.agg #[.int .i64 1, .int .i64 a, .int .i64 0, .int .i64 0, .int .i64 n]) ∧ More w w' := by
  go_enter Try.func78, Try.ntmps78
  go_wp2
  exact bodyPost_ret (by simp [results, Try.results78, go_sem]) rfl ⟨rfl, ((More.refl _).alloc _ _).alloc _ _⟩

theorem named_2 (a b c n : Int) (w : World) :
    Calls Try.prog 78 #[.agg #[.int .i64 2, .int .i64 a, .int .i64 b, .int .i64 c, .int .i64 n]] w fun e w' => e = .returned (.agg #[.int .i64 2, .int .i64 a, .int .i64 b, .int .i64 0, .int .i64 0]) ∧ More w w' := by
  go_enter Try.func78, Try.ntmps78
  go_wp2
  exact bodyPost_ret (by simp [results, Try.results78, go_sem]) rfl ⟨rfl, ((More.refl _).alloc _ _).alloc _ _⟩

theorem named_3 (a b c n : Int) (w : World) :
    Calls Try.prog 78 #[.agg #[.int .i64 3, .int .i64 a, .int .i64 b, .int .i64 c, .int .i64 n]] w fun e w' => e = .returned (.agg #[.int .i64 3, .int .i64 a, .int .i64 b, .int .i64 c, .int .i64 n]) ∧ More w w' := by
  go_enter Try.func78, Try.ntmps78
  go_wp2
  exact bodyPost_ret (by simp [results, Try.results78, go_sem]) rfl ⟨rfl, ((More.refl _).alloc _ _).alloc _ _⟩

theorem named_4 (a b c n : Int) (w : World) :
    Calls Try.prog 78 #[.agg #[.int .i64 4, .int .i64 a, .int .i64 b, .int .i64 c, .int .i64 n]] w fun e w' => e = .returned (.agg #[.int .i64 4, .int .i64 a, .int .i64 b, .int .i64 c, .int .i64 n]) ∧ More w w' := by
  go_enter Try.func78, Try.ntmps78
  go_wp2
  exact bodyPost_ret (by simp [results, Try.results78, go_sem]) rfl ⟨rfl, ((More.refl _).alloc _ _).alloc _ _⟩

theorem named_5 (a b c n : Int) (w : World) :
    Calls Try.prog 78 #[.agg #[.int .i64 5, .int .i64 a, .int .i64 b, .int .i64 c, .int .i64 n]] w fun e w' => e = .returned (.agg #[.int .i64 5, .int .i64 a, .int .i64 0, .int .i64 c, .int .i64 n]) ∧ More w w' := by
  go_enter Try.func78, Try.ntmps78
  go_wp2
  exact bodyPost_ret (by simp [results, Try.results78, go_sem]) rfl ⟨rfl, ((More.refl _).alloc _ _).alloc _ _⟩

theorem named_6 (a b c n : Int) (w : World) :
    Calls Try.prog 78 #[.agg #[.int .i64 6, .int .i64 a, .int .i64 b, .int .i64 c, .int .i64 n]] w fun e w' => e = .returned (.agg #[.int .i64 6, .int .i64 a, .int .i64 0, .int .i64 c, .int .i64 n]) ∧ More w w' := by
  go_enter Try.func78, Try.ntmps78
  go_wp2
  exact bodyPost_ret (by simp [results, Try.results78, go_sem]) rfl ⟨rfl, ((More.refl _).alloc _ _).alloc _ _⟩

theorem named_7 (a b c n : Int) (w : World) :
    Calls Try.prog 78 #[.agg #[.int .i64 7, .int .i64 a, .int .i64 b, .int .i64 c, .int .i64 n]] w fun e w' => e = .returned (.agg #[.int .i64 7, .int .i64 0, .int .i64 0, .int .i64 0, .int .i64 n]) ∧ More w w' := by
  go_enter Try.func78, Try.ntmps78
  go_wp2
  exact bodyPost_ret (by simp [results, Try.results78, go_sem]) rfl ⟨rfl, ((More.refl _).alloc _ _).alloc _ _⟩

theorem named_8 (a b c n : Int) (w : World) :
    Calls Try.prog 78 #[.agg #[.int .i64 8, .int .i64 a, .int .i64 b, .int .i64 c, .int .i64 n]] w fun e w' => e = .returned (.agg #[.int .i64 8, .int .i64 a, .int .i64 b, .int .i64 c, .int .i64 n]) ∧ More w w' := by
  go_enter Try.func78, Try.ntmps78
  go_wp2
  exact bodyPost_ret (by simp [results, Try.results78, go_sem]) rfl ⟨rfl, ((More.refl _).alloc _ _).alloc _ _⟩

theorem named_9 (a b c n : Int) (w : World) :
    Calls Try.prog 78 #[.agg #[.int .i64 9, .int .i64 a, .int .i64 b, .int .i64 c, .int .i64 n]] w fun e w' => e = .returned (.agg #[.int .i64 9, .int .i64 a, .int .i64 0, .int .i64 0, .int .i64 0]) ∧ More w w' := by
  go_enter Try.func78, Try.ntmps78
  go_wp2
  exact bodyPost_ret (by simp [results, Try.results78, go_sem]) rfl ⟨rfl, ((More.refl _).alloc _ _).alloc _ _⟩

theorem named_10 (a b c n : Int) (w : World) :
    Calls Try.prog 78 #[.agg #[.int .i64 10, .int .i64 a, .int .i64 b, .int .i64 c, .int .i64 n]] w fun e w' => e = .returned (.agg #[.int .i64 10, .int .i64 a, .int .i64 b, .int .i64 0, .int .i64 n]) ∧ More w w' := by
  go_enter Try.func78, Try.ntmps78
  go_wp2
  exact bodyPost_ret (by simp [results, Try.results78, go_sem]) rfl ⟨rfl, ((More.refl _).alloc _ _).alloc _ _⟩

theorem named_11 (a b c n : Int) (w : World) :
    Calls Try.prog 78 #[.agg #[.int .i64 11, .int .i64 a, .int .i64 b, .int .i64 c, .int .i64 n]] w fun e w' => e = .returned (.agg #[.int .i64 11, .int .i64 a, .int .i64 0, .int .i64 0, .int .i64 n]) ∧ More w w' := by
  go_enter Try.func78, Try.ntmps78
  go_wp2
  exact bodyPost_ret (by simp [results, Try.results78, go_sem]) rfl ⟨rfl, ((More.refl _).alloc _ _).alloc _ _⟩

theorem named_12 (a b c n : Int) (w : World) :
    Calls Try.prog 78 #[.agg #[.int .i64 12, .int .i64 a, .int .i64 b, .int .i64 c, .int .i64 n]] w fun e w' => e = .returned (.agg #[.int .i64 12, .int .i64 0, .int .i64 0, .int .i64 0, .int .i64 0]) ∧ More w w' := by
  go_enter Try.func78, Try.ntmps78
  go_wp2
  exact bodyPost_ret (by simp [results, Try.results78, go_sem]) rfl ⟨rfl, ((More.refl _).alloc _ _).alloc _ _⟩

theorem named_else (op a b c n : Int) (h1 : ¬ op = 1) (h2 : ¬ op = 2) (h3 : ¬ op = 3) (h4 : ¬ op = 4) (h5 : ¬ op = 5) (h6 : ¬ op = 6) (h7 : ¬ op = 7) (h8 : ¬ op = 8) (h9 : ¬ op = 9) (h10 : ¬ op = 10) (h11 : ¬ op = 11) (h12 : ¬ op = 12) (w : World) :
    Calls Try.prog 78 #[.agg #[.int .i64 op, .int .i64 a, .int .i64 b, .int .i64 c, .int .i64 n]] w fun e w' => e = .returned (.agg #[.int .i64 op, .int .i64 a, .int .i64 b, .int .i64 c, .int .i64 0]) ∧ More w w' := by
  go_enter Try.func78, Try.ntmps78
  go_wp2
  exact bodyPost_ret (by simp [results, Try.results78, go_sem]) rfl ⟨rfl, ((More.refl _).alloc _ _).alloc _ _⟩

/-- The instruction with its named fields alone is the same one just if the others are 0. -/
theorem named_calls (op a b c n : Int) (w : World) :
    Calls Try.prog 78 #[.agg #[.int .i64 op, .int .i64 a, .int .i64 b, .int .i64 c, .int .i64 n]] w fun e w' =>
      ∃ a' b' c' n' : Int, e = .returned (.agg #[.int .i64 op, .int .i64 a', .int .i64 b', .int .i64 c', .int .i64 n']) ∧ ((a = a' ∧ b = b' ∧ c = c' ∧ n = n') ↔ NamedOk op a b c n) ∧ More w w' := by
  by_cases h1 : op = 1
  · subst h1
    refine (named_1 a b c n w).mono fun e w' h => ⟨a, 0, 0, n, h.1, ?_, h.2⟩
    unfold NamedOk; simp
  by_cases h2 : op = 2
  · subst h2
    refine (named_2 a b c n w).mono fun e w' h => ⟨a, b, 0, 0, h.1, ?_, h.2⟩
    unfold NamedOk; simp
  by_cases h3 : op = 3
  · subst h3
    refine (named_3 a b c n w).mono fun e w' h => ⟨a, b, c, n, h.1, ?_, h.2⟩
    unfold NamedOk; simp
  by_cases h4 : op = 4
  · subst h4
    refine (named_4 a b c n w).mono fun e w' h => ⟨a, b, c, n, h.1, ?_, h.2⟩
    unfold NamedOk; simp
  by_cases h5 : op = 5
  · subst h5
    refine (named_5 a b c n w).mono fun e w' h => ⟨a, 0, c, n, h.1, ?_, h.2⟩
    unfold NamedOk; simp
  by_cases h6 : op = 6
  · subst h6
    refine (named_6 a b c n w).mono fun e w' h => ⟨a, 0, c, n, h.1, ?_, h.2⟩
    unfold NamedOk; simp
  by_cases h7 : op = 7
  · subst h7
    refine (named_7 a b c n w).mono fun e w' h => ⟨0, 0, 0, n, h.1, ?_, h.2⟩
    unfold NamedOk; simp
  by_cases h8 : op = 8
  · subst h8
    refine (named_8 a b c n w).mono fun e w' h => ⟨a, b, c, n, h.1, ?_, h.2⟩
    unfold NamedOk; simp
  by_cases h9 : op = 9
  · subst h9
    refine (named_9 a b c n w).mono fun e w' h => ⟨a, 0, 0, 0, h.1, ?_, h.2⟩
    unfold NamedOk; simp
  by_cases h10 : op = 10
  · subst h10
    refine (named_10 a b c n w).mono fun e w' h => ⟨a, b, 0, n, h.1, ?_, h.2⟩
    unfold NamedOk; simp
  by_cases h11 : op = 11
  · subst h11
    refine (named_11 a b c n w).mono fun e w' h => ⟨a, 0, 0, n, h.1, ?_, h.2⟩
    unfold NamedOk; simp
  by_cases h12 : op = 12
  · subst h12
    refine (named_12 a b c n w).mono fun e w' h => ⟨0, 0, 0, 0, h.1, ?_, h.2⟩
    unfold NamedOk; simp
  refine (named_else op a b c n h1 h2 h3 h4 h5 h6 h7 h8 h9 h10 h11 h12 w).mono fun e w' h => ⟨a, b, c, 0, h.1, ?_, h.2⟩
  unfold NamedOk
  rw [if_neg h1, if_neg h2, if_neg h3, if_neg h4, if_neg h5, if_neg h6, if_neg h7, if_neg h8, if_neg h9, if_neg h10, if_neg h11, if_neg h12]
  simp
theorem ins_iff (rl : Nat) (log : Nat → Int) (cl : Nat) (regs op a b c n : Int) : InsOk rl log cl regs ⟨op, a, b, c, n⟩ ↔ NamedOk op a b c n ∧ FieldsOk rl log cl regs op a b c n := by
  unfold InsOk NamedOk FieldsOk Btw
  dsimp only
  by_cases h1 : op = 1
  · rw [if_pos h1, if_pos h1, if_pos h1]; exact ⟨fun h => ⟨⟨h.2.1, h.2.2⟩, h.1⟩, fun h => ⟨h.2, h.1.1, h.1.2⟩⟩
  rw [if_neg h1, if_neg h1, if_neg h1]
  by_cases h2 : op = 2
  · rw [if_pos h2, if_pos h2, if_pos h2]; exact ⟨fun h => ⟨⟨h.2.2.1, h.2.2.2⟩, h.1, h.2.1⟩, fun h => ⟨h.2.1, h.2.2, h.1.1, h.1.2⟩⟩
  rw [if_neg h2, if_neg h2, if_neg h2]
  by_cases h3 : op = 3
  · rw [if_pos h3, if_pos h3, if_pos h3]; exact ⟨fun h => ⟨trivial, ⟨h.1, h.2.1⟩, h.2.2⟩, fun h => ⟨h.2.1.1, h.2.1.2, h.2.2⟩⟩
  rw [if_neg h3, if_neg h3, if_neg h3]
  by_cases h4 : op = 4
  · rw [if_pos h4, if_pos h4, if_pos h4]; exact ⟨fun h => ⟨trivial, ⟨h.1, h.2.1⟩, h.2.2⟩, fun h => ⟨h.2.1.1, h.2.1.2, h.2.2⟩⟩
  rw [if_neg h4, if_neg h4, if_neg h4]
  by_cases h5 : op = 5
  · rw [if_pos h5, if_pos h5, if_pos h5]; exact ⟨fun h => ⟨h.2.1, h.1, h.2.2.1, h.2.2.2⟩, fun h => ⟨h.2.1, h.1, h.2.2.1, h.2.2.2⟩⟩
  rw [if_neg h5, if_neg h5, if_neg h5]
  by_cases h6 : op = 6
  · rw [if_pos h6, if_pos h6, if_pos h6]; exact ⟨fun h => ⟨h.2.1, h.1, h.2.2.1, h.2.2.2⟩, fun h => ⟨h.2.1, h.1, h.2.2.1, h.2.2.2⟩⟩
  rw [if_neg h6, if_neg h6, if_neg h6]
  by_cases h7 : op = 7
  · rw [if_pos h7, if_pos h7, if_pos h7]; exact ⟨fun h => ⟨⟨h.1, h.2.1, h.2.2.1⟩, h.2.2.2⟩, fun h => ⟨h.1.1, h.1.2.1, h.1.2.2, h.2⟩⟩
  rw [if_neg h7, if_neg h7, if_neg h7]
  by_cases h8 : op = 8
  · rw [if_pos h8, if_pos h8, if_pos h8]; exact ⟨fun h => ⟨trivial, ⟨h.1, h.2.1⟩, h.2.2.1, h.2.2.2⟩, fun h => ⟨h.2.1.1, h.2.1.2, h.2.2.1, h.2.2.2⟩⟩
  rw [if_neg h8, if_neg h8, if_neg h8]
  by_cases h9 : op = 9
  · rw [if_pos h9, if_pos h9, if_pos h9]; exact ⟨fun h => ⟨⟨h.2.1, h.2.2.1, h.2.2.2⟩, h.1⟩, fun h => ⟨h.2, h.1.1, h.1.2.1, h.1.2.2⟩⟩
  rw [if_neg h9, if_neg h9, if_neg h9]
  by_cases h10 : op = 10
  · rw [if_pos h10, if_pos h10, if_pos h10]; exact ⟨fun h => ⟨h.2.2, h.1, h.2.1⟩, fun h => ⟨h.2.1, h.2.2, h.1⟩⟩
  rw [if_neg h10, if_neg h10, if_neg h10]
  by_cases h11 : op = 11
  · rw [if_pos h11, if_pos h11, if_pos h11]; exact ⟨fun h => ⟨⟨h.2.1, h.2.2.1⟩, h.1, h.2.2.2.1, h.2.2.2.2⟩, fun h => ⟨h.2.1, h.1.1, h.1.2, h.2.2.1, h.2.2.2⟩⟩
  rw [if_neg h11, if_neg h11, if_neg h11]
  by_cases h12 : op = 12
  · rw [if_pos h12, if_pos h12, if_pos h12]; exact ⟨fun h => ⟨h, trivial⟩, fun h => h.1⟩
  rw [if_neg h12, if_neg h12, if_neg h12]
  exact ⟨fun h => ⟨h.2.2.2.2, h.1, h.2.1, h.2.2.1, h.2.2.2.1⟩, fun h => ⟨h.2.1, h.2.2.1, h.2.2.2.1, h.2.2.2.2, h.1⟩⟩

theorem fields_5 (ra : Option Addr) (rl rc : Nat) (ca : Option Addr) (cl cc : Nat) (code regs : Int) (a b c n : Int) (rb ro : Nat) (log : Nat → Int) (sec : Nat → Bool) (w : World)
    (hra : 0 < rl → ra = some ⟨rb, ro, none⟩) (hr : RegsAt w rb ro rl log sec) (hok : RegionsOk rl log) :
    Calls Try.prog 79 #[.agg #[.slice ra rl rc, .slice ca cl cc, .int .i64 code, .int .i64 regs], .agg #[.int .i64 5, .int .i64 a, .int .i64 b, .int .i64 c, .int .i64 n]] w (Says (Reg regs a ∧ Rgn rl c ∧ Wrd log c n) w) := by
  by_cases hA : Reg regs a
  · by_cases hC : Rgn rl c
    · have h0 := hC.1
      have h1 := hC.2
      obtain rfl := hra (by omega)
      have hk : c.toNat < rl := by omega
      refine (fields_56_all 5 (by decide) rb ro rl rc ca cl cc code regs a b c n (log c.toNat) (wordsI (log c.toNat)) (sec c.toNat) w h0 h1 (hr _ hk).1 (hr _ hk).2
        (fun g cp w h => (registers1 _ rl rc ca cl cc code regs g cp a w h).mono fun _ _ s => s.is_yes hA)
        (fun w => (region_calls _ rl rc ca cl cc code regs c w).mono fun _ _ s => s.is_yes hC)
        (fun w => words_calls _ (hok.2 _ hk).1 (hok.2 _ hk).2 _ w)).mono ?_
      rintro e w' ⟨r, rfl, h, m⟩
      exact ⟨r, rfl, h.trans ⟨fun h => ⟨hA, hC, h⟩, fun h => h.2.2⟩, m⟩
    · refine (fields_56_norgn 5 (by decide) ra rl rc ca cl cc code regs a b c n w
        (fun g cp w h => (registers1 _ rl rc ca cl cc code regs g cp a w h).mono fun _ _ s => s.is_yes hA)
        (fun w => (region_calls _ rl rc ca cl cc code regs c w).mono fun _ _ s => s.is_no hC)).mono ?_
      rintro e w' ⟨rfl, m⟩
      exact Says.no (fun h => hC h.2.1) m
  · refine (fields_56_noreg 5 (by decide) ra rl rc ca cl cc code regs a b c n w
      (fun g cp w h => (registers1 _ rl rc ca cl cc code regs g cp a w h).mono fun _ _ s => s.is_no hA)).mono ?_
    rintro e w' ⟨rfl, m⟩
    exact Says.no (fun h => hA h.1) m

theorem fields_6 (ra : Option Addr) (rl rc : Nat) (ca : Option Addr) (cl cc : Nat) (code regs : Int) (a b c n : Int) (rb ro : Nat) (log : Nat → Int) (sec : Nat → Bool) (w : World)
    (hra : 0 < rl → ra = some ⟨rb, ro, none⟩) (hr : RegsAt w rb ro rl log sec) (hok : RegionsOk rl log) :
    Calls Try.prog 79 #[.agg #[.slice ra rl rc, .slice ca cl cc, .int .i64 code, .int .i64 regs], .agg #[.int .i64 6, .int .i64 a, .int .i64 b, .int .i64 c, .int .i64 n]] w (Says (Reg regs a ∧ Rgn rl c ∧ Wrd log c n) w) := by
  by_cases hA : Reg regs a
  · by_cases hC : Rgn rl c
    · have h0 := hC.1
      have h1 := hC.2
      obtain rfl := hra (by omega)
      have hk : c.toNat < rl := by omega
      refine (fields_56_all 6 (by decide) rb ro rl rc ca cl cc code regs a b c n (log c.toNat) (wordsI (log c.toNat)) (sec c.toNat) w h0 h1 (hr _ hk).1 (hr _ hk).2
        (fun g cp w h => (registers1 _ rl rc ca cl cc code regs g cp a w h).mono fun _ _ s => s.is_yes hA)
        (fun w => (region_calls _ rl rc ca cl cc code regs c w).mono fun _ _ s => s.is_yes hC)
        (fun w => words_calls _ (hok.2 _ hk).1 (hok.2 _ hk).2 _ w)).mono ?_
      rintro e w' ⟨r, rfl, h, m⟩
      exact ⟨r, rfl, h.trans ⟨fun h => ⟨hA, hC, h⟩, fun h => h.2.2⟩, m⟩
    · refine (fields_56_norgn 6 (by decide) ra rl rc ca cl cc code regs a b c n w
        (fun g cp w h => (registers1 _ rl rc ca cl cc code regs g cp a w h).mono fun _ _ s => s.is_yes hA)
        (fun w => (region_calls _ rl rc ca cl cc code regs c w).mono fun _ _ s => s.is_no hC)).mono ?_
      rintro e w' ⟨rfl, m⟩
      exact Says.no (fun h => hC h.2.1) m
  · refine (fields_56_noreg 6 (by decide) ra rl rc ca cl cc code regs a b c n w
      (fun g cp w h => (registers1 _ rl rc ca cl cc code regs g cp a w h).mono fun _ _ s => s.is_no hA)).mono ?_
    rintro e w' ⟨rfl, m⟩
    exact Says.no (fun h => hA h.1) m

theorem fields_calls (ra : Option Addr) (rl rc : Nat) (ca : Option Addr) (cl cc : Nat) (code regs : Int) (op a b c n : Int) (rb ro : Nat) (log : Nat → Int) (sec : Nat → Bool) (w : World)
    (hra : 0 < rl → ra = some ⟨rb, ro, none⟩) (hr : RegsAt w rb ro rl log sec) (hok : RegionsOk rl log) :
    Calls Try.prog 79 #[.agg #[.slice ra rl rc, .slice ca cl cc, .int .i64 code, .int .i64 regs], .agg #[.int .i64 op, .int .i64 a, .int .i64 b, .int .i64 c, .int .i64 n]] w (Says (FieldsOk rl log cl regs op a b c n) w) := by
  unfold FieldsOk
  by_cases h1 : op = 1
  · rw [if_pos h1]; subst h1; exact fields_1 ra rl rc ca cl cc code regs a b c n w
  rw [if_neg h1]
  by_cases h2 : op = 2
  · rw [if_pos h2]; subst h2; exact fields_2 ra rl rc ca cl cc code regs a b c n w
  rw [if_neg h2]
  by_cases h3 : op = 3
  · rw [if_pos h3]; subst h3; exact fields_3 ra rl rc ca cl cc code regs a b c n w
  rw [if_neg h3]
  by_cases h4 : op = 4
  · rw [if_pos h4]; subst h4; exact fields_4 ra rl rc ca cl cc code regs a b c n w
  rw [if_neg h4]
  by_cases h5 : op = 5
  · rw [if_pos h5]; subst h5; exact fields_5 ra rl rc ca cl cc code regs a b c n rb ro log sec w hra hr hok
  rw [if_neg h5]
  by_cases h6 : op = 6
  · rw [if_pos h6]; subst h6; exact fields_6 ra rl rc ca cl cc code regs a b c n rb ro log sec w hra hr hok
  rw [if_neg h6]
  by_cases h7 : op = 7
  · rw [if_pos h7]; subst h7; exact fields_7 ra rl rc ca cl cc code regs a b c n w
  rw [if_neg h7]
  by_cases h8 : op = 8
  · rw [if_pos h8]; subst h8; exact fields_8 ra rl rc ca cl cc code regs a b c n w
  rw [if_neg h8]
  by_cases h9 : op = 9
  · rw [if_pos h9]; subst h9; exact fields_9 ra rl rc ca cl cc code regs a b c n w
  rw [if_neg h9]
  by_cases h10 : op = 10
  · rw [if_pos h10]; subst h10; exact fields_10 ra rl rc ca cl cc code regs a b c n w
  rw [if_neg h10]
  by_cases h11 : op = 11
  · rw [if_pos h11]; subst h11; exact fields_11 ra rl rc ca cl cc code regs a b c n w
  rw [if_neg h11]
  by_cases h12 : op = 12
  · rw [if_pos h12]; subst h12; exact fields_12 ra rl rc ca cl cc code regs a b c n w
  rw [if_neg h12]
  exact fields_else ra rl rc ca cl cc code regs op a b c n h1 h2 h3 h4 h5 h6 h7 h8 h9 h10 h11 h12 w
set_option maxHeartbeats 1000000 in
theorem code_calls (ra : Option Addr) (rl rc : Nat) (ca : Option Addr) (cl cc : Nat) (code regs : Int) (rb ro cb co : Nat) (log : Nat → Int) (sec : Nat → Bool) (ins : Nat → Ins) (w : World) (most : Nat) (hcode : code = most) (hmost : most ≤ 8000)
    (hra : 0 < rl → ra = some ⟨rb, ro, none⟩) (hr : RegsAt w rb ro rl log sec) (hok : RegionsOk rl log) (hca : 0 < cl → ca = some ⟨cb, co, none⟩) (hc : CodeAt w cb co cl ins) :
    Calls Try.prog 69 #[.agg #[.slice ra rl rc, .slice ca cl cc, .int .i64 code, .int .i64 regs]] w (Says (CodeOk rl log cl ins most regs) w) := by
  have Hcd : Hid (code = most ∧ most ≤ 8000) := ⟨hcode, hmost⟩
  have Hr : Hid ((0 < rl → ra = some ⟨rb, ro, none⟩) ∧ RegsAt w rb ro rl log sec ∧ RegionsOk rl log) := ⟨hra, hr, hok⟩
  have Hc : Hid ((0 < cl → ca = some ⟨cb, co, none⟩) ∧ CodeAt w cb co cl ins) := ⟨hca, hc⟩
  clear hcode hmost hra hr hok hca hc
  by_cases h1 : (cl : Int) < 1
  · go_enter Try.func69, Try.ntmps69
    go_wp2
    go_ret
    exact Says.no (fun h => by have := h.1; omega) ((More.refl _).alloc _ _)
  by_cases h2 : code < (cl : Int)
  · go_enter Try.func69, Try.ntmps69
    go_wp2
    go_ret
    exact Says.no (fun h => by have := h.2.1; have := Hcd.out.1; omega) ((More.refl _).alloc _ _)
  have Hl : Hid (1 ≤ cl ∧ cl ≤ most) := ⟨by omega, by have := Hcd.out.1; omega⟩
  go_enter Try.func69, Try.ntmps69
  go_wp2
  go_loopg [23] cl (fun g i wr => ∃ k : Nat, k + g = cl ∧ i = .int .i64 k ∧ (∀ j, j < k → InsOk rl log cl regs (ins j)) ∧ More (w.alloc (.cells #[.slice ra rl rc, .slice ca cl cc, .int .i64 code, .int .i64 regs] 93)) wr)
  case atStart => exact ⟨0, by omega, rfl, fun j hj => by omega, More.refl _⟩
  case round =>
    obtain ⟨k, hkg, rfl, hin, m⟩ := hrel
    have Hm : Hid (More (w.alloc (.cells #[.slice ra rl rc, .slice ca cl cc, .int .i64 code, .int .i64 regs] 93)) wr ∧ ∀ j, j < k → InsOk rl log cl regs (ins j)) := ⟨m, hin⟩
    clear m hin
    cases gk with
    | zero =>
      obtain rfl : k = cl := by omega
      go_wp2
      go_ret
      exact Says.yes ⟨Hl.out.1, Hl.out.2, Hm.out.2⟩ (((More.refl _).alloc _ _).trans Hm.out.1)
    | succ g =>
      have hk : k < cl := by omega
      have hk' : (k : Int) < (cl : Int) := by omega
      obtain rfl := Hc.out.1 (by omega)
      have Hww : Hid (More w wr) := ((More.refl _).alloc _ _).trans Hm.out.1
      have hcell := (Hc.out.2.more Hww.out) k hk
      have Hrr : Hid (RegsAt wr rb ro rl log sec) := Hr.out.2.1.more Hww.out
      cases hI : ins k with
      | mk op a b c n =>
      rw [hI] at hcell
      have HI : Hid (ins k = ⟨op, a, b, c, n⟩) := hI
      clear hI
      obtain ⟨q0, q1, q2, q3, q4⟩ := hcell
      have e0 : wr.cell? ⟨w.heap.size, 0, none⟩ = some (.slice ra rl rc) := Hm.out.1.cell (by go_simp)
      have e1 : wr.cell? ⟨w.heap.size, 1, none⟩ = some (.slice (some ⟨cb, co, none⟩) cl cc) := Hm.out.1.cell (by go_simp)
      have e2 : wr.cell? ⟨w.heap.size, 2, none⟩ = some (.int .i64 code) := Hm.out.1.cell (by go_simp)
      have e3 : wr.cell? ⟨w.heap.size, 3, none⟩ = some (.int .i64 regs) := Hm.out.1.cell (by go_simp)
      obtain ⟨W, HW⟩ : ∃ W : World, Hid (W = wr.alloc (.cells #[.int .i64 op, .int .i64 a, .int .i64 b, .int .i64 c, .int .i64 n] 75)) := ⟨_, rfl⟩
      have HwW : Hid (More wr W) := HW.out ▸ ((More.refl _).alloc _ _)
      obtain ⟨S, HS⟩ : ∃ S : World → Prop, Hid (∀ w', S w' ↔ More W w') := ⟨fun w' => More W w', fun _ => Iff.rfl⟩
      have k0 : ∀ i : { w' // S w' }, i.val.cell? ⟨w.heap.size, 0, none⟩ = some (.slice ra rl rc) := fun i => ((HS.out _).1 i.property).cell (HwW.out.cell e0)
      have k1 : ∀ i : { w' // S w' }, i.val.cell? ⟨w.heap.size, 1, none⟩ = some (.slice (some ⟨cb, co, none⟩) cl cc) := fun i => ((HS.out _).1 i.property).cell (HwW.out.cell e1)
      have k2 : ∀ i : { w' // S w' }, i.val.cell? ⟨w.heap.size, 2, none⟩ = some (.int .i64 code) := fun i => ((HS.out _).1 i.property).cell (HwW.out.cell e2)
      have k3 : ∀ i : { w' // S w' }, i.val.cell? ⟨w.heap.size, 3, none⟩ = some (.int .i64 regs) := fun i => ((HS.out _).1 i.property).cell (HwW.out.cell e3)
      have d0 : ∀ i : { w' // S w' }, i.val.cell? ⟨wr.heap.size, 0, none⟩ = some (.int .i64 op) := fun i => ((HS.out _).1 i.property).cell (by rw [HW.out]; go_simp)
      have d1 : ∀ i : { w' // S w' }, i.val.cell? ⟨wr.heap.size, 1, none⟩ = some (.int .i64 a) := fun i => ((HS.out _).1 i.property).cell (by rw [HW.out]; go_simp)
      have d2 : ∀ i : { w' // S w' }, i.val.cell? ⟨wr.heap.size, 2, none⟩ = some (.int .i64 b) := fun i => ((HS.out _).1 i.property).cell (by rw [HW.out]; go_simp)
      have d3 : ∀ i : { w' // S w' }, i.val.cell? ⟨wr.heap.size, 3, none⟩ = some (.int .i64 c) := fun i => ((HS.out _).1 i.property).cell (by rw [HW.out]; go_simp)
      have d4 : ∀ i : { w' // S w' }, i.val.cell? ⟨wr.heap.size, 4, none⟩ = some (.int .i64 n) := fun i => ((HS.out _).1 i.property).cell (by rw [HW.out]; go_simp)
      have hne : Nonempty { w' // S w' } := ⟨⟨W, (HS.out _).2 (More.refl _)⟩⟩
      clear e0 e1 e2 e3
      go_wp2_with (fail)
      clear q0 q1 q2 q3 q4
      refine wp_region_ord (S := S) [(0, true), (1, true), (2, false), (3, true), (4, true), (5, true), (6, true), (7, false), (8, true), (9, true)] (by kernel_rfl) (by kernel_rfl) (by kernel_rfl) ((HS.out _).2 (HW.out ▸ (More.refl _).drew)) ?_
      iterate 2 (refine wpOrd_take rfl (by kernel_rfl) (fun K hK => ?_); go_simp; refine hK _ _ ?_; clear hK K)
      refine wpOrd_busy rfl (by kernel_rfl) (fun K hK => ?_); go_simp
      refine (named_calls op a b c n _).mono ?_
      rintro e w1 ⟨a', b', c', n', rfl, hnm, m1⟩
      have Hnm : Hid ((a = a' ∧ b = b' ∧ c = c' ∧ n = n') ↔ NamedOk op a b c n) := hnm
      have Hm1 : Hid (More W w1) := HW.out ▸ (More.trans (More.refl _).drew m1)
      clear hnm m1
      go_simp
      refine hK _ _ ((HS.out _).2 Hm1.out) ?_; clear hK K
      by_cases heq : a = a' ∧ b = b' ∧ c = c' ∧ n = n'
      · have HN : Hid (NamedOk op a b c n) := Hnm.out.1 heq
        obtain ⟨rfl, rfl, rfl, rfl⟩ := heq
        clear Hnm
        refine wpOrd_take rfl (by kernel_rfl) (fun K hK => ?_); go_simp; refine hK _ _ ?_; clear hK K
        refine wpOrd_move rfl rfl (by kernel_rfl) (fun K hK => ?_); go_simp; refine hK _ _ ?_; clear hK K
        iterate 2 (refine wpOrd_take rfl (by kernel_rfl) (fun K hK => ?_); go_simp; refine hK _ _ ?_; clear hK K)
        refine wpOrd_busy rfl (by kernel_rfl) (fun K hK => ?_); go_simp
        refine (fields_calls ra rl rc _ cl cc code regs op a b c n rb ro log sec _ Hr.out.1 (Hrr.out.more (HwW.out.trans Hm1.out)) Hr.out.2.2).mono ?_
        rintro e w2 ⟨r2, rfl, hr2, m2⟩
        have Hm2 : Hid (More W w2) := Hm1.out.trans m2
        clear m2
        cases r2 with
        | false =>
          have HF : Hid (¬ FieldsOk rl log cl regs op a b c n) := fun h => by simpa using hr2.2 h
          clear hr2
          go_simp
          refine hK _ _ ((HS.out _).2 Hm2.out) ?_; clear hK K
          refine wpOrd_take rfl (by kernel_rfl) (fun K hK => ?_); go_simp; refine hK _ _ ?_; clear hK K
          refine wpOrd_pickF rfl rfl (by kernel_rfl) rfl (fun K hK => ?_); go_simp; refine hK _ _ ?_; clear hK K
          refine wpOrd_done ?_
          clear k0 k1 k2 k3 d0 d1 d2 d3 d4 hne
          go_wp2
          go_ret
          exact Says.no (fun h => HF.out ((ins_iff rl log cl regs op a b c n).1 (HI.out ▸ h.2.2 k hk)).2) ((Hww.out.trans HwW.out).trans Hm2.out)
        | true =>
          have HF : Hid (FieldsOk rl log cl regs op a b c n) := hr2.1 rfl
          clear hr2
          go_simp
          refine hK _ _ ((HS.out _).2 Hm2.out) ?_; clear hK K
          refine wpOrd_take rfl (by kernel_rfl) (fun K hK => ?_); go_simp; refine hK _ _ ?_; clear hK K
          refine wpOrd_pickF rfl rfl (by kernel_rfl) rfl (fun K hK => ?_); go_simp; refine hK _ _ ?_; clear hK K
          refine wpOrd_done ?_
          clear k0 k1 k2 k3 d0 d1 d2 d3 d4 hne
          go_wp2
          go_roundg g
          case measure => omega
          case rel =>
            refine ⟨k + 1, by omega, by first | rfl | (simp; unfold wrap64; have := Hl.out.2; have := Hcd.out.2; omega), fun j hj => ?_, (Hm.out.1.trans HwW.out).trans Hm2.out⟩
            by_cases e : j = k
            · subst e; rw [HI.out]; exact (ins_iff rl log cl regs op a b c n).2 ⟨HN.out, HF.out⟩
            · exact Hm.out.2 j (by omega)
      · have HN : Hid (¬ NamedOk op a b c n) := fun h => heq (Hnm.out.2 h)
        clear Hnm
        have Hq : Hid (¬ (a = a' ∧ b = b' ∧ c = c' ∧ n = n')) := heq
        clear heq
        refine wpOrd_take rfl (by kernel_rfl) (fun K hK => ?_)
        go_simp
        refine ⟨.bool true, fun w9 _ => ?_, hK _ _ ?_⟩
        · repeat' split
          all_goals first | rfl | exact absurd ⟨‹_›, ‹_›, ‹_›, ‹_›⟩ Hq.out
        clear hK K
        refine wpOrd_move rfl rfl (by kernel_rfl) (fun K hK => ?_); go_simp; refine hK _ _ ?_; clear hK K
        iterate 4 (refine wpOrd_pass rfl ((HS.out _).2 Hm1.out) (by kernel_rfl) (fun K hK => ?_); go_simp; refine hK _ _ ?_; clear hK K)
        refine wpOrd_pickT rfl rfl (by kernel_rfl) rfl (fun K hK => ?_); go_simp; refine hK _ _ ?_; clear hK K
        refine wpOrd_done ?_
        clear k0 k1 k2 k3 d0 d1 d2 d3 d4 hne
        go_wp2
        go_ret
        exact Says.no (fun h => HN.out ((ins_iff rl log cl regs op a b c n).1 (HI.out ▸ h.2.2 k hk)).1) ((Hww.out.trans HwW.out).trans Hm1.out)

theorem allowed_calls (ra : Option Addr) (rl rc : Nat) (ca : Option Addr) (cl cc : Nat) (code regs : Int) (rb ro cb co : Nat) (log : Nat → Int) (sec : Nat → Bool) (ins : Nat → Ins) (w : World) (most : Nat) (hcode : code = most) (hmost : most ≤ 8000)
    (hra : 0 < rl → ra = some ⟨rb, ro, none⟩) (hr : RegsAt w rb ro rl log sec) (hca : 0 < cl → ca = some ⟨cb, co, none⟩) (hc : CodeAt w cb co cl ins) :
    Calls Try.prog 48 #[.agg #[.slice ra rl rc, .slice ca cl cc, .int .i64 code, .int .i64 regs]] w (Says (RegionsOk rl log ∧ CodeOk rl log cl ins most regs) w) := by
  have Hcd : Hid (code = most ∧ most ≤ 8000) := ⟨hcode, hmost⟩
  have Hr : Hid ((0 < rl → ra = some ⟨rb, ro, none⟩) ∧ RegsAt w rb ro rl log sec) := ⟨hra, hr⟩
  have Hc : Hid ((0 < cl → ca = some ⟨cb, co, none⟩) ∧ CodeAt w cb co cl ins) := ⟨hca, hc⟩
  clear hcode hmost hra hr hca hc
  go_enter Try.func48, Try.ntmps48
  go_wp2_with (fail)
  refine (regions_calls ra rl rc ca cl cc code regs rb ro log sec _ Hr.out.1 (Hr.out.2.more ((More.refl _).alloc _ _))).mono ?_
  rintro e w1 ⟨r, rfl, h, m1⟩
  have e0 : w1.cell? ⟨w.heap.size, 0, none⟩ = some (.slice ra rl rc) := m1.cell (by go_simp)
  have e1 : w1.cell? ⟨w.heap.size, 1, none⟩ = some (.slice ca cl cc) := m1.cell (by go_simp)
  have e2 : w1.cell? ⟨w.heap.size, 2, none⟩ = some (.int .i64 code) := m1.cell (by go_simp)
  have e3 : w1.cell? ⟨w.heap.size, 3, none⟩ = some (.int .i64 regs) := m1.cell (by go_simp)
  have Hm : Hid (More w w1) := ((More.refl _).alloc _ _).trans m1
  clear m1
  cases r with
  | false =>
    have HA : Hid (¬ RegionsOk rl log) := fun k => by simpa using h.2 k
    clear h
    go_wp2
    go_ret
    exact Says.no (fun h => HA.out h.1) Hm.out
  | true =>
    have HA : Hid (RegionsOk rl log) := h.1 rfl
    clear h
    go_wp2_with (fail)
    refine (code_calls ra rl rc ca cl cc code regs rb ro cb co log sec ins _ most Hcd.out.1 Hcd.out.2 Hr.out.1 (Hr.out.2.more Hm.out) HA.out Hc.out.1 (Hc.out.2.more Hm.out)).mono ?_
    rintro e w2 ⟨r2, rfl, h2, m2⟩
    have H2 : Hid ((r2 = true ↔ CodeOk rl log cl ins most regs) ∧ More w1 w2) := ⟨h2, m2⟩
    clear h2 m2
    go_wp2
    go_ret
    exact ⟨r2, rfl, H2.out.1.trans ⟨fun h => ⟨HA.out, h⟩, fun h => h.2⟩, Hm.out.trans H2.out.2⟩
set_option maxHeartbeats 1000000 in
theorem lfits_calls (ra : Option Addr) (rl rc : Nat) (ca : Option Addr) (cl cc : Nat) (ma : Option Addr) (ml mc : Nat) (rb ro mb mo : Nat) (log : Nat → Int) (sec : Nat → Bool) (A : Nat → Option Addr) (L C : Nat → Nat) (w : World)
    (hra : 0 < rl → ra = some ⟨rb, ro, none⟩) (hr : RegsAt w rb ro rl log sec) (hma : 0 < ml → ma = some ⟨mb, mo, none⟩) (hm : ListsAt w mb mo ml A L C) :
    Calls Try.prog 24 #[.agg #[.slice ra rl rc, .slice ca cl cc], .slice ma ml mc] w (Says (FitsOk rl log ml L) w) := by
  have Hr : Hid ((0 < rl → ra = some ⟨rb, ro, none⟩) ∧ RegsAt w rb ro rl log sec) := ⟨hra, hr⟩
  have Hl : Hid ((0 < ml → ma = some ⟨mb, mo, none⟩) ∧ ListsAt w mb mo ml A L C) := ⟨hma, hm⟩
  clear hra hr hma hm
  have m0 : More w ((w.alloc (.cells #[.slice ra rl rc, .slice ca cl cc] 25)).alloc (.cells #[.slice ra rl rc, .slice ca cl cc, .int .i64 0, .int .i64 0] 93)) := ((More.refl _).alloc _ _).alloc _ _
  have Hm0 : Hid (More w ((w.alloc (.cells #[.slice ra rl rc, .slice ca cl cc] 25)).alloc (.cells #[.slice ra rl rc, .slice ca cl cc, .int .i64 0, .int .i64 0] 93))) := m0
  clear m0
  go_enter Try.func24, Try.ntmps24
  go_wp2_with (fail)
  refine (regions_calls ra rl rc ca cl cc 0 0 rb ro log sec _ Hr.out.1 (Hr.out.2.more Hm0.out)).mono ?_
  rintro e w1 ⟨r, rfl, h, m1⟩
  have e0 : w1.cell? ⟨w.heap.size, 0, none⟩ = some (.slice ra rl rc) := m1.cell (by go_simp)
  have e1 : w1.cell? ⟨w.heap.size, 1, none⟩ = some (.slice ca cl cc) := m1.cell (by go_simp)
  have Hm1 : Hid (More w w1) := Hm0.out.trans m1
  clear m1 Hm0
  cases r with
  | false =>
    have HA : Hid (¬ RegionsOk rl log) := fun k => by simpa using h.2 k
    clear h
    go_wp2
    go_ret
    exact Says.no (fun h => HA.out h.1) Hm1.out
  | true =>
    have HA : Hid (RegionsOk rl log) := h.1 rfl
    clear h
    by_cases hne : (ml : Int) = (rl : Int)
    · obtain rfl : ml = rl := by omega
      clear hne
      have h6 : ml ≤ 6 := HA.out.1
      go_wp2
      go_loopg [22] ml (fun g i wr => ∃ k : Nat, k + g = ml ∧ i = .int .i64 k ∧ (∀ j, j < k → (L j : Int) = wordsI (log j)) ∧ More w1 wr)
      case atStart => exact ⟨0, by omega, rfl, fun j hj => by omega, More.refl _⟩
      case round =>
        obtain ⟨k, hkg, rfl, hin, m⟩ := hrel
        have Hm : Hid (More w1 wr ∧ ∀ j, j < k → (L j : Int) = wordsI (log j)) := ⟨m, hin⟩
        clear m hin e0 e1
        cases gk with
        | zero =>
          obtain rfl : k = ml := by omega
          go_wp2
          go_ret
          exact Says.yes ⟨HA.out, rfl, Hm.out.2⟩ (Hm1.out.trans Hm.out.1)
        | succ g =>
          have hk : k < ml := by omega
          have hk' : (k : Int) < (ml : Int) := by omega
          have hk0 : (0 : Int) ≤ (k : Int) := by omega
          obtain rfl := Hr.out.1 (by omega)
          obtain rfl := Hl.out.1 (by omega)
          have Hww : Hid (More w wr) := Hm1.out.trans Hm.out.1
          have q0 := ((Hr.out.2.more Hww.out) k hk).1
          have q1 := ((Hr.out.2.more Hww.out) k hk).2
          have q2 := (Hl.out.2.more Hww.out) k hk
          have Hlog : Hid (0 ≤ log k ∧ log k ≤ 6) := HA.out.2 k hk
          obtain ⟨lk, hlk⟩ : ∃ x, log k = x := ⟨_, rfl⟩
          rw [hlk] at q0 Hlog
          have Hlk : Hid (log k = lk) := hlk
          clear hlk
          obtain ⟨W, HW⟩ : ∃ W : World, Hid (W = wr.alloc (.cells #[.int .i64 lk, .bool (sec k)] 79)) := ⟨_, rfl⟩
          have HwW : Hid (More wr W) := HW.out ▸ ((More.refl _).alloc _ _)
          obtain ⟨S, HS⟩ : ∃ S : World → Prop, Hid (∀ w', S w' ↔ More W w') := ⟨fun w' => More W w', fun _ => Iff.rfl⟩
          have k2 : ∀ i : { w' // S w' }, i.val.cell? ⟨mb, mo + k, none⟩ = some (.slice (A k) (L k) (C k)) := fun i => ((HS.out _).1 i.property).cell (HwW.out.cell q2)
          have d0 : ∀ i : { w' // S w' }, i.val.cell? ⟨wr.heap.size, 0, none⟩ = some (.int .i64 lk) := fun i => ((HS.out _).1 i.property).cell (by rw [HW.out]; go_simp)
          have d1 : ∀ i : { w' // S w' }, i.val.cell? ⟨wr.heap.size, 1, none⟩ = some (.bool (sec k)) := fun i => ((HS.out _).1 i.property).cell (by rw [HW.out]; go_simp)
          have hne : Nonempty { w' // S w' } := ⟨⟨W, (HS.out _).2 (More.refl _)⟩⟩
          go_wp2_with (fail)
          clear q0 q1 q2
          refine wp_region_ord (S := S) [(0, true), (1, true), (2, true), (3, true), (4, true), (5, true), (6, false), (7, true)] (by kernel_rfl) (by kernel_rfl) (by kernel_rfl) ((HS.out _).2 (HW.out ▸ (More.refl _).drew)) ?_
          iterate 6 (refine wpOrd_take rfl (by kernel_rfl) (fun K hK => ?_); go_simp; refine hK _ _ ?_; clear hK K)
          refine wpOrd_busy rfl (by kernel_rfl) (fun K hK => ?_); go_simp
          obtain ⟨nw, hnw⟩ : ∃ x, wordsI lk = x := ⟨_, rfl⟩
          refine (words_lit lk Hlog.out.1 Hlog.out.2 nw hnw.symm (sec k) _).mono ?_
          have Hnw : Hid (wordsI (log k) = nw) := by rw [Hlk.out]; exact hnw
          clear hnw
          rintro e w2 ⟨rfl, m2⟩
          have Hm2 : Hid (More W w2) := HW.out ▸ (More.trans (More.refl _).drew m2)
          clear m2
          go_simp
          refine hK _ _ ((HS.out _).2 Hm2.out) ?_; clear hK K
          by_cases hq : (L k : Int) = nw
          · have Hq : Hid ((L k : Int) = nw) := hq
            have heq : ((L k : Int) != nw) = false := by simp [hq]
            clear hq
            refine wpOrd_take rfl (by kernel_rfl) (fun K hK => ?_); go_simp; refine hK _ _ ?_; clear hK K
            refine wpOrd_done ?_
            clear heq k2 d0 d1 hne
            go_wp2
            go_roundg g
            case measure => omega
            case rel =>
              refine ⟨k + 1, by omega, by first | rfl | simp, fun j hj => ?_, (Hm.out.1.trans HwW.out).trans Hm2.out⟩
              by_cases e : j = k
              · subst e; rw [Hq.out, Hnw.out]
              · exact Hm.out.2 j (by omega)
          · have Hq : Hid (¬ (L k : Int) = nw) := hq
            have heq' : ((L k : Int) != nw) = true := by simp [hq]
            clear hq
            refine wpOrd_take rfl (by kernel_rfl) (fun K hK => ?_); go_simp; refine hK _ _ ?_; clear hK K
            refine wpOrd_done ?_
            clear heq' k2 d0 d1 hne
            go_wp2
            go_ret
            exact Says.no (fun h => Hq.out (by rw [← Hnw.out]; exact h.2.2 k hk)) ((Hww.out.trans HwW.out).trans Hm2.out)
    · go_wp2
      go_ret
      exact Says.no (fun h => by have := h.2.1; omega) Hm1.out
end
section
open Go.RowKit
set_option linter.unusedSimpArgs false
set_option linter.unusedVariables false
set_option maxRecDepth 8000
def rowOf (rv cv : Value) (x : Ms) : Array Value := ((List.range 411).map (cellF rv cv x)).toArray
theorem rowOf_mc (rv cv : Value) (x : Ms) : MC (rowOf rv cv { x with tl := fun _ => none }) rv cv { x with tl := fun _ => none } := ⟨by simp [rowOf], fun j hj => by simp [rowOf, hj], fun j hj => by simp [rowOf]; omega⟩
def ms0 (fuel : Int) : Ms := ⟨0, 0, 0, .slice none 0 0, .slice none 0 0, fun _ => 0, fun _ => 0, 0, fuel, false, fun _ => 0, 52, fun _ => none, []⟩
theorem MC.one {c : Array Value} {rv cv : Value} {x : Ms} (h : MC c rv cv x) (h0 : rv.oneCell' = true) (h1 : cv.oneCell' = true) (h2 : x.sv.oneCell' = true) (h3 : x.mv.oneCell' = true) (h4 : x.tl 411 = none) : c.all (·.oneCell') = true := by
  rw [Array.all_eq_true]
  intro i hi
  have := h.at_ i (by rw [← h.size h4]; exact hi)
  rw [Array.getElem?_eq_getElem hi] at this
  rw [Option.some.inj this]
  unfold cellF
  by_cases e0 : i = 0
  · rw [if_pos e0]; exact h0
  rw [if_neg e0]
  by_cases e1 : i = 1
  · rw [if_pos e1]; exact h1
  rw [if_neg e1]
  by_cases e2 : i = 2
  · rw [if_pos e2]; rfl
  rw [if_neg e2]
  by_cases e3 : i = 3
  · rw [if_pos e3]; rfl
  rw [if_neg e3]
  by_cases e4 : i = 4
  · rw [if_pos e4]; rfl
  rw [if_neg e4]
  by_cases e5 : i = 5
  · rw [if_pos e5]; exact h2
  rw [if_neg e5]
  by_cases e6 : i = 6
  · rw [if_pos e6]; exact h3
  rw [if_neg e6]
  by_cases e7 : i < 17
  · rw [if_pos e7]; rfl
  rw [if_neg e7]
  by_cases e8 : i < 401
  · rw [if_pos e8]; rfl
  rw [if_neg e8]
  by_cases e9 : i = 401
  · rw [if_pos e9]; rfl
  rw [if_neg e9]
  by_cases e10 : i = 402
  · rw [if_pos e10]; rfl
  rw [if_neg e10]
  by_cases e11 : i = 403
  · rw [if_pos e11]; rfl
  rw [if_neg e11]
  rfl

theorem info70 : (Try.prog.info? 52).map (fun i => (i.zero, i.size)) = some (some (.agg (rowOf (.slice none 0 0) (.slice none 0 0) (ms0 0))), 411) := by kernel_rfl
theorem built70_none : Try.prog.built 52 [] = some (rowOf (.slice none 0 0) (.slice none 0 0) (ms0 0)) := by kernel_rfl
theorem results_row_tmp {P : Program} {fn : Func} {p u : Tmp} {ty : TypeId} (h : fn.results = #[.cell p ty, .tmp u]) (tmps : Array Value) (w : World) (g : Nat) (t : TypeId) (cs : Array Value) (fr : Nat × Nat) (d : TypeDesc)
    (hp : tmps.getD p undef = .pointer (some ⟨g, 0, none⟩)) (hg : w.heap[g]? = some (.cells cs t fr))
    (hu : P.underlying ty = some d) (hd : (match d with | .struct _ | .array _ _ => true | _ => false) = true) (hi : (P.info? ty).map (·.size) = some cs.size) :
    (results fn tmps).run P w = .ok (.tuple #[.agg cs, tmps.getD u undef]) w := by
  have hp' : tmps[p]?.getD undef = .pointer (some ⟨g, 0, none⟩) := by simpa using hp
  simp [results, h, hp', asAddr, run_loadVar_row w g t ty cs fr d hg hu hd hi]

theorem wp_copy_cells {P : Program} {o : Oper} {a : Act} {w : World} {K : Act → World → Prop} {Q : Exit → Act → World → Prop} (d s : Operand) (dT sT : TypeId)
    (ho : o.op = .call { callee := .builtin .copy, args := #[d, s], argTypes := #[dT, sT] }) (elem : TypeId) (hu : P.underlying dT = some (.slice elem)) (hsz : (P.info? elem).map (·.size) = some 1)
    (b off dLen dCap : Nat) (ad : Addr) (sLen sCap : Nat) (hd : a.eval d = .slice (some ⟨b, off, none⟩) dLen dCap) (hs : a.eval s = .slice (some ad) sLen sCap) (cs : List Value) (hn : cs.length = Nat.min sLen dLen)
    (hsrc : ∀ j v, cs[j]? = some v → w.cell? (ad.add j) = some v) (hc : ∀ j, j < cs.length → (w.cell? ⟨b, off + j, none⟩).isSome = true) (hf : ∀ j, j < cs.length → w.frozen? ⟨b, off + j, none⟩ = false) (h1 : ∀ v ∈ cs, v.oneCell' = true)
    (h : K (a.put o.dst (goInt cs.length)) (w.setCells b off cs)) : Oper.wp P o a w K Q := by
  have hrun := run_copy_cells (P := P) w dT sT o.type elem b off dLen dCap ad sLen sCap cs hu hsz hn hsrc hc hf h1
  unfold Oper.wp
  simp [execOp, ho, resolve, invoke, builtin, hd, hs, hrun, Result.andThen]
  exact h

def intsN (f : Nat → Int) (n : Nat) : List Value := (List.range n).map fun j => .int .i64 (f j)
theorem intsN_length (f : Nat → Int) (n : Nat) : (intsN f n).length = n := by simp [intsN]
theorem intsN_at (f : Nat → Int) (n j : Nat) (h : j < n) : (intsN f n)[j]? = some (.int .i64 (f j)) := by simp [intsN, h]
theorem intsN_succ (f : Nat → Int) (n : Nat) : intsN f (n + 1) = .int .i64 (f 0) :: intsN (fun j => f (j + 1)) n := by simp [intsN, List.range_succ_eq_map]

theorem grown_setCellsS (M : Nat) : ∀ (vs : List Value) (o : Nat) (w : World), w.grownBy (w.setCells M o vs) (some M)
  | [], o, w => grown_refl _ _
  | v :: vs, o, w => grown_trans (grown_set w M o v) (grown_setCellsS M vs (o + 1) _)

theorem MAt.fill {M : Nat} {rv cv : Value} : ∀ (n : Nat) (f : Nat → Int) (k : Nat) (x : Ms) (w : World), MAt w M rv cv x → k + n ≤ 384 →
    ∃ W, MAt (w.setCells M (17 + k) (intsN f n)) M rv cv { x with wd := W } ∧ (∀ j, j < n → W (k + j) = f j) ∧ (∀ j, j < k → W j = x.wd j)
  | 0, f, k, x, w, h, _ => ⟨x.wd, h, fun j hj => by omega, fun j _ => rfl⟩
  | n + 1, f, k, x, w, h, hk => by
    obtain ⟨W, h1, h2, h3⟩ := MAt.fill n (fun j => f (j + 1)) (k + 1) { x with wd := setN x.wd k (f 0) } (w.setCell ⟨M, 17 + k, none⟩ (.int .i64 (f 0))) (h.setWd k (by omega) (f 0)) (by omega)
    refine ⟨W, ?_, fun j hj => ?_, fun j hj => ?_⟩
    · rw [intsN_succ]
      exact h1
    · cases j with
      | zero =>
        have := h3 k (by omega)
        dsimp only at this
        rw [Nat.add_zero, this]
        simp [setN]
      | succ j =>
        have := h2 j (by omega)
        rw [show k + (j + 1) = k + 1 + j by omega]
        exact this
    · have := h3 j (by omega)
      dsimp only at this
      rw [this]
      unfold setN
      rw [if_neg (by omega)]

/-- Where New stands: the words of so many regions are laid. -/
structure Nw (w wr : World) (rv cv : Value) (B : Nat) (m : Mem) (fuel : Int) (z : Array Value) (k : Nat) (W S : Nat → Int) : Prop where
  more : More w wr
  lo : w.heap.size + 2 ≤ B
  at_ : MAt wr B rv cv { ms0 fuel with wd := W, st := S }
  st : ∀ j, j ≤ k → S j = (baseN m.len j : Int)
  wd : ∀ j, j < k → ∀ i, i < m.len j → W (baseN m.len j + i) = m.wd j i
  res : wr.heap[w.heap.size + 1]? = some (.cells z 52 (0, 0))

theorem Nw.step {w wr : World} {rv cv : Value} {B : Nat} {m : Mem} {fuel : Int} {z : Array Value} {k : Nat} {W S : Nat → Int} (h : Nw w wr rv cv B m fuel z k W S) (hk : k < 6) (hle : baseN m.len (k + 1) ≤ 384) (n : Int) (hn : n = (baseN m.len (k + 1) : Int)) :
    ∃ W' S', Nw w (((wr.drew).setCells B (17 + baseN m.len k) (intsN (m.wd k) (m.len k))).setCell ⟨B, 404 + (k + 1), none⟩ (.int .i64 n)) rv cv B m fuel z (k + 1) W' S' := by
  subst hn
  obtain ⟨W', h1, h2, h3⟩ := MAt.fill (m.len k) (m.wd k) (baseN m.len k) _ wr.drew h.at_.drew (by simpa [baseN] using hle)
  have hlo := h.lo
  have g0 : wr.grownBy (((wr.drew).setCells B (17 + baseN m.len k) (intsN (m.wd k) (m.len k))).setCell ⟨B, 404 + (k + 1), none⟩ (.int .i64 (baseN m.len (k + 1) : Int))) (some B) :=
    gr_set (grown_trans (grown_drew wr _) (grown_setCellsS B _ _ _)) _ _
  refine ⟨W', setN S (k + 1) (baseN m.len (k + 1) : Int), h.more.grownBy g0 (fun b hb => by have := Option.some.inj hb; omega), h.lo, h1.setSt (k + 1) (by omega) _, fun j hj => ?_, fun j hj i hi => ?_, ?_⟩
  · unfold setN
    by_cases e : j = k + 1
    · rw [if_pos e, e]
    · rw [if_neg e]; exact h.st j (by omega)
  · by_cases e : j = k
    · subst e; exact h2 i hi
    · have hlt : baseN m.len j + i < baseN m.len k := by
        have := baseN_mono m.len (j + 1) k (by omega)
        simp only [baseN] at this
        omega
      rw [h3 _ hlt]
      exact h.wd j (by omega) i hi
  · have hsz : w.heap.size + 1 < wr.heap.size := by
      rcases Nat.lt_or_ge (w.heap.size + 1) wr.heap.size with h' | h'
      · exact h'
      · have := h.res
        rw [Array.getElem?_eq_none h'] at this
        cases this
    rw [g0.block (w.heap.size + 1) hsz (by simp; omega)]
    exact h.res
structure Tl where
  sc : Value
  mb : Nat
  puts : Nat → Int
  ahead : Bool
  br : Nat → Int
  bw : Nat → Int
  bn : Int
  bp : Nat → Int
  til : Int

def tlV (q : Tl) (j : Nat) : Value :=
  if j = 411 then q.sc else if j = 412 then .map (some q.mb) else if j < 797 then .int .i64 (q.puts (j - 413)) else if j = 797 then .bool q.ahead
  else if j < 808 then .int .i64 (q.br (j - 798)) else if j < 1192 then .int .i64 (q.bw (j - 808)) else if j = 1192 then .int .i64 q.bn else if j < 1577 then .int .i64 (q.bp (j - 1193)) else .int .i64 q.til
def tlF (q : Tl) (j : Nat) : Option Value := if j < 1578 then some (tlV q j) else none

theorem tlF_at (q : Tl) (j : Nat) (hj : j < 1578) : tlF q j = some (tlV q j) := by unfold tlF; rw [if_pos hj]
theorem tlV_puts (q : Tl) (j : Nat) (hj : j < 384) : tlV q (413 + j) = .int .i64 (q.puts j) := by
  unfold tlV
  rw [if_neg (by omega), if_neg (by omega), if_pos (by omega), show 413 + j - 413 = j by omega]
theorem tlV_br (q : Tl) (j : Nat) (hj : j < 10) : tlV q (798 + j) = .int .i64 (q.br j) := by
  unfold tlV
  rw [if_neg (by omega), if_neg (by omega), if_neg (by omega), if_neg (by omega), if_pos (by omega), show 798 + j - 798 = j by omega]
theorem tlV_bw (q : Tl) (j : Nat) (hj : j < 384) : tlV q (808 + j) = .int .i64 (q.bw j) := by
  unfold tlV
  rw [if_neg (by omega), if_neg (by omega), if_neg (by omega), if_neg (by omega), if_neg (by omega), if_pos (by omega), show 808 + j - 808 = j by omega]
theorem tlV_bp (q : Tl) (j : Nat) (hj : j < 384) : tlV q (1193 + j) = .int .i64 (q.bp j) := by
  unfold tlV
  rw [if_neg (by omega), if_neg (by omega), if_neg (by omega), if_neg (by omega), if_neg (by omega), if_neg (by omega), if_neg (by omega), if_pos (by omega), show 1193 + j - 1193 = j by omega]

/-- A state's cells, and those of how often words were put. -/
def stL (r wd : Nat → Int) (n : Int) : List Value := (List.range 395).map fun j => if j < 10 then .int .i64 (r j) else if j < 394 then .int .i64 (wd (j - 10)) else .int .i64 n
def puL (f : Nat → Int) : List Value := (List.range 384).map fun j => .int .i64 (f j)
theorem stL_length (r wd : Nat → Int) (n : Int) : (stL r wd n).length = 395 := by simp [stL]
theorem puL_length (f : Nat → Int) : (puL f).length = 384 := by simp [puL]
theorem stL_at (r wd : Nat → Int) (n : Int) (j : Nat) (hj : j < 395) : (stL r wd n)[j]? = some (if j < 10 then .int .i64 (r j) else if j < 394 then .int .i64 (wd (j - 10)) else .int .i64 n) := by simp [stL, hj]
theorem puL_at (f : Nat → Int) (j : Nat) (hj : j < 384) : (puL f)[j]? = some (.int .i64 (f j)) := by simp [puL, hj]
theorem stL_one (r wd : Nat → Int) (n : Int) : ∀ v ∈ stL r wd n, v.oneCell' = true := by
  intro v hv
  simp only [stL, List.mem_map] at hv
  obtain ⟨j, _, rfl⟩ := hv
  split
  · rfl
  · split <;> rfl
theorem puL_one (f : Nat → Int) : ∀ v ∈ puL f, v.oneCell' = true := by
  intro v hv
  simp only [puL, List.mem_map] at hv
  obtain ⟨j, _, rfl⟩ := hv
  rfl

/-- A part of the row is stored. -/
theorem MAt.splice {w : World} {M : Nat} {rv cv : Value} {x x' : Ms} (h : MAt w M rv cv x) (o : Nat) (vs : List Value) (hT : x'.T = x.T) (hfit : o + vs.length ≤ 411 ∨ ∃ v, x.tl (o + vs.length - 1) = some v) (h0 : 0 < vs.length)
    (h1 : ∀ j, j < 411 → (if o ≤ j ∧ j < o + vs.length then vs[j - o]? else some (cellF rv cv x j)) = some (cellF rv cv x' j)) (h2 : ∀ j, 411 ≤ j → (if o ≤ j ∧ j < o + vs.length then vs[j - o]? else x.tl j) = x'.tl j) : MAt (w.setCells M o vs) M rv cv x' := by
  obtain ⟨c, hh, hc⟩ := h.out
  have hsz : o + vs.length ≤ c.size := by
    rcases hfit with h3 | ⟨v, hv⟩
    · have := hc.big; omega
    · by_cases e : o + vs.length ≤ 411
      · have := hc.big; omega
      · have h4 := hc.tail (o + vs.length - 1) (by omega)
        rw [hv] at h4
        have := (Array.getElem?_eq_some_iff.1 h4).1
        omega
  obtain ⟨c', k1, k2, k3⟩ := setCells_row vs o c w hh hsz
  refine ⟨c', by rw [hT]; exact k1, by rw [k2]; exact hc.big, fun j hj => ?_, fun j hj => ?_⟩
  · rw [k3 j, ← h1 j hj, hc.at_ j hj]
  · rw [k3 j, ← h2 j hj, hc.tail j hj]

/-- A runner, and what it has shown. -/
structure RunS (w : World) (M : Nat) (rv cv : Value) (x : Ms) (q : Tl) (se : List Se) : Prop where
  run : Run w M rv cv { x with T := 62, tl := tlF q } se

section
variable {w w' : World} {M : Nat} {rv cv : Value} {x x' : Ms} {q q' : Tl} {se : List Se}
theorem RunS.lt (h : RunS w M rv cv x q se) : M < w.heap.size := h.run.lt
theorem RunS.more (h : RunS w M rv cv x q se) (m : More w w') : RunS w' M rv cv x q se := ⟨h.run.more m⟩
theorem RunS.left (h : RunS w M rv cv x q se) {p : Nat × Obj} (hp : p ∈ x.mo) : w.heap[p.1]? = some p.2 := h.run.left hp
theorem RunS.beside (h : RunS w M rv cv x q se) (o : Obj) : RunS (w.alloc o) M rv cv { x with mo := (w.heap.size, o) :: x.mo } q se := ⟨h.run.beside o⟩
theorem RunS.fewer (h : RunS w M rv cv x q se) (l : List (Nat × Obj)) (hl : ∀ p ∈ l, p ∈ x.mo) : RunS w M rv cv { x with mo := l } q se := ⟨h.run.fewer l hl⟩
theorem RunS.drew (h : RunS w M rv cv x q se) : RunS w.drew M rv cv x q se := ⟨h.run.drew⟩
theorem RunS.kept (h : RunS w M rv cv x q se) {row : Option Nat} (hg : w.grownBy w' row) (hr : ∀ b, row = some b → b < M) : RunS w' M rv cv x q se := ⟨h.run.kept hg hr⟩
theorem RunS.tlw (h : RunS w M rv cv x q se) (j : Nat) (h1 : 411 ≤ j) (h2 : j < 1578) : Wr w M j (tlV q j) := h.run.tlw j h1 _ (tlF_at q j h2)
theorem RunS.sc (h : RunS w M rv cv x q se) : Wr w M 411 q.sc := h.tlw 411 (by omega) (by omega)
theorem RunS.map (h : RunS w M rv cv x q se) : Wr w M 412 (.map (some q.mb)) := h.tlw 412 (by omega) (by omega)
theorem RunS.puts (h : RunS w M rv cv x q se) (j : Nat) (hj : j < 384) : Wr w M (413 + j) (.int .i64 (q.puts j)) := by have := h.tlw (413 + j) (by omega) (by omega); rw [tlV_puts q j hj] at this; exact this
theorem RunS.ahead (h : RunS w M rv cv x q se) : Wr w M 797 (.bool q.ahead) := h.tlw 797 (by omega) (by omega)
theorem RunS.til (h : RunS w M rv cv x q se) : Wr w M 1577 (.int .i64 q.til) := h.tlw 1577 (by omega) (by omega)

theorem RunS.setTl (h : RunS w M rv cv x q se) (j : Nat) (v : Value) (hj : 411 ≤ j) (hj2 : j < 1578) (hq : ∀ i, i < 1578 → 411 ≤ i → tlV q' i = if i = j then v else tlV q i) : RunS (w.setCell ⟨M, j, none⟩ v) M rv cv x q' se := by
  refine ⟨h.run.setTl j v (tlV q j) (tlF q') hj (tlF_at q j hj2) (fun i hi => ?_)⟩
  show tlF q' i = if i = j then some v else tlF q i
  unfold tlF
  by_cases e : i < 1578
  · rw [if_pos e, if_pos e, hq i e hi]
    split <;> rfl
  · rw [if_neg e, if_neg e, if_neg (by omega)]
theorem RunS.setSc (h : RunS w M rv cv x q se) (v : Value) : RunS (w.setCell ⟨M, 411, none⟩ v) M rv cv x { q with sc := v } se :=
  h.setTl 411 v (by omega) (by omega) fun i hi h1 => by unfold tlV; by_cases e : i = 411 <;> simp [e]
theorem RunS.setAhead (h : RunS w M rv cv x q se) (b : Bool) : RunS (w.setCell ⟨M, 797, none⟩ (.bool b)) M rv cv x { q with ahead := b } se :=
  h.setTl 797 _ (by omega) (by omega) fun i hi h1 => by unfold tlV; by_cases e : i = 797 <;> simp [e]
theorem RunS.setTil (h : RunS w M rv cv x q se) (n : Int) : RunS (w.setCell ⟨M, 1577, none⟩ (.int .i64 n)) M rv cv x { q with til := n } se :=
  h.setTl 1577 _ (by omega) (by omega) fun i hi h1 => by
    unfold tlV
    by_cases e : i = 1577
    · simp [e]
    · simp [e, show i < 1577 by omega]
theorem RunS.setPut (h : RunS w M rv cv x q se) (k : Nat) (hk : k < 384) (n : Int) : RunS (w.setCell ⟨M, 413 + k, none⟩ (.int .i64 n)) M rv cv x { q with puts := setN q.puts k n } se :=
  h.setTl (413 + k) _ (by omega) (by omega) fun i hi h1 => by
    by_cases e : i = 413 + k
    · subst e; rw [if_pos rfl, tlV_puts _ k hk]; simp [setN]
    · rw [if_neg e]
      unfold tlV setN
      by_cases e1 : i < 413
      · have : i = 411 ∨ i = 412 := by omega
        rcases this with rfl | rfl <;> simp
      · have e2 : ¬ i - 413 = k := by omega
        simp [e2]

theorem RunS.splice (h : RunS w M rv cv x q se) (o : Nat) (vs : List Value) (h0 : 0 < vs.length) (hsz : o + vs.length ≤ 1578)
    (h1 : ∀ sv j, j < 411 → (if o ≤ j ∧ j < o + vs.length then vs[j - o]? else some (cellF rv cv { x with sv := sv } j)) = some (cellF rv cv { x' with sv := sv } j))
    (h2 : ∀ j, 411 ≤ j → j < 1578 → (if o ≤ j ∧ j < o + vs.length then vs[j - o]? else some (tlV q j)) = some (tlV q' j)) (hmo : x'.mo = x.mo) : RunS (w.setCells M o vs) M rv cv x' q' se := by
  obtain ⟨sv, hm, ho, hk⟩ := h.run.out
  refine ⟨⟨sv, hm.splice o vs rfl ?_ h0 (fun j hj => h1 sv j hj) (fun j hj => ?_), ho.kept (grown_setCellsS M vs o w) (fun b hb => by have := Option.some.inj hb; omega), fun p e => ?_⟩⟩
  · right
    exact ⟨_, tlF_at q _ (by omega)⟩
  · show (if o ≤ j ∧ j < o + vs.length then vs[j - o]? else tlF q j) = tlF q' j
    by_cases e : j < 1578
    · rw [tlF_at q j e, tlF_at q' j e]; exact h2 j hj e
    · unfold tlF
      rw [if_neg (by omega), if_neg e, if_neg e]
  · have e2 : p ∈ x.mo := by rw [← hmo]; exact e
    have hp := hk p e2
    exact ⟨hp.1, hp.2.1, by rw [(grown_setCellsS M vs o w).block p.1 (heap_some_lt hp.2.2) (fun e' => by have := Option.some.inj e'; have := hp.1; omega)]; exact hp.2.2⟩

theorem RunS.setState (h : RunS w M rv cv x q se) (r wd : Nat → Int) (n : Int) : RunS (w.setCells M 7 (stL r wd n)) M rv cv { x with r := r, wd := wd, next := n } q se := by
  refine h.splice 7 _ (by rw [stL_length]; omega) (by rw [stL_length]; omega) (fun sv j hj => ?_) (fun j hj h1 => ?_) rfl
  · rw [stL_length]
    by_cases e : 7 ≤ j ∧ j < 7 + 395
    · rw [if_pos e, stL_at _ _ _ _ (by omega)]
      by_cases e1 : j < 17
      · obtain ⟨k, rfl⟩ : ∃ k, j = 7 + k := ⟨j - 7, by omega⟩
        rw [if_pos (by omega), cellF_r _ _ _ k (by omega), show 7 + k - 7 = k by omega]
      by_cases e2 : j < 401
      · obtain ⟨k, rfl⟩ : ∃ k, j = 17 + k := ⟨j - 17, by omega⟩
        rw [if_neg (by omega), if_pos (by omega), cellF_wd _ _ _ k (by omega), show 17 + k - 7 - 10 = k by omega]
      obtain rfl : j = 401 := by omega
      rfl
    · rw [if_neg e]
      unfold cellF
      by_cases e1 : j < 7
      · have : j = 0 ∨ j = 1 ∨ j = 2 ∨ j = 3 ∨ j = 4 ∨ j = 5 ∨ j = 6 := by omega
        rcases this with rfl | rfl | rfl | rfl | rfl | rfl | rfl <;> simp
      · simp [show ¬ j = 0 by omega, show ¬ j = 1 by omega, show ¬ j = 2 by omega, show ¬ j = 3 by omega, show ¬ j = 4 by omega, show ¬ j = 5 by omega, show ¬ j = 6 by omega, show ¬ j < 17 by omega, show ¬ j < 401 by omega, show ¬ j = 401 by omega]
  · rw [stL_length, if_neg (by omega)]

theorem RunS.setPuts (h : RunS w M rv cv x q se) (f : Nat → Int) : RunS (w.setCells M 413 (puL f)) M rv cv x { q with puts := f } se := by
  refine h.splice 413 _ (by rw [puL_length]; omega) (by rw [puL_length]; omega) (fun sv j hj => ?_) (fun j hj h1 => ?_) rfl
  · rw [if_neg (by omega)]
  · rw [puL_length]
    by_cases e : 413 ≤ j ∧ j < 413 + 384
    · obtain ⟨k, rfl⟩ : ∃ k, j = 413 + k := ⟨j - 413, by omega⟩
      rw [if_pos e, puL_at _ _ (by omega), tlV_puts _ k (by omega), show 413 + k - 413 = k by omega]
    · rw [if_neg e]
      unfold tlV
      by_cases e1 : j < 413
      · have : j = 411 ∨ j = 412 := by omega
        rcases this with rfl | rfl <;> simp
      · simp [show ¬ j = 411 by omega, show ¬ j = 412 by omega, show ¬ j < 797 by omega]

theorem RunS.setBack (h : RunS w M rv cv x q se) (r wd : Nat → Int) (n : Int) (f : Nat → Int) : RunS (w.setCells M 798 (stL r wd n ++ puL f)) M rv cv x { q with br := r, bw := wd, bn := n, bp := f } se := by
  have hl : (stL r wd n ++ puL f).length = 779 := by rw [List.length_append, stL_length, puL_length]
  refine h.splice 798 _ (by rw [hl]; omega) (by rw [hl]; omega) (fun sv j hj => ?_) (fun j hj h1 => ?_) rfl
  · rw [if_neg (by omega)]
  · rw [hl]
    by_cases e : 798 ≤ j ∧ j < 798 + 779
    · rw [if_pos e, List.getElem?_append, stL_length]
      by_cases e1 : j < 808
      · obtain ⟨k, rfl⟩ : ∃ k, j = 798 + k := ⟨j - 798, by omega⟩
        rw [if_pos (by omega), stL_at _ _ _ _ (by omega), if_pos (by omega), tlV_br _ k (by omega), show 798 + k - 798 = k by omega]
      by_cases e2 : j < 1192
      · obtain ⟨k, rfl⟩ : ∃ k, j = 808 + k := ⟨j - 808, by omega⟩
        rw [if_pos (by omega), stL_at _ _ _ _ (by omega), if_neg (by omega), if_pos (by omega), tlV_bw _ k (by omega), show 808 + k - 798 - 10 = k by omega]
      by_cases e3 : j = 1192
      · subst e3
        rw [if_pos (by omega), stL_at _ _ _ _ (by omega)]
        rfl
      · obtain ⟨k, rfl⟩ : ∃ k, j = 1193 + k := ⟨j - 1193, by omega⟩
        rw [if_neg (by omega), puL_at _ _ (by omega), tlV_bp _ k (by omega), show 1193 + k - 798 - 395 = k by omega]
    · rw [if_neg e]
      unfold tlV
      by_cases e1 : j < 798
      · have : j = 411 ∨ j = 412 ∨ (¬ j = 411 ∧ ¬ j = 412 ∧ j < 797) ∨ j = 797 := by omega
        rcases this with rfl | rfl | h3 | rfl
        · simp
        · simp
        · simp [h3]
        · simp
      · simp [show ¬ j = 411 by omega, show ¬ j = 412 by omega, show ¬ j < 797 by omega, show ¬ j = 797 by omega, show ¬ j < 808 by omega, show ¬ j < 1192 by omega, show ¬ j = 1192 by omega, show ¬ j < 1577 by omega]

theorem RunS.stateC (h : RunS w M rv cv x q se) : ∀ j v, (stL x.r x.wd x.next)[j]? = some v → w.cell? ⟨M, 7 + j, none⟩ = some v := by
  intro j v hv
  have hj : j < 395 := by have := (List.getElem?_eq_some_iff.1 hv).1; rw [stL_length] at this; exact this
  rw [stL_at _ _ _ _ hj] at hv
  rw [← hv]
  by_cases e1 : j < 10
  · rw [if_pos e1]; exact (h.run.r j e1).1
  rw [if_neg e1]
  by_cases e2 : j < 394
  · rw [if_pos e2]
    have := (h.run.wd (j - 10) (by omega)).1
    rw [show 17 + (j - 10) = 7 + j by omega] at this
    exact this
  rw [if_neg e2]
  obtain rfl : j = 394 := by omega
  exact h.run.next.1
theorem RunS.putsC (h : RunS w M rv cv x q se) : ∀ j v, (puL q.puts)[j]? = some v → w.cell? ⟨M, 413 + j, none⟩ = some v := by
  intro j v hv
  have hj : j < 384 := by have := (List.getElem?_eq_some_iff.1 hv).1; rw [puL_length] at this; exact this
  rw [puL_at _ _ hj] at hv
  rw [← hv]
  exact (h.puts j hj).1
theorem RunS.backS (h : RunS w M rv cv x q se) : ∀ j v, (stL q.br q.bw q.bn)[j]? = some v → w.cell? ⟨M, 798 + j, none⟩ = some v := by
  intro j v hv
  have hj : j < 395 := by have := (List.getElem?_eq_some_iff.1 hv).1; rw [stL_length] at this; exact this
  rw [stL_at _ _ _ _ hj] at hv
  rw [← hv]
  have := (h.tlw (798 + j) (by omega) (by omega)).1
  rw [this]
  by_cases e1 : j < 10
  · rw [if_pos e1, tlV_br q j e1]
  rw [if_neg e1]
  by_cases e2 : j < 394
  · rw [if_pos e2, show 798 + j = 808 + (j - 10) by omega, tlV_bw q _ (by omega)]
  rw [if_neg e2]
  obtain rfl : j = 394 := by omega
  rfl
theorem RunS.backP (h : RunS w M rv cv x q se) : ∀ j v, (puL q.bp)[j]? = some v → w.cell? ⟨M, 1193 + j, none⟩ = some v := by
  intro j v hv
  have hj : j < 384 := by have := (List.getElem?_eq_some_iff.1 hv).1; rw [puL_length] at this; exact this
  rw [puL_at _ _ hj] at hv
  rw [← hv]
  have := (h.tlw (1193 + j) (by omega) (by omega)).1
  rw [this, tlV_bp q j hj]
/-- Every cell of the row is there, and may be written. -/
theorem RunS.any (h : RunS w M rv cv x q se) (j : Nat) (hj : j < 1578) : ∃ v, Wr w M j v := by
  by_cases e : j < 411
  · obtain ⟨sv, hm, _⟩ := h.run.out
    exact ⟨_, hm.wr j e⟩
  · exact ⟨_, h.tlw j (by omega) hj⟩
end
end
end Go.Proofs.Ytapagihngaiebaa
