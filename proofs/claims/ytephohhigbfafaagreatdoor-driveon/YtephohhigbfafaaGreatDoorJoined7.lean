/-
  The texts Begin, Part, SMap, Fits, NewAux, SMach, SMeth, SBuilt, SBack, Reach, Num, NumAll, Operate, Do, one behind the other, with what is used of them.
-/
import Derived.Test.YtephohhigbfafaaGreatDoorJoined6
import Derived.Test.YtephohhigbfafaaGreatDoorJoined1
import Derived.WalkKit
import Derived.Laws.IdiomCopy
import Derived.Test.YtephohhigbfafaaGreatDoorRows
import Derived.DeepKeys4
import Derived.Maps.Own
import Derived.Test.YtephohhigbfafaaGreatDoorJoined0
import Derived.Deep.LoopGhost
import Derived.Test.YtephohhigbfafaaGreatDoorJoined4
import Derived.Test.YtephohhigbfafaaGreatDoorJoined5
import Derived.Test.YtephohhigbfafaaGreatDoorProg
import Derived.WalkSpells
import Derived.WalkLawsBesides
namespace Go.Proofs.YtephohhigbfafaaGreatDoor
section
open Go.RowKit
set_option linter.unusedSimpArgs false
set_option linter.unusedVariables false
set_option maxRecDepth 8000
set_option maxHeartbeats 400000 in
theorem Jbx (op a b c n : Int) (w : World) (M : Nat) (rv : Value) (cb co cl cc at_ : Nat) (x : Ms) (se : List Se) (hl : se.length ≤ 200000) (hnext : x.next = (at_ : Int)) (hat : at_ < cl) (hcl : cl ≤ 8000) (k0 : 0 ≤ x.steps) (k1 : x.steps ≤ 40000) (hcb : cb < M)
  (q0 : w.cell? ⟨cb, co + at_ * 5, none⟩ = some (V op)) (q1 : w.cell? ⟨cb, co + at_ * 5 + 1, none⟩ = some (V a)) (q2 : w.cell? ⟨cb, co + at_ * 5 + 2, none⟩ = some (V b)) (q3 : w.cell? ⟨cb, co + at_ * 5 + 3, none⟩ = some (V c)) (q4 : w.cell? ⟨cb, co + at_ * 5 + 4, none⟩ = some (V n))
  (h : Run w M rv (.slice (some ⟨cb, co, none⟩) cl cc) x se) :
  Calls Tryz.prog 27 #[.pointer (some ⟨M, 0, none⟩)] w fun e w' => e = .returned (.agg #[V op, V a, V b, V c, V n]) ∧ Run w' M rv (.slice (some ⟨cb, co, none⟩) cl cc) { x with steps := x.steps + 1, next := (at_ : Int) + 1 } (se ++ [⟨1, at_, 0⟩]) ∧ Below M w w' := by
 have hM := h.lt
 have hn : ¬ M = w.heap.size := by omega
 have hn' : ¬ w.heap.size = M := by omega
 have hx0 : wrap64 (x.steps + 1) = x.steps + 1 := by unfold wrap64; omega
 have hx1 : wrap64 ((at_ : Int) + 1) = (at_ : Int) + 1 := by unfold wrap64; omega
 obtain ⟨c4, f4⟩ := h.steps
 obtain ⟨c401, f401⟩ := h.next
 rw [hnext] at c401
 obtain ⟨k, hk⟩ : ∃ k, x.steps = k := ⟨_, rfl⟩
 rw [hk] at c4 hx0 ⊢
 have H : Hid (Run w M rv (.slice (some ⟨cb, co, none⟩) cl cc) x se ∧ se.length ≤ 200000 ∧ cb < M) := ⟨h, hl, hcb⟩
 have q0' : Hid (w.cell? ⟨cb, co + at_ * 5, none⟩ = some (V op)) := q0
 have q1' : Hid (w.cell? ⟨cb, co + at_ * 5 + 1, none⟩ = some (V a)) := q1
 have q2' : Hid (w.cell? ⟨cb, co + at_ * 5 + 2, none⟩ = some (V b)) := q2
 have q3' : Hid (w.cell? ⟨cb, co + at_ * 5 + 3, none⟩ = some (V c)) := q3
 have q4' : Hid (w.cell? ⟨cb, co + at_ * 5 + 4, none⟩ = some (V n)) := q4
 have hat' : (at_ : Int) < (cl : Int) := by omega
 have hat0 : (0 : Int) ≤ (at_ : Int) := by omega
 have Hnx : Hid (x.next = (at_ : Int)) := hnext
 clear h hl hk hnext q0 q1 q2 q3 q4 k0 k1
 go_enter Tryz.func27, Tryz.ntmps27
 go_wp2_with (fail)
 refine (J3v _ M rv (.slice (some ⟨cb, co, none⟩) cl cc) { x with steps := k + 1 } se 1 at_ 0 H.out.2.1 ((H.out.1.setSteps (k + 1)).alloc _)).mono ?_
 rintro e w2 ⟨rfl, r2, b2, kp⟩
 have kb := kp w.heap.size (by simp) (by omega) (((H.out.1.setSteps (k + 1)).notOwn w.heap.size (by simp)).of (World.cell?_of_block ((World.grownBy_alloc _ _ none).block M (by simpa using hM) (by simp))))
 have hb2 : Below M w w2 := Below.trans (J05 (J0d (Below.refl _ _) _ _) (by simp; omega) _) b2
 have Hr : Hid (Run w2 M rv (.slice (some ⟨cb, co, none⟩) cl cc) { x with steps := k + 1 } (se ++ [⟨1, at_, 0⟩]) ∧ Below M w w2) := ⟨r2, hb2⟩
 have q0 : w2.cell? ⟨cb, co + at_ * 5, none⟩ = some (V op) := by rw [Below.cell hb2 H.out.2.2]; exact q0'.out
 have q1 : w2.cell? ⟨cb, co + at_ * 5 + 1, none⟩ = some (V a) := by rw [Below.cell hb2 H.out.2.2]; exact q1'.out
 have q2 : w2.cell? ⟨cb, co + at_ * 5 + 2, none⟩ = some (V b) := by rw [Below.cell hb2 H.out.2.2]; exact q2'.out
 have q3 : w2.cell? ⟨cb, co + at_ * 5 + 3, none⟩ = some (V c) := by rw [Below.cell hb2 H.out.2.2]; exact q3'.out
 have q4 : w2.cell? ⟨cb, co + at_ * 5 + 4, none⟩ = some (V n) := by rw [Below.cell hb2 H.out.2.2]; exact q4'.out
 have z : ∀ j, j < 5 → w2.cell? ⟨w.heap.size, j, none⟩ = some (V 0) ∧ w2.frozen? ⟨w.heap.size, j, none⟩ = false := by
  intro j hj
  rw [World.cell?_of_block kb.1, World.frozen?_of_block kb.1]
  have : j = 0 ∨ j = 1 ∨ j = 2 ∨ j = 3 ∨ j = 4 := by omega
  rcases this with rfl | rfl | rfl | rfl | rfl <;> exact ⟨by go_simp, by go_simp⟩
 obtain ⟨z0, g0⟩ := z 0 (by omega)
 obtain ⟨z1, g1⟩ := z 1 (by omega)
 obtain ⟨z2, g2⟩ := z 2 (by omega)
 obtain ⟨z3, g3⟩ := z 3 (by omega)
 obtain ⟨z4, g4⟩ := z 4 (by omega)
 obtain ⟨n401, m401⟩ := r2.next
 have n1 := r2.p1.1
 replace n401 : w2.cell? ⟨M, 401, none⟩ = some (V at_) := by rw [n401]; exact congrArg (fun v => some (Value.int .i64 v)) Hnx.out
 have d1 : ¬ cb = M := by omega
 have d2 : ¬ M = cb := by omega
 have d3 : ¬ cb = w.heap.size := by omega
 have d4 : ¬ w.heap.size = cb := by omega
 have Hfin : Hid (∀ u0 u1 u2 u3 u4 : Value, Run ((((((w2.setCell ⟨M, 401, none⟩ (V ((at_ : Int) + 1))).setCell ⟨w.heap.size, 0, none⟩ u0).setCell ⟨w.heap.size, 1, none⟩ u1).setCell ⟨w.heap.size, 2, none⟩ u2).setCell ⟨w.heap.size, 3, none⟩ u3).setCell ⟨w.heap.size, 4, none⟩ u4) M rv (.slice (some ⟨cb, co, none⟩) cl cc) { x with steps := k + 1, next := (at_ : Int) + 1 } (se ++ [⟨1, at_, 0⟩]) ∧ Below M w ((((((w2.setCell ⟨M, 401, none⟩ (V ((at_ : Int) + 1))).setCell ⟨w.heap.size, 0, none⟩ u0).setCell ⟨w.heap.size, 1, none⟩ u1).setCell ⟨w.heap.size, 2, none⟩ u2).setCell ⟨w.heap.size, 3, none⟩ u3).setCell ⟨w.heap.size, 4, none⟩ u4)) := by
  intro u0 u1 u2 u3 u4
  have hle : M ≤ w.heap.size := by omega
  refine ⟨(((((RunA.mk (r2.setNext ((at_ : Int) + 1)) (kb.2.of (World.cell?_setCell_other _ _ _ _ (by simp))) hn' H.out.1.moLt).set 0 u0).set 1 u1).set 2 u2).set 3 u3 |>.set 4 u4).run, Below.setCell (Below.setCell (Below.setCell (Below.setCell (Below.setCell (J0d hb2 _ _) hle _) hle _) hle _) hle _) hle _⟩
 clear r2 b2 kp kb z hb2
 go_wp2
 refine bodyPost_ret (v := .agg #[V op, V a, V b, V c, V n]) (by simp [results, Tryz.results27, go_sem, *]) rfl ⟨rfl, ?_⟩
 exact Hfin.out _ _ _ _ _

theorem J62 (w : World) (M : Nat) (rv : Value) (ca : Option Addr) (cl cc : Nat) (x : Ms) (se : List Se) (h : Run w M rv (.slice ca cl cc) x se) (he : x.ended = false) (hf : x.steps < x.fuel) (hn : x.next < (cl : Int)) :
  Calls Tryz.prog 25 #[.pointer (some ⟨M, 0, none⟩)] w fun e w' => e = .returned (.bool true) ∧ Run w' M rv (.slice ca cl cc) x se ∧ Below M w w' := by
 have H : Hid (Run w M rv (.slice ca cl cc) x se) := h
 have e1 := h.ended.1
 rw [he] at e1
 have Hf : Hid (∀ w1, More w w1 → Calls Tryz.prog 57 #[.pointer (some ⟨M, 0, none⟩)] w1 fun e w' => e = .returned (.bool true) ∧ More w1 w') := fun w1 m => by
  have := J3u w1 M _ _ (h.more m).steps.1 (h.more m).fuel.1
  rw [decide_eq_true hf] at this
  exact this
 have Hn : Hid (∀ w1, More w w1 → Calls Tryz.prog 59 #[.pointer (some ⟨M, 0, none⟩)] w1 fun e w' => e = .returned (.bool true) ∧ More w1 w') := fun w1 m => by
  have := J5m w1 M _ ca cl cc (h.more m).next.1 (h.more m).p1.1
  rw [decide_eq_true hn] at this
  exact this
 clear h he hf hn
 go_enter Tryz.func25, Tryz.ntmps25
 go_wp2_with (fail)
 refine (Hf.out _ (More.refl _)).mono ?_
 rintro e w1 ⟨rfl, m1⟩
 have Hm1 : Hid (More w w1) := m1
 clear m1
 go_wp2_with (fail)
 refine (Hn.out _ Hm1.out).mono ?_
 rintro e w2 ⟨rfl, m2⟩
 have Hm2 : Hid (More w w2) := Hm1.out.trans m2
 have e2 := m2.cell (Hm1.out.cell e1)
 clear m2
 go_wp2
 go_ret
 exact ⟨rfl, H.out.more Hm2.out, Below.mono Hm2.out (Nat.le_of_lt H.out.lt)⟩

theorem J4l (w : World) (M : Nat) (rv cv : Value) (x : Ms) (se : List Se) (h : Run w M rv cv x se) (he : x.ended = true) :
  Calls Tryz.prog 25 #[.pointer (some ⟨M, 0, none⟩)] w fun e w' => e = .returned (.bool false) ∧ Run w' M rv cv x se ∧ Below M w w' := by
 have H : Hid (Run w M rv cv x se) := h
 have e1 := h.ended.1
 rw [he] at e1
 clear h he
 go_enter Tryz.func25, Tryz.ntmps25
 go_wp2
 go_ret
 exact ⟨rfl, H.out, Below.refl _ _⟩

theorem J4j (w : World) (M : Nat) (rv cv : Value) (x : Ms) (se : List Se) (h : Run w M rv cv x se) (he : x.ended = false) (hf : ¬ x.steps < x.fuel) :
  Calls Tryz.prog 25 #[.pointer (some ⟨M, 0, none⟩)] w fun e w' => e = .returned (.bool false) ∧ Run w' M rv cv { x with fin := 0, ended := true } se ∧ Below M w w' := by
 have H : Hid (Run w M rv cv x se) := h
 have e1 := h.ended.1
 rw [he] at e1
 have Hf : Hid (∀ w1, More w w1 → Calls Tryz.prog 57 #[.pointer (some ⟨M, 0, none⟩)] w1 fun e w' => e = .returned (.bool false) ∧ More w1 w') := fun w1 m => by
  have := J3u w1 M _ _ (h.more m).steps.1 (h.more m).fuel.1
  rw [decide_eq_false hf] at this
  exact this
 clear h he hf
 go_enter Tryz.func25, Tryz.ntmps25
 go_wp2_with (fail)
 refine (Hf.out _ (More.refl _)).mono ?_
 rintro e w1 ⟨rfl, m1⟩
 have Hm1 : Hid (More w w1) := m1
 clear m1
 go_wp2_with (fail)
 refine (J3k _ M rv cv x se 0 (H.out.more Hm1.out)).mono ?_
 rintro e w2 ⟨rfl, r2, b2⟩
 have H2 : Hid (Run w2 M rv cv { x with fin := 0, ended := true } se ∧ Below M w w2) := ⟨r2, Below.trans (Below.mono Hm1.out (Nat.le_of_lt H.out.lt)) b2⟩
 have e2 := r2.ended.1
 dsimp only at e2
 clear r2 b2
 go_wp2
 go_ret
 exact ⟨rfl, H2.out.1, H2.out.2⟩

theorem J4k (w : World) (M : Nat) (rv : Value) (ca : Option Addr) (cl cc : Nat) (x : Ms) (se : List Se) (h : Run w M rv (.slice ca cl cc) x se) (he : x.ended = false) (hf : x.steps < x.fuel) (hn : ¬ x.next < (cl : Int)) :
  Calls Tryz.prog 25 #[.pointer (some ⟨M, 0, none⟩)] w fun e w' => e = .returned (.bool false) ∧ Run w' M rv (.slice ca cl cc) { x with fin := 2, ended := true } se ∧ Below M w w' := by
 have H : Hid (Run w M rv (.slice ca cl cc) x se) := h
 have e1 := h.ended.1
 rw [he] at e1
 have Hf : Hid (∀ w1, More w w1 → Calls Tryz.prog 57 #[.pointer (some ⟨M, 0, none⟩)] w1 fun e w' => e = .returned (.bool true) ∧ More w1 w') := fun w1 m => by
  have := J3u w1 M _ _ (h.more m).steps.1 (h.more m).fuel.1
  rw [decide_eq_true hf] at this
  exact this
 have Hn : Hid (∀ w1, More w w1 → Calls Tryz.prog 59 #[.pointer (some ⟨M, 0, none⟩)] w1 fun e w' => e = .returned (.bool false) ∧ More w1 w') := fun w1 m => by
  have := J5m w1 M _ ca cl cc (h.more m).next.1 (h.more m).p1.1
  rw [decide_eq_false hn] at this
  exact this
 clear h he hf hn
 go_enter Tryz.func25, Tryz.ntmps25
 go_wp2_with (fail)
 refine (Hf.out _ (More.refl _)).mono ?_
 rintro e w1 ⟨rfl, m1⟩
 have Hm1 : Hid (More w w1) := m1
 clear m1
 go_wp2_with (fail)
 refine (Hn.out _ Hm1.out).mono ?_
 rintro e w2 ⟨rfl, m2⟩
 have Hm2 : Hid (More w w2) := Hm1.out.trans m2
 clear m2
 go_wp2_with (fail)
 refine (J3k _ M rv (.slice ca cl cc) x se 2 (H.out.more Hm2.out)).mono ?_
 rintro e w3 ⟨rfl, r3, b3⟩
 have H2 : Hid (Run w3 M rv (.slice ca cl cc) { x with fin := 2, ended := true } se ∧ Below M w w3) := ⟨r3, Below.trans (Below.mono Hm2.out (Nat.le_of_lt H.out.lt)) b3⟩
 have e2 := r3.ended.1
 dsimp only at e2
 clear r3 b3
 go_wp2
 go_ret
 exact ⟨rfl, H2.out.1, H2.out.2⟩
end
section
open Go.RowKit
set_option linter.unusedSimpArgs false
set_option linter.unusedVariables false
theorem J8t {P : Program} (w : World) (g o : Nat) (ty : TypeId) (cs : List Value) (d : TypeDesc) (hc : ∀ j v, cs[j]? = some v → w.cell? ⟨g, o + j, none⟩ = some v)
  (hu : P.underlying ty = some d) (hd : (match d with | .struct _ | .array _ _ => true | _ => false) = true) (hi : (P.info? ty).map (·.size) = some cs.length) :
  (loadVar ty ⟨g, o, none⟩).run P w = .ok (.agg cs.toArray) w := by
 have hl : (loadCells ⟨g, o, none⟩ cs.length).run P w = .ok cs.toArray w :=
  run_loadCells_list (P := P) w ⟨g, o, none⟩ cs (fun j v hv => by rw [Go.WideShapes.add_plain]; exact hc j v hv)
 cases hq : P.info? ty with
 | none => simp [hq] at hi
 | some i =>
  have hs : i.size = cs.length := by simpa [hq] using hi
  have hagg : (isAgg ty).run P w = .ok true w := by
   unfold isAgg
   rw [Sem.run_bind, run_underlying hu w]
   cases d <;> simp_all
  simp [loadVar, Sem.run_bind, hagg, sizeOf, typeInfo, hq, hs, hl]

theorem J83 {P : Program} (w : World) (g o : Nat) (ty : TypeId) (cs : Array Value) (hi : (P.info? ty).map (·.size) = some cs.size) (hc : ∀ j, j < cs.size → ∃ v, Wr w g (o + j) v) (h1 : ∀ v ∈ cs.toList, v.oneCell' = true) :
  (storeVar ty ⟨g, o, none⟩ (.agg cs)).run P w = .ok () (w.setCells g o cs.toList) := by
 have hst := run_storeCells_cells (P := P) g o cs.toList 0 w (fun j hj => by obtain ⟨v, hv⟩ := hc j (by simpa using hj); simp [hv.1]) (fun j hj => by obtain ⟨v, hv⟩ := hc j (by simpa using hj); simp [hv.2]) h1
 cases hq : P.info? ty with
 | none => simp [hq] at hi
 | some i =>
  have hs : cs.size = i.size := by simp [hq] at hi; omega
  simp [storeVar, sizeOf, typeInfo, hq, Value.cells, hs]
  simpa using hst

theorem J3d {P : Program} {o : Oper} {a : Act} {w : World} {K : Act → World → Prop} {Q : Exit → Act → World → Prop} (ty : TypeId) (x y : Operand) (ho : o.op = .store ty x y)
  (g k : Nat) (cs : Array Value) (hx : a.eval x = .pointer (some ⟨g, k, none⟩)) (hy : a.eval y = .agg cs) (hi : (P.info? ty).map (·.size) = some cs.size) (hc : ∀ j, j < cs.size → ∃ v, Wr w g (k + j) v) (h1 : ∀ v ∈ cs.toList, v.oneCell' = true)
  (h : K (a.put o.dst undef) (w.setCells g k cs.toList)) : o.wp P a w K Q := by
 unfold Oper.wp execOp
 simp only [ho, hx, hy, Instr.storeAt, Instr.sureAddr, Sem.run_bind, Sem.run_pure, Result.andThen_ok, J83 w g k ty cs hi hc h1]
 exact h

theorem J26 {P : Program} {o : Oper} {a : Act} {w : World} (ty : TypeId) (x : Operand) (ho : o.op = .load ty x)
  (g k : Nat) (hx : a.eval x = .pointer (some ⟨g, k, none⟩)) (cs : List Value) (d : TypeDesc) (hc : ∀ j v, cs[j]? = some v → w.cell? ⟨g, k + j, none⟩ = some v)
  (hu : P.underlying ty = some d) (hd : (match d with | .struct _ | .array _ _ => true | _ => false) = true) (hi : (P.info? ty).map (·.size) = some cs.length) :
  (execOp a.eval o).run P w = .ok (.value (.agg cs.toArray)) w := by
 unfold execOp
 simp only [ho, hx, Instr.loadAt, Instr.sureAddr, Sem.run_bind, Sem.run_pure, Result.andThen_ok, J8t w g k ty cs d hc hu hd hi]

theorem Jff {P : Program} {o : Oper} {a : Act} {w : World} (t : TypeId) (parts : Array (Nat × Operand)) (ho : o.op = .build t parts) (C : Array Value)
  (hf : P.built t (parts.map fun (i, x) => (i, a.eval x)).toList = some C) : (execOp a.eval o).run P w = .ok (.value (.agg C)) w := by
 unfold execOp
 simp only [ho, Sem.run_bind, run_build w t _ C hf, Result.andThen_ok, Sem.run_pure]
end
section
open Go.ChangeMaps (setBlock heap_setBlock_same heap_setBlock_other)
open Go.MapKept (Stamped stamped_push stamped_modify stamped_empty)
open Go.RowKit
open Go.WideMaps (KeyLaw)
set_option linter.unusedSimpArgs false
set_option linter.unusedVariables false
set_option maxRecDepth 8000
theorem Jmq : laidOutB Tryz.prog = true := by kernel_rfl
theorem Jod : (171 : TypeId) < Tryz.prog.types.size := of_decide_eq_true (by kernel_rfl)
theorem Jnl : (match Tryz.prog.underlying 171 with | some (.array _ _) | some (.struct _) => true | _ => false) = true := by kernel_rfl
theorem law127 : KeyLaw Tryz.prog 171 := deep_law_laid Jmq (m := 3) (by omega) Jod (by kernel_rfl) Jnl
theorem Jj7 : Tryz.prog.cellsOf 171 = 2 := by kernel_rfl
theorem Jmi : Tryz.prog.cellsOf 2 = 1 := by kernel_rfl
theorem Jmj : Tryz.prog.cellsOf 3 = 1 := by kernel_rfl
theorem Jfs : Tryz.prog.keyType 171 = true := by kernel_rfl

def pk (n t : Int) : Value := .agg #[V n, V t]
theorem Jm4 {n t n' t' : Int} (h : pk n t = pk n' t') : n = n' ∧ t = t' := by
 unfold pk at h
 simp at h
 exact h

theorem Jlq {n : Int} (h : B64 n) : (Lit.int .i64 n).wf = true := by
 unfold B64 at h
 simp [Lit.wf, IntKind.min, IntKind.max, IntKind.signed, IntKind.bits]
 omega

theorem Jhs {P : Program} {k : TypeId} {f1 f2 : Field} {m : Nat} (hu : P.underlying k = some (.struct #[f1, f2])) (hkt : P.keyType k = true) (hc : P.cellsOf k = 2) (hn : (#[f1, f2].all (·.name != "_")) = true) (o1 : f1.offset = 0) (o2 : f2.offset = 1)
  (u1 : P.underlying f1.type = some (.int .i64)) (u2 : P.underlying f2.type = some (.int .i64)) (c1 : P.cellsOf f1.type = 1) (c2 : P.cellsOf f2.type = 1) (hm : P.types.size + 1 = m + 2) {a b : Int} (h1 : (Lit.int .i64 a).wf = true) (h2 : (Lit.int .i64 b).wf = true) :
  keyOf P k (.agg #[.int .i64 a, .int .i64 b]) = some (.string (keyBytes [Lit.int .i64 a, Lit.int .i64 b])) := by
 unfold keyOf
 simp only [hu]
 rw [if_pos (by simp [hkt, Value.formed, hu, hc]), hm]
 unfold Program.keyLits
 simp only [hu, Value.cells]
 rw [if_pos ⟨by rw [hc]; rfl, hn⟩]
 simp [List.mapM_cons, o1, o2, c1, c2, Program.keyLits, u1, u2, h1, h2]

theorem Jew {n t : Int} (hn : B64 n) (ht : B64 t) : ∃ l, keyOf Tryz.prog 171 (pk n t) = some l :=
 ⟨_, Jhs (m := 246) Tryz.underlying171 Jfs Jj7 (by simp) rfl rfl Tryz.underlying2 Tryz.underlying3 Jmi Jmj (by kernel_rfl) (Jlq hn) (Jlq ht)⟩

structure MapAt (w : World) (b : Nat) (f : Int → Int → Int) : Prop where
 out : ∃ es clock, w.heap[b]? = some (.map es clock) ∧ Stamped es clock ∧ (∀ e ∈ es.toList, ∃ n t, B64 n ∧ B64 t ∧ e.key = pk n t ∧ e.val = V (f n t)) ∧ (∀ n t, (∀ e ∈ es.toList, e.key ≠ pk n t) → f n t = 0)

theorem MapAt.lt {w : World} {b : Nat} {f : Int → Int → Int} (h : MapAt w b f) : b < w.heap.size := by
 obtain ⟨es, clock, hb, _⟩ := h.out
 exact (Array.getElem?_eq_some_iff.1 hb).1
theorem MapAt.block {w w' : World} {b : Nat} {f : Int → Int → Int} (h : MapAt w b f) (hb : w'.heap[b]? = w.heap[b]?) : MapAt w' b f := by
 obtain ⟨es, clock, h1, h2⟩ := h.out
 exact ⟨es, clock, hb.trans h1, h2⟩
theorem MapAt.made (w : World) : MapAt (w.alloc (.map #[] 0)) w.heap.size (fun _ _ => 0) :=
 ⟨#[], 0, (MapKept.heap_alloc w _).1, stamped_empty 0, by simp, fun _ _ _ => rfl⟩

theorem MapAt.look {w : World} {b : Nat} {f : Int → Int → Int} (h : MapAt w b f) {n t : Int} (hn : B64 n) (ht : B64 t) : (Instr.lookup 92 (.map (some b)) (pk n t) false).run Tryz.prog w = .ok (V (f n t)) w := by
 obtain ⟨es, clock, hb, hs, he, hz⟩ := h.out
 obtain ⟨l, hkey⟩ := Jew hn ht
 have hzero : (zeroValue 2).run Tryz.prog w = .ok (V 0) w := by kernel_rfl
 rcases law127.find w hkey es.toList (fun e hm => by obtain ⟨n', t', h1, h2, h3, _⟩ := he e hm; rw [h3]; exact Jew h1 h2) with ⟨h1, h2⟩ | ⟨j, e0, h1, h2, h3⟩
 ·rw [hz n t h2]
  simp [Instr.lookup, run_underlying Tryz.underlying92, MapKept.run_getObj_map hb, law127.check w _ hkey, h1, hzero, Result.andThen]
 ·obtain ⟨n', t', _, _, h5, h6⟩ := he e0 (List.mem_of_getElem? h2)
  obtain ⟨rfl, rfl⟩ := Jm4 (h3.symm.trans h5)
  simp [Instr.lookup, run_underlying Tryz.underlying92, MapKept.run_getObj_map hb, law127.check w _ hkey, h1, h6, Result.andThen]

theorem MapAt.update {w : World} {b : Nat} {f : Int → Int → Int} (h : MapAt w b f) {n t : Int} (hn : B64 n) (ht : B64 t) (v : Int) :
  ∃ w', (Instr.mapUpdate 92 (.map (some b)) (pk n t) (V v)).run Tryz.prog w = .ok () w' ∧ MapAt w' b (fun n' t' => if n' = n ∧ t' = t then v else f n' t') ∧ w.grownBy w' (some b) := by
 obtain ⟨es, clock, hb, hs, he, hz⟩ := h.out
 obtain ⟨l, hkey⟩ := Jew hn ht
 have grown : ∀ o, w.grownBy (setBlock w b o) (some b) := fun o => ⟨rfl, rfl, rfl, by simp [setBlock], fun i _ hi => heap_setBlock_other hb _ (fun e => hi (by rw [e]))⟩
 rcases law127.find w hkey es.toList (fun e hm => by obtain ⟨n', t', h1, h2, h3, _⟩ := he e hm; rw [h3]; exact Jew h1 h2) with ⟨h1, h2⟩ | ⟨j, e0, h1, h2, h3⟩
 ·refine ⟨setBlock w b (.map (es.push ⟨pk n t, V v, clock⟩) (clock + 1)), ?_, ⟨_, _, heap_setBlock_same hb _, stamped_push hs h2, fun e hm => ?_, fun n' t' ha => ?_⟩, grown _⟩
  ·simp [Instr.mapUpdate, run_underlying Tryz.underlying92, MapKept.run_getObj_map hb, law127.check w false hkey, h1, MapKept.run_setObj_map _ hb, Result.andThen, setBlock]
  ·simp only [Array.toList_push, List.mem_append, List.mem_singleton] at hm
   rcases hm with hm | rfl
   ·obtain ⟨n', t', a1, a2, a3, a4⟩ := he e hm
    refine ⟨n', t', a1, a2, a3, ?_⟩
    rw [if_neg (fun hh => h2 e hm (by rw [a3, hh.1, hh.2]))]
    exact a4
   ·exact ⟨n, t, hn, ht, rfl, by rw [if_pos ⟨rfl, rfl⟩]⟩
  ·simp only [Array.toList_push, List.mem_append, List.mem_singleton] at ha
   have h4 : ¬ (n' = n ∧ t' = t) := fun hh => ha ⟨pk n t, V v, clock⟩ (.inr rfl) (by rw [hh.1, hh.2])
   rw [if_neg h4]
   exact hz n' t' (fun e hm => ha e (.inl hm))
 ·have hj : es[j]? = some e0 := by simpa using h2
  have hjl : j < es.toList.length := (List.getElem?_eq_some_iff.1 h2).1
  have hlist : (es.modify j (fun e' => { e' with key := pk n t, val := V v })).toList = es.toList.set j { e0 with key := pk n t, val := V v } := by rw [Array.toList_modify, ChangeMaps.modify_eq_set _ _ _ _ h2]
  refine ⟨setBlock w b (.map (es.modify j (fun e' => { e' with key := pk n t, val := V v })) clock), ?_, ⟨_, _, heap_setBlock_same hb _, stamped_modify hs _ _ (fun _ _ => rfl) (fun e' _ he' => by rw [hj] at he'; cases he'; exact h3.symm), fun e hm => ?_, fun n' t' ha => ?_⟩, grown _⟩
  ·simp [Instr.mapUpdate, run_underlying Tryz.underlying92, MapKept.run_getObj_map hb, law127.check w false hkey, h1, hj, h3, law127.stays w hkey, MapKept.run_setObj_map _ hb, Result.andThen, setBlock]
  ·rw [hlist] at hm
   obtain ⟨i, hi, ex⟩ := List.getElem_of_mem hm
   rw [List.getElem_set] at ex
   split at ex
   ·subst ex
    exact ⟨n, t, hn, ht, rfl, by rw [if_pos ⟨rfl, rfl⟩]⟩
   ·rename_i hne
    have hi' : i < es.toList.length := by simpa using hi
    have hm' : e ∈ es.toList := ex ▸ List.getElem_mem hi'
    obtain ⟨n', t', a1, a2, a3, a4⟩ := he e hm'
    refine ⟨n', t', a1, a2, a3, ?_⟩
    rw [if_neg (fun hh => ?_)]
    ·exact a4
    have hk : e.key = e0.key := by rw [a3, h3, hh.1, hh.2]
    have hnd := hs.2.2
    have e1 : (es.toList.map (·.key))[i]? = (es.toList.map (·.key))[j]? := by
     rw [List.getElem?_map, List.getElem?_map, h2, List.getElem?_eq_getElem hi', ex]
     simp [hk]
    exact hne (((List.getElem?_inj (by simpa using hi') hnd).1 e1).symm)
  ·rw [hlist] at ha
   have h4 : ¬ (n' = n ∧ t' = t) := fun hh => ha { e0 with key := pk n t, val := V v } (List.mem_iff_getElem.2 ⟨j, by simpa using hjl, by simp⟩) (by rw [hh.1, hh.2])
   rw [if_neg h4]
   refine hz n' t' (fun e hm hk => ?_)
   obtain ⟨i, hi, ex⟩ := List.getElem_of_mem hm
   by_cases e1 : j = i
   ·subst e1
    have : e = e0 := by rw [← ex]; exact (List.getElem?_eq_some_iff.1 h2).2
    subst this
    exact h4 (by obtain ⟨a, b⟩ := Jm4 (hk.symm.trans h3); exact ⟨a, b⟩)
   ·exact ha e (List.mem_iff_getElem.2 ⟨i, by simpa using hi, by rw [List.getElem_set, if_neg e1]; exact ex⟩) hk

theorem Jnm {o : Oper} {a : Act} {w : World} {K : Act → World → Prop} {Q : Exit → Act → World → Prop} (m x : Operand) (ho : o.op = .lookup 92 m x false) (b : Nat) (f : Int → Int → Int) (n t : Int)
  (hm : a.eval m = .map (some b)) (hx : a.eval x = pk n t) (hM : MapAt w b f) (hn : B64 n) (ht : B64 t) (h : K (a.put o.dst (V (f n t))) w) : o.wp Tryz.prog a w K Q := by
 unfold Oper.wp execOp
 simp only [ho, hm, hx, hM.look hn ht, Sem.run_bind, Sem.run_pure, Result.andThen_ok]
 exact h
theorem Jix {o : Oper} {a : Act} {w : World} {K : Act → World → Prop} {Q : Exit → Act → World → Prop} (m x y : Operand) (ho : o.op = .mapUpdate 92 m x y) (b : Nat) (f : Int → Int → Int) (n t v : Int)
  (hm : a.eval m = .map (some b)) (hx : a.eval x = pk n t) (hy : a.eval y = V v) (hM : MapAt w b f) (hn : B64 n) (ht : B64 t)
  (h : ∀ w', MapAt w' b (fun n' t' => if n' = n ∧ t' = t then v else f n' t') → w.grownBy w' (some b) → K (a.put o.dst undef) w') : o.wp Tryz.prog a w K Q := by
 obtain ⟨w', h1, h2, h3⟩ := hM.update hn ht v
 unfold Oper.wp execOp
 simp only [ho, hm, hx, hy, h1, Sem.run_bind, Sem.run_pure, Result.andThen_ok]
 exact h w' h2 h3
theorem Je2 {ops : Array Oper} {rest : List Oper} {o : Oper} {a : Act} {w : World} {Q : Exit → Act → World → Prop} (hgd : o.guard = none) (m x : Operand) (ho : o.op = .lookup 92 m x false) (b : Nat) (f : Int → Int → Int) (n t : Int)
  (hm : a.eval m = .map (some b)) (hx : a.eval x = pk n t) (hM : MapAt w b f) (hn : B64 n) (ht : B64 t) (h : wpList Tryz.prog ops Q rest (a.put o.dst (V (f n t))) w) : wpList Tryz.prog ops Q (o :: rest) a w :=
 wpList_plain hgd fun _ hK => Jnm m x ho b f n t hm hx hM hn ht (hK _ _ h)
end
section
open Go.RowKit
set_option maxHeartbeats 1000000 in
theorem J5e (ra : Option Addr) (rl rc : Nat) (ca : Option Addr) (cl cc : Nat) (ma : Option Addr) (ml mc : Nat) (rb ro mb mo : Nat) (log : Nat → Int) (sec : Nat → Bool) (A : Nat → Option Addr) (L C : Nat → Nat) (w : World)
  (hra : 0 < rl → ra = some ⟨rb, ro, none⟩) (hr : RegsAt w rb ro rl log sec) (hma : 0 < ml → ma = some ⟨mb, mo, none⟩) (hm : ListsAt w mb mo ml A L C) :
  Calls Tryz.prog 56 #[.agg #[.slice ra rl rc, .slice ca cl cc], .slice ma ml mc] w (Says (J2g rl log ml L) w) := by
 have Hr : Hid ((0 < rl → ra = some ⟨rb, ro, none⟩) ∧ RegsAt w rb ro rl log sec) := ⟨hra, hr⟩
 have Hl : Hid ((0 < ml → ma = some ⟨mb, mo, none⟩) ∧ ListsAt w mb mo ml A L C) := ⟨hma, hm⟩
 clear hra hr hma hm
 have m0 : More w ((w.alloc (.cells #[.slice ra rl rc, .slice ca cl cc] 28)).alloc (.cells #[.slice ra rl rc, .slice ca cl cc, V 0, V 0] 133)) := ((More.refl _).alloc _ _).alloc _ _
 have Hm0 : Hid (More w ((w.alloc (.cells #[.slice ra rl rc, .slice ca cl cc] 28)).alloc (.cells #[.slice ra rl rc, .slice ca cl cc, V 0, V 0] 133))) := m0
 clear m0
 go_enter Tryz.func56, Tryz.ntmps56
 go_wp2_with (fail)
 refine (J60 ra rl rc ca cl cc 0 0 rb ro log sec _ Hr.out.1 (Hr.out.2.more Hm0.out)).mono ?_
 rintro e w1 ⟨r, rfl, h, m1⟩
 have e0 : w1.cell? ⟨w.heap.size, 0, none⟩ = some (.slice ra rl rc) := m1.cell (by go_simp)
 have e1 : w1.cell? ⟨w.heap.size, 1, none⟩ = some (.slice ca cl cc) := m1.cell (by go_simp)
 have Hm1 : Hid (More w w1) := Hm0.out.trans m1
 clear m1 Hm0
 cases r with
 | false =>
  have HA : Hid (¬ J0o rl log) := fun k => by simpa using h.2 k
  clear h
  go_wp2
  go_ret
  exact Says.no (fun h => HA.out h.1) Hm1.out
 | true =>
  have HA : Hid (J0o rl log) := h.1 rfl
  clear h
  by_cases hne : (ml : Int) = (rl : Int)
  ·obtain rfl : ml = rl := by omega
   clear hne
   have h6 : ml ≤ 6 := HA.out.1
   go_wp2
   go_loopg [22] ml (fun g i wr => ∃ k : Nat, k + g = ml ∧ i = V k ∧ (∀ j, j < k → (L j : Int) = J0g (log j)) ∧ More w1 wr)
   case atStart => exact ⟨0, by omega, rfl, fun j hj => by omega, More.refl _⟩
   case round =>
    obtain ⟨k, hkg, rfl, hin, m⟩ := hrel
    have Hm : Hid (More w1 wr ∧ ∀ j, j < k → (L j : Int) = J0g (log j)) := ⟨m, hin⟩
    clear m hin e0 e1
    cases gk with
    | zero =>
     obtain rfl : k = ml := by omega
     go_wp2
     go_ret
     exact Says.yes ⟨HA.out, rfl, Hm.out.2⟩ (Hm1.out.trans Hm.out.1)
    | succ g =>
     have hk : k < ml := by omega
     have hk' : (k : Int) < (ml : Int) := by omega
     have hk0 : (0 : Int) ≤ (k : Int) := by omega
     obtain rfl := Hr.out.1 (by omega)
     obtain rfl := Hl.out.1 (by omega)
     have Hww : Hid (More w wr) := Hm1.out.trans Hm.out.1
     have q0 := ((Hr.out.2.more Hww.out) k hk).1
     have q1 := ((Hr.out.2.more Hww.out) k hk).2
     have q2 := (Hl.out.2.more Hww.out) k hk
     have Hlog : Hid (0 ≤ log k ∧ log k ≤ 6) := HA.out.2 k hk
     obtain ⟨lk, hlk⟩ : ∃ x, log k = x := ⟨_, rfl⟩
     rw [hlk] at q0 Hlog
     have Hlk : Hid (log k = lk) := hlk
     clear hlk
     obtain ⟨W, HW⟩ : ∃ W : World, Hid (W = wr.alloc (.cells #[V lk, .bool (sec k)] 76)) := ⟨_, rfl⟩
     have HwW : Hid (More wr W) := HW.out ▸ ((More.refl _).alloc _ _)
     obtain ⟨S, HS⟩ : ∃ S : World → Prop, Hid (∀ w', S w' ↔ More W w') := ⟨fun w' => More W w', fun _ => Iff.rfl⟩
     have k2 : ∀ i : { w' // S w' }, i.val.cell? ⟨mb, mo + k, none⟩ = some (.slice (A k) (L k) (C k)) := fun i => ((HS.out _).1 i.property).cell (HwW.out.cell q2)
     have d0 : ∀ i : { w' // S w' }, i.val.cell? ⟨wr.heap.size, 0, none⟩ = some (V lk) := fun i => ((HS.out _).1 i.property).cell (by rw [HW.out]; go_simp)
     have d1 : ∀ i : { w' // S w' }, i.val.cell? ⟨wr.heap.size, 1, none⟩ = some (.bool (sec k)) := fun i => ((HS.out _).1 i.property).cell (by rw [HW.out]; go_simp)
     have hne : Nonempty { w' // S w' } := ⟨⟨W, (HS.out _).2 (More.refl _)⟩⟩
     go_wp2_with (fail)
     clear q0 q1 q2
     refine J03 (S := S) [(0, true), (1, true), (2, true), (3, true), (4, true), (5, true), (6, false), (7, true)] (by kernel_rfl) (by kernel_rfl) (by kernel_rfl) ((HS.out _).2 (HW.out ▸ (More.refl _).drew)) ?_
     iterate 6 (refine J01 rfl (by kernel_rfl) (fun K hK => ?_); go_simp; refine hK _ _ ?_; clear hK K)
     refine J02 rfl (by kernel_rfl) (fun K hK => ?_); go_simp
     obtain ⟨nw, hnw⟩ : ∃ x, J0g lk = x := ⟨_, rfl⟩
     refine (Jca lk Hlog.out.1 Hlog.out.2 nw hnw.symm (sec k) _).mono ?_
     have Hnw : Hid (J0g (log k) = nw) := by rw [Hlk.out]; exact hnw
     clear hnw
     rintro e w2 ⟨rfl, m2⟩
     have Hm2 : Hid (More W w2) := HW.out ▸ (More.trans (More.refl _).drew m2)
     clear m2
     go_simp
     refine hK _ _ ((HS.out _).2 Hm2.out) ?_; clear hK K
     by_cases hq : (L k : Int) = nw
     ·have Hq : Hid ((L k : Int) = nw) := hq
      have heq : ((L k : Int) != nw) = false := by simp [hq]
      clear hq
      refine J01 rfl (by kernel_rfl) (fun K hK => ?_); go_simp; refine hK _ _ ?_; clear hK K
      refine J07 ?_
      clear heq k2 d0 d1 hne
      go_wp2
      go_roundg g
      case measure => omega
      case rel =>
       refine ⟨k + 1, by omega, by first | rfl | simp, fun j hj => ?_, (Hm.out.1.trans HwW.out).trans Hm2.out⟩
       by_cases e : j = k
       ·subst e; rw [Hq.out, Hnw.out]
       ·exact Hm.out.2 j (by omega)
     ·have Hq : Hid (¬ (L k : Int) = nw) := hq
      have heq' : ((L k : Int) != nw) = true := by simp [hq]
      clear hq
      refine J01 rfl (by kernel_rfl) (fun K hK => ?_); go_simp; refine hK _ _ ?_; clear hK K
      refine J07 ?_
      clear heq' k2 d0 d1 hne
      go_wp2
      go_ret
      exact Says.no (fun h => Hq.out (by rw [← Hnw.out]; exact h.2.2 k hk)) ((Hww.out.trans HwW.out).trans Hm2.out)
  ·go_wp2
   go_ret
   exact Says.no (fun h => by have := h.2.1; omega) Hm1.out
end
section
open Go.RowKit
set_option linter.unusedSimpArgs false
set_option linter.unusedVariables false
set_option maxRecDepth 8000
def rowOf (rv cv : Value) (x : Ms) : Array Value := ((List.range 411).map (cellF rv cv x)).toArray
theorem Jl6 (rv cv : Value) (x : Ms) : MC (rowOf rv cv { x with tl := fun _ => none }) rv cv { x with tl := fun _ => none } := ⟨by simp [rowOf], fun j hj => by simp [rowOf, hj], fun j hj => by simp [rowOf]; omega⟩
def ms0 (fuel : Int) : Ms := ⟨0, 0, 0, .slice none 0 0, .slice none 0 0, fun _ => 0, fun _ => 0, 0, fuel, false, fun _ => 0, 84, fun _ => none, []⟩
theorem MC.one {c : Array Value} {rv cv : Value} {x : Ms} (h : MC c rv cv x) (h0 : rv.oneCell' = true) (h1 : cv.oneCell' = true) (h2 : x.sv.oneCell' = true) (h3 : x.mv.oneCell' = true) (h4 : x.tl 411 = none) : c.all (·.oneCell') = true := by
 rw [Array.all_eq_true]
 intro i hi
 have := h.at_ i (by rw [← h.size h4]; exact hi)
 rw [Array.getElem?_eq_getElem hi] at this
 rw [Option.some.inj this]
 unfold cellF
 by_cases e0 : i = 0
 ·rw [if_pos e0]; exact h0
 rw [if_neg e0]
 by_cases e1 : i = 1
 ·rw [if_pos e1]; exact h1
 rw [if_neg e1]
 by_cases e2 : i = 2
 ·rw [if_pos e2]; rfl
 rw [if_neg e2]
 by_cases e3 : i = 3
 ·rw [if_pos e3]; rfl
 rw [if_neg e3]
 by_cases e4 : i = 4
 ·rw [if_pos e4]; rfl
 rw [if_neg e4]
 by_cases e5 : i = 5
 ·rw [if_pos e5]; exact h2
 rw [if_neg e5]
 by_cases e6 : i = 6
 ·rw [if_pos e6]; exact h3
 rw [if_neg e6]
 by_cases e7 : i < 17
 ·rw [if_pos e7]; rfl
 rw [if_neg e7]
 by_cases e8 : i < 401
 ·rw [if_pos e8]; rfl
 rw [if_neg e8]
 by_cases e9 : i = 401
 ·rw [if_pos e9]; rfl
 rw [if_neg e9]
 by_cases e10 : i = 402
 ·rw [if_pos e10]; rfl
 rw [if_neg e10]
 by_cases e11 : i = 403
 ·rw [if_pos e11]; rfl
 rw [if_neg e11]
 rfl

theorem Jo3 : (Tryz.prog.info? 84).map (fun i => (i.zero, i.size)) = some (some (.agg (rowOf (.slice none 0 0) (.slice none 0 0) (ms0 0))), 411) := by kernel_rfl
theorem Jb3 : Tryz.prog.built 84 [] = some (rowOf (.slice none 0 0) (.slice none 0 0) (ms0 0)) := by kernel_rfl
theorem J1q {P : Program} {fn : Func} {p u : Tmp} {ty : TypeId} (h : fn.results = #[.cell p ty, .tmp u]) (tmps : Array Value) (w : World) (g : Nat) (t : TypeId) (cs : Array Value) (fr : Nat × Nat) (d : TypeDesc)
  (hp : tmps.getD p undef = .pointer (some ⟨g, 0, none⟩)) (hg : w.heap[g]? = some (.cells cs t fr))
  (hu : P.underlying ty = some d) (hd : (match d with | .struct _ | .array _ _ => true | _ => false) = true) (hi : (P.info? ty).map (·.size) = some cs.size) :
  (results fn tmps).run P w = .ok (.tuple #[.agg cs, tmps.getD u undef]) w := by
 have hp' : tmps[p]?.getD undef = .pointer (some ⟨g, 0, none⟩) := by simpa using hp
 simp [results, h, hp', asAddr, run_loadVar_row w g t ty cs fr d hg hu hd hi]

theorem Jaq {P : Program} {o : Oper} {a : Act} {w : World} {K : Act → World → Prop} {Q : Exit → Act → World → Prop} (d s : Operand) (dT sT : TypeId)
  (ho : o.op = .call { callee := .builtin .copy, args := #[d, s], argTypes := #[dT, sT] }) (elem : TypeId) (hu : P.underlying dT = some (.slice elem)) (hsz : (P.info? elem).map (·.size) = some 1)
  (b off dLen dCap : Nat) (ad : Addr) (sLen sCap : Nat) (hd : a.eval d = .slice (some ⟨b, off, none⟩) dLen dCap) (hs : a.eval s = .slice (some ad) sLen sCap) (cs : List Value) (hn : cs.length = Nat.min sLen dLen)
  (hsrc : ∀ j v, cs[j]? = some v → w.cell? (ad.add j) = some v) (hc : ∀ j, j < cs.length → (w.cell? ⟨b, off + j, none⟩).isSome = true) (hf : ∀ j, j < cs.length → w.frozen? ⟨b, off + j, none⟩ = false) (h1 : ∀ v ∈ cs, v.oneCell' = true)
  (h : K (a.put o.dst (goInt cs.length)) (w.setCells b off cs)) : Oper.wp P o a w K Q := by
 have hrun := run_copy_cells (P := P) w dT sT o.type elem b off dLen dCap ad sLen sCap cs hu hsz hn hsrc hc hf h1
 unfold Oper.wp
 simp [execOp, ho, resolve, invoke, builtin, hd, hs, hrun, Result.andThen]
 exact h

def intsN (f : Nat → Int) (n : Nat) : List Value := (List.range n).map fun j => V (f j)
theorem J1p (f : Nat → Int) (n : Nat) : (intsN f n).length = n := by simp [intsN]
theorem Jk6 (f : Nat → Int) (n j : Nat) (h : j < n) : (intsN f n)[j]? = some (V (f j)) := by simp [intsN, h]
theorem Jfn (f : Nat → Int) (n : Nat) : intsN f (n + 1) = V (f 0) :: intsN (fun j => f (j + 1)) n := by simp [intsN, List.range_succ_eq_map]

theorem J0q (M : Nat) : ∀ (vs : List Value) (o : Nat) (w : World), w.grownBy (w.setCells M o vs) (some M)
 | [], o, w => J0r _ _
 | v :: vs, o, w => J1x (J14 w M o v) (J0q M vs (o + 1) _)

theorem MAt.fill {M : Nat} {rv cv : Value} : ∀ (n : Nat) (f : Nat → Int) (k : Nat) (x : Ms) (w : World), MAt w M rv cv x → k + n ≤ 384 →
  ∃ W, MAt (w.setCells M (17 + k) (intsN f n)) M rv cv { x with wd := W } ∧ (∀ j, j < n → W (k + j) = f j) ∧ (∀ j, j < k → W j = x.wd j)
 | 0, f, k, x, w, h, _ => ⟨x.wd, h, fun j hj => by omega, fun j _ => rfl⟩
 | n + 1, f, k, x, w, h, hk => by
  obtain ⟨W, h1, h2, h3⟩ := MAt.fill n (fun j => f (j + 1)) (k + 1) { x with wd := setN x.wd k (f 0) } (w.setCell ⟨M, 17 + k, none⟩ (V (f 0))) (h.setWd k (by omega) (f 0)) (by omega)
  refine ⟨W, ?_, fun j hj => ?_, fun j hj => ?_⟩
  ·rw [Jfn]
   exact h1
  ·cases j with
   | zero =>
    have := h3 k (by omega)
    dsimp only at this
    rw [Nat.add_zero, this]
    simp [setN]
   | succ j =>
    have := h2 j (by omega)
    rw [show k + (j + 1) = k + 1 + j by omega]
    exact this
  ·have := h3 j (by omega)
   dsimp only at this
   rw [this]
   unfold setN
   rw [if_neg (by omega)]

structure Nw (w wr : World) (rv cv : Value) (B : Nat) (m : Mem) (fuel : Int) (z : Array Value) (k : Nat) (W S : Nat → Int) : Prop where
 more : More w wr
 lo : w.heap.size + 2 ≤ B
 at_ : MAt wr B rv cv { ms0 fuel with wd := W, st := S }
 st : ∀ j, j ≤ k → S j = (baseN m.len j : Int)
 wd : ∀ j, j < k → ∀ i, i < m.len j → W (baseN m.len j + i) = m.wd j i
 res : wr.heap[w.heap.size + 1]? = some (.cells z 84 (0, 0))

theorem Nw.step {w wr : World} {rv cv : Value} {B : Nat} {m : Mem} {fuel : Int} {z : Array Value} {k : Nat} {W S : Nat → Int} (h : Nw w wr rv cv B m fuel z k W S) (hk : k < 6) (hle : baseN m.len (k + 1) ≤ 384) (n : Int) (hn : n = (baseN m.len (k + 1) : Int)) :
  ∃ W' S', Nw w (((wr.drew).setCells B (17 + baseN m.len k) (intsN (m.wd k) (m.len k))).setCell ⟨B, 404 + (k + 1), none⟩ (V n)) rv cv B m fuel z (k + 1) W' S' := by
 subst hn
 obtain ⟨W', h1, h2, h3⟩ := MAt.fill (m.len k) (m.wd k) (baseN m.len k) _ wr.drew h.at_.drew (by simpa [baseN] using hle)
 have hlo := h.lo
 have g0 : wr.grownBy (((wr.drew).setCells B (17 + baseN m.len k) (intsN (m.wd k) (m.len k))).setCell ⟨B, 404 + (k + 1), none⟩ (V (baseN m.len (k + 1) : Int))) (some B) :=
  J0p (J1x (J3h wr _) (J0q B _ _ _)) _ _
 refine ⟨W', setN S (k + 1) (baseN m.len (k + 1) : Int), h.more.grownBy g0 (fun b hb => by have := Option.some.inj hb; omega), h.lo, h1.setSt (k + 1) (by omega) _, fun j hj => ?_, fun j hj i hi => ?_, ?_⟩
 ·unfold setN
  by_cases e : j = k + 1
  ·rw [if_pos e, e]
  ·rw [if_neg e]; exact h.st j (by omega)
 ·by_cases e : j = k
  ·subst e; exact h2 i hi
  ·have hlt : baseN m.len j + i < baseN m.len k := by
    have := J3e m.len (j + 1) k (by omega)
    simp only [baseN] at this
    omega
   rw [h3 _ hlt]
   exact h.wd j (by omega) i hi
 ·have hsz : w.heap.size + 1 < wr.heap.size := by
   rcases Nat.lt_or_ge (w.heap.size + 1) wr.heap.size with h' | h'
   ·exact h'
   ·have := h.res
    rw [Array.getElem?_eq_none h'] at this
    cases this
  rw [g0.block (w.heap.size + 1) hsz (by simp; omega)]
  exact h.res
structure Tl where
 sc : Value
 mb : Nat
 puts : Nat → Int
 ahead : Bool
 br : Nat → Int
 bw : Nat → Int
 bn : Int
 bp : Nat → Int
 til : Int

def tlV (q : Tl) (j : Nat) : Value :=
 if j = 411 then q.sc else if j = 412 then .map (some q.mb) else if j < 797 then V (q.puts (j - 413)) else if j = 797 then .bool q.ahead
 else if j < 808 then V (q.br (j - 798)) else if j < 1192 then V (q.bw (j - 808)) else if j = 1192 then V q.bn else if j < 1577 then V (q.bp (j - 1193)) else V q.til
def tlF (q : Tl) (j : Nat) : Option Value := if j < 1578 then some (tlV q j) else none

theorem J8e (q : Tl) (j : Nat) (hj : j < 1578) : tlF q j = some (tlV q j) := by unfold tlF; rw [if_pos hj]
theorem Jao (q : Tl) (j : Nat) (hj : j < 384) : tlV q (413 + j) = V (q.puts j) := by
 unfold tlV
 rw [if_neg (by omega), if_neg (by omega), if_pos (by omega), show 413 + j - 413 = j by omega]
theorem Jma (q : Tl) (j : Nat) (hj : j < 10) : tlV q (798 + j) = V (q.br j) := by
 unfold tlV
 rw [if_neg (by omega), if_neg (by omega), if_neg (by omega), if_neg (by omega), if_pos (by omega), show 798 + j - 798 = j by omega]
theorem Jmb (q : Tl) (j : Nat) (hj : j < 384) : tlV q (808 + j) = V (q.bw j) := by
 unfold tlV
 rw [if_neg (by omega), if_neg (by omega), if_neg (by omega), if_neg (by omega), if_neg (by omega), if_pos (by omega), show 808 + j - 808 = j by omega]
theorem Jm9 (q : Tl) (j : Nat) (hj : j < 384) : tlV q (1193 + j) = V (q.bp j) := by
 unfold tlV
 rw [if_neg (by omega), if_neg (by omega), if_neg (by omega), if_neg (by omega), if_neg (by omega), if_neg (by omega), if_neg (by omega), if_pos (by omega), show 1193 + j - 1193 = j by omega]

def stL (r wd : Nat → Int) (n : Int) : List Value := (List.range 395).map fun j => if j < 10 then V (r j) else if j < 394 then V (wd (j - 10)) else V n
def puL (f : Nat → Int) : List Value := (List.range 384).map fun j => V (f j)
theorem J0s (r wd : Nat → Int) (n : Int) : (stL r wd n).length = 395 := by simp [stL]
theorem J1d (f : Nat → Int) : (puL f).length = 384 := by simp [puL]
theorem J9g (r wd : Nat → Int) (n : Int) (j : Nat) (hj : j < 395) : (stL r wd n)[j]? = some (if j < 10 then V (r j) else if j < 394 then V (wd (j - 10)) else V n) := by simp [stL, hj]
theorem Jf1 (f : Nat → Int) (j : Nat) (hj : j < 384) : (puL f)[j]? = some (V (f j)) := by simp [puL, hj]
theorem Jin (r wd : Nat → Int) (n : Int) : ∀ v ∈ stL r wd n, v.oneCell' = true := by
 intro v hv
 simp only [stL, List.mem_map] at hv
 obtain ⟨j, _, rfl⟩ := hv
 split
 ·rfl
 ·split <;> rfl
theorem Jid (f : Nat → Int) : ∀ v ∈ puL f, v.oneCell' = true := by
 intro v hv
 simp only [puL, List.mem_map] at hv
 obtain ⟨j, _, rfl⟩ := hv
 rfl

theorem MAt.splice {w : World} {M : Nat} {rv cv : Value} {x x' : Ms} (h : MAt w M rv cv x) (o : Nat) (vs : List Value) (hT : x'.T = x.T) (hfit : o + vs.length ≤ 411 ∨ ∃ v, x.tl (o + vs.length - 1) = some v) (h0 : 0 < vs.length)
  (h1 : ∀ j, j < 411 → (if o ≤ j ∧ j < o + vs.length then vs[j - o]? else some (cellF rv cv x j)) = some (cellF rv cv x' j)) (h2 : ∀ j, 411 ≤ j → (if o ≤ j ∧ j < o + vs.length then vs[j - o]? else x.tl j) = x'.tl j) : MAt (w.setCells M o vs) M rv cv x' := by
 obtain ⟨c, hh, hc⟩ := h.out
 have hsz : o + vs.length ≤ c.size := by
  rcases hfit with h3 | ⟨v, hv⟩
  ·have := hc.big; omega
  ·by_cases e : o + vs.length ≤ 411
   ·have := hc.big; omega
   ·have h4 := hc.tail (o + vs.length - 1) (by omega)
    rw [hv] at h4
    have := (Array.getElem?_eq_some_iff.1 h4).1
    omega
 obtain ⟨c', k1, k2, k3⟩ := J4n vs o c w hh hsz
 refine ⟨c', by rw [hT]; exact k1, by rw [k2]; exact hc.big, fun j hj => ?_, fun j hj => ?_⟩
 ·rw [k3 j, ← h1 j hj, hc.at_ j hj]
 ·rw [k3 j, ← h2 j hj, hc.tail j hj]

structure RunS (w : World) (M : Nat) (rv cv : Value) (x : Ms) (q : Tl) (se : List Se) : Prop where
 run : Run w M rv cv { x with T := 98, tl := tlF q } se

section
variable {w w' : World} {M : Nat} {rv cv : Value} {x x' : Ms} {q q' : Tl} {se : List Se}
theorem RunS.lt (h : RunS w M rv cv x q se) : M < w.heap.size := h.run.lt
theorem RunS.more (h : RunS w M rv cv x q se) (m : More w w') : RunS w' M rv cv x q se := ⟨h.run.more m⟩
theorem RunS.left (h : RunS w M rv cv x q se) {p : Nat × Obj} (hp : p ∈ x.mo) : w.heap[p.1]? = some p.2 := h.run.left hp
theorem RunS.beside (h : RunS w M rv cv x q se) (o : Obj) : RunS (w.alloc o) M rv cv { x with mo := (w.heap.size, o) :: x.mo } q se := ⟨h.run.beside o⟩
theorem RunS.fewer (h : RunS w M rv cv x q se) (l : List (Nat × Obj)) (hl : ∀ p ∈ l, p ∈ x.mo) : RunS w M rv cv { x with mo := l } q se := ⟨h.run.fewer l hl⟩
theorem RunS.drew (h : RunS w M rv cv x q se) : RunS w.drew M rv cv x q se := ⟨h.run.drew⟩
theorem RunS.kept (h : RunS w M rv cv x q se) {row : Option Nat} (hg : w.grownBy w' row) (hr : ∀ b, row = some b → b < M) : RunS w' M rv cv x q se := ⟨h.run.kept hg hr⟩
theorem RunS.tlw (h : RunS w M rv cv x q se) (j : Nat) (h1 : 411 ≤ j) (h2 : j < 1578) : Wr w M j (tlV q j) := h.run.tlw j h1 _ (J8e q j h2)
theorem RunS.sc (h : RunS w M rv cv x q se) : Wr w M 411 q.sc := h.tlw 411 (by omega) (by omega)
theorem RunS.map (h : RunS w M rv cv x q se) : Wr w M 412 (.map (some q.mb)) := h.tlw 412 (by omega) (by omega)
theorem RunS.puts (h : RunS w M rv cv x q se) (j : Nat) (hj : j < 384) : Wr w M (413 + j) (V (q.puts j)) := by have := h.tlw (413 + j) (by omega) (by omega); rw [Jao q j hj] at this; exact this
theorem RunS.ahead (h : RunS w M rv cv x q se) : Wr w M 797 (.bool q.ahead) := h.tlw 797 (by omega) (by omega)
theorem RunS.til (h : RunS w M rv cv x q se) : Wr w M 1577 (V q.til) := h.tlw 1577 (by omega) (by omega)

theorem RunS.setTl (h : RunS w M rv cv x q se) (j : Nat) (v : Value) (hj : 411 ≤ j) (hj2 : j < 1578) (hq : ∀ i, i < 1578 → 411 ≤ i → tlV q' i = if i = j then v else tlV q i) : RunS (w.setCell ⟨M, j, none⟩ v) M rv cv x q' se := by
 refine ⟨h.run.setTl j v (tlV q j) (tlF q') hj (J8e q j hj2) (fun i hi => ?_)⟩
 show tlF q' i = if i = j then some v else tlF q i
 unfold tlF
 by_cases e : i < 1578
 ·rw [if_pos e, if_pos e, hq i e hi]
  split <;> rfl
 ·rw [if_neg e, if_neg e, if_neg (by omega)]
theorem RunS.setSc (h : RunS w M rv cv x q se) (v : Value) : RunS (w.setCell ⟨M, 411, none⟩ v) M rv cv x { q with sc := v } se :=
 h.setTl 411 v (by omega) (by omega) fun i hi h1 => by unfold tlV; by_cases e : i = 411 <;> simp [e]
theorem RunS.setAhead (h : RunS w M rv cv x q se) (b : Bool) : RunS (w.setCell ⟨M, 797, none⟩ (.bool b)) M rv cv x { q with ahead := b } se :=
 h.setTl 797 _ (by omega) (by omega) fun i hi h1 => by unfold tlV; by_cases e : i = 797 <;> simp [e]
theorem RunS.setTil (h : RunS w M rv cv x q se) (n : Int) : RunS (w.setCell ⟨M, 1577, none⟩ (V n)) M rv cv x { q with til := n } se :=
 h.setTl 1577 _ (by omega) (by omega) fun i hi h1 => by
  unfold tlV
  by_cases e : i = 1577
  ·simp [e]
  ·simp [e, show i < 1577 by omega]
theorem RunS.setPut (h : RunS w M rv cv x q se) (k : Nat) (hk : k < 384) (n : Int) : RunS (w.setCell ⟨M, 413 + k, none⟩ (V n)) M rv cv x { q with puts := setN q.puts k n } se :=
 h.setTl (413 + k) _ (by omega) (by omega) fun i hi h1 => by
  by_cases e : i = 413 + k
  ·subst e; rw [if_pos rfl, Jao _ k hk]; simp [setN]
  ·rw [if_neg e]
   unfold tlV setN
   by_cases e1 : i < 413
   ·have : i = 411 ∨ i = 412 := by omega
    rcases this with rfl | rfl <;> simp
   ·have e2 : ¬ i - 413 = k := by omega
    simp [e2]

theorem RunS.splice (h : RunS w M rv cv x q se) (o : Nat) (vs : List Value) (h0 : 0 < vs.length) (hsz : o + vs.length ≤ 1578)
  (h1 : ∀ sv j, j < 411 → (if o ≤ j ∧ j < o + vs.length then vs[j - o]? else some (cellF rv cv { x with sv := sv } j)) = some (cellF rv cv { x' with sv := sv } j))
  (h2 : ∀ j, 411 ≤ j → j < 1578 → (if o ≤ j ∧ j < o + vs.length then vs[j - o]? else some (tlV q j)) = some (tlV q' j)) (hmo : x'.mo = x.mo) : RunS (w.setCells M o vs) M rv cv x' q' se := by
 obtain ⟨sv, hm, ho, hk⟩ := h.run.out
 refine ⟨⟨sv, hm.splice o vs rfl ?_ h0 (fun j hj => h1 sv j hj) (fun j hj => ?_), ho.kept (J0q M vs o w) (fun b hb => by have := Option.some.inj hb; omega), fun p e => ?_⟩⟩
 ·right
  exact ⟨_, J8e q _ (by omega)⟩
 ·show (if o ≤ j ∧ j < o + vs.length then vs[j - o]? else tlF q j) = tlF q' j
  by_cases e : j < 1578
  ·rw [J8e q j e, J8e q' j e]; exact h2 j hj e
  ·unfold tlF
   rw [if_neg (by omega), if_neg e, if_neg e]
 ·have e2 : p ∈ x.mo := by rw [← hmo]; exact e
  have hp := hk p e2
  exact ⟨hp.1, hp.2.1, by rw [(J0q M vs o w).block p.1 (J15 hp.2.2) (fun e' => by have := Option.some.inj e'; have := hp.1; omega)]; exact hp.2.2⟩

theorem RunS.setState (h : RunS w M rv cv x q se) (r wd : Nat → Int) (n : Int) : RunS (w.setCells M 7 (stL r wd n)) M rv cv { x with r := r, wd := wd, next := n } q se := by
 refine h.splice 7 _ (by rw [J0s]; omega) (by rw [J0s]; omega) (fun sv j hj => ?_) (fun j hj h1 => ?_) rfl
 ·rw [J0s]
  by_cases e : 7 ≤ j ∧ j < 7 + 395
  ·rw [if_pos e, J9g _ _ _ _ (by omega)]
   by_cases e1 : j < 17
   ·obtain ⟨k, rfl⟩ : ∃ k, j = 7 + k := ⟨j - 7, by omega⟩
    rw [if_pos (by omega), Jch _ _ _ k (by omega), show 7 + k - 7 = k by omega]
   by_cases e2 : j < 401
   ·obtain ⟨k, rfl⟩ : ∃ k, j = 17 + k := ⟨j - 17, by omega⟩
    rw [if_neg (by omega), if_pos (by omega), J9o _ _ _ k (by omega), show 17 + k - 7 - 10 = k by omega]
   obtain rfl : j = 401 := by omega
   rfl
  ·rw [if_neg e]
   unfold cellF
   by_cases e1 : j < 7
   ·have : j = 0 ∨ j = 1 ∨ j = 2 ∨ j = 3 ∨ j = 4 ∨ j = 5 ∨ j = 6 := by omega
    rcases this with rfl | rfl | rfl | rfl | rfl | rfl | rfl <;> simp
   ·simp [show ¬ j = 0 by omega, show ¬ j = 1 by omega, show ¬ j = 2 by omega, show ¬ j = 3 by omega, show ¬ j = 4 by omega, show ¬ j = 5 by omega, show ¬ j = 6 by omega, show ¬ j < 17 by omega, show ¬ j < 401 by omega, show ¬ j = 401 by omega]
 ·rw [J0s, if_neg (by omega)]

theorem RunS.setPuts (h : RunS w M rv cv x q se) (f : Nat → Int) : RunS (w.setCells M 413 (puL f)) M rv cv x { q with puts := f } se := by
 refine h.splice 413 _ (by rw [J1d]; omega) (by rw [J1d]; omega) (fun sv j hj => ?_) (fun j hj h1 => ?_) rfl
 ·rw [if_neg (by omega)]
 ·rw [J1d]
  by_cases e : 413 ≤ j ∧ j < 413 + 384
  ·obtain ⟨k, rfl⟩ : ∃ k, j = 413 + k := ⟨j - 413, by omega⟩
   rw [if_pos e, Jf1 _ _ (by omega), Jao _ k (by omega), show 413 + k - 413 = k by omega]
  ·rw [if_neg e]
   unfold tlV
   by_cases e1 : j < 413
   ·have : j = 411 ∨ j = 412 := by omega
    rcases this with rfl | rfl <;> simp
   ·simp [show ¬ j = 411 by omega, show ¬ j = 412 by omega, show ¬ j < 797 by omega]

theorem RunS.setBack (h : RunS w M rv cv x q se) (r wd : Nat → Int) (n : Int) (f : Nat → Int) : RunS (w.setCells M 798 (stL r wd n ++ puL f)) M rv cv x { q with br := r, bw := wd, bn := n, bp := f } se := by
 have hl : (stL r wd n ++ puL f).length = 779 := by rw [List.length_append, J0s, J1d]
 refine h.splice 798 _ (by rw [hl]; omega) (by rw [hl]; omega) (fun sv j hj => ?_) (fun j hj h1 => ?_) rfl
 ·rw [if_neg (by omega)]
 ·rw [hl]
  by_cases e : 798 ≤ j ∧ j < 798 + 779
  ·rw [if_pos e, List.getElem?_append, J0s]
   by_cases e1 : j < 808
   ·obtain ⟨k, rfl⟩ : ∃ k, j = 798 + k := ⟨j - 798, by omega⟩
    rw [if_pos (by omega), J9g _ _ _ _ (by omega), if_pos (by omega), Jma _ k (by omega), show 798 + k - 798 = k by omega]
   by_cases e2 : j < 1192
   ·obtain ⟨k, rfl⟩ : ∃ k, j = 808 + k := ⟨j - 808, by omega⟩
    rw [if_pos (by omega), J9g _ _ _ _ (by omega), if_neg (by omega), if_pos (by omega), Jmb _ k (by omega), show 808 + k - 798 - 10 = k by omega]
   by_cases e3 : j = 1192
   ·subst e3
    rw [if_pos (by omega), J9g _ _ _ _ (by omega)]
    rfl
   ·obtain ⟨k, rfl⟩ : ∃ k, j = 1193 + k := ⟨j - 1193, by omega⟩
    rw [if_neg (by omega), Jf1 _ _ (by omega), Jm9 _ k (by omega), show 1193 + k - 798 - 395 = k by omega]
  ·rw [if_neg e]
   unfold tlV
   by_cases e1 : j < 798
   ·have : j = 411 ∨ j = 412 ∨ (¬ j = 411 ∧ ¬ j = 412 ∧ j < 797) ∨ j = 797 := by omega
    rcases this with rfl | rfl | h3 | rfl
    ·simp
    ·simp
    ·simp [h3]
    ·simp
   ·simp [show ¬ j = 411 by omega, show ¬ j = 412 by omega, show ¬ j < 797 by omega, show ¬ j = 797 by omega, show ¬ j < 808 by omega, show ¬ j < 1192 by omega, show ¬ j = 1192 by omega, show ¬ j < 1577 by omega]

theorem RunS.stateC (h : RunS w M rv cv x q se) : ∀ j v, (stL x.r x.wd x.next)[j]? = some v → w.cell? ⟨M, 7 + j, none⟩ = some v := by
 intro j v hv
 have hj : j < 395 := by have := (List.getElem?_eq_some_iff.1 hv).1; rw [J0s] at this; exact this
 rw [J9g _ _ _ _ hj] at hv
 rw [← hv]
 by_cases e1 : j < 10
 ·rw [if_pos e1]; exact (h.run.r j e1).1
 rw [if_neg e1]
 by_cases e2 : j < 394
 ·rw [if_pos e2]
  have := (h.run.wd (j - 10) (by omega)).1
  rw [show 17 + (j - 10) = 7 + j by omega] at this
  exact this
 rw [if_neg e2]
 obtain rfl : j = 394 := by omega
 exact h.run.next.1
theorem RunS.putsC (h : RunS w M rv cv x q se) : ∀ j v, (puL q.puts)[j]? = some v → w.cell? ⟨M, 413 + j, none⟩ = some v := by
 intro j v hv
 have hj : j < 384 := by have := (List.getElem?_eq_some_iff.1 hv).1; rw [J1d] at this; exact this
 rw [Jf1 _ _ hj] at hv
 rw [← hv]
 exact (h.puts j hj).1
theorem RunS.backS (h : RunS w M rv cv x q se) : ∀ j v, (stL q.br q.bw q.bn)[j]? = some v → w.cell? ⟨M, 798 + j, none⟩ = some v := by
 intro j v hv
 have hj : j < 395 := by have := (List.getElem?_eq_some_iff.1 hv).1; rw [J0s] at this; exact this
 rw [J9g _ _ _ _ hj] at hv
 rw [← hv]
 have := (h.tlw (798 + j) (by omega) (by omega)).1
 rw [this]
 by_cases e1 : j < 10
 ·rw [if_pos e1, Jma q j e1]
 rw [if_neg e1]
 by_cases e2 : j < 394
 ·rw [if_pos e2, show 798 + j = 808 + (j - 10) by omega, Jmb q _ (by omega)]
 rw [if_neg e2]
 obtain rfl : j = 394 := by omega
 rfl
theorem RunS.backP (h : RunS w M rv cv x q se) : ∀ j v, (puL q.bp)[j]? = some v → w.cell? ⟨M, 1193 + j, none⟩ = some v := by
 intro j v hv
 have hj : j < 384 := by have := (List.getElem?_eq_some_iff.1 hv).1; rw [J1d] at this; exact this
 rw [Jf1 _ _ hj] at hv
 rw [← hv]
 have := (h.tlw (1193 + j) (by omega) (by omega)).1
 rw [this, Jm9 q j hj]
theorem RunS.any (h : RunS w M rv cv x q se) (j : Nat) (hj : j < 1578) : ∃ v, Wr w M j v := by
 by_cases e : j < 411
 ·obtain ⟨sv, hm, _⟩ := h.run.out
  exact ⟨_, hm.wr j e⟩
 ·exact ⟨_, h.tlw j (by omega) hj⟩
end
theorem J3x (w : World) (M B : Nat) (rv cv : Value) (x : Ms) (q : Tl) (se : List Se) (L : List Int) (h : RunS w M rv cv x q se) (hs : ScAt w B q.sc L) (hB : B ≤ M) :
  Calls Tryz.prog 99 #[.pointer (some ⟨M, 0, none⟩)] w fun e w' => e = .returned (V (L.headD 0)) ∧ Below M w w' ∧ ∃ sc', RunS w' M rv cv x { q with sc := sc' } se ∧ ScAt w' B sc' L.tail := by
 obtain ⟨sa, cap, hsc, hcap, hl⟩ := hs.out
 have hM := h.lt
 obtain ⟨c411, f411⟩ := h.sc
 rw [hsc] at c411
 have H : Hid (RunS w M rv cv x q se ∧ ScAt w B q.sc L) := ⟨h, hs⟩
 cases L with
 | nil =>
  clear h hs hl
  go_enter Tryz.func99, Tryz.ntmps99
  go_wp2
  go_ret
  exact ⟨rfl, Below.refl _ _, q.sc, H.out.1, H.out.2⟩
 | cons c L =>
  obtain ⟨sb, so, rfl, hsb, hcell⟩ := hl (by simp)
  have c0 := hcell 0 c (by simp)
  rw [Nat.add_zero] at c0
  have Hc : Hid (sb < B ∧ B ≤ M ∧ ∀ j c', (c :: L)[j]? = some c' → w.cell? ⟨sb, so + j, none⟩ = some (V c')) := ⟨hsb, hB, hcell⟩
  have hne : ¬ sb = M := by omega
  have hn1 : (1 : Int) ≤ ((c :: L).length : Int) := by simp; omega
  have hn2 : ((c :: L).length : Int) ≤ (cap : Int) := by omega
  obtain ⟨n, hn⟩ : ∃ n, (c :: L).length = n := ⟨_, rfl⟩
  have Hn : Hid ((c :: L).length = n) := hn
  rw [hn] at c411 hn1 hn2 hcap
  have hn0 : ¬ (n : Int) = 0 := by omega
  have hn3 : ¬ n = 0 := by omega
  have hz : ((n : Int) == 0) = false := by simp; omega
  have hcap1 : 1 ≤ cap := by omega
  clear h hs hl hcell hn hsc
  by_cases e1 : cap = 1
  ·subst e1
   go_enter Tryz.func99, Tryz.ntmps99
   go_wp2
   go_ret
   refine ⟨rfl, J0d (Below.refl _ _) _ _, _, H.out.1.setSc _, ?_⟩
   have hL : L = [] := by have := Hn.out; simp at this; cases L with | nil => rfl | cons a l => simp at this; omega
   subst hL
   exact ⟨_, _, rfl, Nat.zero_le _, fun h => absurd rfl h⟩
  ·go_enter Tryz.func99, Tryz.ntmps99
   go_wp2
   go_ret
   refine ⟨rfl, J0d (Below.refl _ _) _ _, _, H.out.1.setSc _, ?_⟩
   have hL : n - 1 = L.length := by have := Hn.out; simp at this; omega
   refine ⟨some ⟨sb, so + 1, none⟩, cap - 1, by rw [List.tail_cons, ← hL], by rw [List.tail_cons]; omega, fun h => ⟨sb, so + 1, rfl, Hc.out.1, fun j c' hc => ?_⟩⟩
   rw [World.cell?_setCell_other _ _ _ _ (by simp <;> omega), show so + 1 + j = so + (j + 1) by omega]
   exact Hc.out.2.2 (j + 1) c' (by simpa using hc)

theorem J2h (w : World) (M : Nat) (ra : Option Addr) (rl rc : Nat) (cv : Value) (x : Ms) (se : List Se) (n : Int) (h : Run w M (.slice ra rl rc) cv x se) (hrl : rl ≤ 6) :
  Calls Tryz.prog 102 #[.pointer (some ⟨M, 0, none⟩), V n] w fun e w' => e = .returned (.bool (decide (0 ≤ n) && decide (n < x.st rl))) ∧ More w w' := by
 have c0 := h.p0.1
 have cs := (h.st rl (by omega)).1
 have r0 : (0 : Int) ≤ (rl : Int) := by omega
 have r7 : (rl : Int) < 7 := by omega
 clear h
 by_cases h0 : 0 ≤ n
 ·go_enter Tryz.func102, Tryz.ntmps102
  go_wp2
  go_region
  go_wp2
  go_ret
  exact ⟨by simp [h0], (More.refl _).drew⟩
 ·have h0' : decide (0 ≤ n) = false := by simp; omega
  go_enter Tryz.func102, Tryz.ntmps102
  go_wp2
  go_region
  go_wp2
  go_ret
  exact ⟨by simp [h0]; intro h; omega, (More.refl _).drew⟩

set_option maxHeartbeats 400000 in
theorem Jdt (w : World) (M : Nat) (rv cv : Value) (x : Ms) (q : Tl) (se : List Se) (n c : Int) (h : RunS w M rv cv x q se) (n0 : 0 ≤ n) (n1 : n < 384) (hc : c = 0 ∨ q.puts n.toNat < c) :
  Calls Tryz.prog 103 #[.pointer (some ⟨M, 0, none⟩), V n, V c] w fun e w' => e = .returned (.tuple #[V 0, .bool false]) ∧ w' = w := by
 have c0 := (h.puts n.toNat (by omega)).1
 obtain ⟨t, ht⟩ : ∃ t, q.puts n.toNat = t := ⟨_, rfl⟩
 rw [ht] at c0 hc
 clear h ht
 by_cases e : c = 0
 ·subst e
  clear hc
  go_enter Tryz.func103, Tryz.ntmps103
  go_wp2
  go_ret2
  exact ⟨rfl, rfl⟩
 ·have e' : (c == 0) = false := by simp [e]
  have e2 : t < c := by omega
  clear hc
  go_enter Tryz.func103, Tryz.ntmps103
  go_wp2
  go_ret2
  exact ⟨rfl, rfl⟩

set_option maxHeartbeats 400000 in
theorem Jc3 (w : World) (M : Nat) (rv cv : Value) (x : Ms) (q : Tl) (se : List Se) (f : Int → Int → Int) (n c : Int) (h : RunS w M rv cv x q se) (hm : MapAt w q.mb f) (n0 : 0 ≤ n) (n1 : n < 384) (c0 : 0 < c) (c1 : c ≤ q.puts n.toNat) (hp : q.puts n.toNat ≤ 100000) :
  Calls Tryz.prog 103 #[.pointer (some ⟨M, 0, none⟩), V n, V c] w fun e w' => e = .returned (.tuple #[V (f n (q.puts n.toNat - c)), .bool true]) ∧ w' = w := by
 have cp := (h.puts n.toNat (by omega)).1
 have cm := h.map.1
 obtain ⟨t, ht⟩ : ∃ t, q.puts n.toNat = t := ⟨_, rfl⟩
 rw [ht] at cp c1 hp ⊢
 obtain ⟨mb, hmb⟩ : ∃ mb, q.mb = mb := ⟨_, rfl⟩
 rw [hmb] at cm hm
 have hw : wrap64 (t - c) = t - c := by unfold wrap64; omega
 have hwr := J12
 have HM : Hid (MapAt w mb f ∧ B64 n ∧ B64 (t - c)) := ⟨hm, by unfold B64; omega, by unfold B64; omega⟩
 obtain ⟨v, hv⟩ : ∃ v, f n (t - c) = v := ⟨_, rfl⟩
 rw [hv]
 have Hv : Hid (f n (t - c) = v) := hv
 have e' : (c == 0) = false := by simp; omega
 have e2 : ¬ t < c := by omega
 clear h hm ht hmb hv
 go_enter Tryz.func103, Tryz.ntmps103
 go_wp2_with (refine Je2 rfl (.tmp 25) (.tmp 30) rfl mb f n (t - c) rfl rfl HM.out.1 HM.out.2.1 HM.out.2.2 ?_; rw [Hv.out])
 go_ret2
 exact ⟨rfl, rfl⟩
theorem Jo5 : (Tryz.prog.info? 96).map (·.size) = some 779 := by kernel_rfl
theorem Jhl : (Tryz.prog.info? 81).map (·.size) = some 395 := by kernel_rfl
theorem Jhm : (Tryz.prog.info? 94).map (·.size) = some 384 := by kernel_rfl
theorem Jno : (Tryz.prog.info? 96).map (fun i => i.zero.map (fun z => z.cells.size)) = some (some 779) := by kernel_rfl
theorem Jkw : (J4v Tryz.prog 96).mapM (fun f => (Tryz.prog.info? f.type).map fun i => (f.offset, i.size)) = some [(0, 395), (395, 384)] := by kernel_rfl
theorem Jkx : (J4v Tryz.prog 98).mapM (fun f => (Tryz.prog.info? f.type).map fun i => (f.offset, i.size)) = some [(0, 411), (411, 1), (412, 1), (413, 384), (797, 1), (798, 779), (1577, 1)] := by kernel_rfl

theorem Jmf (A B : Array Value) (hA : A.size = 395) (hB : B.size = 384) : ∃ C, Tryz.prog.built 96 [(0, .agg A), (1, .agg B)] = some C ∧ C.size = 779 ∧ ∀ j, j < 779 → C[j]? = if j < 395 then A[j]? else B[j - 395]? := by
 have hz := Jno
 cases hi : Tryz.prog.info? 96 with
 | none => rw [hi] at hz; simp at hz
 | some it =>
  rw [hi] at hz
  simp only [Option.map_some, Option.some.injEq] at hz
  cases hzz : it.zero with
  | none => rw [hzz] at hz; simp at hz
  | some z =>
   rw [hzz] at hz
   simp only [Option.map_some, Option.some.injEq] at hz
   have hp := Jkw
   unfold J4v at hp
   rw [Tryz.underlying96] at hp
   rw [J47 hi Tryz.underlying96 hzz hp]
   obtain ⟨c1, e1, s1, g1⟩ := J2r (fun x => [(0, 395), (395, 384)].toArray[x]?) z.cells 0 (.agg A) [(1, .agg B)] 0 395 rfl hA (by omega)
   obtain ⟨c2, e2, s2, g2⟩ := J2r (fun x => [(0, 395), (395, 384)].toArray[x]?) c1 1 (.agg B) [] 395 384 rfl hB (by omega)
   refine ⟨c2, by rw [e1, e2]; rfl, by omega, fun j hj => ?_⟩
   rw [g2 j, g1 j]
   by_cases e : j < 395
   ·rw [if_neg (by omega), if_pos (by omega), if_pos e]; rfl
   ·rw [if_pos (by omega), if_neg e]; rfl

def zTl (sc : Value) (mb : Nat) : Tl := ⟨sc, mb, fun _ => 0, false, fun _ => 0, fun _ => 0, 0, fun _ => 0, 0⟩
def rowS (rv cv : Value) (x : Ms) (q : Tl) : Array Value := ((List.range 1578).map fun j => if j < 411 then cellF rv cv x j else tlV q j).toArray
theorem Jj2 : (Tryz.prog.info? 98).map (fun i => (i.zero, i.size)) = some (some (.agg ((rowS (.slice none 0 0) (.slice none 0 0) (ms0 0) (zTl (.slice none 0 0) 0)).setIfInBounds 412 (.map none))), 1578) := by kernel_rfl

theorem Jmg (c : Array Value) (rv cv : Value) (x : Ms) (hc : MC c rv cv x) (hx : x.tl 411 = none) (sa : Option Addr) (n cap mb : Nat) :
  ∃ C, Tryz.prog.built 98 [(0, .agg c), (1, .slice sa n cap), (2, .map (some mb))] = some C ∧ C.size = 1578 ∧ MC C rv cv { x with T := 98, tl := tlF (zTl (.slice sa n cap) mb) } := by
 have hcs := hc.size hx
 cases hi : Tryz.prog.info? 98 with
 | none => have := Jj2; rw [hi] at this; simp at this
 | some it =>
  have h0 := Jj2
  rw [hi] at h0
  simp only [Option.map_some, Option.some.injEq, Prod.mk.injEq] at h0
  have hp := Jkx
  unfold J4v at hp
  rw [Tryz.underlying98] at hp
  rw [J47 hi Tryz.underlying98 h0.1 hp]
  obtain ⟨Z, hZ⟩ : ∃ Z, Z = (rowS (.slice none 0 0) (.slice none 0 0) (ms0 0) (zTl (.slice none 0 0) 0)).setIfInBounds 412 (.map none) := ⟨_, rfl⟩
  have hZs : Z.size = 1578 := by rw [hZ]; simp [rowS]
  rw [← hZ]
  obtain ⟨c1, e1, s1, g1⟩ := J2r (fun x => [(0, 411), (411, 1), (412, 1), (413, 384), (797, 1), (798, 779), (1577, 1)].toArray[x]?) (Value.agg Z).cells 0 (.agg c) [(1, .slice sa n cap), (2, .map (some mb))] 0 411 rfl hcs (by show _ ≤ Z.size; omega)
  obtain ⟨c2, e2, s2, g2⟩ := J2r (fun x => [(0, 411), (411, 1), (412, 1), (413, 384), (797, 1), (798, 779), (1577, 1)].toArray[x]?) c1 1 (.slice sa n cap) [(2, .map (some mb))] 411 1 rfl rfl (by rw [s1]; show _ ≤ Z.size; omega)
  obtain ⟨c3, e3, s3, g3⟩ := J2r (fun x => [(0, 411), (411, 1), (412, 1), (413, 384), (797, 1), (798, 779), (1577, 1)].toArray[x]?) c2 2 (.map (some mb)) [] 412 1 rfl rfl (by rw [s2, s1]; show _ ≤ Z.size; omega)
  have hsz : c3.size = 1578 := by rw [s3, s2, s1]; exact hZs
  refine ⟨c3, by rw [e1, e2, e3]; rfl, hsz, by omega, fun j hj => ?_, fun j hj => ?_⟩
  ·rw [g3 j, g2 j, g1 j, if_neg (by omega), if_neg (by omega), if_pos (by omega)]
   exact hc.at_ j hj
  ·show _ = tlF (zTl (.slice sa n cap) mb) j
   by_cases e : j < 1578
   ·rw [J8e _ _ e, g3 j, g2 j, g1 j]
    by_cases e411 : j = 411
    ·subst e411; rfl
    by_cases e412 : j = 412
    ·subst e412; rfl
    rw [if_neg (by omega), if_neg (by omega), if_neg (by omega)]
    show Z[j]? = _
    rw [hZ, Array.getElem?_setIfInBounds, if_neg (by omega)]
    unfold rowS
    simp only [List.getElem?_toArray, List.getElem?_map, List.getElem?_range e, Option.map_some]
    rw [if_neg (by omega)]
    unfold tlV zTl
    simp [e411, e412]
   ·rw [Array.getElem?_eq_none (by omega)]
    unfold tlF
    rw [if_neg e]
theorem J50 (w : World) (M : Nat) (rv cv : Value) (x : Ms) (q : Tl) (se : List Se) (h : RunS w M rv cv x q se) (ha : q.ahead = true) :
  Calls Tryz.prog 100 #[.pointer (some ⟨M, 0, none⟩)] w fun e w' => e = .returned (.tuple #[]) ∧ w' = w := by
 have c0 := h.ahead.1
 rw [ha] at c0
 clear h ha
 go_enter Tryz.func100, Tryz.ntmps100
 go_wp2
 refine bodyPost_ret (results_none (by kernel_rfl) _ _ _) rfl ?_
 exact ⟨rfl, rfl⟩

theorem J7s {C : Array Value} {l : List Value} (hs : C.size = l.length) (h : ∀ j, j < l.length → C[j]? = l[j]?) : C = l.toArray := by
 apply Array.ext_getElem?
 intro j
 by_cases e : j < l.length
 ·rw [h j e]; simp
 ·rw [Array.getElem?_eq_none (by omega)]
  simp
  omega
theorem Jj6 (r wd : Nat → Int) (n : Int) (f : Nat → Int) : Tryz.prog.built 96 [(0, .agg (stL r wd n).toArray), (1, .agg (puL f).toArray)] = some (stL r wd n ++ puL f).toArray := by
 obtain ⟨C, h1, h2, h3⟩ := Jmf (stL r wd n).toArray (puL f).toArray (by simp [J0s]) (by simp [J1d])
 rw [h1, J7s (C := C) (l := stL r wd n ++ puL f) (by rw [h2, List.length_append, J0s, J1d]) (fun j hj => ?_)]
 rw [List.length_append, J0s, J1d] at hj
 rw [h3 j hj, List.getElem?_append, J0s]
 simp

set_option maxHeartbeats 400000 in
theorem Jbz (w : World) (M : Nat) (rv cv : Value) (x : Ms) (q : Tl) (se : List Se) (h : RunS w M rv cv x q se) (ha : q.ahead = false) (s0 : 0 ≤ x.steps) (s1 : x.steps ≤ 100000) :
  Calls Tryz.prog 100 #[.pointer (some ⟨M, 0, none⟩)] w fun e w' => e = .returned (.tuple #[]) ∧ RunS w' M rv cv x { q with ahead := true, br := x.r, bw := x.wd, bn := x.next, bp := q.puts, til := x.steps + 12 } se ∧ Below M w w' := by
 obtain ⟨c0, f0⟩ := h.ahead
 rw [ha] at c0
 have h1 := h.setAhead true
 have hw : wrap64 (x.steps + 12) = x.steps + 12 := by unfold wrap64; omega
 have hwr := J12
 obtain ⟨A, hA⟩ : ∃ A, A = stL x.r x.wd x.next := ⟨_, rfl⟩
 obtain ⟨B, hB⟩ : ∃ B, B = puL q.puts := ⟨_, rfl⟩
 have hAc := h1.stateC
 have hBc := h1.putsC
 dsimp only at hBc
 rw [← hA] at hAc
 rw [← hB] at hBc
 have hbu := Jj6 x.r x.wd x.next q.puts
 rw [← hA, ← hB] at hbu
 have hAl : A.length = 395 := by rw [hA, J0s]
 have hBl : B.length = 384 := by rw [hB, J1d]
 have hone : ∀ v ∈ A ++ B, v.oneCell' = true := by
  intro v hv
  rw [hA, hB] at hv
  rcases List.mem_append.1 hv with h2 | h2
  ·exact Jin _ _ _ v h2
  ·exact Jid _ v h2
 have h2 := (h1.drew).setBack x.r x.wd x.next q.puts
 rw [← hA, ← hB] at h2
 obtain ⟨w1, hw1⟩ : ∃ w1, w1 = w.setCell ⟨M, 797, none⟩ (.bool true) := ⟨_, rfl⟩
 rw [← hw1] at h1 h2 hAc hBc
 obtain ⟨w2, hw2⟩ : ∃ w2, w2 = w1.drew.setCells M 798 (A ++ B) := ⟨_, rfl⟩
 rw [← hw2] at h2
 have c4 := h2.run.steps.1
 dsimp only at c4
 obtain ⟨ct, ft⟩ := h2.til
 dsimp only at ct
 obtain ⟨ti, hti⟩ : ∃ ti, q.til = ti := ⟨_, rfl⟩
 obtain ⟨st, hst⟩ : ∃ st, x.steps = st := ⟨_, rfl⟩
 rw [hti] at ct
 rw [hst] at c4 hw
 have Hst : Hid (x.steps = st) := hst
 have H : Hid (RunS w M rv cv x q se ∧ (∀ j v, A[j]? = some v → w1.cell? ⟨M, 7 + j, none⟩ = some v) ∧ (∀ j v, B[j]? = some v → w1.cell? ⟨M, 413 + j, none⟩ = some v) ∧ A.length = 395 ∧ B.length = 384 ∧ (∀ v ∈ A ++ B, v.oneCell' = true) ∧ RunS w1 M rv cv x { q with ahead := true } se) := ⟨h, hAc, hBc, hAl, hBl, hone, h1⟩
 have H2 := J00 h2
 have HW1 : Hid (w1 = w.setCell ⟨M, 797, none⟩ (.bool true)) := hw1
 have HW2 : Hid (w2 = w1.drew.setCells M 798 (A ++ B)) := hw2
 have HB : Hid (Tryz.prog.built 96 [(0, .agg A.toArray), (1, .agg B.toArray)] = some (A ++ B).toArray) := hbu
 obtain ⟨S, HS⟩ : ∃ S : World → Prop, Hid (∀ w', S w' ↔ ((∀ j v, A[j]? = some v → w'.cell? ⟨M, 7 + j, none⟩ = some v) ∧ (∀ j v, B[j]? = some v → w'.cell? ⟨M, 413 + j, none⟩ = some v))) := ⟨_, fun _ => Iff.rfl⟩
 clear h h1 h2 hAc hBc hbu hA hB hone hw1 hw2 ha hti hst hAl hBl s0 s1
 obtain ⟨P, hP⟩ : ∃ P, P = fun (e : Ending) (w' : World) => e = .returned (.tuple #[]) ∧ RunS w' M rv cv x { q with ahead := true, br := x.r, bw := x.wd, bn := x.next, bp := q.puts, til := x.steps + 12 } se ∧ Below M w w' := ⟨_, rfl⟩
 rw [← hP]
 have HP : Hid (P = fun (e : Ending) (w' : World) => e = .returned (.tuple #[]) ∧ RunS w' M rv cv x { q with ahead := true, br := x.r, bw := x.wd, bn := x.next, bp := q.puts, til := x.steps + 12 } se ∧ Below M w w') := hP
 clear hP
 go_enter Tryz.func100, Tryz.ntmps100
 go_wp2_with (fail)
 rw [← HW1.out]
 refine J03 (S := S) [(0, true), (1, true), (2, true), (3, true), (4, true), (5, true), (6, true), (7, true), (8, true), (9, true), (10, true), (11, true), (12, true), (13, false)] (by kernel_rfl) (by kernel_rfl) (by kernel_rfl) ((HS.out _).2 ⟨H.out.2.1, H.out.2.2.1⟩) ?_
 have hne : Nonempty { w' // S w' } := ⟨⟨w1, (HS.out _).2 ⟨H.out.2.1, H.out.2.2.1⟩⟩⟩
 iterate 5 (refine J01 rfl (by kernel_rfl) (fun K hK => ?_); go_simp; refine hK _ _ ?_; clear hK K)
 refine J01 rfl (by kernel_rfl) (fun K hK => ⟨.agg A.toArray, fun i => J26 81 (.tmp 13) rfl M 7 rfl A _ ((HS.out _).1 i.property).1 Tryz.underlying81 rfl (by rw [H.out.2.2.2.1]; exact Jhl), ?_⟩); refine hK _ _ ?_; clear hK K
 go_simp
 iterate 3 (refine J01 rfl (by kernel_rfl) (fun K hK => ?_); go_simp; refine hK _ _ ?_; clear hK K)
 refine J01 rfl (by kernel_rfl) (fun K hK => ⟨.agg B.toArray, fun i => J26 94 (.tmp 17) rfl M 413 rfl B _ ((HS.out _).1 i.property).2 Tryz.underlying94 rfl (by rw [H.out.2.2.2.2.1]; exact Jhm), ?_⟩); refine hK _ _ ?_; clear hK K
 go_simp
 refine J01 rfl (by kernel_rfl) (fun K hK => ⟨.agg (A ++ B).toArray, fun i => Jff 96 #[(0, .tmp 14), (1, .tmp 18)] rfl _ (by simp [Act.eval]; exact HB.out), ?_⟩); refine hK _ _ ?_; clear hK K
 go_simp
 iterate 2 (refine J01 rfl (by kernel_rfl) (fun K hK => ?_); go_simp; refine hK _ _ ?_; clear hK K)
 refine J02 rfl (by kernel_rfl) (fun K hK => ?_)
 refine J3d 96 (.tmp 21) (.tmp 19) rfl M 798 (A ++ B).toArray rfl rfl (by rw [show (A ++ B).toArray.size = 779 by simp [H.out.2.2.2.1, H.out.2.2.2.2.1]]; exact Jo5) (fun j hj => H.out.2.2.2.2.2.2.drew.any (798 + j) (by simp [H.out.2.2.2.1, H.out.2.2.2.2.1] at hj; omega)) (by simpa using H.out.2.2.2.2.2.1) ?_
 have e2 : (A ++ B).toArray.toList = A ++ B := by simp
 rw [e2, ← HW2.out]
 clear e2
 refine hK _ _ ((HS.out _).2 ⟨fun j v hv => ?_, fun j v hv => ?_⟩) ?_
 ·rw [HW2.out, World.cell?_setCells_out _ _ _ _ _ (fun _ _ => .inl (by have := (List.getElem?_eq_some_iff.1 hv).1; have := H.out.2.2.2.1; dsimp only; omega))]
  exact H.out.2.1 j v hv
 ·rw [HW2.out, World.cell?_setCells_out _ _ _ _ _ (fun _ _ => .inl (by have := (List.getElem?_eq_some_iff.1 hv).1; have := H.out.2.2.2.2.1; dsimp only; omega))]
  exact H.out.2.2.1 j v hv
 clear hK K
 refine J07 ?_
 clear hne
 go_simp
 go_wp2
 go_end0
 rw [HP.out, Hst.out]
 refine ⟨rfl, H2.out.setTil _, ?_⟩
 rw [HW2.out, HW1.out]
 exact J0d (Below.grown (J08 (J0d (Below.refl _ _) _ _)) (J0q M _ _ _) (by have := H.out.1.lt; simp; omega) (fun b hb => by have := Option.some.inj hb; omega)) _ _

set_option maxHeartbeats 400000 in
theorem J66 (w : World) (M : Nat) (rv cv : Value) (x : Ms) (q : Tl) (se : List Se) (h : RunS w M rv cv x q se) :
  Calls Tryz.prog 73 #[.pointer (some ⟨M, 0, none⟩)] w fun e w' => e = .returned (.tuple #[]) ∧ RunS w' M rv cv { x with r := q.br, wd := q.bw, next := q.bn } { q with puts := q.bp, ahead := false } se ∧ Below M w w' := by
 obtain ⟨A, hA⟩ : ∃ A, A = stL q.br q.bw q.bn := ⟨_, rfl⟩
 obtain ⟨B, hB⟩ : ∃ B, B = puL q.bp := ⟨_, rfl⟩
 have hAc := h.backS
 have hBc := h.backP
 rw [← hA] at hAc
 rw [← hB] at hBc
 have hAl : A.length = 395 := by rw [hA, J0s]
 have hBl : B.length = 384 := by rw [hB, J1d]
 have hone : (∀ v ∈ A, v.oneCell' = true) ∧ (∀ v ∈ B, v.oneCell' = true) := by rw [hA, hB]; exact ⟨Jin _ _ _, Jid _⟩
 have h1 := h.drew.setState q.br q.bw q.bn
 have h2 := h1.setPuts q.bp
 rw [← hA] at h1 h2
 rw [← hB] at h2
 obtain ⟨w1, hw1⟩ : ∃ w1, w1 = w.drew.setCells M 7 A := ⟨_, rfl⟩
 rw [← hw1] at h1 h2
 obtain ⟨w2, hw2⟩ : ∃ w2, w2 = w1.setCells M 413 B := ⟨_, rfl⟩
 rw [← hw2] at h2
 obtain ⟨c0, f0⟩ := h2.ahead
 dsimp only at c0
 obtain ⟨b, hb⟩ : ∃ b, q.ahead = b := ⟨_, rfl⟩
 rw [hb] at c0
 have H : Hid (RunS w M rv cv x q se ∧ (∀ j v, A[j]? = some v → w.cell? ⟨M, 798 + j, none⟩ = some v) ∧ (∀ j v, B[j]? = some v → w.cell? ⟨M, 1193 + j, none⟩ = some v) ∧ A.length = 395 ∧ B.length = 384 ∧ ((∀ v ∈ A, v.oneCell' = true) ∧ (∀ v ∈ B, v.oneCell' = true)) ∧ RunS w1 M rv cv { x with r := q.br, wd := q.bw, next := q.bn } q se) := ⟨h, hAc, hBc, hAl, hBl, hone, h1⟩
 have H2 := J00 h2
 have HW1 : Hid (w1 = w.drew.setCells M 7 A) := hw1
 have HW2 : Hid (w2 = w1.setCells M 413 B) := hw2
 obtain ⟨S, HS⟩ : ∃ S : World → Prop, Hid (∀ w', S w' ↔ ((∀ j v, A[j]? = some v → w'.cell? ⟨M, 798 + j, none⟩ = some v) ∧ (∀ j v, B[j]? = some v → w'.cell? ⟨M, 1193 + j, none⟩ = some v))) := ⟨_, fun _ => Iff.rfl⟩
 have hS0 : S w.drew := (HS.out _).2 ⟨hAc, hBc⟩
 have hS1 : S w1 := by
  refine (HS.out _).2 ⟨fun j v hv => ?_, fun j v hv => ?_⟩
  ·rw [hw1, World.cell?_setCells_out _ _ _ _ _ (fun _ _ => .inr (by dsimp only; omega))]
   exact hAc j v hv
  ·rw [hw1, World.cell?_setCells_out _ _ _ _ _ (fun _ _ => .inr (by dsimp only; omega))]
   exact hBc j v hv
 have hS2 : S w2 := by
  refine (HS.out _).2 ⟨fun j v hv => ?_, fun j v hv => ?_⟩
  ·rw [hw2, World.cell?_setCells_out _ _ _ _ _ (fun _ _ => .inr (by dsimp only; omega))]
   exact ((HS.out _).1 hS1).1 j v hv
  ·rw [hw2, World.cell?_setCells_out _ _ _ _ _ (fun _ _ => .inr (by dsimp only; omega))]
   exact ((HS.out _).1 hS1).2 j v hv
 have HSS : Hid (S w.drew ∧ S w1 ∧ S w2) := ⟨hS0, hS1, hS2⟩
 clear h h1 h2 hAc hBc hA hB hone hw1 hw2 hb hAl hBl hS0 hS1 hS2
 obtain ⟨P, hP⟩ : ∃ P, P = fun (e : Ending) (w' : World) => e = .returned (.tuple #[]) ∧ RunS w' M rv cv { x with r := q.br, wd := q.bw, next := q.bn } { q with puts := q.bp, ahead := false } se ∧ Below M w w' := ⟨_, rfl⟩
 rw [← hP]
 have HP : Hid (P = fun (e : Ending) (w' : World) => e = .returned (.tuple #[]) ∧ RunS w' M rv cv { x with r := q.br, wd := q.bw, next := q.bn } { q with puts := q.bp, ahead := false } se ∧ Below M w w') := hP
 clear hP
 go_enter Tryz.func73, Tryz.ntmps73
 go_wp2_with (fail)
 refine J03 (S := S) [(0, true), (1, true), (2, true), (3, true), (4, true), (5, true), (6, true), (7, true), (8, true), (9, true), (10, true), (11, true), (12, true), (13, true), (14, true), (15, false), (16, true), (17, true), (18, false)] (by kernel_rfl) (by kernel_rfl) (by kernel_rfl) HSS.out.1 ?_
 have hne : Nonempty { w' // S w' } := ⟨⟨w1, HSS.out.2.1⟩⟩
 iterate 6 (refine J01 rfl (by kernel_rfl) (fun K hK => ?_); go_simp; refine hK _ _ ?_; clear hK K)
 refine J01 rfl (by kernel_rfl) (fun K hK => ⟨.agg A.toArray, fun i => J26 81 (.tmp 7) rfl M 798 rfl A _ ((HS.out _).1 i.property).1 Tryz.underlying81 rfl (by rw [H.out.2.2.2.1]; exact Jhl), ?_⟩); refine hK _ _ ?_; clear hK K
 go_simp
 iterate 4 (refine J01 rfl (by kernel_rfl) (fun K hK => ?_); go_simp; refine hK _ _ ?_; clear hK K)
 refine J01 rfl (by kernel_rfl) (fun K hK => ⟨.agg B.toArray, fun i => J26 94 (.tmp 12) rfl M 1193 rfl B _ ((HS.out _).1 i.property).2 Tryz.underlying94 rfl (by rw [H.out.2.2.2.2.1]; exact Jhm), ?_⟩); refine hK _ _ ?_; clear hK K
 go_simp
 iterate 3 (refine J01 rfl (by kernel_rfl) (fun K hK => ?_); go_simp; refine hK _ _ ?_; clear hK K)
 refine J02 rfl (by kernel_rfl) (fun K hK => ?_)
 refine J3d 81 (.tmp 16) (.tmp 8) rfl M 7 A.toArray rfl rfl (by rw [show A.toArray.size = 395 by simp [H.out.2.2.2.1]]; exact Jhl) (fun j hj => H.out.1.drew.any (7 + j) (by simp [H.out.2.2.2.1] at hj; omega)) (by simpa using H.out.2.2.2.2.2.1.1) ?_
 have e2 : A.toArray.toList = A := by simp
 rw [e2, ← HW1.out]
 clear e2
 refine hK _ _ HSS.out.2.1 ?_
 clear hK K
 go_simp
 iterate 2 (refine J01 rfl (by kernel_rfl) (fun K hK => ?_); go_simp; refine hK _ _ ?_; clear hK K)
 refine J02 rfl (by kernel_rfl) (fun K hK => ?_)
 refine J3d 94 (.tmp 18) (.tmp 13) rfl M 413 B.toArray rfl rfl (by rw [show B.toArray.size = 384 by simp [H.out.2.2.2.2.1]]; exact Jhm) (fun j hj => H.out.2.2.2.2.2.2.any (413 + j) (by simp [H.out.2.2.2.2.1] at hj; omega)) (by simpa using H.out.2.2.2.2.2.1.2) ?_
 have e2 : B.toArray.toList = B := by simp
 rw [e2, ← HW2.out]
 clear e2
 refine hK _ _ HSS.out.2.2 ?_
 clear hK K
 refine J07 ?_
 clear hne
 go_simp
 go_wp2
 go_end0
 rw [HP.out]
 refine ⟨rfl, H2.out.setAhead _, ?_⟩
 rw [HW2.out, HW1.out]
 have hM := H.out.1.lt
 exact J0d (Below.grown (Below.grown (J08 (Below.refl _ _)) (J0q M _ _ _) (by simp; omega) (fun b hb => by have := Option.some.inj hb; omega)) (J0q M _ _ _) (by have := (J0q M A 7 w.drew).size; simp at this; omega) (fun b hb => by have := Option.some.inj hb; omega)) _ _

theorem J17 (w : World) (M : Nat) (rv cv : Value) (x : Ms) (q : Tl) (se : List Se) (hl : se.length ≤ 200000) (h : RunS w M rv cv x q se) :
  Calls Tryz.prog 67 #[.pointer (some ⟨M, 0, none⟩)] w fun e w' => e = .returned (.tuple #[]) ∧ RunS w' M rv cv { x with r := q.br, wd := q.bw, next := q.bn } { q with puts := q.bp, ahead := false } (se ++ [⟨4, 0, 0⟩]) ∧ Below M w w' := by
 have H : Hid (RunS w M rv cv x q se ∧ se.length ≤ 200000) := ⟨h, hl⟩
 clear h hl
 go_enter Tryz.func67, Tryz.ntmps67
 go_wp2_with (fail)
 refine (J3v _ M rv cv _ se 4 0 0 H.out.2 H.out.1.run).mono ?_
 rintro e w2 ⟨rfl, r2, b2, _⟩
 have H2 : Hid (RunS w2 M rv cv x q (se ++ [⟨4, 0, 0⟩]) ∧ Below M w w2) := ⟨⟨r2⟩, b2⟩
 clear r2 b2
 go_wp2_with (fail)
 refine (J66 w2 M rv cv x q _ H2.out.1).mono ?_
 rintro e w3 ⟨rfl, r3, b3⟩
 have H3 := J00 (And.intro r3 (Below.trans H2.out.2 b3))
 clear r3 b3
 go_wp2
 go_end0
 exact ⟨rfl, H3.out.1, H3.out.2⟩
end
section
open Go.RowKit
set_option linter.unusedSimpArgs false
set_option linter.unusedVariables false
set_option maxHeartbeats 400000 in
theorem J73 (op a b c n s t x i : Int) (w : World) (M : Nat) (hop : op = 3 ∨ op = 4) (b0 : 0 ≤ b) (b1 : b < 10) (c0 : 0 ≤ c) (c1 : c < 6) (hi : wrap64 (n + x) = i)
  (hs : w.cell? ⟨M, 404 + c.toNat, none⟩ = some (V s)) (ht : w.cell? ⟨M, 404 + (c + 1).toNat, none⟩ = some (V t)) (hx : w.cell? ⟨M, 7 + b.toNat, none⟩ = some (V x)) (hM : M < w.heap.size) :
  Calls Tryz.prog 95 #[.pointer (some ⟨M, 0, none⟩), .agg #[V op, V a, V b, V c, V n]] w fun e w' =>
   e = .returned (.tuple #[V (wrap64 (i + s)), .bool (decide (0 ≤ i) && decide (i < wrap64 (t - s)))]) ∧ More w w' := by
 have hn : ¬ M = w.heap.size := by omega
 have hn' : ¬ w.heap.size = M := by omega
 have hc1 : wrap64 (c + 1) = c + 1 := by unfold wrap64; omega
 have c2 : c + 1 < 7 := by omega
 have c3 : 0 ≤ c + 1 := by omega
 have c4 : c < 7 := by omega
 have hwr := J12
 by_cases h0 : 0 ≤ i
 ·rcases hop with rfl | rfl
  all_goals
   go_enter Tryz.func95, Tryz.ntmps95
   go_wp2
   go_region
   go_wp2
   go_region
   go_wp2
   go_ret2
   refine ⟨by simp [h0, hi], ?_⟩
   exact ((More.refl _).alloc _ _).drew.drew
 ·rcases hop with rfl | rfl
  all_goals
   go_enter Tryz.func95, Tryz.ntmps95
   go_wp2
   go_region
   go_wp2
   go_region
   go_wp2
   go_ret2
   refine ⟨by simp [hi]; omega, ?_⟩
   exact ((More.refl _).alloc _ _).drew.drew

set_option maxHeartbeats 400000 in
theorem J72 (op a b c i s t : Int) (w : World) (M : Nat) (hop : op = 5 ∨ op = 6) (c0 : 0 ≤ c) (c1 : c < 6)
  (hs : w.cell? ⟨M, 404 + c.toNat, none⟩ = some (V s)) (ht : w.cell? ⟨M, 404 + (c + 1).toNat, none⟩ = some (V t)) (hM : M < w.heap.size) :
  Calls Tryz.prog 95 #[.pointer (some ⟨M, 0, none⟩), .agg #[V op, V a, V b, V c, V i]] w fun e w' =>
   e = .returned (.tuple #[V (wrap64 (i + s)), .bool (decide (0 ≤ i) && decide (i < wrap64 (t - s)))]) ∧ More w w' := by
 have hn : ¬ M = w.heap.size := by omega
 have hn' : ¬ w.heap.size = M := by omega
 have hc1 : wrap64 (c + 1) = c + 1 := by unfold wrap64; omega
 have c2 : c + 1 < 7 := by omega
 have c3 : 0 ≤ c + 1 := by omega
 have c4 : c < 7 := by omega
 have hwr := J12
 by_cases h0 : 0 ≤ i
 ·rcases hop with rfl | rfl
  all_goals
   go_enter Tryz.func95, Tryz.ntmps95
   go_wp2
   go_region
   go_wp2
   go_ret2
   refine ⟨by simp [h0], ?_⟩
   exact ((More.refl _).alloc _ _).drew
 ·rcases hop with rfl | rfl
  all_goals
   go_enter Tryz.func95, Tryz.ntmps95
   go_wp2
   go_region
   go_wp2
   go_ret2
   refine ⟨by simp; omega, ?_⟩
   exact ((More.refl _).alloc _ _).drew

theorem J9e (i : Ins) (w : World) (M : Nat) (rv cv : Value) (x : Ms) (se : List Se) (h : Run w M rv cv x se) (hop : i.op = 3 ∨ i.op = 4 ∨ i.op = 5 ∨ i.op = 6) (b0 : 0 ≤ i.b) (b1 : i.b < 10) (c0 : 0 ≤ i.c) (c1 : i.c < 6)
  (s0 : 0 ≤ x.st i.c.toNat) (s1 : x.st i.c.toNat ≤ x.st (i.c.toNat + 1)) (s2 : x.st (i.c.toNat + 1) ≤ 384) :
  Calls Tryz.prog 95 #[.pointer (some ⟨M, 0, none⟩), .agg #[V i.op, V i.a, V i.b, V i.c, V i.n]] w fun e w' =>
   ∃ (k : Int) (b : Bool), e = .returned (.tuple #[V k, .bool b]) ∧ (b = true ↔ 0 ≤ idxI x.r i ∧ idxI x.r i < x.st (i.c.toNat + 1) - x.st i.c.toNat) ∧ (b = true → k = x.st i.c.toNat + idxI x.r i) ∧ More w w' := by
 have ws : wrap64 (x.st (i.c.toNat + 1) - x.st i.c.toNat) = x.st (i.c.toNat + 1) - x.st i.c.toNat := by unfold wrap64; omega
 have hs := (h.st i.c.toNat (by omega)).1
 have ht := (h.st (i.c.toNat + 1) (by omega)).1
 rw [show i.c.toNat + 1 = (i.c + 1).toNat by omega] at ht
 have fin : ∀ (e : Ending) (w' : World), (e = .returned (.tuple #[V (wrap64 (idxI x.r i + x.st i.c.toNat)), .bool (decide (0 ≤ idxI x.r i) && decide (idxI x.r i < wrap64 (x.st (i.c.toNat + 1) - x.st i.c.toNat)))]) ∧ More w w') →
   ∃ (k : Int) (b : Bool), e = .returned (.tuple #[V k, .bool b]) ∧ (b = true ↔ 0 ≤ idxI x.r i ∧ idxI x.r i < x.st (i.c.toNat + 1) - x.st i.c.toNat) ∧ (b = true → k = x.st i.c.toNat + idxI x.r i) ∧ More w w' := by
  rintro e w' ⟨rfl, m⟩
  rw [ws]
  refine ⟨_, _, rfl, by simp, fun hb => ?_, m⟩
  simp at hb
  unfold wrap64
  omega
 by_cases h34 : i.op = 3 ∨ i.op = 4
 ·have hx := (h.r i.b.toNat (by omega)).1
  have e : idxI x.r i = wrap64 (i.n + x.r i.b.toNat) := by unfold idxI; rw [if_neg (by omega), Int.add_comm]
  rw [show (i.c.toNat + 1) = (i.c + 1).toNat by omega] at fin ⊢
  exact (J73 i.op i.a i.b i.c i.n _ _ _ _ w M h34 b0 b1 c0 c1 e.symm hs ht hx h.lt).mono fin
 ·have e : idxI x.r i = i.n := by unfold idxI; rw [if_pos (by omega)]
  rw [show (i.c.toNat + 1) = (i.c + 1).toNat by omega] at fin ⊢
  rw [e] at fin ⊢
  exact (J72 i.op i.a i.b i.c i.n _ _ w M (by omega) c0 c1 hs ht h.lt).mono fin

theorem J27 (i : Ins) (how : Int) (w : World) (M : Nat) (rv cv : Value) (x : Ms) (se : List Se) (h : Run w M rv cv x se) (hl : se.length ≤ 200000) (hop : i.op = 3 ∨ i.op = 4 ∨ i.op = 5 ∨ i.op = 6) (b0 : 0 ≤ i.b) (b1 : i.b < 10) (c0 : 0 ≤ i.c) (c1 : i.c < 6)
  (s0 : 0 ≤ x.st i.c.toNat) (s1 : x.st i.c.toNat ≤ x.st (i.c.toNat + 1)) (s2 : x.st (i.c.toNat + 1) ≤ 384) (hin : 0 ≤ idxI x.r i ∧ idxI x.r i < x.st (i.c.toNat + 1) - x.st i.c.toNat) :
  Calls Tryz.prog 60 #[.pointer (some ⟨M, 0, none⟩), .agg #[V i.op, V i.a, V i.b, V i.c, V i.n], V how] w fun e w' =>
   e = .returned (.tuple #[V (x.st i.c.toNat + idxI x.r i), .bool true]) ∧ Run w' M rv cv x (se ++ [⟨2, x.st i.c.toNat + idxI x.r i, how⟩]) ∧ Below M w w' := by
 have hN := fun w1 (m : More w w1) => J9e i w1 M rv cv x se (h.more m) hop b0 b1 c0 c1 s0 s1 s2
 obtain ⟨op, a, b, c, n⟩ := i
 dsimp only at *
 have HN : Hid (∀ w1, More w w1 → Calls Tryz.prog 95 #[.pointer (some ⟨M, 0, none⟩), .agg #[V op, V a, V b, V c, V n]] w1 fun e w' => e = .returned (.tuple #[V (x.st c.toNat + idxI x.r ⟨op, a, b, c, n⟩), .bool true]) ∧ More w1 w') := by
  intro w1 m
  refine (hN w1 m).mono ?_
  rintro e w2 ⟨k, b, rfl, h1, h2, m2⟩
  obtain rfl : b = true := h1.2 hin
  rw [h2 rfl]
  exact ⟨rfl, m2⟩
 have H : Hid (Run w M rv cv x se ∧ se.length ≤ 200000) := ⟨h, hl⟩
 obtain ⟨k, hk⟩ : ∃ k, x.st c.toNat + idxI x.r ⟨op, a, b, c, n⟩ = k := ⟨_, rfl⟩
 rw [hk] at HN ⊢
 clear hN h hl hin hk s0 s1 s2
 go_enter Tryz.func60, Tryz.ntmps60
 go_wp2_with (fail)
 refine (HN.out _ ((More.refl _).alloc _ _)).mono ?_
 rintro e w1 ⟨rfl, m1⟩
 have Hm : Hid (More w w1) := ((More.refl _).alloc _ _).trans m1
 clear m1
 go_wp2_with (fail)
 refine (J3v _ M rv cv x se 2 k how H.out.2 (H.out.1.more Hm.out)).mono ?_
 rintro e w2 ⟨rfl, r2, b2, _⟩
 have H2 : Hid (Run w2 M rv cv x (se ++ [⟨2, k, how⟩]) ∧ Below M w1 w2) := ⟨r2, b2⟩
 clear r2 b2
 go_wp2
 go_ret2
 exact ⟨rfl, H2.out.1, Below.trans (Below.mono Hm.out (Nat.le_of_lt H.out.1.lt)) H2.out.2⟩

theorem J2l (i : Ins) (how : Int) (w : World) (M : Nat) (rv cv : Value) (x : Ms) (se : List Se) (h : Run w M rv cv x se) (hop : i.op = 3 ∨ i.op = 4 ∨ i.op = 5 ∨ i.op = 6) (b0 : 0 ≤ i.b) (b1 : i.b < 10) (c0 : 0 ≤ i.c) (c1 : i.c < 6)
  (s0 : 0 ≤ x.st i.c.toNat) (s1 : x.st i.c.toNat ≤ x.st (i.c.toNat + 1)) (s2 : x.st (i.c.toNat + 1) ≤ 384) (hin : ¬ (0 ≤ idxI x.r i ∧ idxI x.r i < x.st (i.c.toNat + 1) - x.st i.c.toNat)) :
  Calls Tryz.prog 60 #[.pointer (some ⟨M, 0, none⟩), .agg #[V i.op, V i.a, V i.b, V i.c, V i.n], V how] w fun e w' =>
   e = .returned (.tuple #[V 0, .bool false]) ∧ Run w' M rv cv { x with fin := 2, ended := true } se ∧ Below M w w' := by
 have hN := fun w1 (m : More w w1) => J9e i w1 M rv cv x se (h.more m) hop b0 b1 c0 c1 s0 s1 s2
 obtain ⟨op, a, b, c, n⟩ := i
 dsimp only at *
 have HN : Hid (∀ w1, More w w1 → Calls Tryz.prog 95 #[.pointer (some ⟨M, 0, none⟩), .agg #[V op, V a, V b, V c, V n]] w1 fun e w' => (∃ k, e = .returned (.tuple #[V k, .bool false])) ∧ More w1 w') := by
  intro w1 m
  refine (hN w1 m).mono ?_
  rintro e w2 ⟨k, b, rfl, h1, h2, m2⟩
  cases b with
  | true => exact absurd (h1.1 rfl) hin
  | false => exact ⟨⟨k, rfl⟩, m2⟩
 have H : Hid (Run w M rv cv x se) := h
 clear hN h hin s0 s1 s2
 go_enter Tryz.func60, Tryz.ntmps60
 go_wp2_with (fail)
 refine (HN.out _ ((More.refl _).alloc _ _)).mono ?_
 rintro e w1 ⟨⟨k, rfl⟩, m1⟩
 have Hm : Hid (More w w1) := ((More.refl _).alloc _ _).trans m1
 clear m1
 go_wp2_with (fail)
 refine (J3k _ M rv cv x se 2 (H.out.more Hm.out)).mono ?_
 rintro e w2 ⟨rfl, r2, b2⟩
 have H2 : Hid (Run w2 M rv cv { x with fin := 2, ended := true } se ∧ Below M w1 w2) := ⟨r2, b2⟩
 clear r2 b2
 go_wp2
 go_ret2
 exact ⟨rfl, H2.out.1, Below.trans (Below.mono Hm.out (Nat.le_of_lt H.out.lt)) H2.out.2⟩
end
section
open Go.RowKit
theorem op_1 (a b : Int) (w : World) :
  Calls Tryz.prog 97 #[V 1, V a, V b] w fun e w' => e = .returned (V (wrap64 (a + b))) ∧ w' = w := by
 rw [← Jlg a b]
 go_enter Tryz.func97, Tryz.ntmps97
 go_wp2
 go_ret
 exact ⟨rfl, rfl⟩

theorem op_2 (a b : Int) (w : World) :
  Calls Tryz.prog 97 #[V 2, V a, V b] w fun e w' => e = .returned (V (wrap64 (a - b))) ∧ w' = w := by
 rw [← Jln a b]
 go_enter Tryz.func97, Tryz.ntmps97
 go_wp2
 go_ret
 exact ⟨rfl, rfl⟩

theorem op_3 (a b : Int) (w : World) :
  Calls Tryz.prog 97 #[V 3, V a, V b] w fun e w' => e = .returned (V (wrap64 (a * b))) ∧ w' = w := by
 rw [← Jli a b]
 go_enter Tryz.func97, Tryz.ntmps97
 go_wp2
 go_ret
 exact ⟨rfl, rfl⟩

theorem op_4 (a b : Int) (w : World) :
  Calls Tryz.prog 97 #[V 4, V a, V b] w fun e w' => e = .returned (V (wrap64 ((toU a &&& toU b : Nat) : Int))) ∧ w' = w := by
 rw [← Jlh a b]
 go_enter Tryz.func97, Tryz.ntmps97
 go_wp2
 go_ret
 exact ⟨rfl, rfl⟩

theorem op_5 (a b : Int) (w : World) :
  Calls Tryz.prog 97 #[V 5, V a, V b] w fun e w' => e = .returned (V (wrap64 ((toU a ||| toU b : Nat) : Int))) ∧ w' = w := by
 rw [← Jnn a b]
 go_enter Tryz.func97, Tryz.ntmps97
 go_wp2
 go_ret
 exact ⟨rfl, rfl⟩

theorem op_6 (a b : Int) (w : World) :
  Calls Tryz.prog 97 #[V 6, V a, V b] w fun e w' => e = .returned (V (wrap64 ((toU a ^^^ toU b : Nat) : Int))) ∧ w' = w := by
 rw [← Jlo a b]
 go_enter Tryz.func97, Tryz.ntmps97
 go_wp2
 go_ret
 exact ⟨rfl, rfl⟩

theorem op_7 (a b : Int) (w : World) :
  Calls Tryz.prog 97 #[V 7, V a, V b] w fun e w' => e = .returned (V (wrap64 ((toU a * 2 ^ (toU b % 64) : Nat) : Int))) ∧ w' = w := by
 have h63 := and63 b
 have h0 : (0 : Int) ≤ ((toU b % 64 : Nat) : Int) := by omega
 have hk : min (toU b % 64) 64 = toU b % 64 := by omega
 rw [← Jll a _]
 go_enter Tryz.func97, Tryz.ntmps97
 go_wp2
 go_ret
 exact ⟨rfl, rfl⟩

theorem op_8 (a b : Int) (w : World) :
  Calls Tryz.prog 97 #[V 8, V a, V b] w fun e w' => e = .returned (V (wrap64 ((toU a / 2 ^ (toU b % 64) : Nat) : Int))) ∧ w' = w := by
 have h63 := and63 b
 have h0 : (0 : Int) ≤ ((toU b % 64 : Nat) : Int) := by omega
 have hk : min (toU b % 64) 64 = toU b % 64 := by omega
 rw [← Jlm a _]
 go_enter Tryz.func97, Tryz.ntmps97
 go_wp2
 go_ret
 exact ⟨rfl, rfl⟩

theorem Jia (a b : Int) (w : World) (hy : toU b = 0) :
  Calls Tryz.prog 97 #[V 9, V a, V b] w fun e w' => e = .returned (V (wrap64 ((toU a / toU b : Nat) : Int))) ∧ w' = w := by
 have hy' : (IntKind.u64.wrap b == 0) = true := by rw [uwrap, hy]; rfl
 rw [← Jkz a b hy]
 go_enter Tryz.func97, Tryz.ntmps97
 go_wp2
 go_ret
 exact ⟨rfl, rfl⟩

theorem Ji9 (a b : Int) (w : World) (hy : toU b ≠ 0) :
  Calls Tryz.prog 97 #[V 9, V a, V b] w fun e w' => e = .returned (V (wrap64 ((toU a / toU b : Nat) : Int))) ∧ w' = w := by
 have hy' : (IntKind.u64.wrap b == 0) = false := by rw [uwrap]; simp [hy]
 have hy2 : ¬ IntKind.u64.wrap b = 0 := by rw [uwrap]; omega
 rw [← Jlj a b]
 go_enter Tryz.func97, Tryz.ntmps97
 go_wp2
 go_ret
 exact ⟨rfl, rfl⟩

theorem Jgb (a b : Int) (w : World) (hy : toU b = 0) :
  Calls Tryz.prog 97 #[V 10, V a, V b] w fun e w' => e = .returned (V (wrap64 ((toU a % toU b : Nat) : Int))) ∧ w' = w := by
 have hy' : (IntKind.u64.wrap b == 0) = true := by rw [uwrap, hy]; rfl
 rw [← Jl5 a b hy]
 go_enter Tryz.func97, Tryz.ntmps97
 go_wp2
 go_ret
 exact ⟨rfl, rfl⟩

theorem Jga (a b : Int) (w : World) (hy : toU b ≠ 0) :
  Calls Tryz.prog 97 #[V 10, V a, V b] w fun e w' => e = .returned (V (wrap64 ((toU a % toU b : Nat) : Int))) ∧ w' = w := by
 have hy' : (IntKind.u64.wrap b == 0) = false := by rw [uwrap]; simp [hy]
 have hy2 : ¬ IntKind.u64.wrap b = 0 := by rw [uwrap]; omega
 rw [← Jlk a b]
 go_enter Tryz.func97, Tryz.ntmps97
 go_wp2
 go_ret
 exact ⟨rfl, rfl⟩

theorem Jks (op a b : Int) (w : World) (h : op < 1 ∨ 10 < op) :
  Calls Tryz.prog 97 #[V op, V a, V b] w fun e w' => e = .returned (V 0) ∧ w' = w := by
 have e1 : (op == 1) = false := by simp; omega
 have e2 : (op == 2) = false := by simp; omega
 have e3 : (op == 3) = false := by simp; omega
 have e4 : (op == 4) = false := by simp; omega
 have e5 : (op == 5) = false := by simp; omega
 have e6 : (op == 6) = false := by simp; omega
 have e7 : (op == 7) = false := by simp; omega
 have e8 : (op == 8) = false := by simp; omega
 have e9 : (op == 9) = false := by simp; omega
 have e10 : (op == 10) = false := by simp; omega
 clear h
 go_enter Tryz.func97, Tryz.ntmps97
 go_wp2
 go_ret
 exact ⟨rfl, rfl⟩

theorem Jct (a b : Int) (w : World) (h : (IntKind.u64.wrap a == IntKind.u64.wrap b) = true) :
  Calls Tryz.prog 96 #[V 1, V a, V b] w fun e w' => e = .returned (.bool true) ∧ w' = w.alloc (.cells #[V 1] 3) := by
 go_enter Tryz.func96, Tryz.ntmps96
 go_wp2
 go_ret
 exact ⟨rfl, rfl⟩

theorem Jfi (a b : Int) (w : World) (h : (IntKind.u64.wrap a == IntKind.u64.wrap b) = false) :
  Calls Tryz.prog 96 #[V 1, V a, V b] w fun e w' => e = .returned (.bool false) ∧ w' = w.alloc (.cells #[V 1] 3) := by
 go_enter Tryz.func96, Tryz.ntmps96
 go_wp2
 go_ret
 exact ⟨rfl, rfl⟩

theorem Jcu (a b : Int) (w : World) (h : (IntKind.u64.wrap a != IntKind.u64.wrap b) = true) :
  Calls Tryz.prog 96 #[V 2, V a, V b] w fun e w' => e = .returned (.bool true) ∧ w' = w.alloc (.cells #[V 2] 3) := by
 go_enter Tryz.func96, Tryz.ntmps96
 go_wp2
 go_ret
 exact ⟨rfl, rfl⟩

theorem Jfj (a b : Int) (w : World) (h : (IntKind.u64.wrap a != IntKind.u64.wrap b) = false) :
  Calls Tryz.prog 96 #[V 2, V a, V b] w fun e w' => e = .returned (.bool false) ∧ w' = w.alloc (.cells #[V 2] 3) := by
 go_enter Tryz.func96, Tryz.ntmps96
 go_wp2
 go_ret
 exact ⟨rfl, rfl⟩

theorem Jcv (a b : Int) (w : World) (h : decide (IntKind.u64.wrap a < IntKind.u64.wrap b) = true) :
  Calls Tryz.prog 96 #[V 3, V a, V b] w fun e w' => e = .returned (.bool true) ∧ w' = w.alloc (.cells #[V 3] 3) := by
 go_enter Tryz.func96, Tryz.ntmps96
 go_wp2
 go_ret
 exact ⟨rfl, rfl⟩

theorem Jfk (a b : Int) (w : World) (h : decide (IntKind.u64.wrap a < IntKind.u64.wrap b) = false) :
  Calls Tryz.prog 96 #[V 3, V a, V b] w fun e w' => e = .returned (.bool false) ∧ w' = w.alloc (.cells #[V 3] 3) := by
 go_enter Tryz.func96, Tryz.ntmps96
 go_wp2
 go_ret
 exact ⟨rfl, rfl⟩

theorem Jcw (a b : Int) (w : World) (h : decide (IntKind.u64.wrap b ≤ IntKind.u64.wrap a) = true) :
  Calls Tryz.prog 96 #[V 4, V a, V b] w fun e w' => e = .returned (.bool true) ∧ w' = w.alloc (.cells #[V 4] 3) := by
 go_enter Tryz.func96, Tryz.ntmps96
 go_wp2
 go_ret
 exact ⟨rfl, rfl⟩

theorem Jfl (a b : Int) (w : World) (h : decide (IntKind.u64.wrap b ≤ IntKind.u64.wrap a) = false) :
  Calls Tryz.prog 96 #[V 4, V a, V b] w fun e w' => e = .returned (.bool false) ∧ w' = w.alloc (.cells #[V 4] 3) := by
 go_enter Tryz.func96, Tryz.ntmps96
 go_wp2
 go_ret
 exact ⟨rfl, rfl⟩

theorem Jcy (c a b : Int) (w : World) (h1 : (c == 1) = false) (h2 : (c == 2) = false) (h3 : (c == 3) = false) (h4 : (c == 4) = false) :
  Calls Tryz.prog 96 #[V c, V a, V b] w fun e w' => e = .returned (.bool false) ∧ w' = w.alloc (.cells #[V c] 3) := by
 go_enter Tryz.func96, Tryz.ntmps96
 go_wp2
 go_ret
 exact ⟨rfl, rfl⟩
theorem Ja9 (op a b : Int) (w : World) :
  Calls Tryz.prog 97 #[V op, V a, V b] w fun e w' => e = .returned (V (opI op a b)) ∧ w' = w := by
 by_cases h : op < 1 ∨ 10 < op
 ·rw [show opI op a b = 0 by unfold opI; rw [if_neg (by omega), if_neg (by omega), if_neg (by omega), if_neg (by omega), if_neg (by omega), if_neg (by omega), if_neg (by omega), if_neg (by omega), if_neg (by omega), if_neg (by omega)]]
  exact Jks op a b w h
 have hs : op = 1 ∨ op = 2 ∨ op = 3 ∨ op = 4 ∨ op = 5 ∨ op = 6 ∨ op = 7 ∨ op = 8 ∨ op = 9 ∨ op = 10 := by omega
 rcases hs with rfl | rfl | rfl | rfl | rfl | rfl | rfl | rfl | rfl | rfl
 ·rw [opI_1]; exact op_1 a b w
 ·rw [opI_2]; exact op_2 a b w
 ·rw [opI_3]; exact op_3 a b w
 ·rw [opI_4]; exact op_4 a b w
 ·rw [opI_5]; exact op_5 a b w
 ·rw [opI_6]; exact op_6 a b w
 ·rw [opI_7]; exact op_7 a b w
 ·rw [opI_8]; exact op_8 a b w
 ·rw [opI_9]
  by_cases hy : toU b = 0
  ·exact Jia a b w hy
  ·exact Ji9 a b w hy
 ·rw [Joa]
  by_cases hy : toU b = 0
  ·exact Jgb a b w hy
  ·exact Jga a b w hy

theorem Jcx (c a b : Int) (w : World) :
  Calls Tryz.prog 96 #[V c, V a, V b] w fun e w' => e = .returned (.bool (J1f c a b)) ∧ w' = w.alloc (.cells #[V c] 3) := by
 by_cases h1 : c = 1
 ·subst h1
  rw [Jjx]
  cases h : (IntKind.u64.wrap a == IntKind.u64.wrap b)
  ·exact Jfi a b w h
  ·exact Jct a b w h
 by_cases h2 : c = 2
 ·subst h2
  rw [Jjy]
  cases h : (IntKind.u64.wrap a != IntKind.u64.wrap b)
  ·exact Jfj a b w h
  ·exact Jcu a b w h
 by_cases h3 : c = 3
 ·subst h3
  rw [Jjz]
  cases h : decide (IntKind.u64.wrap a < IntKind.u64.wrap b)
  ·exact Jfk a b w h
  ·exact Jcv a b w h
 by_cases h4 : c = 4
 ·subst h4
  rw [Jk0]
  cases h : decide (IntKind.u64.wrap b ≤ IntKind.u64.wrap a)
  ·exact Jfl a b w h
  ·exact Jcw a b w h
 rw [show J1f c a b = false by simp [J1f, *]]
 exact Jcy c a b w (by simp [h1]) (by simp [h2]) (by simp [h3]) (by simp [h4])
end
section
open Go.RowKit
set_option linter.unusedSimpArgs false
set_option linter.unusedVariables false
set_option maxHeartbeats 400000 in
theorem seq_holds (op a b c n x y : Int) (w : World) (M : Nat) (a0 : 0 ≤ a) (a1 : a < 10) (b0 : 0 ≤ b) (b1 : b < 10)
  (hx : w.cell? ⟨M, 7 + a.toNat, none⟩ = some (V x)) (hy : w.cell? ⟨M, 7 + b.toNat, none⟩ = some (V y)) (hM : M < w.heap.size) :
  Calls Tryz.prog 61 #[.pointer (some ⟨M, 0, none⟩), .agg #[V op, V a, V b, V c, V n]] w fun e w' => e = .returned (.bool (J1f c x y)) ∧ More w w' := by
 have hn : ¬ M = w.heap.size := by omega
 have hn' : ¬ w.heap.size = M := by omega
 have Hh : Hid (∀ w : World, Calls Tryz.prog 96 #[V c, V x, V y] w fun e w' => e = .returned (.bool (J1f c x y)) ∧ More w w') := fun w => (Jcx c x y w).mono (by rintro e w' ⟨rfl, rfl⟩; exact ⟨rfl, (More.refl _).alloc _ _⟩)
 obtain ⟨h, hh⟩ : ∃ h, J1f c x y = h := ⟨_, rfl⟩
 rw [hh] at Hh ⊢
 clear hh
 obtain ⟨S, HS⟩ : ∃ S : World → Prop, Hid (∀ w', S w' ↔ More (w.alloc (.cells #[V op, V a, V b, V c, V n] 41)) w') := ⟨_, fun _ => Iff.rfl⟩
 have k1 : ∀ i : { w' // S w' }, i.val.cell? ⟨w.heap.size, 1, none⟩ = some (V a) := fun i => ((HS.out _).1 i.property).cell (by go_simp)
 have k2 : ∀ i : { w' // S w' }, i.val.cell? ⟨w.heap.size, 2, none⟩ = some (V b) := fun i => ((HS.out _).1 i.property).cell (by go_simp)
 have k3 : ∀ i : { w' // S w' }, i.val.cell? ⟨w.heap.size, 3, none⟩ = some (V c) := fun i => ((HS.out _).1 i.property).cell (by go_simp)
 have ka : ∀ i : { w' // S w' }, i.val.cell? ⟨M, 7 + a.toNat, none⟩ = some (V x) := fun i => ((HS.out _).1 i.property).cell (by go_simp)
 have kb : ∀ i : { w' // S w' }, i.val.cell? ⟨M, 7 + b.toNat, none⟩ = some (V y) := fun i => ((HS.out _).1 i.property).cell (by go_simp)
 have hne : Nonempty { w' // S w' } := ⟨⟨_, (HS.out _).2 (More.refl _)⟩⟩
 go_enter Tryz.func61, Tryz.ntmps61
 go_wp2_with (fail)
 refine J03 (S := S) [(0, true), (1, true), (2, true), (3, true), (4, true), (5, true), (6, true), (7, true), (8, true), (9, true), (10, true), (11, true), (12, true), (13, true), (14, true), (15, true), (16, true), (17, true), (18, false), (19, true)] (by kernel_rfl) (by kernel_rfl) (by kernel_rfl) ((HS.out _).2 (More.refl _).drew) ?_
 iterate 18 (refine J01 rfl (by kernel_rfl) (fun K hK => ?_); go_simp; refine hK _ _ ?_; clear hK K)
 refine J02 rfl (by kernel_rfl) (fun K hK => ?_); go_simp
 refine (Hh.out _).mono ?_
 rintro e w5 ⟨rfl, m5⟩
 have Hm5 : Hid (More (w.alloc (.cells #[V op, V a, V b, V c, V n] 41)) w5) := (More.refl _).drew.trans m5
 clear m5
 go_simp
 refine hK _ _ ((HS.out _).2 Hm5.out) ?_; clear hK K
 refine J01 rfl (by kernel_rfl) (fun K hK => ?_); go_simp; refine hK _ _ ?_; clear hK K
 refine J07 ?_
 clear k1 k2 k3 ka kb hne
 go_wp2
 go_ret
 exact ⟨rfl, ((More.refl _).alloc _ _).trans Hm5.out⟩

set_option maxHeartbeats 400000 in
theorem J56 (op a b c n : Int) (w : World) (M : Nat) (rv cv : Value) (x : Ms) (se : List Se) (h : Run w M rv cv x se) (o0 : 21 ≤ op) (o1 : op ≤ 30) (h9 : ¬ op = 29) (h10 : ¬ op = 30) (a0 : 0 ≤ a) (a1 : a < 10) (b0 : 0 ≤ b) (b1 : b < 10) (c0 : 0 ≤ c) (c1 : c < 10) :
  Calls Tryz.prog 62 #[.pointer (some ⟨M, 0, none⟩), .agg #[V op, V a, V b, V c, V n]] w fun e w' =>
   e = .returned (.tuple #[]) ∧ Run w' M rv cv { x with r := setR x.r a (opI (op - 20) (x.r b.toNat) (x.r c.toNat)) } se ∧ Below M w w' := by
 have hM := h.lt
 have hn : ¬ M = w.heap.size := by omega
 have hn' : ¬ w.heap.size = M := by omega
 have hw : wrap64 (op - 20) = op - 20 := by unfold wrap64; omega
 have hwr := J12
 have t9 : (op - 20 == 9) = false := by simp; omega
 have t10 : (op - 20 == 10) = false := by simp; omega
 have t9' : ¬ op - 20 = 9 := by omega
 have t10' : ¬ op - 20 = 10 := by omega
 obtain ⟨ya, fa⟩ := h.r a.toNat (by omega)
 have yb := (h.r b.toNat (by omega)).1
 have yc := (h.r c.toNat (by omega)).1
 obtain ⟨y, hy⟩ : ∃ y, x.r b.toNat = y := ⟨_, rfl⟩
 obtain ⟨z, hz⟩ : ∃ z, x.r c.toNat = z := ⟨_, rfl⟩
 rw [hy] at yb ⊢
 rw [hz] at yc ⊢
 have Hh : Hid (∀ w : World, Calls Tryz.prog 97 #[V (op - 20), V y, V z] w fun e w' => e = .returned (V (opI (op - 20) y z)) ∧ w' = w) := fun w => Ja9 _ _ _ w
 obtain ⟨q, hq⟩ : ∃ q, opI (op - 20) y z = q := ⟨_, rfl⟩
 rw [hq] at Hh ⊢
 have H : Hid (Run w M rv cv x se) := h
 have Ha : Hid (a.toNat < 10) := (by omega : a.toNat < 10)
 clear hq hy hz h
 obtain ⟨S, HS⟩ : ∃ S : World → Prop, Hid (∀ w', S w' ↔ w'.cell? ⟨w.heap.size, 1, none⟩ = some (V a)) := ⟨_, fun _ => Iff.rfl⟩
 have k1 : ∀ i : { w' // S w' }, i.val.cell? ⟨w.heap.size, 1, none⟩ = some (V a) := fun i => (HS.out _).1 i.property
 have hne : Nonempty { w' // S w' } := ⟨⟨w.alloc (.cells #[V op, V a, V b, V c, V n] 41), (HS.out _).2 (by go_simp)⟩⟩
 go_enter Tryz.func62, Tryz.ntmps62
 go_wp2
 go_region
 go_wp2_with (fail)
 refine J03 (S := S) [(0, true), (1, true), (2, true), (3, true), (4, true), (5, true), (7, true), (8, true), (9, true), (6, false), (10, true), (11, false)] (by kernel_rfl) (by kernel_rfl) (by kernel_rfl) ?_ ?_
 ·exact (HS.out _).2 (by go_simp)
 iterate 9 (refine J01 rfl (by kernel_rfl) (fun K hK => ?_); go_simp; refine hK _ _ ?_; clear hK K)
 refine J02 rfl (by kernel_rfl) (fun K hK => ?_); go_simp
 refine (Hh.out _).mono ?_
 rintro e w5 ⟨rfl, rfl⟩
 go_simp
 refine hK _ _ ((HS.out _).2 (by go_simp)) ?_; clear hK K
 refine J01 rfl (by kernel_rfl) (fun K hK => ?_); go_simp; refine hK _ _ ?_; clear hK K
 refine J02 rfl (by kernel_rfl) (fun K hK => ?_); go_simp
 refine hK _ _ ((HS.out _).2 (by go_simp)) ?_; clear hK K
 refine J07 ?_
 clear k1 hne
 go_wp2
 go_end0
 exact ⟨rfl, ((((H.out.setR a.toNat Ha.out q).alloc _).drew).drew), J08 (J08 (J05 (J0d (Below.refl _ _) _ _) (by have := H.out.lt; simp; omega) _))⟩

set_option maxHeartbeats 1000000 in
theorem J54 (a b c n : Int) (w : World) (M : Nat) (rv cv : Value) (x : Ms) (se : List Se) (h : Run w M rv cv x se) (hl : se.length ≤ 200000) (a0 : 0 ≤ a) (a1 : a < 10) (b0 : 0 ≤ b) (b1 : b < 10) (c0 : 0 ≤ c) (c1 : c < 10) :
  Calls Tryz.prog 62 #[.pointer (some ⟨M, 0, none⟩), .agg #[V 29, V a, V b, V c, V n]] w fun e w' =>
   e = .returned (.tuple #[]) ∧ Run w' M rv cv { x with r := setR x.r a (opI (29 - 20) (x.r b.toNat) (x.r c.toNat)) } (se ++ [⟨3, x.r b.toNat, x.r c.toNat⟩]) ∧ Below M w w' := by
 have hM := h.lt
 have hn : ¬ M = w.heap.size := by omega
 have hn' : ¬ w.heap.size = M := by omega
 have hwr := J12
 have yb := (h.r b.toNat (by omega)).1
 have yc := (h.r c.toNat (by omega)).1
 obtain ⟨y, hy⟩ : ∃ y, x.r b.toNat = y := ⟨_, rfl⟩
 obtain ⟨z, hz⟩ : ∃ z, x.r c.toNat = z := ⟨_, rfl⟩
 rw [hy] at yb ⊢
 rw [hz] at yc ⊢
 have Hl : Hid (se.length ≤ 200000) := hl
 have H : Hid (Run w M rv cv x se) := h
 have Ha : Hid (a.toNat < 10) := (by omega : a.toNat < 10)
 have w9 : wrap64 9 = 9 := by unfold wrap64; omega
 have w10 : wrap64 10 = 10 := by unfold wrap64; omega
 have Hh : Hid (∀ w : World, Calls Tryz.prog 97 #[V 9, V y, V z] w fun e w' => e = .returned (V (opI (29 - 20) y z)) ∧ w' = w) := fun w => Ja9 _ _ _ w
 obtain ⟨q, hq⟩ : ∃ q, opI (29 - 20) y z = q := ⟨_, rfl⟩
 rw [hq] at Hh ⊢
 clear hq hy hz h hl
 go_enter Tryz.func62, Tryz.ntmps62
 go_wp2
 go_region
 go_wp2_with (fail)
 refine (J3v _ M rv cv x se 3 y z Hl.out (H.out.alloc _).drew).mono ?_
 rintro e w2 ⟨rfl, r2, b2, kp⟩
 have kb := kp w.heap.size (by simp) (by omega) (fun sv hsv => H.out.notOwn w.heap.size (Nat.le_refl _) sv (by rw [← hsv]; exact (World.cell?_of_block ((World.grownBy_alloc w _ none).block M hM (by simp))).symm))
 have q1 : w2.cell? ⟨w.heap.size, 1, none⟩ = some (V a) := by rw [World.cell?_of_block kb.1]; go_simp
 have H2 : Hid (Run w2 M rv cv x (se ++ [⟨3, y, z⟩]) ∧ Below M (w.alloc (.cells #[V 29, V a, V b, V c, V n] 41)).drew w2) := ⟨r2, b2⟩
 obtain ⟨ya, fa⟩ := r2.r a.toNat Ha.out
 clear r2 b2 kp kb
 obtain ⟨S, HS⟩ : ∃ S : World → Prop, Hid (∀ w', S w' ↔ w'.cell? ⟨w.heap.size, 1, none⟩ = some (V a)) := ⟨_, fun _ => Iff.rfl⟩
 have k1 : ∀ i : { w' // S w' }, i.val.cell? ⟨w.heap.size, 1, none⟩ = some (V a) := fun i => (HS.out _).1 i.property
 have hne : Nonempty { w' // S w' } := ⟨⟨w2, (HS.out _).2 q1⟩⟩
 go_wp2_with (fail)
 refine J03 (S := S) [(0, true), (1, true), (2, true), (3, true), (4, true), (5, true), (7, true), (8, true), (9, true), (6, false), (10, true), (11, false)] (by kernel_rfl) (by kernel_rfl) (by kernel_rfl) ?_ ?_
 ·exact (HS.out _).2 (by go_simp)
 iterate 9 (refine J01 rfl (by kernel_rfl) (fun K hK => ?_); go_simp; refine hK _ _ ?_; clear hK K)
 refine J02 rfl (by kernel_rfl) (fun K hK => ?_); go_simp
 refine (Hh.out _).mono ?_
 rintro e w5 ⟨rfl, rfl⟩
 go_simp
 refine hK _ _ ((HS.out _).2 (by go_simp)) ?_; clear hK K
 refine J01 rfl (by kernel_rfl) (fun K hK => ?_); go_simp; refine hK _ _ ?_; clear hK K
 refine J02 rfl (by kernel_rfl) (fun K hK => ?_); go_simp
 refine hK _ _ ((HS.out _).2 (by go_simp)) ?_; clear hK K
 refine J07 ?_
 clear k1 hne
 go_wp2
 go_end0
 exact ⟨rfl, (H2.out.1.drew.setR a.toNat Ha.out q), J0d (J08 (Below.trans (J08 (J05 (Below.refl _ _) (Nat.le_of_lt H.out.lt) _)) H2.out.2)) _ _⟩

set_option maxHeartbeats 1000000 in
theorem J55 (a b c n : Int) (w : World) (M : Nat) (rv cv : Value) (x : Ms) (se : List Se) (h : Run w M rv cv x se) (hl : se.length ≤ 200000) (a0 : 0 ≤ a) (a1 : a < 10) (b0 : 0 ≤ b) (b1 : b < 10) (c0 : 0 ≤ c) (c1 : c < 10) :
  Calls Tryz.prog 62 #[.pointer (some ⟨M, 0, none⟩), .agg #[V 30, V a, V b, V c, V n]] w fun e w' =>
   e = .returned (.tuple #[]) ∧ Run w' M rv cv { x with r := setR x.r a (opI (30 - 20) (x.r b.toNat) (x.r c.toNat)) } (se ++ [⟨3, x.r b.toNat, x.r c.toNat⟩]) ∧ Below M w w' := by
 have hM := h.lt
 have hn : ¬ M = w.heap.size := by omega
 have hn' : ¬ w.heap.size = M := by omega
 have hwr := J12
 have yb := (h.r b.toNat (by omega)).1
 have yc := (h.r c.toNat (by omega)).1
 obtain ⟨y, hy⟩ : ∃ y, x.r b.toNat = y := ⟨_, rfl⟩
 obtain ⟨z, hz⟩ : ∃ z, x.r c.toNat = z := ⟨_, rfl⟩
 rw [hy] at yb ⊢
 rw [hz] at yc ⊢
 have Hl : Hid (se.length ≤ 200000) := hl
 have H : Hid (Run w M rv cv x se) := h
 have Ha : Hid (a.toNat < 10) := (by omega : a.toNat < 10)
 have w9 : wrap64 9 = 9 := by unfold wrap64; omega
 have w10 : wrap64 10 = 10 := by unfold wrap64; omega
 have Hh : Hid (∀ w : World, Calls Tryz.prog 97 #[V 10, V y, V z] w fun e w' => e = .returned (V (opI (30 - 20) y z)) ∧ w' = w) := fun w => Ja9 _ _ _ w
 obtain ⟨q, hq⟩ : ∃ q, opI (30 - 20) y z = q := ⟨_, rfl⟩
 rw [hq] at Hh ⊢
 clear hq hy hz h hl
 go_enter Tryz.func62, Tryz.ntmps62
 go_wp2
 go_region
 go_wp2_with (fail)
 refine (J3v _ M rv cv x se 3 y z Hl.out (H.out.alloc _).drew).mono ?_
 rintro e w2 ⟨rfl, r2, b2, kp⟩
 have kb := kp w.heap.size (by simp) (by omega) (fun sv hsv => H.out.notOwn w.heap.size (Nat.le_refl _) sv (by rw [← hsv]; exact (World.cell?_of_block ((World.grownBy_alloc w _ none).block M hM (by simp))).symm))
 have q1 : w2.cell? ⟨w.heap.size, 1, none⟩ = some (V a) := by rw [World.cell?_of_block kb.1]; go_simp
 have H2 : Hid (Run w2 M rv cv x (se ++ [⟨3, y, z⟩]) ∧ Below M (w.alloc (.cells #[V 30, V a, V b, V c, V n] 41)).drew w2) := ⟨r2, b2⟩
 obtain ⟨ya, fa⟩ := r2.r a.toNat Ha.out
 clear r2 b2 kp kb
 obtain ⟨S, HS⟩ : ∃ S : World → Prop, Hid (∀ w', S w' ↔ w'.cell? ⟨w.heap.size, 1, none⟩ = some (V a)) := ⟨_, fun _ => Iff.rfl⟩
 have k1 : ∀ i : { w' // S w' }, i.val.cell? ⟨w.heap.size, 1, none⟩ = some (V a) := fun i => (HS.out _).1 i.property
 have hne : Nonempty { w' // S w' } := ⟨⟨w2, (HS.out _).2 q1⟩⟩
 go_wp2_with (fail)
 refine J03 (S := S) [(0, true), (1, true), (2, true), (3, true), (4, true), (5, true), (7, true), (8, true), (9, true), (6, false), (10, true), (11, false)] (by kernel_rfl) (by kernel_rfl) (by kernel_rfl) ?_ ?_
 ·exact (HS.out _).2 (by go_simp)
 iterate 9 (refine J01 rfl (by kernel_rfl) (fun K hK => ?_); go_simp; refine hK _ _ ?_; clear hK K)
 refine J02 rfl (by kernel_rfl) (fun K hK => ?_); go_simp
 refine (Hh.out _).mono ?_
 rintro e w5 ⟨rfl, rfl⟩
 go_simp
 refine hK _ _ ((HS.out _).2 (by go_simp)) ?_; clear hK K
 refine J01 rfl (by kernel_rfl) (fun K hK => ?_); go_simp; refine hK _ _ ?_; clear hK K
 refine J02 rfl (by kernel_rfl) (fun K hK => ?_); go_simp
 refine hK _ _ ((HS.out _).2 (by go_simp)) ?_; clear hK K
 refine J07 ?_
 clear k1 hne
 go_wp2
 go_end0
 exact ⟨rfl, (H2.out.1.drew.setR a.toNat Ha.out q), J0d (J08 (Below.trans (J08 (J05 (Below.refl _ _) (Nat.le_of_lt H.out.lt) _)) H2.out.2)) _ _⟩
end
section
open Go.RowKit
set_option linter.unusedSimpArgs false
set_option linter.unusedVariables false
set_option maxRecDepth 8000
set_option maxHeartbeats 400000 in
theorem do_1 (a b c n : Int) (w : World) (M : Nat) (rv cv : Value) (x : Ms) (se : List Se) (h : Run w M rv cv x se) (a0 : 0 ≤ a) (a1 : a < 10)  :
  Calls Tryz.prog 26 #[.pointer (some ⟨M, 0, none⟩), .agg #[V 1, V a, V b, V c, V n]] w fun e w' => e = .returned (.tuple #[]) ∧ Run w' M rv cv { x with r := setR x.r a n } se ∧ Below M w w' := by
 have hM := h.lt
 have hn : ¬ M = w.heap.size := by omega
 have hn' : ¬ w.heap.size = M := by omega
 have hwr := J12
 have H : Hid (Run w M rv cv x se) := h
 have Ha : Hid (a.toNat < 10) := (by omega : a.toNat < 10)
 obtain ⟨ya, fa⟩ := h.r a.toNat (by omega)
 clear h
 go_enter Tryz.func26, Tryz.ntmps26
 go_wp2
 go_region
 go_wp2
 go_end0
 exact ⟨rfl, (((H.out.setR a.toNat Ha.out n).alloc _).drew), J08 (J05 (J0d (Below.refl _ _) _ _) (by have := H.out.lt; simp; omega) _)⟩

set_option maxHeartbeats 400000 in
theorem do_12 (a b c n : Int) (w : World) (M : Nat) (rv cv : Value) (x : Ms) (se : List Se) (h : Run w M rv cv x se) (a0 : 0 ≤ a) (a1 : a < 10)  :
  Calls Tryz.prog 26 #[.pointer (some ⟨M, 0, none⟩), .agg #[V 12, V a, V b, V c, V n]] w fun e w' => e = .returned (.tuple #[]) ∧ Run w' M rv cv x se ∧ Below M w w' := by
 have hM := h.lt
 have hn : ¬ M = w.heap.size := by omega
 have hn' : ¬ w.heap.size = M := by omega
 have hwr := J12
 have H : Hid (Run w M rv cv x se) := h
 have Ha : Hid (a.toNat < 10) := (by omega : a.toNat < 10)
 clear h
 go_enter Tryz.func26, Tryz.ntmps26
 go_wp2
 go_region
 go_wp2
 go_end0
 exact ⟨rfl, ((H.out.alloc _).drew), J08 (J05 (Below.refl _ _) (Nat.le_of_lt H.out.lt) _)⟩

set_option maxHeartbeats 400000 in
theorem do_7 (a b c n : Int) (w : World) (M : Nat) (rv cv : Value) (x : Ms) (se : List Se) (h : Run w M rv cv x se) (a0 : 0 ≤ a) (a1 : a < 10)  :
  Calls Tryz.prog 26 #[.pointer (some ⟨M, 0, none⟩), .agg #[V 7, V a, V b, V c, V n]] w fun e w' => e = .returned (.tuple #[]) ∧ Run w' M rv cv { x with next := n } se ∧ Below M w w' := by
 have hM := h.lt
 have hn : ¬ M = w.heap.size := by omega
 have hn' : ¬ w.heap.size = M := by omega
 have hwr := J12
 have H : Hid (Run w M rv cv x se) := h
 have Ha : Hid (a.toNat < 10) := (by omega : a.toNat < 10)
 obtain ⟨ya, fa⟩ := h.next
 clear h
 go_enter Tryz.func26, Tryz.ntmps26
 go_wp2
 go_region
 go_wp2
 go_end0
 exact ⟨rfl, (((H.out.setNext n).alloc _).drew), J08 (J05 (J0d (Below.refl _ _) _ _) (by have := H.out.lt; simp; omega) _)⟩

set_option maxHeartbeats 400000 in
theorem do_2 (a b c n : Int) (w : World) (M : Nat) (rv cv : Value) (x : Ms) (se : List Se) (h : Run w M rv cv x se) (a0 : 0 ≤ a) (a1 : a < 10) (b0 : 0 ≤ b) (b1 : b < 10) :
  Calls Tryz.prog 26 #[.pointer (some ⟨M, 0, none⟩), .agg #[V 2, V a, V b, V c, V n]] w fun e w' => e = .returned (.tuple #[]) ∧ Run w' M rv cv { x with r := setR x.r a (x.r b.toNat) } se ∧ Below M w w' := by
 have hM := h.lt
 have hn : ¬ M = w.heap.size := by omega
 have hn' : ¬ w.heap.size = M := by omega
 have hwr := J12
 have H : Hid (Run w M rv cv x se) := h
 have Ha : Hid (a.toNat < 10) := (by omega : a.toNat < 10)
 obtain ⟨ya, fa⟩ := h.r a.toNat (by omega)
 have yb := (h.r b.toNat (by omega)).1
 obtain ⟨y, hy⟩ : ∃ y, x.r b.toNat = y := ⟨_, rfl⟩
 rw [hy] at yb ⊢
 clear h hy
 go_enter Tryz.func26, Tryz.ntmps26
 go_wp2
 go_region
 go_wp2_with (fail)
 go_region
 go_wp2
 go_end0
 exact ⟨rfl, (((H.out.setR a.toNat Ha.out y).alloc _).drew.drew), J08 (J08 (J05 (J0d (Below.refl _ _) _ _) (by have := H.out.lt; simp; omega) _))⟩

set_option maxHeartbeats 400000 in
theorem do_10 (a b c n : Int) (w : World) (M : Nat) (rv cv : Value) (x : Ms) (se : List Se) (h : Run w M rv cv x se) (a0 : 0 ≤ a) (a1 : a < 10) (b0 : 0 ≤ b) (b1 : b < 10) :
  Calls Tryz.prog 26 #[.pointer (some ⟨M, 0, none⟩), .agg #[V 10, V a, V b, V c, V n]] w fun e w' => e = .returned (.tuple #[]) ∧ Run w' M rv cv { x with r := setR x.r a (wrap64 (x.r b.toNat + n)) } se ∧ Below M w w' := by
 have hM := h.lt
 have hn : ¬ M = w.heap.size := by omega
 have hn' : ¬ w.heap.size = M := by omega
 have hwr := J12
 have H : Hid (Run w M rv cv x se) := h
 have Ha : Hid (a.toNat < 10) := (by omega : a.toNat < 10)
 obtain ⟨ya, fa⟩ := h.r a.toNat (by omega)
 have yb := (h.r b.toNat (by omega)).1
 obtain ⟨y, hy⟩ : ∃ y, x.r b.toNat = y := ⟨_, rfl⟩
 rw [hy] at yb ⊢
 clear h hy
 go_enter Tryz.func26, Tryz.ntmps26
 go_wp2
 go_region
 go_wp2_with (fail)
 go_region
 go_wp2
 go_end0
 exact ⟨rfl, (((H.out.setR a.toNat Ha.out (wrap64 (y + n))).alloc _).drew.drew), J08 (J08 (J05 (J0d (Below.refl _ _) _ _) (by have := H.out.lt; simp; omega) _))⟩

set_option maxHeartbeats 400000 in
theorem do_9 (a b c n : Int) (w : World) (M : Nat) (rv cv : Value) (x : Ms) (se : List Se) (h : Run w M rv cv x se) (a0 : 0 ≤ a) (a1 : a < 10)  :
  Calls Tryz.prog 26 #[.pointer (some ⟨M, 0, none⟩), .agg #[V 9, V a, V b, V c, V n]] w fun e w' => e = .returned (.tuple #[]) ∧ Run w' M rv cv { x with val := x.r a.toNat, fin := 1, ended := true } se ∧ Below M w w' := by
 have hM := h.lt
 have hn : ¬ M = w.heap.size := by omega
 have hn' : ¬ w.heap.size = M := by omega
 have hwr := J12
 have H : Hid (Run w M rv cv x se) := h
 have Ha : Hid (a.toNat < 10) := (by omega : a.toNat < 10)
 have ya := (h.r a.toNat (by omega)).1
 obtain ⟨yv, fv⟩ := h.val
 obtain ⟨y, hy⟩ : ∃ y, x.r a.toNat = y := ⟨_, rfl⟩
 rw [hy] at ya ⊢
 clear h hy
 go_enter Tryz.func26, Tryz.ntmps26
 go_wp2
 go_region
 go_wp2_with (fail)
 refine (J3k _ M rv cv { x with val := y } se 1 (((H.out.setVal y).alloc _).drew)).mono ?_
 rintro e w2 ⟨rfl, r2, b2⟩
 have H2 : Hid (Run w2 M rv cv { x with val := y, fin := 1, ended := true } se ∧ Below M w w2) := ⟨r2, Below.trans (J08 (J05 (J0d (Below.refl _ _) _ _) (by have := H.out.lt; simp; omega) _)) b2⟩
 clear r2 b2
 go_wp2
 go_end0
 exact ⟨rfl, H2.out.1, H2.out.2⟩

set_option maxHeartbeats 400000 in
theorem do_8y (a b c n : Int) (w : World) (M : Nat) (rv cv : Value) (x : Ms) (se : List Se) (h : Run w M rv cv x se) (a0 : 0 ≤ a) (a1 : a < 10) (b0 : 0 ≤ b) (b1 : b < 10) (hh : J1f c (x.r a.toNat) (x.r b.toNat) = true) :
  Calls Tryz.prog 26 #[.pointer (some ⟨M, 0, none⟩), .agg #[V 8, V a, V b, V c, V n]] w fun e w' => e = .returned (.tuple #[]) ∧ Run w' M rv cv { x with next := n } se ∧ Below M w w' := by
 have hM := h.lt
 have hn : ¬ M = w.heap.size := by omega
 have hn' : ¬ w.heap.size = M := by omega
 have hwr := J12
 have H : Hid (Run w M rv cv x se) := h
 have Ha : Hid (a.toNat < 10) := (by omega : a.toNat < 10)
 have Hh : Hid (∀ w1, More w w1 → Calls Tryz.prog 61 #[.pointer (some ⟨M, 0, none⟩), .agg #[V 8, V a, V b, V c, V n]] w1 fun e w' => e = .returned (.bool true) ∧ More w1 w') := fun w1 m => by
  have := seq_holds 8 a b c n (x.r a.toNat) (x.r b.toNat) w1 M a0 a1 b0 b1 ((h.more m).r a.toNat (by omega)).1 ((h.more m).r b.toNat (by omega)).1 (h.more m).lt
  rw [hh] at this
  exact this
 clear h hh
 go_enter Tryz.func26, Tryz.ntmps26
 go_wp2
 go_region
 go_wp2_with (fail)
 refine (Hh.out _ ((More.refl _).alloc _ _).drew).mono ?_
 rintro e w2 ⟨rfl, m2⟩
 have j4 : w2.cell? ⟨w.heap.size, 4, none⟩ = some (V n) := m2.cell (by go_simp)
 have Hm : Hid (More w w2) := ((More.refl _).alloc _ _).drew.trans m2
 clear m2
 obtain ⟨yv, fv⟩ := (H.out.more Hm.out).next
 go_wp2
 go_end0
 exact ⟨rfl, (H.out.more Hm.out).setNext n, J0d (Below.mono Hm.out (Nat.le_of_lt H.out.lt)) _ _⟩

set_option maxHeartbeats 400000 in
theorem do_8n (a b c n : Int) (w : World) (M : Nat) (rv cv : Value) (x : Ms) (se : List Se) (h : Run w M rv cv x se) (a0 : 0 ≤ a) (a1 : a < 10) (b0 : 0 ≤ b) (b1 : b < 10) (hh : J1f c (x.r a.toNat) (x.r b.toNat) = false) :
  Calls Tryz.prog 26 #[.pointer (some ⟨M, 0, none⟩), .agg #[V 8, V a, V b, V c, V n]] w fun e w' => e = .returned (.tuple #[]) ∧ Run w' M rv cv x se ∧ Below M w w' := by
 have hM := h.lt
 have hn : ¬ M = w.heap.size := by omega
 have hn' : ¬ w.heap.size = M := by omega
 have hwr := J12
 have H : Hid (Run w M rv cv x se) := h
 have Ha : Hid (a.toNat < 10) := (by omega : a.toNat < 10)
 have Hh : Hid (∀ w1, More w w1 → Calls Tryz.prog 61 #[.pointer (some ⟨M, 0, none⟩), .agg #[V 8, V a, V b, V c, V n]] w1 fun e w' => e = .returned (.bool false) ∧ More w1 w') := fun w1 m => by
  have := seq_holds 8 a b c n (x.r a.toNat) (x.r b.toNat) w1 M a0 a1 b0 b1 ((h.more m).r a.toNat (by omega)).1 ((h.more m).r b.toNat (by omega)).1 (h.more m).lt
  rw [hh] at this
  exact this
 clear h hh
 go_enter Tryz.func26, Tryz.ntmps26
 go_wp2
 go_region
 go_wp2_with (fail)
 refine (Hh.out _ ((More.refl _).alloc _ _).drew).mono ?_
 rintro e w2 ⟨rfl, m2⟩
 have j4 : w2.cell? ⟨w.heap.size, 4, none⟩ = some (V n) := m2.cell (by go_simp)
 have Hm : Hid (More w w2) := ((More.refl _).alloc _ _).drew.trans m2
 clear m2
 obtain ⟨yv, fv⟩ := (H.out.more Hm.out).next
 go_wp2
 go_end0
 exact ⟨rfl, H.out.more Hm.out, Below.mono Hm.out (Nat.le_of_lt H.out.lt)⟩

set_option maxHeartbeats 400000 in
theorem Jh9 (a b c n y : Int) (w : World) (M : Nat) (rv cv : Value) (x : Ms) (se : List Se) (h : Run w M rv cv x se) (a0 : 0 ≤ a) (a1 : a < 10) (hy : x.r a.toNat = y) (hl : y < 0) :
  Calls Tryz.prog 26 #[.pointer (some ⟨M, 0, none⟩), .agg #[V 11, V a, V b, V c, V n]] w fun e w' => e = .returned (.tuple #[]) ∧ Run w' M rv cv { x with r := setR x.r a 0 } se ∧ Below M w w' := by
 have hM := h.lt
 have hn : ¬ M = w.heap.size := by omega
 have hn' : ¬ w.heap.size = M := by omega
 have hwr := J12
 have H : Hid (Run w M rv cv x se) := h
 have Ha : Hid (a.toNat < 10) := (by omega : a.toNat < 10)
 obtain ⟨ya, fa⟩ := h.r a.toNat (by omega)
 rw [hy] at ya
 clear h hy
 go_enter Tryz.func26, Tryz.ntmps26
 go_wp2
 go_region
 go_wp2_with (fail)
 go_region
 go_wp2
 go_end0
 exact ⟨rfl, (((H.out.setR a.toNat Ha.out 0).alloc _).drew.drew), J08 (J08 (J05 (J0d (Below.refl _ _) _ _) (by have := H.out.lt; simp; omega) _))⟩

set_option maxHeartbeats 400000 in
theorem Jh7 (a b c n y : Int) (w : World) (M : Nat) (rv cv : Value) (x : Ms) (se : List Se) (h : Run w M rv cv x se) (a0 : 0 ≤ a) (a1 : a < 10) (hy : x.r a.toNat = y) (hl : ¬ y < 0) (hh : n ≤ y) :
  Calls Tryz.prog 26 #[.pointer (some ⟨M, 0, none⟩), .agg #[V 11, V a, V b, V c, V n]] w fun e w' => e = .returned (.tuple #[]) ∧ Run w' M rv cv { x with r := setR x.r a 0 } se ∧ Below M w w' := by
 have hM := h.lt
 have hn : ¬ M = w.heap.size := by omega
 have hn' : ¬ w.heap.size = M := by omega
 have hwr := J12
 have H : Hid (Run w M rv cv x se) := h
 have Ha : Hid (a.toNat < 10) := (by omega : a.toNat < 10)
 obtain ⟨ya, fa⟩ := h.r a.toNat (by omega)
 rw [hy] at ya
 clear h hy
 have hl' : decide (y < 0) = false := by simp; omega
 go_enter Tryz.func26, Tryz.ntmps26
 go_wp2
 go_region
 go_wp2_with (fail)
 go_region
 go_wp2
 go_end0
 exact ⟨rfl, (((H.out.setR a.toNat Ha.out 0).alloc _).drew.drew), J08 (J08 (J05 (J0d (Below.refl _ _) _ _) (by have := H.out.lt; simp; omega) _))⟩

set_option maxHeartbeats 400000 in
theorem Jh8 (a b c n y : Int) (w : World) (M : Nat) (rv cv : Value) (x : Ms) (se : List Se) (h : Run w M rv cv x se) (a0 : 0 ≤ a) (a1 : a < 10) (hy : x.r a.toNat = y) (hl : ¬ y < 0) (hh : y < n) :
  Calls Tryz.prog 26 #[.pointer (some ⟨M, 0, none⟩), .agg #[V 11, V a, V b, V c, V n]] w fun e w' => e = .returned (.tuple #[]) ∧ Run w' M rv cv x se ∧ Below M w w' := by
 have hM := h.lt
 have hn : ¬ M = w.heap.size := by omega
 have hn' : ¬ w.heap.size = M := by omega
 have hwr := J12
 have H : Hid (Run w M rv cv x se) := h
 have Ha : Hid (a.toNat < 10) := (by omega : a.toNat < 10)
 obtain ⟨ya, fa⟩ := h.r a.toNat (by omega)
 rw [hy] at ya
 clear h hy
 have hl' : decide (y < 0) = false := by simp; omega
 go_enter Tryz.func26, Tryz.ntmps26
 go_wp2
 go_region
 go_wp2_with (fail)
 go_region
 go_wp2
 go_end0
 exact ⟨rfl, ((H.out.alloc _).drew.drew), J08 (J08 (J05 (Below.refl _ _) (Nat.le_of_lt H.out.lt) _))⟩

set_option maxHeartbeats 400000 in
theorem Jfa (a b c n k : Int) (w : World) (M : Nat) (rv cv : Value) (x : Ms) (se : List Se) (h : Run w M rv cv x se) (a0 : 0 ≤ a) (a1 : a < 10) (se2 : List Se) (k0 : 0 ≤ k) (k1 : k < 384) (hR : ∀ w1, More w w1 → Calls Tryz.prog 60 #[.pointer (some ⟨M, 0, none⟩), .agg #[V 3, V a, V b, V c, V n], V 0] w1 fun e w' => e = .returned (.tuple #[V k, .bool true]) ∧ Run w' M rv cv x se2 ∧ Below M w1 w') :
  Calls Tryz.prog 26 #[.pointer (some ⟨M, 0, none⟩), .agg #[V 3, V a, V b, V c, V n]] w fun e w' => e = .returned (.tuple #[]) ∧ Run w' M rv cv { x with r := setR x.r a (x.wd k.toNat) } se2 ∧ Below M w w' := by
 have hM := h.lt
 have hn : ¬ M = w.heap.size := by omega
 have hn' : ¬ w.heap.size = M := by omega
 have hwr := J12
 have H : Hid (Run w M rv cv x se) := h
 have Ha : Hid (a.toNat < 10) := (by omega : a.toNat < 10)
 have HR : Hid (∀ w1, More w w1 → Calls Tryz.prog 60 #[.pointer (some ⟨M, 0, none⟩), .agg #[V 3, V a, V b, V c, V n], V 0] w1 fun e w' => e = .returned (.tuple #[V k, .bool true]) ∧ Run w' M rv cv x se2 ∧ Below M w1 w') := hR
 have Hk : Hid (k.toNat < 384) := (by omega : k.toNat < 384)
 obtain ⟨y, hy⟩ : ∃ y, x.wd k.toNat = y := ⟨_, rfl⟩
 rw [hy]
 have Hy : Hid (x.wd k.toNat = y) := hy
 clear h hR hy
 go_enter Tryz.func26, Tryz.ntmps26
 go_wp2
 go_region
 go_wp2_with (fail)
 refine (HR.out _ ((More.refl _).alloc _ _).drew).mono ?_
 rintro e w2 ⟨rfl, r2, b2⟩
 have H2 : Hid (Run w2 M rv cv x se2 ∧ Below M w w2) := ⟨r2, Below.trans (J08 (J05 (Below.refl _ _) (Nat.le_of_lt H.out.lt) _)) b2⟩
 obtain ⟨ya, fa⟩ := r2.r a.toNat Ha.out
 have yk := (r2.wd k.toNat Hk.out).1
 rw [Hy.out] at yk
 clear r2 b2
 go_wp2
 go_end0
 exact ⟨rfl, (H2.out.1.setR a.toNat Ha.out y), J0d H2.out.2 _ _⟩

set_option maxHeartbeats 400000 in
theorem Jfc (a b c n k : Int) (w : World) (M : Nat) (rv cv : Value) (x : Ms) (se : List Se) (h : Run w M rv cv x se) (a0 : 0 ≤ a) (a1 : a < 10) (se2 : List Se) (k0 : 0 ≤ k) (k1 : k < 384) (hR : ∀ w1, More w w1 → Calls Tryz.prog 60 #[.pointer (some ⟨M, 0, none⟩), .agg #[V 5, V a, V b, V c, V n], V 0] w1 fun e w' => e = .returned (.tuple #[V k, .bool true]) ∧ Run w' M rv cv x se2 ∧ Below M w1 w') :
  Calls Tryz.prog 26 #[.pointer (some ⟨M, 0, none⟩), .agg #[V 5, V a, V b, V c, V n]] w fun e w' => e = .returned (.tuple #[]) ∧ Run w' M rv cv { x with r := setR x.r a (x.wd k.toNat) } se2 ∧ Below M w w' := by
 have hM := h.lt
 have hn : ¬ M = w.heap.size := by omega
 have hn' : ¬ w.heap.size = M := by omega
 have hwr := J12
 have H : Hid (Run w M rv cv x se) := h
 have Ha : Hid (a.toNat < 10) := (by omega : a.toNat < 10)
 have HR : Hid (∀ w1, More w w1 → Calls Tryz.prog 60 #[.pointer (some ⟨M, 0, none⟩), .agg #[V 5, V a, V b, V c, V n], V 0] w1 fun e w' => e = .returned (.tuple #[V k, .bool true]) ∧ Run w' M rv cv x se2 ∧ Below M w1 w') := hR
 have Hk : Hid (k.toNat < 384) := (by omega : k.toNat < 384)
 obtain ⟨y, hy⟩ : ∃ y, x.wd k.toNat = y := ⟨_, rfl⟩
 rw [hy]
 have Hy : Hid (x.wd k.toNat = y) := hy
 clear h hR hy
 go_enter Tryz.func26, Tryz.ntmps26
 go_wp2
 go_region
 go_wp2_with (fail)
 refine (HR.out _ ((More.refl _).alloc _ _).drew).mono ?_
 rintro e w2 ⟨rfl, r2, b2⟩
 have H2 : Hid (Run w2 M rv cv x se2 ∧ Below M w w2) := ⟨r2, Below.trans (J08 (J05 (Below.refl _ _) (Nat.le_of_lt H.out.lt) _)) b2⟩
 obtain ⟨ya, fa⟩ := r2.r a.toNat Ha.out
 have yk := (r2.wd k.toNat Hk.out).1
 rw [Hy.out] at yk
 clear r2 b2
 go_wp2
 go_end0
 exact ⟨rfl, (H2.out.1.setR a.toNat Ha.out y), J0d H2.out.2 _ _⟩

set_option maxHeartbeats 400000 in
theorem Jfb (a b c n k : Int) (w : World) (M : Nat) (rv cv : Value) (x : Ms) (se : List Se) (h : Run w M rv cv x se) (a0 : 0 ≤ a) (a1 : a < 10) (se2 : List Se) (k0 : 0 ≤ k) (k1 : k < 384) (hR : ∀ w1, More w w1 → Calls Tryz.prog 60 #[.pointer (some ⟨M, 0, none⟩), .agg #[V 4, V a, V b, V c, V n], V 1] w1 fun e w' => e = .returned (.tuple #[V k, .bool true]) ∧ Run w' M rv cv x se2 ∧ Below M w1 w') :
  Calls Tryz.prog 26 #[.pointer (some ⟨M, 0, none⟩), .agg #[V 4, V a, V b, V c, V n]] w fun e w' => e = .returned (.tuple #[]) ∧ Run w' M rv cv { x with wd := setN x.wd k.toNat (x.r a.toNat) } se2 ∧ Below M w w' := by
 have hM := h.lt
 have hn : ¬ M = w.heap.size := by omega
 have hn' : ¬ w.heap.size = M := by omega
 have hwr := J12
 have H : Hid (Run w M rv cv x se) := h
 have Ha : Hid (a.toNat < 10) := (by omega : a.toNat < 10)
 have HR : Hid (∀ w1, More w w1 → Calls Tryz.prog 60 #[.pointer (some ⟨M, 0, none⟩), .agg #[V 4, V a, V b, V c, V n], V 1] w1 fun e w' => e = .returned (.tuple #[V k, .bool true]) ∧ Run w' M rv cv x se2 ∧ Below M w1 w') := hR
 have Hk : Hid (k.toNat < 384) := (by omega : k.toNat < 384)
 obtain ⟨y, hy⟩ : ∃ y, x.r a.toNat = y := ⟨_, rfl⟩
 rw [hy]
 have Hy : Hid (x.r a.toNat = y) := hy
 clear h hR hy
 go_enter Tryz.func26, Tryz.ntmps26
 go_wp2
 go_region
 go_wp2_with (fail)
 refine (HR.out _ ((More.refl _).alloc _ _).drew).mono ?_
 rintro e w2 ⟨rfl, r2, b2⟩
 have H2 : Hid (Run w2 M rv cv x se2 ∧ Below M w w2) := ⟨r2, Below.trans (J08 (J05 (Below.refl _ _) (Nat.le_of_lt H.out.lt) _)) b2⟩
 have ya := (r2.r a.toNat Ha.out).1
 obtain ⟨yk, fk⟩ := r2.wd k.toNat Hk.out
 rw [Hy.out] at ya
 clear r2 b2
 go_wp2_with (fail)
 go_region
 go_wp2
 go_end0
 exact ⟨rfl, (H2.out.1.setWd k.toNat Hk.out y).drew, J08 (J0d H2.out.2 _ _)⟩

set_option maxHeartbeats 400000 in
theorem Jfd (a b c n k : Int) (w : World) (M : Nat) (rv cv : Value) (x : Ms) (se : List Se) (h : Run w M rv cv x se) (a0 : 0 ≤ a) (a1 : a < 10) (se2 : List Se) (k0 : 0 ≤ k) (k1 : k < 384) (hR : ∀ w1, More w w1 → Calls Tryz.prog 60 #[.pointer (some ⟨M, 0, none⟩), .agg #[V 6, V a, V b, V c, V n], V 1] w1 fun e w' => e = .returned (.tuple #[V k, .bool true]) ∧ Run w' M rv cv x se2 ∧ Below M w1 w') :
  Calls Tryz.prog 26 #[.pointer (some ⟨M, 0, none⟩), .agg #[V 6, V a, V b, V c, V n]] w fun e w' => e = .returned (.tuple #[]) ∧ Run w' M rv cv { x with wd := setN x.wd k.toNat (x.r a.toNat) } se2 ∧ Below M w w' := by
 have hM := h.lt
 have hn : ¬ M = w.heap.size := by omega
 have hn' : ¬ w.heap.size = M := by omega
 have hwr := J12
 have H : Hid (Run w M rv cv x se) := h
 have Ha : Hid (a.toNat < 10) := (by omega : a.toNat < 10)
 have HR : Hid (∀ w1, More w w1 → Calls Tryz.prog 60 #[.pointer (some ⟨M, 0, none⟩), .agg #[V 6, V a, V b, V c, V n], V 1] w1 fun e w' => e = .returned (.tuple #[V k, .bool true]) ∧ Run w' M rv cv x se2 ∧ Below M w1 w') := hR
 have Hk : Hid (k.toNat < 384) := (by omega : k.toNat < 384)
 obtain ⟨y, hy⟩ : ∃ y, x.r a.toNat = y := ⟨_, rfl⟩
 rw [hy]
 have Hy : Hid (x.r a.toNat = y) := hy
 clear h hR hy
 go_enter Tryz.func26, Tryz.ntmps26
 go_wp2
 go_region
 go_wp2_with (fail)
 refine (HR.out _ ((More.refl _).alloc _ _).drew).mono ?_
 rintro e w2 ⟨rfl, r2, b2⟩
 have H2 : Hid (Run w2 M rv cv x se2 ∧ Below M w w2) := ⟨r2, Below.trans (J08 (J05 (Below.refl _ _) (Nat.le_of_lt H.out.lt) _)) b2⟩
 have ya := (r2.r a.toNat Ha.out).1
 obtain ⟨yk, fk⟩ := r2.wd k.toNat Hk.out
 rw [Hy.out] at ya
 clear r2 b2
 go_wp2_with (fail)
 go_region
 go_wp2
 go_end0
 exact ⟨rfl, (H2.out.1.setWd k.toNat Hk.out y).drew, J08 (J0d H2.out.2 _ _)⟩

set_option maxHeartbeats 400000 in
theorem Jjg (a b c n : Int) (w : World) (M : Nat) (rv cv : Value) (x : Ms) (se : List Se) (h : Run w M rv cv x se) (a0 : 0 ≤ a) (a1 : a < 10) (x2 : Ms) (hR : ∀ w1, More w w1 → Calls Tryz.prog 60 #[.pointer (some ⟨M, 0, none⟩), .agg #[V 3, V a, V b, V c, V n], V 0] w1 fun e w' => e = .returned (.tuple #[V 0, .bool false]) ∧ Run w' M rv cv x2 se ∧ Below M w1 w') :
  Calls Tryz.prog 26 #[.pointer (some ⟨M, 0, none⟩), .agg #[V 3, V a, V b, V c, V n]] w fun e w' => e = .returned (.tuple #[]) ∧ Run w' M rv cv x2 se ∧ Below M w w' := by
 have hM := h.lt
 have hn : ¬ M = w.heap.size := by omega
 have hn' : ¬ w.heap.size = M := by omega
 have hwr := J12
 have H : Hid (Run w M rv cv x se) := h
 have Ha : Hid (a.toNat < 10) := (by omega : a.toNat < 10)
 have HR : Hid (∀ w1, More w w1 → Calls Tryz.prog 60 #[.pointer (some ⟨M, 0, none⟩), .agg #[V 3, V a, V b, V c, V n], V 0] w1 fun e w' => e = .returned (.tuple #[V 0, .bool false]) ∧ Run w' M rv cv x2 se ∧ Below M w1 w') := hR
 clear h hR
 go_enter Tryz.func26, Tryz.ntmps26
 go_wp2
 go_region
 go_wp2_with (fail)
 refine (HR.out _ ((More.refl _).alloc _ _).drew).mono ?_
 rintro e w2 ⟨rfl, r2, b2⟩
 have H2 : Hid (Run w2 M rv cv x2 se ∧ Below M w w2) := ⟨r2, Below.trans (J08 (J05 (Below.refl _ _) (Nat.le_of_lt H.out.lt) _)) b2⟩
 clear r2 b2
 go_wp2
 go_end0
 exact ⟨rfl, H2.out.1, H2.out.2⟩

set_option maxHeartbeats 400000 in
theorem Jji (a b c n : Int) (w : World) (M : Nat) (rv cv : Value) (x : Ms) (se : List Se) (h : Run w M rv cv x se) (a0 : 0 ≤ a) (a1 : a < 10) (x2 : Ms) (hR : ∀ w1, More w w1 → Calls Tryz.prog 60 #[.pointer (some ⟨M, 0, none⟩), .agg #[V 5, V a, V b, V c, V n], V 0] w1 fun e w' => e = .returned (.tuple #[V 0, .bool false]) ∧ Run w' M rv cv x2 se ∧ Below M w1 w') :
  Calls Tryz.prog 26 #[.pointer (some ⟨M, 0, none⟩), .agg #[V 5, V a, V b, V c, V n]] w fun e w' => e = .returned (.tuple #[]) ∧ Run w' M rv cv x2 se ∧ Below M w w' := by
 have hM := h.lt
 have hn : ¬ M = w.heap.size := by omega
 have hn' : ¬ w.heap.size = M := by omega
 have hwr := J12
 have H : Hid (Run w M rv cv x se) := h
 have Ha : Hid (a.toNat < 10) := (by omega : a.toNat < 10)
 have HR : Hid (∀ w1, More w w1 → Calls Tryz.prog 60 #[.pointer (some ⟨M, 0, none⟩), .agg #[V 5, V a, V b, V c, V n], V 0] w1 fun e w' => e = .returned (.tuple #[V 0, .bool false]) ∧ Run w' M rv cv x2 se ∧ Below M w1 w') := hR
 clear h hR
 go_enter Tryz.func26, Tryz.ntmps26
 go_wp2
 go_region
 go_wp2_with (fail)
 refine (HR.out _ ((More.refl _).alloc _ _).drew).mono ?_
 rintro e w2 ⟨rfl, r2, b2⟩
 have H2 : Hid (Run w2 M rv cv x2 se ∧ Below M w w2) := ⟨r2, Below.trans (J08 (J05 (Below.refl _ _) (Nat.le_of_lt H.out.lt) _)) b2⟩
 clear r2 b2
 go_wp2
 go_end0
 exact ⟨rfl, H2.out.1, H2.out.2⟩

set_option maxHeartbeats 400000 in
theorem Jjh (a b c n : Int) (w : World) (M : Nat) (rv cv : Value) (x : Ms) (se : List Se) (h : Run w M rv cv x se) (a0 : 0 ≤ a) (a1 : a < 10) (x2 : Ms) (hR : ∀ w1, More w w1 → Calls Tryz.prog 60 #[.pointer (some ⟨M, 0, none⟩), .agg #[V 4, V a, V b, V c, V n], V 1] w1 fun e w' => e = .returned (.tuple #[V 0, .bool false]) ∧ Run w' M rv cv x2 se ∧ Below M w1 w') :
  Calls Tryz.prog 26 #[.pointer (some ⟨M, 0, none⟩), .agg #[V 4, V a, V b, V c, V n]] w fun e w' => e = .returned (.tuple #[]) ∧ Run w' M rv cv x2 se ∧ Below M w w' := by
 have hM := h.lt
 have hn : ¬ M = w.heap.size := by omega
 have hn' : ¬ w.heap.size = M := by omega
 have hwr := J12
 have H : Hid (Run w M rv cv x se) := h
 have Ha : Hid (a.toNat < 10) := (by omega : a.toNat < 10)
 have HR : Hid (∀ w1, More w w1 → Calls Tryz.prog 60 #[.pointer (some ⟨M, 0, none⟩), .agg #[V 4, V a, V b, V c, V n], V 1] w1 fun e w' => e = .returned (.tuple #[V 0, .bool false]) ∧ Run w' M rv cv x2 se ∧ Below M w1 w') := hR
 clear h hR
 go_enter Tryz.func26, Tryz.ntmps26
 go_wp2
 go_region
 go_wp2_with (fail)
 refine (HR.out _ ((More.refl _).alloc _ _).drew).mono ?_
 rintro e w2 ⟨rfl, r2, b2⟩
 have H2 : Hid (Run w2 M rv cv x2 se ∧ Below M w w2) := ⟨r2, Below.trans (J08 (J05 (Below.refl _ _) (Nat.le_of_lt H.out.lt) _)) b2⟩
 clear r2 b2
 go_wp2
 go_end0
 exact ⟨rfl, H2.out.1, H2.out.2⟩

set_option maxHeartbeats 400000 in
theorem Jjj (a b c n : Int) (w : World) (M : Nat) (rv cv : Value) (x : Ms) (se : List Se) (h : Run w M rv cv x se) (a0 : 0 ≤ a) (a1 : a < 10) (x2 : Ms) (hR : ∀ w1, More w w1 → Calls Tryz.prog 60 #[.pointer (some ⟨M, 0, none⟩), .agg #[V 6, V a, V b, V c, V n], V 1] w1 fun e w' => e = .returned (.tuple #[V 0, .bool false]) ∧ Run w' M rv cv x2 se ∧ Below M w1 w') :
  Calls Tryz.prog 26 #[.pointer (some ⟨M, 0, none⟩), .agg #[V 6, V a, V b, V c, V n]] w fun e w' => e = .returned (.tuple #[]) ∧ Run w' M rv cv x2 se ∧ Below M w w' := by
 have hM := h.lt
 have hn : ¬ M = w.heap.size := by omega
 have hn' : ¬ w.heap.size = M := by omega
 have hwr := J12
 have H : Hid (Run w M rv cv x se) := h
 have Ha : Hid (a.toNat < 10) := (by omega : a.toNat < 10)
 have HR : Hid (∀ w1, More w w1 → Calls Tryz.prog 60 #[.pointer (some ⟨M, 0, none⟩), .agg #[V 6, V a, V b, V c, V n], V 1] w1 fun e w' => e = .returned (.tuple #[V 0, .bool false]) ∧ Run w' M rv cv x2 se ∧ Below M w1 w') := hR
 clear h hR
 go_enter Tryz.func26, Tryz.ntmps26
 go_wp2
 go_region
 go_wp2_with (fail)
 refine (HR.out _ ((More.refl _).alloc _ _).drew).mono ?_
 rintro e w2 ⟨rfl, r2, b2⟩
 have H2 : Hid (Run w2 M rv cv x2 se ∧ Below M w w2) := ⟨r2, Below.trans (J08 (J05 (Below.refl _ _) (Nat.le_of_lt H.out.lt) _)) b2⟩
 clear r2 b2
 go_wp2
 go_end0
 exact ⟨rfl, H2.out.1, H2.out.2⟩

set_option maxHeartbeats 400000 in
theorem do_op (op a b c n : Int) (w : World) (M : Nat) (rv cv : Value) (x : Ms) (se : List Se) (h : Run w M rv cv x se) (a0 : 0 ≤ a) (a1 : a < 10) (x2 : Ms) (se2 : List Se) (o0 : 21 ≤ op) (hR : ∀ w1, More w w1 → Calls Tryz.prog 62 #[.pointer (some ⟨M, 0, none⟩), .agg #[V op, V a, V b, V c, V n]] w1 fun e w' => e = .returned (.tuple #[]) ∧ Run w' M rv cv x2 se2 ∧ Below M w1 w') :
  Calls Tryz.prog 26 #[.pointer (some ⟨M, 0, none⟩), .agg #[V op, V a, V b, V c, V n]] w fun e w' => e = .returned (.tuple #[]) ∧ Run w' M rv cv x2 se2 ∧ Below M w w' := by
 have hM := h.lt
 have hn : ¬ M = w.heap.size := by omega
 have hn' : ¬ w.heap.size = M := by omega
 have hwr := J12
 have H : Hid (Run w M rv cv x se) := h
 have Ha : Hid (a.toNat < 10) := (by omega : a.toNat < 10)
 have HR : Hid (∀ w1, More w w1 → Calls Tryz.prog 62 #[.pointer (some ⟨M, 0, none⟩), .agg #[V op, V a, V b, V c, V n]] w1 fun e w' => e = .returned (.tuple #[]) ∧ Run w' M rv cv x2 se2 ∧ Below M w1 w') := hR
 clear h hR
 have n1 : ¬ op = 1 := by omega
 have n2 : ¬ op = 2 := by omega
 have n3 : ¬ op = 3 := by omega
 have n4 : ¬ op = 4 := by omega
 have n5 : ¬ op = 5 := by omega
 have n6 : ¬ op = 6 := by omega
 have n7 : ¬ op = 7 := by omega
 have n8 : ¬ op = 8 := by omega
 have n9 : ¬ op = 9 := by omega
 have n10 : ¬ op = 10 := by omega
 have n11 : ¬ op = 11 := by omega
 have n12 : ¬ op = 12 := by omega
 go_enter Tryz.func26, Tryz.ntmps26
 go_wp2
 go_region
 go_wp2_with (fail)
 refine (HR.out _ ((More.refl _).alloc _ _).drew).mono ?_
 rintro e w2 ⟨rfl, r2, b2⟩
 have H2 : Hid (Run w2 M rv cv x2 se2 ∧ Below M w w2) := ⟨r2, Below.trans (J08 (J05 (Below.refl _ _) (Nat.le_of_lt H.out.lt) _)) b2⟩
 clear r2 b2
 go_wp2
 go_end0
 exact ⟨rfl, H2.out.1, H2.out.2⟩
end
end Go.Proofs.YtephohhigbfafaaGreatDoor
