/-
  The texts CvMem, CvSum, Last, Fork, CvJoined, CvEq, CvCome, CvWhere, one behind the other, with what is used of them.
-/
import Derived.Test.YtmpafeoileonjaaJoined0
import Derived.Laws.IdiomCopy
import Derived.Deep.LoopGhost
import Derived.ChangeKeysEq
import Derived.Deep.AppendLies
import Derived.OwnWalk
namespace Go.Proofs.Ytmpafeoileonjaa
section
open Go.RowKit
set_option linter.unusedSimpArgs false
set_option linter.unusedVariables false
def kv (s : KS) : Array Value := (flatK s 8).toArray
theorem J0b (s : KS) : (kv s).size = 16 := by simp [kv, J0y]
theorem kv_at (s : KS) (j : Nat) (h : j < 8) : (kv s)[j * 2]? = some (.int .i64 (s j).b) ∧ (kv s)[j * 2 + 1]? = some (.bool (s j).s) := by
 simpa [kv] using J45 s 8 j h
theorem J2g (s : KS) : (kv s).all (·.oneCell') = true := by
 unfold kv
 rw [List.all_toArray, List.all_eq_true]
 exact J4o s 8
theorem Jk9 {s t : KS} : (∀ j, j < 8 → s j = t j) → kv s = kv t := by
 intro h
 have : ∀ n, n ≤ 8 → flatK s n = flatK t n := by
  intro n
  induction n with
  | zero => intro _; rfl
  | succ n ih => intro hn; rw [flatK, flatK, ih (by omega), h n (by omega)]
 unfold kv
 rw [this 8 (Nat.le_refl _)]
theorem kv_is {c : Array Value} {s : KS} (hs : c.size = 16) (h : ∀ j, j < 8 → c[j * 2]? = some (.int .i64 (s j).b) ∧ c[j * 2 + 1]? = some (.bool (s j).s)) : c = kv s := by
 apply Array.ext_getElem?
 intro j
 by_cases e : j < 16
 ·have h1 := h (j / 2) (by omega)
  have h2 := kv_at s (j / 2) (by omega)
  by_cases e2 : j % 2 = 0
  ·have e3 : j / 2 * 2 = j := by omega
   rw [e3] at h1 h2
   rw [h1.1, h2.1]
  ·have e3 : j / 2 * 2 + 1 = j := by omega
   rw [e3] at h1 h2
   rw [h1.2, h2.2]
 ·rw [Array.getElem?_eq_none (by omega), Array.getElem?_eq_none (by rw [J0b]; omega)]
theorem Jka (s : KS) (a : Int) (b : Int) (t : Bool) (ha : a.toNat < 8) : ((kv s).setIfInBounds (a.toNat * 2) (.int .i64 b)).setIfInBounds (a.toNat * 2 + 1) (.bool t) = kv (setK s a ⟨b, t⟩) := by
 refine kv_is (by simp [J0b]) (fun j hj => ?_)
 have hk := kv_at s j hj
 have hz := J0b s
 unfold setK
 by_cases e : j = a.toNat
 ·subst e
  rw [if_pos rfl]
  refine ⟨?_, ?_⟩
  ·rw [Array.getElem?_setIfInBounds_ne (by omega), Array.getElem?_setIfInBounds_self_of_lt (by omega)]
  ·rw [Array.getElem?_setIfInBounds_self_of_lt (by simp; omega)]
 ·rw [if_neg e]
  refine ⟨?_, ?_⟩
  ·rw [Array.getElem?_setIfInBounds_ne (by omega), Array.getElem?_setIfInBounds_ne (by omega)]; exact hk.1
  ·rw [Array.getElem?_setIfInBounds_ne (by omega), Array.getElem?_setIfInBounds_ne (by omega)]; exact hk.2

theorem Blk.set {w : World} {n : Nat} {c : Array Value} {T : TypeId} (h : Blk w n c T) (o : Nat) (v : Value) : Blk (w.setCell ⟨n, o, none⟩ v) n (c.setIfInBounds o v) T := by
 unfold Blk at *
 rw [setCell_eq_setRow w n o c T (0, 0) v h]
 exact setRow_heap w n c _ T _ h
theorem Blk.setK {w : World} {n : Nat} {s : KS} {T : TypeId} (h : Blk w n (kv s) T) (a b : Int) (t : Bool) (ha : a.toNat < 8) :
  Blk ((w.setCell ⟨n, a.toNat * 2, none⟩ (.int .i64 b)).setCell ⟨n, a.toNat * 2 + 1, none⟩ (.bool t)) n (kv (setK s a ⟨b, t⟩)) T := by
 rw [← Jka s a b t ha]
 exact (h.set _ _).set _ _
theorem Blk.alloc {w : World} {n : Nat} {c : Array Value} {T : TypeId} (h : Blk w n c T) (d : Array Value) (U : TypeId) : Blk (w.alloc (.cells d U)) n c T := h.more ((More.refl _).alloc _ _)
theorem Blk.ne {w : World} {n m : Nat} {c d : Array Value} {T U : TypeId} (h : Blk w n c T) (k : Blk w m d U) (hne : T ≠ U) : n ≠ m := by
 rintro rfl
 unfold Blk at h k
 rw [h] at k
 simp only [Option.some.injEq, Obj.cells.injEq] at k
 exact hne k.2.1

theorem J4u {P : Program} (w : World) (g o : Nat) (ty : TypeId) (cs : Array Value) (d : TypeDesc) (hc : ∀ j v, cs[j]? = some v → w.cell? ⟨g, o + j, none⟩ = some v)
  (hu : P.underlying ty = some d) (hd : (match d with | .struct _ | .array _ _ => true | _ => false) = true) (hi : (P.info? ty).map (·.size) = some cs.size) :
  (loadVar ty ⟨g, o, none⟩).run P w = .ok (.agg cs) w := by
 have hl : (loadCells ⟨g, o, none⟩ cs.size).run P w = .ok cs w := by
  have := run_loadCells_list (P := P) w ⟨g, o, none⟩ cs.toList (fun j v hv => by rw [Go.WideShapes.add_plain]; exact hc j v (by simpa using hv))
  simpa using this
 cases hq : P.info? ty with
 | none => simp [hq] at hi
 | some i =>
  have hs : i.size = cs.size := by simpa [hq] using hi
  have hagg : (isAgg ty).run P w = .ok true w := by
   unfold isAgg
   rw [Sem.run_bind, run_underlying hu w]
   cases d <;> simp_all
  simp [loadVar, Sem.run_bind, hagg, sizeOf, typeInfo, hq, hs, hl]

theorem J13 {P : Program} {o : Oper} {a : Act} {w : World} (ty : TypeId) (x : Operand) (ho : o.op = .load ty x)
  (g k : Nat) (hx : a.eval x = .pointer (some ⟨g, k, none⟩)) (cs : Array Value) (d : TypeDesc) (hc : ∀ j v, cs[j]? = some v → w.cell? ⟨g, k + j, none⟩ = some v)
  (hu : P.underlying ty = some d) (hd : (match d with | .struct _ | .array _ _ => true | _ => false) = true) (hi : (P.info? ty).map (·.size) = some cs.size) :
  (execOp a.eval o).run P w = .ok (.value (.agg cs)) w := by
 unfold execOp
 simp only [ho, hx, Instr.loadAt, Instr.sureAddr, Sem.run_bind, Sem.run_pure, Result.andThen_ok, J4u w g k ty cs d hc hu hd hi]

theorem J9k {P : Program} {o : Oper} {a : Act} {w : World} {K : Act → World → Prop} {Q : Exit → Act → World → Prop} (ty : TypeId) (x : Operand) (ho : o.op = .load ty x)
  (g k : Nat) (hx : a.eval x = .pointer (some ⟨g, k, none⟩)) (cs : Array Value) (d : TypeDesc) (hc : ∀ j v, cs[j]? = some v → w.cell? ⟨g, k + j, none⟩ = some v)
  (hu : P.underlying ty = some d) (hd : (match d with | .struct _ | .array _ _ => true | _ => false) = true) (hi : (P.info? ty).map (·.size) = some cs.size)
  (h : K (a.put o.dst (.agg cs)) w) : o.wp P a w K Q := by
 unfold Oper.wp execOp
 simp only [ho, hx, Instr.loadAt, Instr.sureAddr, Sem.run_bind, Sem.run_pure, Result.andThen_ok, J4u w g k ty cs d hc hu hd hi]
 exact h
theorem J3m {P : Program} {ops : Array Oper} {rest : List Oper} {o : Oper} {a : Act} {w : World} {Q : Exit → Act → World → Prop} (hgd : o.guard = none) (ty : TypeId) (x : Operand) (ho : o.op = .load ty x)
  (g k : Nat) (hx : a.eval x = .pointer (some ⟨g, k, none⟩)) (cs : Array Value) (d : TypeDesc) (hc : ∀ j v, cs[j]? = some v → w.cell? ⟨g, k + j, none⟩ = some v)
  (hu : P.underlying ty = some d) (hd : (match d with | .struct _ | .array _ _ => true | _ => false) = true) (hi : (P.info? ty).map (·.size) = some cs.size)
  (h : wpList P ops Q rest (a.put o.dst (.agg cs)) w) : wpList P ops Q (o :: rest) a w :=
 wpList_plain hgd fun _ hK => J9k ty x ho g k hx cs d hc hu hd hi (hK _ _ h)

theorem J70 {P : Program} (w : World) (g o : Nat) (ty : TypeId) (cs : Array Value) (hi : (P.info? ty).map (·.size) = some cs.size) (hc : ∀ j, j < cs.size → (w.cell? ⟨g, o + j, none⟩).isSome = true ∧ w.frozen? ⟨g, o + j, none⟩ = false) (h1 : cs.all (·.oneCell') = true) :
  (storeVar ty ⟨g, o, none⟩ (.agg cs)).run P w = .ok () (w.setCells g o cs.toList) := by
 have hst := run_storeCells_cells (P := P) g o cs.toList 0 w (fun j hj => (hc j (by simpa using hj)).1) (fun j hj => (hc j (by simpa using hj)).2) (fun v hv => by
  obtain ⟨i, hi', rfl⟩ := List.getElem_of_mem hv
  have := Array.all_eq_true.1 h1 i (by simpa using hi')
  simpa using this)
 cases hq : P.info? ty with
 | none => simp [hq] at hi
 | some i =>
  have hs : cs.size = i.size := by simp [hq] at hi; omega
  simp [storeVar, sizeOf, typeInfo, hq, Value.cells, hs]
  simpa using hst
theorem J87 {P : Program} {o : Oper} {a : Act} {w : World} {K : Act → World → Prop} {Q : Exit → Act → World → Prop} (ty : TypeId) (x y : Operand) (ho : o.op = .store ty x y)
  (g k : Nat) (cs : Array Value) (hx : a.eval x = .pointer (some ⟨g, k, none⟩)) (hy : a.eval y = .agg cs) (hi : (P.info? ty).map (·.size) = some cs.size) (hc : ∀ j, j < cs.size → (w.cell? ⟨g, k + j, none⟩).isSome = true ∧ w.frozen? ⟨g, k + j, none⟩ = false) (h1 : cs.all (·.oneCell') = true)
  (h : K (a.put o.dst undef) (w.setCells g k cs.toList)) : o.wp P a w K Q := by
 unfold Oper.wp execOp
 simp only [ho, hx, hy, Instr.storeAt, Instr.sureAddr, Sem.run_bind, Sem.run_pure, Result.andThen_ok, J70 w g k ty cs hi hc h1]
 exact h
theorem J3a {P : Program} {ops : Array Oper} {rest : List Oper} {o : Oper} {a : Act} {w : World} {Q : Exit → Act → World → Prop} (hgd : o.guard = none) (ty : TypeId) (x y : Operand) (ho : o.op = .store ty x y)
  (g k : Nat) (cs : Array Value) (hx : a.eval x = .pointer (some ⟨g, k, none⟩)) (hy : a.eval y = .agg cs) (hi : (P.info? ty).map (·.size) = some cs.size) (hc : ∀ j, j < cs.size → (w.cell? ⟨g, k + j, none⟩).isSome = true ∧ w.frozen? ⟨g, k + j, none⟩ = false) (h1 : cs.all (·.oneCell') = true)
  (h : wpList P ops Q rest (a.put o.dst undef) (w.setCells g k cs.toList)) : wpList P ops Q (o :: rest) a w :=
 wpList_plain hgd fun _ hK => J87 ty x y ho g k cs hx hy hi hc h1 (hK _ _ h)

theorem J5f {g : Nat} {T : TypeId} : ∀ (vs : List Value) (o : Nat) (c : Array Value) (w : World), w.heap[g]? = some (.cells c T (0, 0)) → o + vs.length ≤ c.size →
  ∃ c', (w.setCells g o vs).heap[g]? = some (.cells c' T (0, 0)) ∧ c'.size = c.size ∧ ∀ j, c'[j]? = if o ≤ j ∧ j < o + vs.length then vs[j - o]? else c[j]?
 | [], o, c, w, h, _ => ⟨c, h, rfl, fun j => by rw [if_neg (by simp <;> omega)]⟩
 | v :: vs, o, c, w, h, hl => by
  simp only [List.length_cons] at hl
  have h1 : (w.setCell ⟨g, o, none⟩ v).heap[g]? = some (.cells (c.setIfInBounds o v) T (0, 0)) := by
   rw [setCell_eq_setRow w g o c T (0, 0) v h]
   exact setRow_heap w g c _ T _ h
  obtain ⟨c', k1, k2, k3⟩ := J5f vs (o + 1) _ _ h1 (by simp; omega)
  refine ⟨c', k1, by simpa using k2, fun j => ?_⟩
  rw [k3 j, Array.getElem?_setIfInBounds]
  simp only [List.length_cons]
  by_cases e : j = o
  ·subst e
   rw [if_neg (by omega), if_pos rfl, if_pos (by omega), if_pos (by omega)]
   simp
  ·by_cases e2 : o + 1 ≤ j ∧ j < o + 1 + vs.length
   ·rw [if_pos e2, if_pos (by omega), show j - o = (j - (o + 1)) + 1 by omega]
    simp
   ·rw [if_neg e2, if_neg (fun h => e h.symm), if_neg (by omega)]
theorem J2t (M : Nat) : ∀ (vs : List Value) (o : Nat) (w : World), w.grownBy (w.setCells M o vs) (some M)
 | [], o, w => ⟨rfl, rfl, rfl, Nat.le_refl _, fun _ _ _ => rfl⟩
 | v :: vs, o, w => J0x (J0p w M o v) (J2t M vs (o + 1) _)

def pv (o : Option KS) : Array Value := (kv (o.getD zeroK)).push (.bool o.isSome)
theorem J2w (o : Option KS) : (pv o).size = 17 := by simp [pv, J0b]
theorem Jdv (o : Option KS) : (pv o).all (·.oneCell') = true := by
 unfold pv
 rw [Array.all_push, J2g]
 rfl
theorem Jdu (o : Option KS) : (pv o)[16]? = some (.bool o.isSome) := by
 unfold pv
 rw [Array.getElem?_push, if_pos (by rw [J0b])]
theorem pv_kv (s : KS) (j : Nat) (v : Value) (h : (kv s)[j]? = some v) : (pv (some s))[j]? = some v := by
 have hj : j < 16 := by have := (Array.getElem?_eq_some_iff.1 h).1; rwa [J0b] at this
 unfold pv
 rw [Array.getElem?_push, if_neg (by rw [J0b]; omega)]
 exact h

def PlS (w : World) (B cl : Nat) (l : KV) : Prop := ∃ c, Blk w B c 116 ∧ c.size = cl * 17 ∧ ∀ k j, k < cl → j < 17 → c[k * 17 + j]? = (pv (l k))[j]?

theorem PlS.block {w w' : World} {B cl : Nat} {l : KV} (h : PlS w B cl l) (e : w'.heap[B]? = w.heap[B]?) : PlS w' B cl l := by
 obtain ⟨c, h1, h2, h3⟩ := h
 exact ⟨c, e.trans h1, h2, h3⟩
theorem PlS.cells {w : World} {B cl : Nat} {l : KV} (h : PlS w B cl l) {k : Nat} (hk : k < cl) : ∀ j v, (pv (l k))[j]? = some v → w.cell? ⟨B, k * 17 + j, none⟩ = some v := by
 intro j v hv
 obtain ⟨c, h1, h2, h3⟩ := h
 have hj : j < 17 := by have := (Array.getElem?_eq_some_iff.1 hv).1; rwa [J2w] at this
 exact h1.cell ((h3 k j hk hj).trans hv)
theorem PlS.regs {w : World} {B cl : Nat} {l : KV} (h : PlS w B cl l) {k : Nat} (hk : k < cl) {s : KS} (e : l k = some s) : ∀ j v, (kv s)[j]? = some v → w.cell? ⟨B, k * 17 + j, none⟩ = some v := by
 intro j v hv
 refine h.cells hk j v ?_
 rw [e]
 exact pv_kv s j v hv
theorem PlS.reached {w : World} {B cl : Nat} {l : KV} (h : PlS w B cl l) {k : Nat} (hk : k < cl) : w.cell? ⟨B, k * 17 + 16, none⟩ = some (.bool (l k).isSome) := h.cells hk 16 _ (Jdu _)
theorem PlS.free {w : World} {B cl : Nat} {l : KV} (h : PlS w B cl l) {k : Nat} (hk : k < cl) : ∀ j, j < 17 → (w.cell? ⟨B, k * 17 + j, none⟩).isSome = true ∧ w.frozen? ⟨B, k * 17 + j, none⟩ = false := by
 intro j hj
 obtain ⟨c, h1, h2, h3⟩ := h
 refine ⟨?_, h1.frozen _⟩
 have hs : j < (pv (l k)).size := by rw [J2w]; exact hj
 rw [h1.cell ((h3 k j hk hj).trans (Array.getElem?_eq_getElem hs))]
 rfl
theorem PlS.put {w : World} {B cl : Nat} {l : KV} (h : PlS w B cl l) {k : Nat} (hk : k < cl) (s : KS) : PlS (w.setCells B (k * 17) (pv (some s)).toList) B cl (putV l k s) := by
 obtain ⟨c, h1, h2, h3⟩ := h
 obtain ⟨c', k1, k2, k3⟩ := J5f (T := 116) (pv (some s)).toList (k * 17) c w h1 (by rw [Array.length_toList, J2w, h2]; omega)
 refine ⟨c', k1, k2.trans h2, fun m j hm hj => ?_⟩
 rw [k3, Array.length_toList, J2w]
 by_cases e : m = k
 ·subst e
  rw [if_pos (by omega), J18]
  simp
 ·rw [J16 _ e, if_neg (by omega)]
  exact h3 m j hm hj
theorem PlS.lt {w : World} {B cl : Nat} {l : KV} (h : PlS w B cl l) : B < w.heap.size := by
 obtain ⟨c, h1, _⟩ := h
 exact h1.lt

structure Ck (w0 : World) (p : Prg) (lo : Loc) (M B : Nat) (l : KV) (td : List Nat) (tv : Value) (w : World) : Prop where
 box : Blk w M #[.slice lo.ra p.rl lo.rc, .slice lo.ca p.cl lo.cc, .slice (some ⟨B, 0, none⟩) p.cl p.cl, tv] 90
 own : w.ownsRow w0.heap.size 3 1 tv td.length (td.map fun (k : Nat) => Value.int .i64 (k : Int))
 pl : PlS w B p.cl l
 up : More w0 w
 pin : PIn w0 p lo
 lo : w0.heap.size ≤ M ∧ w0.heap.size ≤ B

def Keeps (w w' : World) : Prop := ∀ n c T, T ≠ 90 → T ≠ 116 → T ≠ 3 → Blk w n c T → Blk w' n c T
theorem Keeps.trans {a b c : World} (h : Keeps a b) (k : Keeps b c) : Keeps a c := fun n d T h1 h2 h3 q => k n d T h1 h2 h3 (h n d T h1 h2 h3 q)
theorem Keeps.of {w w' : World} (m : More w w') : Keeps w w' := fun n c T _ _ _ q => q.more m

section
variable {w0 : World} {p : Prg} {lo : Loc} {M B : Nat} {l : KV} {td : List Nat} {tv : Value} {w : World}
theorem Ck.pinw (h : Ck w0 p lo M B l td tv w) : PIn w p lo := h.pin.more h.up
theorem Ck.plB (h : Ck w0 p lo M B l td tv w) : ∃ c, Blk w B c 116 := by obtain ⟨c, h1, _⟩ := h.pl; exact ⟨c, h1⟩
theorem Ck.ne (h : Ck w0 p lo M B l td tv w) : M ≠ B := by obtain ⟨c, h1⟩ := h.plB; exact h.box.ne h1 (by decide)
theorem Ck.tne (h : Ck w0 p lo M B l td tv w) {n : Nat} {c : Array Value} {T : TypeId} (hb : Blk w n c T) (hT : T ≠ 3) : tv.ownBlock ≠ some n := by
 intro e
 rcases h.own.2 with ⟨rfl, _⟩ | ⟨g, cap, cur, rfl, _, hg, _⟩
 ·simp [Value.ownBlock] at e
 ·simp [Value.ownBlock] at e
  subst e
  unfold Blk at hb
  rw [hb] at hg
  simp only [Option.some.injEq, Obj.cells.injEq] at hg
  exact hT hg.2.1
theorem Ck.more (h : Ck w0 p lo M B l td tv w) {w' : World} (m : More w w') : Ck w0 p lo M B l td tv w' :=
 ⟨h.box.more m, h.own.kept (m.grow none) (by cases tv.ownBlock <;> simp), h.pl.block (m.block _ h.pl.lt), h.up.trans m, h.pin, h.lo⟩
theorem Ck.put (h : Ck w0 p lo M B l td tv w) {k : Nat} (hk : k < p.cl) (s : KS) : Ck w0 p lo M B (putV l k s) td tv (w.setCells B (k * 17) (pv (some s)).toList) := by
 obtain ⟨c, hB⟩ := h.plB
 have g := J2t B (pv (some s)).toList (k * 17) w
 refine ⟨(g.block M h.box.lt (fun e => h.ne (Option.some.inj e))).trans h.box, h.own.kept g (.inr (h.tne hB (by decide))), h.pl.put hk s, h.up.grownBy g (fun b hb => by have := Option.some.inj hb; have := h.lo.2; omega), h.pin, h.lo⟩
theorem Ck.put_keeps (h : Ck w0 p lo M B l td tv w) {k : Nat} (s : KS) : Keeps w (w.setCells B (k * 17) (pv (some s)).toList) := by
 intro n c T h1 h2 h3 q
 obtain ⟨d, hB⟩ := h.plB
 have g := J2t B (pv (some s)).toList (k * 17) w
 exact (g.block n q.lt (fun e => q.ne hB h2 (Option.some.inj e))).trans q
theorem Ck.set (h : Ck w0 p lo M B l td tv w) {td' : List Nat} {tv' : Value} {w' : World} (g : w.grownBy w' tv.ownBlock) (ho : w'.ownsRow w0.heap.size 3 1 tv' td'.length (td'.map fun (k : Nat) => Value.int .i64 (k : Int))) :
  Ck w0 p lo M B l td' tv' (w'.setCell ⟨M, 3, none⟩ tv') := by
 obtain ⟨c, hB⟩ := h.plB
 have hb : Blk w' M #[.slice lo.ra p.rl lo.rc, .slice lo.ca p.cl lo.cc, .slice (some ⟨B, 0, none⟩) p.cl p.cl, tv] 90 := (g.block M h.box.lt (fun e => h.tne h.box (by decide) e.symm)).trans h.box
 have hb' := hb.set 3 tv'
 have hpl : PlS w' B p.cl l := h.pl.block (g.block B h.pl.lt (fun e => h.tne hB (by decide) e.symm))
 have hup : More w0 w' := h.up.grownBy g (fun b hb => (h.own.lt b hb).1)
 have hM : tv'.ownBlock ≠ some M := by
  intro e
  rcases ho.2 with ⟨rfl, _⟩ | ⟨g', cap, cur, rfl, _, hg, _⟩
  ·simp [Value.ownBlock] at e
  ·simp [Value.ownBlock] at e
   subst e
   unfold Blk at hb
   rw [hb] at hg
   simp only [Option.some.injEq, Obj.cells.injEq] at hg
   exact absurd hg.2.1 (by decide)
 refine ⟨hb', ho.kept (J0p w' M 3 tv') (.inr hM), hpl.block (Below.heap_setCell _ _ _ _ (fun e => h.ne e.symm)), hup.setCell h.lo.1 _, h.pin, h.lo⟩
theorem Ck.set_keeps (h : Ck w0 p lo M B l td tv w) {tv' : Value} {w' : World} (g : w.grownBy w' tv.ownBlock) : Keeps w (w'.setCell ⟨M, 3, none⟩ tv') := by
 intro n c T h1 h2 h3 q
 have q' : Blk w' n c T := (g.block n q.lt (fun e => h.tne q h3 e.symm)).trans q
 exact q'.other (fun e => by subst e; exact q.ne h.box h1 rfl) _ _
end
theorem Jkj (a n xb rb : Int) (sa xs rs : Bool)
  (c1 : ∀ w : World, Calls Try.prog 88 #[.int .i64 n] w fun e w' => e = .returned (.agg #[.int .i64 xb, .bool xs]) ∧ More w w')
  (c2 : ∀ w : World, Calls Try.prog 91 #[.int .i64 1, .agg #[.int .i64 a, .bool sa], .agg #[.int .i64 xb, .bool xs]] w fun e w' => e = .returned (.agg #[.int .i64 rb, .bool rs]) ∧ More w w') (w : World) :
  Calls Try.prog 89 #[.agg #[.int .i64 a, .bool sa], .int .i64 n] w fun e w' => e = .returned (.agg #[.int .i64 rb, .bool rs]) ∧ More w w' := by
 obtain ⟨S, HS⟩ : ∃ S : World → Prop, Hid (∀ w', S w' ↔ (Blk w' w.heap.size #[.int .i64 a, .bool sa] 65)) := ⟨_, fun _ => Iff.rfl⟩
 have k0 : ∀ i : { w' // S w' }, i.val.cell? ⟨w.heap.size, 0, none⟩ = some (.int .i64 a) := fun i => ((HS.out _).1 i.property).cell rfl
 have k1 : ∀ i : { w' // S w' }, i.val.cell? ⟨w.heap.size, 1, none⟩ = some (.bool sa) := fun i => ((HS.out _).1 i.property).cell rfl
 obtain ⟨W, HW⟩ : ∃ W : World, Hid (W = (w.alloc (.cells #[.int .i64 a, .bool sa] 65)).alloc (.cells #[.int .i64 0, .bool false] 65)) := ⟨_, rfl⟩
 have HB : Hid (Blk W w.heap.size #[.int .i64 a, .bool sa] 65 ∧ Blk W (w.heap.size + 1) #[.int .i64 0, .bool false] 65 ∧ More w W) := by
  rw [HW.out]
  exact ⟨(Blk.last _ _ _).alloc _ _, (by simpa using Blk.last (w.alloc (.cells #[.int .i64 a, .bool sa] 65)) #[.int .i64 0, .bool false] 65), ((More.refl _).alloc _ _).alloc _ _⟩
 have HS0 : S W.drew := (HS.out _).2 HB.out.1
 have hne : Nonempty { w' // S w' } := ⟨⟨_, HS0⟩⟩
 go_enter Try.func89, Try.ntmps89
 go_wp2_with (fail)
 rw [← HW.out]
 refine J01 (S := S) [(0, true), (1, true), (2, false), (3, false), (4, false)] (by kernel_rfl) (by kernel_rfl) (by kernel_rfl) HS0 ?_
 iterate 2 (refine J00 rfl (by kernel_rfl) (fun K hK => ?_); go_simp; refine hK _ _ ?_; clear hK K)
 refine J02 rfl (by kernel_rfl) (fun K hK => ?_); go_simp
 refine (c1 _).mono ?_
 rintro e w1 ⟨rfl, m1⟩
 have Hm1 : Hid (More W w1) := (More.refl _).drew.trans m1
 have HS1 : S w1 := (HS.out _).2 (HB.out.1.more Hm1.out)
 clear m1
 go_simp
 refine hK _ _ HS1 ?_; clear hK K
 refine J02 rfl (by kernel_rfl) (fun K hK => ?_); go_simp
 refine (c2 _).mono ?_
 rintro e w2 ⟨rfl, m2⟩
 have Hm2 : Hid (More W w2) := Hm1.out.trans m2
 have HS2 : S w2 := (HS.out _).2 (HB.out.1.more Hm2.out)
 clear m2
 go_simp
 refine hK _ _ HS2 ?_; clear hK K
 have HR : Hid (Blk w2 (w.heap.size + 1) #[.int .i64 0, .bool false] 65) := HB.out.2.1.more Hm2.out
 have t0 := HR.out.cell (j := 0) rfl
 have t1 := HR.out.cell (j := 1) rfl
 have u0 := HR.out.frozen 0
 have u1 := HR.out.frozen 1
 refine J02 rfl (by kernel_rfl) (fun K hK => ?_); go_simp
 refine hK _ _ ((HS.out _).2 (((HB.out.1.more Hm2.out).other (by omega) _ _).other (by omega) _ _)) ?_; clear hK K
 refine J04 ?_
 clear k0 k1 hne HS0 HS1 HS2
 go_wp2
 refine bodyPost_ret (by simp [results, Try.results89, go_sem, *]) rfl ⟨rfl, ?_⟩
 exact ((HB.out.2.2.trans Hm2.out).setCell (by dsimp only; omega) _).setCell (by dsimp only; omega) _

theorem sum_k (k : Kn) (n : Int) (n0 : -9223372036854775808 ≤ n) (w : World) :
  Calls Try.prog 89 #[kn k.b k.s, .int .i64 n] w fun e w' => e = .returned (kn (Kn.index k n).b (Kn.index k n).s) ∧ More w w' := by
 rw [Jfs k n n0]
 have c1 : ∀ w : World, Calls Try.prog 88 #[.int .i64 n] w fun e w' => e = .returned (kn (Kn.of n).b (Kn.of n).s) ∧ More w w' := fun w => J67 n w
 have c2 : ∀ w : World, Calls Try.prog 91 #[.int .i64 1, kn k.b k.s, kn (Kn.of n).b (Kn.of n).s] w fun e w' => e = .returned (kn (Kn.op 1 k (Kn.of n)).b (Kn.op 1 k (Kn.of n)).s) ∧ More w w' := fun w => J4c 1 k.b (Kn.of n).b k.s (Kn.of n).s w
 obtain ⟨v, hv⟩ : ∃ v, Kn.op 1 k (Kn.of n) = v := ⟨_, rfl⟩
 obtain ⟨x, hx⟩ : ∃ x, Kn.of n = x := ⟨_, rfl⟩
 rw [hv] at c2 ⊢
 rw [hx] at c1 c2
 exact Jkj k.b n x.b v.b k.s x.s v.s c1 c2 w

theorem J8p (lg : Int) (sec : Bool) (w : World) :
  Calls Try.prog 90 #[.agg #[.int .i64 lg, .bool sec]] w fun e w' => e = .returned (kn 17 sec) ∧ More w w' := by
 unfold kn
 go_enter Try.func90, Try.ntmps90
 go_wp2
 exact bodyPost_ret (by simp [results, Try.results90, go_sem]) rfl ⟨rfl, ((More.refl _).alloc _ _).alloc _ _⟩

def oppI (c : Int) : Int := if c = 1 then 2 else if c = 2 then 1 else if c = 3 then 4 else 3
theorem J6x (c : Int) (w : World) : Calls Try.prog 77 #[.int .i64 c] w fun e w' => e = .returned (.int .i64 (oppI c)) ∧ w' = w := by
 by_cases h1 : c = 1
 ·subst h1
  go_enter Try.func77, Try.ntmps77
  go_wp2
  go_ret
  exact ⟨rfl, rfl⟩
 by_cases h2 : c = 2
 ·subst h2
  go_enter Try.func77, Try.ntmps77
  go_wp2
  go_ret
  exact ⟨rfl, rfl⟩
 by_cases h3 : c = 3
 ·subst h3
  go_enter Try.func77, Try.ntmps77
  go_wp2
  go_ret
  exact ⟨rfl, rfl⟩
 ·have e1 : (c == 1) = false := by simp [h1]
  have e2 : (c == 2) = false := by simp [h2]
  have e3 : (c == 3) = false := by simp [h3]
  have ho : oppI c = 3 := by unfold oppI; rw [if_neg h1, if_neg h2, if_neg h3]
  rw [ho]
  clear ho
  go_enter Try.func77, Try.ntmps77
  go_wp2
  go_ret
  exact ⟨rfl, rfl⟩
end
section
open Go
section
variable {P : Program} {ops : Array Oper} {Q : Exit → Act → World → Prop} {md : Region.Mode} {S : World → Prop}

def J7h (md : Region.Mode) (ops : Array Oper) (j : Nat) : Bool :=
 match ops[j]? with
 | none => false
 | some o => (List.range ops.size).all fun i => i == j || o.after.any fun e => Region.binds md e && e.on == i

def AnyL (P : Program) (md : Region.Mode) (ops : Array Oper) (Q : Exit → Act → World → Prop) (S : World → Prop) : Nat → Array Bool → Act → World → Prop
 | 0, l, a, w => Region.ready md ops l = [] ∧ Q .normal a w
 | n + 1, l, a, w => (Region.ready md ops l = [] → Q .normal a w) ∧ ∀ i ∈ Region.ready md ops l, wpOp P ops Q i (fun a' w' => (J7h md ops i = false → S w') ∧ AnyL P md ops Q S n (l.setIfInBounds i true) a' w') a w

theorem AnyL.any : ∀ (n : Nat) (l : Array Bool) (a : Act) (w : World), AnyL P md ops Q S n l a w → wpAny P md ops Q n l a w
 | 0, _, _, _, h => h
 | n + 1, _, _, _, h => ⟨h.1, fun i hi => wpOp_mono (fun a' w' h' => AnyL.any n _ a' w' h'.2) (h.2 i hi)⟩

theorem Jhh {i j : Nat} {l : Array Bool} (hi : i ∈ Region.ready md ops l) (hj : j ∈ Region.ready md ops l) (hne : j ≠ i) : J7h md ops j = false := by
 cases hb : J7h md ops j with
 | false => rfl
 | true =>
  exfalso
  obtain ⟨_, oj, hoj, hall⟩ := mem_ready.1 hj
  obtain ⟨hun, oi, hoi, _⟩ := mem_ready.1 hi
  unfold J7h at hb
  rw [hoj] at hb
  dsimp only at hb
  rw [List.all_eq_true] at hb
  have h1 := hb i (List.mem_range.2 (Array.getElem?_eq_some_iff.1 hoi).1)
  rw [Bool.or_eq_true] at h1
  rcases h1 with h1 | h1
  ·exact hne (by simpa using h1 : i = j).symm
  ·obtain ⟨e, he, hbe⟩ := Array.any_eq_true'.1 h1
   rw [Bool.and_eq_true, beq_iff_eq] at hbe
   have h2 := hall e he hbe.1
   rw [hbe.2] at h2
   rcases Nat.lt_or_ge i l.size with h' | h'
   ·simp [h'] at hun h2; rw [hun] at h2; cases h2
   ·simp [Array.getElem?_eq_none h'] at h2

theorem AnyL.take {i : Nat} {oi : Oper} {v : Value} (hi : ops[i]? = some oi) (hs : Region.noSelect ops = true) (hQ : ∀ c a w, Q (.panic c) (a.put oi.dst v) w → Q (.panic c) a w) :
  ∀ (n : Nat) (l : Array Bool) (a : Act) (w : World), (∀ j oj, ops[j]? = some oj → j ≠ i → l.getD j true = false → (∀ e ∈ oj.after, Region.binds md e = true → e.on ≠ i) → oi.apart ops oj = true) →
   i ∈ Region.ready md ops l → YieldsIf P ops S oi v a → S w → AnyL P md ops Q S n (l.setIfInBounds i true) (a.put oi.dst v) w → AnyL P md ops Q S (n + 1) l a w
 | n, l, a, w, hf, hr, hy, hS, H => by
  refine ⟨fun h => absurd hr (by rw [h]; simp), fun j hj => ?_⟩
  by_cases hji : j = i
  ·subst hji
   exact hy.wpOp hi hS ⟨fun _ => hS, H⟩
  have hjm := ready_mono hj hji
  cases n with
  | zero => rw [H.1] at hjm; cases hjm
  | succ n =>
   obtain ⟨hjun, oj, hoj, hall⟩ := mem_ready.1 hj
   have hno : ∀ e ∈ oj.after, Region.binds md e = true → e.on ≠ i := fun e he hb hei => by
    have h1 := hall e he hb
    have h0 := (mem_ready.1 hr).1
    rw [hei] at h1
    rcases Nat.lt_or_ge i l.size with h' | h'
    ·simp [h'] at h0 h1; rw [h0] at h1; cases h1
    ·simp [Array.getElem?_eq_none h'] at h1
   have h2 := wpOp_putIf hoj (hf j oj hoj hji hjun hno) (fun cs b => Region.noSelect_spec hs i oi cs b hi) (fun cs b => Region.noSelect_spec hs j oj cs b hoj) hQ hy (H.2 j hjm)
   have hw := Jhh hr hj hji
   refine wpOp_mono (fun a' w' h3 => ?_) h2
   have hS' := h3.2.1 hw
   refine ⟨fun _ => hS', AnyL.take hi hs hQ n (l.setIfInBounds j true) a' w' (fun k ok hk hki hun hno' => hf k ok hk hki ?_ hno') (ready_mono hr (Ne.symm hji)) h3.1 hS' ?_⟩
   ·by_cases e : j = k
    ·subst e; exact hjun
    ·rw [getD_set_ne true e] at hun; exact hun
   ·rw [Array.setIfInBounds_comm _ _ hji]
    exact h3.2.2

def J5i (P : Program) (ops : Array Oper) (Q : Exit → Act → World → Prop) (S : World → Prop) : List (Nat × Bool) → Act → World → Prop
 | [], a, w => Q .normal a w
 | (i, t) :: rest, a, w =>
  match ops[i]? with
  | none => False
  | some o => if t then J22 P ops S o a w (fun a' w' => J5i P ops Q S rest a' w') else J1s P ops Q o a w (fun a' w' => (J7h .any ops i = false → S w') ∧ (rest ≠ [] → S w') ∧ J5i P ops Q S rest a' w')

theorem J3c (hs : Region.noSelect ops = true) (hQ : ∀ c (a : Act) d v w, Q (.panic c) (a.put d v) w → Q (.panic c) a w) :
  ∀ (l : List (Nat × Bool)) (listed : Array Bool) (a : Act) (w : World), ordB .any ops l listed = true → (l ≠ [] → S w) → J5i P ops Q S l a w → AnyL P .any ops Q S l.length listed a w
 | [], listed, a, w, hB, _, h => ⟨by simpa [ordB] using hB, h⟩
 | (i, t) :: rest, listed, a, w, hB, hS, h => by
  replace hS : S w := hS (by simp)
  simp only [ordB, Bool.and_eq_true] at hB
  obtain ⟨⟨ho, hc⟩, hB'⟩ := hB
  obtain ⟨o, ho⟩ := Option.isSome_iff_exists.1 ho
  simp only [J5i, ho] at h
  cases t with
  | true =>
   simp only [if_true, Bool.and_eq_true] at hc h
   unfold J22 at h
   have hr : i ∈ Region.ready .any ops listed := by simpa using hc.2
   by_cases hw : Region.wanted o (yielded ops a.tmps) = true
   ·rw [if_pos hw] at h
    obtain ⟨v, hv, hk⟩ := h
    exact AnyL.take ho hs (fun c a w => hQ c a _ _ w) _ _ _ _ (Region.free_spec ho hc.1) hr (.inl ⟨hw, fun w' hw' => hv ⟨w', hw'⟩⟩) hS (J3c hs hQ rest _ _ _ hB' (fun _ => hS) hk)
   ·rw [if_neg hw] at h
    exact AnyL.take ho hs (fun c a w => hQ c a _ _ w) _ _ _ _ (Region.free_spec ho hc.1) hr (.inr ⟨by simpa using hw, rfl⟩) hS (J3c hs hQ rest _ _ _ hB' (fun _ => hS) h)
  | false =>
   simp only [Bool.false_eq_true, if_false, beq_iff_eq] at hc h
   refine ⟨fun h0 => absurd (hc.symm.trans h0) (by simp), fun j hj => ?_⟩
   obtain rfl : j = i := by rw [hc] at hj; simpa using hj
   unfold J1s at h
   unfold wpOp
   rw [ho]
   show if Region.wanted o (yielded ops a.tmps) = true then _ else _
   by_cases hw : Region.wanted o (yielded ops a.tmps) = true
   ·rw [if_pos hw] at h ⊢
    exact .inl (Oper.wp_mono (fun a' w' h' => ⟨h'.1, J3c hs hQ rest _ _ _ hB' h'.2.1 h'.2.2⟩) h)
   ·rw [if_neg hw] at h ⊢
    exact ⟨h.1, J3c hs hQ rest _ _ _ hB' h.2.1 h.2.2⟩

structure OrdZ (P : Program) (ops : Array Oper) (Q : Exit → Act → World → Prop) (S : World → Prop) (l : List (Nat × Bool)) (a : Act) (w : World) : Prop where
 out : J5i P ops Q S l a w

theorem J0i {id : Nat} {a : Act} {w : World} (l : List (Nat × Bool)) (hm : P.follows .mixedOrders = true) (hs : Region.noSelect ops = true)
  (hB : (ordB .any ops l (Array.replicate ops.size false) && l.length == ops.size) = true) (hS : S w.drew) (h : OrdZ P ops (NoPanic Q) S l a w.drew) : (Code.region id ops true).wp P Q a w := by
 rw [Bool.and_eq_true] at hB
 have hl : l.length = ops.size := by simpa using hB.2
 refine wp_region_noPanic (wp_region_any hm ?_)
 rw [← hl]
 have := J3c (P := P) (S := S) (Q := NoPanic Q) hs (fun _ _ _ _ _ h => h) l (Array.replicate ops.size false) a w.drew hB.1 (fun _ => hS) h.out
 have := this.any
 rwa [← hl] at this

theorem J0e {ls : List Oper} {i : Nat} {o : Oper} {rest : List (Nat × Bool)} {a : Act} {w : World} (ho' : nth ls i = some o) (hw : Region.wanted o (yielded ls.toArray a.tmps) = true)
  (h : ∀ K : Act → World → Prop, (∀ a w, OrdZ P ls.toArray Q S rest a w → K a w) → ∃ v, (∀ i : { w' // S w' }, (execOp a.eval o).run P i.val = .ok (.value v) i.val) ∧ K (a.put o.dst v) w) :
  OrdZ P ls.toArray Q S ((i, true) :: rest) a w := by
 have ho := J1v ho'
 refine ⟨?_⟩
 simp only [J5i, ho]
 unfold J22
 simp only [if_true]
 rw [if_pos hw]
 exact h _ (fun _ _ h => h.out)
theorem J0w {ls : List Oper} {i : Nat} {o : Oper} {rest : List (Nat × Bool)} {a : Act} {w : World} (ho' : nth ls i = some o) (hw : Region.wanted o (yielded ls.toArray a.tmps) = true)
  (h : ∀ K : Act → World → Prop, (∀ a w, S w → OrdZ P ls.toArray Q S rest a w → K a w) → Oper.wp P o a w K Q) : OrdZ P ls.toArray Q S ((i, false) :: rest) a w := by
 have ho := J1v ho'
 refine ⟨?_⟩
 simp only [J5i, ho, Bool.false_eq_true, if_false]
 unfold J1s
 rw [if_pos hw]
 exact h _ (fun _ _ hs h => ⟨fun _ => hs, fun _ => hs, h.out⟩)
theorem J0u {ls : List Oper} {i : Nat} {o : Oper} {a : Act} {w : World} (ho' : nth ls i = some o) (hw : Region.wanted o (yielded ls.toArray a.tmps) = true) (hl : J7h .any ls.toArray i = true)
  (h : ∀ K : Act → World → Prop, (∀ a w, Q .normal a w → K a w) → Oper.wp P o a w K Q) : OrdZ P ls.toArray Q S [(i, false)] a w := by
 have ho := J1v ho'
 refine ⟨?_⟩
 simp only [J5i, ho, Bool.false_eq_true, if_false]
 unfold J1s
 rw [if_pos hw]
 exact h _ (fun _ _ h => ⟨fun e => absurd (hl.symm.trans e) (by simp), fun e => absurd rfl e, h⟩)
end
section
variable {P : Program} {ops : Array Oper} {Q : Exit → Act → World → Prop} {S : World → Prop}

theorem Jc6 {i : Nat} {o : Oper} {a : Act} {w : World} {K K' : Act → World → Prop} (ho : ops[i]? = some o) (h : J1s P ops Q o a w K) (hK : ∀ a w, K a w → K' a w) : wpOp P ops Q i K' a w := by
 unfold J1s at h
 unfold wpOp
 rw [ho]
 show if Region.wanted o (yielded ops a.tmps) = true then _ else _
 by_cases hw : Region.wanted o (yielded ops a.tmps) = true
 ·rw [if_pos hw] at h ⊢
  exact .inl (Oper.wp_mono hK h)
 ·rw [if_neg hw] at h ⊢
  exact hK _ _ h

structure OrdL (P : Program) (ops : Array Oper) (Q : Exit → Act → World → Prop) (S : World → Prop) (n : Nat) (listed : Array Bool) (a : Act) (w : World) : Prop where
 out : wpAnyH P .any ops Q S n listed a w

theorem J1j {id : Nat} {a : Act} {w : World} (hm : P.follows .mixedOrders = true) (hS : S w.drew)
  (h : OrdL P ops (NoPanic Q) S ops.size (Array.replicate ops.size false) a w.drew) : (Code.region id ops true).wp P Q a w :=
 wp_region_noPanic (wp_region_held_drew (S := S) hm hS (fun _ => h.out))

theorem J07 {ls : List Oper} (i : Nat) {o : Oper} {n : Nat} {listed : Array Bool} {a : Act} {w : World} (ho' : nth ls i = some o)
  (hB : (Region.noSelect ls.toArray && (Region.free .any ls.toArray listed i && (Region.ready .any ls.toArray listed).contains i)) = true) (hS : S w) (hw : Region.wanted o (yielded ls.toArray a.tmps) = true)
  (h : ∀ K : Act → World → Prop, (∀ a w, OrdL P ls.toArray (NoPanic Q) S n (listed.setIfInBounds i true) a w → K a w) → ∃ v, (∀ i : { w' // S w' }, (execOp a.eval o).run P i.val = .ok (.value v) i.val) ∧ K (a.put o.dst v) w) :
  OrdL P ls.toArray (NoPanic Q) S (n + 1) listed a w := by
 simp only [Bool.and_eq_true] at hB
 obtain ⟨v, hv, hk⟩ := h (fun a w => wpAnyH P .any ls.toArray (NoPanic Q) S n (listed.setIfInBounds i true) a w) (fun _ _ h => h.out)
 exact ⟨wpAnyH_take (J1v ho') hB.1 hB.2.1 hB.2.2 (fun _ _ _ h => h) (.inl ⟨hw, fun w' hw' => hv ⟨w', hw'⟩⟩) hS hk⟩

structure J5r (P : Program) (ops : Array Oper) (Q : Exit → Act → World → Prop) (S : World → Prop) (i n : Nat) (listed : Array Bool) (a : Act) (w : World) : Prop where
 out : wpOp P ops Q i (fun a' w' => S w' ∧ wpAnyH P .any ops Q S n (listed.setIfInBounds i true) a' w') a w

theorem J08 {ls : List Oper} {i : Nat} {o : Oper} {n : Nat} {listed : Array Bool} {a : Act} {w : World} (ho' : nth ls i = some o) (hw : Region.wanted o (yielded ls.toArray a.tmps) = true)
  (h : ∀ K : Act → World → Prop, (∀ a w, S w → OrdL P ls.toArray Q S n (listed.setIfInBounds i true) a w → K a w) → Oper.wp P o a w K Q) : J5r P ls.toArray Q S i n listed a w := by
 refine ⟨Jc6 (J1v ho') (K := fun a' w' => S w' ∧ wpAnyH P .any ls.toArray Q S n (listed.setIfInBounds i true) a' w') ?_ (fun _ _ h => h)⟩
 unfold J1s
 rw [if_pos hw]
 exact h _ (fun _ _ hs h => ⟨hs, h.out⟩)

theorem J0z (i : Nat) {n : Nat} {listed : Array Bool} {a : Act} {w : World} (hB : (Region.ready .any ops listed == [i]) = true) (h : J5r P ops Q S i n listed a w) : OrdL P ops Q S (n + 1) listed a w := by
 refine ⟨wpAnyH_all (by simpa using hB) (by simp) (fun j hj => ?_)⟩
 obtain rfl : j = i := by simpa using hj
 exact h.out
theorem J3k (i j : Nat) {n : Nat} {listed : Array Bool} {a : Act} {w : World} (hB : (Region.ready .any ops listed == [i, j]) = true) (h : J5r P ops Q S i n listed a w) (k : J5r P ops Q S j n listed a w) : OrdL P ops Q S (n + 1) listed a w := by
 refine ⟨wpAnyH_all (by simpa using hB) (by simp) (fun x hx => ?_)⟩
 have hx' : x = i ∨ x = j := by simpa using hx
 rcases hx' with rfl | rfl
 ·exact h.out
 ·exact k.out
theorem J3w {n : Nat} {listed : Array Bool} {a : Act} {w : World} (hB : (Region.ready .any ops listed == []) = true) (h : Q .normal a w) : OrdL P ops (NoPanic Q) S n listed a w :=
 ⟨wpAnyH_done (by simpa using hB) (show NoPanic Q .normal a w from h) n⟩

end
end
section
open Go.RowKit
set_option linter.unusedSimpArgs false
set_option linter.unusedVariables false
set_option maxRecDepth 8000
theorem J9x : (Try.prog.info? 113).map (·.size) = some 16 := by kernel_rfl
theorem J17 (s : KS) : (Try.prog.info? 113).map (·.size) = some (kv s).size := by rw [J0b]; exact J9x
theorem J2v : kv zeroK = #[.int .i64 0, .bool false, .int .i64 0, .bool false, .int .i64 0, .bool false, .int .i64 0, .bool false, .int .i64 0, .bool false, .int .i64 0, .bool false, .int .i64 0, .bool false, .int .i64 0, .bool false] := rfl
theorem More.setRow {w w' : World} (m : More w w') {g : Nat} (hg : w.heap.size ≤ g) (c : Array Value) : More w (w'.setRow g c) :=
 m.grownBy (row := some g) ⟨rfl, rfl, rfl, by simp [World.setRow], fun k _ hk => setRow_other _ _ _ _ (fun e => hk (by rw [e]))⟩ (fun b hb => by have := Option.some.inj hb; omega)
theorem Blk.setRow {w : World} {n : Nat} {c : Array Value} {T : TypeId} (h : Blk w n c T) (d : Array Value) : Blk (w.setRow n d) n d T := setRow_heap w n c d T (0, 0) h
theorem Blk.setRow_other {w : World} {n : Nat} {c : Array Value} {T : TypeId} (h : Blk w n c T) {m : Nat} (hm : n ≠ m) (d : Array Value) : Blk (w.setRow m d) n c T := (Go.setRow_other w m n d hm).trans h

def joinU (s t : KS) (k : Nat) : KS := fun j => if j < k then Kn.join (s j) (t j) else s j
theorem Jbw (s t : KS) (k : Nat) : setK (joinU s t k) (k : Int) (Kn.join (s k) (t k)) = joinU s t (k + 1) := by
 funext j
 unfold setK joinU
 rw [Int.toNat_natCast]
 by_cases e : j = k
 ·subst e; rw [if_pos rfl, if_pos (by omega)]
 ·rw [if_neg e]
  by_cases h : j < k
  ·rw [if_pos h, if_pos (by omega)]
  ·rw [if_neg h, if_neg (by omega)]

structure JB (w : World) (s t : KS) (k : Nat) (wr : World) : Prop where
 a : Blk wr w.heap.size (kv (joinU s t k)) 113
 b : Blk wr (w.heap.size + 1) (kv t) 113
 r : Blk wr (w.heap.size + 1 + 1) (kv zeroK) 113
 m : More w wr
theorem JB.more {w : World} {s t : KS} {k : Nat} {wr w' : World} (h : JB w s t k wr) (m : More wr w') : JB w s t k w' := ⟨h.a.more m, h.b.more m, h.r.more m, h.m.trans m⟩

set_option maxHeartbeats 1000000 in
theorem J8n (s t : KS) (w : World) :
  Calls Try.prog 75 #[.agg (kv s), .agg (kv t)] w fun e w' => e = .returned (.agg (kv (fun j => Kn.join (s j) (t j)))) ∧ More w w' := by
 suffices hP : ∀ P : Ending → World → Prop, (∀ w', More w w' → P (.returned (.agg (kv (fun j => Kn.join (s j) (t j))))) w') → Calls Try.prog 75 #[.agg (kv s), .agg (kv t)] w P from hP _ (fun w' m => ⟨rfl, m⟩)
 intro P hP0
 have HP : Hid (∀ w', More w w' → P (.returned (.agg (kv (fun j => Kn.join (s j) (t j))))) w') := hP0
 clear hP0
 have Cj : Hid (∀ (x y : Kn) (w : World), Calls Try.prog 86 #[kn x.b x.s, kn y.b y.s] w fun e w' => e = .returned (kn (Kn.join x y).b (Kn.join x y).s) ∧ More w w') := fun x y w => Jbx x.b y.b x.s y.s w
 obtain ⟨W, HW⟩ : ∃ W : World, Hid (W = ((w.alloc (.cells (kv s) 113)).alloc (.cells (kv t) 113)).alloc (.cells #[.int .i64 0, .bool false, .int .i64 0, .bool false, .int .i64 0, .bool false, .int .i64 0, .bool false, .int .i64 0, .bool false, .int .i64 0, .bool false, .int .i64 0, .bool false, .int .i64 0, .bool false] 113)) := ⟨_, rfl⟩
 have HJ : Hid (JB w s t 0 W) := by
  rw [HW.out]
  refine ⟨?_, ?_, ?_, ((((More.refl _).alloc _ _).alloc _ _).alloc _ _)⟩
  ·rw [show joinU s t 0 = s from by funext j; simp [joinU]]
   exact ((Blk.last _ _ _).alloc _ _).alloc _ _
  ·exact (by simpa using Blk.last (w.alloc (.cells (kv s) 113)) (kv t) 113 : Blk _ (w.heap.size + 1) _ _).alloc _ _
  ·rw [J2v]
   exact (by simpa using Blk.last ((w.alloc (.cells (kv s) 113)).alloc (.cells (kv t) 113)) #[.int .i64 0, .bool false, .int .i64 0, .bool false, .int .i64 0, .bool false, .int .i64 0, .bool false, .int .i64 0, .bool false, .int .i64 0, .bool false, .int .i64 0, .bool false, .int .i64 0, .bool false] 113)
 obtain ⟨c, hc⟩ : ∃ c, kv s = c := ⟨_, rfl⟩
 obtain ⟨d, hd⟩ : ∃ c, kv t = c := ⟨_, rfl⟩
 have hcs : c.size = 16 := hc ▸ J0b s
 have hds : d.size = 16 := hd ▸ J0b t
 rw [hc, hd] at HW
 rw [hc, hd]
 clear hc hd
 go_enter Try.func75, Try.ntmps75
 go_wp2_with (fail)
 rw [← HW.out]
 clear hcs hds
 go_loopg [6] 8 (fun g iv wr => ∃ k : Nat, k + g = 8 ∧ iv = .int .i64 k ∧ Hid (JB w s t k wr))
 case atStart => exact ⟨0, by omega, rfl, HJ.out⟩
 case round =>
  obtain ⟨k, hkg, rfl, Hr⟩ := hrel
  cases gk with
  | zero =>
   obtain rfl : k = 8 := by omega
   obtain ⟨C, hC⟩ : ∃ C, kv (joinU s t 8) = C := ⟨_, rfl⟩
   have hf : kv (fun j => Kn.join (s j) (t j)) = C := by rw [← hC]; exact Jk9 (fun j hj => by unfold joinU; rw [if_pos hj])
   have hb := Hr.out.a
   rw [hC] at hb
   have hr := Hr.out.r
   have hi : (Try.prog.info? 113).map (·.size) = some C.size := by rw [← hC]; exact J17 _
   have hold : (kv zeroK).size = C.size := by rw [← hC, J0b, J0b]
   have hone : C.all (·.oneCell') = true := by rw [← hC]; exact J2g _
   unfold Blk at hb hr
   have HE : Hid (P (.returned (.agg C)) (wr.setRow (w.heap.size + 1 + 1) C)) := by
    have := HP.out (wr.setRow (w.heap.size + 1 + 1) C) (Hr.out.m.setRow (by omega) C)
    rw [hf] at this
    exact this
   clear hf HP HJ HW
   go_wp2_with (first | (refine wpList_load_row rfl 113 (.tmp 2) rfl w.heap.size rfl 113 _ (0, 0) _ hb Try.underlying113 rfl hi ?_) | (refine wpList_store_row rfl 113 (.tmp 4) (.tmp 19) rfl (w.heap.size + 1 + 1) _ rfl rfl 113 _ hr hi hold hone ?_))
   exact bodyPost_ret (results_cell_row rfl _ _ (w.heap.size + 1 + 1) 113 C (0, 0) _ rfl (setRow_heap _ _ _ _ _ _ hr) Try.underlying113 rfl hi) rfl HE.out
  | succ g =>
   have hk8 : k < 8 := by omega
   have hki : (k : Int) < 8 := by omega
   have hk63 : wrap64 ((k : Int) + 1) = (k : Int) + 1 := by unfold wrap64; omega
   obtain ⟨S, HS⟩ : ∃ S : World → Prop, Hid (∀ w', S w' ↔ JB w s t k w') := ⟨_, fun _ => Iff.rfl⟩
   have HS0 : S wr.drew := (HS.out _).2 (Hr.out.more (More.refl _).drew)
   have hne : Nonempty { w' // S w' } := ⟨⟨_, HS0⟩⟩
   obtain ⟨xa, hxa⟩ : ∃ x, s k = x := ⟨_, rfl⟩
   obtain ⟨xb, hxb⟩ : ∃ x, t k = x := ⟨_, rfl⟩
   have hju : joinU s t k k = xa := by unfold joinU; rw [if_neg (by omega), hxa]
   have k3 : ∀ i : { w' // S w' }, i.val.cell? ⟨w.heap.size, k * 2, none⟩ = some (.int .i64 xa.b) := fun i => by rw [((HS.out _).1 i.property).a.cell (kv_at _ k hk8).1, hju]
   have k4 : ∀ i : { w' // S w' }, i.val.cell? ⟨w.heap.size, k * 2 + 1, none⟩ = some (.bool xa.s) := fun i => by rw [((HS.out _).1 i.property).a.cell (kv_at _ k hk8).2, hju]
   have k5 : ∀ i : { w' // S w' }, i.val.cell? ⟨w.heap.size + 1, k * 2, none⟩ = some (.int .i64 xb.b) := fun i => by rw [((HS.out _).1 i.property).b.cell (kv_at _ k hk8).1, hxb]
   have k6 : ∀ i : { w' // S w' }, i.val.cell? ⟨w.heap.size + 1, k * 2 + 1, none⟩ = some (.bool xb.s) := fun i => by rw [((HS.out _).1 i.property).b.cell (kv_at _ k hk8).2, hxb]
   obtain ⟨v, hv⟩ : ∃ v, Kn.join xa xb = v := ⟨_, rfl⟩
   have c2 : ∀ w : World, Calls Try.prog 86 #[kn xa.b xa.s, kn xb.b xb.s] w fun e w' => e = .returned (kn v.b v.s) ∧ More w w' := fun w => hv ▸ Cj.out xa xb w
   have Hv : Hid (Kn.join (s k) (t k) = v) := by rw [hxa, hxb]; exact hv
   clear hxa hxb hv hju
   obtain ⟨xab, xas⟩ := xa
   obtain ⟨xbb, xbs⟩ := xb
   obtain ⟨vb, vs⟩ := v
   unfold kn at c2
   dsimp only at k3 k4 k5 k6 c2
   go_wp2_with (fail)
   refine J0i (S := S) [(0, true), (1, true), (2, true), (3, true), (4, true), (5, true), (6, true), (7, false), (8, true), (9, false)] (by kernel_rfl) (by kernel_rfl) (by kernel_rfl) HS0 ?_
   iterate 7 (refine J0e rfl (by kernel_rfl) (fun K hK => ?_); go_simp; refine hK _ _ ?_; clear hK K)
   refine J0w rfl (by kernel_rfl) (fun K hK => ?_); go_simp
   refine (c2 _).mono ?_
   rintro e w2 ⟨rfl, m2⟩
   have Hm2 : Hid (JB w s t k w2) := Hr.out.more ((More.refl _).drew.trans m2)
   have HS2 : S w2 := (HS.out _).2 Hm2.out
   clear m2
   go_simp
   refine hK _ _ HS2 ?_; clear hK K
   (refine J0e rfl (by kernel_rfl) (fun K hK => ?_); go_simp; refine hK _ _ ?_; clear hK K)
   have q0 := Hm2.out.a.cell (kv_at _ k hk8).1
   have q1 := Hm2.out.a.cell (kv_at _ k hk8).2
   have q2 := Hm2.out.a.frozen (k * 2)
   have q3 := Hm2.out.a.frozen (k * 2 + 1)
   obtain ⟨w3, Hw3⟩ : ∃ w3, Hid (w3 = (w2.setCell ⟨w.heap.size, k * 2, none⟩ (.int .i64 vb)).setCell ⟨w.heap.size, k * 2 + 1, none⟩ (.bool vs)) := ⟨_, rfl⟩
   have HJ3 : Hid (JB w s t (k + 1) w3) := by
    rw [Hw3.out]
    refine ⟨?_, (Hm2.out.b.other (by omega) _ _).other (by omega) _ _, (Hm2.out.r.other (by omega) _ _).other (by omega) _ _, (Hm2.out.m.setCell (by simp) _).setCell (by simp) _⟩
    rw [← Jbw, Hv.out]
    have := Hm2.out.a.setK (k : Int) vb vs (by simpa using hk8)
    rw [Int.toNat_natCast] at this
    exact this
   refine J0u rfl (by kernel_rfl) (by kernel_rfl) (fun K hK => ?_)
   go_simp
   rw [← Hw3.out]
   refine hK _ _ ?_
   clear hK K hne k3 k4 k5 k6 c2 HS0 HS2 q0 q1 q2 q3
   refine NoPanic.normal ?_
   go_wp2
   go_roundg g
   case measure => omega
   case rel => exact ⟨k + 1, by omega, by first | rfl | simp, HJ3.out⟩
theorem Jij (s : KS) (j : Nat) (h : j < 8) : (kv s).extract (j * 2) (j * 2 + 2) = #[.int .i64 (s j).b, .bool (s j).s] := by
 have hk := kv_at s j h
 have hz := J0b s
 apply Array.ext_getElem?
 intro i
 rw [Array.getElem?_extract]
 by_cases e : i < 2
 ·rw [if_pos (by omega)]
  by_cases e0 : i = 0
  ·subst e0; rw [Nat.add_zero, hk.1]; rfl
  ·obtain rfl : i = 1 := by omega
   rw [hk.2]; rfl
 ·rw [if_neg (by omega)]
  simp
  omega

theorem J9n : Try.prog.cellsOf 65 = 2 := by kernel_rfl
theorem Jdc : ∃ i, Try.prog.info? 65 = some i ∧ i.size = 2 := by
 have h : (Try.prog.info? 65).map (·.size) = some 2 := by kernel_rfl
 obtain ⟨i, h1, h2⟩ := Option.map_eq_some_iff.1 h
 exact ⟨i, h1, h2⟩

theorem Jhz (s : KS) (j : Nat) (h : j < 8) (w : World) : (part 65 (kv s) (j * 2)).run Try.prog w = .ok (.agg #[.int .i64 (s j).b, .bool (s j).s]) w := by
 obtain ⟨i, hi, hs⟩ := Jdc
 have hsz : (sizeOf 65).run Try.prog w = .ok 2 w := by rw [run_sizeOf w hi, J9n]
 unfold part
 have hag : (isAgg 65).run Try.prog w = .ok true w := by
  unfold isAgg
  rw [Sem.run_bind, run_underlying Try.underlying65 w]
  rfl
 simp only [Sem.run_bind, hag, Result.andThen_ok, if_true, hsz, Sem.run_pure]
 rw [Jij s j h]

theorem eq23 (d : Nat) (x y : Int) (s t : Bool) (w : World) : (Op.equalIn (d + 2) 65 (.agg #[.int .i64 x, .bool s]) (.agg #[.int .i64 y, .bool t])).run Try.prog w = .ok (x == y && s == t) w := by
 cases hx : (x == y) with
 | false => go_simp
 | true =>
  go_simp
  cases s <;> cases t <;> rfl

theorem eqItems (d : Nat) (s t : KS) (w : World) : ∀ is : List Nat, (∀ j ∈ is, j < 8) → ∃ r : Bool, (Op.eqItems (d + 2) 65 2 (kv s) (kv t) is).run Try.prog w = .ok r w ∧ (r = true ↔ ∀ j ∈ is, s j = t j)
 | [], _ => ⟨true, by simp [Op.eqItems], by simp⟩
 | i :: is, h => by
  have hi := h i (by simp)
  obtain ⟨r, hr, hiff⟩ := eqItems d s t w is (fun j hj => h j (by simp [hj]))
  simp only [Op.eqItems, Sem.run_bind, Jhz s i hi, Jhz t i hi, eq23, Result.andThen_ok]
  cases hb : ((s i).b == (t i).b && (s i).s == (t i).s) with
  | false =>
   refine ⟨false, by simp, by simp; intro e; rw [e] at hb; simp at hb⟩
  | true =>
   refine ⟨r, by simpa using hr, ?_⟩
   rw [hiff]
   rw [Bool.and_eq_true, beq_iff_eq, beq_iff_eq] at hb
   have e : s i = t i := by
    cases hs : s i; cases ht : t i
    rw [hs, ht] at hb
    simp only [Kn.mk.injEq]
    exact hb
   simp [e]

theorem eq104 (s t : KS) : ∃ r : Bool, (∀ w, (Op.equalIn 10000 113 (.agg (kv s)) (.agg (kv t))).run Try.prog w = .ok r w) ∧ (r = true ↔ ∀ j, j < 8 → s j = t j) := by
 obtain ⟨i, hi, _⟩ := Jdc
 by_cases h : ∀ j, j < 8 → s j = t j
 ·refine ⟨true, fun w => ?_, ⟨fun _ => h, fun _ => rfl⟩⟩
  rw [run_equalIn_array w 9999 (kv s) (kv t) Try.underlying113 hi, J9n]
  obtain ⟨r, hr, hiff⟩ := eqItems 9997 s t w (List.range 8) (fun j hj => List.mem_range.1 hj)
  rw [hr]
  rw [hiff.2 (fun j hj => h j (List.mem_range.1 hj))]
 ·refine ⟨false, fun w => ?_, ⟨fun q => absurd q (by simp), fun q => absurd q h⟩⟩
  rw [run_equalIn_array w 9999 (kv s) (kv t) Try.underlying113 hi, J9n]
  obtain ⟨r, hr, hiff⟩ := eqItems 9997 s t w (List.range 8) (fun j hj => List.mem_range.1 hj)
  rw [hr]
  cases r with
  | false => rfl
  | true => exact absurd (fun j hj => hiff.1 rfl j (List.mem_range.2 hj)) h

theorem Jb1 (off : Nat) : ∀ (l : List Value) (k : Nat) (cs : Array Value), off + k + l.length ≤ cs.size →
  ((l.zipIdx k).foldl (fun cs (x : Value × Nat) => cs.setIfInBounds (off + x.2) x.1) cs).size = cs.size ∧ ∀ j, ((l.zipIdx k).foldl (fun cs (x : Value × Nat) => cs.setIfInBounds (off + x.2) x.1) cs)[j]? = if off + k ≤ j ∧ j < off + k + l.length then l[j - (off + k)]? else cs[j]?
 | [], k, cs, _ => ⟨rfl, fun j => by rw [if_neg (by simp <;> omega)]; rfl⟩
 | v :: l, k, cs, h => by
  simp only [List.length_cons] at h
  obtain ⟨h1, h2⟩ := Jb1 off l (k + 1) (cs.setIfInBounds (off + k) v) (by simp; omega)
  simp only [List.zipIdx_cons, List.foldl_cons]
  refine ⟨by rw [h1]; simp, fun j => ?_⟩
  rw [h2 j, Array.getElem?_setIfInBounds]
  simp only [List.length_cons]
  by_cases e : j = off + k
  ·subst e
   rw [if_neg (by omega), if_pos rfl, if_pos (by omega), if_pos (by omega)]
   simp
  ·by_cases e2 : off + (k + 1) ≤ j ∧ j < off + (k + 1) + l.length
   ·rw [if_pos e2, if_pos (by omega), show j - (off + k) = (j - (off + (k + 1))) + 1 by omega]
    simp
   ·rw [if_neg e2, if_neg (fun h => e h.symm), if_neg (by omega)]
theorem J8h (place : Nat → Option (Nat × Nat)) (cs : Array Value) (i : Nat) (v : Value) (rest : List (Nat × Value)) (off size : Nat) (hp : place i = some (off, size)) (hv : v.cells.size = size) (hs : off + size ≤ cs.size) :
  ∃ cs', Instr.fill place cs ((i, v) :: rest) = Instr.fill place cs' rest ∧ cs'.size = cs.size ∧ ∀ j, cs'[j]? = if off ≤ j ∧ j < off + size then v.cells[j - off]? else cs[j]? := by
 obtain ⟨h1, h2⟩ := Jb1 off v.cells.toList 0 cs (by simp; omega)
 have e : v.cells.zipIdx.foldl (fun cs (x : Value × Nat) => cs.setIfInBounds (off + x.2) x.1) cs = (v.cells.toList.zipIdx 0).foldl (fun cs (x : Value × Nat) => cs.setIfInBounds (off + x.2) x.1) cs := by
  rw [← Array.foldl_toList]
  simp
 refine ⟨_, ?_, h1, fun j => ?_⟩
 ·rw [Instr.fill]
  simp only [hp]
  rw [if_neg (by simp; omega)]
  rw [← e]
 ·rw [h2 j]
  simp only [Nat.add_zero, Array.length_toList, hv, Array.getElem?_toList]
theorem J8c {P : Program} {t : TypeId} {fields : Array Field} {it : TypeInfo} {z : Value} {places : List (Nat × Nat)} (hi : P.info? t = some it) (hu : P.underlying t = some (.struct fields)) (hz : it.zero = some z)
  (hp : fields.toList.mapM (fun f => (P.info? f.type).map fun i => (f.offset, i.size)) = some places) (parts : List (Nat × Value)) : P.built t parts = Instr.fill (places.toArray[·]?) z.cells parts := by
 unfold Program.built
 simp only [hi, hu, hz, hp]

theorem Jhm : (Try.prog.info? 116).map (fun i => i.zero.map (fun z => z.cells.size)) = some (some 17) := by kernel_rfl
def Jaw (P : Program) (t : TypeId) : List Field := match P.underlying t with | some (.struct fs) => fs.toList | _ => []
theorem Jds : (Jaw Try.prog 116).mapM (fun f => (Try.prog.info? f.type).map fun i => (f.offset, i.size)) = some [(0, 16), (16, 1)] := by kernel_rfl
theorem J9y : (Try.prog.info? 116).map (·.size) = some 17 := by kernel_rfl

theorem Jar (A : Array Value) (hA : A.size = 16) : Try.prog.built 116 [(0, .agg A), (1, .bool true)] = some (A.push (.bool true)) := by
 have hz := Jhm
 cases hi : Try.prog.info? 116 with
 | none => rw [hi] at hz; simp at hz
 | some it =>
  rw [hi] at hz
  simp only [Option.map_some, Option.some.injEq] at hz
  cases hzz : it.zero with
  | none => rw [hzz] at hz; simp at hz
  | some z =>
   rw [hzz] at hz
   simp only [Option.map_some, Option.some.injEq] at hz
   have hp := Jds
   unfold Jaw at hp
   rw [Try.underlying116] at hp
   rw [J8c hi Try.underlying116 hzz hp]
   obtain ⟨c1, e1, s1, g1⟩ := J8h (fun x => [(0, 16), (16, 1)].toArray[x]?) z.cells 0 (.agg A) [(1, .bool true)] 0 16 rfl hA (by omega)
   obtain ⟨c2, e2, s2, g2⟩ := J8h (fun x => [(0, 16), (16, 1)].toArray[x]?) c1 1 (.bool true) [] 16 1 rfl rfl (by omega)
   rw [e1, e2]
   show some c2 = _
   refine congrArg some ?_
   apply Array.ext_getElem?
   intro j
   rw [g2 j, g1 j, Array.getElem?_push, hA]
   by_cases e : j = 16
   ·subst e; rfl
   ·rw [if_neg (by omega), if_neg e]
    by_cases e3 : j < 16
    ·rw [if_pos (by omega)]; rfl
    ·rw [if_neg (by omega), Array.getElem?_eq_none (by omega), Array.getElem?_eq_none (by omega)]
theorem Jhu : ∃ i, Try.prog.info? 3 = some i ∧ i.zero = some (.int .i64 0) ∧ i.size = 1 ∧ i.bytes = 8 := by
 have h : (Try.prog.info? 3).map (fun i => (i.zero, i.size, i.bytes)) = some (some (.int .i64 0), 1, 8) := by kernel_rfl
 obtain ⟨i, h1, h2⟩ := Option.map_eq_some_iff.1 h
 simp only [Prod.mk.injEq] at h2
 exact ⟨i, h1, h2.1, h2.2.1, h2.2.2⟩
theorem Ck.tform {w0 : World} {p : Prg} {lo : Loc} {M B : Nat} {l : KV} {td : List Nat} {tv : Value} {w : World} (h : Ck w0 p lo M B l td tv w) : ∃ ta tc, tv = .slice ta td.length tc := by
 rcases h.own.2 with ⟨rfl, h0⟩ | ⟨g, cap, cur, rfl, _⟩
 ·exact ⟨none, 0, by rw [h0]⟩
 ·exact ⟨_, _, rfl⟩
theorem J2p {P : Program} {ops : Array Oper} {rest : List Oper} {o : Oper} {a : Act} {w : World} {Q : Exit → Act → World → Prop} (hgd : o.guard = none) (ty : TypeId) (x y : Operand) (ho : o.op = .store ty x y)
  (g k : Nat) (cs : Array Value) (hx : a.eval x = .pointer (some ⟨g, k, none⟩)) (hy : a.eval y = .agg cs) (hi : (P.info? ty).map (·.size) = some cs.size) (hc : ∀ j, j < cs.size → (w.cell? ⟨g, k + j, none⟩).isSome = true ∧ w.frozen? ⟨g, k + j, none⟩ = false) (h1 : cs.all (·.oneCell') = true)
  (w' : World) (hw : w' = w.setCells g k cs.toList) (h : wpList P ops Q rest (a.put o.dst undef) w') : wpList P ops Q (o :: rest) a w := by
 subst hw
 exact J3a hgd ty x y ho g k cs hx hy hi hc h1 h

theorem J40 {P : Program} {ops : Array Oper} {rest : List Oper} {o : Oper} {a : Act} {w : World} {Q : Exit → Act → World → Prop} (hgd : o.guard = none) (t : TypeId) (parts : Array (Nat × Operand)) (ho : o.op = .build t parts) (C : Array Value) (l : List (Nat × Value)) (hl : (parts.map fun (i, x) => (i, a.eval x)).toList = l)
  (hf : P.built t l = some C) (h : wpList P ops Q rest (a.put o.dst (.agg C)) w) : wpList P ops Q (o :: rest) a w := by
 subst hl
 refine wpList_plain hgd fun _ hK => ?_
 unfold Oper.wp execOp
 simp only [ho, Sem.run_bind, run_build w t _ C hf, Result.andThen_ok, Sem.run_pure]
 exact hK _ _ h

section
variable (w0 : World) (p : Prg) (lo : Loc) (M B : Nat) (l : KV) (td : List Nat) (tv : Value) (w : World)

theorem Jf8 (h : Ck w0 p lo M B l td tv w) (at_ : Nat) (s : KS) (hat : p.cl ≤ at_) :
  Calls Try.prog 60 #[.pointer (some ⟨M, 0, none⟩), .int .i64 at_, .agg (kv s)] w fun e w' => e = .returned (.tuple #[]) ∧ More w w' := by
 have m2 := h.box.cell (j := 2) rfl
 have hM := h.box.lt
 obtain ⟨cl, hcl⟩ : ∃ x, p.cl = x := ⟨_, rfl⟩
 rw [hcl] at m2 hat
 have hi : ((cl : Int) ≤ at_) := by omega
 obtain ⟨C, hC⟩ : ∃ c, kv s = c := ⟨_, rfl⟩
 have hC16 : C.size = 16 := hC ▸ J0b s
 rw [hC]
 clear h hC hcl hat
 go_enter Try.func60, Try.ntmps60
 go_wp2
 refine bodyPost_ret (results_none (by kernel_rfl) _ _ _) rfl ?_
 exact ⟨rfl, (More.refl _).alloc _ _⟩

theorem World.size_alloc2 (w : World) (o : Obj) : (w.alloc o).heap.size = w.heap.size + 1 := by simp
theorem Ck.boxg {w0 : World} {p : Prg} {lo : Loc} {M B : Nat} {l : KV} {td : List Nat} {tv : Value} {w w' : World} (h : Ck w0 p lo M B l td tv w) (g : w.grownBy w' tv.ownBlock) :
  Blk w' M #[.slice lo.ra p.rl lo.rc, .slice lo.ca p.cl lo.cc, .slice (some ⟨B, 0, none⟩) p.cl p.cl, tv] 90 := (g.block M h.box.lt (fun e => h.tne h.box (by decide) e.symm)).trans h.box

set_option maxHeartbeats 1000000 in
theorem Jf6 (h : Ck w0 p lo M B l td tv w) (at_ : Nat) (s : KS) (hat : at_ < p.cl) (hcl : p.cl ≤ 200) (hn : td.length ≤ 100000) (hl : l at_ = none) :
  Calls Try.prog 60 #[.pointer (some ⟨M, 0, none⟩), .int .i64 at_, .agg (kv s)] w fun e w' => e = .returned (.tuple #[]) ∧ ∃ tv', Ck w0 p lo M B (putV l at_ s) (td ++ [at_]) tv' w' ∧ Keeps w w' := by
 suffices hP : ∀ P : Ending → World → Prop, (∀ tv' w', Ck w0 p lo M B (putV l at_ s) (td ++ [at_]) tv' w' → Keeps w w' → P (.returned (.tuple #[])) w') → Calls Try.prog 60 #[.pointer (some ⟨M, 0, none⟩), .int .i64 at_, .agg (kv s)] w P from hP _ (fun tv' w' a b => ⟨rfl, tv', a, b⟩)
 intro P hP0
 have HP : Hid (∀ tv' w', Ck w0 p lo M B (putV l at_ s) (td ++ [at_]) tv' w' → Keeps w w' → P (.returned (.tuple #[])) w') := hP0
 clear hP0
 have HN0 : Hid (td.length ≤ 100000) := hn
 obtain ⟨ta, tc, rfl⟩ := h.tform
 have m2 : w.cell? ⟨M, 2, none⟩ = some (.slice (some ⟨B, 0, none⟩) p.cl p.cl) := h.box.cell (j := 2) rfl
 have hM := h.box.lt
 have hB := h.pl.lt
 have hre := h.pl.reached hat
 rw [hl] at hre
 dsimp only [Option.isSome] at hre
 obtain ⟨W, HW⟩ : ∃ W : World, Hid (W = w.alloc (.cells (kv s) 113)) := ⟨_, rfl⟩
 have HmW : Hid (More w W) := HW.out ▸ (More.refl _).alloc _ _
 have HckW : Hid (Ck w0 p lo M B l td (.slice ta td.length tc) W) := h.more HmW.out
 have HkpW : Hid (Keeps w W) := Keeps.of HmW.out
 have HbW : Hid (Blk W w.heap.size (kv s) 113) := HW.out ▸ Blk.last _ _ _
 obtain ⟨W2, HW2⟩ : ∃ W2 : World, Hid (W2 = W.setCells B (at_ * 17) (pv (some (s))).toList) := ⟨_, rfl⟩
 have Hck2 : Hid (Ck w0 p lo M B (putV l at_ (s)) td (.slice ta td.length tc) W2) := HW2.out ▸ HckW.out.put hat (s)
 have Hkp2 : Hid (Keeps w W2) := HkpW.out.trans (HW2.out ▸ HckW.out.put_keeps (s))
 obtain ⟨W3, HW3⟩ : ∃ W3 : World, Hid (W3 = W2.alloc (.cells #[.int .i64 (at_ : Int)] 3)) := ⟨_, rfl⟩
 have Hck3 : Hid (Ck w0 p lo M B (putV l at_ (s)) td (.slice ta td.length tc) W3) := Hck2.out.more (HW3.out ▸ (More.refl _).alloc _ _)
 have Hkp3 : Hid (Keeps w W3) := Hkp2.out.trans (Keeps.of (HW3.out ▸ (More.refl _).alloc _ _))
 have Hc3 : Hid (∀ j u, [Value.int .i64 (at_ : Int)][j]? = some u → W3.cell? ((⟨W2.heap.size, 0, none⟩ : Addr).add j) = some u) := by
  rw [HW3.out]
  exact World.news_of_block (cs := #[.int .i64 (at_ : Int)]) (heap_alloc_last _ _)
 have Hup : Hid (w0.heap.size ≤ W3.heap.size) := Hck3.out.up.size
 have Hsz3 : Hid (W3.heap.size = W2.heap.size + 1) := by rw [HW3.out]; exact (World.size_alloc2 _ _)
 have m3 : W2.cell? ⟨M, 3, none⟩ = some (.slice ta td.length tc) := Hck2.out.box.cell (j := 3) rfl
 obtain ⟨i3, Hi3⟩ : ∃ i, Hid (Try.prog.info? 3 = some i ∧ i.zero = some (.int .i64 0) ∧ i.size = 1 ∧ i.bytes = 8) := Jhu
 have Hn : Hid (td.length ≤ 100000) := HN0.out
 obtain ⟨E_, hE_⟩ : ∃ c, kv (s) = c := ⟨_, rfl⟩
 have hE16 : E_.size = 16 := hE_ ▸ J0b (s)
 have hpv : pv (some (s)) = E_.push (.bool true) := by rw [← hE_]; rfl
 have hbx := HbW.out
 unfold Blk at hbx
 rw [hE_] at hbx
 have hi104 : (Try.prog.info? 113).map (·.size) = some E_.size := by rw [hE16]; exact J9x
 have hbu := Jar E_ hE16
 have hi107 : (Try.prog.info? 116).map (·.size) = some (E_.push (.bool true)).size := by rw [← hpv, J2w]; exact J9y
 have hfr : ∀ j, j < (E_.push (.bool true)).size → (W.cell? ⟨B, at_ * 17 + j, none⟩).isSome = true ∧ W.frozen? ⟨B, at_ * 17 + j, none⟩ = false := by
  rw [← hpv, J2w]
  exact HckW.out.pl.free hat
 have hone : (E_.push (.bool true)).all (·.oneCell') = true := by rw [← hpv]; exact Jdv _
 rw [hpv] at HW2
 obtain ⟨n, Hnn⟩ : ∃ x, Hid (td.length = x) := ⟨_, rfl⟩
 rw [Hnn.out] at m3
 have Hown : Hid (W3.ownsRow w0.heap.size 3 1 (.slice ta n tc) n (td.map fun (k : Nat) => Value.int .i64 (k : Int))) := by
  have := Hck3.out.own
  rw [Hnn.out] at this
  exact this
 rw [hE_] at HW
 rw [hE_]
 obtain ⟨cl, Hcl⟩ : ∃ x, Hid (p.cl = x) := ⟨_, rfl⟩
 rw [Hcl.out] at m2 hat hcl
 have hi1 : ((at_ : Int) < cl) := by omega
 have hi2 : ((cl : Int) ≤ 200) := by omega
 clear h hE_ hpv hn hl
 go_enter Try.func60, Try.ntmps60
 go_wp2_with (first
  | (at_builtin; rw [← HW3.out]; refine wpList_append_lies _ rfl (.tmp 44) (.tmp 46) 43 rfl w0.heap.size 3 i3 (.int .i64 0) 1 8 Try.underlying43 Hi3.out.1 Hi3.out.2.1 Hi3.out.2.2.1 Hi3.out.2.2.2 rfl (by decide) (.slice ta n tc) n (td.map fun (k : Nat) => Value.int .i64 (k : Int)) rfl Hown.out ⟨W2.heap.size, 0, none⟩ 1 1 [.int .i64 at_] rfl rfl Hc3.out (fun x hx => by simp at hx; subst hx; rfl) (by decide) (by have := Hn.out; rw [Hnn.out] at this; unfold maxLen; omega) (by have := Hn.out; rw [Hnn.out] at this; omega) Hup.out (W2.heap.size + 1) Hsz3.out ?_; intro g cap w3 own3 gr3 hat3 hlt3; have y3 := (Hnn.out ▸ Hck3.out.boxg (Hnn.out ▸ gr3)).cell (j := 3) rfl; have f3 := (Hck3.out.boxg (Hnn.out ▸ gr3)).frozen 3)
  | (rw [← HW.out]; refine wpList_load_row rfl 113 (.tmp 5) rfl w.heap.size rfl 113 E_ (0, 0) _ hbx Try.underlying113 rfl hi104 ?_)
  | (refine J40 rfl 116 _ rfl (E_.push (.bool true)) [(0, .agg E_), (1, .bool true)] (by kernel_rfl) hbu ?_)
  | (refine J2p rfl 116 (.tmp 39) (.tmp 38) rfl B (at_ * 17) (E_.push (.bool true)) rfl rfl hi107 hfr hone W2 HW2.out ?_))
 go_end0
 have own3' : w3.ownsRow w0.heap.size 3 1 (.slice (some ⟨g, 0, none⟩) (n + 1) cap) (td ++ [at_]).length ((td ++ [at_]).map fun (k : Nat) => Value.int .i64 (k : Int)) := by
  rw [List.length_append, Hnn.out, List.map_append]
  exact own3
 have gr3' : W3.grownBy w3 (Value.slice ta td.length tc).ownBlock := by rw [Hnn.out]; exact gr3
 exact HP.out _ _ (Hck3.out.set gr3' own3') (Hkp3.out.trans (Hck3.out.set_keeps gr3'))

set_option maxHeartbeats 2000000 in
theorem Jf7 (h : Ck w0 p lo M B l td tv w) (at_ : Nat) (s t : KS) (hat : at_ < p.cl) (hcl : p.cl ≤ 200) (hn : td.length ≤ 100000) (hl : l at_ = some t) :
  Calls Try.prog 60 #[.pointer (some ⟨M, 0, none⟩), .int .i64 at_, .agg (kv s)] w fun e w' => e = .returned (.tuple #[]) ∧ Keeps w w' ∧ (((∀ j, j < 8 → Kn.join (t j) (s j) = t j) ∧ Ck w0 p lo M B l td tv w') ∨ ((¬ ∀ j, j < 8 → Kn.join (t j) (s j) = t j) ∧ ∃ tv', Ck w0 p lo M B (putV l at_ (fun j => Kn.join (t j) (s j))) (td ++ [at_]) tv' w')) := by
 obtain ⟨r, hrj⟩ : ∃ r : KS, (fun j => Kn.join (t j) (s j)) = r := ⟨_, rfl⟩
 rw [hrj]
 have hrj' : (∀ j, j < 8 → Kn.join (t j) (s j) = t j) ↔ ∀ j, j < 8 → r j = t j := by rw [← hrj]
 rw [hrj']
 clear hrj'
 suffices hP : ∀ P : Ending → World → Prop, (∀ w', (∀ j, j < 8 → r j = t j) → Ck w0 p lo M B l td tv w' → Keeps w w' → P (.returned (.tuple #[])) w') → ((¬ ∀ j, j < 8 → r j = t j) → ∀ tv' w', Ck w0 p lo M B (putV l at_ r) (td ++ [at_]) tv' w' → Keeps w w' → P (.returned (.tuple #[])) w') → Calls Try.prog 60 #[.pointer (some ⟨M, 0, none⟩), .int .i64 at_, .agg (kv s)] w P from
  hP _ (fun w' a b c => ⟨rfl, c, .inl ⟨a, b⟩⟩) (fun a tv' w' b c => ⟨rfl, c, .inr ⟨a, tv', b⟩⟩)
 intro P hP0 hP1
 have HP0 : Hid (∀ w', (∀ j, j < 8 → r j = t j) → Ck w0 p lo M B l td tv w' → Keeps w w' → P (.returned (.tuple #[])) w') := hP0
 have HP1 : Hid ((¬ ∀ j, j < 8 → r j = t j) → ∀ tv' w', Ck w0 p lo M B (putV l at_ r) (td ++ [at_]) tv' w' → Keeps w w' → P (.returned (.tuple #[])) w') := hP1
 clear hP0 hP1
 have HN0 : Hid (td.length ≤ 100000) := hn
 obtain ⟨ta, tc, rfl⟩ := h.tform
 have m2 : w.cell? ⟨M, 2, none⟩ = some (.slice (some ⟨B, 0, none⟩) p.cl p.cl) := h.box.cell (j := 2) rfl
 have hM := h.box.lt
 have hB := h.pl.lt
 have hre := h.pl.reached hat
 have Hpl : Hid (∀ w', Ck w0 p lo M B l td (.slice ta td.length tc) w' → ∀ j v, (kv t)[j]? = some v → w'.cell? ⟨B, at_ * 17 + j, none⟩ = some v) := fun w' k => k.pl.regs hat hl
 rw [hl] at hre
 dsimp only [Option.isSome] at hre
 obtain ⟨W, HW⟩ : ∃ W : World, Hid (W = w.alloc (.cells (kv s) 113)) := ⟨_, rfl⟩
 have HmW : Hid (More w W) := HW.out ▸ (More.refl _).alloc _ _
 have HckW0 : Hid (Ck w0 p lo M B l td (.slice ta td.length tc) W) := h.more HmW.out
 have HbW0 : Hid (Blk W w.heap.size (kv s) 113) := HW.out ▸ Blk.last _ _ _
 have c1 : ∀ w : World, Calls Try.prog 75 #[.agg (kv t), .agg (kv s)] w fun e w' => e = .returned (.agg (kv r)) ∧ More w w' := fun w => hrj ▸ J8n t s w
 obtain ⟨q, hq, hqi⟩ := eq104 r t
 have Hqi : Hid (q = true ↔ ∀ j, j < 8 → r j = t j) := hqi
 have Hks : Hid (∀ w', Blk w' w.heap.size (kv s) 113 → ∀ j v, (kv s)[j]? = some v → w'.cell? ⟨w.heap.size, 0 + j, none⟩ = some v) := fun w' b j v e => by rw [Nat.zero_add]; exact b.cell e
 have Hkr : Hid (∀ w', Blk w' w.heap.size (kv r) 113 → ∀ j v, (kv r)[j]? = some v → w'.cell? ⟨w.heap.size, 0 + j, none⟩ = some v) := fun w' b j v e => by rw [Nat.zero_add]; exact b.cell e
 have hiC := J17 s
 have hiD := J17 t
 have hiE := J17 r
 have hold : (kv s).size = (kv r).size := by rw [J0b, J0b]
 have hone : (kv r).all (·.oneCell') = true := J2g r
 have hC16 : (kv s).size = 16 := J0b s
 have Hat : Hid (at_ < p.cl) := hat
 clear hqi h hl hn hrj
 obtain ⟨C, hC⟩ : ∃ c, kv s = c := ⟨_, rfl⟩
 obtain ⟨D, hD⟩ : ∃ c, kv t = c := ⟨_, rfl⟩
 obtain ⟨E, hE⟩ : ∃ c, kv r = c := ⟨_, rfl⟩
 have HE : Hid (kv r = E) := hE
 rw [hC] at HW HbW0 c1 hiC hold Hks hC16
 rw [hC]
 rw [hD] at c1 hq hiD Hpl
 rw [hE] at c1 hq hiE hold hone Hkr
 clear hC hD hE
 obtain ⟨cl, Hcl⟩ : ∃ x, Hid (p.cl = x) := ⟨_, rfl⟩
 rw [Hcl.out] at m2 hat hcl
 have hi1 : ((at_ : Int) < cl) := by omega
 have hi2 : ((cl : Int) ≤ 200) := by omega
 obtain ⟨S, HS⟩ : ∃ S : World → Prop, Hid (∀ w', S w' ↔ More W w') := ⟨_, fun _ => Iff.rfl⟩
 have HS0 : S W.drew := (HS.out _).2 (More.refl _).drew
 have hne : Nonempty { w' // S w' } := ⟨⟨_, HS0⟩⟩
 go_enter Try.func60, Try.ntmps60
 go_wp2_with (fail)
 rw [← HW.out]
 clear hC16
 refine J0i (S := S) [(0, true), (1, true), (2, true), (3, true), (4, true), (5, false), (6, false)] (by kernel_rfl) (by kernel_rfl) (by kernel_rfl) HS0 ?_
 iterate 3 (refine J0e rfl (by kernel_rfl) (fun K hK => ?_); go_simp; refine hK _ _ ?_; clear hK K)
 refine J0e rfl (by kernel_rfl) (fun K hK => ⟨.agg D, fun i => J13 113 (.tmp 26) rfl B (at_ * 17) rfl D _ (Hpl.out _ (HckW0.out.more ((HS.out _).1 i.property))) Try.underlying113 rfl hiD, ?_⟩); go_simp; refine hK _ _ ?_; clear hK K
 refine J0e rfl (by kernel_rfl) (fun K hK => ⟨.agg C, fun i => J13 113 (.tmp 5) rfl w.heap.size 0 rfl C _ (Hks.out _ (HbW0.out.more ((HS.out _).1 i.property))) Try.underlying113 rfl hiC, ?_⟩); go_simp; refine hK _ _ ?_; clear hK K
 refine J0w rfl (by kernel_rfl) (fun K hK => ?_); go_simp
 refine (c1 _).mono ?_
 rintro e w2 ⟨rfl, m_⟩
 have Hm2 : Hid (More W w2) := (More.refl W).drew.trans m_
 clear m_
 go_simp
 refine hK _ _ ((HS.out _).2 Hm2.out) ?_; clear hK K
 have Hb2 : Hid (Blk w2 w.heap.size C 113) := HbW0.out.more Hm2.out
 have Hck2_ : Hid (Ck w0 p lo M B l td (.slice ta td.length tc) w2) := HckW0.out.more Hm2.out
 obtain ⟨wj, Hwj⟩ : ∃ w_ : World, Hid (w_ = w2.setRow w.heap.size E) := ⟨_, rfl⟩
 have HF : Hid (Blk wj w.heap.size E 113 ∧ Ck w0 p lo M B l td (.slice ta td.length tc) wj ∧ Keeps w wj) := by
  rw [Hwj.out]
  have g : w2.grownBy (w2.setRow w.heap.size E) (some w.heap.size) := ⟨rfl, rfl, rfl, by simp [World.setRow], fun k _ hk => setRow_other _ _ _ _ (fun e => hk (by rw [e]))⟩
  obtain ⟨cB, hB_⟩ := Hck2_.out.plB
  refine ⟨Hb2.out.setRow E, ⟨Hck2_.out.box.setRow_other (fun e => by omega) _, Hck2_.out.own.kept g (.inr (Hck2_.out.tne Hb2.out (by decide))), Hck2_.out.pl.block (setRow_other _ _ _ _ (by omega)), Hck2_.out.up.setRow (Nat.le_trans Hck2_.out.lo.1 (by omega)) _, Hck2_.out.pin, Hck2_.out.lo⟩, ?_⟩
  intro n_ c_ T_ t1 t2 t3 b_
  have b2 := (b_.more HmW.out).more Hm2.out
  exact b2.setRow_other (Nat.ne_of_lt b_.lt) _
 refine J0u rfl (by kernel_rfl) (by kernel_rfl) (fun K hK => ?_)
 refine wp_store_row 113 (.tmp 5) (.tmp 29) rfl w.heap.size E rfl rfl 113 C Hb2.out hiE hold hone ?_
 rw [← Hwj.out]
 refine hK _ _ ?_
 clear hK K hne HS0
 refine NoPanic.normal ?_
 obtain ⟨T, HT⟩ : ∃ T : World → Prop, Hid (∀ w', T w' ↔ More wj w') := ⟨_, fun _ => Iff.rfl⟩
 have HT0 : T wj.drew := (HT.out _).2 (More.refl _).drew
 have hne : Nonempty { w' // T w' } := ⟨⟨_, HT0⟩⟩
 go_wp2_with (fail)
 refine J01 (S := T) [(0, true), (1, true), (2, true), (3, true), (4, true), (5, true)] (by kernel_rfl) (by kernel_rfl) (by kernel_rfl) HT0 ?_
 refine J00 rfl (by kernel_rfl) (fun K hK => ⟨.agg E, fun i => J13 113 (.tmp 5) rfl w.heap.size 0 rfl E _ (Hkr.out _ (HF.out.1.more ((HT.out _).1 i.property))) Try.underlying113 rfl hiE, ?_⟩); go_simp; refine hK _ _ ?_; clear hK K
 iterate 3 (refine J00 rfl (by kernel_rfl) (fun K hK => ?_); go_simp; refine hK _ _ ?_; clear hK K)
 refine J00 rfl (by kernel_rfl) (fun K hK => ⟨.agg D, fun i => J13 113 (.tmp 33) rfl B (at_ * 17) rfl D _ (Hpl.out _ (HF.out.2.1.more ((HT.out _).1 i.property))) Try.underlying113 rfl hiD, ?_⟩); go_simp; refine hK _ _ ?_; clear hK K
 refine J00 rfl (by kernel_rfl) (fun K hK => ?_); go_simp; refine hK _ _ ?_; clear hK K
 refine J04 ?_
 clear hne HT0 hq c1
 obtain ⟨wd, Hwd⟩ : ∃ w_ : World, Hid (w_ = wj.drew) := ⟨_, rfl⟩
 have HG : Hid (Blk wd w.heap.size E 113 ∧ Ck w0 p lo M B l td (.slice ta td.length tc) wd ∧ Keeps w wd) := by
  have m := Hwd.out ▸ (More.refl wj).drew
  exact ⟨HF.out.1.more m, HF.out.2.1.more m, HF.out.2.2.trans (Keeps.of m)⟩
 rw [← Hwd.out]
 cases q with
 | true =>
  have hend := HP0.out wd (Hqi.out.1 rfl) HG.out.2.1 HG.out.2.2
  have Hend : Hid (P (.returned (.tuple #[])) wd) := hend
  clear hend HP0 HP1
  go_wp2
  refine bodyPost_ret (results_none (by kernel_rfl) _ _ _) rfl ?_
  exact Hend.out
 | false =>
  have HP : Hid (∀ tv' w', Ck w0 p lo M B (putV l at_ r) (td ++ [at_]) tv' w' → Keeps w w' → P (.returned (.tuple #[])) w') := HP1.out (fun k => by have := Hqi.out.2 k; cases this)
  clear HP0 HP1 Hqi hold hone hiC hiD hiE Hks Hkr Hpl
  have hat := Hat.out
  have HckW : Hid (Ck w0 p lo M B l td (.slice ta td.length tc) wd) := HG.out.2.1
  have HkpW : Hid (Keeps w wd) := HG.out.2.2
  have HbW : Hid (Blk wd w.heap.size (kv r) 113) := HE.out ▸ HG.out.1
  obtain ⟨W2, HW2⟩ : ∃ W2 : World, Hid (W2 = wd.setCells B (at_ * 17) (pv (some (r))).toList) := ⟨_, rfl⟩
  have Hck2 : Hid (Ck w0 p lo M B (putV l at_ (r)) td (.slice ta td.length tc) W2) := HW2.out ▸ HckW.out.put hat (r)
  have Hkp2 : Hid (Keeps w W2) := HkpW.out.trans (HW2.out ▸ HckW.out.put_keeps (r))
  obtain ⟨W3, HW3⟩ : ∃ W3 : World, Hid (W3 = W2.alloc (.cells #[.int .i64 (at_ : Int)] 3)) := ⟨_, rfl⟩
  have Hck3 : Hid (Ck w0 p lo M B (putV l at_ (r)) td (.slice ta td.length tc) W3) := Hck2.out.more (HW3.out ▸ (More.refl _).alloc _ _)
  have Hkp3 : Hid (Keeps w W3) := Hkp2.out.trans (Keeps.of (HW3.out ▸ (More.refl _).alloc _ _))
  have Hc3 : Hid (∀ j u, [Value.int .i64 (at_ : Int)][j]? = some u → W3.cell? ((⟨W2.heap.size, 0, none⟩ : Addr).add j) = some u) := by
   rw [HW3.out]
   exact World.news_of_block (cs := #[.int .i64 (at_ : Int)]) (heap_alloc_last _ _)
  have Hup : Hid (w0.heap.size ≤ W3.heap.size) := Hck3.out.up.size
  have Hsz3 : Hid (W3.heap.size = W2.heap.size + 1) := by rw [HW3.out]; exact (World.size_alloc2 _ _)
  have m3 : W2.cell? ⟨M, 3, none⟩ = some (.slice ta td.length tc) := Hck2.out.box.cell (j := 3) rfl
  obtain ⟨i3, Hi3⟩ : ∃ i, Hid (Try.prog.info? 3 = some i ∧ i.zero = some (.int .i64 0) ∧ i.size = 1 ∧ i.bytes = 8) := Jhu
  have Hn : Hid (td.length ≤ 100000) := HN0.out
  obtain ⟨E_, hE_⟩ : ∃ c, kv (r) = c := ⟨_, rfl⟩
  have hE16 : E_.size = 16 := hE_ ▸ J0b (r)
  have hpv : pv (some (r)) = E_.push (.bool true) := by rw [← hE_]; rfl
  have hbx := HbW.out
  unfold Blk at hbx
  rw [hE_] at hbx
  have hi104 : (Try.prog.info? 113).map (·.size) = some E_.size := by rw [hE16]; exact J9x
  have hbu := Jar E_ hE16
  have hi107 : (Try.prog.info? 116).map (·.size) = some (E_.push (.bool true)).size := by rw [← hpv, J2w]; exact J9y
  have hfr : ∀ j, j < (E_.push (.bool true)).size → (wd.cell? ⟨B, at_ * 17 + j, none⟩).isSome = true ∧ wd.frozen? ⟨B, at_ * 17 + j, none⟩ = false := by
   rw [← hpv, J2w]
   exact HckW.out.pl.free hat
  have hone : (E_.push (.bool true)).all (·.oneCell') = true := by rw [← hpv]; exact Jdv _
  rw [hpv] at HW2
  obtain ⟨n, Hnn⟩ : ∃ x, Hid (td.length = x) := ⟨_, rfl⟩
  rw [Hnn.out] at m3
  have Hown : Hid (W3.ownsRow w0.heap.size 3 1 (.slice ta n tc) n (td.map fun (k : Nat) => Value.int .i64 (k : Int))) := by
   have := Hck3.out.own
   rw [Hnn.out] at this
   exact this
  clear hat hE_ hpv
  go_wp2_with (first
   | (at_builtin; rw [← HW3.out]; refine wpList_append_lies _ rfl (.tmp 44) (.tmp 46) 43 rfl w0.heap.size 3 i3 (.int .i64 0) 1 8 Try.underlying43 Hi3.out.1 Hi3.out.2.1 Hi3.out.2.2.1 Hi3.out.2.2.2 rfl (by decide) (.slice ta n tc) n (td.map fun (k : Nat) => Value.int .i64 (k : Int)) rfl Hown.out ⟨W2.heap.size, 0, none⟩ 1 1 [.int .i64 at_] rfl rfl Hc3.out (fun x hx => by simp at hx; subst hx; rfl) (by decide) (by have := Hn.out; rw [Hnn.out] at this; unfold maxLen; omega) (by have := Hn.out; rw [Hnn.out] at this; omega) Hup.out (W2.heap.size + 1) Hsz3.out ?_; intro g cap w3 own3 gr3 hat3 hlt3; have y3 := (Hnn.out ▸ Hck3.out.boxg (Hnn.out ▸ gr3)).cell (j := 3) rfl; have f3 := (Hck3.out.boxg (Hnn.out ▸ gr3)).frozen 3)
   | (refine wpList_load_row rfl 113 (.tmp 5) rfl w.heap.size rfl 113 E_ (0, 0) _ hbx Try.underlying113 rfl hi104 ?_)
   | (refine J40 rfl 116 _ rfl (E_.push (.bool true)) [(0, .agg E_), (1, .bool true)] (by kernel_rfl) hbu ?_)
   | (refine J2p rfl 116 (.tmp 39) (.tmp 38) rfl B (at_ * 17) (E_.push (.bool true)) rfl rfl hi107 hfr hone W2 HW2.out ?_))
  go_end0
  have own3' : w3.ownsRow w0.heap.size 3 1 (.slice (some ⟨g, 0, none⟩) (n + 1) cap) (td ++ [at_]).length ((td ++ [at_]).map fun (k : Nat) => Value.int .i64 (k : Int)) := by
   rw [List.length_append, Hnn.out, List.map_append]
   exact own3
  have gr3' : W3.grownBy w3 (Value.slice ta td.length tc).ownBlock := by rw [Hnn.out]; exact gr3
  exact HP.out _ _ (Hck3.out.set gr3' own3') (Hkp3.out.trans (Hck3.out.set_keeps gr3'))

end

theorem J2z {w0 : World} {p : Prg} {lo : Loc} {M B : Nat} {l : KV} {td : List Nat} {tv : Value} {w : World} (h : Ck w0 p lo M B l td tv w) (hcl : p.cl ≤ 200) (hn : td.length ≤ 100000) (x : Nat × KS) :
  Calls Try.prog 60 #[.pointer (some ⟨M, 0, none⟩), .int .i64 x.1, .agg (kv x.2)] w fun e w' => e = .returned (.tuple #[]) ∧ Keeps w w' ∧ ∃ l' td' tv', ComeK p l td x l' td' ∧ Ck w0 p lo M B l' td' tv' w' := by
 obtain ⟨at_, s⟩ := x
 dsimp only
 by_cases hat : at_ < p.cl
 ·cases hl : l at_ with
  | none =>
   refine (Jf6 w0 p lo M B l td tv w h at_ s hat hcl hn hl).mono ?_
   rintro e w' ⟨rfl, tv', h1, h2⟩
   refine ⟨rfl, h2, _, _, tv', .inr (.inr ⟨hat, ?_, ?_, rfl⟩), h1⟩
   ·rintro ⟨u, e, _⟩
    dsimp only at e
    rw [hl] at e; cases e
   ·dsimp only; rw [hl]; rfl
  | some t =>
   refine (Jf7 w0 p lo M B l td tv w h at_ s t hat hcl hn hl).mono ?_
   rintro e w' ⟨rfl, h2, ⟨h3, h4⟩ | ⟨h3, tv', h4⟩⟩
   ·refine ⟨rfl, h2, l, td, tv, .inr (.inl ⟨hat, ?_, rfl, rfl⟩), h4⟩
    dsimp only; rw [hl]
    exact ⟨t, rfl, h3⟩
   ·refine ⟨rfl, h2, _, _, tv', .inr (.inr ⟨hat, ?_, ?_, rfl⟩), h4⟩
    ·rintro ⟨u, e, hu⟩
     dsimp only at e hu
     rw [hl] at e hu
     cases e
     exact h3 hu
    ·dsimp only; rw [hl]; rfl
 ·refine (Jf8 w0 p lo M B l td tv w h at_ s (by omega)).mono ?_
  rintro e w' ⟨rfl, m⟩
  exact ⟨rfl, Keeps.of m, l, td, tv, .inl ⟨hat, rfl, rfl⟩, h.more m⟩
theorem Jas {G : Prop} {A : Prop} (h1 : A → G) (h2 : A) : G := h1 h2

section
variable {P : Program} {ops : Array Oper} {Q : Exit → Act → World → Prop} {S : World → Prop}
theorem Jb8 (i j k : Nat) {n : Nat} {listed : Array Bool} {a : Act} {w : World} (hB : (Region.ready .any ops listed == [i, j, k]) = true) (h : J5r P ops Q S i n listed a w) (h2 : J5r P ops Q S j n listed a w) (h3 : J5r P ops Q S k n listed a w) : OrdL P ops Q S (n + 1) listed a w := by
 refine ⟨wpAnyH_all (by simpa using hB) (by simp) (fun x hx => ?_)⟩
 have hx' : x = i ∨ x = j ∨ x = k := by simpa using hx
 rcases hx' with rfl | rfl | rfl
 ·exact h.out
 ·exact h2.out
 ·exact h3.out
theorem J1l {n : Nat} {listed listed' : Array Bool} {a : Act} {w : World} (e : listed = listed') (h : OrdL P ops Q S n listed' a w) : OrdL P ops Q S n listed a w := e ▸ h

theorem J26 {rest : List Oper} {o : Oper} {a : Act} {w : World} (hgd : o.guard = none) (x y : Operand) (ho : o.op = .store 65 x y) (n j : Nat) (b : Int) (t : Bool) (hx : a.eval x = .pointer (some ⟨n, j * 2, none⟩)) (hy : a.eval y = .agg #[.int .i64 b, .bool t])
  (hi : (P.info? 65).map (·.size) = some 2) (s : KS) (T : TypeId) (hb : Blk w n (kv s) T) (hj : j < 8)
  (w' : World) (hw : w' = (w.setCell ⟨n, j * 2, none⟩ (.int .i64 b)).setCell ⟨n, j * 2 + 1, none⟩ (.bool t)) (h : wpList P ops Q rest (a.put o.dst undef) w') : wpList P ops Q (o :: rest) a w := by
 subst hw
 refine J3a hgd 65 x y ho n (j * 2) #[.int .i64 b, .bool t] hx hy hi (fun i hi => ?_) (by simp [Value.oneCell']) h
 have hi' : i < 2 := by simpa using hi
 refine ⟨?_, hb.frozen _⟩
 by_cases e : i = 0
 ·subst e; rw [Nat.add_zero, hb.cell (kv_at s j hj).1]; rfl
 ·obtain rfl : i = 1 := by omega
  rw [hb.cell (kv_at s j hj).2]; rfl
end
theorem J7v : (Try.prog.info? 65).map (·.size) = some 2 := by kernel_rfl

def whK (c a b : Int) (s : KS) : KS :=
 if c = 1 then setK (setK s a (Kn.less (s a.toNat) (s b.toNat))) b (Kn.less (s b.toNat) (s a.toNat)) else if c = 2 then s else if c = 3 then setK s a (Kn.less (s a.toNat) (s b.toNat)) else setK s b (Kn.less (s b.toNat) (s a.toNat))

structure WhB (w : World) (s : KS) (g9 g10 : Nat) (w' : World) : Prop where
 r : Blk w' w.heap.size (kv s) 113
 z : Blk w' (w.heap.size + 1) (kv zeroK) 113
 b9 : Blk w' g9 #[.int .i64 0, .bool false] 65
 b10 : Blk w' g10 #[.int .i64 0, .bool false] 65
 up : More w w'
 lt9 : w.heap.size + 2 ≤ g9
 lt10 : w.heap.size + 2 ≤ g10
 ne : g9 ≠ g10

set_option maxHeartbeats 4000000 in
theorem J6s (s : KS) (c a b : Int) (w : World) (hc : c = 1 ∨ c = 2 ∨ c = 3 ∨ c = 4) (ha0 : 0 ≤ a) (ha1 : a < 8) (hb0 : 0 ≤ b) (hb1 : b < 8) :
  Calls Try.prog 76 #[.agg (kv s), .int .i64 c, .int .i64 a, .int .i64 b] w fun e w' => e = .returned (.agg (kv (whK c a b s))) ∧ More w w' := by
 suffices hP : ∀ P : Ending → World → Prop, (∀ w', More w w' → P (.returned (.agg (kv (whK c a b s)))) w') → Calls Try.prog 76 #[.agg (kv s), .int .i64 c, .int .i64 a, .int .i64 b] w P from hP _ (fun w' m => ⟨rfl, m⟩)
 intro P hP0
 have HP : Hid (∀ w', More w w' → P (.returned (.agg (kv (whK c a b s)))) w') := hP0
 clear hP0
 have Hc : Hid (c = 1 ∨ c = 2 ∨ c = 3 ∨ c = 4) := hc
 clear hc
 have ha8 : a.toNat < 8 := by omega
 have hb8 : b.toNat < 8 := by omega
 obtain ⟨W, HW⟩ : ∃ W : World, Hid (W = (w.alloc (.cells (kv s) 113)).alloc (.cells #[.int .i64 0, .bool false, .int .i64 0, .bool false, .int .i64 0, .bool false, .int .i64 0, .bool false, .int .i64 0, .bool false, .int .i64 0, .bool false, .int .i64 0, .bool false, .int .i64 0, .bool false] 113)) := ⟨_, rfl⟩
 have HB : Hid (Blk W w.heap.size (kv s) 113 ∧ Blk W (w.heap.size + 1) (kv zeroK) 113 ∧ More w W ∧ W.heap.size = w.heap.size + 2) := by
  rw [HW.out]
  refine ⟨(Blk.last _ _ _).alloc _ _, ?_, ((More.refl _).alloc _ _).alloc _ _, by simp⟩
  rw [J2v]
  exact (by simpa using Blk.last (w.alloc (.cells (kv s) 113)) #[.int .i64 0, .bool false, .int .i64 0, .bool false, .int .i64 0, .bool false, .int .i64 0, .bool false, .int .i64 0, .bool false, .int .i64 0, .bool false, .int .i64 0, .bool false, .int .i64 0, .bool false] 113)
 obtain ⟨S, HS⟩ : ∃ S : World → Prop, Hid (∀ w', S w' ↔ Blk w' w.heap.size (kv s) 113) := ⟨_, fun _ => Iff.rfl⟩
 have HSm : Hid (∀ w', More W w' → S w') := fun w' m => (HS.out _).2 (HB.out.1.more m)
 obtain ⟨xa, hxa⟩ : ∃ x, s a.toNat = x := ⟨_, rfl⟩
 obtain ⟨xb, hxb⟩ : ∃ x, s b.toNat = x := ⟨_, rfl⟩
 have k1 : ∀ i : { w' // S w' }, i.val.cell? ⟨w.heap.size, a.toNat * 2, none⟩ = some (.int .i64 xa.b) := fun i => by rw [((HS.out _).1 i.property).cell (kv_at _ _ ha8).1, hxa]
 have k2 : ∀ i : { w' // S w' }, i.val.cell? ⟨w.heap.size, a.toNat * 2 + 1, none⟩ = some (.bool xa.s) := fun i => by rw [((HS.out _).1 i.property).cell (kv_at _ _ ha8).2, hxa]
 have k3 : ∀ i : { w' // S w' }, i.val.cell? ⟨w.heap.size, b.toNat * 2, none⟩ = some (.int .i64 xb.b) := fun i => by rw [((HS.out _).1 i.property).cell (kv_at _ _ hb8).1, hxb]
 have k4 : ∀ i : { w' // S w' }, i.val.cell? ⟨w.heap.size, b.toNat * 2 + 1, none⟩ = some (.bool xb.s) := fun i => by rw [((HS.out _).1 i.property).cell (kv_at _ _ hb8).2, hxb]
 obtain ⟨la, hla⟩ : ∃ v, Kn.less xa xb = v := ⟨_, rfl⟩
 obtain ⟨lb, hlb⟩ : ∃ v, Kn.less xb xa = v := ⟨_, rfl⟩
 have c1 : ∀ w : World, Calls Try.prog 87 #[kn xa.b xa.s, kn xb.b xb.s] w fun e w' => e = .returned (kn la.b la.s) ∧ More w w' := fun w => hla ▸ J54 xa.b xb.b xa.s xb.s w
 have c2 : ∀ w : World, Calls Try.prog 87 #[kn xb.b xb.s, kn xa.b xa.s] w fun e w' => e = .returned (kn lb.b lb.s) ∧ More w w' := fun w => hlb ▸ J54 xb.b xa.b xb.s xa.s w
 have HK : Hid (whK c a b s = if c = 1 then setK (setK s a la) b lb else if c = 2 then s else if c = 3 then setK s a la else setK s b lb) := by
  show _ = _
  unfold whK
  rw [hxa, hxb, hla, hlb]
 clear hxa hxb hla hlb
 obtain ⟨xab, xas⟩ := xa
 obtain ⟨xbb, xbs⟩ := xb
 obtain ⟨lab, las⟩ := la
 obtain ⟨lbb, lbs⟩ := lb
 unfold kn at c1 c2
 dsimp only at k1 k2 k3 k4 c1 c2
 obtain ⟨cs, hcs⟩ : ∃ c, kv s = c := ⟨_, rfl⟩
 have hcs16 : cs.size = 16 := hcs ▸ J0b s
 have Hcs : Hid (kv s = cs) := hcs
 rw [hcs] at HW
 rw [hcs]
 clear hcs
 have HS0 : S W.drew := HSm.out _ (More.refl _).drew
 have hne : Nonempty { w' // S w' } := ⟨⟨_, HS0⟩⟩
 go_enter Try.func76, Try.ntmps76
 go_wp2_with (fail)
 rw [← HW.out]
 clear hcs16
 refine J1j (S := S) (by kernel_rfl) HS0 ?_
 refine J07 0 rfl (by kernel_rfl) HS0 (by kernel_rfl) (fun K hK => ?_); go_simp; refine hK _ _ ?_; clear hK K
 refine J07 1 rfl (by kernel_rfl) HS0 (by kernel_rfl) (fun K hK => ?_); go_simp; refine hK _ _ ?_; clear hK K
 refine J07 2 rfl (by kernel_rfl) HS0 (by kernel_rfl) (fun K hK => ?_); go_simp; refine hK _ _ ?_; clear hK K
 refine J07 3 rfl (by kernel_rfl) HS0 (by kernel_rfl) (fun K hK => ?_); go_simp; refine hK _ _ ?_; clear hK K
 refine J07 4 rfl (by kernel_rfl) HS0 (by kernel_rfl) (fun K hK => ?_); go_simp; refine hK _ _ ?_; clear hK K
 refine J07 5 rfl (by kernel_rfl) HS0 (by kernel_rfl) (fun K hK => ?_); go_simp; refine hK _ _ ?_; clear hK K
 refine J07 7 rfl (by kernel_rfl) HS0 (by kernel_rfl) (fun K hK => ?_); go_simp; refine hK _ _ ?_; clear hK K
 refine J07 8 rfl (by kernel_rfl) HS0 (by kernel_rfl) (fun K hK => ?_); go_simp; refine hK _ _ ?_; clear hK K
 refine J07 9 rfl (by kernel_rfl) HS0 (by kernel_rfl) (fun K hK => ?_); go_simp; refine hK _ _ ?_; clear hK K
 refine J07 10 rfl (by kernel_rfl) HS0 (by kernel_rfl) (fun K hK => ?_); go_simp; refine hK _ _ ?_; clear hK K
 refine J07 11 rfl (by kernel_rfl) HS0 (by kernel_rfl) (fun K hK => ?_); go_simp; refine hK _ _ ?_; clear hK K
 refine J07 12 rfl (by kernel_rfl) HS0 (by kernel_rfl) (fun K hK => ?_); go_simp; refine hK _ _ ?_; clear hK K
 obtain ⟨wd, Hwd⟩ : ∃ wd : World, Hid (wd = W.drew) := ⟨_, rfl⟩
 have Hm_ : Hid (More W wd) := Hwd.out ▸ (More.refl W).drew
 have Hsz : Hid (w.heap.size + 2 ≤ wd.heap.size) := by
  have h1 := HB.out.2.2.2
  have h2 := Hm_.out.size
  show _ ≤ _
  omega
 rw [← Hwd.out]
 clear k1 k2 k3 k4
 apply Jas
 ·intro key
  refine Jb8 6 14 15 (by kernel_rfl) ?_ ?_ ?_
  ·refine J08 rfl (by kernel_rfl) (fun K hK => ?_); go_simp
   refine (c1 _).mono ?_
   rintro e w1 ⟨rfl, m_⟩
   have Hmw1 : Hid (More W w1) := Hm_.out.trans m_
   clear m_
   go_simp
   refine hK _ _ (HSm.out _ Hmw1.out) ?_; clear hK K
   refine Jb8 13 14 15 (by kernel_rfl) ?_ ?_ ?_
   ·refine J08 rfl (by kernel_rfl) (fun K hK => ?_); go_simp
    refine (c2 _).mono ?_
    rintro e w2 ⟨rfl, m_⟩
    have Hmw2 : Hid (More W w2) := Hmw1.out.trans m_
    clear m_
    go_simp
    refine hK _ _ (HSm.out _ Hmw2.out) ?_; clear hK K
    refine J3k 14 15 (by kernel_rfl) ?_ ?_
    ·refine J08 rfl (by kernel_rfl) (fun K hK => ?_); go_simp
     obtain ⟨w3, Hw_⟩ : ∃ w_ : World, Hid (w_ = w2.alloc (.cells #[.int .i64 0, .bool false] 65)) := ⟨_, rfl⟩
     have m_ : More w2 w3 := Hw_.out ▸ (More.refl _).alloc _ _
     have Hmw3 : Hid (More W w3) := Hmw2.out.trans m_
     have Hb9w3 : Hid (Blk w3 w2.heap.size #[.int .i64 0, .bool false] 65) := Hw_.out ▸ Blk.last _ _ _
     have Hl9 : Hid (w.heap.size + 2 ≤ w2.heap.size) := Nat.le_trans Hsz.out (by have h1 := Hmw2.out.size; have h2 := HB.out.2.2.2; have h3 := Hm_.out.size; have h4 := Hwd.out; rw [h4]; simpa using h1)
     rw [← Hw_.out]
     clear m_ Hw_
     refine hK _ _ (HSm.out _ Hmw3.out) ?_; clear hK K
     refine J0z 15 (by kernel_rfl) ?_
     ·refine J08 rfl (by kernel_rfl) (fun K hK => ?_); go_simp
      obtain ⟨w4, Hw_⟩ : ∃ w_ : World, Hid (w_ = w3.alloc (.cells #[.int .i64 0, .bool false] 65)) := ⟨_, rfl⟩
      have m_ : More w3 w4 := Hw_.out ▸ (More.refl _).alloc _ _
      have Hmw4 : Hid (More W w4) := Hmw3.out.trans m_
      have Hb10w4 : Hid (Blk w4 w3.heap.size #[.int .i64 0, .bool false] 65) := Hw_.out ▸ Blk.last _ _ _
      have Hl10 : Hid (w.heap.size + 2 ≤ w3.heap.size) := Nat.le_trans Hsz.out (by have h1 := Hmw3.out.size; have h2 := HB.out.2.2.2; have h3 := Hm_.out.size; have h4 := Hwd.out; rw [h4]; simpa using h1)
      have Hb9w4 : Hid (Blk w4 (w2.heap.size) #[.int .i64 0, .bool false] 65) := Hb9w3.out.more m_
      have Hne : Hid (w2.heap.size ≠ w3.heap.size) := Nat.ne_of_lt Hb9w3.out.lt
      rw [← Hw_.out]
      clear m_ Hw_
      refine hK _ _ (HSm.out _ Hmw4.out) ?_; clear hK K
      have F : Hid (WhB w s (w2.heap.size) (w3.heap.size) w4) := ⟨HB.out.1.more Hmw4.out, HB.out.2.1.more Hmw4.out, Hb9w4.out, Hb10w4.out, HB.out.2.2.1.trans Hmw4.out, Hl9.out, Hl10.out, Hne.out⟩
      refine J1l (listed' := #[true, true, true, true, true, true, true, true, true, true, true, true, true, true, true, true, false, false]) (by kernel_rfl) ?_
      clear Hl9 Hl10 Hne Hb9w4 Hb10w4
      generalize w3.heap.size = g10 at F ⊢
      generalize w2.heap.size = g9 at F ⊢
      clear Hmw4
      revert w4 g10 g9
      exact key
    ·refine J08 rfl (by kernel_rfl) (fun K hK => ?_); go_simp
     obtain ⟨w5, Hw_⟩ : ∃ w_ : World, Hid (w_ = w2.alloc (.cells #[.int .i64 0, .bool false] 65)) := ⟨_, rfl⟩
     have m_ : More w2 w5 := Hw_.out ▸ (More.refl _).alloc _ _
     have Hmw5 : Hid (More W w5) := Hmw2.out.trans m_
     have Hb10w5 : Hid (Blk w5 w2.heap.size #[.int .i64 0, .bool false] 65) := Hw_.out ▸ Blk.last _ _ _
     have Hl10 : Hid (w.heap.size + 2 ≤ w2.heap.size) := Nat.le_trans Hsz.out (by have h1 := Hmw2.out.size; have h2 := HB.out.2.2.2; have h3 := Hm_.out.size; have h4 := Hwd.out; rw [h4]; simpa using h1)
     rw [← Hw_.out]
     clear m_ Hw_
     refine hK _ _ (HSm.out _ Hmw5.out) ?_; clear hK K
     refine J0z 14 (by kernel_rfl) ?_
     ·refine J08 rfl (by kernel_rfl) (fun K hK => ?_); go_simp
      obtain ⟨w6, Hw_⟩ : ∃ w_ : World, Hid (w_ = w5.alloc (.cells #[.int .i64 0, .bool false] 65)) := ⟨_, rfl⟩
      have m_ : More w5 w6 := Hw_.out ▸ (More.refl _).alloc _ _
      have Hmw6 : Hid (More W w6) := Hmw5.out.trans m_
      have Hb9w6 : Hid (Blk w6 w5.heap.size #[.int .i64 0, .bool false] 65) := Hw_.out ▸ Blk.last _ _ _
      have Hl9 : Hid (w.heap.size + 2 ≤ w5.heap.size) := Nat.le_trans Hsz.out (by have h1 := Hmw5.out.size; have h2 := HB.out.2.2.2; have h3 := Hm_.out.size; have h4 := Hwd.out; rw [h4]; simpa using h1)
      have Hb10w6 : Hid (Blk w6 (w2.heap.size) #[.int .i64 0, .bool false] 65) := Hb10w5.out.more m_
      have Hne : Hid (w5.heap.size ≠ w2.heap.size) := Nat.ne_of_gt Hb10w5.out.lt
      rw [← Hw_.out]
      clear m_ Hw_
      refine hK _ _ (HSm.out _ Hmw6.out) ?_; clear hK K
      have F : Hid (WhB w s (w5.heap.size) (w2.heap.size) w6) := ⟨HB.out.1.more Hmw6.out, HB.out.2.1.more Hmw6.out, Hb9w6.out, Hb10w6.out, HB.out.2.2.1.trans Hmw6.out, Hl9.out, Hl10.out, Hne.out⟩
      refine J1l (listed' := #[true, true, true, true, true, true, true, true, true, true, true, true, true, true, true, true, false, false]) (by kernel_rfl) ?_
      exact key _ _ _ F
   ·refine J08 rfl (by kernel_rfl) (fun K hK => ?_); go_simp
    obtain ⟨w7, Hw_⟩ : ∃ w_ : World, Hid (w_ = w1.alloc (.cells #[.int .i64 0, .bool false] 65)) := ⟨_, rfl⟩
    have m_ : More w1 w7 := Hw_.out ▸ (More.refl _).alloc _ _
    have Hmw7 : Hid (More W w7) := Hmw1.out.trans m_
    have Hb9w7 : Hid (Blk w7 w1.heap.size #[.int .i64 0, .bool false] 65) := Hw_.out ▸ Blk.last _ _ _
    have Hl9 : Hid (w.heap.size + 2 ≤ w1.heap.size) := Nat.le_trans Hsz.out (by have h1 := Hmw1.out.size; have h2 := HB.out.2.2.2; have h3 := Hm_.out.size; have h4 := Hwd.out; rw [h4]; simpa using h1)
    rw [← Hw_.out]
    clear m_ Hw_
    refine hK _ _ (HSm.out _ Hmw7.out) ?_; clear hK K
    refine J3k 13 15 (by kernel_rfl) ?_ ?_
    ·refine J08 rfl (by kernel_rfl) (fun K hK => ?_); go_simp
     refine (c2 _).mono ?_
     rintro e w8 ⟨rfl, m_⟩
     have Hmw8 : Hid (More W w8) := Hmw7.out.trans m_
     have Hb9w8 : Hid (Blk w8 (w1.heap.size) #[.int .i64 0, .bool false] 65) := Hb9w7.out.more m_
     clear m_
     go_simp
     refine hK _ _ (HSm.out _ Hmw8.out) ?_; clear hK K
     refine J0z 15 (by kernel_rfl) ?_
     ·refine J08 rfl (by kernel_rfl) (fun K hK => ?_); go_simp
      obtain ⟨w9, Hw_⟩ : ∃ w_ : World, Hid (w_ = w8.alloc (.cells #[.int .i64 0, .bool false] 65)) := ⟨_, rfl⟩
      have m_ : More w8 w9 := Hw_.out ▸ (More.refl _).alloc _ _
      have Hmw9 : Hid (More W w9) := Hmw8.out.trans m_
      have Hb10w9 : Hid (Blk w9 w8.heap.size #[.int .i64 0, .bool false] 65) := Hw_.out ▸ Blk.last _ _ _
      have Hl10 : Hid (w.heap.size + 2 ≤ w8.heap.size) := Nat.le_trans Hsz.out (by have h1 := Hmw8.out.size; have h2 := HB.out.2.2.2; have h3 := Hm_.out.size; have h4 := Hwd.out; rw [h4]; simpa using h1)
      have Hb9w9 : Hid (Blk w9 (w1.heap.size) #[.int .i64 0, .bool false] 65) := Hb9w8.out.more m_
      have Hne : Hid (w1.heap.size ≠ w8.heap.size) := Nat.ne_of_lt Hb9w8.out.lt
      rw [← Hw_.out]
      clear m_ Hw_
      refine hK _ _ (HSm.out _ Hmw9.out) ?_; clear hK K
      have F : Hid (WhB w s (w1.heap.size) (w8.heap.size) w9) := ⟨HB.out.1.more Hmw9.out, HB.out.2.1.more Hmw9.out, Hb9w9.out, Hb10w9.out, HB.out.2.2.1.trans Hmw9.out, Hl9.out, Hl10.out, Hne.out⟩
      refine J1l (listed' := #[true, true, true, true, true, true, true, true, true, true, true, true, true, true, true, true, false, false]) (by kernel_rfl) ?_
      exact key _ _ _ F
    ·refine J08 rfl (by kernel_rfl) (fun K hK => ?_); go_simp
     obtain ⟨w10, Hw_⟩ : ∃ w_ : World, Hid (w_ = w7.alloc (.cells #[.int .i64 0, .bool false] 65)) := ⟨_, rfl⟩
     have m_ : More w7 w10 := Hw_.out ▸ (More.refl _).alloc _ _
     have Hmw10 : Hid (More W w10) := Hmw7.out.trans m_
     have Hb10w10 : Hid (Blk w10 w7.heap.size #[.int .i64 0, .bool false] 65) := Hw_.out ▸ Blk.last _ _ _
     have Hl10 : Hid (w.heap.size + 2 ≤ w7.heap.size) := Nat.le_trans Hsz.out (by have h1 := Hmw7.out.size; have h2 := HB.out.2.2.2; have h3 := Hm_.out.size; have h4 := Hwd.out; rw [h4]; simpa using h1)
     have Hb9w10 : Hid (Blk w10 (w1.heap.size) #[.int .i64 0, .bool false] 65) := Hb9w7.out.more m_
     have Hne : Hid (w1.heap.size ≠ w7.heap.size) := Nat.ne_of_lt Hb9w7.out.lt
     rw [← Hw_.out]
     clear m_ Hw_
     refine hK _ _ (HSm.out _ Hmw10.out) ?_; clear hK K
     refine J0z 13 (by kernel_rfl) ?_
     ·refine J08 rfl (by kernel_rfl) (fun K hK => ?_); go_simp
      refine (c2 _).mono ?_
      rintro e w11 ⟨rfl, m_⟩
      have Hmw11 : Hid (More W w11) := Hmw10.out.trans m_
      have Hb9w11 : Hid (Blk w11 (w1.heap.size) #[.int .i64 0, .bool false] 65) := Hb9w10.out.more m_
      have Hb10w11 : Hid (Blk w11 (w7.heap.size) #[.int .i64 0, .bool false] 65) := Hb10w10.out.more m_
      clear m_
      go_simp
      refine hK _ _ (HSm.out _ Hmw11.out) ?_; clear hK K
      have F : Hid (WhB w s (w1.heap.size) (w7.heap.size) w11) := ⟨HB.out.1.more Hmw11.out, HB.out.2.1.more Hmw11.out, Hb9w11.out, Hb10w11.out, HB.out.2.2.1.trans Hmw11.out, Hl9.out, Hl10.out, Hne.out⟩
      refine J1l (listed' := #[true, true, true, true, true, true, true, true, true, true, true, true, true, true, true, true, false, false]) (by kernel_rfl) ?_
      exact key _ _ _ F
   ·refine J08 rfl (by kernel_rfl) (fun K hK => ?_); go_simp
    obtain ⟨w12, Hw_⟩ : ∃ w_ : World, Hid (w_ = w1.alloc (.cells #[.int .i64 0, .bool false] 65)) := ⟨_, rfl⟩
    have m_ : More w1 w12 := Hw_.out ▸ (More.refl _).alloc _ _
    have Hmw12 : Hid (More W w12) := Hmw1.out.trans m_
    have Hb10w12 : Hid (Blk w12 w1.heap.size #[.int .i64 0, .bool false] 65) := Hw_.out ▸ Blk.last _ _ _
    have Hl10 : Hid (w.heap.size + 2 ≤ w1.heap.size) := Nat.le_trans Hsz.out (by have h1 := Hmw1.out.size; have h2 := HB.out.2.2.2; have h3 := Hm_.out.size; have h4 := Hwd.out; rw [h4]; simpa using h1)
    rw [← Hw_.out]
    clear m_ Hw_
    refine hK _ _ (HSm.out _ Hmw12.out) ?_; clear hK K
    refine J3k 13 14 (by kernel_rfl) ?_ ?_
    ·refine J08 rfl (by kernel_rfl) (fun K hK => ?_); go_simp
     refine (c2 _).mono ?_
     rintro e w13 ⟨rfl, m_⟩
     have Hmw13 : Hid (More W w13) := Hmw12.out.trans m_
     have Hb10w13 : Hid (Blk w13 (w1.heap.size) #[.int .i64 0, .bool false] 65) := Hb10w12.out.more m_
     clear m_
     go_simp
     refine hK _ _ (HSm.out _ Hmw13.out) ?_; clear hK K
     refine J0z 14 (by kernel_rfl) ?_
     ·refine J08 rfl (by kernel_rfl) (fun K hK => ?_); go_simp
      obtain ⟨w14, Hw_⟩ : ∃ w_ : World, Hid (w_ = w13.alloc (.cells #[.int .i64 0, .bool false] 65)) := ⟨_, rfl⟩
      have m_ : More w13 w14 := Hw_.out ▸ (More.refl _).alloc _ _
      have Hmw14 : Hid (More W w14) := Hmw13.out.trans m_
      have Hb9w14 : Hid (Blk w14 w13.heap.size #[.int .i64 0, .bool false] 65) := Hw_.out ▸ Blk.last _ _ _
      have Hl9 : Hid (w.heap.size + 2 ≤ w13.heap.size) := Nat.le_trans Hsz.out (by have h1 := Hmw13.out.size; have h2 := HB.out.2.2.2; have h3 := Hm_.out.size; have h4 := Hwd.out; rw [h4]; simpa using h1)
      have Hb10w14 : Hid (Blk w14 (w1.heap.size) #[.int .i64 0, .bool false] 65) := Hb10w13.out.more m_
      have Hne : Hid (w13.heap.size ≠ w1.heap.size) := Nat.ne_of_gt Hb10w13.out.lt
      rw [← Hw_.out]
      clear m_ Hw_
      refine hK _ _ (HSm.out _ Hmw14.out) ?_; clear hK K
      have F : Hid (WhB w s (w13.heap.size) (w1.heap.size) w14) := ⟨HB.out.1.more Hmw14.out, HB.out.2.1.more Hmw14.out, Hb9w14.out, Hb10w14.out, HB.out.2.2.1.trans Hmw14.out, Hl9.out, Hl10.out, Hne.out⟩
      refine J1l (listed' := #[true, true, true, true, true, true, true, true, true, true, true, true, true, true, true, true, false, false]) (by kernel_rfl) ?_
      exact key _ _ _ F
    ·refine J08 rfl (by kernel_rfl) (fun K hK => ?_); go_simp
     obtain ⟨w15, Hw_⟩ : ∃ w_ : World, Hid (w_ = w12.alloc (.cells #[.int .i64 0, .bool false] 65)) := ⟨_, rfl⟩
     have m_ : More w12 w15 := Hw_.out ▸ (More.refl _).alloc _ _
     have Hmw15 : Hid (More W w15) := Hmw12.out.trans m_
     have Hb9w15 : Hid (Blk w15 w12.heap.size #[.int .i64 0, .bool false] 65) := Hw_.out ▸ Blk.last _ _ _
     have Hl9 : Hid (w.heap.size + 2 ≤ w12.heap.size) := Nat.le_trans Hsz.out (by have h1 := Hmw12.out.size; have h2 := HB.out.2.2.2; have h3 := Hm_.out.size; have h4 := Hwd.out; rw [h4]; simpa using h1)
     have Hb10w15 : Hid (Blk w15 (w1.heap.size) #[.int .i64 0, .bool false] 65) := Hb10w12.out.more m_
     have Hne : Hid (w12.heap.size ≠ w1.heap.size) := Nat.ne_of_gt Hb10w12.out.lt
     rw [← Hw_.out]
     clear m_ Hw_
     refine hK _ _ (HSm.out _ Hmw15.out) ?_; clear hK K
     refine J0z 13 (by kernel_rfl) ?_
     ·refine J08 rfl (by kernel_rfl) (fun K hK => ?_); go_simp
      refine (c2 _).mono ?_
      rintro e w16 ⟨rfl, m_⟩
      have Hmw16 : Hid (More W w16) := Hmw15.out.trans m_
      have Hb9w16 : Hid (Blk w16 (w12.heap.size) #[.int .i64 0, .bool false] 65) := Hb9w15.out.more m_
      have Hb10w16 : Hid (Blk w16 (w1.heap.size) #[.int .i64 0, .bool false] 65) := Hb10w15.out.more m_
      clear m_
      go_simp
      refine hK _ _ (HSm.out _ Hmw16.out) ?_; clear hK K
      have F : Hid (WhB w s (w12.heap.size) (w1.heap.size) w16) := ⟨HB.out.1.more Hmw16.out, HB.out.2.1.more Hmw16.out, Hb9w16.out, Hb10w16.out, HB.out.2.2.1.trans Hmw16.out, Hl9.out, Hl10.out, Hne.out⟩
      refine J1l (listed' := #[true, true, true, true, true, true, true, true, true, true, true, true, true, true, true, true, false, false]) (by kernel_rfl) ?_
      exact key _ _ _ F
  ·refine J08 rfl (by kernel_rfl) (fun K hK => ?_); go_simp
   obtain ⟨w17, Hw_⟩ : ∃ w_ : World, Hid (w_ = wd.alloc (.cells #[.int .i64 0, .bool false] 65)) := ⟨_, rfl⟩
   have m_ : More wd w17 := Hw_.out ▸ (More.refl _).alloc _ _
   have Hmw17 : Hid (More W w17) := Hm_.out.trans m_
   have Hb9w17 : Hid (Blk w17 wd.heap.size #[.int .i64 0, .bool false] 65) := Hw_.out ▸ Blk.last _ _ _
   have Hl9 : Hid (w.heap.size + 2 ≤ wd.heap.size) := Nat.le_trans Hsz.out (Nat.le_refl _)
   rw [← Hw_.out]
   clear m_ Hw_
   refine hK _ _ (HSm.out _ Hmw17.out) ?_; clear hK K
   refine J3k 6 15 (by kernel_rfl) ?_ ?_
   ·refine J08 rfl (by kernel_rfl) (fun K hK => ?_); go_simp
    refine (c1 _).mono ?_
    rintro e w18 ⟨rfl, m_⟩
    have Hmw18 : Hid (More W w18) := Hmw17.out.trans m_
    have Hb9w18 : Hid (Blk w18 (wd.heap.size) #[.int .i64 0, .bool false] 65) := Hb9w17.out.more m_
    clear m_
    go_simp
    refine hK _ _ (HSm.out _ Hmw18.out) ?_; clear hK K
    refine J3k 13 15 (by kernel_rfl) ?_ ?_
    ·refine J08 rfl (by kernel_rfl) (fun K hK => ?_); go_simp
     refine (c2 _).mono ?_
     rintro e w19 ⟨rfl, m_⟩
     have Hmw19 : Hid (More W w19) := Hmw18.out.trans m_
     have Hb9w19 : Hid (Blk w19 (wd.heap.size) #[.int .i64 0, .bool false] 65) := Hb9w18.out.more m_
     clear m_
     go_simp
     refine hK _ _ (HSm.out _ Hmw19.out) ?_; clear hK K
     refine J0z 15 (by kernel_rfl) ?_
     ·refine J08 rfl (by kernel_rfl) (fun K hK => ?_); go_simp
      obtain ⟨w20, Hw_⟩ : ∃ w_ : World, Hid (w_ = w19.alloc (.cells #[.int .i64 0, .bool false] 65)) := ⟨_, rfl⟩
      have m_ : More w19 w20 := Hw_.out ▸ (More.refl _).alloc _ _
      have Hmw20 : Hid (More W w20) := Hmw19.out.trans m_
      have Hb10w20 : Hid (Blk w20 w19.heap.size #[.int .i64 0, .bool false] 65) := Hw_.out ▸ Blk.last _ _ _
      have Hl10 : Hid (w.heap.size + 2 ≤ w19.heap.size) := Nat.le_trans Hsz.out (by have h1 := Hmw19.out.size; have h2 := HB.out.2.2.2; have h3 := Hm_.out.size; have h4 := Hwd.out; rw [h4]; simpa using h1)
      have Hb9w20 : Hid (Blk w20 (wd.heap.size) #[.int .i64 0, .bool false] 65) := Hb9w19.out.more m_
      have Hne : Hid (wd.heap.size ≠ w19.heap.size) := Nat.ne_of_lt Hb9w19.out.lt
      rw [← Hw_.out]
      clear m_ Hw_
      refine hK _ _ (HSm.out _ Hmw20.out) ?_; clear hK K
      have F : Hid (WhB w s (wd.heap.size) (w19.heap.size) w20) := ⟨HB.out.1.more Hmw20.out, HB.out.2.1.more Hmw20.out, Hb9w20.out, Hb10w20.out, HB.out.2.2.1.trans Hmw20.out, Hl9.out, Hl10.out, Hne.out⟩
      refine J1l (listed' := #[true, true, true, true, true, true, true, true, true, true, true, true, true, true, true, true, false, false]) (by kernel_rfl) ?_
      exact key _ _ _ F
    ·refine J08 rfl (by kernel_rfl) (fun K hK => ?_); go_simp
     obtain ⟨w21, Hw_⟩ : ∃ w_ : World, Hid (w_ = w18.alloc (.cells #[.int .i64 0, .bool false] 65)) := ⟨_, rfl⟩
     have m_ : More w18 w21 := Hw_.out ▸ (More.refl _).alloc _ _
     have Hmw21 : Hid (More W w21) := Hmw18.out.trans m_
     have Hb10w21 : Hid (Blk w21 w18.heap.size #[.int .i64 0, .bool false] 65) := Hw_.out ▸ Blk.last _ _ _
     have Hl10 : Hid (w.heap.size + 2 ≤ w18.heap.size) := Nat.le_trans Hsz.out (by have h1 := Hmw18.out.size; have h2 := HB.out.2.2.2; have h3 := Hm_.out.size; have h4 := Hwd.out; rw [h4]; simpa using h1)
     have Hb9w21 : Hid (Blk w21 (wd.heap.size) #[.int .i64 0, .bool false] 65) := Hb9w18.out.more m_
     have Hne : Hid (wd.heap.size ≠ w18.heap.size) := Nat.ne_of_lt Hb9w18.out.lt
     rw [← Hw_.out]
     clear m_ Hw_
     refine hK _ _ (HSm.out _ Hmw21.out) ?_; clear hK K
     refine J0z 13 (by kernel_rfl) ?_
     ·refine J08 rfl (by kernel_rfl) (fun K hK => ?_); go_simp
      refine (c2 _).mono ?_
      rintro e w22 ⟨rfl, m_⟩
      have Hmw22 : Hid (More W w22) := Hmw21.out.trans m_
      have Hb9w22 : Hid (Blk w22 (wd.heap.size) #[.int .i64 0, .bool false] 65) := Hb9w21.out.more m_
      have Hb10w22 : Hid (Blk w22 (w18.heap.size) #[.int .i64 0, .bool false] 65) := Hb10w21.out.more m_
      clear m_
      go_simp
      refine hK _ _ (HSm.out _ Hmw22.out) ?_; clear hK K
      have F : Hid (WhB w s (wd.heap.size) (w18.heap.size) w22) := ⟨HB.out.1.more Hmw22.out, HB.out.2.1.more Hmw22.out, Hb9w22.out, Hb10w22.out, HB.out.2.2.1.trans Hmw22.out, Hl9.out, Hl10.out, Hne.out⟩
      refine J1l (listed' := #[true, true, true, true, true, true, true, true, true, true, true, true, true, true, true, true, false, false]) (by kernel_rfl) ?_
      exact key _ _ _ F
   ·refine J08 rfl (by kernel_rfl) (fun K hK => ?_); go_simp
    obtain ⟨w23, Hw_⟩ : ∃ w_ : World, Hid (w_ = w17.alloc (.cells #[.int .i64 0, .bool false] 65)) := ⟨_, rfl⟩
    have m_ : More w17 w23 := Hw_.out ▸ (More.refl _).alloc _ _
    have Hmw23 : Hid (More W w23) := Hmw17.out.trans m_
    have Hb10w23 : Hid (Blk w23 w17.heap.size #[.int .i64 0, .bool false] 65) := Hw_.out ▸ Blk.last _ _ _
    have Hl10 : Hid (w.heap.size + 2 ≤ w17.heap.size) := Nat.le_trans Hsz.out (by have h1 := Hmw17.out.size; have h2 := HB.out.2.2.2; have h3 := Hm_.out.size; have h4 := Hwd.out; rw [h4]; simpa using h1)
    have Hb9w23 : Hid (Blk w23 (wd.heap.size) #[.int .i64 0, .bool false] 65) := Hb9w17.out.more m_
    have Hne : Hid (wd.heap.size ≠ w17.heap.size) := Nat.ne_of_lt Hb9w17.out.lt
    rw [← Hw_.out]
    clear m_ Hw_
    refine hK _ _ (HSm.out _ Hmw23.out) ?_; clear hK K
    refine J0z 6 (by kernel_rfl) ?_
    ·refine J08 rfl (by kernel_rfl) (fun K hK => ?_); go_simp
     refine (c1 _).mono ?_
     rintro e w24 ⟨rfl, m_⟩
     have Hmw24 : Hid (More W w24) := Hmw23.out.trans m_
     have Hb9w24 : Hid (Blk w24 (wd.heap.size) #[.int .i64 0, .bool false] 65) := Hb9w23.out.more m_
     have Hb10w24 : Hid (Blk w24 (w17.heap.size) #[.int .i64 0, .bool false] 65) := Hb10w23.out.more m_
     clear m_
     go_simp
     refine hK _ _ (HSm.out _ Hmw24.out) ?_; clear hK K
     refine J0z 13 (by kernel_rfl) ?_
     ·refine J08 rfl (by kernel_rfl) (fun K hK => ?_); go_simp
      refine (c2 _).mono ?_
      rintro e w25 ⟨rfl, m_⟩
      have Hmw25 : Hid (More W w25) := Hmw24.out.trans m_
      have Hb9w25 : Hid (Blk w25 (wd.heap.size) #[.int .i64 0, .bool false] 65) := Hb9w24.out.more m_
      have Hb10w25 : Hid (Blk w25 (w17.heap.size) #[.int .i64 0, .bool false] 65) := Hb10w24.out.more m_
      clear m_
      go_simp
      refine hK _ _ (HSm.out _ Hmw25.out) ?_; clear hK K
      have F : Hid (WhB w s (wd.heap.size) (w17.heap.size) w25) := ⟨HB.out.1.more Hmw25.out, HB.out.2.1.more Hmw25.out, Hb9w25.out, Hb10w25.out, HB.out.2.2.1.trans Hmw25.out, Hl9.out, Hl10.out, Hne.out⟩
      refine J1l (listed' := #[true, true, true, true, true, true, true, true, true, true, true, true, true, true, true, true, false, false]) (by kernel_rfl) ?_
      exact key _ _ _ F
  ·refine J08 rfl (by kernel_rfl) (fun K hK => ?_); go_simp
   obtain ⟨w26, Hw_⟩ : ∃ w_ : World, Hid (w_ = wd.alloc (.cells #[.int .i64 0, .bool false] 65)) := ⟨_, rfl⟩
   have m_ : More wd w26 := Hw_.out ▸ (More.refl _).alloc _ _
   have Hmw26 : Hid (More W w26) := Hm_.out.trans m_
   have Hb10w26 : Hid (Blk w26 wd.heap.size #[.int .i64 0, .bool false] 65) := Hw_.out ▸ Blk.last _ _ _
   have Hl10 : Hid (w.heap.size + 2 ≤ wd.heap.size) := Nat.le_trans Hsz.out (Nat.le_refl _)
   rw [← Hw_.out]
   clear m_ Hw_
   refine hK _ _ (HSm.out _ Hmw26.out) ?_; clear hK K
   refine J3k 6 14 (by kernel_rfl) ?_ ?_
   ·refine J08 rfl (by kernel_rfl) (fun K hK => ?_); go_simp
    refine (c1 _).mono ?_
    rintro e w27 ⟨rfl, m_⟩
    have Hmw27 : Hid (More W w27) := Hmw26.out.trans m_
    have Hb10w27 : Hid (Blk w27 (wd.heap.size) #[.int .i64 0, .bool false] 65) := Hb10w26.out.more m_
    clear m_
    go_simp
    refine hK _ _ (HSm.out _ Hmw27.out) ?_; clear hK K
    refine J3k 13 14 (by kernel_rfl) ?_ ?_
    ·refine J08 rfl (by kernel_rfl) (fun K hK => ?_); go_simp
     refine (c2 _).mono ?_
     rintro e w28 ⟨rfl, m_⟩
     have Hmw28 : Hid (More W w28) := Hmw27.out.trans m_
     have Hb10w28 : Hid (Blk w28 (wd.heap.size) #[.int .i64 0, .bool false] 65) := Hb10w27.out.more m_
     clear m_
     go_simp
     refine hK _ _ (HSm.out _ Hmw28.out) ?_; clear hK K
     refine J0z 14 (by kernel_rfl) ?_
     ·refine J08 rfl (by kernel_rfl) (fun K hK => ?_); go_simp
      obtain ⟨w29, Hw_⟩ : ∃ w_ : World, Hid (w_ = w28.alloc (.cells #[.int .i64 0, .bool false] 65)) := ⟨_, rfl⟩
      have m_ : More w28 w29 := Hw_.out ▸ (More.refl _).alloc _ _
      have Hmw29 : Hid (More W w29) := Hmw28.out.trans m_
      have Hb9w29 : Hid (Blk w29 w28.heap.size #[.int .i64 0, .bool false] 65) := Hw_.out ▸ Blk.last _ _ _
      have Hl9 : Hid (w.heap.size + 2 ≤ w28.heap.size) := Nat.le_trans Hsz.out (by have h1 := Hmw28.out.size; have h2 := HB.out.2.2.2; have h3 := Hm_.out.size; have h4 := Hwd.out; rw [h4]; simpa using h1)
      have Hb10w29 : Hid (Blk w29 (wd.heap.size) #[.int .i64 0, .bool false] 65) := Hb10w28.out.more m_
      have Hne : Hid (w28.heap.size ≠ wd.heap.size) := Nat.ne_of_gt Hb10w28.out.lt
      rw [← Hw_.out]
      clear m_ Hw_
      refine hK _ _ (HSm.out _ Hmw29.out) ?_; clear hK K
      have F : Hid (WhB w s (w28.heap.size) (wd.heap.size) w29) := ⟨HB.out.1.more Hmw29.out, HB.out.2.1.more Hmw29.out, Hb9w29.out, Hb10w29.out, HB.out.2.2.1.trans Hmw29.out, Hl9.out, Hl10.out, Hne.out⟩
      refine J1l (listed' := #[true, true, true, true, true, true, true, true, true, true, true, true, true, true, true, true, false, false]) (by kernel_rfl) ?_
      exact key _ _ _ F
    ·refine J08 rfl (by kernel_rfl) (fun K hK => ?_); go_simp
     obtain ⟨w30, Hw_⟩ : ∃ w_ : World, Hid (w_ = w27.alloc (.cells #[.int .i64 0, .bool false] 65)) := ⟨_, rfl⟩
     have m_ : More w27 w30 := Hw_.out ▸ (More.refl _).alloc _ _
     have Hmw30 : Hid (More W w30) := Hmw27.out.trans m_
     have Hb9w30 : Hid (Blk w30 w27.heap.size #[.int .i64 0, .bool false] 65) := Hw_.out ▸ Blk.last _ _ _
     have Hl9 : Hid (w.heap.size + 2 ≤ w27.heap.size) := Nat.le_trans Hsz.out (by have h1 := Hmw27.out.size; have h2 := HB.out.2.2.2; have h3 := Hm_.out.size; have h4 := Hwd.out; rw [h4]; simpa using h1)
     have Hb10w30 : Hid (Blk w30 (wd.heap.size) #[.int .i64 0, .bool false] 65) := Hb10w27.out.more m_
     have Hne : Hid (w27.heap.size ≠ wd.heap.size) := Nat.ne_of_gt Hb10w27.out.lt
     rw [← Hw_.out]
     clear m_ Hw_
     refine hK _ _ (HSm.out _ Hmw30.out) ?_; clear hK K
     refine J0z 13 (by kernel_rfl) ?_
     ·refine J08 rfl (by kernel_rfl) (fun K hK => ?_); go_simp
      refine (c2 _).mono ?_
      rintro e w31 ⟨rfl, m_⟩
      have Hmw31 : Hid (More W w31) := Hmw30.out.trans m_
      have Hb9w31 : Hid (Blk w31 (w27.heap.size) #[.int .i64 0, .bool false] 65) := Hb9w30.out.more m_
      have Hb10w31 : Hid (Blk w31 (wd.heap.size) #[.int .i64 0, .bool false] 65) := Hb10w30.out.more m_
      clear m_
      go_simp
      refine hK _ _ (HSm.out _ Hmw31.out) ?_; clear hK K
      have F : Hid (WhB w s (w27.heap.size) (wd.heap.size) w31) := ⟨HB.out.1.more Hmw31.out, HB.out.2.1.more Hmw31.out, Hb9w31.out, Hb10w31.out, HB.out.2.2.1.trans Hmw31.out, Hl9.out, Hl10.out, Hne.out⟩
      refine J1l (listed' := #[true, true, true, true, true, true, true, true, true, true, true, true, true, true, true, true, false, false]) (by kernel_rfl) ?_
      exact key _ _ _ F
   ·refine J08 rfl (by kernel_rfl) (fun K hK => ?_); go_simp
    obtain ⟨w32, Hw_⟩ : ∃ w_ : World, Hid (w_ = w26.alloc (.cells #[.int .i64 0, .bool false] 65)) := ⟨_, rfl⟩
    have m_ : More w26 w32 := Hw_.out ▸ (More.refl _).alloc _ _
    have Hmw32 : Hid (More W w32) := Hmw26.out.trans m_
    have Hb9w32 : Hid (Blk w32 w26.heap.size #[.int .i64 0, .bool false] 65) := Hw_.out ▸ Blk.last _ _ _
    have Hl9 : Hid (w.heap.size + 2 ≤ w26.heap.size) := Nat.le_trans Hsz.out (by have h1 := Hmw26.out.size; have h2 := HB.out.2.2.2; have h3 := Hm_.out.size; have h4 := Hwd.out; rw [h4]; simpa using h1)
    have Hb10w32 : Hid (Blk w32 (wd.heap.size) #[.int .i64 0, .bool false] 65) := Hb10w26.out.more m_
    have Hne : Hid (w26.heap.size ≠ wd.heap.size) := Nat.ne_of_gt Hb10w26.out.lt
    rw [← Hw_.out]
    clear m_ Hw_
    refine hK _ _ (HSm.out _ Hmw32.out) ?_; clear hK K
    refine J0z 6 (by kernel_rfl) ?_
    ·refine J08 rfl (by kernel_rfl) (fun K hK => ?_); go_simp
     refine (c1 _).mono ?_
     rintro e w33 ⟨rfl, m_⟩
     have Hmw33 : Hid (More W w33) := Hmw32.out.trans m_
     have Hb9w33 : Hid (Blk w33 (w26.heap.size) #[.int .i64 0, .bool false] 65) := Hb9w32.out.more m_
     have Hb10w33 : Hid (Blk w33 (wd.heap.size) #[.int .i64 0, .bool false] 65) := Hb10w32.out.more m_
     clear m_
     go_simp
     refine hK _ _ (HSm.out _ Hmw33.out) ?_; clear hK K
     refine J0z 13 (by kernel_rfl) ?_
     ·refine J08 rfl (by kernel_rfl) (fun K hK => ?_); go_simp
      refine (c2 _).mono ?_
      rintro e w34 ⟨rfl, m_⟩
      have Hmw34 : Hid (More W w34) := Hmw33.out.trans m_
      have Hb9w34 : Hid (Blk w34 (w26.heap.size) #[.int .i64 0, .bool false] 65) := Hb9w33.out.more m_
      have Hb10w34 : Hid (Blk w34 (wd.heap.size) #[.int .i64 0, .bool false] 65) := Hb10w33.out.more m_
      clear m_
      go_simp
      refine hK _ _ (HSm.out _ Hmw34.out) ?_; clear hK K
      have F : Hid (WhB w s (w26.heap.size) (wd.heap.size) w34) := ⟨HB.out.1.more Hmw34.out, HB.out.2.1.more Hmw34.out, Hb9w34.out, Hb10w34.out, HB.out.2.2.1.trans Hmw34.out, Hl9.out, Hl10.out, Hne.out⟩
      refine J1l (listed' := #[true, true, true, true, true, true, true, true, true, true, true, true, true, true, true, true, false, false]) (by kernel_rfl) ?_
      exact key _ _ _ F
 ·intro w1 g10 g9 F
  have t0 := F.out.b9.cell (j := 0) rfl
  have t1 := F.out.b9.cell (j := 1) rfl
  have u0 := F.out.b9.frozen 0
  have u1 := F.out.b9.frozen 1
  obtain ⟨w2, Hw2⟩ : ∃ w2 : World, Hid (w2 = (w1.setCell ⟨g9, 0, none⟩ (.int .i64 lab)).setCell ⟨g9, 1, none⟩ (.bool las)) := ⟨_, rfl⟩
  have h9 := F.out.lt9
  have h10 := F.out.lt10
  have hne9 := F.out.ne
  have F2 : Hid (Blk w2 w.heap.size (kv s) 113 ∧ Blk w2 (w.heap.size + 1) (kv zeroK) 113 ∧ Blk w2 g9 #[.int .i64 lab, .bool las] 65 ∧ Blk w2 g10 #[.int .i64 0, .bool false] 65 ∧ More w w2) := by
   rw [Hw2.out]
   exact ⟨(F.out.r.other (by omega) _ _).other (by omega) _ _, (F.out.z.other (by omega) _ _).other (by omega) _ _, (F.out.b9.set 0 _).set 1 _, (F.out.b10.other hne9 _ _).other hne9 _ _, (F.out.up.setCell (by dsimp only; omega) _).setCell (by dsimp only; omega) _⟩
  obtain ⟨w3, Hw3⟩ : ∃ w3 : World, Hid (w3 = (w2.setCell ⟨g10, 0, none⟩ (.int .i64 lbb)).setCell ⟨g10, 1, none⟩ (.bool lbs)) := ⟨_, rfl⟩
  have F3 : Hid (Blk w3 w.heap.size (kv s) 113 ∧ Blk w3 (w.heap.size + 1) (kv zeroK) 113 ∧ Blk w3 g9 #[.int .i64 lab, .bool las] 65 ∧ Blk w3 g10 #[.int .i64 lbb, .bool lbs] 65 ∧ More w w3) := by
   rw [Hw3.out]
   exact ⟨(F2.out.1.other (by omega) _ _).other (by omega) _ _, (F2.out.2.1.other (by omega) _ _).other (by omega) _ _, (F2.out.2.2.1.other hne9.symm _ _).other hne9.symm _ _, (F2.out.2.2.2.1.set 0 _).set 1 _, (F2.out.2.2.2.2.setCell (by dsimp only; omega) _).setCell (by dsimp only; omega) _⟩
  have Hlt : Hid (w.heap.size + 2 ≤ g9 ∧ w.heap.size + 2 ≤ g10 ∧ g9 ≠ g10) := ⟨h9, h10, hne9⟩
  clear h9 h10 hne9
  refine J0z 16 (by kernel_rfl) ?_
  refine J08 rfl (by kernel_rfl) (fun K hK => ?_); go_simp
  rw [← Hw2.out]
  refine hK _ _ ((HS.out _).2 F2.out.1) ?_; clear hK K t0 t1 u0 u1
  have t0 := F2.out.2.2.2.1.cell (j := 0) rfl
  have t1 := F2.out.2.2.2.1.cell (j := 1) rfl
  have u0 := F2.out.2.2.2.1.frozen 0
  have u1 := F2.out.2.2.2.1.frozen 1
  refine J0z 17 (by kernel_rfl) ?_
  refine J08 rfl (by kernel_rfl) (fun K hK => ?_); go_simp
  rw [← Hw3.out]
  refine hK _ _ ((HS.out _).2 F3.out.1) ?_; clear hK K t0 t1 u0 u1
  refine J3w (by kernel_rfl) ?_
  have v0 := F3.out.2.2.1.cell (j := 0) rfl
  have v1 := F3.out.2.2.1.cell (j := 1) rfl
  have x0 := F3.out.2.2.2.1.cell (j := 0) rfl
  have x1 := F3.out.2.2.2.1.cell (j := 1) rfl
  clear hne HS0 c1 c2
  rcases Hc.out with hc | hc | hc | hc
  ·subst hc
   have hend : whK 1 a b s = setK (setK s a ⟨lab, las⟩) b ⟨lbb, lbs⟩ := by rw [HK.out]; simp
   obtain ⟨w4, Hw4⟩ : ∃ w_ : World, Hid (w_ = (w3.setCell ⟨w.heap.size, a.toNat * 2, none⟩ (.int .i64 lab)).setCell ⟨w.heap.size, a.toNat * 2 + 1, none⟩ (.bool las)) := ⟨_, rfl⟩
   have F4 : Hid (Blk w4 w.heap.size (kv (setK (s) a ⟨lab, las⟩)) 113 ∧ Blk w4 (w.heap.size + 1) (kv zeroK) 113 ∧ More w w4 ∧ Blk w4 g10 #[.int .i64 lbb, .bool lbs] 65) := by
    have hl := Hlt.out
    rw [Hw4.out]
    exact ⟨(F3.out.1).setK a lab las ha8, ((F3.out.2.1).other (by omega) _ _).other (by omega) _ _, ((F3.out.2.2.2.2).setCell (by simp) _).setCell (by simp) _, ((F3.out.2.2.2.1).other (by omega) _ _).other (by omega) _ _⟩
   obtain ⟨w5, Hw5⟩ : ∃ w_ : World, Hid (w_ = (w4.setCell ⟨w.heap.size, b.toNat * 2, none⟩ (.int .i64 lbb)).setCell ⟨w.heap.size, b.toNat * 2 + 1, none⟩ (.bool lbs)) := ⟨_, rfl⟩
   have F5 : Hid (Blk w5 w.heap.size (kv (setK (setK s a ⟨lab, las⟩) b ⟨lbb, lbs⟩)) 113 ∧ Blk w5 (w.heap.size + 1) (kv zeroK) 113 ∧ More w w5 ∧ Blk w5 g10 #[.int .i64 lbb, .bool lbs] 65) := by
    have hl := Hlt.out
    rw [Hw5.out]
    exact ⟨(F4.out.1).setK b lbb lbs hb8, ((F4.out.2.1).other (by omega) _ _).other (by omega) _ _, ((F4.out.2.2.1).setCell (by simp) _).setCell (by simp) _, ((F4.out.2.2.2).other (by omega) _ _).other (by omega) _ _⟩
   have y0 := F4.out.2.2.2.cell (j := 0) rfl
   have y1 := F4.out.2.2.2.cell (j := 1) rfl
   obtain ⟨C, hC⟩ : ∃ C, kv (whK 1 a b s) = C := ⟨_, rfl⟩
   have HE : Hid (P (.returned (.agg C)) (w5.setRow (w.heap.size + 1) C)) := by
    have := HP.out (w5.setRow (w.heap.size + 1) C) (F5.out.2.2.1.setRow (by omega) C)
    rw [hC] at this
    exact this
   have hb : w5.heap[w.heap.size]? = some (.cells C 113 (0, 0)) := by
    have := F5.out.1
    rw [← hend, hC] at this
    exact this
   have hr : w5.heap[w.heap.size + 1]? = some (.cells (kv zeroK) 113 (0, 0)) := F5.out.2.1
   have hi : (Try.prog.info? 113).map (·.size) = some C.size := by rw [← hC]; exact J17 _
   have hold : (kv zeroK).size = C.size := by rw [← hC, J0b, J0b]
   have hone : C.all (·.oneCell') = true := by rw [← hC]; exact J2g _
   clear hend HP
   go_wp2_with (first | (refine J26 rfl (.tmp 33) (.tmp 32) rfl w.heap.size a.toNat lab las rfl rfl J7v (s) 113 F3.out.1 ha8 w4 Hw4.out ?_) | (refine J26 rfl (.tmp 42) (.tmp 41) rfl w.heap.size b.toNat lbb lbs rfl rfl J7v (setK s a ⟨lab, las⟩) 113 F4.out.1 hb8 w5 Hw5.out ?_) | (refine wpList_load_row rfl 113 (.tmp 4) rfl w.heap.size rfl 113 _ (0, 0) _ hb Try.underlying113 rfl hi ?_) | (refine wpList_store_row rfl 113 (.tmp 8) (.tmp 43) rfl (w.heap.size + 1) _ rfl rfl 113 _ hr hi hold hone ?_))
   exact bodyPost_ret (results_cell_row rfl _ _ (w.heap.size + 1) 113 C (0, 0) _ rfl (setRow_heap _ _ _ _ _ _ hr) Try.underlying113 rfl hi) rfl HE.out
  ·subst hc
   have hend : whK 2 a b s = s := by rw [HK.out]; simp
   obtain ⟨C, hC⟩ : ∃ C, kv (whK 2 a b s) = C := ⟨_, rfl⟩
   have HE : Hid (P (.returned (.agg C)) (w3.setRow (w.heap.size + 1) C)) := by
    have := HP.out (w3.setRow (w.heap.size + 1) C) (F3.out.2.2.2.2.setRow (by omega) C)
    rw [hC] at this
    exact this
   have hb : w3.heap[w.heap.size]? = some (.cells C 113 (0, 0)) := by
    have := F3.out.1
    rw [← hend, hC] at this
    exact this
   have hr : w3.heap[w.heap.size + 1]? = some (.cells (kv zeroK) 113 (0, 0)) := F3.out.2.1
   have hi : (Try.prog.info? 113).map (·.size) = some C.size := by rw [← hC]; exact J17 _
   have hold : (kv zeroK).size = C.size := by rw [← hC, J0b, J0b]
   have hone : C.all (·.oneCell') = true := by rw [← hC]; exact J2g _
   clear hend HP
   go_wp2_with (first | (refine wpList_load_row rfl 113 (.tmp 4) rfl w.heap.size rfl 113 _ (0, 0) _ hb Try.underlying113 rfl hi ?_) | (refine wpList_store_row rfl 113 (.tmp 8) (.tmp 43) rfl (w.heap.size + 1) _ rfl rfl 113 _ hr hi hold hone ?_))
   exact bodyPost_ret (results_cell_row rfl _ _ (w.heap.size + 1) 113 C (0, 0) _ rfl (setRow_heap _ _ _ _ _ _ hr) Try.underlying113 rfl hi) rfl HE.out
  ·subst hc
   have hend : whK 3 a b s = setK s a ⟨lab, las⟩ := by rw [HK.out]; simp
   obtain ⟨w4, Hw4⟩ : ∃ w_ : World, Hid (w_ = (w3.setCell ⟨w.heap.size, a.toNat * 2, none⟩ (.int .i64 lab)).setCell ⟨w.heap.size, a.toNat * 2 + 1, none⟩ (.bool las)) := ⟨_, rfl⟩
   have F4 : Hid (Blk w4 w.heap.size (kv (setK (s) a ⟨lab, las⟩)) 113 ∧ Blk w4 (w.heap.size + 1) (kv zeroK) 113 ∧ More w w4 ∧ Blk w4 g10 #[.int .i64 lbb, .bool lbs] 65) := by
    have hl := Hlt.out
    rw [Hw4.out]
    exact ⟨(F3.out.1).setK a lab las ha8, ((F3.out.2.1).other (by omega) _ _).other (by omega) _ _, ((F3.out.2.2.2.2).setCell (by simp) _).setCell (by simp) _, ((F3.out.2.2.2.1).other (by omega) _ _).other (by omega) _ _⟩
   obtain ⟨C, hC⟩ : ∃ C, kv (whK 3 a b s) = C := ⟨_, rfl⟩
   have HE : Hid (P (.returned (.agg C)) (w4.setRow (w.heap.size + 1) C)) := by
    have := HP.out (w4.setRow (w.heap.size + 1) C) (F4.out.2.2.1.setRow (by omega) C)
    rw [hC] at this
    exact this
   have hb : w4.heap[w.heap.size]? = some (.cells C 113 (0, 0)) := by
    have := F4.out.1
    rw [← hend, hC] at this
    exact this
   have hr : w4.heap[w.heap.size + 1]? = some (.cells (kv zeroK) 113 (0, 0)) := F4.out.2.1
   have hi : (Try.prog.info? 113).map (·.size) = some C.size := by rw [← hC]; exact J17 _
   have hold : (kv zeroK).size = C.size := by rw [← hC, J0b, J0b]
   have hone : C.all (·.oneCell') = true := by rw [← hC]; exact J2g _
   clear hend HP
   go_wp2_with (first | (refine J26 rfl (.tmp 33) (.tmp 32) rfl w.heap.size a.toNat lab las rfl rfl J7v (s) 113 F3.out.1 ha8 w4 Hw4.out ?_) | (refine wpList_load_row rfl 113 (.tmp 4) rfl w.heap.size rfl 113 _ (0, 0) _ hb Try.underlying113 rfl hi ?_) | (refine wpList_store_row rfl 113 (.tmp 8) (.tmp 43) rfl (w.heap.size + 1) _ rfl rfl 113 _ hr hi hold hone ?_))
   exact bodyPost_ret (results_cell_row rfl _ _ (w.heap.size + 1) 113 C (0, 0) _ rfl (setRow_heap _ _ _ _ _ _ hr) Try.underlying113 rfl hi) rfl HE.out
  ·subst hc
   have hend : whK 4 a b s = setK s b ⟨lbb, lbs⟩ := by rw [HK.out]; simp
   obtain ⟨w4, Hw4⟩ : ∃ w_ : World, Hid (w_ = (w3.setCell ⟨w.heap.size, b.toNat * 2, none⟩ (.int .i64 lbb)).setCell ⟨w.heap.size, b.toNat * 2 + 1, none⟩ (.bool lbs)) := ⟨_, rfl⟩
   have F4 : Hid (Blk w4 w.heap.size (kv (setK (s) b ⟨lbb, lbs⟩)) 113 ∧ Blk w4 (w.heap.size + 1) (kv zeroK) 113 ∧ More w w4 ∧ Blk w4 g10 #[.int .i64 lbb, .bool lbs] 65) := by
    have hl := Hlt.out
    rw [Hw4.out]
    exact ⟨(F3.out.1).setK b lbb lbs hb8, ((F3.out.2.1).other (by omega) _ _).other (by omega) _ _, ((F3.out.2.2.2.2).setCell (by simp) _).setCell (by simp) _, ((F3.out.2.2.2.1).other (by omega) _ _).other (by omega) _ _⟩
   obtain ⟨C, hC⟩ : ∃ C, kv (whK 4 a b s) = C := ⟨_, rfl⟩
   have HE : Hid (P (.returned (.agg C)) (w4.setRow (w.heap.size + 1) C)) := by
    have := HP.out (w4.setRow (w.heap.size + 1) C) (F4.out.2.2.1.setRow (by omega) C)
    rw [hC] at this
    exact this
   have hb : w4.heap[w.heap.size]? = some (.cells C 113 (0, 0)) := by
    have := F4.out.1
    rw [← hend, hC] at this
    exact this
   have hr : w4.heap[w.heap.size + 1]? = some (.cells (kv zeroK) 113 (0, 0)) := F4.out.2.1
   have hi : (Try.prog.info? 113).map (·.size) = some C.size := by rw [← hC]; exact J17 _
   have hold : (kv zeroK).size = C.size := by rw [← hC, J0b, J0b]
   have hone : C.all (·.oneCell') = true := by rw [← hC]; exact J2g _
   clear hend HP
   go_wp2_with (first | (refine J26 rfl (.tmp 42) (.tmp 41) rfl w.heap.size b.toNat lbb lbs rfl rfl J7v (s) 113 F3.out.1 hb8 w4 Hw4.out ?_) | (refine wpList_load_row rfl 113 (.tmp 4) rfl w.heap.size rfl 113 _ (0, 0) _ hb Try.underlying113 rfl hi ?_) | (refine wpList_store_row rfl 113 (.tmp 8) (.tmp 43) rfl (w.heap.size + 1) _ rfl rfl 113 _ hr hi hold hone ?_))
   exact bodyPost_ret (results_cell_row rfl _ _ (w.heap.size + 1) 113 C (0, 0) _ rfl (setRow_heap _ _ _ _ _ _ hr) Try.underlying113 rfl hi) rfl HE.out
end
end Go.Proofs.Ytmpafeoileonjaa
