/-
  The texts HdCode, FnLay, FnCode, HdClone, HdDoes, HdLike, HdMake, FnDoes, FnMake, HdDone, one behind the other, with what is used of them.
-/
import Derived.Test.YtapagihngaiebaaGreatJoined10
import Derived.Deep.LoopGhost
import Derived.Deep.OwnRows
import Derived.Test.YtapagihngaiebaaGreatJoined1
import Derived.Test.YtapagihngaiebaaGreatJoined0
import Derived.Test.YtapagihngaiebaaGreatProg
import Derived.Test.YtapagihngaiebaaGreatJoined7
import Derived.Lib.SliceRun
import Derived.Test.YtapagihngaiebaaGreatJoined6
namespace Go.Proofs.YtapagihngaiebaaGreat
set_option maxHeartbeats 4000000
section
open Go.RowKit
set_option linter.unusedSimpArgs false
set_option linter.unusedVariables false
set_option maxRecDepth 8000
theorem Jeu : (Tryz.prog.info? 42).map (fun i => (i.zero, i.size, i.bytes)) = some (some (.agg #[V 0, V 0, V 0, V 0, V 0]), 5, 40) := by kernel_rfl
theorem J8o (x : Value) (n j : Nat) (h : j < n) : (madeCells #[x] n)[j]? = some x := by unfold madeCells; simp [h, Nat.mod_one]

theorem Jbc {p : Prg} {k : Nat} (ok : p.Ok 200 8) (hk : k < p.cl) : ∀ i ∈ maskL p (p.ins k), i.op = 7 \/ i.op = 8 -> 0 <= i.n /\ i.n < p.cl := by
 intro i hi h;unfold maskL at hi;by_cases hm : (p.ins k).op = 3 \/ (p.ins k).op = 4
 ·rw [if_pos hm] at hi
  simp only [List.mem_cons, List.not_mem_nil, or_false] at hi;rcases hi with rfl | rfl | rfl
  ·dsimp only at h; omega
  ·dsimp only at h; omega
  ·dsimp only at h; omega
 ·rw [if_neg hm] at hi
  obtain rfl : i = p.ins k := by simpa using hi
  have hI := ok.2.2.2 k hk;unfold InsOk at hI;rcases h with h | h
  ·simp [h] at hI
   exact hI.2.2.2
  ·simp [h] at hI
   exact hI.2.2.2
theorem J6e {p : Prg} (ok : p.Ok 200 8) : ∀ n, n <= p.cl -> ∀ i ∈ codeL p n, i.op = 7 \/ i.op = 8 -> 0 <= i.n /\ i.n < p.cl
 | 0, _, i, hi, _ => by simp [codeL, codeG] at hi
 | n + 1, hn, i, hi, h => by
  rcases List.mem_append.1 hi with hi | hi
  ·exact J6e ok n (by omega) i hi h
  ·exact Jbc ok (by omega) i hi h

structure H1 (w : World) (p : Prg) (rv c0 : Value) (k : Nat) (cv : Value) (wr : World) : Prop where
 box : Blk wr w.heap.size #[rv, c0] 25
 own : wr.ownsRow (w.heap.size + 2) 42 5 cv (J0r p k) (flatI (codeL p k))
 room : ∀ j, j < p.cl -> ∃ v, Wr wr (w.heap.size + 1) j v
 done : ∀ j, j < k -> wr.cell? ⟨w.heap.size + 1, j, none⟩ = some (V (J0r p j : Nat))
 more : More w wr

theorem H1.start (w : World) (p : Prg) (rv c0 : Value) : H1 w p rv c0 0 (.slice none 0 0) ((w.alloc (.cells #[rv, c0] 25)).alloc (.cells (madeCells #[V 0] p.cl) 2)) := by
 have hb : Blk ((w.alloc (.cells #[rv, c0] 25)).alloc (.cells (madeCells #[V 0] p.cl) 2)) (w.heap.size + 1) (madeCells #[V 0] p.cl) 2 := by
  simpa using Blk.last (w.alloc (.cells #[rv, c0] 25)) (madeCells #[V 0] p.cl) 2
 exact ⟨(Blk.last _ _ _).more ((More.refl _).alloc _ _), World.ownsRow_nil _ _ _ _, fun j hj => ⟨_, hb.cell (J8o _ _ _ hj), hb.frozen _⟩, fun j hj => absurd hj (Nat.not_lt_zero _), ((More.refl _).alloc _ _).alloc _ _⟩

theorem H1.step {w : World} {p : Prg} {rv c0 : Value} {k : Nat} {cv : Value} {wr : World} (h : H1 w p rv c0 k cv wr) (hk : k < p.cl) {w1 w2 w3 : World} (cs : Array Value)
  (e1 : w1 = (wr.setCell ⟨w.heap.size + 1, k, none⟩ (V (J0r p k : Nat))).alloc (.cells cs 42)) (m2 : More w1 w2) (g3 : w2.grownBy w3 cv.ownBlock) {cv' : Value}
  (own : w3.ownsRow (w.heap.size + 2) 42 5 cv' (J0r p (k + 1)) (flatI (codeL p (k + 1)))) : H1 w p rv c0 (k + 1) cv' w3 := by
 have hb : ∀ b, cv.ownBlock = some b -> w.heap.size + 2 <= b := fun b hb => (h.own.lt b hb).1
 have g1 : wr.grownBy w1 (some (w.heap.size + 1)) := by rw [e1]; exact J61 (J1q (J1l _ _) _ _) _
 have g2 : wr.grownBy w2 (some (w.heap.size + 1)) := Jav g1 m2;have n3 : ∀ b, b < w.heap.size + 2 -> some b ≠ cv.ownBlock := fun b hlt e => by have := hb b e.symm; omega
 have r1 : ∀ j, j < p.cl -> ∃ v, Wr w1 (w.heap.size + 1) j v := fun j hj => by
  obtain ⟨v, hv⟩ := h.room j hj;rw [e1];by_cases q : k = j
  ·subst q; exact ⟨_, (hv.same _).kept (World.grownBy_alloc _ _ none) (by simp)⟩
  ·exact ⟨v, (hv.other _ _ _ (.inr q)).kept (World.grownBy_alloc _ _ none) (by simp)⟩
 have d1 : ∀ j, j < k + 1 -> w1.cell? ⟨w.heap.size + 1, j, none⟩ = some (V (J0r p j : Nat)) := fun j hj => by
  obtain ⟨v, hv⟩ := h.room j (by omega);rw [e1];refine ((More.refl _).alloc _ _).cell ?_;by_cases q : k = j
  ·subst q; exact (hv.same _).1
  ·rw [World.cell?_setCell_other _ _ _ _ (by intro e; simp only [Addr.mk.injEq] at e; omega)]
   exact h.done j (by omega)
 refine ⟨?_, own, fun j hj => ?_, fun j hj => ?_, ?_⟩
 ·have h2 : Blk w2 w.heap.size #[rv, c0] 25 := (g2.block _ h.box.lt (by simp)).trans h.box
  exact (g3.block _ h2.lt (n3 _ (by omega))).trans h2
 ·obtain ⟨v, hv⟩ := r1 j hj
  exact ⟨v, (hv.kept (m2.grow none) (by simp)).kept g3 (n3 _ (by omega))⟩
 ·exact g3.cell (m2.cell (d1 j hj)) (n3 _ (by show w.heap.size + 1 < _; omega))
 ·have m1 : More w w1 := by rw [e1]; exact (h.more.setCell (by simp) _).alloc _ _
  exact (m1.trans m2).grownBy g3 (fun b e => by have := hb b e; omega)

structure InsWr (w : World) (g j : Nat) (i : Ins) : Prop where
 op : Wr w g (j * 5) (V i.op)
 a : Wr w g (j * 5 + 1) (V i.a)
 b : Wr w g (j * 5 + 2) (V i.b)
 c : Wr w g (j * 5 + 3) (V i.c)
 n : Wr w g (j * 5 + 4) (V i.n)
theorem InsWr.more {w w' : World} {g j : Nat} {i : Ins} (m : More w w') (h : InsWr w g j i) : InsWr w' g j i :=
 ⟨h.op.kept (m.grow none) (by simp), h.a.kept (m.grow none) (by simp), h.b.kept (m.grow none) (by simp), h.c.kept (m.grow none) (by simp), h.n.kept (m.grow none) (by simp)⟩
theorem Jau {L : List Ins} {j : Nat} (hj : j < L.length) (d : Ins) : L[j]? = some (L.getD j d) := by
 rw [List.getD_eq_getElem?_getD];rw [List.getElem?_eq_getElem hj]
 rfl
section
variable {M : Nat -> List Ins} {cl : Nat}
def mixG (M : Nat -> List Ins) (cl q j : Nat) : Ins := if j < q then hardG M cl j else (codeG M cl).getD j ⟨0, 0, 0, 0, 0⟩
structure H2 (M : Nat -> List Ins) (cl : Nat) (w : World) (bs : List (Nat × Array Value × TypeId)) (sb gc q : Nat) (wr : World) : Prop where
 code : ∀ j, j < J1f M cl -> InsWr wr gc j (mixG M cl q j)
 starts : ∀ j, j < cl -> wr.cell? ⟨sb, j, none⟩ = some (V (J1f M j : Nat))
 box : ∀ x ∈ bs, Blk wr x.1 x.2.1 x.2.2 /\ x.1 < gc
 ne : sb < gc
 lo : w.heap.size <= gc
 hi : gc < wr.heap.size
 more : More w wr
variable {w : World} {bs : List (Nat × Array Value × TypeId)} {sb gc q : Nat} {wr w' : World}
theorem H2.start {lo cap : Nat} (own : wr.ownsRow lo 42 5 (.slice (some ⟨gc, 0, none⟩) (J1f M cl) cap) (J1f M cl) (flatI (codeG M cl)))
  (starts : ∀ j, j < cl -> wr.cell? ⟨sb, j, none⟩ = some (V (J1f M j : Nat))) (box : ∀ x ∈ bs, Blk wr x.1 x.2.1 x.2.2 /\ x.1 < lo) (hl : sb < lo /\ w.heap.size <= lo) (m : More w wr) : H2 M cl w bs sb gc 0 wr := by
 have hg := own.lt gc rfl;refine ⟨fun j hj => ?_, starts, fun x hx => ⟨(box x hx).1, by have := (box x hx).2; omega⟩, by omega, by omega, hg.2, m⟩;have e := Jce (codeG M cl) j _ (Jau hj ⟨0, 0, 0, 0, 0⟩);have fz : ∀ o, wr.frozen? ⟨gc, o, none⟩ = false := fun o => World.ownsRow.frozenAt own o
 have c : ∀ o v, (flatI (codeG M cl))[o]? = some v -> o < J1f M cl * 5 -> Wr wr gc o v := fun o v hv ho => ⟨by rw [World.ownsRow.cellAt own _ ho]; exact hv, fz _⟩
 exact ⟨c _ _ e.1 (by omega), c _ _ e.2.1 (by omega), c _ _ e.2.2.1 (by omega), c _ _ e.2.2.2.1 (by omega), c _ _ e.2.2.2.2 (by omega)⟩
theorem J6u : mixG M cl q q = (codeG M cl).getD q ⟨0, 0, 0, 0, 0⟩ := by unfold mixG; rw [if_neg (Nat.lt_irrefl _)]
theorem J9v {j : Nat} (h : j ≠ q) : mixG M cl (q + 1) j = mixG M cl q j := by
 unfold mixG;by_cases e : j < q
 ·rw [if_pos e, if_pos (by omega)]
 ·rw [if_neg e, if_neg (by omega)]
theorem J9u : mixG M cl (q + 1) q = leadG M (mixG M cl q q) := by
 rw [J6u]; unfold mixG hardG; rw [if_pos (by omega)]

theorem H2.far (h : H2 M cl w bs sb gc q wr) (m : More wr w') : H2 M cl w bs sb gc q w' :=
 ⟨fun j hj => (h.code j hj).more m, fun j hj => m.cell (h.starts j hj), fun x hx => ⟨(h.box x hx).1.more m, (h.box x hx).2⟩, h.ne, h.lo, Nat.lt_of_lt_of_le h.hi m.size, h.more.trans m⟩
theorem H2.pass (h : H2 M cl w bs sb gc q wr) (m : More wr w') (h7 : ¬ ((mixG M cl q q).op = 7 \/ (mixG M cl q q).op = 8)) : H2 M cl w bs sb gc (q + 1) w' := by
 have k := h.far m;refine ⟨fun j hj => ?_, k.starts, k.box, k.ne, k.lo, k.hi, k.more⟩;by_cases e : j = q
 ·subst e
  rw [J9u, J22 _ h7];exact k.code j hj
 ·rw [J9v e]
  exact k.code j hj
theorem H2.lead (h : H2 M cl w bs sb gc q wr) (h7 : (mixG M cl q q).op = 7 \/ (mixG M cl q q).op = 8) : H2 M cl w bs sb gc (q + 1) (wr.setCell ⟨gc, q * 5 + 4, none⟩ (V (J1f M (mixG M cl q q).n.toNat : Nat))) := by
 have hlo := h.lo;have hne := h.ne;refine ⟨fun j hj => ?_, fun j hj => ?_, fun x hx => ⟨(h.box x hx).1.other (by have := (h.box x hx).2; omega) _ _, (h.box x hx).2⟩, h.ne, h.lo, ?_, ?_⟩
 ·have hc := h.code j hj
  by_cases e : j = q
  ·subst e
   rw [J9u];unfold leadG;rw [if_pos h7];exact ⟨hc.op.other _ _ _ (.inr (by omega)), hc.a.other _ _ _ (.inr (by omega)), hc.b.other _ _ _ (.inr (by omega)), hc.c.other _ _ _ (.inr (by omega)), hc.n.same _⟩
  ·rw [J9v e]
   exact ⟨hc.op.other _ _ _ (.inr (by omega)), hc.a.other _ _ _ (.inr (by omega)), hc.b.other _ _ _ (.inr (by omega)), hc.c.other _ _ _ (.inr (by omega)), hc.n.other _ _ _ (.inr (by omega))⟩
 ·rw [World.cell?_setCell_other _ _ _ _ (by intro e; simp only [Addr.mk.injEq] at e; omega)]
  exact h.starts j hj
 ·simp [World.setCell]; exact h.hi
 ·exact h.more.setCell (by show w.heap.size <= gc; omega) _
theorem H2.end_ (h : H2 M cl w bs sb gc (J1f M cl) wr) : CodeAt wr gc 0 (J1f M cl) (hardG M cl) := fun j hj => by
 have hc := h.code j hj;have e : mixG M cl (J1f M cl) j = hardG M cl j := by unfold mixG; rw [if_pos hj]
 rw [e] at hc;simp only [Nat.zero_add];exact ⟨hc.op.1, hc.a.1, hc.b.1, hc.c.1, hc.n.1⟩
end
abbrev mixL (p : Prg) (q j : Nat) : Ins := mixG (maskK p) p.cl q j
theorem H1.second {w : World} {p : Prg} {rv c0 : Value} {gc cap : Nat} {wr : World} (h : H1 w p rv c0 p.cl (.slice (some ⟨gc, 0, none⟩) (J0r p p.cl) cap) wr) : H2 (maskK p) p.cl w [] (w.heap.size + 1) gc 0 wr :=
 H2.start h.own h.done (by simp) (by omega) h.more

theorem J7k (p : Prg) (l : Loc) (w : World) (hp : PIn w p l) (hok : p.Ok 200 8) :
  Calls Tryz.prog 20 #[.agg #[.slice l.ra p.rl l.rc, .slice l.ca p.cl l.cc]] w fun e w' => ∃ gc cap, e = .returned (.slice (some ⟨gc, 0, none⟩) (J0r p p.cl) cap) /\ w.heap.size <= gc /\ CodeAt w' gc 0 (J0r p p.cl) (hardL p) /\ More w w' := by
 suffices hP : ∀ P : Ending -> World -> Prop, (∀ gc cap w', w.heap.size <= gc -> CodeAt w' gc 0 (J0r p p.cl) (hardL p) -> More w w' -> P (.returned (.slice (some ⟨gc, 0, none⟩) (J0r p p.cl) cap)) w') -> Calls Tryz.prog 20 #[.agg #[.slice l.ra p.rl l.rc, .slice l.ca p.cl l.cc]] w P from hP _ (fun gc cap w' h a b => ⟨gc, cap, rfl, h, a, b⟩)
 intro P hP0;have HP : Hid (∀ gc cap w', w.heap.size <= gc -> CodeAt w' gc 0 (J0r p p.cl) (hardL p) -> More w w' -> P (.returned (.slice (some ⟨gc, 0, none⟩) (J0r p p.cl) cap)) w') := hP0;have Hp : Hid (PIn w p l /\ p.Ok 200 8) := ⟨hp, hok⟩;have hcl0 := hok.2.1;have hcl1 := hok.2.2.1;have hca := hp.hc (by omega);obtain ⟨i0, hi, hz0, hz1, hz2⟩ := info_parts Jeu;have Hi : Hid (Tryz.prog.info? 42 = some i0 /\ i0.zero = some (.agg #[V 0, V 0, V 0, V 0, V 0]) /\ i0.size = 5 /\ i0.bytes = 40) := ⟨hi, hz0, hz1, hz2⟩;obtain ⟨ra, Hra⟩ : ∃ x, Hid (l.ra = x) := ⟨_, rfl⟩;obtain ⟨rl, Hrl⟩ : ∃ x, Hid (p.rl = x) := ⟨_, rfl⟩;obtain ⟨rc, Hrc⟩ : ∃ x, Hid (l.rc = x) := ⟨_, rfl⟩;obtain ⟨cb, Hcb⟩ : ∃ x, Hid (l.cb = x) := ⟨_, rfl⟩;obtain ⟨co, Hco⟩ : ∃ x, Hid (l.co = x) := ⟨_, rfl⟩;obtain ⟨cc, Hcc⟩ : ∃ x, Hid (l.cc = x) := ⟨_, rfl⟩;obtain ⟨cl, Hcl⟩ : ∃ x, Hid (p.cl = x) := ⟨_, rfl⟩;rw [hca, Hra.out, Hrl.out, Hrc.out, Hcb.out, Hco.out, Hcc.out, Hcl.out];rw [Hcl.out] at hcl0 hcl1
 have HC : Hid (∀ w1 : World, More w w1 -> CodeAt w1 cb co cl p.ins) := fun w1 m1 => by
  have := hp.code.more m1;rw [Hcb.out, Hco.out, Hcl.out] at this;exact this
 have HM : Hid (∀ k, k < cl -> ∀ w1 : World, More w w1 -> Calls Tryz.prog 35 #[.agg #[V (p.ins k).op, V (p.ins k).a, V (p.ins k).b, V (p.ins k).c, V (p.ins k).n], .slice ra rl rc] w1 fun e w' => ∃ g, e = .returned (.slice (some ⟨g, 0, none⟩) (maskL p (p.ins k)).length (maskL p (p.ins k)).length) /\ NewsAt w' g (maskL p (p.ins k)) /\ More w1 w') := fun k hk w1 m1 => by
  have hI := hok.2.2.2 k (by rw [Hcl.out]; exact hk)
  have := J9r p (p.ins k) l.ra l.rc l.rb l.ro w1 hp.hr (hp.regs.more m1) hok.1 (fun h => by
   unfold InsOk at hI;rcases h with h | h
   ·simp [h] at hI; exact hI.2.2
   ·simp [h] at hI; exact hI.2.2)
  rw [Hra.out, Hrl.out, Hrc.out] at this;exact this
 have Hst : Hid (∀ k, k <= cl -> J0r p k <= 600) := fun k hk => by have := J7d p k; omega
 have HS0 : Hid (H1 w p (.slice ra rl rc) (.slice (some ⟨cb, co, none⟩) cl cc) 0 (.slice none 0 0) ((w.alloc (.cells #[.slice ra rl rc, .slice (some ⟨cb, co, none⟩) cl cc] 25)).alloc (.cells (madeCells #[V 0] cl) 2))) := by
  have := H1.start w p (.slice ra rl rc) (.slice (some ⟨cb, co, none⟩) cl cc);rw [Hcl.out] at this;exact this
 have hmk := run_make_row' (P := Tryz.prog) 43 2 (V 0) 8 Tryz.underlying43 info2 rfl .i64 .i64 cl (by omega) (by omega);clear hP0 hp hok hi hz0 hz1 hz2 hca;go_enter Tryz.func20, Tryz.ntmps20;go_wp2_with (fail)
 clear hmk;go_loopg [16, 3] cl (fun g iv cv wr => ∃ (k : Nat) (va : Option Addr) (vc : Nat), k + g = cl /\ iv = V k /\ cv = .slice va (J0r p k) vc /\ Hid (H1 w p (.slice ra rl rc) (.slice (some ⟨cb, co, none⟩) cl cc) k (.slice va (J0r p k) vc) wr))
 case atStart => exact ⟨0, none, 0, by omega, rfl, rfl, HS0.out⟩
 case round =>
  obtain ⟨k, va, vc, hkg, rfl, rfl, Hr⟩ := hrel;clear HS0;cases gk with
  | zero =>
   obtain rfl : k = cl := by omega
   have hn0 : 1 <= J0r p k := by
    obtain ⟨j, rfl⟩ : ∃ j, k = j + 1 := ⟨k - 1, by omega⟩;rw [J3m];have := (J0z p j).1;omega
   have hn1 := Hst.out k (Nat.le_refl _);obtain ⟨gc, cap, hv, _, _⟩ := Hr.out.own.form (by omega);cases hv
   have H20 : Hid (H2 (maskK p) p.cl w [] (w.heap.size + 1) gc 0 wr) := by
    have h1 := Hr.out;rw [<- Hcl.out] at h1;exact h1.second
   have Hpl : Hid (∀ q, q < J0r p k -> (mixL p q q).op = 7 \/ (mixL p q q).op = 8 -> 0 <= (mixL p q q).n /\ (mixL p q q).n < k) := fun q hq h => by
    simp only [mixL, J6u] at h |-;have := J6e Hp.out.2 p.cl (Nat.le_refl _) _ (List.mem_of_getElem? (Jau (L := codeL p p.cl) (j := q) (by rw [Hcl.out]; exact hq) ⟨0, 0, 0, 0, 0⟩)) h;rw [Hcl.out] at this |-;exact this
   have Hend : Hid (∀ w', H2 (maskK p) p.cl w [] (w.heap.size + 1) gc (J0r p k) w' -> P (.returned (.slice (some ⟨gc, 0, none⟩) (J0r p k) vc)) w') := fun w' h2 => by
    have h1 := HP.out gc vc w';rw [Hcl.out] at h1;refine h1 (by have := h2.lo; omega) ?_ h2.more;have h3 := h2;rw [<- Hcl.out] at h3;rw [<- Hcl.out];exact h3.end_
   clear HP HM HC;obtain ⟨sn, Hsn⟩ : ∃ x, Hid (J0r p k = x) := ⟨_, rfl⟩;rw [Hsn.out] at hn0 hn1 Hpl Hend Hr |-;obtain ⟨wm, rfl⟩ : ∃ wm, wm = wr := ⟨wr, rfl⟩;go_wp2_with (fail)
   go_loopg [35] sn (fun g2 iv wr2 => ∃ q : Nat, q + g2 = sn /\ iv = V q /\ Hid (H2 (maskK p) p.cl w [] (w.heap.size + 1) gc q wr2))
   case atStart => exact ⟨0, by omega, rfl, H20.out⟩
   case round =>
    obtain ⟨q, hqg, rfl, Hr2⟩ := hrel;clear H20;cases gk with
    | zero =>
     obtain rfl : q = sn := by omega
     have He : Hid (P (.returned (.slice (some ⟨gc, 0, none⟩) q vc)) wr) := Hend.out wr Hr2.out;clear Hend;go_wp2;exact He.out
    | succ g =>
     have hq : q < sn := by omega
     have hqi : (q : Int) < sn := by omega
     have hq63 : wrap64 ((q : Int) + 1) = (q : Int) + 1 := by unfold wrap64; omega
     have hI : InsWr wr gc q (mixL p q q) := Hr2.out.code q (by show q < J0r p p.cl; rw [Hcl.out, Hsn.out]; exact hq);have Hpq := Hpl.out q hq;have Hps : Hid (¬ ((mixL p q q).op = 7 \/ (mixL p q q).op = 8) -> ∀ w', More wr w' -> H2 (maskK p) p.cl w [] (w.heap.size + 1) gc (q + 1) w') := fun h w' m => Hr2.out.pass m h
     have Hld : Hid ((mixL p q q).op = 7 \/ (mixL p q q).op = 8 -> H2 (maskK p) p.cl w [] (w.heap.size + 1) gc (q + 1) (wr.setCell ⟨gc, q * 5 + 4, none⟩ (V (J0r p (mixL p q q).n.toNat : Nat)))) := fun h => Hr2.out.lead h
     obtain ⟨⟨op, a, b, c, n⟩, HI⟩ : ∃ x, Hid (mixL p q q = x) := ⟨_, rfl⟩;rw [HI.out] at hI Hpq Hps Hld;obtain ⟨⟨c0, _⟩, ⟨c1, _⟩, ⟨c2, _⟩, ⟨c3, _⟩, ⟨c4, f4⟩⟩ := hI;dsimp only at c0 c1 c2 c3 c4 Hpq Hps Hld;have zg := Hr2.out.hi;by_cases h78 : op = 7 \/ op = 8
     ·have hpq := Hpq h78
      obtain ⟨n0, n1⟩ := hpq;obtain ⟨nn, rfl⟩ := Int.eq_ofNat_of_zero_le n0;have hnk : (nn : Int) < (k : Int) := n1;have hsN : wr.cell? ⟨w.heap.size + 1, nn, none⟩ = some (V (J0r p nn : Nat)) := Hr2.out.starts nn (by rw [Hcl.out]; omega);have zs := J06 hsN;dsimp only at zs;have Hn2 : Hid (∀ w', More (wr.setCell ⟨gc, q * 5 + 4, none⟩ (V (J0r p nn : Nat))) w' -> H2 (maskK p) p.cl w [] (w.heap.size + 1) gc (q + 1) w') := fun w' m' => (Hld.out h78).far m'
      obtain ⟨sN, HsN⟩ : ∃ x, Hid (J0r p nn = x) := ⟨_, rfl⟩;rw [HsN.out] at hsN Hn2;have ne1 : ¬ wr.heap.size = gc := by omega
      have ne2 : ¬ gc = wr.heap.size := by omega
      clear Hps Hld Hpq n0 n1;rcases h78 with rfl | rfl
      all_goals
       go_wp2;go_roundg g
       case measure => omega
       case rel => exact ⟨q + 1, by omega, by first | rfl | simp, Hn2.out _ ((More.refl _).alloc _ _)⟩
     ·have e7 : (op == 7) = false := by simp; omega
      have e8 : (op == 8) = false := by simp; omega
      have Hn2 : Hid (∀ w', More wr w' -> H2 (maskK p) p.cl w [] (w.heap.size + 1) gc (q + 1) w') := Hps.out h78;clear h78 Hps Hld Hpq;go_wp2;go_roundg g
      case measure => omega
      case rel => exact ⟨q + 1, by omega, by first | rfl | simp, Hn2.out _ ((More.refl _).alloc _ _)⟩
  | succ g =>
   have hk : k < cl := by omega
   have hki : (k : Int) < cl := by omega
   have hk63 : wrap64 ((k : Int) + 1) = (k : Int) + 1 := by unfold wrap64; omega
   obtain ⟨q0, q1, q2, q3, q4⟩ := HC.out wr Hr.out.more k hk;have HM1 := HM.out k hk;have HL : Hid (codeL p (k + 1) = codeL p k ++ maskL p (p.ins k) /\ J0r p k + (maskL p (p.ins k)).length = J0r p (k + 1) /\ 1 <= (maskL p (p.ins k)).length /\ (maskL p (p.ins k)).length <= 3) := ⟨rfl, by rw [J2v, J3m], by rw [J2v]; exact (J0z p k).1, by rw [J2v]; exact (J0z p k).2⟩;obtain ⟨L, HLL⟩ : ∃ x, Hid (maskL p (p.ins k) = x) := ⟨_, rfl⟩;rw [HLL.out] at HM1 HL;obtain ⟨m, Hlen⟩ : ∃ x, Hid (L.length = x) := ⟨_, rfl⟩;rw [Hlen.out] at HM1 HL;have hst0 := Hst.out k (by omega);obtain ⟨st, Hstk⟩ : ∃ x, Hid (J0r p k = x) := ⟨_, rfl⟩;rw [Hstk.out] at HL hst0 Hr |-;obtain ⟨⟨op, a, b, c, n⟩, HI⟩ : ∃ x, Hid (p.ins k = x) := ⟨_, rfl⟩;rw [HI.out] at q0 q1 q2 q3 q4 HM1;dsimp only at q0 q1 q2 q3 q4 HM1;have HM2 : Hid (∀ w1 : World, More w w1 -> Calls Tryz.prog 35 #[.agg #[V op, V a, V b, V c, V n], .slice ra rl rc] w1 fun e w' => ∃ g, e = .returned (.slice (some ⟨g, 0, none⟩) m m) /\ NewsAt w' g L /\ More w1 w') := HM1;have b0 : wr.cell? ⟨w.heap.size, 0, none⟩ = some (.slice ra rl rc) := Hr.out.box.cell rfl;have hz0 := Hr.out.box.lt;obtain ⟨rv, hrv, hfz⟩ := Hr.out.room k (by rw [Hcl.out]; exact hk);have hz1 : w.heap.size + 1 < wr.heap.size := J06 hrv;have n1 : ¬ wr.heap.size = w.heap.size + 1 := by omega
   have n2 : ¬ w.heap.size + 1 = wr.heap.size := by omega
   obtain ⟨w1, Hw1⟩ : ∃ w_ : World, Hid (w_ = (wr.setCell ⟨w.heap.size + 1, k, none⟩ (V (st : Nat))).alloc (.cells #[V op, V a, V b, V c, V n] 42)) := ⟨_, rfl⟩;have Hm1 : Hid (More w w1) := by rw [Hw1.out]; exact (Hr.out.more.setCell (by simp) _).alloc _ _
   have Hg1 : Hid (wr.grownBy w1 (some (w.heap.size + 1))) := by rw [Hw1.out]; exact J61 (J1q (J1l _ _) _ _) _
   clear HM1;go_wp2_with (fail)
   rw [<- Hw1.out];refine (HM2.out w1 Hm1.out).mono ?_;rintro e w2 ⟨g0, rfl, hnews, m2⟩;have Hnews : Hid (NewsAt w2 g0 L) := hnews;have Hm2 : Hid (More w1 w2) := m2
   have Hown2 : Hid (w2.ownsRow (w.heap.size + 2) 42 5 (.slice va st vc) st (flatI (codeL p k))) := by
    have ho := Hr.out.own;rw [Hstk.out] at ho;refine World.ownsRow.kept ho (Jav Hg1.out m2) ?_;cases hv : (Value.slice va st vc).ownBlock with
    | none => left; rfl
    | some b =>
     right;intro e;have h1 := (World.ownsRow.lt ho b hv).1;have h2 := Option.some.inj e;omega
   have Hb2 : Hid (w.heap.size + 2 <= w2.heap.size) := by
    have h1 := m2.size;have h2 := Hg1.out.size;show _ <= _;omega
   clear hnews m2 q0 q1 q2 q3 q4 b0 hrv hfz;go_wp2_with (at_builtin; refine wpList_append_lies _ rfl (.tmp 26) (.tmp 30) 23 rfl (w.heap.size + 2) 42 i0 (.agg #[V 0, V 0, V 0, V 0, V 0]) 5 40 Tryz.underlying23 Hi.out.1 Hi.out.2.1 Hi.out.2.2.1 Hi.out.2.2.2 rfl (by decide) (.slice va st vc) st (flatI (codeL p k)) rfl Hown2.out ⟨g0, 0, none⟩ m m (flatI L) rfl (by rw [J5l, Hlen.out]) Hnews.out (J6j L) (by have := HL.out.2.2.1; omega) (by have := HL.out.2.2.2; unfold maxLen; omega) (by have := HL.out.2.2.2; omega) Hb2.out w2.heap.size rfl ?_; intro g3 cap3 w3 own3 gr3 hat3 hlt3)
   have hst3 : st + m = J0r p (k + 1) := HL.out.2.1
   have Hr3 : Hid (H1 w p (.slice ra rl rc) (.slice (some ⟨cb, co, none⟩) cl cc) (k + 1) (.slice (some ⟨g3, 0, none⟩) (J0r p (k + 1)) cap3) w3) := by
    rw [hst3, <- J3u, <- HL.out.1] at own3;have e1 := Hw1.out;rw [<- Hstk.out] at e1 gr3;have hr := Hr.out;rw [<- Hstk.out] at hr;exact hr.step (by rw [Hcl.out]; exact hk) _ e1 Hm2.out gr3 own3
   clear own3 gr3 hat3 hlt3;go_wp2;go_roundg g
   case measure => omega
   case rel => exact ⟨k + 1, _, cap3, by omega, by first | rfl | simp, by rw [<- hst3], Hr3.out⟩
theorem Jma : (Tryz.prog.info? 4).map (fun i => (i.zero, i.size, i.bytes)) = some (some (.bool false), 1, 1) := by kernel_rfl

structure G1 (w : World) (p : Prg) (k : Nat) (wr : World) : Prop where
 row : ∀ j, j < p.cl + 1 -> Wr wr w.heap.size j (.bool (ledB p k j))
 more : More w wr
theorem G1.start (w : World) (p : Prg) : G1 w p 0 (w.alloc (.cells (madeCells #[.bool false] (p.cl + 1)) 4)) := by
 have hb := Blk.last w (madeCells #[.bool false] (p.cl + 1)) 4;exact ⟨fun j hj => ⟨hb.cell (J8o _ _ _ hj), hb.frozen _⟩, (More.refl _).alloc _ _⟩
theorem G1.pass {w : World} {p : Prg} {k : Nat} {wr w' : World} (h : G1 w p k wr) (h8 : ¬ (p.ins k).op = 8) (m : More wr w') : G1 w p (k + 1) w' :=
 ⟨fun j hj => by rw [Jhu h8]; exact (h.row j hj).kept (m.grow none) (by simp), h.more.trans m⟩
theorem G1.mark {w : World} {p : Prg} {k : Nat} {wr w' : World} (h : G1 w p k wr) (hk : k < p.cl) (h8 : (p.ins k).op = 8) {nn : Nat} (hn : (p.ins k).n = nn) (m : More wr w') :
  G1 w p (k + 1) ((w'.setCell ⟨w.heap.size, k + 1, none⟩ (.bool true)).setCell ⟨w.heap.size, nn, none⟩ (.bool true)) := by
 refine ⟨fun j hj => ?_, ((h.more.trans m).setCell (Nat.le_refl _) _).setCell (Nat.le_refl _) _⟩;have h1 := (h.row j hj).kept (m.grow none) (by simp)
 have h2 : Wr (w'.setCell ⟨w.heap.size, k + 1, none⟩ (.bool true)) w.heap.size j (.bool (ledB p k j || j == k + 1)) := by
  by_cases c : j = k + 1
  ·subst c
   have := h1.same (.bool true);simpa using this
  ·have := h1.other w.heap.size (k + 1) (.bool true) (.inr (fun e => c e.symm))
   rw [show (j == k + 1) = false by simp [c], Bool.or_false];exact this
 have e : ledB p (k + 1) j = ((ledB p k j || j == k + 1) || j == nn) := by
  rw [ledB, h8, hn, Int.toNat_natCast];simp [Bool.or_assoc]
 rw [e];by_cases c : j = nn
 ·subst c
  have := h2.same (.bool true);simpa using this
 ·have := h2.other w.heap.size nn (.bool true) (.inr (fun e => c e.symm))
  rw [show (j == nn) = false by simp [c], Bool.or_false];exact this

theorem Jeq (p : Prg) (l : Loc) (w : World) (hp : PIn w p l) (ok : p.Ok 200 8) :
  Calls Tryz.prog 37 #[.slice l.ca p.cl l.cc] w fun e w' => ∃ g, e = .returned (.slice (some ⟨g, 0, none⟩) (p.cl + 1) (p.cl + 1)) /\ w.heap.size <= g /\ g < w'.heap.size /\ (∀ j, j < p.cl -> w'.cell? ⟨g, j, none⟩ = some (.bool (ledB p p.cl j))) /\ More w w' := by
 suffices hP : ∀ P : Ending -> World -> Prop, (∀ w', G1 w p p.cl w' -> P (.returned (.slice (some ⟨w.heap.size, 0, none⟩) (p.cl + 1) (p.cl + 1))) w') -> Calls Tryz.prog 37 #[.slice l.ca p.cl l.cc] w P from hP _ (fun w' h => ⟨_, rfl, Nat.le_refl _, J06 (h.row 0 (Nat.succ_pos _)).1, fun j hj => (h.row j (by omega)).1, h.more⟩)
 intro P hP0;have HP : Hid (∀ w', G1 w p p.cl w' -> P (.returned (.slice (some ⟨w.heap.size, 0, none⟩) (p.cl + 1) (p.cl + 1))) w') := hP0;have hcl0 := ok.2.1;have hcl1 := ok.2.2.1;have hca := hp.hc (by omega);obtain ⟨cb, Hcb⟩ : ∃ x, Hid (l.cb = x) := ⟨_, rfl⟩;obtain ⟨co, Hco⟩ : ∃ x, Hid (l.co = x) := ⟨_, rfl⟩;obtain ⟨cc, Hcc⟩ : ∃ x, Hid (l.cc = x) := ⟨_, rfl⟩;obtain ⟨cl, Hcl⟩ : ∃ x, Hid (p.cl = x) := ⟨_, rfl⟩;rw [hca, Hcb.out, Hco.out, Hcc.out, Hcl.out]
 have HC : Hid (∀ w1 : World, More w w1 -> CodeAt w1 cb co cl p.ins) := fun w1 m1 => by
  have := hp.code.more m1;rw [Hcb.out, Hco.out, Hcl.out] at this;exact this
 have Hpl : Hid (∀ k, k < cl -> (p.ins k).op = 8 -> 0 <= (p.ins k).n /\ (p.ins k).n < cl) := fun k hk h => by
  have hI := ok.2.2.2 k (by rw [Hcl.out]; exact hk);unfold InsOk Plc at hI;simp [h] at hI;rw [Hcl.out] at hI;omega
 have HS0 : Hid (G1 w p 0 (w.alloc (.cells (madeCells #[.bool false] (cl + 1)) 4))) := by
  have := G1.start w p;rw [Hcl.out] at this;exact this
 have Hmk : Hid (∀ k, k < cl -> (p.ins k).op = 8 -> ∀ nn : Nat, (p.ins k).n = nn -> ∀ wr w', G1 w p k wr -> More wr w' -> G1 w p (k + 1) ((w'.setCell ⟨w.heap.size, k + 1, none⟩ (.bool true)).setCell ⟨w.heap.size, nn, none⟩ (.bool true))) := fun k hk h8 nn hn wr w' h m => h.mark (by rw [Hcl.out]; exact hk) h8 hn m
 have Hrw : Hid (∀ k wr, G1 w p k wr -> ∀ j, j < cl + 1 -> ∃ v, Wr wr w.heap.size j (.bool v)) := fun k wr h j hj => ⟨_, h.row j (by rw [Hcl.out]; exact hj)⟩
 rw [Hcl.out] at hcl0 hcl1 HP;have hmk := run_make_row' (P := Tryz.prog) 86 4 (.bool false) 1 Tryz.underlying86 Jma rfl .i64 .i64 (cl + 1) (by omega) (by omega)
 push_cast at hmk
 have hw63 : wrap64 ((cl : Int) + 1) = (cl : Int) + 1 := by unfold wrap64; omega
 clear hP0 hp ok hca;go_enter Tryz.func37, Tryz.ntmps37;go_wp2_with (fail)
 clear hmk hw63;go_loopg [12] cl (fun g iv wr => ∃ k : Nat, k + g = cl /\ iv = V k /\ Hid (G1 w p k wr))
 case atStart => exact ⟨0, by omega, rfl, HS0.out⟩
 case round =>
  obtain ⟨k, hkg, rfl, Hr⟩ := hrel;clear HS0;cases gk with
  | zero =>
   obtain rfl : k = cl := by omega
   have He : Hid (P (.returned (.slice (some ⟨w.heap.size, 0, none⟩) (k + 1) (k + 1))) wr) := HP.out wr Hr.out;clear HP HC Hpl Hmk Hrw;go_wp2;exact He.out
  | succ g =>
   have hk : k < cl := by omega
   have hki : (k : Int) < cl := by omega
   have hk63 : wrap64 ((k : Int) + 1) = (k : Int) + 1 := by unfold wrap64; omega
   obtain ⟨q0, q1, q2, q3, q4⟩ := HC.out wr Hr.out.more k hk;have Hpk := Hpl.out k hk;have Hmk1 := Hmk.out k hk;have Hps : Hid (¬ (p.ins k).op = 8 -> ∀ w', More wr w' -> G1 w p (k + 1) w') := fun h w' m => Hr.out.pass h m
   have hzw : w.heap.size < wr.heap.size := by obtain ⟨v, hv⟩ := Hrw.out k wr Hr.out 0 (by omega); exact J06 hv.1
   obtain ⟨⟨op, a, b, c, n⟩, HI⟩ : ∃ x, Hid (p.ins k = x) := ⟨_, rfl⟩;rw [HI.out] at q0 q1 q2 q3 q4 Hpk Hmk1 Hps;dsimp only at q0 q1 q2 q3 q4 Hpk Hmk1 Hps;by_cases h8 : op = 8
   ·subst h8
    obtain ⟨n0, n1⟩ := Hpk rfl;obtain ⟨nn, rfl⟩ := Int.eq_ofNat_of_zero_le n0;have hnn : nn < cl + 1 := by omega
    have hni : (nn : Int) < (cl : Int) + 1 := by omega
    have hki1 : (k : Int) + 1 < (cl : Int) + 1 := by omega
    have hki0 : 0 <= (k : Int) + 1 := by omega
    have hv1 : IntKind.i64.wrap ((k : Int) + 1) = (k : Int) + 1 := by rw [IntKind.wrap_i64]; omega
    have ht1 : ((k : Int) + 1).toNat = k + 1 := by omega
    obtain ⟨W, HW⟩ : ∃ w_ : World, Hid (w_ = wr.alloc (.cells #[V 8, V a, V b, V c, V nn] 42)) := ⟨_, rfl⟩;have HmW : Hid (More wr W) := HW.out ▸ (More.refl _).alloc _ _;have c44 := (HW.out ▸ Blk.last _ _ _ : Blk W wr.heap.size #[V 8, V a, V b, V c, V nn] 42).cell (j := 4) rfl;obtain ⟨wd, Hwd⟩ : ∃ w_ : World, Hid (w_ = W.drew) := ⟨_, rfl⟩;have Hmd : Hid (More W wd) := Hwd.out ▸ (More.refl W).drew;obtain ⟨S, HS⟩ : ∃ S : World -> Prop, Hid (∀ w', S w' ↔ w'.cell? ⟨wr.heap.size, 4, none⟩ = some (V nn)) := ⟨_, fun _ => Iff.rfl⟩;have HS1 : S wd := (HS.out _).2 (Hmd.out.cell c44);have HS0 : S W.drew := Hwd.out ▸ HS1;have k1 : ∀ i : { w' // S w' }, i.val.cell? ⟨wr.heap.size, 4, none⟩ = some (V nn) := fun i => (HS.out _).1 i.property
    have hne : Nonempty { w' // S w' } := ⟨⟨_, HS0⟩⟩;obtain ⟨v1, r1⟩ := Hrw.out k wr Hr.out (k + 1) (by omega);have r1' := r1.kept ((HmW.out.trans Hmd.out).grow none) (by simp);have x1 := r1'.1;have y1 := r1'.2;obtain ⟨v2, r2⟩ := Hrw.out k wr Hr.out nn hnn;have r2' := r2.kept ((HmW.out.trans Hmd.out).grow none) (by simp);obtain ⟨w3, Hw3⟩ : ∃ w_ : World, Hid (w_ = wd.setCell ⟨w.heap.size, k + 1, none⟩ (.bool true)) := ⟨_, rfl⟩
    have r3 : ∃ v, Wr w3 w.heap.size nn (.bool v) := by
     rw [Hw3.out];by_cases e : k + 1 = nn
     ·rw [<- e]; exact ⟨_, r1'.same _⟩
     ·exact ⟨_, r2'.other _ _ _ (.inr e)⟩
    obtain ⟨v3, x3, y3⟩ := r3
    have HSa : Hid (S w3) := (HS.out _).2 (by
     rw [Hw3.out, World.cell?_setCell_other _ _ _ _ (by intro e; simp only [Addr.mk.injEq] at e; omega)]; exact (HS.out _).1 HS1)
    have HSz : Hid (S (w3.setCell ⟨w.heap.size, nn, none⟩ (.bool true))) := (HS.out _).2 (by
     rw [World.cell?_setCell_other _ _ _ _ (by intro e; simp only [Addr.mk.injEq] at e; omega)]; exact (HS.out _).1 HSa.out)
    have Hn2 : Hid (G1 w p (k + 1) (w3.setCell ⟨w.heap.size, nn, none⟩ (.bool true))) := by
     rw [Hw3.out]; exact Hmk1 rfl nn rfl wr wd Hr.out (HmW.out.trans Hmd.out)
    have ne1 : ¬ wr.heap.size = w.heap.size := by omega
    have ne2 : ¬ w.heap.size = wr.heap.size := by omega
    clear HS1 HP HC Hpl Hmk Hrw Hmk1 Hps Hpk r1 r1' r2 r2' n0 n1 hcl0 hcl1 hnn c44;go_wp2_with (fail)
    rw [<- HW.out];refine J03 (S := S) [(0, true), (1, true), (2, true), (3, true), (4, true), (5, true), (6, true), (7, false), (8, true), (9, false)] (by kernel_rfl) (by kernel_rfl) (by kernel_rfl) HS0 ?_;rw [<- Hwd.out]
    iterate 7 (refine J00 rfl (by kernel_rfl) (fun K hK => ?_); go_simp; refine hK _ _ ?_; clear hK K)
    refine J02 rfl (by kernel_rfl) (fun K hK => ?_)
    go_simp
    rw [<- Hw3.out];refine hK _ _ HSa.out ?_;clear hK K;refine J00 rfl (by kernel_rfl) (fun K hK => ?_); go_simp; refine hK _ _ ?_; clear hK K;refine J02 rfl (by kernel_rfl) (fun K hK => ?_)
    go_simp
    refine hK _ _ HSz.out ?_;refine J04 ?_;clear hK K k1 hne HS0;go_wp2;go_roundg g
    case measure => omega
    case rel => exact ⟨k + 1, by omega, by first | rfl | simp, Hn2.out⟩
   ·have e8 : (op == 8) = false := by simp; omega
    have Hn2 : Hid (∀ w', More wr w' -> G1 w p (k + 1) w') := Hps.out h8;clear h8 Hps Hmk1 Hpk HP HC Hpl Hmk Hrw;go_wp2;go_roundg g
    case measure => omega
    case rel => exact ⟨k + 1, by omega, by first | rfl | simp, Hn2.out _ ((More.refl _).alloc _ _)⟩

structure Kc (Lb : Nat) (ob ob' : Option Nat) (w w' : World) : Prop where
 os : w'.os = w.os
 tape : w'.tape = w.tape
 output : w'.output = w.output
 size : w.heap.size <= w'.heap.size
 block : ∀ b, b < w.heap.size -> b ≠ Lb -> some b ≠ ob -> w'.heap[b]? = w.heap[b]?
 own : ob' = ob \/ ∃ b, ob' = some b /\ w.heap.size <= b
theorem Kc.trans {Lb : Nat} {o1 o2 o3 : Option Nat} {a b c : World} (h : Kc Lb o1 o2 a b) (k : Kc Lb o2 o3 b c) : Kc Lb o1 o3 a c := by
 refine ⟨k.os.trans h.os, k.tape.trans h.tape, k.output.trans h.output, Nat.le_trans h.size k.size, fun x hx h1 h2 => (k.block x (Nat.lt_of_lt_of_le hx h.size) h1 ?_).trans (h.block x hx h1 h2), ?_⟩
 ·rcases h.own with e | ⟨y, e, hy⟩
  ·rw [e]; exact h2
  ·rw [e]; intro q; cases q; omega
 ·rcases k.own with e | ⟨y, e, hy⟩
  ·rw [e]; exact h.own
  ·exact .inr ⟨y, e, Nat.le_trans h.size hy⟩
theorem Kc.blk {Lb : Nat} {ob ob' : Option Nat} {w w' : World} (h : Kc Lb ob ob' w w') {b : Nat} {cs : Array Value} {T : TypeId} (k : Blk w b cs T) (h1 : b ≠ Lb) (h2 : some b ≠ ob) : Blk w' b cs T := (h.block b k.lt h1 h2).trans k
theorem Kc.more {Lb : Nat} {ob ob' : Option Nat} {w0 w w' : World} (h : Kc Lb ob ob' w w') (m : More w0 w) (h1 : w0.heap.size <= Lb) (h2 : ∀ b, ob = some b -> w0.heap.size <= b) : More w0 w' :=
 ⟨h.os.trans m.os, h.tape.trans m.tape, h.output.trans m.output, Nat.le_trans m.size h.size, fun b hb => (h.block b (Nat.lt_of_lt_of_le hb m.size) (by omega) (fun e => by have := h2 b e.symm; omega)).trans (m.block b hb)⟩

def Lc (w : World) (Lb : Nat) (lo : Nat) (L : List Ins) (ob : Option Nat) : Prop :=
 Lb < lo /\ ∃ va vc, Blk w Lb #[.slice va L.length vc] 23 /\ w.ownsRow lo 42 5 (.slice va L.length vc) L.length (flatI L) /\ (Value.slice va L.length vc).ownBlock = ob
theorem Lc.lo {w : World} {Lb : Nat} {lo : Nat} {L : List Ins} {ob : Option Nat} (h : Lc w Lb lo L ob) : ∀ b, ob = some b -> lo <= b /\ b < w.heap.size := by
 obtain ⟨_, va, vc, _, h2, rfl⟩ := h;exact fun b hb => h2.lt b hb
def Lm (Lb : Nat) (lo : Nat) (L X : List Ins) (ob : Option Nat) (w w' : World) : Prop := ∃ ob', Lc w' Lb lo (L ++ X) ob' /\ Kc Lb ob ob' w w'

theorem Jd3 (Lb : Nat) (lo : Nat) (L : List Ins) (op a b c n : Int) (ob : Option Nat) (w : World) (h : Lc w Lb lo L ob) (hlo : lo <= w.heap.size) (hL : L.length <= 9000) :
  Calls Tryz.prog 36 #[.agg #[V op, V a, V b, V c, V n], .pointer (some ⟨Lb, 0, none⟩)] w fun e w' => e = .returned (.tuple #[]) /\ Lm Lb lo L [⟨op, a, b, c, n⟩] ob w w' := by
 obtain ⟨hlt, va, vc, hB, hO, hob⟩ := h;obtain ⟨i0, hi, hz0, hz1, hz2⟩ := info_parts Jeu;have Hi : Hid (Tryz.prog.info? 42 = some i0 /\ i0.zero = some (.agg #[V 0, V 0, V 0, V 0, V 0]) /\ i0.size = 5 /\ i0.bytes = 40) := ⟨hi, hz0, hz1, hz2⟩;obtain ⟨m, Hm⟩ : ∃ x, Hid (L.length = x) := ⟨_, rfl⟩;have hLb := hB.lt;have hc : w.cell? ⟨Lb, 0, none⟩ = some (.slice va L.length vc) := hB.cell rfl;rw [Hm.out] at hO hc hob hB hL;obtain ⟨W, HW⟩ : ∃ w_ : World, Hid (w_ = (w.alloc (.cells #[V op, V a, V b, V c, V n] 42)).alloc (.cells #[V op, V a, V b, V c, V n] 42)) := ⟨_, rfl⟩;have HmW : Hid (More w W) := HW.out ▸ ((More.refl _).alloc _ _).alloc _ _
 have HX : Hid (NewsAt W (w.heap.size + 1) [⟨op, a, b, c, n⟩]) := by
  have : Blk W (w.heap.size + 1) #[V op, V a, V b, V c, V n] 42 := by
   rw [HW.out];simpa using Blk.last (w.alloc (.cells #[V op, V a, V b, V c, V n] 42)) #[V op, V a, V b, V c, V n] 42
  exact NewsAt.of this rfl
 have HB : Hid (Blk W Lb #[.slice va m vc] 23) := hB.more HmW.out;have HO : Hid (W.ownsRow lo 42 5 (.slice va m vc) m (flatI L)) := World.ownsRow.kept hO (HmW.out.grow none) (by cases (Value.slice va m vc).ownBlock <;> simp);have Hob : Hid ((Value.slice va m vc).ownBlock = ob) := hob;have Hne : Hid (∀ b, (Value.slice va m vc).ownBlock = some b -> lo <= b) := fun b hb => (hO.lt b hb).1
 have HloW : Hid (lo <= W.heap.size) := Nat.le_trans hlo HmW.out.size;clear hi hz0 hz1 hz2 hB hO hob;go_enter Tryz.func36, Tryz.ntmps36;go_wp2_with (at_builtin; rw [<- HW.out]; refine wpList_append_lies _ rfl (.tmp 3) (.tmp 5) 23 rfl lo 42 i0 (.agg #[V 0, V 0, V 0, V 0, V 0]) 5 40 Tryz.underlying23 Hi.out.1 Hi.out.2.1 Hi.out.2.2.1 Hi.out.2.2.2 rfl (by decide) (.slice va m vc) m (flatI L) rfl HO.out ⟨w.heap.size + 1, 0, none⟩ 1 1 (flatI [⟨op, a, b, c, n⟩]) rfl rfl HX.out (J6j _) (by omega) (by unfold maxLen; omega) (by omega) HloW.out W.heap.size rfl ?_; intro g3 cap3 w3 own3 gr3 hat3 hlt3; have HB3 : Hid (Blk w3 Lb #[.slice va m vc] 23) := (gr3.block _ HB.out.lt (fun e => by have := Hne.out _ e.symm; omega)).trans HB.out; have c3 : w3.cell? ⟨Lb, 0, none⟩ = some (.slice va m vc) := HB3.out.cell rfl; have f3 := HB3.out.frozen 0)
 go_end0;have hg := (own3.lt g3 rfl).1;have hl : (L ++ [(⟨op, a, b, c, n⟩ : Ins)]).length = m + 1 := by rw [List.length_append, Hm.out]; rfl
 refine ⟨rfl, some g3, ⟨hlt, some ⟨g3, 0, none⟩, cap3, ?_, ?_, ?_⟩, gr3.os.trans HmW.out.os, gr3.tape.trans HmW.out.tape, gr3.output.trans HmW.out.output, ?_, fun b hb h1 h2 => ?_, ?_⟩
 ·have := HB3.out.put 0 (.slice (some ⟨g3, 0, none⟩) (m + 1) cap3)
  rw [hl];simpa using this
 ·rw [hl, J3u]
  exact World.ownsRow.kept own3 (J1d _ _ _ _) (.inr (by simp [Value.ownBlock]; omega))
 ·rfl
 ·have := gr3.size
  have := HmW.out.size;simp [World.setCell];omega
 ·have h3 : (w3.setCell ⟨Lb, 0, none⟩ (.slice (some ⟨g3, 0, none⟩) (m + 1) cap3)).heap[b]? = w3.heap[b]? := by
   simp [World.setCell, Array.getElem?_modify, h1.symm]
  rw [h3, gr3.block b (Nat.lt_of_lt_of_le hb HmW.out.size) (by rw [Hob.out]; exact h2)];exact HmW.out.block b hb
 ·rcases hat3 with e | e
  ·left; rw [<- Hob.out, e]
  ·have := HmW.out.size
   exact .inr ⟨g3, rfl, by omega⟩
structure C1 (w : World) (p : Prg) (gb sb k : Nat) (ob : Option Nat) (wr : World) : Prop where
 ld : Lc wr w.heap.size (sb + 1) (codeG (fencK p) k) ob
 led : ∀ j, j < p.cl -> wr.cell? ⟨gb, j, none⟩ = some (.bool (ledB p p.cl j))
 room : ∀ j, j < p.cl -> ∃ v, Wr wr sb j v
 done : ∀ j, j < k -> wr.cell? ⟨sb, j, none⟩ = some (V (J10 p j : Nat))
 more : More w wr

theorem C1.start {w w2 : World} {p : Prg} {gb : Nat} (m : More (w.alloc (.cells #[.slice none 0 0] 23)) w2) (hl : ∀ j, j < p.cl -> w2.cell? ⟨gb, j, none⟩ = some (.bool (ledB p p.cl j))) :
  C1 w p gb w2.heap.size 0 none (w2.alloc (.cells (madeCells #[V 0] p.cl) 2)) := by
 have hb := Blk.last w2 (madeCells #[V 0] p.cl) 2;have m2 := (More.refl w2).alloc (madeCells #[V 0] p.cl) 2;have hB := (Blk.last w #[.slice none 0 0] 23).more (m.trans m2);have hz := ((Blk.last w #[.slice none 0 0] 23).more m).lt;exact ⟨⟨by omega, none, 0, hB, World.ownsRow_nil _ _ _ _, rfl⟩, fun j hj => m2.cell (hl j hj), fun j hj => ⟨_, hb.cell (J8o _ _ _ hj), hb.frozen _⟩, fun j hj => absurd hj (Nat.not_lt_zero _), ((More.refl _).alloc _ _).trans (m.trans m2)⟩

theorem C1.mid {w : World} {p : Prg} {gb sb k : Nat} {ob : Option Nat} {wr w1 : World} (h : C1 w p gb sb k ob wr) (hs : w.heap.size < sb) {v : Value}
  (m1 : More (wr.setCell ⟨sb, k, none⟩ v) w1) : Lc w1 w.heap.size (sb + 1) (codeG (fencK p) k) ob := by
 have g1 : wr.grownBy w1 (some sb) := Jav (J1q (J1l _ _) _ _) m1;obtain ⟨q0, va, vc, q1, q2, q3⟩ := h.ld;refine ⟨q0, va, vc, (g1.block _ q1.lt (by simp; omega)).trans q1, World.ownsRow.kept q2 g1 ?_, q3⟩;cases hv : (Value.slice va (codeG (fencK p) k).length vc).ownBlock with
 | none => left; rfl
 | some b => right; intro e; have h1 := (q2.lt b hv).1; have := Option.some.inj e; omega
theorem C1.step {w : World} {p : Prg} {gb sb k : Nat} {ob : Option Nat} {wr w1 w2 : World} (h : C1 w p gb sb k ob wr) (hs : w.heap.size < sb) (hg : w.heap.size < gb /\ gb < sb) (hk : k < p.cl)
  (m1 : More (wr.setCell ⟨sb, k, none⟩ (V (J10 p k : Nat))) w1) (hl : Lm w.heap.size (sb + 1) (codeG (fencK p) k) (fencK p k) ob w1 w2) : ∃ ob', C1 w p gb sb (k + 1) ob' w2 := by
 have hb := h.ld.lo;obtain ⟨ob', h1, k2⟩ := hl;have nb : ∀ b, b < sb + 1 -> some b ≠ ob := fun b hb2 e => by have := (hb b e.symm).1; omega
 have r1 : ∀ j, j < p.cl -> ∃ v, Wr w1 sb j v := fun j hj => by
  obtain ⟨v, hv⟩ := h.room j hj;by_cases c : k = j
  ·subst c; exact ⟨_, (hv.same _).kept (m1.grow none) (by simp)⟩
  ·exact ⟨v, (hv.other _ _ _ (.inr c)).kept (m1.grow none) (by simp)⟩
 have d1 : ∀ j, j < k + 1 -> w1.cell? ⟨sb, j, none⟩ = some (V (J10 p j : Nat)) := fun j hj => by
  obtain ⟨v, hv⟩ := h.room j (by omega);refine m1.cell ?_;by_cases c : k = j
  ·subst c; exact (hv.same _).1
  ·rw [World.cell?_setCell_other _ _ _ _ (by intro e; simp only [Addr.mk.injEq] at e; omega)]
   exact h.done j (by omega)
 have l1 : ∀ j, j < p.cl -> w1.cell? ⟨gb, j, none⟩ = some (.bool (ledB p p.cl j)) := fun j hj => by
  refine m1.cell ?_;rw [World.cell?_setCell_other _ _ _ _ (by intro e; simp only [Addr.mk.injEq] at e; omega)];exact h.led j hj
 have hs1 : sb < w1.heap.size := by obtain ⟨v, hv⟩ := r1 k hk; exact J06 hv.1
 have g2 : ∀ b, b < sb + 1 -> b ≠ w.heap.size -> w2.heap[b]? = w1.heap[b]? := fun b h3 h2 => k2.block b (by omega) h2 (nb b h3)
 refine ⟨ob', h1, fun j hj => ?_, fun j hj => ?_, fun j hj => ?_, ?_⟩
 ·rw [World.cell?_of_block (a := ⟨gb, j, none⟩) (g2 gb (by omega) (by omega))]
  exact l1 j hj
 ·obtain ⟨v, hv⟩ := r1 j hj
  have e := g2 sb (by omega) (by omega);exact ⟨v, by rw [World.cell?_of_block (a := ⟨sb, j, none⟩) e]; exact hv.1, by rw [World.frozen?_of_block (a := ⟨sb, j, none⟩) e]; exact hv.2⟩
 ·rw [World.cell?_of_block (a := ⟨sb, j, none⟩) (g2 sb (by omega) (by omega))]
  exact d1 j hj
 ·exact k2.more ((h.more.setCell (by show w.heap.size <= sb; omega) _).trans m1) (Nat.le_refl _) (fun b e => by have := (hb b e).1; omega)

theorem Lm.one {Lb lo : Nat} {L : List Ins} {ob : Option Nat} {w w1 : World} {i : Ins} (h : Lm Lb lo L [i] ob w w1) : ∃ ob1, Lc w1 Lb lo (L ++ [i]) ob1 /\ ∀ w2 j, Lm Lb lo (L ++ [i]) [j] ob1 w1 w2 -> Lm Lb lo L [i, j] ob w w2 := by
 obtain ⟨o1, a1, a2⟩ := h;refine ⟨o1, a1, fun w2 j hj => ?_⟩;obtain ⟨o2, b1, b2⟩ := hj;exact ⟨o2, by rw [show L ++ [i, j] = L ++ [i] ++ [j] by simp]; exact b1, a2.trans b2⟩
theorem Lm.box {Lb lo : Nat} {L X : List Ins} {ob : Option Nat} {w w1 : World} (h : Lm Lb lo L X ob w w1) (hc : Lc w Lb lo L ob) {b : Nat} {cs : Array Value} {T : TypeId} (hb : Blk w b cs T) (h1 : b ≠ Lb) (h2 : some b ≠ ob) : Blk w1 b cs T := by
 obtain ⟨o1, _, a2⟩ := h;exact a2.blk hb h1 h2

theorem J9f (p : Prg) (l : Loc) (w : World) (hp : PIn w p l) (ok : p.Ok 200 8) :
  Calls Tryz.prog 21 #[.slice l.ca p.cl l.cc] w fun e w' => ∃ gc cap, e = .returned (.slice (some ⟨gc, 0, none⟩) (J10 p p.cl) cap) /\ w.heap.size <= gc /\ CodeAt w' gc 0 (J10 p p.cl) (hardG (fencK p) p.cl) /\ More w w' := by
 suffices hP : ∀ P : Ending -> World -> Prop, (∀ gc cap w', w.heap.size <= gc -> CodeAt w' gc 0 (J10 p p.cl) (hardG (fencK p) p.cl) -> More w w' -> P (.returned (.slice (some ⟨gc, 0, none⟩) (J10 p p.cl) cap)) w') -> Calls Tryz.prog 21 #[.slice l.ca p.cl l.cc] w P from hP _ (fun gc cap w' h1 h2 h3 => ⟨gc, cap, rfl, h1, h2, h3⟩)
 intro P hP0;have HP : Hid (∀ gc cap w', w.heap.size <= gc -> CodeAt w' gc 0 (J10 p p.cl) (hardG (fencK p) p.cl) -> More w w' -> P (.returned (.slice (some ⟨gc, 0, none⟩) (J10 p p.cl) cap)) w') := hP0;have Hq : Hid (p.Ok 200 8) := ok;have hcl0 := ok.2.1;have hcl1 := ok.2.2.1;have hca := hp.hc (by omega);have CB : Hid (∀ w1 : World, More w w1 -> Calls Tryz.prog 37 #[.slice l.ca p.cl l.cc] w1 fun e w' => ∃ g, e = .returned (.slice (some ⟨g, 0, none⟩) (p.cl + 1) (p.cl + 1)) /\ w1.heap.size <= g /\ g < w'.heap.size /\ (∀ j, j < p.cl -> w'.cell? ⟨g, j, none⟩ = some (.bool (ledB p p.cl j))) /\ More w1 w') := fun w1 m1 => Jeq p l w1 (hp.more m1) ok
 obtain ⟨cb, Hcb⟩ : ∃ x, Hid (l.cb = x) := ⟨_, rfl⟩;obtain ⟨co, Hco⟩ : ∃ x, Hid (l.co = x) := ⟨_, rfl⟩;obtain ⟨cc, Hcc⟩ : ∃ x, Hid (l.cc = x) := ⟨_, rfl⟩;obtain ⟨cl, Hcl⟩ : ∃ x, Hid (p.cl = x) := ⟨_, rfl⟩;rw [hca, Hcb.out, Hco.out, Hcc.out] at CB |-
 have CB2 : Hid (∀ w1 : World, More w w1 -> Calls Tryz.prog 37 #[.slice (some ⟨cb, co, none⟩) cl cc] w1 fun e w' => ∃ g, e = .returned (.slice (some ⟨g, 0, none⟩) (cl + 1) (cl + 1)) /\ w1.heap.size <= g /\ g < w'.heap.size /\ (∀ j, j < p.cl -> w'.cell? ⟨g, j, none⟩ = some (.bool (ledB p p.cl j))) /\ More w1 w') := by
  have := CB.out;rw [Hcl.out] at this |-;exact this
 rw [Hcl.out] at hcl0 hcl1 |-
 have HC : Hid (∀ w1 : World, More w w1 -> CodeAt w1 cb co cl p.ins) := fun w1 m1 => by
  have := hp.code.more m1;rw [Hcb.out, Hco.out, Hcl.out] at this;exact this
 have Hst : Hid (∀ k, k <= cl -> J10 p k <= 600) := fun k hk => by have := Jad p k; omega
 have hmf : ∀ (fn : Fn) (first cap : Array Value) (w : World), (Instr.makeFunc fn first cap).run Tryz.prog w = .ok (.func fn first cap) w := fun _ _ _ _ => rfl
 have hmk := run_make_row' (P := Tryz.prog) 43 2 (V 0) 8 Tryz.underlying43 info2 rfl .i64 .i64 cl (by omega) (by omega);clear hP0 hp ok hca CB;go_enter Tryz.func21, Tryz.ntmps21;go_wp2_with (fail)
 refine (CB2.out _ ((More.refl _).alloc _ _)).mono ?_;rintro e w2 ⟨gb, rfl, hgb0, hgb1, hled, m2⟩
 have Hgb : Hid (w.heap.size < gb /\ gb < w2.heap.size /\ w.heap.size < w2.heap.size) := by
  have : w.heap.size + 1 <= gb := by simpa using hgb0
  exact ⟨by omega, hgb1, by omega⟩
 have HS0 : Hid (C1 w p gb w2.heap.size 0 none (w2.alloc (.cells (madeCells #[V 0] cl) 2))) := by
  have := C1.start (p := p) m2 hled;rw [Hcl.out] at this;exact this
 clear hgb0 hgb1 hled m2 CB2;go_wp2_with (fail)
 clear hmk;obtain ⟨sb, Hsb⟩ : ∃ x, Hid (w2.heap.size = x) := ⟨_, rfl⟩;rw [Hsb.out] at Hgb HS0 |-;go_loopg [19] cl (fun g iv wr => ∃ (k : Nat) (ob : Option Nat), k + g = cl /\ iv = V k /\ Hid (C1 w p gb sb k ob wr))
 case atStart => exact ⟨0, none, by omega, rfl, HS0.out⟩
 case round =>
  obtain ⟨k, ob, hkg, rfl, Hr⟩ := hrel;clear HS0;cases gk with
  | zero =>
   obtain rfl : k = cl := by omega
   have hn0 : 1 <= J10 p k := by have := Jad p k; omega
   have hn1 := Hst.out k (Nat.le_refl _);obtain ⟨hl1, va, vc, hB1, hO1, _⟩ := Hr.out.ld;obtain ⟨gc, cap, hv, _, _⟩ := hO1.form hn0;cases hv
   have H20 : Hid (H2 (fencK p) p.cl w [(w.heap.size, #[.slice (some ⟨gc, 0, none⟩) (J10 p k) vc], 23)] sb gc 0 wr) := by
    have h1 := Hr.out;have h2 := Hgb.out;have o1 : wr.ownsRow (sb + 1) 42 5 (.slice (some ⟨gc, 0, none⟩) (J10 p k) vc) (J10 p k) (flatI (codeG (fencK p) k)) := hO1;rw [<- Hcl.out] at h1 o1 hB1 |-;refine H2.start o1 h1.done (fun x hx => ?_) (by omega) h1.more;simp only [List.mem_cons, List.not_mem_nil, or_false] at hx;rcases hx with rfl;exact ⟨hB1, by dsimp only; omega⟩
   have Hpl : Hid (∀ j, j < J10 p k -> (mixG (fencK p) p.cl j j).op = 7 \/ (mixG (fencK p) p.cl j j).op = 8 -> 0 <= (mixG (fencK p) p.cl j j).n /\ (mixG (fencK p) p.cl j j).n < k) := fun j hj h => by
    rw [J6u] at h |-;have := J6d Hq.out p.cl (Nat.le_refl _) _ (List.mem_of_getElem? (Jau (L := codeG (fencK p) p.cl) (j := j) (by rw [Hcl.out]; exact hj) ⟨0, 0, 0, 0, 0⟩)) h;rw [Hcl.out] at this |-;exact this
   have hgc : sb + 1 <= gc := (hO1.lt gc rfl).1
   have Hend : Hid (∀ bs w', H2 (fencK p) p.cl w bs sb gc (J10 p k) w' -> P (.returned (.slice (some ⟨gc, 0, none⟩) (J10 p k) vc)) w') := fun bs w' h2 => by
    have hh := Hgb.out;have h3 := HP.out gc vc w' (by omega);rw [<- Hcl.out] at h2 |-;exact h3 h2.end_ h2.more
   clear hO1 hB1 HC HP;obtain ⟨sn, Hsn⟩ : ∃ x, Hid (J10 p k = x) := ⟨_, rfl⟩;rw [Hsn.out] at hn0 hn1 Hpl Hend H20;have Hcd : Hid (∀ bs j wr, H2 (fencK p) p.cl w bs sb gc j wr -> ∀ i, i < sn -> InsWr wr gc i (mixG (fencK p) p.cl j i)) := fun bs j wr h2 i hi => h2.code i (by show i < J10 p p.cl; rw [Hcl.out, Hsn.out]; exact hi)
   have Hsd : Hid (∀ bs j wr, H2 (fencK p) p.cl w bs sb gc j wr -> ∀ i, i < k -> wr.cell? ⟨sb, i, none⟩ = some (V (J10 p i : Nat))) := fun bs j wr h2 i hi => h2.starts i (by rw [Hcl.out]; exact hi)
   obtain ⟨bs, Hbs⟩ : ∃ x : List (Nat × Array Value × TypeId), Hid ([(w.heap.size, #[.slice (some ⟨gc, 0, none⟩) sn vc], 23)] = x) := ⟨_, rfl⟩;rw [Hbs.out] at H20;have HbL : Hid (∀ j wr, H2 (fencK p) p.cl w bs sb gc j wr -> Blk wr w.heap.size #[.slice (some ⟨gc, 0, none⟩) sn vc] 23) := fun j wr h2 => (h2.box _ (by rw [<- Hbs.out]; exact List.mem_cons_self)).1
   have b2 : wr.cell? ⟨w.heap.size, 0, none⟩ = some (.slice (some ⟨gc, 0, none⟩) sn vc) := (HbL.out 0 wr H20.out).cell rfl;have hwg := Hgb.out.1;have hws := Hgb.out.2.2;have hgs := Hgb.out.2.1;obtain ⟨wm, rfl⟩ : ∃ wm, wm = wr := ⟨wr, rfl⟩;go_wp2_with (fail)
   clear b2;go_loopg [47] sn (fun g2 iv wr2 => ∃ j : Nat, j + g2 = sn /\ iv = V j /\ Hid (H2 (fencK p) p.cl w bs sb gc j wr2))
   case atStart => exact ⟨0, by omega, rfl, H20.out⟩
   case round =>
    obtain ⟨j, hjg, rfl, Hr2⟩ := hrel;clear H20;have HbLr := HbL.out j wr Hr2.out;have hzL := HbLr.lt;have b2 : wr.cell? ⟨w.heap.size, 0, none⟩ = some (.slice (some ⟨gc, 0, none⟩) sn vc) := HbLr.cell rfl;cases gk with
    | zero =>
     obtain rfl : j = sn := by omega
     have He : Hid (P (.returned (.slice (some ⟨gc, 0, none⟩) j vc)) wr) := Hend.out bs wr Hr2.out;clear Hend HbLr HbL Hcd Hsd Hpl;go_wp2;exact He.out
    | succ g =>
     have hj : j < sn := by omega
     have hji : (j : Int) < sn := by omega
     have hj63 : wrap64 ((j : Int) + 1) = (j : Int) + 1 := by unfold wrap64; omega
     have hI := Hcd.out bs j wr Hr2.out j hj;have Hpq := Hpl.out j hj;have Hps : Hid (¬ ((mixG (fencK p) p.cl j j).op = 7 \/ (mixG (fencK p) p.cl j j).op = 8) -> ∀ w', More wr w' -> H2 (fencK p) p.cl w bs sb gc (j + 1) w') := fun h w' m => Hr2.out.pass m h
     have Hld : Hid ((mixG (fencK p) p.cl j j).op = 7 \/ (mixG (fencK p) p.cl j j).op = 8 -> ∀ w', More wr w' -> H2 (fencK p) p.cl w bs sb gc (j + 1) (w'.setCell ⟨gc, j * 5 + 4, none⟩ (V (J10 p (mixG (fencK p) p.cl j j).n.toNat : Nat)))) := fun h w' m => (Hr2.out.far m).lead h
     obtain ⟨⟨op, a, b, c, n⟩, HI⟩ : ∃ x, Hid (mixG (fencK p) p.cl j j = x) := ⟨_, rfl⟩;rw [HI.out] at hI Hpq Hps Hld;obtain ⟨⟨c0, _⟩, ⟨c1, _⟩, ⟨c2, _⟩, ⟨c3, _⟩, ⟨c4, f4⟩⟩ := hI;dsimp only at c0 c1 c2 c3 c4 Hpq Hps Hld;have zg := Hr2.out.hi;clear HbLr;by_cases h78 : op = 7 \/ op = 8
     ·have hpq := Hpq h78
      obtain ⟨n0, n1⟩ := hpq;obtain ⟨nn, rfl⟩ := Int.eq_ofNat_of_zero_le n0;have hnk : (nn : Int) < (k : Int) := n1;have hsN := Hsd.out bs j wr Hr2.out nn (by omega);have zs := J06 hsN;dsimp only at zs;have Hn2 : Hid (∀ w', More wr w' -> H2 (fencK p) p.cl w bs sb gc (j + 1) (w'.setCell ⟨gc, j * 5 + 4, none⟩ (V (J10 p nn : Nat)))) := fun w' m' => Hld.out h78 w' m'
      obtain ⟨sN, HsN⟩ : ∃ x, Hid (J10 p nn = x) := ⟨_, rfl⟩;rw [HsN.out] at hsN Hn2;have ne1 : ¬ wr.heap.size = gc := by omega
      have ne2 : ¬ gc = wr.heap.size := by omega
      clear Hps Hld Hpq n0 n1;have h7c : (op == 7) = true \/ ((op == 7) = false /\ (op == 8) = true) := by rcases h78 with rfl | rfl <;> simp
      clear h78;rcases h7c with e7 | ⟨e7, e8⟩
      all_goals
       obtain ⟨W, HW⟩ : ∃ w_ : World, Hid (w_ = wr.alloc (.cells #[V op, V a, V b, V c, V nn] 42)) := ⟨_, rfl⟩;have HmW : Hid (More wr W) := HW.out ▸ (More.refl _).alloc _ _;have c44 := (HW.out ▸ Blk.last _ _ _ : Blk W wr.heap.size #[V op, V a, V b, V c, V nn] 42).cell (j := 4) rfl;obtain ⟨wd, Hwd⟩ : ∃ w_ : World, Hid (w_ = W.drew) := ⟨_, rfl⟩;have Hmd : Hid (More W wd) := Hwd.out ▸ (More.refl W).drew;obtain ⟨S, HS⟩ : ∃ S : World -> Prop, Hid (∀ w', S w' ↔ (w'.cell? ⟨w.heap.size, 0, none⟩ = some (.slice (some ⟨gc, 0, none⟩) sn vc) /\ w'.cell? ⟨wr.heap.size, 4, none⟩ = some (V nn) /\ w'.cell? ⟨sb, nn, none⟩ = some (V sN))) := ⟨_, fun _ => Iff.rfl⟩;have HS1 : S wd := (HS.out _).2 ⟨(HmW.out.trans Hmd.out).cell b2, Hmd.out.cell c44, (HmW.out.trans Hmd.out).cell hsN⟩;have HS0 : S W.drew := Hwd.out ▸ HS1;have k0 : ∀ i : { w' // S w' }, i.val.cell? ⟨w.heap.size, 0, none⟩ = some (.slice (some ⟨gc, 0, none⟩) sn vc) := fun i => ((HS.out _).1 i.property).1
       have k1 : ∀ i : { w' // S w' }, i.val.cell? ⟨wr.heap.size, 4, none⟩ = some (V nn) := fun i => ((HS.out _).1 i.property).2.1
       have k2 : ∀ i : { w' // S w' }, i.val.cell? ⟨sb, nn, none⟩ = some (V sN) := fun i => ((HS.out _).1 i.property).2.2
       have hne : Nonempty { w' // S w' } := ⟨⟨_, HS0⟩⟩;have x4 : wd.cell? ⟨gc, j * 5 + 4, none⟩ = some (V nn) := (HmW.out.trans Hmd.out).cell c4
       have y4 : wd.frozen? ⟨gc, j * 5 + 4, none⟩ = false := by
        rw [World.frozen?_of_block (a := ⟨gc, j * 5 + 4, none⟩) ((HmW.out.trans Hmd.out).block gc zg)]; exact f4
       have HSz : Hid (S (wd.setCell ⟨gc, j * 5 + 4, none⟩ (V sN))) := (HS.out _).2 (by
        have h1 := (HS.out _).1 HS1;refine ⟨?_, ?_, ?_⟩
        ·rw [World.cell?_setCell_other _ _ _ _ (by intro e; simp only [Addr.mk.injEq] at e; omega)]; exact h1.1
        ·rw [World.cell?_setCell_other _ _ _ _ (by intro e; simp only [Addr.mk.injEq] at e; omega)]; exact h1.2.1
        ·rw [World.cell?_setCell_other _ _ _ _ (by intro e; simp only [Addr.mk.injEq] at e; omega)]; exact h1.2.2)
       clear HS1 Hcd Hsd HbL Hpl Hend hn0 hn1 hcl0 hcl1 hwg hws hgs hgc;go_wp2_with (fail)
       rw [<- HW.out];refine J03 (S := S) [(0, true), (1, true), (2, true), (3, true), (4, true), (5, true), (6, true), (7, true), (8, true), (9, false)] (by kernel_rfl) (by kernel_rfl) (by kernel_rfl) HS0 ?_;rw [<- Hwd.out]
       iterate 9 (refine J00 rfl (by kernel_rfl) (fun K hK => ?_); go_simp; refine hK _ _ ?_; clear hK K)
       refine J02 rfl (by kernel_rfl) (fun K hK => ?_)
       go_simp
       refine hK _ _ HSz.out ?_;refine J04 ?_;clear hK K k0 k1 k2 hne HS0;go_wp2;go_roundg g
       case measure => omega
       case rel => exact ⟨j + 1, by omega, by simp [hj63], Hn2.out wd (HmW.out.trans Hmd.out)⟩
     ·have e7 : (op == 7) = false := by simp; omega
      have e8 : (op == 8) = false := by simp; omega
      have Hn2 : Hid (∀ w', More wr w' -> H2 (fencK p) p.cl w bs sb gc (j + 1) w') := Hps.out h78;clear h78 Hps Hld Hpq Hcd Hsd HbL Hpl Hend hn0 hn1 hcl0 hcl1 hwg hws hgs hgc;go_wp2;go_roundg g
      case measure => omega
      case rel => exact ⟨j + 1, by omega, by simp [hj63], Hn2.out _ ((More.refl _).alloc _ _)⟩
  | succ g =>
   have hk : k < cl := by omega
   have hki : (k : Int) < cl := by omega
   have hki1 : (k : Int) < (cl : Int) + 1 := by omega
   have hk63 : wrap64 ((k : Int) + 1) = (k : Int) + 1 := by unfold wrap64; omega
   obtain ⟨q0, q1, q2, q3, q4⟩ := HC.out wr Hr.out.more k hk;obtain ⟨_, va, vc, hB1, _, _⟩ := Hr.out.ld;have b2 : wr.cell? ⟨w.heap.size, 0, none⟩ = some (.slice va (J10 p k) vc) := hB1.cell rfl;have hst0 := Hst.out k (by omega);have hled := Hr.out.led k (by rw [Hcl.out]; exact hk);have hgg := Hgb.out;have HS : Hid (∀ w1 w2 : World, More (wr.setCell ⟨sb, k, none⟩ (V (J10 p k : Nat))) w1 -> Lm w.heap.size (sb + 1) (codeG (fencK p) k) (fencK p k) ob w1 w2 -> ∃ ob', C1 w p gb sb (k + 1) ob' w2) := fun w1 w2 m1 hl => Hr.out.step Hgb.out.2.2 ⟨Hgb.out.1, Hgb.out.2.1⟩ (by rw [Hcl.out]; exact hk) m1 hl
   have HD : Hid (∀ w1, More (wr.setCell ⟨sb, k, none⟩ (V (J10 p k : Nat))) w1 -> Lc w1 w.heap.size (sb + 1) (codeG (fencK p) k) ob) := fun w1 m1 => Hr.out.mid Hgb.out.2.2 m1
   have Hlo : Hid (∀ b, ob = some b -> sb + 1 <= b /\ b < wr.heap.size) := Hr.out.ld.lo;have HF : Hid (∀ (L : List Ins) (op a b c n : Int) (o : Option Nat) (w1 : World), Lc w1 w.heap.size (sb + 1) L o -> sb + 1 <= w1.heap.size -> L.length <= 9000 -> Calls Tryz.prog 36 #[.agg #[V op, V a, V b, V c, V n], .pointer (some ⟨w.heap.size, 0, none⟩)] w1 fun e w' => e = .returned (.tuple #[]) /\ Lm w.heap.size (sb + 1) L [⟨op, a, b, c, n⟩] o w1 w') := fun L op a b c n o w1 h1 h2 h3 => Jd3 _ _ L op a b c n o w1 h1 h2 h3
   have Hlen : Hid ((codeG (fencK p) k).length <= 600) := hst0;have HX : Hid (fencK p k = if (ledB p p.cl k && !((p.ins k).op == 12)) = true then [J21, p.ins k] else [p.ins k]) := Jcc p k;obtain ⟨rv, hrv, hfz⟩ := Hr.out.room k (by rw [Hcl.out]; exact hk);have hz1 : sb < wr.heap.size := J06 hrv;have n1 : ¬ wr.heap.size = sb := by omega
   have n2 : ¬ sb = wr.heap.size := by omega
   have hzL : w.heap.size < wr.heap.size := by omega
   have n3 : ¬ wr.heap.size = w.heap.size := by omega
   have n4 : ¬ w.heap.size = wr.heap.size := by omega
   have n5 : ¬ w.heap.size = sb := by omega
   have n6 : ¬ sb = w.heap.size := by omega
   have hzg : gb < wr.heap.size := by omega
   have n7 : ¬ gb = sb := by omega
   have n8 : ¬ sb = gb := by omega
   obtain ⟨st, Hstk⟩ : ∃ x, Hid (J10 p k = x) := ⟨_, rfl⟩;rw [Hstk.out] at b2 hst0 HS HD;obtain ⟨ld, Hldd⟩ : ∃ x, Hid (ledB p p.cl k = x) := ⟨_, rfl⟩;rw [Hldd.out] at hled HX;obtain ⟨⟨op, a, b, c, n⟩, HI⟩ : ∃ x, Hid (p.ins k = x) := ⟨_, rfl⟩;rw [HI.out] at q0 q1 q2 q3 q4 HX;dsimp only at q0 q1 q2 q3 q4 HX;clear hB1 hgg;obtain ⟨w1, Hw1⟩ : ∃ w_ : World, Hid (w_ = (wr.setCell ⟨sb, k, none⟩ (V (st : Nat))).alloc (.cells #[V op, V a, V b, V c, V n] 42)) := ⟨_, rfl⟩;have Hm1 : Hid (More (wr.setCell ⟨sb, k, none⟩ (V (st : Nat))) w1) := Hw1.out ▸ (More.refl _).alloc _ _
   have Hz1 : Hid (sb + 1 <= w1.heap.size) := by
    have := Hm1.out.size;show _ <= _;simp [World.setCell] at this;omega
   have HB1 : Hid (Blk w1 wr.heap.size #[V op, V a, V b, V c, V n] 42) := by
    have := Blk.last (wr.setCell ⟨sb, k, none⟩ (V (st : Nat))) #[V op, V a, V b, V c, V n] 42;rw [<- Hw1.out] at this;have e : (wr.setCell ⟨sb, k, none⟩ (V (st : Nat))).heap.size = wr.heap.size := by simp [World.setCell]
    rw [e] at this;exact this
   have HL1 : Hid (Lc w1 w.heap.size (sb + 1) (codeG (fencK p) k) ob) := HD.out w1 Hm1.out;clear HD Hstk;by_cases hpre : (ld && !(op == 12)) = true
   ·obtain ⟨rfl, h12⟩ : ld = true /\ (op == 12) = false := by simpa using hpre
    have h12n : (op != 12) = true := by simp at h12; simp [h12]
    have HX2 : Hid (fencK p k = [J21, ⟨op, a, b, c, n⟩]) := by show _ = _; rw [HX.out, if_pos hpre]
    clear hpre HX;have HF1 := HF.out (codeG (fencK p) k) 12 0 0 0 0 ob w1 HL1.out Hz1.out (by have := Hlen.out; omega);have HF2 : Hid (∀ o w2, Lc w2 w.heap.size (sb + 1) (codeG (fencK p) k ++ [J21]) o -> sb + 1 <= w2.heap.size -> Calls Tryz.prog 36 #[.agg #[V op, V a, V b, V c, V n], .pointer (some ⟨w.heap.size, 0, none⟩)] w2 fun e w' => e = .returned (.tuple #[]) /\ Lm w.heap.size (sb + 1) (codeG (fencK p) k ++ [J21]) [⟨op, a, b, c, n⟩] o w2 w') := fun o w2 h1 h2 => HF.out _ op a b c n o w2 h1 h2 (by have := Hlen.out; rw [List.length_append]; show _ + 1 <= 9000; omega)
    clear HF;go_wp2_with (fail)
    rw [<- Hw1.out];refine HF1.mono ?_;rintro e w3 ⟨rfl, hw3⟩;have Hbx : Hid (Blk w3 wr.heap.size #[V op, V a, V b, V c, V n] 42) := hw3.box HL1.out HB1.out n3 (fun e => by have := (Hlo.out _ e.symm).2; omega);have hz3 : sb + 1 <= w3.heap.size := by have := Hbx.out.lt; omega
    obtain ⟨o1, ho1, hon⟩ := hw3.one;have Hon : Hid (∀ w2 j, Lm w.heap.size (sb + 1) (codeG (fencK p) k ++ [J21]) [j] o1 w3 w2 -> Lm w.heap.size (sb + 1) (codeG (fencK p) k) [J21, j] ob w1 w2) := hon;have HF3 := HF2.out o1 w3 ho1 hz3;have x0 : w3.cell? ⟨wr.heap.size, 0, none⟩ = some (V op) := Hbx.out.cell rfl;have x1 : w3.cell? ⟨wr.heap.size, 1, none⟩ = some (V a) := Hbx.out.cell rfl;have x2 : w3.cell? ⟨wr.heap.size, 2, none⟩ = some (V b) := Hbx.out.cell rfl;have x3 : w3.cell? ⟨wr.heap.size, 3, none⟩ = some (V c) := Hbx.out.cell rfl;have x4 : w3.cell? ⟨wr.heap.size, 4, none⟩ = some (V n) := Hbx.out.cell rfl;clear hw3 ho1 hon HF1 HF2;go_wp2_with (fail)
    refine HF3.mono ?_;rintro e w4 ⟨rfl, hw4⟩;obtain ⟨ob', hr2⟩ := HS.out w1 w4 Hm1.out (by rw [HX2.out]; exact Hon.out w4 _ hw4);have Hr2 : Hid (C1 w p gb sb (k + 1) ob' w4) := hr2;clear hr2 hw4 HF3 q0 q1 q2 q3 q4 b2 hrv hfz x0 x1 x2 x3 x4 hled;go_wp2;go_roundg g
    case measure => omega
    case rel => exact ⟨k + 1, ob', by omega, by first | rfl | simp, Hr2.out⟩
   ·have HX2 : Hid (fencK p k = [⟨op, a, b, c, n⟩]) := by show _ = _; rw [HX.out, if_neg hpre]
    have hcase : ld = false \/ (ld = true /\ (op != 12) = false) := by
     cases ld with
     | false => exact .inl rfl
     | true =>
      right;refine ⟨rfl, ?_⟩;simp at hpre;simp [hpre]
    clear hpre HX;have HF1 := HF.out (codeG (fencK p) k) op a b c n ob w1 HL1.out Hz1.out (by have := Hlen.out; omega);clear HF;rcases hcase with rfl | ⟨rfl, h12⟩
    all_goals
     go_wp2_with (fail)
     rw [<- Hw1.out];refine HF1.mono ?_;rintro e w4 ⟨rfl, hw4⟩;obtain ⟨ob', hr2⟩ := HS.out w1 w4 Hm1.out (by rw [HX2.out]; exact hw4);have Hr2 : Hid (C1 w p gb sb (k + 1) ob' w4) := hr2;clear hr2 hw4 HF1 q0 q1 q2 q3 q4 b2 hrv hfz hled;go_wp2;go_roundg g
     case measure => omega
     case rel => exact ⟨k + 1, ob', by omega, by first | rfl | simp, Hr2.out⟩
theorem Jkm : (Tryz.prog.info? 40).map (fun i => (i.zero, i.size, i.bytes)) = some (some (.agg #[V 0, .bool false]), 2, 16) := by kernel_rfl

def regK (log : Nat -> Int) (sec : Nat -> Bool) : KS := fun i => ⟨log i, sec i⟩

theorem J6c (a : Option Addr) (n c b o : Nat) (log : Nat -> Int) (sec : Nat -> Bool) (w : World) (ha : 0 < n -> a = some ⟨b, o, none⟩) (hr : RegsAt w b o n log sec) (hn : n <= 6) :
  Calls Tryz.prog 19 #[.slice a n c] w fun e w' => ∃ (a' : Option Addr) (g c' : Nat), e = .returned (.slice a' n c') /\ (0 < n -> a' = some ⟨g, 0, none⟩) /\ w.heap.size <= g /\ RegsAt w' g 0 n log sec /\ More w w' := by
 have qn : ∀ (w : World) (a : Option Addr) (n c n' c' : Nat), (binOp .eql 22 (.slice a n c) (.slice none n' c')).run Tryz.prog w = .ok (.bool a.isNone) w := fun w a n c n' c' => Lib.run_eql_slice_nil w _ _ a n c n' c' Tryz.underlying22
 cases a with
 | none =>
  obtain rfl : n = 0 := by
   rcases Nat.eq_zero_or_pos n with q | q
   ·exact q
   ·exact absurd (ha q) (by simp)
  clear ha hr hn;go_enter Tryz.func19, Tryz.ntmps19;go_wp2;go_ret;exact ⟨none, w.heap.size, 0, rfl, fun h => absurd h (Nat.lt_irrefl _), Nat.le_refl _, fun i hi => absurd hi (Nat.not_lt_zero _), More.refl _⟩
 | some ad =>
  obtain ⟨i0, hi, hz0, hz1, hz2⟩ := info_parts Jkm;have Hi : Hid (Tryz.prog.info? 40 = some i0 /\ i0.zero = some (.agg #[V 0, .bool false]) /\ i0.size = 2 /\ i0.bytes = 16) := ⟨hi, hz0, hz1, hz2⟩;have Hn : Hid (n <= 6) := hn;have Hown1 : Hid ((w.alloc (.cells #[] 40)).ownsRow w.heap.size 40 2 (.slice (some ⟨w.heap.size, 0, none⟩) 0 0) 0 []) := World.ownsRow_made _ #[] 0 (Nat.le_refl _) (by unfold maxLen; omega) rfl
  have Hnews : Hid (0 < n -> ∃ ad', some ad = some ad' /\ ∀ j u, (flatK (regK log sec) n)[j]? = some u -> (w.alloc (.cells #[] 40)).cell? (ad'.add j) = some u) := fun h0 => by
   refine ⟨_, ha h0, fun j u hu => ?_⟩;have hj : j < n * 2 := by have := (List.getElem?_eq_some_iff.1 hu).1; rw [J0v] at this; exact this
   rw [Go.WideShapes.add_plain];have hk := hr (j / 2) (by omega);have hf := J45 (regK log sec) n (j / 2) (by omega);by_cases e : j % 2 = 0
   ·have e2 : j / 2 * 2 = j := by omega
    rw [e2] at hk hf;rw [hf.1] at hu; rw [<- Option.some.inj hu]; exact ((More.refl _).alloc _ _).cell hk.1
   ·have e2 : j / 2 * 2 + 1 = j := by omega
    have e3 : o + j / 2 * 2 + 1 = o + j := by omega
    rw [e3] at hk;rw [e2] at hf;rw [hf.2] at hu; rw [<- Option.some.inj hu]; exact ((More.refl _).alloc _ _).cell hk.2
  clear hi hz0 hz1 hz2 hn ha hr;go_enter Tryz.func19, Tryz.ntmps19;go_wp2_with (at_builtin; refine J5i _ rfl (.tmp 5) (.tmp 6) 22 rfl w.heap.size 40 i0 (.agg #[V 0, .bool false]) 2 16 Tryz.underlying22 Hi.out.1 Hi.out.2.1 Hi.out.2.2.1 Hi.out.2.2.2 rfl (by decide) (.slice (some ⟨w.heap.size, 0, none⟩) 0 0) 0 [] rfl Hown1.out (some ad) n c (flatK (regK log sec) n) rfl (by rw [J0v]) Hnews.out (J4v _ n) (by have := Hn.out; unfold maxLen; omega) (by have := Hn.out; omega) (by simp) ?_; intro va cap w2 own2 gr2 hat2 hnn2)
  go_ret;simp only [Nat.zero_add, List.nil_append] at own2 |-
  have hm : More w w2 := ((More.refl _).alloc _ _).grownBy gr2 (fun k hk => by
   have : w.heap.size = k := by simpa [Value.ownBlock] using hk
   omega)
  by_cases h0 : 0 < n
  ·obtain ⟨g, cap', hv, hlo, _⟩ := own2.form h0
   cases hv
   refine ⟨_, g, cap, rfl, fun _ => rfl, hlo, fun i hi => ?_, hm⟩;have hf := J45 (regK log sec) n i hi;simp only [Nat.zero_add];exact ⟨by rw [World.ownsRow.cellAt own2 (i * 2) (by omega)]; exact hf.1, by rw [World.ownsRow.cellAt own2 (i * 2 + 1) (by omega)]; exact hf.2⟩
  ·exact ⟨va, w.heap.size, cap, rfl, fun h => absurd h h0, Nat.le_refl _, fun i hi => absurd hi (by omega), hm⟩
end
section
open Go.RowKit
set_option linter.unusedSimpArgs false
set_option linter.unusedVariables false
theorem Mem.like_refl (x : Mem) : x.Like x := ⟨rfl, fun _ _ => rfl, fun _ _ _ _ => rfl⟩

theorem J89 {p : Prg} {s : St} {i : Ins} (hI : p.ins s.at_ = i) (h7 : i.op = 7) : stepI p s = (⟨i.n.toNat, s.r, s.m, s.seen ++ [⟨1, s.at_, 0⟩]⟩, none) := by
 subst hI;unfold stepI;rw [if_pos h7]
theorem J5u {p : Prg} {s : St} {i : Ins} (hI : p.ins s.at_ = i) (h8 : i.op = 8) : stepI p s = (⟨if J0u i.c (s.r i.a.toNat) (s.r i.b.toNat) = true then i.n.toNat else s.at_ + 1, s.r, s.m, s.seen ++ [⟨1, s.at_, 0⟩]⟩, none) := by
 subst hI;unfold stepI;rw [if_neg (by omega), if_pos h8]
theorem J5v {p : Prg} {s : St} {i : Ins} (hI : p.ins s.at_ = i) (h9 : i.op = 9) : stepI p s = (⟨s.at_ + 1, s.r, s.m, s.seen ++ [⟨1, s.at_, 0⟩]⟩, some (1, s.r i.a.toNat)) := by
 subst hI;unfold stepI;rw [if_neg (by omega), if_neg (by omega), if_pos h9]

section
variable {p h : Prg} {st : Nat -> Nat} {X : Int} {l : KV} {m : Mem} {s t : St}

theorem Ja2 {g k : Nat} {s s' : St} (hat : s.at_ < h.cl) (e : stepI h s = (s', none)) : runI h (g + 1) k s = runI h g (k + 1) s' := by
 rw [runI, if_neg (by omega), e]

theorem Hdn.lt (S : Hdn p h st X) {k o : Nat} (hk : k < p.cl) (ho : o < sizeK p k) : st k + o < h.cl := by
 have := S.mono p.cl k hk (Nat.le_refl _);rw [S.cl]; omega

end
section
variable {p h : Prg} {st : Nat -> Nat} {X : Int}

theorem Hdn.from_ (S : Hdn p h st X) : ∀ (n : Nat), n <= p.cl -> ∀ q, q < st n -> ∃ k o, k < n /\ o < sizeK p k /\ q = st k + o
 | 0, _, q, hq => by rw [S.s0] at hq; omega
 | n + 1, hn, q, hq => by
  have e := S.next n (by omega);by_cases c : q < st n
  ·obtain ⟨k, o, h1, h2, h3⟩ := S.from_ n (by omega) q c
   exact ⟨k, o, by omega, h2, h3⟩
  ·exact ⟨n, q - st n, by omega, by omega, by omega⟩
theorem Hdn.most (S : Hdn p h st X) : ∀ (n : Nat), n <= p.cl -> n <= st n /\ st n <= 3 * n
 | 0, _ => by rw [S.s0]; omega
 | n + 1, hn => by
  have e := S.next n (by omega);have := S.most n (by omega);have := J0z p n;omega

theorem Jcm {rl : Nat} {log log' : Nat -> Int} {cl cl' : Nat} {i : Ins} (hi : InsOk rl log cl 8 i) (hl : ∀ c, c < rl -> log c = log' c) (h7 : ¬ (i.op = 7 \/ i.op = 8)) : InsOk rl log' cl' 10 i := by
 have up : ∀ x, Reg 8 x -> Reg 10 x := fun x q => by unfold Reg at *; omega
 have wd : ∀ c n, Rgn rl c -> Wrd log c n -> Wrd log' c n := fun c n q w => by
  unfold Rgn at q;unfold Wrd at *;rw [<- hl c.toNat (by omega)]; exact w
 unfold InsOk at *;by_cases q1 : i.op = 1
 ·rw [if_pos q1] at *; exact ⟨up _ hi.1, hi.2⟩
 rw [if_neg q1] at *;by_cases q2 : i.op = 2
 ·rw [if_pos q2] at *; exact ⟨up _ hi.1, up _ hi.2.1, hi.2.2⟩
 rw [if_neg q2] at *;by_cases q3 : i.op = 3
 ·rw [if_pos q3] at *; exact ⟨up _ hi.1, up _ hi.2.1, hi.2.2⟩
 rw [if_neg q3] at *;by_cases q4 : i.op = 4
 ·rw [if_pos q4] at *; exact ⟨up _ hi.1, up _ hi.2.1, hi.2.2⟩
 rw [if_neg q4] at *;by_cases q5 : i.op = 5
 ·rw [if_pos q5] at *; exact ⟨up _ hi.1, hi.2.1, hi.2.2.1, wd _ _ hi.2.2.1 hi.2.2.2⟩
 rw [if_neg q5] at *;by_cases q6 : i.op = 6
 ·rw [if_pos q6] at *; exact ⟨up _ hi.1, hi.2.1, hi.2.2.1, wd _ _ hi.2.2.1 hi.2.2.2⟩
 rw [if_neg q6, if_neg (fun q => h7 (.inl q)), if_neg (fun q => h7 (.inr q))] at *;by_cases q9 : i.op = 9
 ·rw [if_pos q9] at *; exact ⟨up _ hi.1, hi.2⟩
 rw [if_neg q9] at *;by_cases q10 : i.op = 10
 ·rw [if_pos q10] at *; exact ⟨up _ hi.1, up _ hi.2.1, hi.2.2⟩
 rw [if_neg q10] at *;by_cases q11 : i.op = 11
 ·rw [if_pos q11] at *; exact ⟨up _ hi.1, hi.2⟩
 rw [if_neg q11] at *;by_cases q12 : i.op = 12
 ·rw [if_pos q12] at *; exact hi
 rw [if_neg q12] at *;exact ⟨hi.1, up _ hi.2.1, up _ hi.2.2.1, up _ hi.2.2.2.1, hi.2.2.2.2⟩

theorem Jjj (S : Hdn p h st X) (ok : p.Ok 200 8) (hf : p.Fit) (q : Nat) (hq : q < h.cl) : InsOk h.rl h.log h.cl 10 (h.ins q) /\ (h.ins q).fits := by
 rw [S.cl] at hq;obtain ⟨k, o, hk, ho, rfl⟩ := S.from_ p.cl (Nat.le_refl _) q hq;have hi := ok.2.2.2 k hk;have hfit := hf.ins k hk;unfold Ins.fits at hfit;have hX : Reg 10 X := by unfold Reg; rcases S.x with e | e <;> omega
 have iX : I64 X := by unfold I64; rcases S.x with e | e <;> omega
 have i0 : I64 0 := by unfold I64; omega
 rw [<- S.rl];have small := S.most p.cl (Nat.le_refl _);have c200 := ok.2.2.1;by_cases m : (p.ins k).op = 3 \/ (p.ins k).op = 4
 ·rw [J2b m] at ho
  obtain ⟨m0, m1, m2⟩ := S.mem k hk m;have hr : Reg 8 (p.ins k).a /\ Reg 8 (p.ins k).b /\ Rgn p.rl (p.ins k).c := by unfold InsOk at hi; rcases m with m | m <;> simpa [m] using hi
  obtain ⟨ra, rb, rc⟩ := hr;have hcr : (p.ins k).c.toNat < p.rl := by unfold Rgn at rc; omega
  have hlog := ok.1.2 _ hcr;have h64 := J2h (k := (p.log (p.ins k).c.toNat).toNat) (by omega);have ra' : Reg 10 (p.ins k).a := by unfold Reg at *; omega
  have rb' : Reg 10 (p.ins k).b := by unfold Reg at *; omega
  have hoo : o = 0 \/ o = 1 \/ o = 2 := by omega
  rcases hoo with rfl | rfl | rfl
  ·rw [Nat.add_zero, m0]
   refine ⟨?_, ⟨by unfold I64; dsimp only; omega, iX, hfit.2.2.1, i0, hfit.2.2.2.2⟩⟩;unfold InsOk
   simp
   exact ⟨hX, rb'⟩
  ·rw [m1]
   refine ⟨?_, ⟨by unfold I64; dsimp only; omega, iX, i0, i0, by unfold I64 J0c; dsimp only; omega⟩⟩;unfold InsOk
   simp
   exact ⟨hX, by unfold J0c; omega⟩
  ·rw [m2]
   refine ⟨?_, ⟨hfit.1, hfit.2.1, iX, hfit.2.2.2.1, i0⟩⟩;unfold InsOk;rcases m with m | m <;> simp [m] <;> exact ⟨ra', hX, rc⟩
 ·rw [J2t m] at ho
  obtain rfl : o = 0 := by omega
  rw [Nat.add_zero];by_cases w : (p.ins k).op = 7 \/ (p.ins k).op = 8
  ·rw [S.go k hk w]
   have hn : Plc p.cl (p.ins k).n := by unfold InsOk at hi; rcases w with w | w <;> simp [w] at hi <;> simp [hi]
   unfold Plc at hn;have hn2 : (p.ins k).n.toNat < p.cl := by omega
   have hlt := S.lt (o := 0) hn2 (J0z p _).1;rw [Nat.add_zero] at hlt;have hcl := S.cl;have hP : Plc h.cl (st (p.ins k).n.toNat : Int) := by unfold Plc; omega
   refine ⟨?_, ⟨hfit.1, hfit.2.1, hfit.2.2.1, hfit.2.2.2.1, by unfold I64; dsimp only; omega⟩⟩;unfold InsOk Reg at hi;unfold InsOk Reg;rcases w with w | w <;> simp [w] at hi <;> simp [w, hP]
   ·exact ⟨hi.1, hi.2.1, hi.2.2.1⟩
   ·omega
  ·rw [S.copy k hk m w]
   exact ⟨Jcm hi (fun c hc => (S.reg c hc).1) w, hfit⟩

theorem Jki (S : Hdn p h st X) (ok : p.Ok 200 8) (hf : p.Fit) : Like8 p h := by
 have small := S.most p.cl (Nat.le_refl _);have c200 := ok.2.2.1;have c1 := ok.2.1;have hcl := S.cl;refine ⟨⟨⟨by rw [<- S.rl]; exact ok.1.1, fun i hi => ?_⟩, by omega, by omega, fun q hq => (Jjj S ok hf q hq).1⟩, ⟨by rw [<- S.rl]; exact hf.rl, ?_, fun i hi => ?_, fun q hq => (Jjj S ok hf q hq).2⟩, S.rl, S.reg⟩
 ·rw [<- (S.reg i (by rw [S.rl]; exact hi)).1]; exact ok.1.2 i (by rw [S.rl]; exact hi)
 ·have : 600 <= maxLen := by decide
  omega
 ·rw [<- (S.reg i (by rw [S.rl]; exact hi)).1]; exact hf.log i (by rw [S.rl]; exact hi)

end
end
section
open Go.RowKit
set_option linter.unusedSimpArgs false
set_option linter.unusedVariables false
set_option maxRecDepth 8000
abbrev prgV (p : Prg) (l : Loc) : Value := .agg #[.slice l.ra p.rl l.rc, .slice l.ca p.cl l.cc]

theorem RegsAt.other {w : World} {b o rl : Nat} {log : Nat -> Int} {sec : Nat -> Bool} (h : RegsAt w b o rl log sec) {b' : Nat} (hb : b' ≠ b) (o' : Nat) (v : Value) : RegsAt (w.setCell ⟨b', o', none⟩ v) b o rl log sec := fun i hi =>
  ⟨by rw [World.cell?_setCell_other _ _ _ _ (by intro e; simp only [Addr.mk.injEq] at e; exact hb e.1)]; exact (h i hi).1, by rw [World.cell?_setCell_other _ _ _ _ (by intro e; simp only [Addr.mk.injEq] at e; exact hb e.1)]; exact (h i hi).2⟩
theorem CodeAt.other {w : World} {b o cl : Nat} {ins : Nat -> Ins} (h : CodeAt w b o cl ins) {b' : Nat} (hb : b' ≠ b) (o' : Nat) (v : Value) : CodeAt (w.setCell ⟨b', o', none⟩ v) b o cl ins := fun i hi => by
  have k : ∀ x, (w.setCell ⟨b', o', none⟩ v).cell? ⟨b, x, none⟩ = w.cell? ⟨b, x, none⟩ := fun x => World.cell?_setCell_other _ _ _ _ (by intro e; simp only [Addr.mk.injEq] at e; exact hb e.1)
  rw [k, k, k, k, k];exact h i hi

def Made (p : Prg) (w : World) (e : Ending) (w' : World) : Prop :=
  ∃ f : Int × Int, Told p f /\ More w w' /\
    ((f.1 = 0 /\ ∃ lh : Loc, PIn w' (hardP p) lh /\ e = .returned (.tuple #[prgV (hardP p) lh, .agg #[V 0, V 0]])) \/
     (¬ f.1 = 0 /\ e = .returned (.tuple #[.agg #[.slice none 0 0, .slice none 0 0], .agg #[V f.1, V f.2]])))

theorem Jdm (p : Prg) (l : Loc) (w : World) (hp : PIn w p l) (hf : p.Fit) : Calls Tryz.prog 8 #[prgV p l] w (Made p w) := by
  unfold prgV;have C1 : Hid (∀ w1 : World, More w w1 -> Calls Tryz.prog 18 #[.agg #[.slice l.ra p.rl l.rc, .slice l.ca p.cl l.cc]] w1 fun e w' => ∃ f : Int × Int, Told p f /\ e = .returned (.agg #[V f.1, V f.2]) /\ More w1 w') := fun w1 m1 => J80 p l w1 (hp.more m1) hf
  have C2 : Hid (p.Ok 200 8 -> ∀ w1 : World, More w w1 -> Calls Tryz.prog 19 #[.slice l.ra p.rl l.rc] w1 fun e w' => ∃ (a' : Option Addr) (g c' : Nat), e = .returned (.slice a' p.rl c') /\ (0 < p.rl -> a' = some ⟨g, 0, none⟩) /\ w1.heap.size <= g /\ RegsAt w' g 0 p.rl p.log p.sec /\ More w1 w') := fun ok w1 m1 =>
    J6c l.ra p.rl l.rc l.rb l.ro p.log p.sec w1 hp.hr (hp.regs.more m1) ok.1.1
  have C3 : Hid (p.Ok 200 8 -> ∀ w1 : World, More w w1 -> Calls Tryz.prog 20 #[.agg #[.slice l.ra p.rl l.rc, .slice l.ca p.cl l.cc]] w1 fun e w' => ∃ gc cap, e = .returned (.slice (some ⟨gc, 0, none⟩) (J0r p p.cl) cap) /\ w1.heap.size <= gc /\ CodeAt w' gc 0 (J0r p p.cl) (hardL p) /\ More w1 w') := fun ok w1 m1 => J7k p l w1 (hp.more m1) ok
  clear hp hf;obtain ⟨ra, Hra⟩ : ∃ x, Hid (l.ra = x) := ⟨_, rfl⟩;obtain ⟨rl, Hrl⟩ : ∃ x, Hid (p.rl = x) := ⟨_, rfl⟩;obtain ⟨rc, Hrc⟩ : ∃ x, Hid (l.rc = x) := ⟨_, rfl⟩;obtain ⟨ca, Hca⟩ : ∃ x, Hid (l.ca = x) := ⟨_, rfl⟩;obtain ⟨cl, Hcl⟩ : ∃ x, Hid (p.cl = x) := ⟨_, rfl⟩;obtain ⟨cc, Hcc⟩ : ∃ x, Hid (l.cc = x) := ⟨_, rfl⟩;obtain ⟨sn, Hsn⟩ : ∃ x, Hid (J0r p p.cl = x) := ⟨_, rfl⟩;rw [Hsn.out] at C3;rw [Hra.out, Hrl.out, Hrc.out, Hca.out, Hcl.out, Hcc.out] at C1 C3 |-;rw [Hra.out, Hrl.out, Hrc.out] at C2;go_enter Tryz.func8, Tryz.ntmps8;obtain ⟨W0, HW0⟩ : ∃ W : World, Hid (W = ((w.alloc (.cells #[.slice ra rl rc, .slice ca cl cc] 25)).alloc (.cells #[.slice none 0 0, .slice none 0 0] 25)).alloc (.cells #[V 0, V 0] 30)) := ⟨_, rfl⟩;have Hm0 : Hid (More w W0) := HW0.out ▸ (((More.refl _).alloc _ _).alloc _ _).alloc _ _;have B0 : Hid (Blk W0 w.heap.size #[.slice ra rl rc, .slice ca cl cc] 25) := HW0.out ▸ (((Blk.last _ _ _).alloc _ _).alloc _ _);have B1 : Hid (Blk W0 (w.heap.size + 1) #[.slice none 0 0, .slice none 0 0] 25) := HW0.out ▸ ((by simpa using Blk.last (w.alloc (.cells #[.slice ra rl rc, .slice ca cl cc] 25)) #[.slice none 0 0, .slice none 0 0] 25 : Blk _ (w.heap.size + 1) _ _).alloc _ _)
  have B2 : Hid (Blk W0 (w.heap.size + 1 + 1) #[V 0, V 0] 30) := HW0.out ▸ (by simpa using Blk.last ((w.alloc (.cells #[.slice ra rl rc, .slice ca cl cc] 25)).alloc (.cells #[.slice none 0 0, .slice none 0 0] 25)) #[V 0, V 0] 30 : Blk _ (w.heap.size + 1 + 1) _ _);go_wp2_with (fail)
  rw [<- HW0.out];refine (C1.out W0 Hm0.out).mono ?_;rintro e w1 ⟨⟨f1, f2⟩, hT, rfl, m1⟩;dsimp only;have HT : Hid (Told p (f1, f2)) := hT;have Hm1 : Hid (More W0 w1) := m1;clear hT m1 C1;obtain ⟨W, HW⟩ : ∃ W : World, Hid (W = w1.alloc (.cells #[V f1, V f2] 30)) := ⟨_, rfl⟩;have HmW : Hid (More W0 W) := by rw [HW.out]; exact Hm1.out.alloc _ _
  have D0 : Hid (Blk W w.heap.size #[.slice ra rl rc, .slice ca cl cc] 25) := B0.out.more HmW.out;have D1 : Hid (Blk W (w.heap.size + 1) #[.slice none 0 0, .slice none 0 0] 25) := B1.out.more HmW.out;have D2 : Hid (Blk W (w.heap.size + 1 + 1) #[V 0, V 0] 30) := B2.out.more HmW.out;have D3 : Hid (Blk W w1.heap.size #[V f1, V f2] 30) := by rw [HW.out]; exact Blk.last _ _ _
  have Hz1 : Hid (w.heap.size + 3 <= w1.heap.size) := by
    have h1 := (B2.out.more Hm1.out).lt;show _ <= _;omega
  by_cases h0 : f1 = 0
  · subst h0
    obtain ⟨hok, lk, hk, hk0⟩ := HT.out.ok rfl;have HO : Hid (p.Ok 200 8) := hok;clear hok hk hk0;have C2' : Hid (∀ w1 : World, More w w1 -> Calls Tryz.prog 19 #[.slice ra rl rc] w1 fun e w' => ∃ (a' : Option Addr) (g c' : Nat), e = .returned (.slice a' rl c') /\ (0 < rl -> a' = some ⟨g, 0, none⟩) /\ w1.heap.size <= g /\ RegsAt w' g 0 rl p.log p.sec /\ More w1 w') := C2.out HO.out;have C3' : Hid (∀ w1 : World, More w w1 -> Calls Tryz.prog 20 #[.agg #[.slice ra rl rc, .slice ca cl cc]] w1 fun e w' => ∃ gc cap, e = .returned (.slice (some ⟨gc, 0, none⟩) sn cap) /\ w1.heap.size <= gc /\ CodeAt w' gc 0 sn (hardL p) /\ More w1 w') := C3.out HO.out;clear C2 C3;obtain ⟨S, HS⟩ : ∃ S : World -> Prop, Hid (∀ w', S w' ↔ Blk w' w.heap.size #[.slice ra rl rc, .slice ca cl cc] 25) := ⟨_, fun _ => Iff.rfl⟩;have HS0 : S W.drew := (HS.out _).2 D0.out;have k0 : ∀ i : { w' // S w' }, i.val.cell? ⟨w.heap.size, 0, none⟩ = some (.slice ra rl rc) := fun i => ((HS.out _).1 i.property).cell rfl
    have k1 : ∀ i : { w' // S w' }, i.val.cell? ⟨w.heap.size, 1, none⟩ = some (.slice ca cl cc) := fun i => ((HS.out _).1 i.property).cell rfl
    have hne : Nonempty { w' // S w' } := ⟨⟨_, HS0⟩⟩;go_wp2_with (fail)
    rw [<- HW.out];refine J03 (S := S) [(0, true), (1, true), (3, true), (6, true), (2, false), (4, false), (5, true), (7, false), (8, false)] (by kernel_rfl) (by kernel_rfl) (by kernel_rfl) HS0 ?_
    iterate 4 (refine J00 rfl (by kernel_rfl) (fun K hK => ?_); go_simp; refine hK _ _ ?_; clear hK K)
    refine J02 rfl (by kernel_rfl) (fun K hK => ?_); go_simp;have HmD : Hid (More w W.drew) := (Hm0.out.trans HmW.out).drew;refine (C2'.out _ HmD.out).mono ?_;rintro e w2 ⟨a', g, c', rfl, ha', hg, hregs, m2⟩;have Hm2 : Hid (More W w2) := (More.refl W).drew.trans m2;have Hreg2 : Hid ((0 < rl -> a' = some ⟨g, 0, none⟩) /\ W.heap.size <= g /\ RegsAt w2 g 0 rl p.log p.sec) := ⟨ha', hg, hregs⟩;clear ha' hg hregs m2
    go_simp
    refine hK _ _ ((HS.out _).2 (D0.out.more Hm2.out)) ?_; clear hK K;refine J02 rfl (by kernel_rfl) (fun K hK => ?_); go_simp;refine (C3'.out w2 ((Hm0.out.trans HmW.out).trans Hm2.out)).mono ?_;rintro e w3 ⟨gc, cap, rfl, hgc, hcode, m3⟩;have Hm3 : Hid (More W w3) := Hm2.out.trans m3;have Hreg3 : Hid (RegsAt w3 g 0 rl p.log p.sec) := Hreg2.out.2.2.more m3;have Hcode3 : Hid (W.heap.size <= gc /\ CodeAt w3 gc 0 sn (hardL p)) := ⟨Nat.le_trans Hm2.out.size hgc, hcode⟩;clear hgc hcode m3;have E1 : Hid (Blk w3 (w.heap.size + 1) #[.slice none 0 0, .slice none 0 0] 25) := D1.out.more Hm3.out;have E2 : Hid (Blk w3 (w.heap.size + 1 + 1) #[V 0, V 0] 30) := D2.out.more Hm3.out;have a0 : w3.cell? ⟨w.heap.size + 1, 0, none⟩ = some (.slice none 0 0) := E1.out.cell rfl;have a1 : w3.cell? ⟨w.heap.size + 1, 1, none⟩ = some (.slice none 0 0) := E1.out.cell rfl;have a2 : w3.cell? ⟨w.heap.size + 1 + 1, 0, none⟩ = some (V 0) := E2.out.cell rfl;have a3 : w3.cell? ⟨w.heap.size + 1 + 1, 1, none⟩ = some (V 0) := E2.out.cell rfl;have z0 := E1.out.frozen 0;have z1 := E1.out.frozen 1;have z2 := E2.out.frozen 0;have z3 := E2.out.frozen 1
    go_simp
    refine hK _ _ ((HS.out _).2 (D0.out.more Hm3.out)) ?_; clear hK K;refine J00 rfl (by kernel_rfl) (fun K hK => ?_); go_simp; refine hK _ _ ?_; clear hK K;refine J02 rfl (by kernel_rfl) (fun K hK => ?_); go_simp;refine hK _ _ ((HS.out _).2 (((D0.out.more Hm3.out).other (by omega) _ _).other (by omega) _ _)) ?_; clear hK K;refine J02 rfl (by kernel_rfl) (fun K hK => ?_); go_simp;refine hK _ _ ((HS.out _).2 (((((D0.out.more Hm3.out).other (by omega) _ _).other (by omega) _ _).other (by omega) _ _).other (by omega) _ _)) ?_; clear hK K;refine J04 ?_;clear k0 k1 hne HS0;go_wp2;refine bodyPost_ret (v := .tuple #[.agg #[.slice a' rl c', .slice (some ⟨gc, 0, none⟩) sn cap], .agg #[V 0, V 0]]) (by simp [results, Tryz.results8, go_sem, *]) rfl ?_;have hzW := HmW.out.size;have hz0 := (D2.out).lt;have hg := Hreg2.out.2.1;have hgc := Hcode3.out.1;refine ⟨(0, f2), HT.out, ?_, .inl ⟨rfl, ⟨a', g, 0, c', some ⟨gc, 0, none⟩, gc, 0, cap⟩, ⟨?_, fun _ => rfl, ?_, ?_⟩, ?_⟩⟩
    · exact ((((((Hm0.out.trans HmW.out).trans Hm3.out).setCell (by show w.heap.size <= _; simp) _).setCell (by show w.heap.size <= _; simp) _).setCell (by show w.heap.size <= _; simp; omega) _).setCell (by show w.heap.size <= _; simp; omega) _)
    · intro h
      exact Hreg2.out.1 (by rw [<- Hrl.out]; exact h)
    · have := (((Hreg3.out.other (b' := w.heap.size + 1) (by omega) 0 (.slice a' rl c')).other (b' := w.heap.size + 1) (by omega) 1 (.slice (some ⟨gc, 0, none⟩) sn cap)).other (b' := w.heap.size + 1 + 1) (by omega) 0 (V 0)).other (b' := w.heap.size + 1 + 1) (by omega) 1 (V 0)
      rw [<- Hrl.out] at this |-;exact this
    · have := (((Hcode3.out.2.other (b' := w.heap.size + 1) (by omega) 0 (.slice a' rl c')).other (b' := w.heap.size + 1) (by omega) 1 (.slice (some ⟨gc, 0, none⟩) sn cap)).other (b' := w.heap.size + 1 + 1) (by omega) 0 (V 0)).other (b' := w.heap.size + 1 + 1) (by omega) 1 (V 0)
      rw [<- Hsn.out] at this |-;exact this
    · unfold prgV hardP
      dsimp only;rw [Hrl.out, Hsn.out]
  · have e0 : (f1 == 0) = false := by simp [h0]
    have e1 : (f1 != 0) = true := by simp [h0]
    have H0 : Hid (¬ f1 = 0) := h0;clear h0 C2 C3;obtain ⟨S, HS⟩ : ∃ S : World -> Prop, Hid (∀ w', S w' ↔ Blk w' w1.heap.size #[V f1, V f2] 30) := ⟨_, fun _ => Iff.rfl⟩;have HS0 : S W.drew := (HS.out _).2 D3.out;have k0 : ∀ i : { w' // S w' }, i.val.cell? ⟨w1.heap.size, 0, none⟩ = some (V f1) := fun i => ((HS.out _).1 i.property).cell rfl
    have k1 : ∀ i : { w' // S w' }, i.val.cell? ⟨w1.heap.size, 1, none⟩ = some (V f2) := fun i => ((HS.out _).1 i.property).cell rfl
    have hne : Nonempty { w' // S w' } := ⟨⟨_, HS0⟩⟩;have hz1 := Hz1.out;have a0 : W.cell? ⟨w.heap.size + 1, 0, none⟩ = some (.slice none 0 0) := D1.out.cell rfl;have a1 : W.cell? ⟨w.heap.size + 1, 1, none⟩ = some (.slice none 0 0) := D1.out.cell rfl;have a2 : W.cell? ⟨w.heap.size + 1 + 1, 0, none⟩ = some (V 0) := D2.out.cell rfl;have a3 : W.cell? ⟨w.heap.size + 1 + 1, 1, none⟩ = some (V 0) := D2.out.cell rfl;have z0 := D1.out.frozen 0;have z1 := D1.out.frozen 1;have z2 := D2.out.frozen 0;have z3 := D2.out.frozen 1;go_wp2_with (fail)
    rw [<- HW.out];refine J03 (S := S) [(0, true), (1, true), (2, false), (3, false)] (by kernel_rfl) (by kernel_rfl) (by kernel_rfl) HS0 ?_
    iterate 2 (refine J00 rfl (by kernel_rfl) (fun K hK => ?_); go_simp; refine hK _ _ ?_; clear hK K)
    refine J02 rfl (by kernel_rfl) (fun K hK => ?_); go_simp;refine hK _ _ ((HS.out _).2 ((D3.out.other (by omega) _ _).other (by omega) _ _)) ?_; clear hK K;refine J02 rfl (by kernel_rfl) (fun K hK => ?_); go_simp;refine hK _ _ ((HS.out _).2 ((((D3.out.other (by omega) _ _).other (by omega) _ _).other (by omega) _ _).other (by omega) _ _)) ?_; clear hK K;refine J04 ?_;clear k0 k1 hne HS0;go_wp2;refine bodyPost_ret (v := .tuple #[.agg #[.slice none 0 0, .slice none 0 0], .agg #[V f1, V f2]]) (by simp [results, Tryz.results8, go_sem, *]) rfl ?_;refine ⟨(f1, f2), HT.out, ?_, .inr ⟨H0.out, rfl⟩⟩;exact (((((Hm0.out.trans HmW.out).setCell (by show w.heap.size <= _; simp) _).setCell (by show w.heap.size <= _; simp) _).setCell (by show w.heap.size <= _; simp; omega) _).setCell (by show w.heap.size <= _; simp; omega) _).drew
end
section
open Go.RowKit
set_option linter.unusedSimpArgs false
set_option linter.unusedVariables false
structure RelF (st : Nat -> Nat) (s t : St) : Prop where
 at_ : t.at_ = st s.at_
 r : t.r = s.r
 m : t.m = s.m

section
variable {p h : Prg} {st : Nat -> Nat} {pre post : Nat -> Bool} {l : KV} {m : Mem} {s t : St}

theorem Fnc.lt (S : Fnc p h st pre post) {k o : Nat} (hk : k < p.cl) (ho : o < sizeF pre post k) : st k + o < h.cl := by
 have := S.mono p.cl k hk (Nat.le_refl _);rw [S.cl]; omega

theorem Jmo (S : Fnc p h st pre post) (hk : s.at_ < p.cl) (R : RelF st s t) : ∃ t', t'.at_ = st s.at_ + (pre s.at_).toNat /\ t'.r = s.r /\ t'.m = s.m /\ ∀ f k, ∃ k', runI h (f + (pre s.at_).toNat) k t = runI h f k' t' := by
 rcases J2j (pre s.at_) with ⟨a, b⟩ | ⟨a, b⟩
 ·rw [b]
  have e := S.ahead s.at_ hk a;rw [<- R.at_] at e;have hat : t.at_ < h.cl := by rw [R.at_]; exact S.lt (o := 0) hk (J3a pre post _).1
  exact ⟨⟨t.at_ + 1, t.r, t.m, _⟩, by show t.at_ + 1 = _; rw [R.at_], R.r, R.m, fun f k => ⟨k + 1, Ja2 hat (J3b e (by decide) (by decide) (by decide) (by decide) (by decide) (by decide) (by decide))⟩⟩
 ·rw [b]
  exact ⟨t, by rw [R.at_]; rfl, R.r, R.m, fun f k => ⟨k, rfl⟩⟩
theorem Jle (S : Fnc p h st pre post) {n : Nat} (hk : n < p.cl) (ht : t.at_ = st n + (pre n).toNat + 1) : ∃ t', t'.at_ = st (n + 1) /\ t'.r = t.r /\ t'.m = t.m /\ ∀ f k, ∃ k', runI h (f + (post n).toNat) k t = runI h f k' t' := by
 have en := S.next n hk;have sz : sizeF pre post n = (pre n).toNat + 1 + (post n).toNat := rfl;rcases J2j (post n) with ⟨a, b⟩ | ⟨a, b⟩
 ·rw [b]
  have e := S.behind n hk a;rw [<- ht] at e;have hat : t.at_ < h.cl := by rw [ht, Nat.add_assoc]; exact S.lt hk (by omega)
  exact ⟨⟨t.at_ + 1, t.r, t.m, _⟩, by show t.at_ + 1 = _; omega, rfl, rfl, fun f k => ⟨k + 1, Ja2 hat (J3b e (by decide) (by decide) (by decide) (by decide) (by decide) (by decide) (by decide))⟩⟩
 ·rw [b]
  exact ⟨t, by omega, rfl, rfl, fun f k => ⟨k, rfl⟩⟩

theorem Jfo (S : Fnc p h st pre post) (g : Good p m l) (hs : Sound p m l s) (R : RelF st s t) :
  (∃ s' n t1 t', stepI p s = (s', some (1, s.r (p.ins s.at_).a.toNat)) /\ n <= 1 /\ (∀ f k, ∃ k', runI h (f + n) k t = runI h f k' t1) /\ t1.at_ < h.cl /\ stepI h t1 = (t', some (1, s.r (p.ins s.at_).a.toNat)) /\ t'.m = s'.m) \/
  ∃ s', stepI p s = (s', none) /\ Sound p m l s' /\ ∃ n t', n <= 3 /\ RelF st s' t' /\ ∀ f k, ∃ k', runI h (f + n) k t = runI h f k' t' := by
 have ha := hs.at_;have sz : sizeF pre post s.at_ = (pre s.at_).toNat + 1 + (post s.at_).toNat := rfl;have b1 := J2j (pre s.at_);have b2 := J2j (post s.at_);obtain ⟨t1, c1, c2, c3, c4⟩ := Jmo S ha R;have hat : t1.at_ < h.cl := by rw [c1]; exact S.lt ha (by omega)
 by_cases h9 : (p.ins s.at_).op = 9
 ·have e := S.copy s.at_ ha (by omega)
  rw [<- c1] at e;have e2 := J5v e h9;rw [c2] at e2;exact .inl ⟨_, _, t1, _, J5v rfl h9, by omega, c4, hat, e2, c3⟩
 right;rcases g.step hs with ⟨_, _, _, q, _⟩ | ⟨s', es, hs'⟩
 ·exact absurd q h9
 refine ⟨s', es, hs', ?_⟩;obtain ⟨k, ek, hk⟩ := hs.kn
 have on : ∀ t2, stepI h t1 = (t2, none) -> t2.at_ = t1.at_ + 1 -> s'.at_ = s.at_ + 1 -> t2.r = s'.r -> t2.m = s'.m -> ∃ n t', n <= 3 /\ RelF st s' t' /\ ∀ f k, ∃ k', runI h (f + n) k t = runI h f k' t' := fun t2 d1 d2 d3 d4 d5 => by
  obtain ⟨t3, f1, f2, f3, f4⟩ := Jle S (t := t2) ha (by rw [d2, c1]);refine ⟨(post s.at_).toNat + 1 + (pre s.at_).toNat, t3, by omega, ⟨by rw [f1, d3], f2.trans d4, f3.trans d5⟩, fun f k => ?_⟩;obtain ⟨k1, g1⟩ := c4 (f + (post s.at_).toNat + 1) k;obtain ⟨k2, g2⟩ := f4 f (k1 + 1);exact ⟨k2, by rw [show f + ((post s.at_).toNat + 1 + (pre s.at_).toNat) = f + (post s.at_).toNat + 1 + (pre s.at_).toNat by omega, g1, Ja2 hat d1, g2]⟩
 have off : ∀ t2, stepI h t1 = (t2, none) -> RelF st s' t2 -> ∃ n t', n <= 3 /\ RelF st s' t' /\ ∀ f k, ∃ k', runI h (f + n) k t = runI h f k' t' := fun t2 d1 d2 =>
  ⟨1 + (pre s.at_).toNat, t2, by omega, d2, fun f k => by
   obtain ⟨k1, g1⟩ := c4 (f + 1) k;exact ⟨k1 + 1, by rw [show f + (1 + (pre s.at_).toNat) = f + 1 + (pre s.at_).toNat by omega, g1, Ja2 hat d1]⟩⟩
 by_cases h7 : (p.ins s.at_).op = 7
 ·have e := S.go s.at_ ha (.inl h7)
  rw [<- c1] at e;rw [J89 rfl h7] at es;obtain ⟨rfl, _⟩ := Prod.mk.inj es;refine off _ (J89 e h7) ⟨?_, c2, c3⟩;dsimp only;rw [Int.toNat_natCast]
 by_cases h8 : (p.ins s.at_).op = 8
 ·have e := S.go s.at_ ha (.inr h8)
  rw [<- c1] at e;rw [J5u rfl h8] at es;obtain ⟨rfl, _⟩ := Prod.mk.inj es;have e2 := J5u e h8;dsimp only at e2;rw [Int.toNat_natCast, c2, c3] at e2;by_cases q : J0u (p.ins s.at_).c (s.r (p.ins s.at_).a.toNat) (s.r (p.ins s.at_).b.toNat) = true
  ·rw [if_pos q] at e2
   exact off _ e2 ⟨by dsimp only; rw [if_pos q], rfl, rfl⟩
  ·rw [if_neg q] at e2
   exact on _ e2 rfl (by dsimp only; rw [if_neg q]) rfl rfl
 have e := S.copy s.at_ ha (by omega);rw [<- c1] at e;by_cases hop : (p.ins s.at_).op = 3 \/ (p.ins s.at_).op = 4 \/ (p.ins s.at_).op = 5 \/ (p.ins s.at_).op = 6
 ·obtain ⟨hw, _, _⟩ := g.word hs ek hk hop
  have hw2 := hw;rw [<- c2, <- c3] at hw2;by_cases hld : (p.ins s.at_).op = 3 \/ (p.ins s.at_).op = 5
  ·rw [J54 rfl hld hw] at es
   obtain ⟨rfl, _⟩ := Prod.mk.inj es;exact on _ (J54 e hld hw2) rfl rfl (by dsimp only; rw [c2, c3]) c3
  ·rw [J90 rfl (by omega) hw] at es
   obtain ⟨rfl, _⟩ := Prod.mk.inj es;exact on _ (J90 e (by omega) hw2) rfl rfl c2 (by dsimp only; rw [c2, c3])
 ·rw [J3b rfl (by omega) (by omega) (by omega) (by omega) h7 h8 h9] at es
  obtain ⟨rfl, _⟩ := Prod.mk.inj es;exact on _ (J3b e (by omega) (by omega) (by omega) (by omega) h7 h8 h9) rfl rfl (by dsimp only; rw [c2]) c3

theorem Jcw (S : Fnc p h st pre post) (g : Good p m l) : ∀ (f F k k' : Nat) (s t : St), Sound p m l s -> RelF st s t -> 3 * f <= F ->
  (runI p f k s).fin = 0 \/ ((runI h F k' t).fin = (runI p f k s).fin /\ (runI h F k' t).val = (runI p f k s).val /\ (runI h F k' t).mem.Like (runI p f k s).mem)
 | 0, F, k, k', s, t, _, _, _ => .inl rfl
 | f + 1, F, k, k', s, t, hs, R, hF => by
  have ha := hs.at_;rcases Jfo S g hs R with ⟨s', n, t1, t', e1, hn, hr, hat, e2, e3⟩ | ⟨s', e1, hs', n, t', hn, R', hr⟩
  ·right
   obtain ⟨G, rfl⟩ : ∃ G, F = G + 1 + n := ⟨F - 1 - n, by omega⟩;obtain ⟨k2, e4⟩ := hr (G + 1) k';rw [e4, runI, runI, if_neg (by omega), if_neg (by omega), e1, e2];dsimp only;rw [e3];exact ⟨rfl, rfl, Mem.like_refl _⟩
  ·obtain ⟨G, rfl⟩ : ∃ G, F = G + n := ⟨F - n, by omega⟩
   obtain ⟨k2, e4⟩ := hr G k';rw [e4, Ja2 (h := p) ha e1];exact Jcw S g f G (k + 1) k2 s' t' hs' R' (by omega)

theorem Jke (S : Fnc p h st pre post) (ok : p.Ok 200 8) (hn : ∀ i, i < p.cl -> B64 (p.ins i).n) (hk : Known p l) (hc : (J09 p l).1 = 0) (top : Nat) : J8b p h 4 top := fun m hf hw f _ => by
 have g : Good p m l := ⟨ok, hn, hf, hk, hc⟩;exact Jcw S g f (4 * f + 4) 0 0 _ _ (g.begin_ hw) ⟨S.s0.symm, rfl, rfl⟩ (by omega)

theorem Fnc.from_ (S : Fnc p h st pre post) : ∀ (n : Nat), n <= p.cl -> ∀ q, q < st n -> ∃ k o, k < n /\ o < sizeF pre post k /\ q = st k + o
 | 0, _, q, hq => by rw [S.s0] at hq; omega
 | n + 1, hn, q, hq => by
  have e := S.next n (by omega);by_cases c : q < st n
  ·obtain ⟨k, o, h1, h2, h3⟩ := S.from_ n (by omega) q c
   exact ⟨k, o, by omega, h2, h3⟩
  ·exact ⟨n, q - st n, by omega, by omega, by omega⟩
theorem Fnc.most (S : Fnc p h st pre post) : ∀ (n : Nat), n <= p.cl -> n <= st n /\ st n <= 3 * n
 | 0, _ => by rw [S.s0]; omega
 | n + 1, hn => by
  have e := S.next n (by omega);have := S.most n (by omega);have := J3a pre post n;omega

theorem Jjh (S : Fnc p h st pre post) (ok : p.Ok 200 8) (hf : p.Fit) (q : Nat) (hq : q < h.cl) : InsOk h.rl h.log h.cl 10 (h.ins q) /\ (h.ins q).fits := by
 rw [S.cl] at hq;obtain ⟨k, o, hk, ho, rfl⟩ := S.from_ p.cl (Nat.le_refl _) q hq;have hi := ok.2.2.2 k hk;have hfit := hf.ins k hk;unfold Ins.fits at hfit;rw [<- S.rl];have small := S.most p.cl (Nat.le_refl _);have c200 := ok.2.2.1;have sz : sizeF pre post k = (pre k).toNat + 1 + (post k).toNat := rfl;have b1 := J2j (pre k);have b2 := J2j (post k)
 have fence : h.ins (st k + o) = J21 -> InsOk p.rl h.log h.cl 10 (h.ins (st k + o)) /\ (h.ins (st k + o)).fits := fun e => by
  rw [e];refine ⟨by unfold InsOk J21; simp, ?_⟩;unfold Ins.fits J21 I64
  simp
 by_cases c : o = (pre k).toNat
 ·subst c
  by_cases w : (p.ins k).op = 7 \/ (p.ins k).op = 8
  ·rw [S.go k hk w]
   have hn : Plc p.cl (p.ins k).n := by unfold InsOk at hi; rcases w with w | w <;> simp [w] at hi <;> simp [hi]
   unfold Plc at hn;have hn2 : (p.ins k).n.toNat < p.cl := by omega
   have hlt := S.lt (o := 0) hn2 (J3a pre post _).1;rw [Nat.add_zero] at hlt;have hcl := S.cl;have hP : Plc h.cl (st (p.ins k).n.toNat : Int) := by unfold Plc; omega
   refine ⟨?_, ⟨hfit.1, hfit.2.1, hfit.2.2.1, hfit.2.2.2.1, by unfold I64; dsimp only; omega⟩⟩;unfold InsOk Reg at hi;unfold InsOk Reg;rcases w with w | w <;> simp [w] at hi <;> simp [w, hP]
   ·exact ⟨hi.1, hi.2.1, hi.2.2.1⟩
   ·omega
  ·rw [S.copy k hk w]
   exact ⟨Jcm hi (fun c hc => (S.reg c hc).1) w, hfit⟩
 ·by_cases d : o < (pre k).toNat
  ·obtain rfl : o = 0 := by omega
   refine fence ?_;exact S.ahead k hk (by rcases b1 with ⟨a, _⟩ | ⟨_, a⟩; exact a; omega)
  ·obtain rfl : o = (pre k).toNat + 1 := by omega
   refine fence ?_;exact S.behind k hk (by rcases b2 with ⟨a, _⟩ | ⟨_, a⟩; exact a; omega)

theorem Jkc (S : Fnc p h st pre post) (ok : p.Ok 200 8) (hf : p.Fit) : Like8 p h := by
 have small := S.most p.cl (Nat.le_refl _);have c200 := ok.2.2.1;have c1 := ok.2.1;have hcl := S.cl;refine ⟨⟨⟨by rw [<- S.rl]; exact ok.1.1, fun i hi => ?_⟩, by omega, by omega, fun q hq => (Jjh S ok hf q hq).1⟩, ⟨by rw [<- S.rl]; exact hf.rl, ?_, fun i hi => ?_, fun q hq => (Jjh S ok hf q hq).2⟩, S.rl, S.reg⟩
 ·rw [<- (S.reg i (by rw [S.rl]; exact hi)).1]; exact ok.1.2 i (by rw [S.rl]; exact hi)
 ·have : 600 <= maxLen := by decide
  omega
 ·rw [<- (S.reg i (by rw [S.rl]; exact hi)).1]; exact hf.log i (by rw [S.rl]; exact hi)

theorem Jk9 (S : Fnc p h st pre post) (ok : p.Ok 200 8) (hf : p.Fit) {l : KV} (hk : Known p l) (hc : (J09 p l).1 = 0) : Like8 p h /\ J8b p h 4 1000 /\ Still h :=
 have hn : ∀ i, i < p.cl -> B64 (p.ins i).n := fun i hi => (hf.ins i hi).2.2.2.2
 ⟨Jkc S ok hf, Jke S ok hn hk hc 1000, Jh8 ok hn hk hc S⟩
end
end
section
open Go.RowKit
set_option linter.unusedSimpArgs false
set_option linter.unusedVariables false
set_option maxRecDepth 8000
def Je1 (p h : Prg) : Prop := p.Ok 200 8 /\ (∃ lk, Known p lk /\ (J09 p lk).1 = 0) /\ h = fencP p
theorem J6i {p h : Prg} (hf : p.Fit) (k : Je1 p h) : Like8 p h /\ J8b p h 4 1000 /\ Still h := by
  obtain ⟨ok, ⟨lk, hk, hc⟩, rfl⟩ := k;exact Jk9 (Jed p) ok hf hk hc

def MadeF (p : Prg) (w : World) (e : Ending) (w' : World) : Prop :=
  ∃ f : Int × Int, Told p f /\ More w w' /\
    ((f.1 = 0 /\ ∃ lh : Loc, PIn w' (fencP p) lh /\ e = .returned (.tuple #[prgV (fencP p) lh, .agg #[V 0, V 0]])) \/
     (¬ f.1 = 0 /\ e = .returned (.tuple #[.agg #[.slice none 0 0, .slice none 0 0], .agg #[V f.1, V f.2]])))

theorem Jar (p : Prg) (l : Loc) (w : World) (hp : PIn w p l) (hf : p.Fit) : Calls Tryz.prog 9 #[prgV p l] w (MadeF p w) := by
  unfold prgV;have C1 : Hid (∀ w1 : World, More w w1 -> Calls Tryz.prog 18 #[.agg #[.slice l.ra p.rl l.rc, .slice l.ca p.cl l.cc]] w1 fun e w' => ∃ f : Int × Int, Told p f /\ e = .returned (.agg #[V f.1, V f.2]) /\ More w1 w') := fun w1 m1 => J80 p l w1 (hp.more m1) hf
  have C2 : Hid (p.Ok 200 8 -> ∀ w1 : World, More w w1 -> Calls Tryz.prog 19 #[.slice l.ra p.rl l.rc] w1 fun e w' => ∃ (a' : Option Addr) (g c' : Nat), e = .returned (.slice a' p.rl c') /\ (0 < p.rl -> a' = some ⟨g, 0, none⟩) /\ w1.heap.size <= g /\ RegsAt w' g 0 p.rl p.log p.sec /\ More w1 w') := fun ok w1 m1 =>
    J6c l.ra p.rl l.rc l.rb l.ro p.log p.sec w1 hp.hr (hp.regs.more m1) ok.1.1
  have C3 : Hid (p.Ok 200 8 -> ∀ w1 : World, More w w1 -> Calls Tryz.prog 21 #[.slice l.ca p.cl l.cc] w1 fun e w' => ∃ gc cap, e = .returned (.slice (some ⟨gc, 0, none⟩) (J10 p p.cl) cap) /\ w1.heap.size <= gc /\ CodeAt w' gc 0 (J10 p p.cl) (hardG (fencK p) p.cl) /\ More w1 w') := fun ok w1 m1 => J9f p l w1 (hp.more m1) ok
  clear hp hf;obtain ⟨ra, Hra⟩ : ∃ x, Hid (l.ra = x) := ⟨_, rfl⟩;obtain ⟨rl, Hrl⟩ : ∃ x, Hid (p.rl = x) := ⟨_, rfl⟩;obtain ⟨rc, Hrc⟩ : ∃ x, Hid (l.rc = x) := ⟨_, rfl⟩;obtain ⟨ca, Hca⟩ : ∃ x, Hid (l.ca = x) := ⟨_, rfl⟩;obtain ⟨cl, Hcl⟩ : ∃ x, Hid (p.cl = x) := ⟨_, rfl⟩;obtain ⟨cc, Hcc⟩ : ∃ x, Hid (l.cc = x) := ⟨_, rfl⟩;obtain ⟨sn, Hsn⟩ : ∃ x, Hid (J10 p p.cl = x) := ⟨_, rfl⟩;rw [Hsn.out] at C3;rw [Hca.out, Hcc.out] at C3
  have C3b : Hid (p.Ok 200 8 -> ∀ w1 : World, More w w1 -> Calls Tryz.prog 21 #[.slice ca cl cc] w1 fun e w' => ∃ gc cap, e = .returned (.slice (some ⟨gc, 0, none⟩) sn cap) /\ w1.heap.size <= gc /\ CodeAt w' gc 0 sn (hardG (fencK p) p.cl) /\ More w1 w') := by
    have := C3.out;rw [Hcl.out] at this |-;exact this
  rw [Hra.out, Hrl.out, Hrc.out, Hca.out, Hcl.out, Hcc.out] at C1 |-;clear C3;have C3 := C3b;clear C3b;rw [Hra.out, Hrl.out, Hrc.out] at C2;go_enter Tryz.func9, Tryz.ntmps9;obtain ⟨W0, HW0⟩ : ∃ W : World, Hid (W = ((w.alloc (.cells #[.slice ra rl rc, .slice ca cl cc] 25)).alloc (.cells #[.slice none 0 0, .slice none 0 0] 25)).alloc (.cells #[V 0, V 0] 30)) := ⟨_, rfl⟩;have Hm0 : Hid (More w W0) := HW0.out ▸ (((More.refl _).alloc _ _).alloc _ _).alloc _ _;have B0 : Hid (Blk W0 w.heap.size #[.slice ra rl rc, .slice ca cl cc] 25) := HW0.out ▸ (((Blk.last _ _ _).alloc _ _).alloc _ _);have B1 : Hid (Blk W0 (w.heap.size + 1) #[.slice none 0 0, .slice none 0 0] 25) := HW0.out ▸ ((by simpa using Blk.last (w.alloc (.cells #[.slice ra rl rc, .slice ca cl cc] 25)) #[.slice none 0 0, .slice none 0 0] 25 : Blk _ (w.heap.size + 1) _ _).alloc _ _);have B2 : Hid (Blk W0 (w.heap.size + 1 + 1) #[V 0, V 0] 30) := HW0.out ▸ (by simpa using Blk.last ((w.alloc (.cells #[.slice ra rl rc, .slice ca cl cc] 25)).alloc (.cells #[.slice none 0 0, .slice none 0 0] 25)) #[V 0, V 0] 30 : Blk _ (w.heap.size + 1 + 1) _ _);go_wp2_with (fail)
  rw [<- HW0.out];refine (C1.out W0 Hm0.out).mono ?_;rintro e w1 ⟨⟨f1, f2⟩, hT, rfl, m1⟩;dsimp only;have HT : Hid (Told p (f1, f2)) := hT;have Hm1 : Hid (More W0 w1) := m1;clear hT m1 C1;obtain ⟨W, HW⟩ : ∃ W : World, Hid (W = w1.alloc (.cells #[V f1, V f2] 30)) := ⟨_, rfl⟩;have HmW : Hid (More W0 W) := by rw [HW.out]; exact Hm1.out.alloc _ _
  have D0 : Hid (Blk W w.heap.size #[.slice ra rl rc, .slice ca cl cc] 25) := B0.out.more HmW.out;have D1 : Hid (Blk W (w.heap.size + 1) #[.slice none 0 0, .slice none 0 0] 25) := B1.out.more HmW.out;have D2 : Hid (Blk W (w.heap.size + 1 + 1) #[V 0, V 0] 30) := B2.out.more HmW.out;have D3 : Hid (Blk W w1.heap.size #[V f1, V f2] 30) := by rw [HW.out]; exact Blk.last _ _ _
  have Hz1 : Hid (w.heap.size + 3 <= w1.heap.size) := by
    have h1 := (B2.out.more Hm1.out).lt;show _ <= _;omega
  by_cases h0 : f1 = 0
  · subst h0
    obtain ⟨hok, lk, hk, hk0⟩ := HT.out.ok rfl;have HO : Hid (p.Ok 200 8) := hok;clear hok hk hk0;have C2' : Hid (∀ w1 : World, More w w1 -> Calls Tryz.prog 19 #[.slice ra rl rc] w1 fun e w' => ∃ (a' : Option Addr) (g c' : Nat), e = .returned (.slice a' rl c') /\ (0 < rl -> a' = some ⟨g, 0, none⟩) /\ w1.heap.size <= g /\ RegsAt w' g 0 rl p.log p.sec /\ More w1 w') := C2.out HO.out;have C3' : Hid (∀ w1 : World, More w w1 -> Calls Tryz.prog 21 #[.slice ca cl cc] w1 fun e w' => ∃ gc cap, e = .returned (.slice (some ⟨gc, 0, none⟩) sn cap) /\ w1.heap.size <= gc /\ CodeAt w' gc 0 sn (hardG (fencK p) p.cl) /\ More w1 w') := C3.out HO.out;clear C2 C3;obtain ⟨S, HS⟩ : ∃ S : World -> Prop, Hid (∀ w', S w' ↔ Blk w' w.heap.size #[.slice ra rl rc, .slice ca cl cc] 25) := ⟨_, fun _ => Iff.rfl⟩;have HS0 : S W.drew := (HS.out _).2 D0.out;have k0 : ∀ i : { w' // S w' }, i.val.cell? ⟨w.heap.size, 0, none⟩ = some (.slice ra rl rc) := fun i => ((HS.out _).1 i.property).cell rfl
    have k1 : ∀ i : { w' // S w' }, i.val.cell? ⟨w.heap.size, 1, none⟩ = some (.slice ca cl cc) := fun i => ((HS.out _).1 i.property).cell rfl
    have hne : Nonempty { w' // S w' } := ⟨⟨_, HS0⟩⟩;go_wp2_with (fail)
    rw [<- HW.out];refine J03 (S := S) [(0, true), (1, true), (3, true), (4, true), (7, true), (2, false), (5, false), (6, true), (8, false), (9, false)] (by kernel_rfl) (by kernel_rfl) (by kernel_rfl) HS0 ?_
    iterate 5 (refine J00 rfl (by kernel_rfl) (fun K hK => ?_); go_simp; refine hK _ _ ?_; clear hK K)
    refine J02 rfl (by kernel_rfl) (fun K hK => ?_); go_simp;have HmD : Hid (More w W.drew) := (Hm0.out.trans HmW.out).drew;refine (C2'.out _ HmD.out).mono ?_;rintro e w2 ⟨a', g, c', rfl, ha', hg, hregs, m2⟩;have Hm2 : Hid (More W w2) := (More.refl W).drew.trans m2;have Hreg2 : Hid ((0 < rl -> a' = some ⟨g, 0, none⟩) /\ W.heap.size <= g /\ RegsAt w2 g 0 rl p.log p.sec) := ⟨ha', hg, hregs⟩;clear ha' hg hregs m2
    go_simp
    refine hK _ _ ((HS.out _).2 (D0.out.more Hm2.out)) ?_; clear hK K;refine J02 rfl (by kernel_rfl) (fun K hK => ?_); go_simp;refine (C3'.out w2 ((Hm0.out.trans HmW.out).trans Hm2.out)).mono ?_;rintro e w3 ⟨gc, cap, rfl, hgc, hcode, m3⟩;have Hm3 : Hid (More W w3) := Hm2.out.trans m3;have Hreg3 : Hid (RegsAt w3 g 0 rl p.log p.sec) := Hreg2.out.2.2.more m3;have Hcode3 : Hid (W.heap.size <= gc /\ CodeAt w3 gc 0 sn (hardG (fencK p) p.cl)) := ⟨Nat.le_trans Hm2.out.size hgc, hcode⟩;clear hgc hcode m3;have E1 : Hid (Blk w3 (w.heap.size + 1) #[.slice none 0 0, .slice none 0 0] 25) := D1.out.more Hm3.out;have E2 : Hid (Blk w3 (w.heap.size + 1 + 1) #[V 0, V 0] 30) := D2.out.more Hm3.out;have a0 : w3.cell? ⟨w.heap.size + 1, 0, none⟩ = some (.slice none 0 0) := E1.out.cell rfl;have a1 : w3.cell? ⟨w.heap.size + 1, 1, none⟩ = some (.slice none 0 0) := E1.out.cell rfl;have a2 : w3.cell? ⟨w.heap.size + 1 + 1, 0, none⟩ = some (V 0) := E2.out.cell rfl;have a3 : w3.cell? ⟨w.heap.size + 1 + 1, 1, none⟩ = some (V 0) := E2.out.cell rfl;have z0 := E1.out.frozen 0;have z1 := E1.out.frozen 1;have z2 := E2.out.frozen 0;have z3 := E2.out.frozen 1
    go_simp
    refine hK _ _ ((HS.out _).2 (D0.out.more Hm3.out)) ?_; clear hK K;refine J00 rfl (by kernel_rfl) (fun K hK => ?_); go_simp; refine hK _ _ ?_; clear hK K;refine J02 rfl (by kernel_rfl) (fun K hK => ?_); go_simp;refine hK _ _ ((HS.out _).2 (((D0.out.more Hm3.out).other (by omega) _ _).other (by omega) _ _)) ?_; clear hK K;refine J02 rfl (by kernel_rfl) (fun K hK => ?_); go_simp;refine hK _ _ ((HS.out _).2 (((((D0.out.more Hm3.out).other (by omega) _ _).other (by omega) _ _).other (by omega) _ _).other (by omega) _ _)) ?_; clear hK K;refine J04 ?_;clear k0 k1 hne HS0;go_wp2;refine bodyPost_ret (v := .tuple #[.agg #[.slice a' rl c', .slice (some ⟨gc, 0, none⟩) sn cap], .agg #[V 0, V 0]]) (by simp [results, Tryz.results9, go_sem, *]) rfl ?_;have hzW := HmW.out.size;have hz0 := (D2.out).lt;have hg := Hreg2.out.2.1;have hgc := Hcode3.out.1;refine ⟨(0, f2), HT.out, ?_, .inl ⟨rfl, ⟨a', g, 0, c', some ⟨gc, 0, none⟩, gc, 0, cap⟩, ⟨?_, fun _ => rfl, ?_, ?_⟩, ?_⟩⟩
    · exact ((((((Hm0.out.trans HmW.out).trans Hm3.out).setCell (by show w.heap.size <= _; simp) _).setCell (by show w.heap.size <= _; simp) _).setCell (by show w.heap.size <= _; simp; omega) _).setCell (by show w.heap.size <= _; simp; omega) _)
    · intro h
      exact Hreg2.out.1 (by rw [<- Hrl.out]; exact h)
    · have := (((Hreg3.out.other (b' := w.heap.size + 1) (by omega) 0 (.slice a' rl c')).other (b' := w.heap.size + 1) (by omega) 1 (.slice (some ⟨gc, 0, none⟩) sn cap)).other (b' := w.heap.size + 1 + 1) (by omega) 0 (V 0)).other (b' := w.heap.size + 1 + 1) (by omega) 1 (V 0)
      rw [<- Hrl.out] at this |-;exact this
    · have := (((Hcode3.out.2.other (b' := w.heap.size + 1) (by omega) 0 (.slice a' rl c')).other (b' := w.heap.size + 1) (by omega) 1 (.slice (some ⟨gc, 0, none⟩) sn cap)).other (b' := w.heap.size + 1 + 1) (by omega) 0 (V 0)).other (b' := w.heap.size + 1 + 1) (by omega) 1 (V 0)
      rw [<- Hsn.out] at this |-;exact this
    · unfold prgV fencP fenP
      dsimp only;rw [Hrl.out, show J1f (fenK p (preF p) noF) p.cl = sn from Hsn.out]
  · have e0 : (f1 == 0) = false := by simp [h0]
    have e1 : (f1 != 0) = true := by simp [h0]
    have H0 : Hid (¬ f1 = 0) := h0;clear h0 C2 C3;obtain ⟨S, HS⟩ : ∃ S : World -> Prop, Hid (∀ w', S w' ↔ Blk w' w1.heap.size #[V f1, V f2] 30) := ⟨_, fun _ => Iff.rfl⟩;have HS0 : S W.drew := (HS.out _).2 D3.out;have k0 : ∀ i : { w' // S w' }, i.val.cell? ⟨w1.heap.size, 0, none⟩ = some (V f1) := fun i => ((HS.out _).1 i.property).cell rfl
    have k1 : ∀ i : { w' // S w' }, i.val.cell? ⟨w1.heap.size, 1, none⟩ = some (V f2) := fun i => ((HS.out _).1 i.property).cell rfl
    have hne : Nonempty { w' // S w' } := ⟨⟨_, HS0⟩⟩;have hz1 := Hz1.out;have a0 : W.cell? ⟨w.heap.size + 1, 0, none⟩ = some (.slice none 0 0) := D1.out.cell rfl;have a1 : W.cell? ⟨w.heap.size + 1, 1, none⟩ = some (.slice none 0 0) := D1.out.cell rfl;have a2 : W.cell? ⟨w.heap.size + 1 + 1, 0, none⟩ = some (V 0) := D2.out.cell rfl;have a3 : W.cell? ⟨w.heap.size + 1 + 1, 1, none⟩ = some (V 0) := D2.out.cell rfl;have z0 := D1.out.frozen 0;have z1 := D1.out.frozen 1;have z2 := D2.out.frozen 0;have z3 := D2.out.frozen 1;go_wp2_with (fail)
    rw [<- HW.out];refine J03 (S := S) [(0, true), (1, true), (2, false), (3, false)] (by kernel_rfl) (by kernel_rfl) (by kernel_rfl) HS0 ?_
    iterate 2 (refine J00 rfl (by kernel_rfl) (fun K hK => ?_); go_simp; refine hK _ _ ?_; clear hK K)
    refine J02 rfl (by kernel_rfl) (fun K hK => ?_); go_simp;refine hK _ _ ((HS.out _).2 ((D3.out.other (by omega) _ _).other (by omega) _ _)) ?_; clear hK K;refine J02 rfl (by kernel_rfl) (fun K hK => ?_); go_simp;refine hK _ _ ((HS.out _).2 ((((D3.out.other (by omega) _ _).other (by omega) _ _).other (by omega) _ _).other (by omega) _ _)) ?_; clear hK K;refine J04 ?_;clear k0 k1 hne HS0;go_wp2;refine bodyPost_ret (v := .tuple #[.agg #[.slice none 0 0, .slice none 0 0], .agg #[V f1, V f2]]) (by simp [results, Tryz.results9, go_sem, *]) rfl ?_;refine ⟨(f1, f2), HT.out, ?_, .inr ⟨H0.out, rfl⟩⟩;exact (((((Hm0.out.trans HmW.out).setCell (by show w.heap.size <= _; simp) _).setCell (by show w.heap.size <= _; simp) _).setCell (by show w.heap.size <= _; simp; omega) _).setCell (by show w.heap.size <= _; simp; omega) _).drew

theorem Jas (p : Prg) (l : Loc) (w : World) (hp : PIn w p l) (hf : p.Fit) (ok : p.Ok 200 8) (lk : KV) (hk : Known p lk) (hc : (J09 p lk).1 = 0) : Makes 9 p l (Je1 p) w := by
  unfold Makes;refine (Jar p l w hp hf).mono ?_;rintro e w' ⟨f, hT, m, h | h⟩
  · obtain ⟨h0, lh, hin, rfl⟩ := h
    exact ⟨fencP p, lh, ⟨ok, ⟨lk, hk, hc⟩, rfl⟩, hin, rfl, m⟩
  · have : f = J09 p lk := hT.one (.inr ⟨ok, lk, hk, rfl⟩)
    exact absurd (by rw [this]; exact hc) h.1
def Jc4 (p h : Prg) : Prop := p.Ok 200 8 /\ (∃ lk, Known p lk /\ (J09 p lk).1 = 0) /\ h = hardP p

theorem Jaw {p h : Prg} (hf : p.Fit) (k : Jc4 p h) : Like8 p h := by
 obtain ⟨ok, ⟨lk, hk, hc⟩, rfl⟩ := k;exact Jki (J9l p) ok hf
theorem J9k {p h : Prg} (k : Jc4 p h) : Still h := by
 obtain ⟨ok, ⟨lk, hk, hc⟩, rfl⟩ := k;exact Jhd (J9l p) ok hk hc

theorem Jdn (p : Prg) (l : Loc) (w : World) (hp : PIn w p l) (hf : p.Fit) (ok : p.Ok 200 8) (lk : KV) (hk : Known p lk) (hc : (J09 p lk).1 = 0) : Makes 8 p l (Jc4 p) w := by
 unfold Makes;refine (Jdm p l w hp hf).mono ?_;rintro e w' ⟨f, hT, m, h | h⟩
 ·obtain ⟨h0, lh, hin, rfl⟩ := h
  exact ⟨hardP p, lh, ⟨ok, ⟨lk, hk, hc⟩, rfl⟩, hin, rfl, m⟩
 ·have : f = J09 p lk := hT.one (.inr ⟨ok, lk, hk, rfl⟩)
  exact absurd (by rw [this]; exact hc) h.1
end
end Go.Proofs.YtapagihngaiebaaGreat
