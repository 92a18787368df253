/-
  The texts LdFitting, WdBack, LdTight, LdDoes, LdLike, WdWord, Hard, WdPutD, LdMake, CkPublic, QuietAux, SpecAlike, SpecMore, StepS, Flat, RAux, one behind the other, with what is used of them.
-/
import Derived.Test.YtlbfbjeilfcjeaaGreatJoined8
import Derived.Test.YtlbfbjeilfcjeaaGreatJoined0
import Derived.Test.YtlbfbjeilfcjeaaGreatJoined7
import Derived.Laws.BitsAllLaws
import Derived.Test.YtlbfbjeilfcjeaaGreatJoined3
import Derived.Test.YtlbfbjeilfcjeaaGreatJoined1
import Derived.Test.YtlbfbjeilfcjeaaGreatProg
import Derived.Deep.LoopGhost
import Derived.Test.YtlbfbjeilfcjeaaGreatJoined5
import Derived.WalkKit
import Derived.Laws.IdiomCopy
namespace Go.Proofs.YtlbfbjeilfcjeaaGreat
set_option maxHeartbeats 4000000
section
open Go.RowKit
set_option linter.unusedSimpArgs false
set_option linter.unusedVariables false
set_option maxRecDepth 8000
structure F1 (w0 w : World) (q : Prg) (Lb : Nat) (rv cv : Value) (k : Nat) (ob : Option Nat) (wr : World) : Prop where
 ld : Ld wr Lb rv cv (w.heap.size + 2) (codeG fitL q.ins k) ob
 res : Blk wr w.heap.size #[.slice none 0 0, .slice none 0 0] 25
 room : ∀ j, j < q.cl -> ∃ v, Wr wr (w.heap.size + 1) j v
 done : ∀ j, j < k -> wr.cell? ⟨w.heap.size + 1, j, none⟩ = some (.int .i64 (J0k fitL q.ins j : Nat))
 more : More w0 wr

theorem F1.start {w0 w : World} {q : Prg} {Lb : Nat} {rv cv : Value} (m : More w0 w) (hB : Blk w Lb #[rv, cv, .slice none 0 0] 69) :
  F1 w0 w q Lb rv cv 0 none ((w.alloc (.cells #[.slice none 0 0, .slice none 0 0] 25)).alloc (.cells (madeCells #[.int .i64 0] q.cl) 2)) := by
 have hb : Blk ((w.alloc (.cells #[.slice none 0 0, .slice none 0 0] 25)).alloc (.cells (madeCells #[.int .i64 0] q.cl) 2)) (w.heap.size + 1) (madeCells #[.int .i64 0] q.cl) 2 := by
  simpa using Blk.last (w.alloc (.cells #[.slice none 0 0, .slice none 0 0] 25)) (madeCells #[.int .i64 0] q.cl) 2
 have m2 := ((More.refl w).alloc #[.slice none 0 0, .slice none 0 0] 25).alloc (madeCells #[.int .i64 0] q.cl) 2;exact ⟨⟨by have := hB.lt; omega, none, 0, hB.more m2, World.ownsRow_nil _ _ _ _, rfl⟩, (Blk.last _ _ _).more ((More.refl _).alloc _ _), fun j hj => ⟨_, hb.cell (J8g _ _ _ hj), hb.frozen _⟩, fun j hj => absurd hj (Nat.not_lt_zero _), m.trans m2⟩

theorem F1.mid {w0 w : World} {q : Prg} {Lb : Nat} {rv cv : Value} {k : Nat} {ob : Option Nat} {wr w1 : World} (h : F1 w0 w q Lb rv cv k ob wr) (hL : Lb < w.heap.size) {v : Value}
  (m1 : More (wr.setCell ⟨w.heap.size + 1, k, none⟩ v) w1) : Ld w1 Lb rv cv (w.heap.size + 2) (codeG fitL q.ins k) ob := by
 have g1 : wr.grownBy w1 (some (w.heap.size + 1)) := J4s (J10 (J0j _ _) _ _) m1;obtain ⟨q0, va, vc, q1, q2, q3⟩ := h.ld;refine ⟨q0, va, vc, (g1.block _ q1.lt (by simp; omega)).trans q1, World.ownsRow.kept q2 g1 ?_, q3⟩;cases hv : (Value.slice va (codeG fitL q.ins k).length vc).ownBlock with
 | none => left; rfl
 | some b => right; intro e; have h1 := (q2.lt b hv).1; have := Option.some.inj e; omega
theorem F1.step {w0 w : World} {q : Prg} {Lb : Nat} {rv cv : Value} {k : Nat} {ob : Option Nat} {wr w1 w2 : World} (h : F1 w0 w q Lb rv cv k ob wr) (h0 : w0.heap.size <= Lb) (h00 : w0.heap.size <= w.heap.size) (hL : Lb < w.heap.size) (hk : k < q.cl)
  (m1 : More (wr.setCell ⟨w.heap.size + 1, k, none⟩ (.int .i64 (J0k fitL q.ins k : Nat))) w1) (hl : Lw Lb rv cv (w.heap.size + 2) (codeG fitL q.ins k) (fitL (q.ins k)) ob w1 w2) : ∃ ob', F1 w0 w q Lb rv cv (k + 1) ob' w2 := by
 have hb := h.ld.lo;have g1 : wr.grownBy w1 (some (w.heap.size + 1)) := J4s (J10 (J0j _ _) _ _) m1;obtain ⟨ob', h1, k2⟩ := hl;have nb : ∀ b, b < w.heap.size + 2 -> some b ≠ ob := fun b hb2 e => by have := (hb b e.symm).1; omega
 have r1 : ∀ j, j < q.cl -> ∃ v, Wr w1 (w.heap.size + 1) j v := fun j hj => by
  obtain ⟨v, hv⟩ := h.room j hj;by_cases c : k = j
  ·subst c; exact ⟨_, (hv.same _).kept (m1.grow none) (by simp)⟩
  ·exact ⟨v, (hv.other _ _ _ (.inr c)).kept (m1.grow none) (by simp)⟩
 have d1 : ∀ j, j < k + 1 -> w1.cell? ⟨w.heap.size + 1, j, none⟩ = some (.int .i64 (J0k fitL q.ins j : Nat)) := fun j hj => by
  obtain ⟨v, hv⟩ := h.room j (by omega);refine m1.cell ?_;by_cases c : k = j
  ·subst c; exact (hv.same _).1
  ·rw [World.cell?_setCell_other _ _ _ _ (by intro e; simp only [Addr.mk.injEq] at e; omega)]
   exact h.done j (by omega)
 have g2 : ∀ b, b < w1.heap.size -> b ≠ Lb -> b < w.heap.size + 2 -> w2.heap[b]? = w1.heap[b]? := fun b h1 h2 h3 => k2.block b h1 h2 (nb b h3)
 have hs : w.heap.size + 1 < w1.heap.size := by obtain ⟨v, hv⟩ := r1 k hk; exact J05 hv.1
 refine ⟨ob', h1, ?_, fun j hj => ?_, fun j hj => ?_, ?_⟩
 ·have h2 : Blk w1 w.heap.size #[.slice none 0 0, .slice none 0 0] 25 := (g1.block _ h.res.lt (by simp)).trans h.res
  exact k2.blk h2 (by omega) (nb _ (by omega))
 ·obtain ⟨v, hv⟩ := r1 j hj
  have e := g2 (w.heap.size + 1) hs (by omega) (by omega);exact ⟨v, by rw [World.cell?_of_block (a := ⟨w.heap.size + 1, j, none⟩) e]; exact hv.1, by rw [World.frozen?_of_block (a := ⟨w.heap.size + 1, j, none⟩) e]; exact hv.2⟩
 ·rw [World.cell?_of_block (a := ⟨w.heap.size + 1, j, none⟩) (g2 (w.heap.size + 1) hs (by omega) (by omega))]
  exact d1 j hj
 ·exact k2.more ((h.more.setCell (by show w0.heap.size <= w.heap.size + 1; omega) _).trans m1) h0 (fun b e => by have := (hb b e).1; omega)

theorem J6b {q : Prg} (hq : q.Ok 8000 10) : ∀ n, n <= q.cl -> ∀ i ∈ codeG fitL q.ins n, i.op = 7 \/ i.op = 8 -> 0 <= i.n /\ i.n < q.cl
 | 0, _, i, hi, _ => by simp [codeG] at hi
 | n + 1, hn, i, hi, h => by
  rcases List.mem_append.1 hi with hi | hi
  ·exact J6b hq n (by omega) i hi h
  ·have hI := hq.2.2.2 n (by omega)
   by_cases c : (q.ins n).op = 1 \/ (q.ins n).op = 10
   ·have hs : StrI (q.ins n) := by
     unfold InsOk Reg at hI;rcases c with c | c
     ·simp [c] at hI; exact ⟨by omega, by omega, by omega, by omega⟩
     ·simp [c] at hI; exact ⟨by omega, by omega, by omega, by omega⟩
    exact absurd h (str78 (J50 hs i hi))
   ·rw [J1w (by omega) (by omega)] at hi
    obtain rfl : i = q.ins n := by simpa using hi
    unfold InsOk at hI;rcases h with h | h
    ·simp [h] at hI; exact hI.2.2.2
    ·simp [h] at hI; exact hI.2.2.2
theorem J4u (q : Prg) : ∀ n, n <= J0k fitL q.ins n /\ J0k fitL q.ins n <= 11 * n
 | 0 => ⟨Nat.le_refl _, Nat.le_refl _⟩
 | n + 1 => by
  have := J4u q n;have := J86 (q.ins n);rw [J1o]; omega

theorem Jcl (q : Prg) (l : Loc) (w0 w : World) (Lb : Nat) (m0 : More w0 w) (h0 : w0.heap.size <= Lb) (hp : PIn w0 q l) (hq : q.Ok 8000 10) (h6 : q.cl <= 600) (hB : Blk w Lb #[.slice l.ra q.rl l.rc, .slice l.ca q.cl l.cc, .slice none 0 0] 69) (hn : ∀ k, k < q.cl -> B64 (q.ins k).n) :
  Calls Tryz.prog 21 #[.pointer (some ⟨Lb, 0, none⟩)] w fun e w' => ∃ lf : Loc, e = .returned (prgV (fitP q) lf) /\ PIn w' (fitP q) lf /\ More w0 w' := by
 suffices hP : ∀ P : Ending -> World -> Prop, (∀ gc cap w', PIn w' (fitP q) ⟨l.ra, l.rb, l.ro, l.rc, some ⟨gc, 0, none⟩, gc, 0, cap⟩ -> More w0 w' -> P (.returned (.agg #[.slice l.ra q.rl l.rc, .slice (some ⟨gc, 0, none⟩) (J0k fitL q.ins q.cl) cap])) w') -> Calls Tryz.prog 21 #[.pointer (some ⟨Lb, 0, none⟩)] w P from hP _ (fun gc cap w' h1 h2 => ⟨_, rfl, h1, h2⟩)
 intro P hP0;have Hl : Hid (Lb < w.heap.size /\ w0.heap.size <= Lb /\ w0.heap.size <= w.heap.size) := ⟨hB.lt, h0, m0.size⟩
 have Hfin : Hid (∀ gc cap w' u, CodeAt w' gc 0 (J0k fitL q.ins q.cl) (hardG fitL q.ins q.cl) -> More w0 w' -> w.heap.size < gc -> u = (w'.setCell ⟨w.heap.size, 0, none⟩ (.slice l.ra q.rl l.rc)).setCell ⟨w.heap.size, 1, none⟩ (.slice (some ⟨gc, 0, none⟩) (J0k fitL q.ins q.cl) cap) -> ∀ u', More u u' -> P (.returned (.agg #[.slice l.ra q.rl l.rc, .slice (some ⟨gc, 0, none⟩) (J0k fitL q.ins q.cl) cap])) u') := by
  intro gc cap w' u hc m hg e u' mu;have h2 := Hl.out
  have mm : More w0 u' := by
   refine More.trans ?_ mu;rw [e]; exact (m.setCell (by show w0.heap.size <= w.heap.size; omega) _).setCell (by show w0.heap.size <= w.heap.size; omega) _
  refine hP0 gc cap u' ⟨hp.hr, fun _ => rfl, hp.regs.more mm, ?_⟩ mm;refine CodeAt.more mu ?_;rw [e];exact (hc.other (b' := w.heap.size) (by omega) 0 _).other (b' := w.heap.size) (by omega) 1 _
 have hcl0 := hq.2.1;have hca := hp.hc (by omega);rw [hca] at hB;obtain ⟨ra, Hra⟩ : ∃ x, Hid (l.ra = x) := ⟨_, rfl⟩;obtain ⟨rl, Hrl⟩ : ∃ x, Hid (q.rl = x) := ⟨_, rfl⟩;obtain ⟨rc, Hrc⟩ : ∃ x, Hid (l.rc = x) := ⟨_, rfl⟩;obtain ⟨cb, Hcb⟩ : ∃ x, Hid (l.cb = x) := ⟨_, rfl⟩;obtain ⟨co, Hco⟩ : ∃ x, Hid (l.co = x) := ⟨_, rfl⟩;obtain ⟨cc, Hcc⟩ : ∃ x, Hid (l.cc = x) := ⟨_, rfl⟩;obtain ⟨cl, Hcl⟩ : ∃ x, Hid (q.cl = x) := ⟨_, rfl⟩;rw [Hra.out, Hrl.out, Hrc.out] at Hfin;rw [Hra.out, Hrl.out, Hrc.out, Hcb.out, Hco.out, Hcc.out, Hcl.out] at hB;rw [Hcl.out] at hcl0 h6
 have HC : Hid (∀ w1 : World, More w0 w1 -> CodeAt w1 cb co cl q.ins) := fun w1 m1 => by
  have := hp.code.more m1;rw [Hcb.out, Hco.out, Hcl.out] at this;exact this
 have Hn : Hid (∀ k, k < cl -> B64 (q.ins k).n) := fun k hk => hn k (by rw [Hcl.out]; exact hk)
 have Hst : Hid (∀ k, k <= cl -> J0k fitL q.ins k <= 6600) := fun k hk => by have := J4u q k; omega
 have HS0 : Hid (F1 w0 w q Lb (.slice ra rl rc) (.slice (some ⟨cb, co, none⟩) cl cc) 0 none ((w.alloc (.cells #[.slice none 0 0, .slice none 0 0] 25)).alloc (.cells (madeCells #[.int .i64 0] cl) 2))) := by
  have := F1.start (q := q) m0 hB;rw [Hcl.out] at this;exact this
 have Hq : Hid (q.Ok 8000 10) := hq;have b1 : w.cell? ⟨Lb, 1, none⟩ = some (.slice (some ⟨cb, co, none⟩) cl cc) := hB.cell rfl;have hLb := hB.lt;have ne0 : ¬ w.heap.size = Lb := by omega
 have ne00 : ¬ Lb = w.heap.size := by omega
 have ne01 : ¬ Lb = w.heap.size + 1 := by omega
 have HB : Hid (Blk w Lb #[.slice ra rl rc, .slice (some ⟨cb, co, none⟩) cl cc, .slice none 0 0] 69) := hB;have hmk := run_make_row' (P := Tryz.prog) 65 2 (.int .i64 0) 8 Tryz.underlying65 info2 rfl .i64 .i64 cl (by omega) (by omega);clear hP0 hp hq hca hB hn;go_enter Tryz.func21, Tryz.ntmps21;go_wp2_with (fail)
 clear hmk;go_loopg [21] cl (fun g iv wr => ∃ (k : Nat) (ob : Option Nat), k + g = cl /\ iv = .int .i64 k /\ Hid (F1 w0 w q Lb (.slice ra rl rc) (.slice (some ⟨cb, co, none⟩) cl cc) k ob wr))
 case atStart => exact ⟨0, none, by omega, rfl, HS0.out⟩
 case round =>
  obtain ⟨k, ob, hkg, rfl, Hr⟩ := hrel;clear HS0;cases gk with
  | zero =>
   obtain rfl : k = cl := by omega
   have hn0 : 1 <= J0k fitL q.ins k := by have := J4u q k; omega
   have hn1 := Hst.out k (Nat.le_refl _);obtain ⟨hl1, va, vc, hB1, hO1, _⟩ := Hr.out.ld;obtain ⟨gc, cap, hv, _, _⟩ := hO1.form hn0;cases hv
   have H20 : Hid (H2 fitL q.ins q.cl w0 [(Lb, #[.slice ra rl rc, .slice (some ⟨cb, co, none⟩) k cc, .slice (some ⟨gc, 0, none⟩) (J0k fitL q.ins k) vc], 69), (w.heap.size, #[.slice none 0 0, .slice none 0 0], 25)] (w.heap.size + 1) gc 0 wr) := by
    have h1 := Hr.out;have h2 := Hl.out;have o1 : wr.ownsRow (w.heap.size + 2) 53 5 (.slice (some ⟨gc, 0, none⟩) (J0k fitL q.ins k) vc) (J0k fitL q.ins k) (flatI (codeG fitL q.ins k)) := hO1;rw [<- Hcl.out] at h1 o1 hB1 |-;refine H2.start o1 h1.done (fun x hx => ?_) (by omega) h1.more;simp only [List.mem_cons, List.not_mem_nil, or_false] at hx;rcases hx with rfl | rfl
    ·exact ⟨hB1, by dsimp only; omega⟩
    ·exact ⟨h1.res, by dsimp only; omega⟩
   have Hpl : Hid (∀ j, j < J0k fitL q.ins k -> (mixG fitL q.ins q.cl j j).op = 7 \/ (mixG fitL q.ins q.cl j j).op = 8 -> 0 <= (mixG fitL q.ins q.cl j j).n /\ (mixG fitL q.ins q.cl j j).n < k) := fun j hj h => by
    rw [J6s] at h |-;have := J6b Hq.out q.cl (Nat.le_refl _) _ (List.mem_of_getElem? (Ja9 (L := codeG fitL q.ins q.cl) (j := j) (by rw [Hcl.out]; exact hj) ⟨0, 0, 0, 0, 0⟩)) h;rw [Hcl.out] at this |-;exact this
   have hgc : w.heap.size + 2 <= gc := (hO1.lt gc rfl).1
   have Hend : Hid (∀ bs w' u, H2 fitL q.ins q.cl w0 bs (w.heap.size + 1) gc (J0k fitL q.ins k) w' -> u = (w'.setCell ⟨w.heap.size, 0, none⟩ (.slice ra rl rc)).setCell ⟨w.heap.size, 1, none⟩ (.slice (some ⟨gc, 0, none⟩) (J0k fitL q.ins k) vc) -> ∀ u', More u u' -> P (.returned (.agg #[.slice ra rl rc, .slice (some ⟨gc, 0, none⟩) (J0k fitL q.ins k) vc])) u') := fun bs w' u h2 hu => by
    rw [<- Hcl.out] at h2 hu |-;exact Hfin.out gc vc w' u h2.end_ h2.more (by omega) hu
   clear hO1 hB1 HC Hfin;obtain ⟨sn, Hsn⟩ : ∃ x, Hid (J0k fitL q.ins k = x) := ⟨_, rfl⟩;rw [Hsn.out] at hn0 hn1 Hpl Hend H20;have Hcd : Hid (∀ bs j wr, H2 fitL q.ins q.cl w0 bs (w.heap.size + 1) gc j wr -> ∀ i, i < sn -> InsWr wr gc i (mixG fitL q.ins q.cl j i)) := fun bs j wr h2 i hi => h2.code i (by rw [Hcl.out, Hsn.out]; exact hi)
   have Hsd : Hid (∀ bs j wr, H2 fitL q.ins q.cl w0 bs (w.heap.size + 1) gc j wr -> ∀ i, i < k -> wr.cell? ⟨w.heap.size + 1, i, none⟩ = some (.int .i64 (J0k fitL q.ins i : Nat))) := fun bs j wr h2 i hi => h2.starts i (by rw [Hcl.out]; exact hi)
   obtain ⟨bs, Hbs⟩ : ∃ x : List (Nat × Array Value × TypeId), Hid ([(Lb, #[.slice ra rl rc, .slice (some ⟨cb, co, none⟩) k cc, .slice (some ⟨gc, 0, none⟩) sn vc], 69), (w.heap.size, #[.slice none 0 0, .slice none 0 0], 25)] = x) := ⟨_, rfl⟩;rw [Hbs.out] at H20;have HbL : Hid (∀ j wr, H2 fitL q.ins q.cl w0 bs (w.heap.size + 1) gc j wr -> Blk wr Lb #[.slice ra rl rc, .slice (some ⟨cb, co, none⟩) k cc, .slice (some ⟨gc, 0, none⟩) sn vc] 69) := fun j wr h2 => (h2.box _ (by rw [<- Hbs.out]; exact List.mem_cons_self)).1
   have HbR : Hid (∀ j wr, H2 fitL q.ins q.cl w0 bs (w.heap.size + 1) gc j wr -> Blk wr w.heap.size #[.slice none 0 0, .slice none 0 0] 25) := fun j wr h2 => (h2.box _ (by rw [<- Hbs.out]; exact List.mem_cons_of_mem _ List.mem_cons_self)).1
   have b2 : wr.cell? ⟨Lb, 2, none⟩ = some (.slice (some ⟨gc, 0, none⟩) sn vc) := (HbL.out 0 wr H20.out).cell rfl;obtain ⟨wm, rfl⟩ : ∃ wm, wm = wr := ⟨wr, rfl⟩;go_wp2_with (fail)
   clear b2;go_loopg [43] sn (fun g2 iv wr2 => ∃ j : Nat, j + g2 = sn /\ iv = .int .i64 j /\ Hid (H2 fitL q.ins q.cl w0 bs (w.heap.size + 1) gc j wr2))
   case atStart => exact ⟨0, by omega, rfl, H20.out⟩
   case round =>
    obtain ⟨j, hjg, rfl, Hr2⟩ := hrel;clear H20;have HbLr := HbL.out j wr Hr2.out;have hzL := HbLr.lt;have b2 : wr.cell? ⟨Lb, 2, none⟩ = some (.slice (some ⟨gc, 0, none⟩) sn vc) := HbLr.cell rfl;cases gk with
    | zero =>
     obtain rfl : j = sn := by omega
     obtain ⟨wd, Hwd⟩ : ∃ w_ : World, Hid (w_ = wr.drew) := ⟨_, rfl⟩;have Hmd : Hid (More wr wd) := Hwd.out ▸ (More.refl wr).drew;obtain ⟨S, HS⟩ : ∃ S : World -> Prop, Hid (∀ w', S w' ↔ Blk w' Lb #[.slice ra rl rc, .slice (some ⟨cb, co, none⟩) k cc, .slice (some ⟨gc, 0, none⟩) j vc] 69) := ⟨_, fun _ => Iff.rfl⟩;have HS1 : S wd := (HS.out _).2 (HbLr.more Hmd.out);have HS0 : S wr.drew := Hwd.out ▸ HS1;have k0 : ∀ i : { w' // S w' }, i.val.cell? ⟨Lb, 0, none⟩ = some (.slice ra rl rc) := fun i => ((HS.out _).1 i.property).cell rfl
     have k2 : ∀ i : { w' // S w' }, i.val.cell? ⟨Lb, 2, none⟩ = some (.slice (some ⟨gc, 0, none⟩) j vc) := fun i => ((HS.out _).1 i.property).cell rfl
     have hne : Nonempty { w' // S w' } := ⟨⟨_, HS0⟩⟩;have HR := (HbR.out j wr Hr2.out).more Hmd.out;have r0 : wd.cell? ⟨w.heap.size, 0, none⟩ = some (.slice none 0 0) := HR.cell rfl;have r1 : wd.cell? ⟨w.heap.size, 1, none⟩ = some (.slice none 0 0) := HR.cell rfl;have z0 := HR.frozen 0;have z1 := HR.frozen 1;have zz := HR.lt;have He : Hid (∀ u', More ((wd.setCell ⟨w.heap.size, 0, none⟩ (.slice ra rl rc)).setCell ⟨w.heap.size, 1, none⟩ (.slice (some ⟨gc, 0, none⟩) j vc)) u' -> P (.returned (.agg #[.slice ra rl rc, .slice (some ⟨gc, 0, none⟩) j vc])) u') := fun u' mu => Hend.out bs wd _ (Hr2.out.far Hmd.out) rfl u' mu
     have HSz : Hid (S ((wd.setCell ⟨w.heap.size, 0, none⟩ (.slice ra rl rc)).setCell ⟨w.heap.size, 1, none⟩ (.slice (some ⟨gc, 0, none⟩) j vc))) := (HS.out _).2 ((((HS.out _).1 HS1).other ne0 _ _).other ne0 _ _);clear Hend HbLr HR b2 HS1;go_wp2_with (fail)
     refine J01 (S := S) [(0, true), (1, true), (2, true), (3, true), (4, true), (5, true), (6, true), (7, true), (8, true), (9, true), (10, false)] (by kernel_rfl) (by kernel_rfl) (by kernel_rfl) HS0 ?_;rw [<- Hwd.out]
     iterate 10 (refine J00 rfl (by kernel_rfl) (fun K hK => ?_); go_simp; refine hK _ _ ?_; clear hK K)
     refine J02 rfl (by kernel_rfl) (fun K hK => ?_)
     go_simp
     refine hK _ _ HSz.out ?_;refine J04 ?_;clear hK K k0 k2 hne HS0;go_wp2;refine bodyPost_ret (v := .agg #[.slice ra rl rc, .slice (some ⟨gc, 0, none⟩) j vc]) (by simp [results, Tryz.results21, go_sem, *]) rfl (He.out _ ?_);exact More.refl _
    | succ g =>
     have hj : j < sn := by omega
     have hji : (j : Int) < sn := by omega
     have hj63 : wrap64 ((j : Int) + 1) = (j : Int) + 1 := by unfold wrap64; omega
     have hI := Hcd.out bs j wr Hr2.out j hj;have Hpq := Hpl.out j hj;have Hps : Hid (¬ ((mixG fitL q.ins q.cl j j).op = 7 \/ (mixG fitL q.ins q.cl j j).op = 8) -> ∀ w', More wr w' -> H2 fitL q.ins q.cl w0 bs (w.heap.size + 1) gc (j + 1) w') := fun h w' m => Hr2.out.pass m h
     have Hld : Hid ((mixG fitL q.ins q.cl j j).op = 7 \/ (mixG fitL q.ins q.cl j j).op = 8 -> ∀ w', More wr w' -> H2 fitL q.ins q.cl w0 bs (w.heap.size + 1) gc (j + 1) (w'.setCell ⟨gc, j * 5 + 4, none⟩ (.int .i64 (J0k fitL q.ins (mixG fitL q.ins q.cl j j).n.toNat : Nat)))) := fun h w' m => (Hr2.out.far m).lead h
     obtain ⟨⟨op, a, b, c, n⟩, HI⟩ : ∃ x, Hid (mixG fitL q.ins q.cl j j = x) := ⟨_, rfl⟩;rw [HI.out] at hI Hpq Hps Hld;obtain ⟨⟨c0, _⟩, ⟨c1, _⟩, ⟨c2, _⟩, ⟨c3, _⟩, ⟨c4, f4⟩⟩ := hI;dsimp only at c0 c1 c2 c3 c4 Hpq Hps Hld;have zg := Hr2.out.hi;have hLg : ¬ Lb = gc := by omega
     have hLg2 : ¬ gc = Lb := by omega
     clear HbLr;by_cases h78 : op = 7 \/ op = 8
     ·have hpq := Hpq h78
      obtain ⟨n0, n1⟩ := hpq;obtain ⟨nn, rfl⟩ := Int.eq_ofNat_of_zero_le n0;have hnk : (nn : Int) < (k : Int) := n1;have hsN := Hsd.out bs j wr Hr2.out nn (by omega);have zs := J05 hsN;dsimp only at zs;have Hn2 : Hid (∀ w', More wr w' -> H2 fitL q.ins q.cl w0 bs (w.heap.size + 1) gc (j + 1) (w'.setCell ⟨gc, j * 5 + 4, none⟩ (.int .i64 (J0k fitL q.ins nn : Nat)))) := fun w' m' => Hld.out h78 w' m'
      obtain ⟨sN, HsN⟩ : ∃ x, Hid (J0k fitL q.ins nn = x) := ⟨_, rfl⟩;rw [HsN.out] at hsN Hn2;have ne1 : ¬ wr.heap.size = gc := by omega
      have ne2 : ¬ gc = wr.heap.size := by omega
      clear Hps Hld Hpq n0 n1;have h7c : (op == 7) = true \/ ((op == 7) = false /\ (op == 8) = true) := by rcases h78 with rfl | rfl <;> simp
      clear h78;rcases h7c with e7 | ⟨e7, e8⟩
      all_goals
       obtain ⟨W, HW⟩ : ∃ w_ : World, Hid (w_ = wr.alloc (.cells #[.int .i64 op, .int .i64 a, .int .i64 b, .int .i64 c, .int .i64 nn] 53)) := ⟨_, rfl⟩;have HmW : Hid (More wr W) := HW.out ▸ (More.refl _).alloc _ _;have c44 := (HW.out ▸ Blk.last _ _ _ : Blk W wr.heap.size #[.int .i64 op, .int .i64 a, .int .i64 b, .int .i64 c, .int .i64 nn] 53).cell (j := 4) rfl;obtain ⟨wd, Hwd⟩ : ∃ w_ : World, Hid (w_ = W.drew) := ⟨_, rfl⟩;have Hmd : Hid (More W wd) := Hwd.out ▸ (More.refl W).drew;obtain ⟨S, HS⟩ : ∃ S : World -> Prop, Hid (∀ w', S w' ↔ (w'.cell? ⟨Lb, 2, none⟩ = some (.slice (some ⟨gc, 0, none⟩) sn vc) /\ w'.cell? ⟨wr.heap.size, 4, none⟩ = some (.int .i64 nn) /\ w'.cell? ⟨w.heap.size + 1, nn, none⟩ = some (.int .i64 sN))) := ⟨_, fun _ => Iff.rfl⟩;have HS1 : S wd := (HS.out _).2 ⟨(HmW.out.trans Hmd.out).cell b2, Hmd.out.cell c44, (HmW.out.trans Hmd.out).cell hsN⟩;have HS0 : S W.drew := Hwd.out ▸ HS1;have k0 : ∀ i : { w' // S w' }, i.val.cell? ⟨Lb, 2, none⟩ = some (.slice (some ⟨gc, 0, none⟩) sn vc) := fun i => ((HS.out _).1 i.property).1
       have k1 : ∀ i : { w' // S w' }, i.val.cell? ⟨wr.heap.size, 4, none⟩ = some (.int .i64 nn) := fun i => ((HS.out _).1 i.property).2.1
       have k2 : ∀ i : { w' // S w' }, i.val.cell? ⟨w.heap.size + 1, nn, none⟩ = some (.int .i64 sN) := fun i => ((HS.out _).1 i.property).2.2
       have hne : Nonempty { w' // S w' } := ⟨⟨_, HS0⟩⟩;have x4 : wd.cell? ⟨gc, j * 5 + 4, none⟩ = some (.int .i64 nn) := (HmW.out.trans Hmd.out).cell c4
       have y4 : wd.frozen? ⟨gc, j * 5 + 4, none⟩ = false := by
        rw [World.frozen?_of_block (a := ⟨gc, j * 5 + 4, none⟩) ((HmW.out.trans Hmd.out).block gc zg)]; exact f4
       have HSz : Hid (S (wd.setCell ⟨gc, j * 5 + 4, none⟩ (.int .i64 sN))) := (HS.out _).2 (by
        have h1 := (HS.out _).1 HS1;refine ⟨?_, ?_, ?_⟩
        ·rw [World.cell?_setCell_other _ _ _ _ (by intro e; simp only [Addr.mk.injEq] at e; omega)]; exact h1.1
        ·rw [World.cell?_setCell_other _ _ _ _ (by intro e; simp only [Addr.mk.injEq] at e; omega)]; exact h1.2.1
        ·rw [World.cell?_setCell_other _ _ _ _ (by intro e; simp only [Addr.mk.injEq] at e; omega)]; exact h1.2.2)
       clear HS1 Hcd Hsd HbL HbR Hpl Hend hn0 hn1 hLg hLg2 hcl0 h6;go_wp2_with (fail)
       rw [<- HW.out];refine J01 (S := S) [(0, true), (1, true), (2, true), (3, true), (4, true), (5, true), (6, true), (7, true), (8, true), (9, true), (10, true), (11, true), (12, false)] (by kernel_rfl) (by kernel_rfl) (by kernel_rfl) HS0 ?_;rw [<- Hwd.out]
       iterate 12 (refine J00 rfl (by kernel_rfl) (fun K hK => ?_); go_simp; refine hK _ _ ?_; clear hK K)
       refine J02 rfl (by kernel_rfl) (fun K hK => ?_)
       go_simp
       refine hK _ _ HSz.out ?_;refine J04 ?_;clear hK K k0 k1 k2 hne HS0;go_wp2;go_roundg g
       case measure => omega
       case rel => exact ⟨j + 1, by omega, by simp [hj63], Hn2.out wd (HmW.out.trans Hmd.out)⟩
     ·have e7 : (op == 7) = false := by simp; omega
      have e8 : (op == 8) = false := by simp; omega
      have Hn2 : Hid (∀ w', More wr w' -> H2 fitL q.ins q.cl w0 bs (w.heap.size + 1) gc (j + 1) w') := Hps.out h78;clear h78 Hps Hld Hpq Hcd Hsd HbL HbR Hpl Hend hn0 hn1 hLg hLg2 hcl0 h6;go_wp2;go_roundg g
      case measure => omega
      case rel => exact ⟨j + 1, by omega, by simp [hj63], Hn2.out _ ((More.refl _).alloc _ _)⟩
  | succ g =>
   have hk : k < cl := by omega
   have hki : (k : Int) < cl := by omega
   have hk63 : wrap64 ((k : Int) + 1) = (k : Int) + 1 := by unfold wrap64; omega
   obtain ⟨q0, q1, q2, q3, q4⟩ := HC.out wr Hr.out.more k hk;obtain ⟨_, va, vc, hB1, _, _⟩ := Hr.out.ld;have b2 : wr.cell? ⟨Lb, 2, none⟩ = some (.slice va (J0k fitL q.ins k) vc) := hB1.cell rfl;have hst0 := Hst.out k (by omega);have HS : Hid (∀ w1 w2 : World, More (wr.setCell ⟨w.heap.size + 1, k, none⟩ (.int .i64 (J0k fitL q.ins k : Nat))) w1 -> Lw Lb (.slice ra rl rc) (.slice (some ⟨cb, co, none⟩) cl cc) (w.heap.size + 2) (codeG fitL q.ins k) (fitL (q.ins k)) ob w1 w2 -> ∃ ob', F1 w0 w q Lb (.slice ra rl rc) (.slice (some ⟨cb, co, none⟩) cl cc) (k + 1) ob' w2) := fun w1 w2 m1 hl => Hr.out.step Hl.out.2.1 Hl.out.2.2 Hl.out.1 (by rw [Hcl.out]; exact hk) m1 hl
   have HD : Hid (∀ w1, More (wr.setCell ⟨w.heap.size + 1, k, none⟩ (.int .i64 (J0k fitL q.ins k : Nat))) w1 -> Ld w1 Lb (.slice ra rl rc) (.slice (some ⟨cb, co, none⟩) cl cc) (w.heap.size + 2) (codeG fitL q.ins k) ob) := fun w1 m1 => Hr.out.mid Hl.out.1 m1
   have HF : Hid (∀ w1, Ld w1 Lb (.slice ra rl rc) (.slice (some ⟨cb, co, none⟩) cl cc) (w.heap.size + 2) (codeG fitL q.ins k) ob -> w.heap.size + 2 <= w1.heap.size -> Calls Tryz.prog 41 #[.pointer (some ⟨Lb, 0, none⟩), .agg #[.int .i64 (q.ins k).op, .int .i64 (q.ins k).a, .int .i64 (q.ins k).b, .int .i64 (q.ins k).c, .int .i64 (q.ins k).n]] w1 (Laid Lb (.slice ra rl rc) (.slice (some ⟨cb, co, none⟩) cl cc) (w.heap.size + 2) (codeG fitL q.ins k) (fitL (q.ins k)) ob w1)) := fun w1 h1 h2 => J7f Lb _ _ _ (q.ins k) _ ob w1 h1 h2 (by show J0k fitL q.ins k <= 8800; omega) (Hn.out k hk)
   obtain ⟨rv, hrv, hfz⟩ := Hr.out.room k (by rw [Hcl.out]; exact hk);have hz1 : w.heap.size + 1 < wr.heap.size := J05 hrv;have n1 : ¬ wr.heap.size = w.heap.size + 1 := by omega
   have n2 : ¬ w.heap.size + 1 = wr.heap.size := by omega
   have hzL : Lb < wr.heap.size := by omega
   have n3 : ¬ wr.heap.size = Lb := by omega
   have n4 : ¬ Lb = wr.heap.size := by omega
   obtain ⟨st, Hstk⟩ : ∃ x, Hid (J0k fitL q.ins k = x) := ⟨_, rfl⟩;rw [Hstk.out] at b2 hst0 HS HD;obtain ⟨⟨op, a, b, c, n⟩, HI⟩ : ∃ x, Hid (q.ins k = x) := ⟨_, rfl⟩;rw [HI.out] at q0 q1 q2 q3 q4 HF HS;dsimp only at q0 q1 q2 q3 q4 HF HS;clear hB1;obtain ⟨w1, Hw1⟩ : ∃ w_ : World, Hid (w_ = (wr.setCell ⟨w.heap.size + 1, k, none⟩ (.int .i64 (st : Nat))).alloc (.cells #[.int .i64 op, .int .i64 a, .int .i64 b, .int .i64 c, .int .i64 n] 53)) := ⟨_, rfl⟩;have Hm1 : Hid (More (wr.setCell ⟨w.heap.size + 1, k, none⟩ (.int .i64 (st : Nat))) w1) := Hw1.out ▸ (More.refl _).alloc _ _
   have Hz1 : Hid (w.heap.size + 2 <= w1.heap.size) := by
    have := Hm1.out.size;show _ <= _;simp [World.setCell] at this;omega
   have HF1 := HF.out w1 (HD.out w1 Hm1.out) Hz1.out;go_wp2_with (fail)
   rw [<- Hw1.out];refine HF1.mono ?_;rintro e w2 ⟨rfl, hw2⟩;obtain ⟨ob', hr2⟩ := HS.out w1 w2 Hm1.out hw2;have Hr2 : Hid (F1 w0 w q Lb (.slice ra rl rc) (.slice (some ⟨cb, co, none⟩) cl cc) (k + 1) ob' w2) := hr2;clear hr2 hw2 q0 q1 q2 q3 q4 b2 hrv hfz;go_wp2;go_roundg g
   case measure => omega
   case rel => exact ⟨k + 1, ob', by omega, by first | rfl | simp, Hr2.out⟩
def backP (p : Prg) : Prg := getP p.rl p.log p.sec p.cl (fun j => encW (p.ins j))
theorem J82 {p : Prg} (ok : p.Ok 8000 10) (hn : ∀ j, j < p.cl -> N14 (p.ins j).n) {j : Nat} (hj : j < p.cl) : (backP p).ins j = p.ins j := Jj5 (J61 ok.1.1 (ok.2.2.2 j hj)) (hn j hj)
theorem Jdf {p : Prg} (ok : p.Ok 8000 10) (hn : ∀ j, j < p.cl -> N14 (p.ins j).n) : (backP p).Ok 8000 10 := by
 refine ⟨ok.1, ok.2.1, ok.2.2.1, fun i hi => ?_⟩;have hi' : i < p.cl := hi;rw [J82 ok hn hi'];exact ok.2.2.2 i hi'
end
section
open Go.RowKit
set_option linter.unusedSimpArgs false
set_option linter.unusedVariables false
section
variable {p h : Prg} {st : Nat -> Nat} {B : Nat -> List Ins} {X : Int} {l : KV} {lab : Nat -> Nat -> Bool}

theorem J5g (S : Blo p h st B X) {k : Nat} (hk : k < p.cl) {o : Nat} (ho : o + 1 = (B k).length) : st k + o + 1 = st (k + 1) := by rw [S.next k hk]; omega

theorem Jiy (S : Blo p h st B X) (ok : p.Ok 200 8) (hk : Known p l) (hc : (J0e p l).1 = 0) (hl : ∀ q j, lab q j = true ↔ BlSec p st B l q j) (q : Nat) (h7 : (h.ins q).op = 7) (r : Nat -> Int) (hI : BlI p st B l q r) :
  (∀ j, j < 10 -> lab q j = true -> lab (h.ins q).n.toNat j = true) /\ BlI p st B l (h.ins q).n.toNat r := by
 obtain ⟨k, s, a1, a4, ⟨rfl, len, w, e⟩ | ⟨rfl, len, w, e⟩ | ⟨pre, r0, rfl, eB, w, e, _, _, _⟩ | ⟨o, r0, ho, rfl, hat, hs, _, _⟩⟩ := J2y S ok hI
 ·have H := J2k ok hk hc a1 a4
  rw [e] at h7 |-;dsimp only at h7 |-;rw [Int.toNat_natCast];have hin := H.ins;unfold InsOk Plc at hin;simp [h7] at hin;have hn : (p.ins k).n.toNat < p.cl := by omega
  obtain ⟨u, eu, hu⟩ := H.leads ((p.ins k).n.toNat, s) (by unfold J0f; rw [if_pos h7]; simp) hn;refine ⟨fun j hj w => ?_, bl_on S hn eu r⟩;rw [J1j S hl a1 a4] at w;rw [J1j S hl hn eu];have := J1y w;exact J3l this.1 ((hu j this.1).2 this.2)
 ·rw [e] at h7; omega
 ·rw [e] at h7; dsimp only at h7; omega
 ·exact absurd h7 (J77 hs).1

theorem Jiw (S : Blo p h st B X) (ok : p.Ok 200 8) (hk : Known p l) (hc : (J0e p l).1 = 0) (hl : ∀ q j, lab q j = true ↔ BlSec p st B l q j) (q : Nat) (h8 : (h.ins q).op = 8) (r : Nat -> Int) (hI : BlI p st B l q r) :
  (h.ins q).a.toNat < 10 /\ (h.ins q).b.toNat < 10 /\ lab q (h.ins q).a.toNat = false /\ lab q (h.ins q).b.toNat = false /\ (∀ j, j < 10 -> lab q j = true -> lab (h.ins q).n.toNat j = true /\ lab (q + 1) j = true) /\ BlI p st B l (h.ins q).n.toNat r /\ BlI p st B l (q + 1) r := by
 obtain ⟨k, s, a1, a4, ⟨rfl, len, w, e⟩ | ⟨rfl, len, w, e⟩ | ⟨pre, r0, rfl, eB, w, e, _, _, _⟩ | ⟨o, r0, ho, rfl, hat, hs, _, _⟩⟩ := J2y S ok hI
 ·have H := J2k ok hk hc a1 a4
  rw [e] at h8 |-;dsimp only at h8 |-;rw [Int.toNat_natCast];have hin := H.ins;have hr := J20 hin;have ha := hr.1 (by omega);have hb := hr.2.1 (by omega);unfold InsOk Plc at hin;simp [h8] at hin;have hn : (p.ins k).n.toNat < p.cl := by omega
  have hk1 := H.next (by omega) (by omega);have hs := H.secret;unfold J0h at hs;simp [h8] at hs;obtain ⟨u, eu, hu⟩ := H.leads ((p.ins k).n.toNat, yesK (p.ins k) s) (by unfold J0f; simp [h8]) hn;obtain ⟨v, ev, hv⟩ := H.leads (k + 1, noK (p.ins k) s) (by unfold J0f; simp [h8]) hk1;have en : st k + 0 + 1 = st (k + 1) := J5g S a1 (o := 0) (by omega);rw [Nat.add_zero] at en
  have hlo : ∀ x : Int, (s x.toNat).s = false -> lab (st k) x.toNat = false := fun x q => by
   rw [J1j S hl a1 a4];unfold labS;rw [q]; simp
  refine ⟨by omega, by omega, hlo _ hs.1, hlo _ hs.2, fun j hj w => ?_, bl_on S hn eu r, by rw [en]; exact bl_on S hk1 ev r⟩;rw [J1j S hl a1 a4] at w;have := J1y w;rw [en, J1j S hl hn eu, J1j S hl hk1 ev];exact ⟨J3l this.1 ((hu j this.1).2 (by rw [yes_s]; exact this.2)), J3l this.1 ((hv j this.1).2 (by rw [no_s]; exact this.2))⟩
 ·rw [e] at h8; omega
 ·rw [e] at h8; dsimp only at h8; omega
 ·exact absurd h8 (J77 hs).2.1

theorem Jix (S : Blo p h st B X) (ok : p.Ok 200 8) (hk : Known p l) (hc : (J0e p l).1 = 0) (hl : ∀ q j, lab q j = true ↔ BlSec p st B l q j) (q : Nat) (h9 : (h.ins q).op = 9) (r : Nat -> Int) (hI : BlI p st B l q r) :
  (h.ins q).a.toNat < 10 /\ lab q (h.ins q).a.toNat = false := by
 obtain ⟨k, s, a1, a4, ⟨rfl, len, w, e⟩ | ⟨rfl, len, w, e⟩ | ⟨pre, r0, rfl, eB, w, e, _, _, _⟩ | ⟨o, r0, ho, rfl, hat, hs, _, _⟩⟩ := J2y S ok hI
 ·rw [e] at h9; dsimp only at h9; omega
 ·have H := J2k ok hk hc a1 a4
  rw [e] at h9 |-;have hs := H.secret;unfold J0h at hs;simp [h9] at hs;have ha := (J20 H.ins).1 (by omega);refine ⟨by omega, ?_⟩;rw [J1j S hl a1 a4];unfold labS;rw [hs]; simp
 ·rw [e] at h9; dsimp only at h9; omega
 ·exact absurd h9 (J77 hs).2.2.1

theorem Jfv (S : Blo p h st B X) (ok : p.Ok 200 8) (hk : Known p l) (hc : (J0e p l).1 = 0) (hl : ∀ q j, lab q j = true ↔ BlSec p st B l q j) (q : Nat) (h12 : (h.ins q).op = 12) (r : Nat -> Int) (hI : BlI p st B l q r) :
  (∀ j, j < 10 -> lab q j = true -> lab (q + 1) j = true) /\ BlI p st B l (q + 1) r := by
 obtain ⟨k, s, a1, a4, ⟨rfl, len, w, e⟩ | ⟨rfl, len, w, e⟩ | ⟨pre, r0, rfl, eB, w, e, _, _, _⟩ | ⟨o, r0, ho, rfl, hat, hs, _, _⟩⟩ := J2y S ok hI
 ·rw [e] at h12; dsimp only at h12; omega
 ·have H := J2k ok hk hc a1 a4
  rw [e] at h12;obtain ⟨u, eu, hu⟩ := H.plain (by omega) (by omega) (by omega);have hk1 := H.next (by omega) (by omega);have en : st k + 0 + 1 = st (k + 1) := J5g S a1 (o := 0) (by omega);rw [Nat.add_zero] at en;have e3 : nextK p (p.ins k) s = s := by unfold nextK; simp [h12]
  rw [e3] at hu;rw [en];refine ⟨fun j hj w => ?_, bl_on S hk1 eu r⟩;rw [J1j S hl a1 a4] at w;have := J1y w;rw [J1j S hl hk1 eu];exact J3l this.1 ((hu j this.1).2 this.2)
 ·rw [e] at h12; dsimp only at h12; omega
 ·exact absurd h12 (J77 hs).2.2.2.1

theorem bl_b {k : Nat} {s : KS} (H : Here p l k s) (m : (p.ins k).op = 3 \/ (p.ins k).op = 4) : labS s (p.ins k).b.toNat = false := by
 have hs := H.secret;unfold J0h at hs
 have : (s (p.ins k).b.toNat).s = false := by
  rcases m with m | m <;> simp [m] at hs
  ·exact hs
  ·exact hs.1
 unfold labS;rw [this]; simp
theorem Ja0 (S : Blo p h st B X) (hl : ∀ q j, lab q j = true ↔ BlSec p st B l q j) {k : Nat} {s : KS} (H : Here p l k s) {pre : List Ins} (eB : B k = pre ++ [⟨(p.ins k).op, (p.ins k).a, X, (p.ins k).c, 0⟩]) (m : (p.ins k).op = 3 \/ (p.ins k).op = 4)
  (h4 : ∀ L : Nat -> Bool, (∀ j, 8 <= j -> L j = false) -> L (p.ins k).b.toNat = false -> ∀ j, labs pre L j = true -> j < 8 /\ L j = true) {j : Nat} (q : lab (st k + pre.length) j = true) : j < 8 /\ (s j).s = true := by
 rw [Jb9 S hl H.at_ (o := pre.length) (by rw [eB]; simp) H.e] at q;have et : (B k).take pre.length = pre := by rw [eB]; simp
 rw [et] at q;have := h4 (labS s) (J6j s) (bl_b H m) j q;exact J1y this.2

theorem Jiz (S : Blo p h st B X) (ok : p.Ok 200 8) (hk : Known p l) (hc : (J0e p l).1 = 0) (hl : ∀ q j, lab q j = true ↔ BlSec p st B l q j) (q : Nat) (hp : 0 <= putI (h.ins q)) (r : Nat -> Int) (hI : BlI p st B l q r) :
  (h.ins q).c.toNat < h.rl /\ (h.ins q).a.toNat < 10 /\ (0 <= idxI r (h.ins q) /\ idxI r (h.ins q) < J0c (h.log (h.ins q).c.toNat)) /\ (∀ t, (∀ j, j < 10 -> lab q j = false -> r j = t j) -> idxI r (h.ins q) = idxI t (h.ins q)) := by
 obtain ⟨k, s, a1, a4, ⟨rfl, len, w, e⟩ | ⟨rfl, len, w, e⟩ | ⟨pre, r0, rfl, eB, m, e, er, h2, h4⟩ | ⟨o, r0, ho, rfl, hat, hs, _, _⟩⟩ := J2y S ok hI
 ·rw [e] at hp; exact absurd hp (by unfold putI; dsimp only; rw [if_neg (by omega), if_neg (by omega)]; omega)
 ·rw [e] at hp
  have H := J2k ok hk hc a1 a4;have hi := H.ins;have op := Jeg hi (by omega) hp;have ha := (J20 hi).1 (by omega);have hr : Rgn p.rl (p.ins k).c /\ Wrd p.log (p.ins k).c (p.ins k).n := by unfold InsOk at hi; rcases op with m | m <;> simp [m] at hi <;> exact hi.2.2
  have h1 := hr.1;have h2 := hr.2;unfold Rgn at h1;unfold Wrd at h2;have hcr : (p.ins k).c.toNat < p.rl := by omega
  have ei : ∀ t, idxI t (p.ins k) = (p.ins k).n := fun t => by unfold idxI; rw [if_pos op]
  rw [e, ei, <- (S.reg _ hcr).1, <- S.rl];exact ⟨hcr, by omega, h2, fun t _ => (ei t).symm⟩
 ·have H := J2k ok hk hc a1 a4
  have hi := H.ins;have ha := (J20 hi).1 (by omega);have hr : Rgn p.rl (p.ins k).c := by unfold InsOk at hi; rcases m with m | m <;> simp [m] at hi <;> exact hi.2.2
  unfold Rgn at hr;have hcr : (p.ins k).c.toNat < p.rl := by omega
  have hw := ok.1.2 _ hcr;have h64 := J1b (k := (p.log (p.ins k).c.toNat).toNat) (by omega);obtain ⟨x1, x2⟩ := h2 r0;rw [<- er] at x1 x2;have x3 : r X.toNat < 65 := by unfold J0c at x2; omega
  have hx : lab (st k + pre.length) X.toNat = false := by
   cases q : lab (st k + pre.length) X.toNat with
   | false => rfl
   | true => have := (Ja0 S hl H eB m h4 q).1; have := S.xn.1; omega
  rw [e];dsimp only;rw [idx_x r m x1 x3, <- (S.reg _ hcr).1, <- S.rl];refine ⟨hcr, by omega, ⟨x1, x2⟩, fun t ht => ?_⟩;have := ht X.toNat S.xn.2 hx;rw [idx_x t m (by omega) (by omega), this]
 ·exact absurd hp (J77 hs).2.2.2.2

theorem Ja1 (S : Blo p h st B X) (ok : p.Ok 200 8) (hk : Known p l) (hc : (J0e p l).1 = 0) (hl : ∀ q j, lab q j = true ↔ BlSec p st B l q j) (q : Nat) (hp : putI (h.ins q) = 0) (r : Nat -> Int) (hI : BlI p st B l q r) :
  (∀ j, j < 10 -> j ≠ (h.ins q).a.toNat -> lab q j = true -> lab (q + 1) j = true) /\ (h.sec (h.ins q).c.toNat = true -> lab (q + 1) (h.ins q).a.toNat = true) /\ ∀ v, BlI p st B l (q + 1) (setR r (h.ins q).a v) := by
 have key : ∀ k o s, k < p.cl -> o + 1 = (B k).length -> l k = some s -> (p.ins k).op = 3 \/ (p.ins k).op = 5 -> (∀ j, lab (st k + o) j = true -> j < 8 /\ (s j).s = true) ->
   (∀ j, j < 10 -> j ≠ (p.ins k).a.toNat -> lab (st k + o) j = true -> lab (st k + o + 1) j = true) /\ (h.sec (p.ins k).c.toNat = true -> lab (st k + o + 1) (p.ins k).a.toNat = true) /\ ∀ v, BlI p st B l (st k + o + 1) (setR r (p.ins k).a v) := fun k o s a1 a3 a4 op hj => by
  have H := J2k ok hk hc a1 a4;obtain ⟨u, eu, hu⟩ := H.plain (by omega) (by omega) (by omega);have hk1 := H.next (by omega) (by omega);have en := J5g S a1 a3;have hi := H.ins;have hr : Rgn p.rl (p.ins k).c := by unfold InsOk at hi; rcases op with m | m <;> simp [m] at hi <;> simp [hi]
  unfold Rgn at hr;have hcr : (p.ins k).c.toNat < p.rl := by omega
  have ha := (J20 hi).1 (by omega);have e3 : nextK p (p.ins k) s = setK s (p.ins k).a ⟨17, p.sec (p.ins k).c.toNat⟩ := by unfold nextK; rw [if_neg (by omega), if_neg (by omega), if_neg (by omega), if_pos op]
  rw [e3] at hu;rw [en];refine ⟨fun j h10 ne q => ?_, fun hs => ?_, fun v => bl_on S hk1 eu _⟩
  ·obtain ⟨j8, js⟩ := hj j q
   rw [J1j S hl hk1 eu];exact J3l j8 ((hu j j8).2 (by unfold setK; rw [if_neg ne]; exact js))
  ·rw [J1j S hl hk1 eu]
   refine J3l ha ((hu _ ha).2 ?_);unfold setK;rw [if_pos rfl, (S.reg _ hcr).2];exact hs
 obtain ⟨k, s, a1, a4, ⟨rfl, len, w, e⟩ | ⟨rfl, len, w, e⟩ | ⟨pre, r0, rfl, eB, m, e, er, h2, h4⟩ | ⟨o, r0, ho, rfl, hat, hs, _, _⟩⟩ := J2y S ok hI
 ·rw [e] at hp; exact absurd hp (by unfold putI; dsimp only; rw [if_neg (by omega), if_neg (by omega)]; omega)
 ·rw [e] at hp |-
  have := key k 0 s a1 (by omega) a4 (by
   unfold putI at hp;by_cases c : (p.ins k).op = 3 \/ (p.ins k).op = 5
   ·exact c
   ·rw [if_neg c] at hp; split at hp <;> omega) (fun j q => by rw [Nat.add_zero, J1j S hl a1 a4] at q; exact J1y q)
  exact this
 ·rw [e] at hp |-
  dsimp only;have H := J2k ok hk hc a1 a4;refine key k pre.length s a1 (by rw [eB]; simp) a4 ?_ (fun j q => Ja0 S hl H eB m h4 q);unfold putI at hp;dsimp only at hp;rcases m with m | m
  ·exact .inl m
  ·rw [if_neg (by omega), if_pos (by omega)] at hp; omega
 ·exact absurd (by rw [hp]; exact Int.le_refl _) (J77 hs).2.2.2.2

theorem Jky (S : Blo p h st B X) (ok : p.Ok 200 8) (hk : Known p l) (hc : (J0e p l).1 = 0) (hl : ∀ q j, lab q j = true ↔ BlSec p st B l q j) (q : Nat) (hp : putI (h.ins q) = 1) (r : Nat -> Int) (hI : BlI p st B l q r) :
  (∀ j, j < 10 -> lab q j = true -> lab (q + 1) j = true) /\ (lab q (h.ins q).a.toNat = true -> h.sec (h.ins q).c.toNat = true) /\ BlI p st B l (q + 1) r := by
 have key : ∀ k o s, k < p.cl -> o + 1 = (B k).length -> l k = some s -> (p.ins k).op = 4 \/ (p.ins k).op = 6 -> (∀ j, lab (st k + o) j = true -> j < 8 /\ (s j).s = true) ->
   (∀ j, j < 10 -> lab (st k + o) j = true -> lab (st k + o + 1) j = true) /\ (lab (st k + o) (p.ins k).a.toNat = true -> h.sec (p.ins k).c.toNat = true) /\ BlI p st B l (st k + o + 1) r := fun k o s a1 a3 a4 op hj => by
  have H := J2k ok hk hc a1 a4;obtain ⟨u, eu, hu⟩ := H.plain (by omega) (by omega) (by omega);have hk1 := H.next (by omega) (by omega);have en := J5g S a1 a3;have hi := H.ins;have hr : Rgn p.rl (p.ins k).c := by unfold InsOk at hi; rcases op with m | m <;> simp [m] at hi <;> simp [hi]
  unfold Rgn at hr;have hcr : (p.ins k).c.toNat < p.rl := by omega
  have e3 : nextK p (p.ins k) s = s := by unfold nextK; rw [if_neg (by omega), if_neg (by omega), if_neg (by omega), if_neg (by omega), if_neg (by omega), if_pos (by omega)]
  rw [e3] at hu;rw [en];refine ⟨fun j h10 q => ?_, fun q => ?_, bl_on S hk1 eu _⟩
  ·obtain ⟨j8, js⟩ := hj j q
   rw [J1j S hl hk1 eu];exact J3l j8 ((hu j j8).2 js)
  ·have hs2 := (hj _ q).2
   have hsec := H.secret;unfold J0h at hsec;rw [<- (S.reg _ hcr).2];rcases op with m | m <;> simp [m, hs2] at hsec
   ·exact hsec.2
   ·exact hsec
 obtain ⟨k, s, a1, a4, ⟨rfl, len, w, e⟩ | ⟨rfl, len, w, e⟩ | ⟨pre, r0, rfl, eB, m, e, er, h2, h4⟩ | ⟨o, r0, ho, rfl, hat, hs, _, _⟩⟩ := J2y S ok hI
 ·rw [e] at hp; exact absurd hp (by unfold putI; dsimp only; rw [if_neg (by omega), if_neg (by omega)]; omega)
 ·rw [e] at hp |-
  have := key k 0 s a1 (by omega) a4 (by
   unfold putI at hp;by_cases c : (p.ins k).op = 3 \/ (p.ins k).op = 5
   ·rw [if_pos c] at hp; omega
   ·rw [if_neg c] at hp; split at hp <;> omega) (fun j q => by rw [Nat.add_zero, J1j S hl a1 a4] at q; exact J1y q)
  exact this
 ·rw [e] at hp |-
  dsimp only;have H := J2k ok hk hc a1 a4;refine key k pre.length s a1 (by rw [eB]; simp) a4 ?_ (fun j q => Ja0 S hl H eB m h4 q);unfold putI at hp;dsimp only at hp;rcases m with m | m
  ·rw [if_pos (by omega)] at hp; omega
  ·exact .inl m
 ·exact absurd (by rw [hp]; decide) (J77 hs).2.2.2.2

theorem bl_op (S : Blo p h st B X) (ok : p.Ok 200 8) (hk : Known p l) (hc : (J0e p l).1 = 0) (hl : ∀ q j, lab q j = true ↔ BlSec p st B l q j) (q : Nat) (h7 : ¬ (h.ins q).op = 7) (h8 : ¬ (h.ins q).op = 8) (h9 : ¬ (h.ins q).op = 9) (h12 : ¬ (h.ins q).op = 12) (hp : ¬ 0 <= putI (h.ins q)) (r : Nat -> Int) (hI : BlI p st B l q r) :
  (∀ t, (∀ j, j < 10 -> lab q j = false -> r j = t j) -> (regsI r (h.ins q)).2 = (regsI t (h.ins q)).2 /\ ∀ j, j < 10 -> lab (q + 1) j = false -> (regsI r (h.ins q)).1 j = (regsI t (h.ins q)).1 j) /\ BlI p st B l (q + 1) (regsI r (h.ins q)).1 := by
 obtain ⟨k, s, a1, a4, ⟨rfl, len, w, e⟩ | ⟨rfl, len, w, e⟩ | ⟨pre, r0, rfl, eB, m, e, er, h2, h4⟩ | ⟨o, r0, ho, rfl, hat, hs, er, last⟩⟩ := J2y S ok hI
 ·rw [e] at h7 h8; dsimp only at h7 h8; omega
 ·rw [e] at h7 h8 h9 h12 hp
  have H := J2k ok hk hc a1 a4;obtain ⟨u, eu, hu⟩ := H.plain h7 h8 h9;have hk1 := H.next h7 h9;have en : st k + 0 + 1 = st (k + 1) := J5g S a1 (o := 0) (by omega);rw [Nat.add_zero] at en;have n5 : ¬ (p.ins k).op = 5 := fun q => hp (by unfold putI; simp [q])
  have n6 : ¬ (p.ins k).op = 6 := fun q => hp (by unfold putI; simp [q])
  have ha := (J20 H.ins).1 (by omega);rw [en, e];refine ⟨fun t ht => ?_, bl_on S hk1 eu _⟩;have A : EqS s r t := fun j hj q => ht j (by omega) (by rw [J1j S hl a1 a4]; unfold labS; rw [q]; simp)
  have Ah : ∀ j, 8 <= j -> j < 10 -> r j = t j := fun j j8 j10 => ht j j10 (by rw [J1j S hl a1 a4]; exact J6j s j j8)
  have R := Jj7 H.ins (by omega) (by omega) n5 n6 h7 h8 h9 H.secret A;refine ⟨R.2, fun j j10 q => ?_⟩;rw [J1j S hl hk1 eu] at q;by_cases j8 : j < 8
  ·refine (R.1.mono hu) j j8 ?_
   cases c : (u j).s with
   | false => rfl
   | true => rw [J3l j8 c] at q; cases q
  ·rw [J9n ha r j (by omega), J9n ha t j (by omega)]
   exact Ah j (by omega) j10
 ·rw [e] at hp
  exact absurd (show 0 <= putI (⟨(p.ins k).op, (p.ins k).a, X, (p.ins k).c, 0⟩ : Ins) by unfold putI; dsimp only; rcases m with m | m <;> simp [m]) hp
 ·have H := J2k ok hk hc a1 a4
  have agree : ∀ t, (∀ j, j < 10 -> lab (st k + o) j = false -> r j = t j) -> (regsI r (h.ins (st k + o))).2 = (regsI t (h.ins (st k + o))).2 /\ ∀ j, j < 10 -> labs ((B k).take (o + 1)) (labS s) j = false -> (regsI r (h.ins (st k + o))).1 j = (regsI t (h.ins (st k + o))).1 j := fun t ht => by
   rw [Jjf hat];exact Jfd hs (fun j hj q => ht j hj (by rw [Jb9 S hl a1 ho a4]; exact q))
  have er2 : (regsI r (h.ins (st k + o))).1 = seqR ((B k).take (o + 1)) r0 := by rw [Jka hat, er]
  rcases last with c | ⟨c, m, w, v⟩
  ·refine ⟨fun t ht => ⟨(agree t ht).1, fun j hj q => (agree t ht).2 j hj ?_⟩, ⟨k, o + 1, s, r0, a1, c, rfl, a4, er2⟩⟩
   rw [show st k + o + 1 = st k + (o + 1) from rfl, Jb9 S hl a1 c a4] at q;exact q
  ·obtain ⟨u, eu, hu⟩ := H.plain (by omega) (by omega) (by omega)
   have hk1 := H.next (by omega) (by omega);have en := J5g S a1 c;rw [en];refine ⟨fun t ht => ⟨(agree t ht).1, fun j hj q => (agree t ht).2 j hj ?_⟩, bl_on S hk1 eu _⟩;rw [J1j S hl hk1 eu] at q;have et : (B k).take (o + 1) = B k := by rw [c]; exact List.take_length
   rw [et];cases z : labs (B k) (labS s) j with
   | false => rfl
   | true =>
    obtain ⟨j8, js⟩ := (S.ops k a1 m w v).2.2 (labS s) (J6j s) j z;have := (hu j j8).2 (Jd8 H.ins (by omega) j8 js);rw [J3l j8 this] at q;cases q

theorem Jfw (S : Blo p h st B X) (ok : p.Ok 200 8) (hk : Known p l) (hc : (J0e p l).1 = 0) : Still h := by
 refine ⟨fun _ => True, fun q j => @decide (BlSec p st B l q j) (Classical.propDecidable _), BlI p st B l, fun _ _ => trivial, ?_, ?_⟩
 ·have hl : ∀ q j, (fun q j => @decide (BlSec p st B l q j) (Classical.propDecidable _)) q j = true ↔ BlSec p st B l q j := fun q j => by simp
  refine ⟨?_, trivial, fun k _ c r I => Jiy S ok hk hc hl k c r I, fun k _ c r I => ?_, fun k _ c r I => Jix S ok hk hc hl k c r I, fun k _ c r I => Jfv S ok hk hc hl k c r I, fun k _ c r I => Jiz S ok hk hc hl k c r I, fun k _ c r I => ⟨(Ja1 S ok hk hc hl k c r I).1, (Ja1 S ok hk hc hl k c r I).2.1, fun v _ => (Ja1 S ok hk hc hl k c r I).2.2 v⟩, fun k _ c r I => Jky S ok hk hc hl k c r I, fun _ _ _ _ _ => trivial, fun k _ h7 h8 h9 h12 hp r I => bl_op S ok hk hc hl k h7 h8 h9 h12 hp r I⟩
  ·exact ⟨by rw [<- S.rl]; exact ok.1.1, fun i hi => by rw [<- (S.reg i (by rw [S.rl]; exact hi)).1]; exact ok.1.2 i (by rw [S.rl]; exact hi)⟩
  ·obtain ⟨b1, b2, b3, b4, b5, b6, b7⟩ := Jiw S ok hk hc hl k c r I
   refine ⟨b1, b2, b3, b4, b5, ?_, .inl ?_⟩
   ·unfold Jey; split <;> assumption
   ·unfold Jbq; split <;> assumption
 ·obtain ⟨s, e, _⟩ := hk.closed.first
  exact S.s0 ▸ bl_on S ok.2.1 e _

end
section
variable {p h : Prg} {st : Nat -> Nat} {B : Nat -> List Ins} {X : Int} {l : KV} {m : Mem} {s t : St}

end
section
variable {p h : Prg} {st : Nat -> Nat} {B : Nat -> List Ins} {X : Int}
theorem Blo.from_ (S : Blo p h st B X) : ∀ (n : Nat), n <= p.cl -> ∀ q, q < st n -> ∃ k o, k < n /\ o < (B k).length /\ q = st k + o
 | 0, _, q, hq => by rw [S.s0] at hq; omega
 | n + 1, hn, q, hq => by
  have e := S.next n (by omega);by_cases c : q < st n
  ·obtain ⟨k, o, h1, h2, h3⟩ := S.from_ n (by omega) q c
   exact ⟨k, o, by omega, h2, h3⟩
  ·exact ⟨n, q - st n, by omega, by omega, by omega⟩
end
theorem Jiq {rl : Nat} {log : Nat -> Int} {cl : Nat} {a n : Int} (ha : Reg 10 a) (hn : B64 n) : ∀ x ∈ numL a n, InsOk rl log cl 10 x /\ N14 x.n := by
 intro x hx;unfold numL at hx;rcases List.mem_cons.1 hx with rfl | hx
 ·exact ⟨by unfold InsOk Reg; simp, by unfold N14; simp⟩
 ·exact ⟨J6w (P := fun x => InsOk rl log cl 10 x) (fun n => by unfold InsOk; simp; exact ha) (by unfold InsOk; simp; exact ⟨ha, by unfold Reg; omega⟩) (fun n => by unfold InsOk; simp; exact ha) 4 n x hx, J7t a 4 n (lim4 hn).1 (lim4 hn).2 x hx⟩
theorem Jdo {rl : Nat} {log : Nat -> Int} {cl : Nat} {i : Ins} (hI : InsOk rl log cl 10 i) (hn : B64 i.n) (hN : ¬ i.op = 1 -> ¬ i.op = 10 -> N14 i.n) : ∀ x ∈ fitL i, InsOk rl log cl 10 x /\ N14 x.n := by
 intro x hx;unfold fitL at hx
 split at hx
 ·simp at hx; subst hx; exact ⟨hI, by assumption⟩
 split at hx
 ·rename_i q
  unfold InsOk at hI;rw [if_pos q] at hI;exact Jiq hI.1 hn x hx
 split at hx
 ·rename_i q
  unfold InsOk at hI;simp [q] at hI;rcases List.mem_append.1 hx with hx | hx
  ·exact Jiq (by unfold Reg; omega) hn x hx
  ·simp at hx; subst hx
   exact ⟨by unfold InsOk; simp; exact ⟨hI.1, hI.2.1, by unfold Reg; omega⟩, by unfold N14; simp⟩
 ·rename_i q1 q2
  simp at hx; subst hx; exact ⟨hI, hN q1 q2⟩

section
variable {p : Prg}
theorem J62 : ∀ n, n <= p.cl -> n <= stF p n /\ stF p n <= 13 * n
 | 0, _ => ⟨Nat.le_refl _, Nat.le_refl _⟩
 | n + 1, h => by
  have := J62 n (by omega);have := fitB_len (p := p) (k := n);rw [Jby (by omega)];omega
theorem J87 (ok : p.Ok 200 8) (hf : p.Fit) (j : Nat) (hj : j < (fitP (hardP p)).cl) : InsOk p.rl p.log (fitP (hardP p)).cl 10 ((fitP (hardP p)).ins j) /\ N14 ((fitP (hardP p)).ins j).n := by
 have S := Jdp ok hf;rw [S.cl] at hj;obtain ⟨k, o, hk, ho, rfl⟩ := S.from_ p.cl (Nat.le_refl _) j hj;have hi := ok.2.2.2 k hk;have hn : B64 (p.ins k).n := (hf.ins k hk).2.2.2.2;have e := List.getElem?_eq_getElem ho;rw [Jdq ok hk o _ e];have hx := List.getElem_mem ho;generalize (fitB p k)[o] = x at hx;have c200 := ok.2.2.1;by_cases m : (p.ins k).op = 3 \/ (p.ins k).op = 4
 ·rw [J5x m] at hx
  have hr : Reg 8 (p.ins k).a /\ Reg 8 (p.ins k).b /\ Rgn p.rl (p.ins k).c := by unfold InsOk at hi; rcases m with m | m <;> simpa [m] using hi
  obtain ⟨ra, rb, rc⟩ := hr;have hlog := ok.1.2 (p.ins k).c.toNat (by unfold Rgn at rc; omega);have h64 : 1 <= J0c (p.log (p.ins k).c.toNat) /\ J0c (p.log (p.ins k).c.toNat) <= 64 := J1b (by omega);unfold Reg at ra rb;rcases List.mem_append.1 hx with hx | hx
  ·exact Jdo (i := ⟨10, 8, (p.ins k).b, 0, (p.ins k).n⟩) (by unfold InsOk Reg; simp; omega) hn (fun _ q => absurd rfl q) x hx
  ·simp at hx
   rcases hx with rfl | rfl
   ·exact ⟨by unfold InsOk Reg; simp; omega, by unfold N14; dsimp only; omega⟩
   ·refine ⟨?_, by unfold N14; simp⟩
    unfold InsOk Reg;rcases m with m | m <;> simp [m] <;> exact ⟨by omega, rc⟩
 by_cases w : (p.ins k).op = 7 \/ (p.ins k).op = 8
 ·rw [J85 w] at hx
  simp at hx;subst hx;have hp : Plc p.cl (p.ins k).n := by unfold InsOk at hi; rcases w with w | w <;> simp [w] at hi <;> simp [hi]
  unfold Plc at hp;have hlt := S.lt (k := (p.ins k).n.toNat) (o := 0) (by omega) fitB_len.1;have := (J62 (p := p) (p.ins k).n.toNat (by omega)).2;refine ⟨?_, by unfold N14; dsimp only; omega⟩;unfold InsOk Reg at hi |-;unfold Plc at hi |-;rcases w with w | w <;> simp [w] at hi |- <;> omega
 ·rw [J3w m w] at hx
  refine Jdo (Jbj hi (fun _ _ => rfl) w) hn (fun q1 q10 => ?_) x hx;unfold InsOk at hi;unfold N14
  have wd : ∀ c : Int, Rgn p.rl c -> Wrd p.log c (p.ins k).n -> -8192 <= (p.ins k).n /\ (p.ins k).n <= 8191 := fun c h1 h2 => by
   unfold Rgn at h1;unfold Wrd at h2;have h3 := ok.1.2 c.toNat (by omega);have := (J1b (k := (p.log c.toNat).toNat) (by omega)).2;omega
  rw [if_neg q1] at hi;by_cases q2 : (p.ins k).op = 2
  ·rw [if_pos q2] at hi; omega
  rw [if_neg q2, if_neg (by omega), if_neg (by omega)] at hi;by_cases q5 : (p.ins k).op = 5
  ·rw [if_pos q5] at hi; exact wd _ hi.2.2.1 hi.2.2.2
  rw [if_neg q5] at hi;by_cases q6 : (p.ins k).op = 6
  ·rw [if_pos q6] at hi; exact wd _ hi.2.2.1 hi.2.2.2
  rw [if_neg q6, if_neg (by omega), if_neg (by omega)] at hi;by_cases q9 : (p.ins k).op = 9
  ·rw [if_pos q9] at hi; omega
  rw [if_neg q9, if_neg q10] at hi;by_cases q11 : (p.ins k).op = 11
  ·rw [if_pos q11] at hi; omega
  rw [if_neg q11] at hi;by_cases q12 : (p.ins k).op = 12
  ·rw [if_pos q12] at hi; omega
  ·rw [if_neg q12] at hi; omega
theorem J5n (ok : p.Ok 200 8) (hf : p.Fit) : (fitP (hardP p)).Ok 8000 10 := by
 have h1 := J62 p.cl (Nat.le_refl _);have h2 := ok.2.1;have h3 := ok.2.2.1;have e : (fitP (hardP p)).cl = stF p p.cl := rfl;exact ⟨ok.1, by rw [e]; omega, by rw [e]; omega, fun i hi => (J87 ok hf i hi).1⟩
theorem J4d (ok : p.Ok 200 8) (hf : p.Fit) : ∀ j, j < (fitP (hardP p)).cl -> N14 ((fitP (hardP p)).ins j).n := fun j hj => (J87 ok hf j hj).2

def J65 (p h : Prg) : Prop := p.Ok 200 8 /\ (∃ lk, Known p lk /\ (J0e p lk).1 = 0) /\ h = backP (fitP (hardP p))
theorem Jgt (ok : p.Ok 200 8) (hf : p.Fit) : Blo p (backP (fitP (hardP p))) (stF p) (fitB p) 8 := by
 have S := Jdp ok hf;exact ⟨S.x, S.rl, S.reg, S.s0, S.next, S.cl, S.ne, fun k hk o i e => (J82 (J5n ok hf) (J4d ok hf) (S.lt hk (List.getElem?_eq_some_iff.1 e).1)).trans (S.at_ k hk o i e), S.go, S.one, S.mem, S.ops⟩
theorem J6q {h : Prg} (hf : p.Fit) (k : J65 p h) : Like8 p h := by
 obtain ⟨ok, _, rfl⟩ := k;have h1 := J62 p.cl (Nat.le_refl _);have h3 := ok.2.2.1;have i14 : ∀ x, N14 x -> I64 x := fun x q => by unfold N14 at q; unfold I64; omega
 refine ⟨Jdf (J5n ok hf) (J4d ok hf), ⟨hf.rl, ?_, hf.log, fun i hi => ?_⟩, rfl, fun i hi => ⟨rfl, rfl⟩⟩
 ·have : 3000 <= maxLen := by decide
  show stF p p.cl <= maxLen;omega
 ·have hi' : i < (fitP (hardP p)).cl := hi
  rw [J82 (J5n ok hf) (J4d ok hf) hi'];obtain ⟨h1, h2⟩ := J87 ok hf i hi';obtain ⟨⟨a0, a1⟩, ⟨b0, b1⟩, ⟨c0, c1⟩, ⟨d0, d1⟩⟩ := J61 ok.1.1 h1;exact ⟨by unfold I64; omega, by unfold I64; omega, by unfold I64; omega, by unfold I64; omega, i14 _ h2⟩
theorem J5p {h : Prg} (hf : p.Fit) (k : J65 p h) : Still h := by
 obtain ⟨ok, ⟨lk, hk, hc⟩, rfl⟩ := k;exact Jfw (Jgt ok hf) ok hk hc
end
end
section
open Go.RowKit
set_option linter.unusedSimpArgs false
set_option linter.unusedVariables false
set_option maxRecDepth 8000
theorem Jlc (x : Int) (k : Nat) (m n : Int) (h : W32 x) (hk : k <= 14) (em : m = ((2 ^ k - 1 : Nat) : Int)) (en : n = ((2 ^ k : Nat) : Int)) : bits .and .u32 x m = x % n := by
 unfold W32 at h;obtain ⟨X, rfl⟩ := Int.eq_ofNat_of_zero_le h.1;have h2 : 2 ^ k <= 2 ^ 14 := Nat.pow_le_pow_right (by decide) hk;subst em en;rw [u32_and_nat X _ (by omega) (by omega), Nat.and_two_pow_sub_one_eq_mod]
 rfl
theorem or32 (x y : Int) (k X Y : Nat) (hx : x = ((2 ^ k * X : Nat) : Int)) (hy : y = (Y : Int)) (h1 : 2 ^ k * X < 4294967296) (h2 : Y < 2 ^ k) (hk : k <= 30) : bits .or .u32 x y = x + y := by
 have h3 : 2 ^ k <= 2 ^ 30 := Nat.pow_le_pow_right (by decide) hk;subst hx hy;rw [u32_or_nat _ _ h1 (by omega), <- Nat.two_pow_add_eq_or_of_lt h2]
 push_cast
 rfl

theorem Jg2 {op a b c n : Int} (s : Small ⟨op, a, b, c, n⟩) (hn : N14 n) :
  bits BinOp.or IntKind.u32 (bits BinOp.or IntKind.u32 (bits BinOp.or IntKind.u32 (bits BinOp.or IntKind.u32 (op % 4294967296 * 67108864 % 4294967296) (a % 4294967296 * 4194304 % 4294967296)) (b % 4294967296 * 262144 % 4294967296)) (c % 4294967296 * 16384 % 4294967296)) (bits BinOp.and IntKind.u32 (n % 4294967296) 16383) = encW ⟨op, a, b, c, n⟩ := by
 obtain ⟨⟨o0, o1⟩, ⟨a0, a1⟩, ⟨b0, b1⟩, ⟨c0, c1⟩⟩ := s;dsimp only at o0 o1 a0 a1 b0 b1 c0 c1;unfold N14 at hn
 have e0 : bits .and .u32 (n % 4294967296) 16383 = (if n < 0 then n + 16384 else n) := by
  rw [Jlc (n % 4294967296) 14 16383 16384 (by unfold W32; omega) (by decide) (by decide) (by decide)]
  split <;> omega
 have e1 : op % 4294967296 * 67108864 % 4294967296 = op * 67108864 := by omega
 have e2 : a % 4294967296 * 4194304 % 4294967296 = a * 4194304 := by omega
 have e3 : b % 4294967296 * 262144 % 4294967296 = b * 262144 := by omega
 have e4 : c % 4294967296 * 16384 % 4294967296 = c * 16384 := by omega
 have hm : ∃ M : Nat, (if n < 0 then n + 16384 else n) = (M : Int) /\ M < 16384 := by
  by_cases h : n < 0
  ·rw [if_pos h]; exact ⟨(n + 16384).toNat, by omega, by omega⟩
  ·rw [if_neg h]; exact ⟨n.toNat, by omega, by omega⟩
 rw [e0, e1, e2, e3, e4];unfold encW;dsimp only;obtain ⟨M, hM, hM1⟩ := hm;rw [hM];obtain ⟨O, rfl⟩ := Int.eq_ofNat_of_zero_le o0;obtain ⟨A, rfl⟩ := Int.eq_ofNat_of_zero_le a0;obtain ⟨B, rfl⟩ := Int.eq_ofNat_of_zero_le b0;obtain ⟨C, rfl⟩ := Int.eq_ofNat_of_zero_le c0
 rw [or32 ((O : Int) * 67108864) ((A : Int) * 4194304) 26 O (A * 4194304) (by omega) (by omega) (by omega) (by omega) (by decide),
  or32 _ ((B : Int) * 262144) 22 (O * 16 + A) (B * 262144) (by omega) (by omega) (by omega) (by omega) (by decide),
  or32 _ ((C : Int) * 16384) 18 ((O * 16 + A) * 16 + B) (C * 16384) (by omega) (by omega) (by omega) (by omega) (by decide),
  or32 _ (M : Int) 14 (((O * 16 + A) * 16 + B) * 16 + C) M (by omega) rfl (by omega) (by omega) (by decide)]
 omega

theorem J8q (op a b c n : Int) (w : World) (s : Small ⟨op, a, b, c, n⟩) (hn : N14 n) :
  Calls Tryz.prog 40 #[.agg #[.int .i64 op, .int .i64 a, .int .i64 b, .int .i64 c, .int .i64 n]] w fun e w' => e = .returned (.int .u32 (encW ⟨op, a, b, c, n⟩)) /\ More w w' := by
 have H := Jg2 s hn;obtain ⟨u, hu⟩ : ∃ x, encW ⟨op, a, b, c, n⟩ = x := ⟨_, rfl⟩;rw [hu] at H |-;have HH : Hid (_ = u) := H;clear s hn hu H;go_enter Tryz.func40, Tryz.ntmps40;go_wp2;go_ret;rw [<- HH.out];exact ⟨rfl, (More.refl _).alloc _ _⟩
theorem Jcc (p : Prg) (l : Loc) (w : World) (h : PIn w p l) :
  Calls Tryz.prog 39 #[.agg #[.slice l.ra p.rl l.rc, .slice l.ca p.cl l.cc]] w (Says (p.Ok 8000 10) w) := by
 have H : Hid (PIn w p l) := h;clear h;go_enter Tryz.func39, Tryz.ntmps39;go_wp2_with (fail)
 have m0 : More w (w.alloc (.cells #[.slice l.ra p.rl l.rc, .slice l.ca p.cl l.cc] 25)) := (More.refl _).alloc _ _;refine (J4x l.ra p.rl l.rc l.ca p.cl l.cc 8000 10 l.rb l.ro l.cb l.co p.log p.sec p.ins _ 8000 rfl (by omega) H.out.hr (H.out.regs.more m0) H.out.hc (H.out.code.more m0)).mono ?_;rintro e w1 ⟨r, rfl, h1, m1⟩;have H1 : Hid ((r = true ↔ p.Ok 8000 10) /\ More w w1) := ⟨h1, m0.trans m1⟩;clear h1 m1 m0;go_wp2;go_ret;exact ⟨r, rfl, H1.out.1, H1.out.2⟩
def J7a (p : Prg) (k j : Nat) : Value := .int .u32 (if j < k then encW (p.ins j) else 0)

structure P7 (w : World) (p : Prg) (rv cv : Value) (g k : Nat) (wr : World) : Prop where
 box : Blk wr w.heap.size #[rv, cv] 25
 res : Blk wr (w.heap.size + 1) #[.int .i64 0, .int .i64 0] 30
 row : ∀ j, j < p.cl -> Wr wr g j (J7a p k j)
 lo : w.heap.size + 2 <= g
 hi : g < wr.heap.size
 ok : ∀ j, j < k -> N14 (p.ins j).n
 more : More w wr

theorem P7.step {w : World} {p : Prg} {rv cv : Value} {g k : Nat} {wr w1 w2 : World} (h : P7 w p rv cv g k wr) (m1 : More wr w1) (hn : N14 (p.ins k).n) (e2 : w2 = w1.setCell ⟨g, k, none⟩ (.int .u32 (encW (p.ins k)))) : P7 w p rv cv g (k + 1) w2 := by
 have hlo := h.lo;subst e2;refine ⟨(h.box.more m1).other (by omega) _ _, (h.res.more m1).other (by omega) _ _, fun j hj => ?_, hlo, ?_, fun j hj => ?_, (h.more.trans m1).setCell (by show w.heap.size <= g; omega) _⟩
 ·have h1 := (h.row j hj).kept (m1.grow none) (by simp)
  by_cases e : j = k
  ·subst e
   have h2 := h1.same (.int .u32 (encW (p.ins j)));unfold J7a;rw [if_pos (by omega)];exact h2
  ·have h2 := h1.other g k (.int .u32 (encW (p.ins k))) (.inr (fun q => e q.symm))
   have e2 : J7a p (k + 1) j = J7a p k j := by
    unfold J7a;by_cases q : j < k
    ·rw [if_pos q, if_pos (by omega)]
    ·rw [if_neg q, if_neg (by omega)]
   rw [e2];exact h2
 ·have := m1.size; have := h.hi; simp; omega
 ·by_cases e : j = k
  ·subst e; exact hn
  ·exact h.ok j (by omega)

theorem Jef (p : Prg) (l : Loc) (w : World) (hp : PIn w p l) : Calls Tryz.prog 20 #[.agg #[.slice l.ra p.rl l.rc, .slice l.ca p.cl l.cc]] w (Jif p w) := by
 have CH : Hid (∀ w1 : World, More w w1 -> Calls Tryz.prog 39 #[.agg #[.slice l.ra p.rl l.rc, .slice l.ca p.cl l.cc]] w1 fun e w' => ∃ r : Bool, e = .returned (.bool r) /\ (r = true ↔ p.Ok 8000 10) /\ More w1 w') := fun w1 m1 => Jcc p l w1 (hp.more m1)
 have Hp : Hid (PIn w p l) := hp;clear hp;obtain ⟨ra, Hra⟩ : ∃ x, Hid (l.ra = x) := ⟨_, rfl⟩;obtain ⟨rl, Hrl⟩ : ∃ x, Hid (p.rl = x) := ⟨_, rfl⟩;obtain ⟨rc, Hrc⟩ : ∃ x, Hid (l.rc = x) := ⟨_, rfl⟩;obtain ⟨ca, Hca⟩ : ∃ x, Hid (l.ca = x) := ⟨_, rfl⟩;obtain ⟨cl, Hcl⟩ : ∃ x, Hid (p.cl = x) := ⟨_, rfl⟩;obtain ⟨cc, Hcc⟩ : ∃ x, Hid (l.cc = x) := ⟨_, rfl⟩;rw [Hra.out, Hrl.out, Hrc.out, Hca.out, Hcl.out, Hcc.out] at CH |-;obtain ⟨W0, HW0⟩ : ∃ W : World, Hid (W = (w.alloc (.cells #[.slice ra rl rc, .slice ca cl cc] 25)).alloc (.cells #[.int .i64 0, .int .i64 0] 30)) := ⟨_, rfl⟩;have Hm0 : Hid (More w W0) := by rw [HW0.out]; exact ((More.refl _).alloc _ _).alloc _ _
 have B0 : Hid (Blk W0 w.heap.size #[.slice ra rl rc, .slice ca cl cc] 25) := by rw [HW0.out]; exact (Blk.last _ _ _).alloc _ _
 have B1 : Hid (Blk W0 (w.heap.size + 1) #[.int .i64 0, .int .i64 0] 30) := by rw [HW0.out]; show Blk _ _ _ _; simpa using Blk.last (w.alloc (.cells #[.slice ra rl rc, .slice ca cl cc] 25)) #[.int .i64 0, .int .i64 0] 30
 go_enter Tryz.func20, Tryz.ntmps20;go_wp2_with (fail)
 rw [<- HW0.out];have b0 : W0.cell? ⟨w.heap.size, 0, none⟩ = some (.slice ra rl rc) := B0.out.cell rfl;have b1 : W0.cell? ⟨w.heap.size, 1, none⟩ = some (.slice ca cl cc) := B0.out.cell rfl;go_wp2_with (fail)
 refine (CH.out W0 Hm0.out).mono ?_;rintro e w1 ⟨r, rfl, hr, m1⟩;have Hm1 : Hid (More W0 w1) := m1;have D0 : Hid (Blk w1 w.heap.size #[.slice ra rl rc, .slice ca cl cc] 25) := B0.out.more m1;have D1 : Hid (Blk w1 (w.heap.size + 1) #[.int .i64 0, .int .i64 0] 30) := B1.out.more m1;clear m1 CH B0 B1 b0 b1;have a2 : w1.cell? ⟨w.heap.size + 1, 0, none⟩ = some (.int .i64 0) := D1.out.cell rfl;have a3 : w1.cell? ⟨w.heap.size + 1, 1, none⟩ = some (.int .i64 0) := D1.out.cell rfl;have z2 := D1.out.frozen 0;have z3 := D1.out.frozen 1;cases r with
 | false =>
  have Hno : Hid (¬ p.Ok 8000 10) := fun h => by simpa using hr.2 h
  clear hr;go_wp2;refine bodyPost_ret (v := .tuple #[.slice none 0 0, .agg #[.int .i64 2, .int .i64 0]]) (by simp [results, Tryz.results20, go_sem, *]) rfl ?_;refine ⟨(2, 0), .inl ⟨Hno.out, rfl⟩, ?_, .inr ⟨by decide, rfl⟩⟩;exact ((Hm0.out.trans Hm1.out).setCell (by show w.heap.size <= _; simp) _).setCell (by show w.heap.size <= _; simp) _
 | true =>
  have Hok : Hid (p.Ok 8000 10) := hr.1 rfl;clear hr a2 a3 z2 z3;have hcl0 := Hok.out.2.1;have hcl1 := Hok.out.2.2.1;have hca := Hp.out.hc (by omega);rw [Hcl.out] at hcl0 hcl1;obtain ⟨cb, Hcb⟩ : ∃ x, Hid (l.cb = x) := ⟨_, rfl⟩;obtain ⟨co, Hco⟩ : ∃ x, Hid (l.co = x) := ⟨_, rfl⟩;rw [Hca.out, Hcb.out, Hco.out] at hca;subst hca
  have HC : Hid (∀ w1 : World, More w w1 -> CodeAt w1 cb co cl p.ins) := fun w1 m1 => by
   have := Hp.out.code.more m1;rw [Hcb.out, Hco.out, Hcl.out] at this;exact this
  have b0 : w1.cell? ⟨w.heap.size, 0, none⟩ = some (.slice ra rl rc) := D0.out.cell rfl;have b1 : w1.cell? ⟨w.heap.size, 1, none⟩ = some (.slice (some ⟨cb, co, none⟩) cl cc) := D0.out.cell rfl;have hmk := run_make_row' (P := Tryz.prog) 35 91 (.int .u32 0) 4 Tryz.underlying35 Jl1 rfl .i64 .i64 cl (by omega) (by omega);obtain ⟨w2, Hw2⟩ : ∃ w_ : World, Hid (w_ = w1.alloc (.cells (madeCells #[.int .u32 0] cl) 91)) := ⟨_, rfl⟩;obtain ⟨g0, Hg0⟩ : ∃ x, Hid (x = w1.heap.size) := ⟨_, rfl⟩
  have HS0 : Hid (P7 w p (.slice ra rl rc) (.slice (some ⟨cb, co, none⟩) cl cc) g0 0 w2) := by
   have hsz := D1.out.lt;have e := Hg0.out;rw [Hw2.out];refine ⟨D0.out.alloc _ _, D1.out.alloc _ _, fun j hj => ?_, by omega, by rw [e]; simp, fun j hj => absurd hj (Nat.not_lt_zero _), (Hm0.out.trans Hm1.out).alloc _ _⟩;rw [Hcl.out] at hj;have hb := Blk.last w1 (madeCells #[.int .u32 0] cl) 91;rw [e];refine ⟨hb.cell ?_, hb.frozen _⟩;rw [J8g _ _ _ hj]
   rfl
  have zlt := D0.out.lt;go_wp2_with (fail)
  rw [<- Hw2.out, <- Hg0.out];clear hmk b0 b1 zlt;go_loopg [18] cl (fun g iv wr => ∃ (k : Nat), k + g = cl /\ iv = .int .i64 k /\ Hid (P7 w p (.slice ra rl rc) (.slice (some ⟨cb, co, none⟩) cl cc) g0 k wr))
  case atStart => exact ⟨0, by omega, rfl, HS0.out⟩
  case round =>
   obtain ⟨k, hkg, rfl, Hr⟩ := hrel;clear HS0;have a2 : wr.cell? ⟨w.heap.size + 1, 0, none⟩ = some (.int .i64 0) := Hr.out.res.cell rfl;have a3 : wr.cell? ⟨w.heap.size + 1, 1, none⟩ = some (.int .i64 0) := Hr.out.res.cell rfl;have z0 := Hr.out.res.lt;have z2 := Hr.out.res.frozen 0;have z3 := Hr.out.res.frozen 1;cases gk with
   | zero =>
    obtain rfl : k = cl := by omega
    go_wp2;refine bodyPost_ret (v := .tuple #[.slice (some ⟨g0, 0, none⟩) k k, .agg #[.int .i64 0, .int .i64 0]]) (by simp [results, Tryz.results20, go_sem, *]) rfl ?_;have hlo := Hr.out.lo;refine ⟨(0, 0), .inr (.inr ⟨Hok.out, fun j hj => Hr.out.ok j (by rw [<- Hcl.out]; exact hj), rfl⟩), ?_, .inl ⟨rfl, g0, k, by rw [Hcl.out], by omega, fun i hi => ?_⟩⟩
    ·exact (Hr.out.more.setCell (by show w.heap.size <= _; simp) _).setCell (by show w.heap.size <= _; simp) _
    ·have h1 := (((Hr.out.row i hi).other (w.heap.size + 1) 0 (.int .i64 0) (.inl (by omega))).other (w.heap.size + 1) 1 (.int .i64 0) (.inl (by omega))).1
     rw [Nat.zero_add, h1];rw [Hcl.out] at hi;unfold J7a;rw [if_pos hi]
   | succ g =>
    have hk : k < cl := by omega
    have hki : (k : Int) < cl := by omega
    have hk63 : wrap64 ((k : Int) + 1) = (k : Int) + 1 := by unfold wrap64; omega
    obtain ⟨q0, q1, q2, q3, q4⟩ := HC.out wr Hr.out.more k hk;have hsm : Small (p.ins k) := J61 Hok.out.1.1 (Hok.out.2.2.2 k (by rw [Hcl.out]; exact hk));have Hst : Hid (∀ (w1 w2 : World), More wr w1 -> N14 (p.ins k).n -> w2 = w1.setCell ⟨g0, k, none⟩ (.int .u32 (encW (p.ins k))) -> P7 w p (.slice ra rl rc) (.slice (some ⟨cb, co, none⟩) cl cc) g0 (k + 1) w2) := fun w1 w2 m1 hn e => Hr.out.step m1 hn e
    have Hrow : Hid (∀ w1 : World, More wr w1 -> Wr w1 g0 k (J7a p k k)) := fun w1 m1 => (Hr.out.row k (by rw [Hcl.out]; exact hk)).kept (m1.grow none) (by simp)
    have Hbad : Hid (¬ N14 (p.ins k).n -> PutR p (3, (k : Int))) := fun h => .inr (.inl ⟨Hok.out, k, by rw [Hcl.out]; exact hk, Hr.out.ok, h, rfl⟩)
    obtain ⟨⟨op, a, b, c, n⟩, HI⟩ : ∃ x, Hid (p.ins k = x) := ⟨_, rfl⟩;rw [HI.out] at q0 q1 q2 q3 q4 hsm Hbad Hst;dsimp only at q0 q1 q2 q3 q4 Hbad;have Hsm : Hid (Small ⟨op, a, b, c, n⟩) := hsm;clear hsm;by_cases hn : N14 n
    ·have hn' := hn
     obtain ⟨n0, n1⟩ := hn';have d1 : decide (n < -8192) = false := by simp; omega
     have d2 : decide (8191 < n) = false := by simp; omega
     have HN : Hid (N14 n) := hn;clear hn Hbad n0 n1;go_wp2_with (fail)
     refine (J8q op a b c n _ Hsm.out HN.out).mono ?_;rintro e w3 ⟨rfl, m3⟩;have Hm3 : Hid (More wr w3) := ((More.refl _).alloc _ _).trans m3;clear m3;obtain ⟨x1, x2⟩ := Hrow.out w3 Hm3.out;obtain ⟨u, Hu⟩ : ∃ x, Hid (encW ⟨op, a, b, c, n⟩ = x) := ⟨_, rfl⟩;rw [Hu.out] at Hst |-;have Hn3 : Hid (P7 w p (.slice ra rl rc) (.slice (some ⟨cb, co, none⟩) cl cc) g0 (k + 1) (w3.setCell ⟨g0, k, none⟩ (.int .u32 u))) := Hst.out w3 _ Hm3.out HN.out rfl;clear Hst;go_wp2;go_roundg g
     case measure => omega
     case rel => exact ⟨k + 1, by omega, by first | rfl | simp, Hn3.out⟩
    ·have HB : Hid (PutR p (3, (k : Int))) := Hbad.out hn
     have Hmr : Hid (More w wr) := Hr.out.more;clear Hbad Hst Hrow
     have Hfin : Hid (∀ w' : World, w' = ((wr.setCell ⟨w.heap.size + 1, 0, none⟩ (.int .i64 3)).setCell ⟨w.heap.size + 1, 1, none⟩ (.int .i64 (k : Int))).alloc (.cells #[.int .i64 op, .int .i64 a, .int .i64 b, .int .i64 c, .int .i64 n] 53) -> Jif p w (.returned (.tuple #[.slice none 0 0, .agg #[.int .i64 3, .int .i64 (k : Int)]])) w') := fun w' e => by
      refine ⟨(3, (k : Int)), HB.out, ?_, .inr ⟨by show ¬ (3 : Int) = 0; decide, rfl⟩⟩;rw [e];exact ((Hmr.out.setCell (by show w.heap.size <= _; simp) _).setCell (by show w.heap.size <= _; simp) _).alloc _ _
     by_cases h1 : n < -8192
     ·have d1 : decide (n < -8192) = true := by simp [h1]
      clear hn;go_wp2;refine bodyPost_ret (v := .tuple #[.slice none 0 0, .agg #[.int .i64 3, .int .i64 (k : Int)]]) (by simp [results, Tryz.results20, go_sem, *]) rfl (Hfin.out _ rfl)
     ·have d1 : decide (n < -8192) = false := by simp [h1]
      have d2 : decide (8191 < n) = true := by unfold N14 at hn; simp; omega
      clear hn h1;go_wp2;refine bodyPost_ret (v := .tuple #[.slice none 0 0, .agg #[.int .i64 3, .int .i64 (k : Int)]]) (by simp [results, Tryz.results20, go_sem, *]) rfl (Hfin.out _ rfl)
def Jiu (p : Prg) (w : World) (e : Ending) (w' : World) : Prop :=
  ∃ f : Int × Int, Told p f /\ More w w' /\
    ((f.1 = 0 /\ ∃ g c, e = .returned (.tuple #[.slice (some ⟨g, 0, none⟩) (fitP (hardP p)).cl c, .agg #[.int .i64 0, .int .i64 0]]) /\ WordsAt w' g 0 (fitP (hardP p)).cl (fun j => encW ((fitP (hardP p)).ins j))) \/
     (¬ f.1 = 0 /\ e = .returned (.tuple #[.slice none 0 0, .agg #[.int .i64 f.1, .int .i64 f.2]])))

theorem Jhg {q : Prg} {f : Int × Int} (ok : q.Ok 8000 10) (hn : ∀ j, j < q.cl -> N14 (q.ins j).n) (h : PutR q f) : f = (0, 0) := h.one (.inr (.inr ⟨ok, hn, rfl⟩))

theorem Jcm (p : Prg) (l : Loc) (w : World) (hp : PIn w p l) (hf : p.Fit) : Calls Tryz.prog 8 #[prgV p l] w (Jiu p w) := by
  unfold prgV;have C1 : Hid (∀ w1 : World, More w w1 -> Calls Tryz.prog 19 #[.agg #[.slice l.ra p.rl l.rc, .slice l.ca p.cl l.cc]] w1 (Made p w1)) := fun w1 m1 => Jco p l w1 (hp.more m1) hf
  have C2 : Hid (p.Ok 200 8 -> ∀ (lh : Loc) (w1 w2 : World) (Lb : Nat), More w1 w2 -> w1.heap.size <= Lb -> PIn w1 (hardP p) lh -> Blk w2 Lb #[.slice lh.ra (hardP p).rl lh.rc, .slice lh.ca (hardP p).cl lh.cc, .slice none 0 0] 69 -> Calls Tryz.prog 21 #[.pointer (some ⟨Lb, 0, none⟩)] w2 fun e w' => ∃ lf : Loc, e = .returned (prgV (fitP (hardP p)) lf) /\ PIn w' (fitP (hardP p)) lf /\ More w1 w') := fun ok lh w1 w2 Lb m h1 h2 h3 => by
    have hl := Jj8 (J6f p) ok hf;exact Jcl (hardP p) lh w1 w2 Lb m h1 h2 hl.ok (by have := J4v p p.cl; have := ok.2.2.1; show J0m p p.cl <= 600; omega) h3 (fun k hk => (hl.fit.ins k hk).2.2.2.2)
  have C3 : Hid (p.Ok 200 8 -> ∀ (lf : Loc) (w1 : World), PIn w1 (fitP (hardP p)) lf -> Calls Tryz.prog 20 #[prgV (fitP (hardP p)) lf] w1 fun e w' => More w1 w' /\ ∃ g c, e = .returned (.tuple #[.slice (some ⟨g, 0, none⟩) (fitP (hardP p)).cl c, .agg #[.int .i64 0, .int .i64 0]]) /\ w1.heap.size <= g /\ WordsAt w' g 0 (fitP (hardP p)).cl (fun j => encW ((fitP (hardP p)).ins j))) := fun ok lf w1 h1 => by
    refine (Jef _ lf w1 h1).mono ?_;rintro e w' ⟨f, hR, m, h⟩;obtain rfl := Jhg (J5n ok hf) (J4d ok hf) hR;rcases h with ⟨_, g, c, he, hg, hw⟩ | ⟨h, _⟩
    · exact ⟨m, g, c, he, hg, hw⟩
    · exact absurd rfl h
  clear hp hf;obtain ⟨ra, Hra⟩ : ∃ x, Hid (l.ra = x) := ⟨_, rfl⟩;obtain ⟨rl, Hrl⟩ : ∃ x, Hid (p.rl = x) := ⟨_, rfl⟩;obtain ⟨rc, Hrc⟩ : ∃ x, Hid (l.rc = x) := ⟨_, rfl⟩;obtain ⟨ca, Hca⟩ : ∃ x, Hid (l.ca = x) := ⟨_, rfl⟩;obtain ⟨cl, Hcl⟩ : ∃ x, Hid (p.cl = x) := ⟨_, rfl⟩;obtain ⟨cc, Hcc⟩ : ∃ x, Hid (l.cc = x) := ⟨_, rfl⟩;rw [Hra.out, Hrl.out, Hrc.out, Hca.out, Hcl.out, Hcc.out] at C1 |-;obtain ⟨W0, HW0⟩ : ∃ W : World, Hid (W = (w.alloc (.cells #[.slice ra rl rc, .slice ca cl cc] 25)).alloc (.cells #[.int .i64 0, .int .i64 0] 30)) := ⟨_, rfl⟩;have Hm0 : Hid (More w W0) := HW0.out ▸ ((More.refl _).alloc _ _).alloc _ _;have B1 : Hid (Blk W0 (w.heap.size + 1) #[.int .i64 0, .int .i64 0] 30) := HW0.out ▸ (by simpa using Blk.last (w.alloc (.cells #[.slice ra rl rc, .slice ca cl cc] 25)) #[.int .i64 0, .int .i64 0] 30 : Blk _ (w.heap.size + 1) _ _);go_enter Tryz.func8, Tryz.ntmps8;go_wp2_with (fail)
  rw [<- HW0.out];refine (C1.out W0 Hm0.out).mono ?_;rintro e w1 ⟨⟨f1, f2⟩, hT, m1, h⟩;have HT : Hid (Told p (f1, f2)) := hT;have Hm1 : Hid (More W0 w1) := m1;clear hT m1 C1;rcases h with ⟨h0, lh, hin, rfl⟩ | ⟨h0, rfl⟩
  · dsimp only at h0
    subst h0;obtain ⟨hok, lk, hk, hk0⟩ := HT.out.ok rfl;have HO : Hid (p.Ok 200 8) := hok;clear hok hk hk0;have C2' := C2.out HO.out lh;have C3' : Hid (∀ (lf : Loc) (w1 : World), PIn w1 (fitP (hardP p)) lf -> Calls Tryz.prog 20 #[prgV (fitP (hardP p)) lf] w1 fun e w' => More w1 w' /\ ∃ g c, e = .returned (.tuple #[.slice (some ⟨g, 0, none⟩) (fitP (hardP p)).cl c, .agg #[.int .i64 0, .int .i64 0]]) /\ w1.heap.size <= g /\ WordsAt w' g 0 (fitP (hardP p)).cl (fun j => encW ((fitP (hardP p)).ins j))) := C3.out HO.out;have Hin : Hid (PIn w1 (hardP p) lh) := hin;unfold prgV;obtain ⟨ra', Hra'⟩ : ∃ x, Hid (lh.ra = x) := ⟨_, rfl⟩;obtain ⟨rl', Hrl'⟩ : ∃ x, Hid ((hardP p).rl = x) := ⟨_, rfl⟩;obtain ⟨rc', Hrc'⟩ : ∃ x, Hid (lh.rc = x) := ⟨_, rfl⟩;obtain ⟨ca', Hca'⟩ : ∃ x, Hid (lh.ca = x) := ⟨_, rfl⟩;obtain ⟨cl', Hcl'⟩ : ∃ x, Hid ((hardP p).cl = x) := ⟨_, rfl⟩;obtain ⟨cc', Hcc'⟩ : ∃ x, Hid (lh.cc = x) := ⟨_, rfl⟩;rw [Hra'.out, Hrl'.out, Hrc'.out, Hca'.out, Hcl'.out, Hcc'.out] at C2' |-;have C2'' : Hid (∀ (w1 w2 : World) (Lb : Nat), More w1 w2 -> w1.heap.size <= Lb -> PIn w1 (hardP p) lh -> Blk w2 Lb #[.slice ra' rl' rc', .slice ca' cl' cc', .slice none 0 0] 69 -> Calls Tryz.prog 21 #[.pointer (some ⟨Lb, 0, none⟩)] w2 fun e w' => ∃ lf : Loc, e = .returned (prgV (fitP (hardP p)) lf) /\ PIn w' (fitP (hardP p)) lf /\ More w1 w') := C2';clear C2 C3 C2' hin
    obtain ⟨W2, HW2⟩ : ∃ W : World, Hid (W = ((w1.alloc (.cells #[.slice ra' rl' rc', .slice ca' cl' cc'] 25)).alloc (.cells #[.int .i64 0, .int .i64 0] 30)).alloc (.cells #[.slice ra' rl' rc', .slice ca' cl' cc', .slice none 0 0] 69)) := ⟨_, rfl⟩;have Hm2 : Hid (More w1 W2) := HW2.out ▸ (((More.refl _).alloc _ _).alloc _ _).alloc _ _;have HB2 : Hid (Blk W2 (w1.heap.size + 1 + 1) #[.slice ra' rl' rc', .slice ca' cl' cc', .slice none 0 0] 69) := HW2.out ▸ (by simpa using Blk.last ((w1.alloc (.cells #[.slice ra' rl' rc', .slice ca' cl' cc'] 25)).alloc (.cells #[.int .i64 0, .int .i64 0] 30)) #[.slice ra' rl' rc', .slice ca' cl' cc', .slice none 0 0] 69 : Blk _ (w1.heap.size + 1 + 1) _ _);have C21 := C2''.out w1 W2 (w1.heap.size + 1 + 1) Hm2.out (by omega) Hin.out HB2.out;go_wp2_with (fail)
    rw [<- HW2.out];refine C21.mono ?_;rintro e w3 ⟨lf, rfl, hin3, m3⟩;have C31 := C3'.out lf w3 hin3;have Hm3 : Hid (More w1 w3) := m3;unfold prgV at C31 |-;obtain ⟨ra2, Hra2⟩ : ∃ x, Hid (lf.ra = x) := ⟨_, rfl⟩;obtain ⟨rl2, Hrl2⟩ : ∃ x, Hid ((fitP (hardP p)).rl = x) := ⟨_, rfl⟩;obtain ⟨rc2, Hrc2⟩ : ∃ x, Hid (lf.rc = x) := ⟨_, rfl⟩;obtain ⟨ca2, Hca2⟩ : ∃ x, Hid (lf.ca = x) := ⟨_, rfl⟩;obtain ⟨cl2, Hcl2⟩ : ∃ x, Hid ((fitP (hardP p)).cl = x) := ⟨_, rfl⟩;obtain ⟨cc2, Hcc2⟩ : ∃ x, Hid (lf.cc = x) := ⟨_, rfl⟩;rw [Hra2.out, Hrl2.out, Hrc2.out, Hca2.out, Hcl2.out, Hcc2.out] at C31;rw [Hra2.out, Hrl2.out, Hrc2.out, Hca2.out, Hcl2.out, Hcc2.out];clear C2'' C3' C21 hin3 m3;go_wp2_with (fail)
    refine C31.mono ?_;rintro e w4 ⟨m4, g, c, rfl, hg, hw⟩;have HW4 : Hid (WordsAt w4 g 0 cl2 (fun j => encW ((fitP (hardP p)).ins j)) /\ w3.heap.size <= g) := ⟨hw, hg⟩;have Hm4 : Hid (More W0 w4) := (Hm1.out.trans Hm3.out).trans m4;clear hw hg m4 C31;have B4 : Hid (Blk w4 (w.heap.size + 1) #[.int .i64 0, .int .i64 0] 30) := B1.out.more Hm4.out;have a0 : w4.cell? ⟨w.heap.size + 1, 0, none⟩ = some (.int .i64 0) := B4.out.cell rfl;have a1 : w4.cell? ⟨w.heap.size + 1, 1, none⟩ = some (.int .i64 0) := B4.out.cell rfl;have z0 := B4.out.frozen 0;have z1 := B4.out.frozen 1;go_wp2;refine bodyPost_ret (v := .tuple #[.slice (some ⟨g, 0, none⟩) cl2 c, .agg #[.int .i64 0, .int .i64 0]]) (by simp [results, Tryz.results8, go_sem, *]) rfl ?_
    have hsz : w.heap.size + 1 < w3.heap.size := by
      have := (B1.out.more (Hm1.out.trans Hm3.out)).lt;omega
    refine ⟨(0, f2), HT.out, ?_, .inl ⟨rfl, g, c, ?_, ?_⟩⟩
    · exact ((Hm0.out.trans Hm4.out).setCell (by show w.heap.size <= _; simp) _).setCell (by show w.heap.size <= _; simp) _
    · rw [Hcl2.out]
    · rw [Hcl2.out]
      have hg := HW4.out.2;intro j hj;rw [World.cell?_setCell_other _ _ _ _ (by intro e; simp only [Addr.mk.injEq] at e; omega), World.cell?_setCell_other _ _ _ _ (by intro e; simp only [Addr.mk.injEq] at e; omega)];exact HW4.out.1 j hj
  · have H0 : Hid (¬ f1 = 0) := h0
    have e1 : (f1 != 0) = true := by simp; exact h0
    clear h0 C2 C3;obtain ⟨W, HW⟩ : ∃ W : World, Hid (W = (w1.alloc (.cells #[.slice none 0 0, .slice none 0 0] 25)).alloc (.cells #[.int .i64 f1, .int .i64 f2] 30)) := ⟨_, rfl⟩;have HmW : Hid (More w1 W) := HW.out ▸ ((More.refl _).alloc _ _).alloc _ _;have D3 : Hid (Blk W (w1.heap.size + 1) #[.int .i64 f1, .int .i64 f2] 30) := HW.out ▸ (by simpa using Blk.last (w1.alloc (.cells #[.slice none 0 0, .slice none 0 0] 25)) #[.int .i64 f1, .int .i64 f2] 30 : Blk _ (w1.heap.size + 1) _ _);have Hm : Hid (More W0 W) := Hm1.out.trans HmW.out;obtain ⟨S, HS⟩ : ∃ S : World -> Prop, Hid (∀ w', S w' ↔ Blk w' (w1.heap.size + 1) #[.int .i64 f1, .int .i64 f2] 30) := ⟨_, fun _ => Iff.rfl⟩;have HS0 : S W.drew := (HS.out _).2 D3.out;have k0 : ∀ i : { w' // S w' }, i.val.cell? ⟨w1.heap.size + 1, 0, none⟩ = some (.int .i64 f1) := fun i => ((HS.out _).1 i.property).cell rfl
    have k1 : ∀ i : { w' // S w' }, i.val.cell? ⟨w1.heap.size + 1, 1, none⟩ = some (.int .i64 f2) := fun i => ((HS.out _).1 i.property).cell rfl
    have hne : Nonempty { w' // S w' } := ⟨⟨_, HS0⟩⟩;have hz1 : w.heap.size + 1 < w1.heap.size := (B1.out.more Hm1.out).lt;have B4 : Hid (Blk W (w.heap.size + 1) #[.int .i64 0, .int .i64 0] 30) := B1.out.more Hm.out;have a0 : W.cell? ⟨w.heap.size + 1, 0, none⟩ = some (.int .i64 0) := B4.out.cell rfl;have a1 : W.cell? ⟨w.heap.size + 1, 1, none⟩ = some (.int .i64 0) := B4.out.cell rfl;have z0 := B4.out.frozen 0;have z1 := B4.out.frozen 1;go_wp2_with (fail)
    rw [<- HW.out];refine J01 (S := S) [(0, true), (1, true), (2, false)] (by kernel_rfl) (by kernel_rfl) (by kernel_rfl) HS0 ?_
    iterate 2 (refine J00 rfl (by kernel_rfl) (fun K hK => ?_); go_simp; refine hK _ _ ?_; clear hK K)
    refine J02 rfl (by kernel_rfl) (fun K hK => ?_); go_simp;refine hK _ _ ((HS.out _).2 ((D3.out.other (by omega) _ _).other (by omega) _ _)) ?_; clear hK K;refine J04 ?_;clear k0 k1 hne HS0;go_wp2;refine bodyPost_ret (v := .tuple #[.slice none 0 0, .agg #[.int .i64 f1, .int .i64 f2]]) (by simp [results, Tryz.results8, go_sem, *]) rfl ?_;refine ⟨(f1, f2), HT.out, ?_, .inr ⟨H0.out, rfl⟩⟩;exact (((Hm0.out.trans Hm.out).setCell (by show w.heap.size <= _; simp) _).setCell (by show w.heap.size <= _; simp) _).drew

theorem Blk.apart {w : World} {X : Nat} {u v : Value} {T : TypeId} (h : Blk w X #[u, v] T) {b o : Nat} {x : Value} (hc : w.cell? ⟨b, o, none⟩ = some x) (h1 : x ≠ u) (h2 : x ≠ v) : X ≠ b := by
  rintro rfl;unfold Blk at h;unfold World.cell? at hc;simp [h] at hc
  match o, hc with
  | 0, hc => exact h1 (by simpa using hc.symm)
  | 1, hc => exact h2 (by simpa using hc.symm)
  | o + 2, hc => simp at hc

theorem Jcg (p : Prg) (l : Loc) (w : World) (hp : PIn w p l) (g n c : Nat) (f : Nat -> Int) (hw : WordsAt w g 0 n f) (hf : ∀ i, i < n -> W32 (f i)) (hn : n <= 3000000000000) (ok : (getP p.rl p.log p.sec n f).Ok 8000 10) :
    Calls Tryz.prog 9 #[.agg #[.slice l.ra p.rl l.rc, .slice l.ca p.cl l.cc], .slice (some ⟨g, 0, none⟩) n c] w fun e w' => ∃ lq : Loc, PIn w' (getP p.rl p.log p.sec n f) lq /\ e = .returned (.tuple #[.agg #[.slice lq.ra p.rl lq.rc, .slice lq.ca n lq.cc], .bool true]) /\ More w w' := by
  have CG : Hid (∀ w1 : World, More w w1 -> Calls Tryz.prog 22 #[.slice l.ra p.rl l.rc, .slice (some ⟨g, 0, none⟩) n c] w1 fun e w' => More w1 w' /\ ∃ lq : Loc, PIn w' (getP p.rl p.log p.sec n f) lq /\ e = .returned (.tuple #[.agg #[.slice lq.ra p.rl lq.rc, .slice lq.ca n lq.cc], .agg #[.int .i64 0, .int .i64 0]])) := fun w1 m1 => by
    refine (Jhn l.ra p.rl l.rc l.rb l.ro p.log p.sec (some ⟨g, 0, none⟩) n c g 0 f w1 hp.hr (hp.regs.more m1) (fun _ => rfl) (fun i hi => m1.cell (hw i hi)) hf hn).mono ?_;rintro e w' ⟨m, ⟨_, lq, h1, h2⟩ | ⟨h, _⟩⟩
    · exact ⟨m, lq, h1, h2⟩
    · exact absurd ok h
  clear hp hw hf hn;obtain ⟨ra, Hra⟩ : ∃ x, Hid (l.ra = x) := ⟨_, rfl⟩;obtain ⟨rl, Hrl⟩ : ∃ x, Hid (p.rl = x) := ⟨_, rfl⟩;obtain ⟨rc, Hrc⟩ : ∃ x, Hid (l.rc = x) := ⟨_, rfl⟩;obtain ⟨ca, Hca⟩ : ∃ x, Hid (l.ca = x) := ⟨_, rfl⟩;obtain ⟨cl, Hcl⟩ : ∃ x, Hid (p.cl = x) := ⟨_, rfl⟩;obtain ⟨cc, Hcc⟩ : ∃ x, Hid (l.cc = x) := ⟨_, rfl⟩;obtain ⟨q, Hq⟩ : ∃ x, Hid (getP p.rl p.log p.sec n f = x) := ⟨_, rfl⟩;rw [Hq.out] at CG ok |-;rw [Hra.out, Hrl.out, Hrc.out] at CG;rw [Hra.out, Hrl.out, Hrc.out, Hca.out, Hcl.out, Hcc.out];obtain ⟨W0, HW0⟩ : ∃ W : World, Hid (W = (w.alloc (.cells #[.slice ra rl rc, .slice ca cl cc] 25)).alloc (.cells #[.slice none 0 0, .slice none 0 0] 25)) := ⟨_, rfl⟩;have Hm0 : Hid (More w W0) := HW0.out ▸ ((More.refl _).alloc _ _).alloc _ _;have B1 : Hid (Blk W0 (w.heap.size + 1) #[.slice none 0 0, .slice none 0 0] 25) := HW0.out ▸ (by simpa using Blk.last (w.alloc (.cells #[.slice ra rl rc, .slice ca cl cc] 25)) #[.slice none 0 0, .slice none 0 0] 25 : Blk _ (w.heap.size + 1) _ _);go_enter Tryz.func9, Tryz.ntmps9;go_wp2_with (fail)
  rw [<- HW0.out];refine (CG.out W0 Hm0.out).mono ?_;rintro e w1 ⟨m1, lq, hin, rfl⟩;have Hm1 : Hid (More W0 w1) := m1;have Hin : Hid (PIn w1 q lq) := hin;obtain ⟨a2, Ha2⟩ : ∃ x, Hid (lq.ra = x) := ⟨_, rfl⟩;obtain ⟨c2, Hc2⟩ : ∃ x, Hid (lq.rc = x) := ⟨_, rfl⟩;obtain ⟨a3, Ha3⟩ : ∃ x, Hid (lq.ca = x) := ⟨_, rfl⟩;obtain ⟨c3, Hc3⟩ : ∃ x, Hid (lq.cc = x) := ⟨_, rfl⟩;rw [Ha2.out, Hc2.out, Ha3.out, Hc3.out];clear m1 hin CG;obtain ⟨W, HW⟩ : ∃ W : World, Hid (W = (w1.alloc (.cells #[.slice a2 rl c2, .slice a3 n c3] 25)).alloc (.cells #[.int .i64 0, .int .i64 0] 30)) := ⟨_, rfl⟩;have HmW : Hid (More w1 W) := HW.out ▸ ((More.refl _).alloc _ _).alloc _ _;have D1 : Hid (Blk W w1.heap.size #[.slice a2 rl c2, .slice a3 n c3] 25) := HW.out ▸ (Blk.last _ _ _).alloc _ _;have D2 : Hid (Blk W (w1.heap.size + 1) #[.int .i64 0, .int .i64 0] 30) := HW.out ▸ (by simpa using Blk.last (w1.alloc (.cells #[.slice a2 rl c2, .slice a3 n c3] 25)) #[.int .i64 0, .int .i64 0] 30 : Blk _ (w1.heap.size + 1) _ _);obtain ⟨wd, Hwd⟩ : ∃ w_ : World, Hid (w_ = W.drew) := ⟨_, rfl⟩;have Hmd : Hid (More W wd) := Hwd.out ▸ (More.refl W).drew;have hz1 : w.heap.size + 1 < w1.heap.size := (B1.out.more Hm1.out).lt;obtain ⟨S, HS⟩ : ∃ S : World -> Prop, Hid (∀ w', S w' ↔ (Blk w' w1.heap.size #[.slice a2 rl c2, .slice a3 n c3] 25 /\ Blk w' (w1.heap.size + 1) #[.int .i64 0, .int .i64 0] 30)) := ⟨_, fun _ => Iff.rfl⟩
  have HS1 : S wd := (HS.out _).2 ⟨D1.out.more Hmd.out, D2.out.more Hmd.out⟩;have HS0 : S W.drew := Hwd.out ▸ HS1;have k0 : ∀ i : { w' // S w' }, i.val.cell? ⟨w1.heap.size, 0, none⟩ = some (.slice a2 rl c2) := fun i => ((HS.out _).1 i.property).1.cell rfl
  have k1 : ∀ i : { w' // S w' }, i.val.cell? ⟨w1.heap.size, 1, none⟩ = some (.slice a3 n c3) := fun i => ((HS.out _).1 i.property).1.cell rfl
  have k2 : ∀ i : { w' // S w' }, i.val.cell? ⟨w1.heap.size + 1, 0, none⟩ = some (.int .i64 0) := fun i => ((HS.out _).1 i.property).2.cell rfl
  have hne : Nonempty { w' // S w' } := ⟨⟨_, HS0⟩⟩;have B4 : Hid (Blk wd (w.heap.size + 1) #[.slice none 0 0, .slice none 0 0] 25) := B1.out.more ((Hm1.out.trans HmW.out).trans Hmd.out);have a0 : wd.cell? ⟨w.heap.size + 1, 0, none⟩ = some (.slice none 0 0) := B4.out.cell rfl;have a1 : wd.cell? ⟨w.heap.size + 1, 1, none⟩ = some (.slice none 0 0) := B4.out.cell rfl;have z0 := B4.out.frozen 0;have z1 := B4.out.frozen 1;have HSz : Hid (S ((wd.setCell ⟨w.heap.size + 1, 0, none⟩ (.slice a2 rl c2)).setCell ⟨w.heap.size + 1, 1, none⟩ (.slice a3 n c3))) := (HS.out _).2 ⟨(((HS.out _).1 HS1).1.other (by omega) _ _).other (by omega) _ _, (((HS.out _).1 HS1).2.other (by omega) _ _).other (by omega) _ _⟩;clear HS1;go_wp2_with (fail)
  rw [<- HW.out];refine J01 (S := S) [(0, true), (1, true), (2, true), (3, true), (4, false), (5, true)] (by kernel_rfl) (by kernel_rfl) (by kernel_rfl) HS0 ?_;rw [<- Hwd.out]
  iterate 4 (refine J00 rfl (by kernel_rfl) (fun K hK => ?_); go_simp; refine hK _ _ ?_; clear hK K)
  refine J02 rfl (by kernel_rfl) (fun K hK => ?_); go_simp;refine hK _ _ HSz.out ?_; clear hK K;refine J00 rfl (by kernel_rfl) (fun K hK => ?_); go_simp; refine hK _ _ ?_; clear hK K;refine J04 ?_;clear k0 k1 k2 hne HS0;go_wp2;refine bodyPost_ret (v := .tuple #[.agg #[.slice a2 rl c2, .slice a3 n c3], .bool true]) (by simp [results, Tryz.results9, go_sem, *]) rfl ?_;have hin := Hin.out.more (HmW.out.trans Hmd.out);have nr : 0 < q.rl -> w.heap.size + 1 ≠ lq.rb := fun h => B4.out.apart (hin.regs 0 h).1 (by simp) (by simp)
  have nc : 0 < q.cl -> w.heap.size + 1 ≠ lq.cb := fun h => B4.out.apart (hin.code 0 h).1 (by simp) (by simp)
  refine ⟨lq, ⟨hin.hr, hin.hc, ?_, ?_⟩, by rw [Ha2.out, Hc2.out, Ha3.out, Hc3.out], ?_⟩
  · by_cases h : q.rl = 0
    · intro i hi; omega
    · exact (hin.regs.other (nr (by omega)) _ _).other (nr (by omega)) _ _
  · by_cases h : q.cl = 0
    · intro i hi; omega
    · exact (hin.code.other (nc (by omega)) _ _).other (nc (by omega)) _ _
  · exact (((((Hm0.out.trans Hm1.out).trans HmW.out).trans Hmd.out).setCell (by show w.heap.size <= _; simp) _).setCell (by show w.heap.size <= _; simp) _)

theorem Jjg {p : Prg} (hf : p.Fit) (ok : p.Ok 200 8) (l : Loc) (w : World) (hp : PIn w p l) (g c : Nat) (hw : WordsAt w g 0 (fitP (hardP p)).cl (fun j => encW ((fitP (hardP p)).ins j))) :
    Calls Tryz.prog 9 #[.agg #[.slice l.ra p.rl l.rc, .slice l.ca p.cl l.cc], .slice (some ⟨g, 0, none⟩) (fitP (hardP p)).cl c] w fun e w' => ∃ lq : Loc, PIn w' (backP (fitP (hardP p))) lq /\ e = .returned (.tuple #[.agg #[.slice lq.ra p.rl lq.rc, .slice lq.ca (fitP (hardP p)).cl lq.cc], .bool true]) /\ More w w' :=
  Jcg p l w hp g _ c _ hw (fun i hi => Jj6 (J61 (J5n ok hf).1.1 ((J5n ok hf).2.2.2 i hi)) (J4d ok hf i hi)) (by have := (J5n ok hf).2.2.1; omega) (Jdf (J5n ok hf) (J4d ok hf))

def Loads (p : Prg) (l : Loc) (w : World) : Prop :=
  Calls Tryz.prog 8 #[.agg #[.slice l.ra p.rl l.rc, .slice l.ca p.cl l.cc]] w fun e w1 => ∃ g n c, e = .returned (.tuple #[.slice (some ⟨g, 0, none⟩) n c, .agg #[.int .i64 0, .int .i64 0]]) /\ More w w1 /\
    ∀ w2, More w1 w2 -> Calls Tryz.prog 9 #[.agg #[.slice l.ra p.rl l.rc, .slice l.ca p.cl l.cc], .slice (some ⟨g, 0, none⟩) n c] w2 fun e w' => ∃ (h : Prg) (lh : Loc), J65 p h /\ PIn w' h lh /\ e = .returned (.tuple #[.agg #[.slice lh.ra h.rl lh.rc, .slice lh.ca h.cl lh.cc], .bool true]) /\ More w2 w'
theorem Jcn (p : Prg) (l : Loc) (w : World) (hp : PIn w p l) (hf : p.Fit) (ok : p.Ok 200 8) (lk : KV) (hk : Known p lk) (hc : (J0e p lk).1 = 0) : Loads p l w := by
  unfold Loads;refine (Jcm p l w hp hf).mono ?_;rintro e w1 ⟨f, hT, m, ⟨h0, g, c, rfl, hw⟩ | h⟩
  · refine ⟨g, _, c, rfl, m, fun w2 m2 => ?_⟩
    refine (Jjg hf ok l w2 (hp.more (m.trans m2)) g c (fun i hi => m2.cell (hw i hi))).mono ?_;rintro e w' ⟨lq, h1, h2, h3⟩;exact ⟨_, lq, ⟨ok, ⟨lk, hk, hc⟩, rfl⟩, h1, h2, h3⟩
  · have : f = J0e p lk := hT.one (.inr ⟨ok, lk, hk, rfl⟩)
    exact absurd (by rw [this]; exact hc) h.1
theorem J9h (p : Prg) (lo : Loc) (x y : Mem) (l l' : MLoc) (w : World) (hp : PIn w p lo) (hx : MIn w x l) (hy : MIn w y l') (hlx : x.ml = p.rl) (hly : y.ml = p.rl) (hrl : p.rl <= 6) (hlen : ∀ c, c < p.rl -> x.len c = y.len c /\ x.len c <= 64) (hcv : ∃ a n c, (Value.slice lo.ca p.cl lo.cc) = .slice a n c) :
  Calls Tryz.prog 6 #[.agg #[.slice lo.ra p.rl lo.rc, .slice lo.ca p.cl lo.cc], .slice l.ma x.ml l.mc, .slice l'.ma y.ml l'.mc] w (Says (PubI p x y) w) := by
 obtain ⟨ma, mb, mo, mc, A, C, gb, go⟩ := l;obtain ⟨ma', mb', mo', mc', A', C', gb', go'⟩ := l';obtain ⟨ra, rb, ro, rc, ca, cb, co, cc⟩ := lo;have H : Hid (MIn w x ⟨ma, mb, mo, mc, A, C, gb, go⟩ /\ MIn w y ⟨ma', mb', mo', mc', A', C', gb', go'⟩ /\ ∀ c, c < p.rl -> x.len c = y.len c /\ x.len c <= 64) := ⟨hx, hy, hlen⟩;have HPn : Hid (PIn w p ⟨ra, rb, ro, rc, ca, cb, co, cc⟩) := hp;obtain ⟨P, HP⟩ : ∃ P : Prop, Hid (P ↔ PubI p x y) := ⟨PubI p x y, (Iff.rfl : _ ↔ _)⟩;rw [<- propext HP.out];clear hx hy hlen hp hcv;obtain ⟨n, hn⟩ : ∃ n, p.rl = n := ⟨_, rfl⟩;dsimp only;rw [hlx, hly, hn];rw [hn] at hrl;have Hn : Hid (p.rl = n /\ x.ml = n /\ y.ml = n) := ⟨hn, hlx.trans hn, hly.trans hn⟩;clear hn hlx hly;have hri : (n : Int) <= 6 := by omega
 obtain ⟨W, HW⟩ : ∃ W : World, Hid (W = w.alloc (.cells #[.slice ra n rc, .slice ca p.cl cc] 25)) := ⟨_, rfl⟩;have HmW : Hid (More w W) := HW.out ▸ (More.refl _).alloc _ _;have HB : Hid (Blk W w.heap.size #[.slice ra n rc, .slice ca p.cl cc] 25) := HW.out ▸ Blk.last _ _ _;go_enter Tryz.func6, Tryz.ntmps6;go_wp2_with (fail)
 rw [<- HW.out];go_loopg [7] n (fun q i wr => ∃ k : Nat, k + q = n /\ i = .int .i64 k /\ Hid (More W wr /\ ∀ c, c < k -> p.sec c = false -> ∀ i, i < x.len c -> x.wd c i = y.wd c i))
 case atStart => exact ⟨0, by omega, rfl, More.refl _, fun c hc => absurd hc (Nat.not_lt_zero _)⟩
 case round =>
  obtain ⟨k, hkg, rfl, HR⟩ := hrel;have b0 : wr.cell? ⟨w.heap.size, 0, none⟩ = some (.slice ra n rc) := (HB.out.more HR.out.1).cell rfl;cases gk with
  | zero =>
   obtain rfl : k = n := by omega
   go_wp2;go_ret;exact Says.yes (HP.out.2 (fun c hc => HR.out.2 c (by rw [<- Hn.out.1]; exact hc))) (HmW.out.trans HR.out.1)
  | succ q =>
   have hk : k < n := by omega
   have hk' : (k : Int) < (n : Int) := by omega
   have Hk : Hid (k < x.ml /\ k < y.ml /\ k < p.rl) := ⟨by rw [Hn.out.2.1]; exact hk, by rw [Hn.out.2.2]; exact hk, by rw [Hn.out.1]; exact hk⟩;obtain rfl : ra = some ⟨rb, ro, none⟩ := HPn.out.hr (by have := Hk.out; omega);have r0 := (HmW.out.trans HR.out.1).cell (HPn.out.regs k Hk.out.2.2).2;dsimp only at r0;cases hs : p.sec k with
   | true =>
    rw [hs] at r0;have Hs : Hid (p.sec k = true) := hs;clear hs;go_wp2;go_roundg q
    case measure => omega
    case rel =>
     refine ⟨k + 1, by omega, by first | rfl | simp, HR.out.1, fun c hc hsc => ?_⟩;by_cases e : c = k
     ·subst e; rw [Hs.out] at hsc; cases hsc
     ·exact HR.out.2 c (by omega) hsc
   | false =>
    rw [hs] at r0;have Hse : Hid (p.sec k = false) := hs;clear hs;obtain rfl : ma = some ⟨mb, mo, none⟩ := H.out.1.hm (by have := Hk.out.1; omega);obtain rfl : ma' = some ⟨mb', mo', none⟩ := H.out.2.1.hm (by have := Hk.out.2.1; omega);have q1 := H.out.1.lists k Hk.out.1;have q2 := H.out.2.1.lists k Hk.out.2.1;dsimp only at q1 q2;rw [<- (H.out.2.2 k Hk.out.2.2).1] at q2;obtain ⟨r, hr⟩ : ∃ r, x.len k = r := ⟨_, rfl⟩;rw [hr] at q1 q2;have hr64 : r <= 64 := by rw [<- hr]; exact (H.out.2.2 k Hk.out.2.2).2
    have hri2 : (r : Int) <= 64 := by omega
    have HRr : Hid (x.len k = r /\ y.len k = r) := ⟨hr, by rw [<- (H.out.2.2 k Hk.out.2.2).1]; exact hr⟩;clear hr;have Ha : Hid (0 < r -> A k = some ⟨gb k, go k, none⟩) := fun h => H.out.1.hg k Hk.out.1 (by rw [HRr.out.1]; exact h)
    have Ha' : Hid (0 < r -> A' k = some ⟨gb' k, go' k, none⟩) := fun h => H.out.2.1.hg k Hk.out.2.1 (by rw [HRr.out.2]; exact h)
    obtain ⟨Ak, hA⟩ : ∃ z, A k = z := ⟨_, rfl⟩;obtain ⟨Ak', hA'⟩ : ∃ z, A' k = z := ⟨_, rfl⟩;rw [hA] at q1 Ha;rw [hA'] at q2 Ha';clear hA hA';have Hq : Hid (w.cell? ⟨mb, mo + k, none⟩ = some (.slice Ak r (C k)) /\ w.cell? ⟨mb', mo' + k, none⟩ = some (.slice Ak' r (C' k))) := ⟨q1, q2⟩;clear q1 q2;obtain ⟨wm, rfl⟩ : ∃ wm, wm = wr := ⟨wr, rfl⟩;go_wp2_with (fail)
    go_loopg [8] r (fun g i wq => ∃ j : Nat, j + g = r /\ i = .int .i64 j /\ Hid (More wm wq /\ ∀ i, i < j -> x.wd k i = y.wd k i))
    case atStart => exact ⟨0, by omega, rfl, More.refl _, fun i hi => absurd hi (Nat.not_lt_zero _)⟩
    case round =>
     obtain ⟨j, hjg, rfl, HQ⟩ := hrel;have Hmq : Hid (More w wr) := (HmW.out.trans HR.out.1).trans HQ.out.1;have q1 := Hmq.out.cell Hq.out.1;have q2 := Hmq.out.cell Hq.out.2;cases gk with
     | zero =>
      obtain rfl : j = r := by omega
      go_wp2;go_roundg q
      case measure => omega
      case rel =>
       refine ⟨k + 1, by omega, by first | rfl | simp, HR.out.1.trans HQ.out.1, fun c hc hsc => ?_⟩;by_cases e : c = k
       ·subst e; rw [HRr.out.1]; exact HQ.out.2
       ·exact HR.out.2 c (by omega) hsc
     | succ g =>
      have hj : j < r := by omega
      have hj' : (j : Int) < (r : Int) := by omega
      obtain rfl := Ha.out (by omega);obtain rfl := Ha'.out (by omega);have p1 := Hmq.out.cell (H.out.1.words k Hk.out.1 j (by rw [HRr.out.1]; exact hj));have p2 := Hmq.out.cell (H.out.2.1.words k Hk.out.2.1 j (by rw [HRr.out.2]; exact hj));dsimp only at p1 p2;obtain ⟨z, hz⟩ : ∃ z, x.wd k j = z := ⟨_, rfl⟩;obtain ⟨z', hz'⟩ : ∃ z, y.wd k j = z := ⟨_, rfl⟩;rw [hz] at p1;rw [hz'] at p2;have Hz : Hid (x.wd k j = z /\ y.wd k j = z') := ⟨hz, hz'⟩;clear hz hz';obtain ⟨S, HS⟩ : ∃ S : World -> Prop, Hid (∀ w', S w' ↔ More wr w') := ⟨fun w' => More wr w', fun _ => Iff.rfl⟩;have k0 : ∀ i : { w' // S w' }, i.val.cell? ⟨mb, mo + k, none⟩ = some (.slice (some ⟨gb k, go k, none⟩) r (C k)) := fun i => ((HS.out _).1 i.property).cell q1
      have k1 : ∀ i : { w' // S w' }, i.val.cell? ⟨mb', mo' + k, none⟩ = some (.slice (some ⟨gb' k, go' k, none⟩) r (C' k)) := fun i => ((HS.out _).1 i.property).cell q2
      have k2 : ∀ i : { w' // S w' }, i.val.cell? ⟨gb k, go k + j, none⟩ = some (.int .i64 z) := fun i => ((HS.out _).1 i.property).cell p1
      have k3 : ∀ i : { w' // S w' }, i.val.cell? ⟨gb' k, go' k + j, none⟩ = some (.int .i64 z') := fun i => ((HS.out _).1 i.property).cell p2
      have hne : Nonempty { w' // S w' } := ⟨⟨wr, (HS.out _).2 (More.refl _)⟩⟩;go_wp2_with (fail)
      refine J01 (S := S) [(0, true), (1, true), (2, true), (3, true), (4, true), (5, true), (6, true), (7, true), (8, true), (9, true), (10, true), (11, true), (12, true), (13, true), (14, true)] (by kernel_rfl) (by kernel_rfl) (by kernel_rfl) ((HS.out _).2 (More.refl _).drew) ?_
      iterate 15 (refine J00 rfl (by kernel_rfl) (fun K hK => ?_); go_simp; refine hK _ _ ?_; clear hK K)
      refine J04 ?_;clear k0 k1 k2 k3 hne p1 p2 q1 q2;by_cases e : z = z'
      ·have e1 : (z != z') = false := by simp [e]
       have He : Hid (x.wd k j = y.wd k j) := by show _ = _; rw [Hz.out.1, Hz.out.2]; exact e
       clear e;go_wp2;go_roundg g
       case measure => omega
       case rel =>
        refine ⟨j + 1, by omega, by first | rfl | simp, HQ.out.1.drew, fun i hi => ?_⟩;by_cases q : i = j
        ·subst q; exact He.out
        ·exact HQ.out.2 i (by omega)
      ·have e1 : (z != z') = true := by simp [e]
       have He : Hid (¬ x.wd k j = y.wd k j) := by show ¬ _; rw [Hz.out.1, Hz.out.2]; exact e
       clear e;go_wp2;go_ret;exact Says.no (fun h => He.out ((HP.out.1 h) k Hk.out.2.2 Hse.out j (by rw [HRr.out.1]; exact hj))) Hmq.out.drew
theorem Jhi (rv cv : Value) (hrv : ∃ a n c, rv = .slice a n c) (hcv : ∃ a n c, cv = .slice a n c) (e v t : Int) (su sv mu mv : Value) (w : World) (hsu : ∃ a n c, su = .slice a n c) (hsv : ∃ a n c, sv = .slice a n c) (hmu : ∃ a n c, mu = .slice a n c) (hmv : ∃ a n c, mv = .slice a n c)
  (c1 : ∀ w1 : World, More w w1 -> Calls Tryz.prog 27 #[su, sv] w1 fun e w' => e = .returned (.bool true) /\ More w1 w')
  (c2 : ∀ w1 : World, More w w1 -> Calls Tryz.prog 6 #[.agg #[rv, cv], mu, mv] w1 fun e w' => e = .returned (.bool true) /\ More w1 w') :
  Calls Tryz.prog 11 #[.agg #[rv, cv], .agg #[.int .i64 e, .int .i64 v, .int .i64 t, su, mu], .agg #[.int .i64 e, .int .i64 v, .int .i64 t, sv, mv]] w fun e w' => e = .returned (.bool true) /\ More w w' := by
 obtain ⟨a, n, c, rfl⟩ := hrv;obtain ⟨a2, n2, cc2, rfl⟩ := hcv;obtain ⟨a3, n3, cc3, rfl⟩ := hsu;obtain ⟨a4, n4, cc4, rfl⟩ := hsv;obtain ⟨a5, n5, cc5, rfl⟩ := hmu;obtain ⟨a6, n6, cc6, rfl⟩ := hmv;have C1 : Hid (∀ w1 : World, More w w1 -> Calls Tryz.prog 27 #[.slice a3 n3 cc3, .slice a4 n4 cc4] w1 fun e w' => e = .returned (.bool true) /\ More w1 w') := c1;have C2 : Hid (∀ w1 : World, More w w1 -> Calls Tryz.prog 6 #[.agg #[.slice a n c, .slice a2 n2 cc2], .slice a5 n5 cc5, .slice a6 n6 cc6] w1 fun e w' => e = .returned (.bool true) /\ More w1 w') := c2;clear c1 c2;go_enter Tryz.func11, Tryz.ntmps11;go_wp2_with (fail)
 refine (C1.out _ ((((More.refl _).alloc _ _).alloc _ _).alloc _ _)).mono ?_;rintro e1 w1 ⟨rfl, m1⟩;have Hm1 : Hid (More w w1) := ((((More.refl _).alloc _ _).alloc _ _).alloc _ _).trans m1;have B0 : Hid (Blk w1 w.heap.size #[.slice a n c, .slice a2 n2 cc2] 25) := (((Blk.last _ _ _).alloc _ _).alloc _ _).more m1;have B1 : Hid (Blk w1 (w.heap.size + 1) #[.int .i64 e, .int .i64 v, .int .i64 t, .slice a3 n3 cc3, .slice a5 n5 cc5] 42) := ((by simpa using Blk.last (w.alloc (.cells #[.slice a n c, .slice a2 n2 cc2] 25)) #[.int .i64 e, .int .i64 v, .int .i64 t, .slice a3 n3 cc3, .slice a5 n5 cc5] 42 : Blk _ (w.heap.size + 1) _ _).alloc _ _).more m1;have B2 : Hid (Blk w1 (w.heap.size + 1 + 1) #[.int .i64 e, .int .i64 v, .int .i64 t, .slice a4 n4 cc4, .slice a6 n6 cc6] 42) := (by simpa using Blk.last ((w.alloc (.cells #[.slice a n c, .slice a2 n2 cc2] 25)).alloc (.cells #[.int .i64 e, .int .i64 v, .int .i64 t, .slice a3 n3 cc3, .slice a5 n5 cc5] 42)) #[.int .i64 e, .int .i64 v, .int .i64 t, .slice a4 n4 cc4, .slice a6 n6 cc6] 42 : Blk _ (w.heap.size + 1 + 1) _ _).more m1;clear m1 C1;have p0 : w1.cell? ⟨w.heap.size, 0, none⟩ = some (.slice a n c) := B0.out.cell rfl;have p1 : w1.cell? ⟨w.heap.size, 1, none⟩ = some (.slice a2 n2 cc2) := B0.out.cell rfl;have x0 : w1.cell? ⟨w.heap.size + 1, 0, none⟩ = some (.int .i64 e) := B1.out.cell rfl;have x1 : w1.cell? ⟨w.heap.size + 1, 1, none⟩ = some (.int .i64 v) := B1.out.cell rfl
 have x2 : w1.cell? ⟨w.heap.size + 1, 2, none⟩ = some (.int .i64 t) := B1.out.cell rfl;have x4 : w1.cell? ⟨w.heap.size + 1, 4, none⟩ = some (.slice a5 n5 cc5) := B1.out.cell rfl;have y0 : w1.cell? ⟨w.heap.size + 1 + 1, 0, none⟩ = some (.int .i64 e) := B2.out.cell rfl;have y1 : w1.cell? ⟨w.heap.size + 1 + 1, 1, none⟩ = some (.int .i64 v) := B2.out.cell rfl;have y2 : w1.cell? ⟨w.heap.size + 1 + 1, 2, none⟩ = some (.int .i64 t) := B2.out.cell rfl;have y4 : w1.cell? ⟨w.heap.size + 1 + 1, 4, none⟩ = some (.slice a6 n6 cc6) := B2.out.cell rfl;go_wp2_with (fail)
 refine (C2.out _ Hm1.out).mono ?_;rintro e1 w2 ⟨rfl, m2⟩;have Hm2 : Hid (More w w2) := Hm1.out.trans m2;clear m2 C2;go_wp2;go_ret;exact ⟨rfl, Hm2.out⟩

theorem J6z (p : Prg) (lo : Loc) (x y : Mem) (l l' : MLoc) (w : World) (hp : PIn w p lo) (hx : MIn w x l) (hy : MIn w y l') (hlx : x.ml = p.rl) (hly : y.ml = p.rl) (hrl : p.rl <= 6) (hlen : ∀ c, c < p.rl -> x.len c = y.len c /\ x.len c <= 64) (r : Bool) (hr : r = true ↔ PubI p x y) :
  Calls Tryz.prog 6 #[.agg #[.slice lo.ra p.rl lo.rc, .slice lo.ca p.cl lo.cc], .slice l.ma x.ml l.mc, .slice l'.ma y.ml l'.mc] w fun e w' => e = .returned (.bool r) /\ More w w' := by
 refine (J9h p lo x y l l' w hp hx hy hlx hly hrl hlen ⟨_, _, _, rfl⟩).mono ?_;rintro e w' ⟨q, rfl, hq, mm⟩;have : q = r := Bool.eq_iff_iff.2 (hq.trans hr.symm);rw [this];exact ⟨rfl, mm⟩

theorem J7y {w : World} {v : Value} {l : List Se} (h : SeenAt w v l) : ∃ a n c, v = .slice a n c := by
 obtain ⟨a, b, o, c, rfl, _⟩ := h;exact ⟨_, _, _, rfl⟩
end
section
open Go.RowKit
set_option linter.unusedSimpArgs false
set_option linter.unusedVariables false
theorem Jfs (len : Nat -> Nat) {c c' i i' : Nat} (hi : i < len c) (hi' : i' < len c') (h : baseN len c + i = baseN len c' + i') : c = c' /\ i = i' := by
 rcases Nat.lt_trichotomy c c' with h1 | h1 | h1
 ·have := J4c len (c + 1) c' h1
  simp only [baseN] at this;omega
 ·subst h1; exact ⟨rfl, by omega⟩
 ·have := J4c len (c' + 1) c h1
  simp only [baseN] at this;omega
theorem Jc6 {s : Sp} (h : s.ahead = false) (over : Bool) : s.after over = s := by unfold Sp.after; rw [if_neg (by rw [h]; decide)]
theorem J54 {s : Sp} (h : s.ahead = false) (cl : Nat) : s.noneLeft cl = s := by unfold Sp.noneLeft; rw [if_neg (by rw [h]; simp)]
def numS (p : Prg) (s : Sp) (i : Ins) : Int := wrap64 (baseI p.log i.c.toNat + idxI s.pl.r i)
def Sp.on (s : Sp) : Sp := (s.see ⟨1, s.pl.at_, 0⟩).go (s.pl.at_ + 1)

theorem J3d {p : Prg} {s : Sp} {i : Ins} (hI : p.ins s.pl.at_ = i) (h : i.op = 7) : stepS p s = ((s.see ⟨1, s.pl.at_, 0⟩).go i.n.toNat, false, none) := by
 subst hI; unfold stepS; rw [if_pos h]
theorem J4h {p : Prg} {s : Sp} {i : Ins} (hI : p.ins s.pl.at_ = i) (h : i.op = 8) (hh : Bool) (hhh : J1x i.c (s.pl.r i.a.toNat) (s.pl.r i.b.toNat) = hh) (right wrong : Nat) (hr : right = if hh = true then i.n.toNat else s.pl.at_ + 1) (hw : wrong = if hh = true then s.pl.at_ + 1 else i.n.toNat) :
  stepS p s = (if s.choice = 0 then { (s.see ⟨1, s.pl.at_, 0⟩).go right with script := s.script.tail } else ({ (s.see ⟨1, s.pl.at_, 0⟩).go right with script := s.script.tail }.leave).go wrong, false, none) := by
 subst hI;unfold stepS;rw [if_neg (by omega), if_pos h];cases hh with
 | true => rw [if_pos hhh]; subst hr hw; rfl
 | false => rw [if_neg (by rw [hhh]; decide)]; subst hr hw; rfl
theorem J3c {p : Prg} {s : Sp} {i : Ins} (hI : p.ins s.pl.at_ = i) (h : i.op = 9) (ha : s.ahead = false) : stepS p s = (s.see ⟨1, s.pl.at_, 0⟩, false, some (1, s.pl.r i.a.toNat)) := by
 subst hI; unfold stepS; rw [if_neg (by omega), if_neg (by omega), if_pos ⟨h, ha⟩]
theorem J1h {p : Prg} {s : Sp} {i : Ins} (hI : p.ins s.pl.at_ = i) (h : (i.op = 9 /\ s.ahead = true) \/ i.op = 12) : stepS p s = (s.on, true, none) := by
 subst hI;unfold stepS Sp.on;rw [if_neg (by omega), if_neg (by omega)]
 have h1 : ¬ ((p.ins s.pl.at_).op = 9 /\ s.ahead = false) := by
  rintro ⟨h1, h2⟩;rcases h with ⟨_, h3⟩ | h3
  ·rw [h2] at h3; cases h3
  ·omega
 rw [if_neg h1, if_pos (by omega)]
theorem J2v {p : Prg} {s : Sp} {i : Ins} (hI : p.ins s.pl.at_ = i) (h : i.op = 3 \/ i.op = 4 \/ i.op = 5 \/ i.op = 6) (ha : s.ahead = false) (hx : idxI s.pl.r i < 0 \/ J0c (p.log i.c.toNat) <= idxI s.pl.r i) : stepS p s = (s.see ⟨1, s.pl.at_, 0⟩, false, some (2, 0)) := by
 subst hI
 have hp : 0 <= putI (p.ins s.pl.at_) := by
  rcases h with h | h | h | h
  ·rw [J39 (.inl h)]; decide
  ·rw [J4f (.inl h)]; decide
  ·rw [J39 (.inr h)]; decide
  ·rw [J4f (.inr h)]; decide
 unfold stepS;rw [if_neg (by omega), if_neg (by omega), if_neg (by omega), if_neg (by omega), if_pos hp, if_pos ⟨ha, hx⟩]
theorem J3f {p : Prg} {s : Sp} {i : Ins} (hI : p.ins s.pl.at_ = i) (h : i.op = 3 \/ i.op = 4 \/ i.op = 5 \/ i.op = 6) (hx : ¬ (s.ahead = false /\ (idxI s.pl.r i < 0 \/ J0c (p.log i.c.toNat) <= idxI s.pl.r i))) :
  stepS p s = (wordS p (s.on.see ⟨2, numS p s i, putI i⟩) i (numS p s i), false, none) := by
 subst hI
 have hp : 0 <= putI (p.ins s.pl.at_) := by
  rcases h with h | h | h | h
  ·rw [J39 (.inl h)]; decide
  ·rw [J4f (.inl h)]; decide
  ·rw [J39 (.inr h)]; decide
  ·rw [J4f (.inr h)]; decide
 unfold stepS;rw [if_neg (by omega), if_neg (by omega), if_neg (by omega), if_neg (by omega), if_pos hp, if_neg hx]
 rfl
theorem J3e {p : Prg} {s : Sp} {i : Ins} (hI : p.ins s.pl.at_ = i) (h3 : ¬ i.op = 3) (h4 : ¬ i.op = 4) (h5 : ¬ i.op = 5) (h6 : ¬ i.op = 6) (h7 : ¬ i.op = 7) (h8 : ¬ i.op = 8) (h9 : ¬ i.op = 9) (h12 : ¬ i.op = 12) :
  stepS p s = ({ s.on with pl := { s.on.pl with r := (regsI s.pl.r i).1 }, seen := s.on.seen ++ (regsI s.pl.r i).2 }, false, none) := by
 subst hI;have hp := Jee h3 h4 h5 h6;unfold stepS;rw [if_neg h7, if_neg h8, if_neg (by omega), if_neg (by omega), if_neg (by rw [hp]; decide)]
 rfl

structure PlOk (p : Prg) (k : Nat) (q : Pl) : Prop where
 at_ : q.at_ <= p.cl
 r : ∀ j, j < 10 -> B64 (q.r j)
 wd : ∀ j : Nat, (j : Int) < allI p -> B64 (q.wd j)
 past : ∀ j, (q.past j).length <= k
 was : ∀ j : Nat, (j : Int) < allI p -> ∀ v ∈ q.past j, B64 v
structure InvS (p : Prg) (k n : Nat) (s : Sp) : Prop where
 pl : PlOk p k s.pl
 back : s.ahead = true -> PlOk p k s.back
 seen : s.seen.length <= n
 sc : ∀ c ∈ s.script, 0 <= c

theorem PlOk.mono {p : Prg} {k k' : Nat} {q : Pl} (h : PlOk p k q) (hk : k <= k') : PlOk p k' q := ⟨h.at_, h.r, h.wd, fun j => Nat.le_trans (h.past j) hk, h.was⟩
theorem PlOk.go {p : Prg} {k : Nat} {q : Pl} (h : PlOk p k q) (n : Nat) (hn : n <= p.cl) : PlOk p k { q with at_ := n } := ⟨hn, h.r, h.wd, h.past, h.was⟩
theorem PlOk.reg {p : Prg} {k : Nat} {q : Pl} (h : PlOk p k q) (a v : Int) (hv : B64 v) : PlOk p k { q with r := setR q.r a v } := ⟨h.at_, J4g h.r a v hv, h.wd, h.past, h.was⟩
theorem InvS.mono {p : Prg} {k k' n n' : Nat} {s : Sp} (h : InvS p k n s) (hk : k <= k') (hn : n <= n') : InvS p k' n' s := ⟨h.pl.mono hk, fun a => (h.back a).mono hk, Nat.le_trans h.seen hn, h.sc⟩
theorem InvS.see {p : Prg} {k n : Nat} {s : Sp} (h : InvS p k n s) (x : Se) : InvS p k (n + 1) (s.see x) := ⟨h.pl, h.back, by have := h.seen; simp [Sp.see]; omega, h.sc⟩
theorem InvS.go {p : Prg} {k n : Nat} {s : Sp} (h : InvS p k n s) (m : Nat) (hm : m <= p.cl) : InvS p k n (s.go m) := ⟨h.pl.go m hm, h.back, h.seen, h.sc⟩
theorem InvS.reg {p : Prg} {k n : Nat} {s : Sp} (h : InvS p k n s) (a v : Int) (hv : B64 v) : InvS p k n (s.reg a v) := ⟨h.pl.reg a v hv, h.back, h.seen, h.sc⟩
theorem InvS.tail {p : Prg} {k n : Nat} {s : Sp} (h : InvS p k n s) : InvS p k n { s with script := s.script.tail } := ⟨h.pl, h.back, h.seen, fun c hc => h.sc c (List.mem_of_mem_tail hc)⟩
theorem InvS.leave {p : Prg} {k n : Nat} {s : Sp} (h : InvS p k n s) : InvS p k n s.leave := by
 unfold Sp.leave
 split
 ·exact h
 ·exact ⟨h.pl, fun _ => h.pl, h.seen, h.sc⟩
theorem InvS.returns {p : Prg} {k n : Nat} {s : Sp} (h : InvS p k n s) (ha : s.ahead = true) : InvS p k (n + 1) s.returns := ⟨h.back ha, fun a => by simp [Sp.returns] at a, by have := h.seen; simp [Sp.returns]; omega, h.sc⟩
theorem InvS.after {p : Prg} {k n : Nat} {s : Sp} (h : InvS p k n s) (over : Bool) : InvS p k (n + 1) (s.after over) := by
 unfold Sp.after
 split
 ·rename_i ha
  have h2 : InvS p k n { s with since := s.since + 1 } := ⟨h.pl, h.back, h.seen, h.sc⟩
  split
  ·exact h2.returns ha
  ·exact h2.mono (Nat.le_refl _) (Nat.le_succ _)
 ·exact h.mono (Nat.le_refl _) (Nat.le_succ _)
theorem InvS.word {p : Prg} {k n : Nat} {s : Sp} (h : InvS p k n s) (i : Ins) (m : Int) (hop : i.op = 3 \/ i.op = 4 \/ i.op = 5 \/ i.op = 6) (ha : i.a.toNat < 10) : InvS p (k + 1) n (wordS p s i m) := by
 have h1 : InvS p (k + 1) n s := h.mono (Nat.le_succ _) (Nat.le_refl _);unfold wordS;by_cases hm : m < 0 \/ allI p <= m
 ·rw [if_pos hm]
  split
  ·exact h1.reg _ _ J4a
  ·exact h1
 rw [if_neg hm];by_cases hp : putI i = 1
 ·rw [if_pos hp]
  refine ⟨⟨h.pl.at_, h.pl.r, fun j hj => ?_, fun j => ?_, fun j hj v hv => ?_⟩, h1.back, h.seen, h.sc⟩
  ·dsimp only [setF]
   split
   ·exact h.pl.r _ ha
   ·exact h.pl.wd j hj
  ·dsimp only [setF]
   have := h.pl.past j
   split
   ·rename_i e; subst e; simp; exact h.pl.past _
   ·omega
  ·dsimp only [setF] at hv
   split at hv
   ·rename_i e
    subst e;rcases List.mem_append.1 hv with hv | hv
    ·exact h.pl.was _ hj v hv
    ·rw [List.mem_singleton.1 hv]; exact h.pl.wd _ hj
   ·exact h.pl.was j hj v hv
 rw [if_neg hp];have hm2 : ((m.toNat : Nat) : Int) < allI p := by omega
 have h2 : InvS p (k + 1) n ({ s with script := s.script.tail }.reg i.a (s.pl.wd m.toNat)) := (h1.tail).reg _ _ (h.pl.wd _ hm2)
 split
 ·refine h2.leave.reg _ _ ?_
  rw [List.getD_eq_getElem?_getD];cases hq : (s.pl.past m.toNat)[(s.pl.past m.toNat).length - s.choice.toNat]? with
  | none => exact J4a
  | some v => exact h.pl.was _ hm2 v (List.mem_of_getElem? hq)
 ·exact h2

theorem InvS.step {p : Prg} {k n : Nat} {s : Sp} (h : InvS p k n s) (hat : s.pl.at_ < p.cl) (hin : InsOk p.rl p.log p.cl 10 (p.ins s.pl.at_)) (hn : B64 (p.ins s.pl.at_).n) : InvS p (k + 1) (n + 2) (stepS p s).1 := by
 obtain ⟨i, hI⟩ : ∃ i, p.ins s.pl.at_ = i := ⟨_, rfl⟩;rw [hI] at hin hn;have h1 : InvS p (k + 1) (n + 1) (s.see ⟨1, s.pl.at_, 0⟩) := (h.see _).mono (Nat.le_succ _) (Nat.le_refl _);have hon : InvS p k (n + 1) s.on := (h.see _).go _ hat;have hon1 : InvS p (k + 1) (n + 1) s.on := hon.mono (Nat.le_succ _) (Nat.le_refl _);by_cases h7 : i.op = 7
 ·rw [J3d hI h7]
  have : 0 <= i.n /\ i.n < p.cl := by unfold InsOk Plc at hin; simp [h7] at hin; exact hin.2.2.2
  exact (h1.go _ (by omega)).mono (Nat.le_refl _) (Nat.le_succ _)
 by_cases h8 : i.op = 8
 ·have hpl : 0 <= i.n /\ i.n < p.cl := by unfold InsOk Plc at hin; simp [h8] at hin; exact hin.2.2.2
  rw [J4h hI h8 _ rfl _ _ rfl rfl];have hb : ∀ b : Bool, (if b = true then i.n.toNat else s.pl.at_ + 1) <= p.cl /\ (if b = true then s.pl.at_ + 1 else i.n.toNat) <= p.cl := by intro b; cases b <;> simp <;> omega
  have hb2 := hb (J1x i.c (s.pl.r i.a.toNat) (s.pl.r i.b.toNat));have h2 := (h1.go _ hb2.1).tail;dsimp only
  split
  ·exact h2.mono (Nat.le_refl _) (Nat.le_succ _)
  ·exact (h2.leave.go _ hb2.2).mono (Nat.le_refl _) (Nat.le_succ _)
 by_cases h9 : i.op = 9
 ·cases ha : s.ahead with
  | false => rw [J3c hI h9 ha]; exact h1.mono (Nat.le_refl _) (Nat.le_succ _)
  | true => rw [J1h hI (.inl ⟨h9, ha⟩)]; exact hon1.mono (Nat.le_refl _) (Nat.le_succ _)
 by_cases h12 : i.op = 12
 ·rw [J1h hI (.inr h12)]; exact hon1.mono (Nat.le_refl _) (Nat.le_succ _)
 by_cases hw : i.op = 3 \/ i.op = 4 \/ i.op = 5 \/ i.op = 6
 ·have hra : i.a.toNat < 10 := by
   unfold InsOk Reg at hin;rcases hw with e | e | e | e <;> simp [e] at hin <;> omega
  by_cases hx : s.ahead = false /\ (idxI s.pl.r i < 0 \/ J0c (p.log i.c.toNat) <= idxI s.pl.r i)
  ·rw [J2v hI hw hx.1 hx.2]; exact h1.mono (Nat.le_refl _) (Nat.le_succ _)
  ·rw [J3f hI hw hx]
   exact (hon.see _).word i _ hw hra
 rw [J3e hI (by omega) (by omega) (by omega) (by omega) h7 h8 h9 h12];refine ⟨⟨hon1.pl.at_, Jev h.pl.r i (fun e => ?_) hn, hon1.pl.wd, hon1.pl.past, hon1.pl.was⟩, hon1.back, ?_, hon1.sc⟩
 ·unfold InsOk Reg at hin
  simp [e] at hin;omega
 ·have := hon1.seen
  have := J9m s.pl.r i
  simp
  omega
end
section
open Go.RowKit
set_option linter.unusedVariables false
def J7r (m : Mem) (j : Nat) : Nat -> Int
 | 0 => 0
 | n + 1 => if baseN m.len n <= j /\ j < baseN m.len n + m.len n then m.wd n (j - baseN m.len n) else J7r m j n
def flatM (m : Mem) (j : Nat) : Int := J7r m j m.ml

theorem J90 (m : Mem) (c i : Nat) (hi : i < m.len c) : ∀ n, c < n -> J7r m (baseN m.len c + i) n = m.wd c i
 | 0, h => absurd h (Nat.not_lt_zero _)
 | n + 1, h => by
  unfold J7r;by_cases hr : baseN m.len n <= baseN m.len c + i /\ baseN m.len c + i < baseN m.len n + m.len n
  ·rw [if_pos hr]
   obtain ⟨e1, e2⟩ := Jfs m.len (c := n) (i := baseN m.len c + i - baseN m.len n) (by omega) hi (by omega);rw [e2, e1]
  ·rw [if_neg hr]
   have hcn : c ≠ n := by
    rintro rfl;exact hr (by omega)
   exact J90 m c i hi n (by omega)
theorem J5y (m : Mem) (c i : Nat) (hc : c < m.ml) (hi : i < m.len c) : flatM m (baseN m.len c + i) = m.wd c i :=
 J90 m c i hi m.ml hc
theorem J8r (len : Nat -> Nat) : ∀ (n j : Nat), j < baseN len n -> ∃ c i, c < n /\ i < len c /\ baseN len c + i = j
 | 0, j, h => by simp [baseN] at h
 | n + 1, j, h => by
  by_cases e : j < baseN len n
  ·obtain ⟨c, i, h1, h2, h3⟩ := J8r len n j e
   exact ⟨c, i, by omega, h2, h3⟩
  ·simp only [baseN] at h
   exact ⟨n, j - baseN len n, by omega, by omega, by omega⟩
end
section
open Go.RowKit
set_option linter.unusedSimpArgs false
set_option linter.unusedVariables false
set_option maxRecDepth 8000
theorem J14 {w : World} {b : Nat} {o : Obj} (h : w.heap[b]? = some o) : b < w.heap.size := (Array.getElem?_eq_some_iff.1 h).1

theorem J0a {w w' : World} {M : Nat} (h : Below M w w') (j : Nat) (v : Value) : Below M w (w'.setCell ⟨M, j, none⟩ v) := Below.setCell h (Nat.le_refl _) v

theorem J4o {w w' : World} {M : Nat} (h : Below M w w') (hM : M <= w'.heap.size) (o : Obj) : Below M w (w'.alloc o) := Below.alloc h hM o

theorem J0u {w w' : World} {M : Nat} (h : Below M w w') : Below M w w'.drew := Below.drew h

theorem J0l {w w' w'' : World} {M : Nat} (h : Below M w w') (hM : M <= w'.heap.size) (m : More w' w'') : Below M w w'' := Below.trans h (Below.mono m hM)

theorem Jio : (Tryz.prog.info? 96).map (fun i => (i.zero, i.size, i.bytes)) = some (some (.agg #[.int .i64 0, .int .i64 0, .int .i64 0]), 3, 24) := by kernel_rfl

theorem J6a (w : World) (x y z : Value) (t : TypeId) : ∀ j u, [x, y, z][j]? = some u -> (w.alloc (.cells #[x, y, z] t)).cell? ((⟨w.heap.size, 0, none⟩ : Addr).add j) = some u := by
 intro j u h;rw [Go.WideShapes.add_plain];have hj : j = 0 \/ j = 1 \/ j = 2 := by have := (List.getElem?_eq_some_iff.1 h).1; simp at this; omega
 rcases hj with rfl | rfl | rfl <;> (simp at h; subst h; go_simp)

structure ScAt (w : World) (B : Nat) (sc : Value) (L : List Int) : Prop where
 out : ∃ sa cap, sc = .slice sa L.length cap /\ L.length <= cap /\ (L ≠ [] -> ∃ sb so, sa = some ⟨sb, so, none⟩ /\ sb < B /\ ∀ j c, L[j]? = some c -> w.cell? ⟨sb, so + j, none⟩ = some (.int .i64 c))

theorem ScAt.below {w w' : World} {B : Nat} {sc : Value} {L : List Int} (h : ScAt w B sc L) (hb : Below B w w') : ScAt w' B sc L := by
 obtain ⟨sa, cap, h1, h2, h3⟩ := h.out;refine ⟨sa, cap, h1, h2, fun hL => ?_⟩;obtain ⟨sb, so, h4, h5, h6⟩ := h3 hL;exact ⟨sb, so, h4, h5, fun j c hc => by rw [Below.cell hb h5]; exact h6 j c hc⟩

theorem J03 {P : Prop} (h : P) : Hid P := h

theorem J06 {w : World} {R : Nat} {c : Array Value} {T : TypeId} (h : w.heap[R]? = some (.cells c T (0, 0))) (j : Nat) (v : Value) (hv : c[j]? = some v) : w.cell? ⟨R, j, none⟩ = some v := by
 rw [cell_of_row w R j c T (0, 0) h]; exact hv

theorem Jl4 : (Tryz.prog.info? 65).map (fun i => (i.zero, i.size, i.bytes)) = some (some (.slice none 0 0), 1, 24) := by kernel_rfl

theorem J9u {p : Prg} {s : Sp} {e : Int × Int} (h : (stepS p s).2.2 = some e) : (stepS p s).1 = s.see ⟨1, s.pl.at_, 0⟩ := by
 obtain ⟨i, hI⟩ : ∃ i, p.ins s.pl.at_ = i := ⟨_, rfl⟩;by_cases h7 : i.op = 7
 ·rw [J3d hI h7] at h; cases h
 by_cases h8 : i.op = 8
 ·rw [J4h hI h8 _ rfl _ _ rfl rfl] at h; cases h
 by_cases h9 : i.op = 9
 ·cases ha : s.ahead with
  | false => rw [J3c hI h9 ha]
  | true => rw [J1h hI (.inl ⟨h9, ha⟩)] at h; cases h
 by_cases h12 : i.op = 12
 ·rw [J1h hI (.inr h12)] at h; cases h
 by_cases hw : i.op = 3 \/ i.op = 4 \/ i.op = 5 \/ i.op = 6
 ·by_cases hx : s.ahead = false /\ (idxI s.pl.r i < 0 \/ J0c (p.log i.c.toNat) <= idxI s.pl.r i)
  ·rw [J2v hI hw hx.1 hx.2]
  ·rw [J3f hI hw hx] at h; cases h
 rw [J3e hI (by omega) (by omega) (by omega) (by omega) h7 h8 h9 h12] at h;cases h

theorem Jf8 {p : Prg} {s : Sp} {e : Int × Int} (h : (stepS p s).2.2 = some e) : e.1 = 1 \/ e.1 = 2 := by
 obtain ⟨i, hI⟩ : ∃ i, p.ins s.pl.at_ = i := ⟨_, rfl⟩;by_cases h7 : i.op = 7
 ·rw [J3d hI h7] at h; cases h
 by_cases h8 : i.op = 8
 ·rw [J4h hI h8 _ rfl _ _ rfl rfl] at h; cases h
 by_cases h9 : i.op = 9
 ·cases ha : s.ahead with
  | false => rw [J3c hI h9 ha] at h; left; rw [<- Option.some.inj h]
  | true => rw [J1h hI (.inl ⟨h9, ha⟩)] at h; cases h
 by_cases h12 : i.op = 12
 ·rw [J1h hI (.inr h12)] at h; cases h
 by_cases hw : i.op = 3 \/ i.op = 4 \/ i.op = 5 \/ i.op = 6
 ·by_cases hx : s.ahead = false /\ (idxI s.pl.r i < 0 \/ J0c (p.log i.c.toNat) <= idxI s.pl.r i)
  ·rw [J2v hI hw hx.1 hx.2] at h; right; rw [<- Option.some.inj h]
  ·rw [J3f hI hw hx] at h; cases h
 rw [J3e hI (by omega) (by omega) (by omega) (by omega) h7 h8 h9 h12] at h;cases h

theorem Jkx {p : Prg} {m : Mem} (hrl : m.ml = p.rl) (hlen : ∀ i, i < m.ml -> (m.len i : Int) = J0c (p.log i)) : allI p = (baseN m.len m.ml : Int) := by
 unfold allI;rw [<- hrl];exact (J83 p m hlen m.ml (Nat.le_refl _)).symm
end
end Go.Proofs.YtlbfbjeilfcjeaaGreat
