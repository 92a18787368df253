/-
  The texts CkQuiet, PubM, Built, BlkM, CvPlain, KnLen, Ord, KnDev, CkMem, CvMem, CvSum, Last, Fork, CvJoined, CvEq, CvCome, one behind the other, with what is used of them.
-/
import Derived.Test.YtapagihngaiebaaGreatJoined0
import Derived.WalkKit
import Derived.Laws.IdiomCopy
import Derived.Deep.AppendLies
import Derived.OwnWalk
import Derived.Laws.OwnMore
import Derived.Test.YtapagihngaiebaaGreatProg
import Derived.Lib.Strings
import Derived.Lib.Slices
import Derived.Lib.Small
import Derived.Lib.Walk
import Derived.Lib.BitFns
import Derived.Deep.RegionHeld3
import Derived.Deep.LoopGhost
import Derived.ChangeKeysEq
namespace Go.Proofs.YtapagihngaiebaaGreat
set_option maxHeartbeats 4000000
section
open Go.RowKit
set_option linter.unusedVariables false
def EqS (k : KS) (r t : Nat -> Int) : Prop := ∀ j, j < 8 -> (k j).s = false -> r j = t j
theorem EqS.mono {k u : KS} (h : leS k u) {r t : Nat -> Int} (q : EqS k r t) : EqS u r t := fun j hj hs => q j hj (by
 cases e : (k j).s
 ·rfl
 ·rw [(h j hj).2 e] at hs; cases hs)
theorem EqS.set {k : KS} {r t : Nat -> Int} (h : EqS k r t) (a : Int) {v : Kn} {x y : Int} (q : v.s = false -> x = y) : EqS (setK k a v) (setR r a x) (setR t a y) := fun j hj hs => by
 unfold setK at hs;unfold setR;by_cases e : j = a.toNat
 ·rw [if_pos e] at hs; rw [if_pos e, if_pos e]; exact q hs
 ·rw [if_neg e] at hs; rw [if_neg e, if_neg e]; exact h j hj hs
theorem EqS.know {k : KS} {r t : Nat -> Int} (h : EqS k r t) (a : Int) {v : Kn} (q : v.s = false -> r a.toNat = t a.toNat) : EqS (setK k a v) r t := fun j hj hs => by
 unfold setK at hs;by_cases e : j = a.toNat
 ·rw [if_pos e] at hs; rw [e]; exact q hs
 ·rw [if_neg e] at hs; exact h j hj hs

def PubI (p : Prg) (x y : Mem) : Prop := ∀ c, c < p.rl -> p.sec c = false -> ∀ i, i < x.len c -> x.wd c i = y.wd c i

section
variable {p : Prg} {m m' : Mem} {l : KV} {s t : St}

theorem Jkk (k : Kn) (n : Int) : (Kn.index k n).s = k.s := by unfold Kn.index; split <;> simp [Kn.op, Kn.of]

theorem Jec {i : Ins} {k : KS} {r t : Nat -> Int} (hi : InsOk p.rl p.log p.cl 8 i) (h3 : ¬ i.op = 3) (h4 : ¬ i.op = 4) (h5 : ¬ i.op = 5) (h6 : ¬ i.op = 6) (h7 : ¬ i.op = 7) (h8 : ¬ i.op = 8) (h9 : ¬ i.op = 9)
  (hs : J0g p i k = false) (h : EqS k r t) : EqS (nextK p i k) (regsI r i).1 (regsI t i).1 /\ (regsI r i).2 = (regsI t i).2 := by
 have hg := J0s hi;unfold nextK regsI;by_cases q1 : i.op = 1
 ·rw [if_pos q1, if_pos q1, if_pos q1]; exact ⟨h.set _ (fun _ => rfl), rfl⟩
 rw [if_neg q1, if_neg q1, if_neg q1];by_cases q2 : i.op = 2
 ·rw [if_pos q2, if_pos q2, if_pos q2]; exact ⟨h.set _ (fun q => h _ (hg.2.1 (by omega)) q), rfl⟩
 rw [if_neg q2, if_neg q2, if_neg q2];by_cases q10 : i.op = 10
 ·rw [if_pos q10, if_pos q10, if_pos q10]
  exact ⟨h.set _ (fun q => by rw [Jkk] at q; rw [h _ (hg.2.1 (by omega)) q]), rfl⟩
 rw [if_neg q10, if_neg q10, if_neg q10, if_neg (by omega)];by_cases q11 : i.op = 11
 ·rw [if_pos q11, if_pos q11, if_pos q11]
  have ha := hg.1 (by omega);refine ⟨?_, rfl⟩;dsimp only;cases es : (k i.a.toNat).s
  ·have ee := h _ ha es
   rw [<- ee]
   split
   ·exact h.set _ (fun _ => rfl)
   ·exact h.know _ (fun _ => ee)
  ·intro j hj hjs
   unfold setK at hjs;by_cases e : j = i.a.toNat
   ·rw [if_pos e] at hjs; unfold Kn.less at hjs; dsimp only at hjs; rw [es] at hjs; cases hjs
   ·rw [if_neg e] at hjs
    have := h j hj hjs
    have hs1 : ∀ (r : Nat -> Int) (c : Prop) [Decidable c], (if c then setR r i.a 0 else r) j = r j := fun r c _ => by
     split
     ·unfold setR; rw [if_neg e]
     ·rfl
    rw [hs1, hs1]; exact this
 rw [if_neg q11, if_neg q11, if_neg q11];by_cases q12 : i.op = 12
 ·rw [if_pos (.inr (.inr q12)), if_pos q12, if_pos q12]; exact ⟨h, rfl⟩
 rw [if_neg (by omega), if_neg q12, if_neg q12];have hb := hg.2.1 (by omega); have hc := hg.2.2.1 (by omega)
 have key : (Kn.op (i.op - 20) (k i.b.toNat) (k i.c.toNat)).s = false -> r i.b.toNat = t i.b.toNat /\ r i.c.toNat = t i.c.toNat := fun q => by
  have := Bool.or_eq_false_iff.1 q;exact ⟨h _ hb this.1, h _ hc this.2⟩
 refine ⟨h.set _ (fun q => by rw [(key q).1, (key q).2]), ?_⟩;dsimp only;by_cases q : i.op = 29 \/ i.op = 30
 ·rw [if_pos q, if_pos q]
  unfold J0g at hs;rw [if_neg h3, if_neg h4, if_neg h6, if_neg h8, if_pos q] at hs;rw [(key hs).1, (key hs).2]
 ·rw [if_neg q, if_neg q]

end
end
section
open Go.RowKit
set_option linter.unusedSimpArgs false
set_option linter.unusedVariables false
theorem J97 {p : Prg} {m : Mem} (h : J0t p.rl p.log m.ml m.len) (c : Nat) (hc : c <= m.ml) : (baseN m.len c : Int) = baseI p.log c :=
 J4i p m (fun i hi => h.2.2 i (by rw [<- h.2.1]; exact hi)) c hc
theorem Jcg {m : Mem} (h : ∀ j, j < m.ml -> ∀ i, i < m.len j -> B64 (m.wd j i)) (n : Nat) : B64 (flatM m n) := by
 have key : ∀ k, k <= m.ml -> B64 (J81 m n k) := fun k => by
  induction k with
  | zero => intro _; exact J1i
  | succ k ih =>
   intro hk;unfold J81;by_cases c : baseN m.len k <= n /\ n < baseN m.len k + m.len k
   ·rw [if_pos c]; exact h k (by omega) _ (by omega)
   ·rw [if_neg c]; exact ih (by omega)
 exact key m.ml (Nat.le_refl _)
theorem Jie {p : Prg} {m m' : Mem} (h : J0t p.rl p.log m.ml m.len) (h' : J0t p.rl p.log m'.ml m'.len) (hp : PubI p m m') : ∀ n, PubW p n -> flatM m n = flatM m' n := by
 rintro n ⟨c, hc, hs, h1, h2⟩;have e := J97 h c (by have := h.2.1; omega);have e' := J97 h' c (by have := h'.2.1; omega);have l1 := h.2.2 c hc;have l2 := h'.2.2 c hc;obtain ⟨i, hi⟩ : ∃ i : Nat, n = baseN m.len c + i := ⟨n - baseN m.len c, by omega⟩;have hi' : n = baseN m'.len c + i := by omega
 rw [hi, J60 m c i (by have := h.2.1; omega) (by omega), <- hi, hi', J60 m' c i (by have := h'.2.1; omega) (by omega)];exact hp c hc hs i (by omega)
end
section
open Go.RowKit
set_option linter.unusedSimpArgs false
set_option linter.unusedVariables false
set_option maxRecDepth 8000
theorem J3z {g : Nat} {T : TypeId} : ∀ (vs : List Value) (o : Nat) (c : Array Value) (w : World), w.heap[g]? = some (.cells c T (0, 0)) -> o + vs.length <= c.size ->
  ∃ c', (w.setCells g o vs).heap[g]? = some (.cells c' T (0, 0)) /\ c'.size = c.size /\ ∀ j, c'[j]? = if o <= j /\ j < o + vs.length then vs[j - o]? else c[j]?
 | [], o, c, w, h, _ => ⟨c, h, rfl, fun j => by rw [if_neg (by simp <;> omega)]⟩
 | v :: vs, o, c, w, h, hl => by
  simp only [List.length_cons] at hl
  have h1 : (w.setCell ⟨g, o, none⟩ v).heap[g]? = some (.cells (c.setIfInBounds o v) T (0, 0)) := by
   rw [setCell_eq_setRow w g o c T (0, 0) v h];exact setRow_heap w g c _ T _ h
  obtain ⟨c', k1, k2, k3⟩ := J3z vs (o + 1) _ _ h1 (by simp; omega);refine ⟨c', k1, by simpa using k2, fun j => ?_⟩;rw [k3 j, Array.getElem?_setIfInBounds];simp only [List.length_cons];by_cases e : j = o
  ·subst e
   rw [if_neg (by omega), if_pos rfl, if_pos (by omega), if_pos (by omega)]
   simp
  ·by_cases e2 : o + 1 <= j /\ j < o + 1 + vs.length
   ·rw [if_pos e2, if_pos (by omega), show j - o = (j - (o + 1)) + 1 by omega]
    simp
   ·rw [if_neg e2, if_neg (fun h => e h.symm), if_neg (by omega)]
theorem Jci (off : Nat) : ∀ (l : List Value) (k : Nat) (cs : Array Value), off + k + l.length <= cs.size ->
  ((l.zipIdx k).foldl (fun cs (x : Value × Nat) => cs.setIfInBounds (off + x.2) x.1) cs).size = cs.size /\ ∀ j, ((l.zipIdx k).foldl (fun cs (x : Value × Nat) => cs.setIfInBounds (off + x.2) x.1) cs)[j]? = if off + k <= j /\ j < off + k + l.length then l[j - (off + k)]? else cs[j]?
 | [], k, cs, _ => ⟨rfl, fun j => by rw [if_neg (by simp <;> omega)]; rfl⟩
 | v :: l, k, cs, h => by
  simp only [List.length_cons] at h;obtain ⟨h1, h2⟩ := Jci off l (k + 1) (cs.setIfInBounds (off + k) v) (by simp; omega);simp only [List.zipIdx_cons, List.foldl_cons];refine ⟨by rw [h1]; simp, fun j => ?_⟩;rw [h2 j, Array.getElem?_setIfInBounds];simp only [List.length_cons];by_cases e : j = off + k
  ·subst e
   rw [if_neg (by omega), if_pos rfl, if_pos (by omega), if_pos (by omega)]
   simp
  ·by_cases e2 : off + (k + 1) <= j /\ j < off + (k + 1) + l.length
   ·rw [if_pos e2, if_pos (by omega), show j - (off + k) = (j - (off + (k + 1))) + 1 by omega]
    simp
   ·rw [if_neg e2, if_neg (fun h => e h.symm), if_neg (by omega)]
theorem J2p (place : Nat -> Option (Nat × Nat)) (cs : Array Value) (i : Nat) (v : Value) (rest : List (Nat × Value)) (off size : Nat) (hp : place i = some (off, size)) (hv : v.cells.size = size) (hs : off + size <= cs.size) :
  ∃ cs', Instr.fill place cs ((i, v) :: rest) = Instr.fill place cs' rest /\ cs'.size = cs.size /\ ∀ j, cs'[j]? = if off <= j /\ j < off + size then v.cells[j - off]? else cs[j]? := by
 obtain ⟨h1, h2⟩ := Jci off v.cells.toList 0 cs (by simp; omega)
 have e : v.cells.zipIdx.foldl (fun cs (x : Value × Nat) => cs.setIfInBounds (off + x.2) x.1) cs = (v.cells.toList.zipIdx 0).foldl (fun cs (x : Value × Nat) => cs.setIfInBounds (off + x.2) x.1) cs := by
  rw [<- Array.foldl_toList]
  simp
 refine ⟨_, ?_, h1, fun j => ?_⟩
 ·rw [Instr.fill]
  simp only [hp];rw [if_neg (by simp; omega)];rw [<- e]
 ·rw [h2 j]
  simp only [Nat.add_zero, Array.length_toList, hv, Array.getElem?_toList]
theorem J3r {P : Program} {t : TypeId} {fields : Array Field} {it : TypeInfo} {z : Value} {places : List (Nat × Nat)} (hi : P.info? t = some it) (hu : P.underlying t = some (.struct fields)) (hz : it.zero = some z)
  (hp : fields.toList.mapM (fun f => (P.info? f.type).map fun i => (f.offset, i.size)) = some places) (parts : List (Nat × Value)) : P.built t parts = Instr.fill (places.toArray[·]?) z.cells parts := by
 unfold Program.built;simp only [hi, hu, hz, hp]

def J44 (P : Program) (t : TypeId) : List Field := match P.underlying t with | some (.struct fs) => fs.toList | _ => []
end
section
open Go.RowKit
set_option linter.unusedSimpArgs false
set_option linter.unusedVariables false
def Blk (w : World) (n : Nat) (cs : Array Value) (T : TypeId) : Prop := w.heap[n]? = some (.cells cs T (0, 0))
theorem Blk.lt {w : World} {n : Nat} {cs : Array Value} {T : TypeId} (h : Blk w n cs T) : n < w.heap.size := by
 rcases Nat.lt_or_ge n w.heap.size with q | q
 ·exact q
 ·unfold Blk at h; simp [q] at h
theorem Blk.more {w w' : World} {n : Nat} {cs : Array Value} {T : TypeId} (m : More w w') (h : Blk w n cs T) : Blk w' n cs T := (m.block n h.lt).trans h
theorem Blk.cell {w : World} {n : Nat} {cs : Array Value} {T : TypeId} (h : Blk w n cs T) {j : Nat} {v : Value} (e : cs[j]? = some v) : w.cell? ⟨n, j, none⟩ = some v := by rw [cell_of_row _ _ _ _ _ _ h]; exact e
theorem Blk.frozen {w : World} {n : Nat} {cs : Array Value} {T : TypeId} (h : Blk w n cs T) (j : Nat) : w.frozen? ⟨n, j, none⟩ = false := frozen_of_row _ _ _ _ _ h
theorem Blk.last (w : World) (cs : Array Value) (T : TypeId) : Blk (w.alloc (.cells cs T)) w.heap.size cs T := heap_alloc_last _ _
theorem Blk.other {w : World} {n : Nat} {cs : Array Value} {T : TypeId} (h : Blk w n cs T) {b : Nat} (hb : b ≠ n) (o : Nat) (v : Value) : Blk (w.setCell ⟨b, o, none⟩ v) n cs T := (Below.heap_setCell _ _ _ _ (fun e => hb e.symm)).trans h
theorem Blk.alloc {w : World} {n : Nat} {c : Array Value} {T : TypeId} (h : Blk w n c T) (d : Array Value) (U : TypeId) : Blk (w.alloc (.cells d U)) n c T := h.more ((More.refl _).alloc _ _)
theorem Blk.put {w : World} {n : Nat} {cs : Array Value} {T : TypeId} (h : Blk w n cs T) (j : Nat) (v : Value) : Blk (w.setCell ⟨n, j, none⟩ v) n (cs.setIfInBounds j v) T := by
 unfold Blk at h |-;unfold World.setCell;simp [Array.getElem?_modify, h]
end
section
open Go.RowKit
set_option linter.unusedVariables false
def ComeK (p : Prg) (l : KV) (td : List Nat) (x : Nat × KS) (l' : KV) (td' : List Nat) : Prop :=
 (¬ x.1 < p.cl /\ l' = l /\ td' = td) \/ (x.1 < p.cl /\ SameV (joinV (l x.1) x.2) (l x.1) /\ l' = l /\ td' = td) \/ (x.1 < p.cl /\ ¬ SameV (joinV (l x.1) x.2) (l x.1) /\ l' = putV l x.1 (joinV (l x.1) x.2) /\ td' = td ++ [x.1])

structure Todo (p : Prg) (l : KV) (td : List Nat) (a : Nat) (R : List (Nat × KS)) : Prop where
 on : OnWay p l
 just : ∀ x ∈ R, Just p x
 left : ∀ k s, k < p.cl -> l k = some s -> k ∈ td \/ ∀ x ∈ J0f p k s, x.1 < p.cl -> (∃ u, l x.1 = some u /\ leS x.2 u) \/ (k = a /\ x ∈ R)
 come : ∀ k ∈ td, k < p.cl /\ ∃ s, l k = some s
 short : td.length <= rankV l p.cl

theorem Jfh {l : KV} {n : Nat} {t : KS} {k : Nat} {u : KS} (e : l k = some u) : ∃ u', putV l n (joinV (l n) t) k = some u' /\ leS u u' := by
 by_cases h : k = n
 ·subst h
  exact ⟨_, J18 _ _ _, J8l e⟩
 ·exact ⟨u, by rw [J15 _ h]; exact e, J8m _⟩

theorem Todo.next {p : Prg} {l l' : KV} {td td' : List Nat} {a : Nat} {x : Nat × KS} {R : List (Nat × KS)} (h : Todo p l td a (x :: R)) (c : ComeK p l td x l' td') :
  Todo p l' td' a R /\ rankV l p.cl <= rankV l' p.cl /\ td'.length + rankV l p.cl <= td.length + rankV l' p.cl /\ ∀ k, (∃ s, l k = some s) -> ∃ s, l' k = some s := by
 have hj := h.just x List.mem_cons_self;have hj' : ∀ y ∈ R, Just p y := fun y hy => h.just y (List.mem_cons_of_mem _ hy)
 rcases c with ⟨hn, rfl, rfl⟩ | ⟨hn, hs, rfl, rfl⟩ | ⟨hn, hs, rfl, rfl⟩
 ·refine ⟨⟨h.on, hj', fun k s hk e => ?_, h.come, h.short⟩, Nat.le_refl _, Nat.le_refl _, fun _ q => q⟩
  rcases h.left k s hk e with q | q
  ·exact .inl q
  ·refine .inr (fun y hy hy1 => ?_)
   rcases q y hy hy1 with q | ⟨q1, q2⟩
   ·exact .inl q
   ·rcases List.mem_cons.1 q2 with rfl | q2
    ·exact absurd hy1 hn
    ·exact .inr ⟨q1, q2⟩
 ·refine ⟨⟨h.on, hj', fun k s hk e => ?_, h.come, h.short⟩, Nat.le_refl _, Nat.le_refl _, fun _ q => q⟩
  rcases h.left k s hk e with q | q
  ·exact .inl q
  ·refine .inr (fun y hy hy1 => ?_)
   rcases q y hy hy1 with q | ⟨q1, q2⟩
   ·exact .inl q
   ·rcases List.mem_cons.1 q2 with rfl | q2
    ·exact .inl (J3v hs)
    ·exact .inr ⟨q1, q2⟩
 ·have hr := Jbh h.on.norm hn hj.norm hs
  refine ⟨⟨h.on.joinJ hj hn, hj', fun k s hk e => ?_, fun k hk => ?_, ?_⟩, Nat.le_of_lt hr, ?_, fun k ⟨s, e⟩ => ?_⟩
  ·by_cases hk0 : k = x.1
   ·exact .inl (by rw [hk0]; simp)
   ·rw [J15 _ hk0] at e
    rcases h.left k s hk e with q | q
    ·exact .inl (List.mem_append_left _ q)
    ·refine .inr (fun y hy hy1 => ?_)
     rcases q y hy hy1 with ⟨u, q1, q2⟩ | ⟨q1, q2⟩
     ·obtain ⟨u', h1, h2⟩ := Jfh (n := x.1) (t := x.2) q1
      exact .inl ⟨u', h1, J6q q2 h2⟩
     ·rcases List.mem_cons.1 q2 with rfl | q2
      ·exact .inl ⟨_, J18 _ _ _, Jex⟩
      ·exact .inr ⟨q1, q2⟩
  ·rcases List.mem_append.1 hk with q | q
   ·obtain ⟨h1, s, e⟩ := h.come k q
    obtain ⟨u, e', _⟩ := Jfh (n := x.1) (t := x.2) e;exact ⟨h1, u, e'⟩
   ·obtain rfl : k = x.1 := by simpa using q
    exact ⟨hn, _, J18 _ _ _⟩
  ·have := h.short
   rw [List.length_append]; simp; omega
  ·rw [List.length_append]; simp; omega
  ·obtain ⟨u, e', _⟩ := Jfh (n := x.1) (t := x.2) e
   exact ⟨u, e'⟩

theorem Todo.start {p : Prg} (hp : 0 < p.cl) {l' : KV} {td' : List Nat} (c : ComeK p (fun _ => none) [] (0, zeroK) l' td') : Todo p l' td' 0 [] := by
 rcases c with ⟨hn, _⟩ | ⟨hn, hs, _⟩ | ⟨hn, hs, rfl, rfl⟩
 ·exact absurd hp hn
 ·obtain ⟨t, e, _⟩ := hs
  cases e
 ·refine ⟨OnWay.start hp, fun x hx => absurd hx (by simp), fun k s hk e => ?_, fun k hk => ?_, ?_⟩
  ·by_cases h0 : k = 0
   ·exact .inl (by rw [h0]; simp)
   ·rw [J15 _ h0] at e; cases e
  ·obtain rfl : k = 0 := by simpa using hk
   exact ⟨hp, _, J18 _ _ _⟩
  ·rw [J70, if_pos hp]
   have h1 := J6z (joinV none zeroK) 8;have h2 := J62 (fun _ => (none : Option KS)) p.cl 0 hp;show 1 <= _;dsimp only [rankO] at *;omega

theorem Todo.pop {p : Prg} (hp : p.Ok 200 8) {l : KV} {td : List Nat} {a b : Nat} (h : Todo p l (td ++ [a]) b []) {s : KS} (e : l a = some s) : Todo p l td a (J0f p a s) := by
 have ha := (h.come a (by simp)).1;refine ⟨h.on, fun x hx => h.on.just hp ha e hx, fun k t hk ek => ?_, fun k hk => h.come k (List.mem_append_left _ hk), ?_⟩
 ·rcases h.left k t hk ek with q | q
  ·rcases List.mem_append.1 q with q | q
   ·exact .inl q
   ·obtain rfl : k = a := by simpa using q
    rw [e] at ek; cases ek;exact .inr (fun x hx _ => .inr ⟨rfl, hx⟩)
  ·refine .inr (fun x hx hx1 => ?_)
   rcases q x hx hx1 with q | ⟨_, q⟩
   ·exact .inl q
   ·exact absurd q (by simp)
 ·have := h.short
  rw [List.length_append] at this; simp at this; omega

theorem Todo.known {p : Prg} {l : KV} {a : Nat} (h : Todo p l [] a []) : Known p l :=
 h.on.known (fun k s hk e x hx hx1 => by
  rcases h.left k s hk e with q | q
  ·exact absurd q (by simp)
  ·rcases q x hx hx1 with q | ⟨_, q⟩
   ·exact q
   ·exact absurd q (by simp))

theorem Jhi (k : Kn) (n : Int) (h0 : -9223372036854775808 <= n) : Kn.index k n = Kn.op 1 k (Kn.of n) := by
 unfold Kn.index
 split
 ·rename_i h
  have hf : fitI n = 17 := by
   have h1 := Jby h h0;have h2 : ¬ bitLen (toU n) <= 16 := fun q => by have := (J9a _ _).1 q; omega
   exact J3g (.inr (by omega))
  have hr := J0j k.b;unfold Kn.op Kn.of;dsimp only;rw [hf, J20 (k := 17) (by omega) (by omega), Bool.or_false]
  have : opB 1 (bnd k.b) 17 = 17 := by
   unfold opB;rw [if_pos rfl]
   split
   ·omega
   ·exact J3g (.inr (by omega))
  rw [this]
 ·rfl
end
section
open Go.RowKit
theorem bl_eq : ∀ n x : Nat, x <= n -> x < 18446744073709551616 -> Lib.bitLen x = Go.bitLen x
  | 0, x, h, _ => by
    obtain rfl : x = 0 := by omega
    simp [Lib.bitLen, Lib.bitLenAux, Go.bitLen]
  | n + 1, x, h, hx => by
    by_cases h0 : x = 0
    · subst h0; simp [Lib.bitLen, Lib.bitLenAux, Go.bitLen]
    · rw [Lib.bitLen_half x h0 hx, bl_eq n (x / 2) (by omega) (by omega)]
      by_cases h1 : x / 2 = 0
      · obtain rfl : x = 1 := by omega
        decide +kernel
      · have := Go.bitLen_shift x 1 (by simpa using h1)
        rw [Nat.pow_one] at this;exact this.symm

theorem J40 (i : Nat) (h : i < Lib.len8tab.size) : (Lib.len8tab[i]).toNat = Lib.bitLen i := by
  have e := Lib.len8_eq ⟨i, by rw [Lib.len8tab_size] at h; exact h⟩;simp only [Lib.len8, Int.toNat_natCast, ByteArray.getElem?_lt' _ _ h, Option.getD_some] at e
  exact_mod_cast e

theorem J4r {x q : Int} (k : Nat) (v : Nat) (hv : v = Lib.bitLen q.toNat) (h0 : 0 <= x) (h1 : x <= 18446744073709551615) (q0 : 0 <= q) (q1 : q < 256) (hq : q.toNat = x.toNat / 2 ^ k) (hk : k <= 56) (hp : q ≠ 0) :
    wrap64 ((k : Int) + wrap64 (v : Int)) = (Lib.bitLen x.toNat : Int) := by
  have l := Lib.bitLen_le8' q q0 (by omega)
  have s := Lib.bitLen_shift k x.toNat (by
    have h2 : x.toNat / 2 ^ k ≠ 0 := by omega
    rcases Nat.lt_or_ge x.toNat (2 ^ k) with h | h
    · exact absurd (Nat.div_eq_of_lt h) h2
    · exact h) (by
      have e : (2 : Nat) ^ 64 = 18446744073709551616 := by decide +kernel
      rw [e]; omega)
  rw [s, <- hq, <- hv];rw [<- hv] at l;clear s hv hq hp q1 q0 h0 h1;unfold wrap64;omega

set_option maxRecDepth 100000 in
theorem Jba (x : Int) (w : World) (h0 : 0 <= x) (h1 : x <= 18446744073709551615) :
    Calls Tryz.prog 115 #[.int .u64 x] w fun e w' => e = .returned (V (Lib.bitLen x.toNat)) /\ w' = w := by
  have hsz := Lib.len8tab_size;go_enter Tryz.func115, Tryz.ntmps115;go_wp2
  all_goals (go_ret; refine ⟨congrArg Ending.returned (congrArg (Value.int IntKind.i64) ?_), rfl⟩)
  all_goals first
    | (exact J4r (x := x) (q := x / 4294967296 / 65536 / 256) 56 _ (J40 _ _) (by omega) (by omega) (by omega) (by omega) (by rw [show (2 ^ 56 : Nat) = 72057594037927936 by decide +kernel]; omega) (by omega) (by omega))
    | (exact J4r (x := x) (q := x / 4294967296 / 65536) 48 _ (J40 _ _) (by omega) (by omega) (by omega) (by omega) (by rw [show (2 ^ 48 : Nat) = 281474976710656 by decide +kernel]; omega) (by omega) (by omega))
    | (exact J4r (x := x) (q := x / 4294967296 / 256) 40 _ (J40 _ _) (by omega) (by omega) (by omega) (by omega) (by rw [show (2 ^ 40 : Nat) = 1099511627776 by decide +kernel]; omega) (by omega) (by omega))
    | (exact J4r (x := x) (q := x / 4294967296) 32 _ (J40 _ _) (by omega) (by omega) (by omega) (by omega) (by rw [show (2 ^ 32 : Nat) = 4294967296 by decide +kernel]; omega) (by omega) (by omega))
    | (exact J4r (x := x) (q := x / 65536 / 256) 24 _ (J40 _ _) (by omega) (by omega) (by omega) (by omega) (by rw [show (2 ^ 24 : Nat) = 16777216 by decide +kernel]; omega) (by omega) (by omega))
    | (exact J4r (x := x) (q := x / 65536) 16 _ (J40 _ _) (by omega) (by omega) (by omega) (by omega) (by rw [show (2 ^ 16 : Nat) = 65536 by decide +kernel]; omega) (by omega) (by omega))
    | (exact J4r (x := x) (q := x / 256) 8 _ (J40 _ _) (by omega) (by omega) (by omega) (by omega) (by rw [show (2 ^ 8 : Nat) = 256 by decide +kernel]; omega) (by omega) (by omega))
    | (rw [J40]
       have l := Lib.bitLen_le8' x h0 (by omega);unfold wrap64;omega)

theorem J0o (k : Int) (w : World) :
    Calls Tryz.prog 110 #[V k] w fun e w' => e = .returned (V (bnd k)) /\ w' = w := by
  by_cases h : k < 0
  · rw [J3g (.inl h)]
    go_enter Tryz.func110, Tryz.ntmps110;go_wp2;go_ret;exact ⟨rfl, rfl⟩
  by_cases h2 : 16 < k
  · rw [J3g (.inr h2)]
    go_enter Tryz.func110, Tryz.ntmps110;go_wp2;go_ret;exact ⟨rfl, rfl⟩
  · rw [J6a (by omega) (by omega)]
    go_enter Tryz.func110, Tryz.ntmps110;go_wp2;go_ret;exact ⟨rfl, rfl⟩

theorem J8g (n : Int) (w : World) :
    Calls Tryz.prog 111 #[V n] w fun e w' => e = .returned (V (fitI n)) /\ w' = w := by
  obtain ⟨l, hl⟩ : ∃ l : Int, ((Lib.bitLen (toU n) : Nat) : Int) = l := ⟨_, rfl⟩;have hf : fitI n = bnd l := by unfold fitI; rw [<- hl, bl_eq _ _ (Nat.le_refl _) (J55 n)]
  have c : ∀ w : World, Calls Tryz.prog 115 #[.int .u64 (IntKind.u64.wrap n)] w fun e w' => e = .returned (V l) /\ w' = w := by
    intro w;have := Jba (IntKind.u64.wrap n) w (by rw [uwrap]; omega) (by rw [uwrap]; have := J55 n; omega);rw [uwrap, Int.toNat_natCast, hl] at this;rw [uwrap]; exact this
  rw [hf];clear hf hl;obtain ⟨b, hb⟩ : ∃ b, bnd l = b := ⟨_, rfl⟩;have c2 : ∀ w : World, Calls Tryz.prog 110 #[V l] w fun e w' => e = .returned (V b) /\ w' = w := fun w => hb ▸ J0o l w
  rw [hb];clear hb;go_enter Tryz.func111, Tryz.ntmps111;go_wp2_with (fail)
  refine (c _).mono ?_;rintro e w1 ⟨rfl, rfl⟩;go_wp2_with (fail)
  refine (c2 _).mono ?_;rintro e w1 ⟨rfl, rfl⟩;go_wp2;go_ret;exact ⟨rfl, rfl⟩
end
section
open Go
section
variable {P : Program} {ops : Array Oper} {Q : Exit -> Act -> World -> Prop} {md : Region.Mode} {S : World -> Prop}

def ordB (md : Region.Mode) (ops : Array Oper) : List (Nat × Bool) -> Array Bool -> Bool
 | [], listed => (Region.ready md ops listed).isEmpty
 | (i, t) :: rest, listed =>
  (ops[i]?).isSome && (if t then Region.free md ops listed i && (Region.ready md ops listed).contains i else Region.ready md ops listed == [i]) &&
   ordB md ops rest (listed.setIfInBounds i true)

def J2x (P : Program) (ops : Array Oper) (S : World -> Prop) (o : Oper) (a : Act) (w : World) (K : Act -> World -> Prop) : Prop :=
 if Region.wanted o (yielded ops a.tmps) = true then ∃ v, (∀ i : { w' // S w' }, (execOp a.eval o).run P i.val = .ok (.value v) i.val) /\ K (a.put o.dst v) w
 else K (a.put o.dst undef) w

def J2m (P : Program) (ops : Array Oper) (Q : Exit -> Act -> World -> Prop) (o : Oper) (a : Act) (w : World) (K : Act -> World -> Prop) : Prop :=
 if Region.wanted o (yielded ops a.tmps) = true then Oper.wp P o a w K Q else K (a.put o.dst undef) w

def wpOrd (P : Program) (ops : Array Oper) (Q : Exit -> Act -> World -> Prop) (S : World -> Prop) : List (Nat × Bool) -> Act -> World -> Prop
 | [], a, w => Q .normal a w
 | (i, t) :: rest, a, w =>
  match ops[i]? with
  | none => False
  | some o => if t then J2x P ops S o a w (fun a' w' => wpOrd P ops Q S rest a' w') else J2m P ops Q o a w (fun a' w' => S w' /\ wpOrd P ops Q S rest a' w')

theorem J3e (hs : Region.noSelect ops = true) (hQ : ∀ c (a : Act) d v w, Q (.panic c) (a.put d v) w -> Q (.panic c) a w) :
  ∀ (l : List (Nat × Bool)) (listed : Array Bool) (a : Act) (w : World), ordB md ops l listed = true -> S w -> wpOrd P ops Q S l a w -> wpAnyH P md ops Q S l.length listed a w
 | [], listed, a, w, hB, _, h => ⟨by simpa [ordB] using hB, h⟩
 | (i, t) :: rest, listed, a, w, hB, hS, h => by
  simp only [ordB, Bool.and_eq_true] at hB;obtain ⟨⟨ho, hc⟩, hB'⟩ := hB;obtain ⟨o, ho⟩ := Option.isSome_iff_exists.1 ho;simp only [wpOrd, ho] at h;cases t with
  | true =>
   simp only [if_true, Bool.and_eq_true] at hc h;unfold J2x at h;by_cases hw : Region.wanted o (yielded ops a.tmps) = true
   ·rw [if_pos hw] at h
    obtain ⟨v, hv, hk⟩ := h;exact wpAnyH_take ho hs hc.1 hc.2 (fun c a w => hQ c a _ _ w) (.inl ⟨hw, fun w' hw' => hv ⟨w', hw'⟩⟩) hS (J3e hs hQ rest _ _ _ hB' hS hk)
   ·rw [if_neg hw] at h
    exact wpAnyH_take ho hs hc.1 hc.2 (fun c a w => hQ c a _ _ w) (.inr ⟨by simpa using hw, rfl⟩) hS (J3e hs hQ rest _ _ _ hB' hS h)
  | false =>
   simp only [Bool.false_eq_true, if_false, beq_iff_eq] at hc h;refine wpAnyH_all hc (by simp) (fun j hj => ?_);obtain rfl : j = i := by simpa using hj
   unfold J2m at h;unfold wpOp;rw [ho];show if Region.wanted o (yielded ops a.tmps) = true then _ else _
   by_cases hw : Region.wanted o (yielded ops a.tmps) = true
   ·rw [if_pos hw] at h |-
    exact .inl (Oper.wp_mono (fun a' w' h' => ⟨h'.1, J3e hs hQ rest _ _ _ hB' h'.1 h'.2⟩) h)
   ·rw [if_neg hw] at h |-
    exact ⟨hS, J3e hs hQ rest _ _ _ hB' h.1 h.2⟩

structure Ord (P : Program) (ops : Array Oper) (Q : Exit -> Act -> World -> Prop) (S : World -> Prop) (l : List (Nat × Bool)) (a : Act) (w : World) : Prop where
 out : wpOrd P ops Q S l a w

theorem J03 {id : Nat} {a : Act} {w : World} (l : List (Nat × Bool)) (hm : P.follows .mixedOrders = true) (hs : Region.noSelect ops = true)
  (hB : (ordB .any ops l (Array.replicate ops.size false) && l.length == ops.size) = true) (hS : S w.drew) (h : Ord P ops (NoPanic Q) S l a w.drew) : (Code.region id ops true).wp P Q a w := by
 rw [Bool.and_eq_true] at hB;have hl : l.length = ops.size := by simpa using hB.2
 refine wp_region_noPanic (wp_region_held_drew (S := S) hm hS (fun _ => ?_));rw [<- hl];have := J3e (P := P) (md := .any) (S := S) (Q := NoPanic Q) hs (fun _ _ _ _ _ h => h) l (Array.replicate ops.size false) a w.drew hB.1 hS h.out
 rwa [<- hl] at this

def nth {α : Type} : List α -> Nat -> Option α
 | [], _ => none
 | x :: _, 0 => some x
 | _ :: l, n + 1 => nth l n
theorem Jjn {α : Type} : ∀ (l : List α) (n : Nat), nth l n = l[n]?
 | [], _ => rfl
 | _ :: _, 0 => rfl
 | _ :: l, n + 1 => by rw [nth, Jjn l n]; rfl
theorem J2q {α : Type} {l : List α} {n : Nat} {x : α} (h : nth l n = some x) : l.toArray[n]? = some x := by rw [List.getElem?_toArray, <- Jjn]; exact h

theorem J00 {ls : List Oper} {i : Nat} {o : Oper} {rest : List (Nat × Bool)} {a : Act} {w : World} (ho' : nth ls i = some o) (hw : Region.wanted o (yielded ls.toArray a.tmps) = true)
  (h : ∀ K : Act -> World -> Prop, (∀ a w, Ord P ls.toArray Q S rest a w -> K a w) -> ∃ v, (∀ i : { w' // S w' }, (execOp a.eval o).run P i.val = .ok (.value v) i.val) /\ K (a.put o.dst v) w) :
  Ord P ls.toArray Q S ((i, true) :: rest) a w := by
 have ho := J2q ho';refine ⟨?_⟩;simp only [wpOrd, ho];unfold J2x;simp only [if_true];rw [if_pos hw];exact h _ (fun _ _ h => h.out)
theorem J02 {ls : List Oper} {i : Nat} {o : Oper} {rest : List (Nat × Bool)} {a : Act} {w : World} (ho' : nth ls i = some o) (hw : Region.wanted o (yielded ls.toArray a.tmps) = true)
  (h : ∀ K : Act -> World -> Prop, (∀ a w, S w -> Ord P ls.toArray Q S rest a w -> K a w) -> Oper.wp P o a w K Q) : Ord P ls.toArray Q S ((i, false) :: rest) a w := by
 have ho := J2q ho';refine ⟨?_⟩;simp only [wpOrd, ho, Bool.false_eq_true, if_false];unfold J2m;rw [if_pos hw];exact h _ (fun _ _ hs h => ⟨hs, h.out⟩)
theorem J26 {ls : List Oper} {i : Nat} {o : Oper} {x : Operand} {rest : List (Nat × Bool)} {a : Act} {w : World} (ho' : nth ls i = some o) (hop : o.op = .move x)
  (hw : Region.wanted o (yielded ls.toArray a.tmps) = true)
  (h : ∀ K : Act -> World -> Prop, (∀ a w, Ord P ls.toArray Q S rest a w -> K a w) -> K (a.put o.dst (a.eval x)) w) : Ord P ls.toArray Q S ((i, true) :: rest) a w := by
 refine J00 ho' hw (fun K hK => ⟨a.eval x, fun i => ?_, h K hK⟩);unfold execOp;rw [hop]
 rfl
theorem J42 {ls : List Oper} {i : Nat} {o : Oper} {x : Operand} {rest : List (Nat × Bool)} {a : Act} {w : World} (ho' : nth ls i = some o) (hop : o.op = .assign x)
  (hw : Region.wanted o (yielded ls.toArray a.tmps) = true)
  (h : ∀ K : Act -> World -> Prop, (∀ a w, Ord P ls.toArray Q S rest a w -> K a w) -> K (a.put o.dst (a.eval x)) w) : Ord P ls.toArray Q S ((i, true) :: rest) a w := by
 refine J00 ho' hw (fun K hK => ⟨a.eval x, fun i => ?_, h K hK⟩);unfold execOp;rw [hop]
 rfl

theorem J0n {ls : List Oper} {i : Nat} {o : Oper} {c x y : Operand} {rest : List (Nat × Bool)} {a : Act} {w : World} (ho' : nth ls i = some o) (hop : o.op = .pick c x y)
  (hw : Region.wanted o (yielded ls.toArray a.tmps) = true) (hc : a.eval c = .bool false)
  (h : ∀ K : Act -> World -> Prop, (∀ a w, Ord P ls.toArray Q S rest a w -> K a w) -> K (a.put o.dst (a.eval y)) w) : Ord P ls.toArray Q S ((i, true) :: rest) a w := by
 have ho := J2q ho';refine ⟨?_⟩;simp only [wpOrd, ho];unfold J2x;simp only [if_true];rw [if_pos hw];refine ⟨a.eval y, fun i => ?_, h _ (fun _ _ h => h.out)⟩;unfold execOp;rw [hop];dsimp only;rw [hc]
 rfl
theorem J0q {ls : List Oper} {i : Nat} {o : Oper} {c x y : Operand} {rest : List (Nat × Bool)} {a : Act} {w : World} (ho' : nth ls i = some o) (hop : o.op = .pick c x y)
  (hw : Region.wanted o (yielded ls.toArray a.tmps) = true) (hc : a.eval c = .bool true)
  (h : ∀ K : Act -> World -> Prop, (∀ a w, Ord P ls.toArray Q S rest a w -> K a w) -> K (a.put o.dst (a.eval x)) w) : Ord P ls.toArray Q S ((i, true) :: rest) a w := by
 have ho := J2q ho';refine ⟨?_⟩;simp only [wpOrd, ho];unfold J2x;simp only [if_true];rw [if_pos hw];refine ⟨a.eval x, fun i => ?_, h _ (fun _ _ h => h.out)⟩;unfold execOp;rw [hop];dsimp only;rw [hc]
 rfl

theorem J27 {ls : List Oper} {i : Nat} {o : Oper} {t : Bool} {rest : List (Nat × Bool)} {a : Act} {w : World} (ho' : nth ls i = some o) (hS : S w)
  (hw : Region.wanted o (yielded ls.toArray a.tmps) = false) (hp : a.put o.dst undef = a) (h : Ord P ls.toArray Q S rest a w) : Ord P ls.toArray Q S ((i, t) :: rest) a w := by
 have ho := J2q ho';refine ⟨?_⟩;simp only [wpOrd, ho];unfold J2x J2m;rw [hw, hp];cases t
 ·simp only [Bool.false_eq_true, if_false]; exact ⟨hS, h.out⟩
 ·simp only [Bool.false_eq_true, if_false, if_true]; exact h.out
theorem J2i {ls : List Oper} {i : Nat} {o : Oper} {t : Bool} {rest : List (Nat × Bool)} {a : Act} {w : World} (ho' : nth ls i = some o) (hS : S w)
  (hw : Region.wanted o (yielded ls.toArray a.tmps) = false)
  (h : ∀ K : Act -> World -> Prop, (∀ a w, Ord P ls.toArray Q S rest a w -> K a w) -> K (a.put o.dst undef) w) : Ord P ls.toArray Q S ((i, t) :: rest) a w := by
 have ho := J2q ho';refine ⟨?_⟩;have hk := h (fun a w => wpOrd P ls.toArray Q S rest a w) (fun _ _ h => h.out);simp only [wpOrd, ho];unfold J2x J2m;rw [hw];cases t
 ·simp only [Bool.false_eq_true, if_false]; exact ⟨hS, hk⟩
 ·simp only [Bool.false_eq_true, if_false, if_true]; exact hk
theorem J04 {a : Act} {w : World} (h : Q .normal a w) : Ord P ops (NoPanic Q) S [] a w := ⟨h⟩

end
end
section
open Go.RowKit
abbrev kn (a : Int) (s : Bool) : Value := .agg #[V a, .bool s]

structure Two (n : Nat) (a : Int) (sa : Bool) (b : Int) (sb : Bool) (w : World) : Prop where
 a0 : w.cell? ⟨n, 0, none⟩ = some (V a)
 a1 : w.cell? ⟨n, 1, none⟩ = some (.bool sa)
 b0 : w.cell? ⟨n + 1, 0, none⟩ = some (V b)
 b1 : w.cell? ⟨n + 1, 1, none⟩ = some (.bool sb)

theorem J5c (a b : Int) (sa sb : Bool) (w : World) :
  Calls Tryz.prog 96 #[kn a sa, kn b sb] w fun e w' => e = .returned (kn (min (bnd a) (bnd b)) sa) /\ More w w' := by
 obtain ⟨x, hx⟩ : ∃ x, bnd a = x := ⟨_, rfl⟩;obtain ⟨y, hy⟩ : ∃ x, bnd b = x := ⟨_, rfl⟩;have c1 : ∀ w : World, Calls Tryz.prog 110 #[V a] w fun e w' => e = .returned (V x) /\ w' = w := fun w => hx ▸ J0o a w
 have c2 : ∀ w : World, Calls Tryz.prog 110 #[V b] w fun e w' => e = .returned (V y) /\ w' = w := fun w => hy ▸ J0o b w
 rw [hx, hy];clear hx hy;unfold kn;obtain ⟨S, HS⟩ : ∃ S : World -> Prop, Hid (∀ w', S w' ↔ Two w.heap.size a sa b sb w') := ⟨_, fun _ => Iff.rfl⟩;have k0 : ∀ i : { w' // S w' }, i.val.cell? ⟨w.heap.size, 0, none⟩ = some (V a) := fun i => ((HS.out _).1 i.property).a0
 have k1 : ∀ i : { w' // S w' }, i.val.cell? ⟨w.heap.size, 1, none⟩ = some (.bool sa) := fun i => ((HS.out _).1 i.property).a1
 have k2 : ∀ i : { w' // S w' }, i.val.cell? ⟨w.heap.size + 1, 0, none⟩ = some (V b) := fun i => ((HS.out _).1 i.property).b0
 have k3 : ∀ i : { w' // S w' }, i.val.cell? ⟨w.heap.size + 1, 1, none⟩ = some (.bool sb) := fun i => ((HS.out _).1 i.property).b1
 obtain ⟨W, HW⟩ : ∃ W : World, Hid (W = ((w.alloc (.cells #[V a, .bool sa] 56)).alloc (.cells #[V b, .bool sb] 56)).alloc (.cells #[V 0, .bool false] 56)) := ⟨_, rfl⟩;have HS0 : S W.drew := (HS.out _).2 (by rw [HW.out]; constructor <;> go_simp);have hne : Nonempty { w' // S w' } := ⟨⟨_, HS0⟩⟩;go_enter Tryz.func96, Tryz.ntmps96;go_wp2_with (fail)
 rw [<- HW.out];refine J03 (S := S) [(0, true), (1, true), (3, true), (4, true), (7, true), (8, true), (2, false), (5, false), (6, false), (9, true), (10, false)] (by kernel_rfl) (by kernel_rfl) (by kernel_rfl) HS0 ?_
 iterate 6 (refine J00 rfl (by kernel_rfl) (fun K hK => ?_); go_simp; refine hK _ _ ?_; clear hK K)
 refine J02 rfl (by kernel_rfl) (fun K hK => ?_); go_simp;refine (c1 _).mono ?_;rintro e w1 ⟨rfl, rfl⟩
 go_simp
 refine hK _ _ HS0 ?_; clear hK K;refine J02 rfl (by kernel_rfl) (fun K hK => ?_); go_simp;refine (c2 _).mono ?_;rintro e w1 ⟨rfl, rfl⟩
 go_simp
 refine hK _ _ HS0 ?_; clear hK K;refine J02 rfl (by kernel_rfl) (fun K hK => ?_); go_simp;refine hK _ _ HS0 ?_; clear hK K
 (refine J00 rfl (by kernel_rfl) (fun K hK => ?_); go_simp; refine hK _ _ ?_; clear hK K)
 rw [HW.out];refine J02 rfl (by kernel_rfl) (fun K hK => ?_); go_simp;refine hK _ _ ((HS.out _).2 (by constructor <;> go_simp)) ?_; clear hK K;refine J04 ?_;clear k0 k1 k2 k3 hne HS0;go_wp2;exact bodyPost_ret (by simp [results, Tryz.results96, go_sem]) rfl ⟨rfl, ((((More.refl _).alloc _ _).alloc _ _).alloc _ _).drew⟩

theorem Jf0 (a b : Int) (sb : Bool) (w : World) :
  Calls Tryz.prog 95 #[kn a true, kn b sb] w fun e w' => e = .returned (kn (max (bnd a) (bnd b)) true) /\ More w w' := by
 obtain ⟨x, hx⟩ : ∃ x, bnd a = x := ⟨_, rfl⟩;obtain ⟨y, hy⟩ : ∃ x, bnd b = x := ⟨_, rfl⟩;have c1 : ∀ w : World, Calls Tryz.prog 110 #[V a] w fun e w' => e = .returned (V x) /\ w' = w := fun w => hx ▸ J0o a w
 have c2 : ∀ w : World, Calls Tryz.prog 110 #[V b] w fun e w' => e = .returned (V y) /\ w' = w := fun w => hy ▸ J0o b w
 rw [hx, hy];clear hx hy;unfold kn;obtain ⟨S, HS⟩ : ∃ S : World -> Prop, Hid (∀ w', S w' ↔ Two w.heap.size a true b sb w') := ⟨_, fun _ => Iff.rfl⟩;have k0 : ∀ i : { w' // S w' }, i.val.cell? ⟨w.heap.size, 0, none⟩ = some (V a) := fun i => ((HS.out _).1 i.property).a0
 have k1 : ∀ i : { w' // S w' }, i.val.cell? ⟨w.heap.size, 1, none⟩ = some (.bool true) := fun i => ((HS.out _).1 i.property).a1
 have k2 : ∀ i : { w' // S w' }, i.val.cell? ⟨w.heap.size + 1, 0, none⟩ = some (V b) := fun i => ((HS.out _).1 i.property).b0
 have k3 : ∀ i : { w' // S w' }, i.val.cell? ⟨w.heap.size + 1, 1, none⟩ = some (.bool sb) := fun i => ((HS.out _).1 i.property).b1
 obtain ⟨W, HW⟩ : ∃ W : World, Hid (W = ((w.alloc (.cells #[V a, .bool true] 56)).alloc (.cells #[V b, .bool sb] 56)).alloc (.cells #[V 0, .bool false] 56)) := ⟨_, rfl⟩;have HS0 : S W.drew := (HS.out _).2 (by rw [HW.out]; constructor <;> go_simp);have hne : Nonempty { w' // S w' } := ⟨⟨_, HS0⟩⟩;go_enter Tryz.func95, Tryz.ntmps95;go_wp2_with (fail)
 rw [<- HW.out];refine J03 (S := S) [(0, true), (1, true), (3, true), (4, true), (7, true), (8, true), (2, false), (5, false), (9, true), (10, true), (11, true), (12, true), (6, false), (13, true), (14, false)] (by kernel_rfl) (by kernel_rfl) (by kernel_rfl) HS0 ?_
 iterate 6 (refine J00 rfl (by kernel_rfl) (fun K hK => ?_); go_simp; refine hK _ _ ?_; clear hK K)
 refine J02 rfl (by kernel_rfl) (fun K hK => ?_); go_simp;refine (c1 _).mono ?_;rintro e w1 ⟨rfl, rfl⟩
 go_simp
 refine hK _ _ HS0 ?_; clear hK K;refine J02 rfl (by kernel_rfl) (fun K hK => ?_); go_simp;refine (c2 _).mono ?_;rintro e w1 ⟨rfl, rfl⟩
 go_simp
 refine hK _ _ HS0 ?_; clear hK K
 (refine J00 rfl (by kernel_rfl) (fun K hK => ?_); go_simp; refine hK _ _ ?_; clear hK K)
 iterate 2 (refine J27 rfl HS0 (by kernel_rfl) (by kernel_rfl) ?_)
 refine J0q rfl rfl (by kernel_rfl) rfl (fun K hK => ?_); go_simp; refine hK _ _ ?_; clear hK K;refine J02 rfl (by kernel_rfl) (fun K hK => ?_); go_simp;refine hK _ _ HS0 ?_; clear hK K
 (refine J00 rfl (by kernel_rfl) (fun K hK => ?_); go_simp; refine hK _ _ ?_; clear hK K)
 rw [HW.out];refine J02 rfl (by kernel_rfl) (fun K hK => ?_); go_simp;refine hK _ _ ((HS.out _).2 (by constructor <;> go_simp)) ?_; clear hK K;refine J04 ?_;clear k0 k1 k2 k3 hne HS0;go_wp2;exact bodyPost_ret (by simp [results, Tryz.results95, go_sem]) rfl ⟨rfl, ((((More.refl _).alloc _ _).alloc _ _).alloc _ _).drew⟩

theorem Jdg (a b : Int) (sb : Bool) (w : World) :
  Calls Tryz.prog 95 #[kn a false, kn b sb] w fun e w' => e = .returned (kn (max (bnd a) (bnd b)) sb) /\ More w w' := by
 obtain ⟨x, hx⟩ : ∃ x, bnd a = x := ⟨_, rfl⟩;obtain ⟨y, hy⟩ : ∃ x, bnd b = x := ⟨_, rfl⟩;have c1 : ∀ w : World, Calls Tryz.prog 110 #[V a] w fun e w' => e = .returned (V x) /\ w' = w := fun w => hx ▸ J0o a w
 have c2 : ∀ w : World, Calls Tryz.prog 110 #[V b] w fun e w' => e = .returned (V y) /\ w' = w := fun w => hy ▸ J0o b w
 rw [hx, hy];clear hx hy;unfold kn;obtain ⟨S, HS⟩ : ∃ S : World -> Prop, Hid (∀ w', S w' ↔ Two w.heap.size a false b sb w') := ⟨_, fun _ => Iff.rfl⟩;have k0 : ∀ i : { w' // S w' }, i.val.cell? ⟨w.heap.size, 0, none⟩ = some (V a) := fun i => ((HS.out _).1 i.property).a0
 have k1 : ∀ i : { w' // S w' }, i.val.cell? ⟨w.heap.size, 1, none⟩ = some (.bool false) := fun i => ((HS.out _).1 i.property).a1
 have k2 : ∀ i : { w' // S w' }, i.val.cell? ⟨w.heap.size + 1, 0, none⟩ = some (V b) := fun i => ((HS.out _).1 i.property).b0
 have k3 : ∀ i : { w' // S w' }, i.val.cell? ⟨w.heap.size + 1, 1, none⟩ = some (.bool sb) := fun i => ((HS.out _).1 i.property).b1
 obtain ⟨W, HW⟩ : ∃ W : World, Hid (W = ((w.alloc (.cells #[V a, .bool false] 56)).alloc (.cells #[V b, .bool sb] 56)).alloc (.cells #[V 0, .bool false] 56)) := ⟨_, rfl⟩;have HS0 : S W.drew := (HS.out _).2 (by rw [HW.out]; constructor <;> go_simp);have hne : Nonempty { w' // S w' } := ⟨⟨_, HS0⟩⟩;go_enter Tryz.func95, Tryz.ntmps95;go_wp2_with (fail)
 rw [<- HW.out];refine J03 (S := S) [(0, true), (1, true), (3, true), (4, true), (7, true), (8, true), (2, false), (5, false), (9, true), (10, true), (11, true), (12, true), (6, false), (13, true), (14, false)] (by kernel_rfl) (by kernel_rfl) (by kernel_rfl) HS0 ?_
 iterate 6 (refine J00 rfl (by kernel_rfl) (fun K hK => ?_); go_simp; refine hK _ _ ?_; clear hK K)
 refine J02 rfl (by kernel_rfl) (fun K hK => ?_); go_simp;refine (c1 _).mono ?_;rintro e w1 ⟨rfl, rfl⟩
 go_simp
 refine hK _ _ HS0 ?_; clear hK K;refine J02 rfl (by kernel_rfl) (fun K hK => ?_); go_simp;refine (c2 _).mono ?_;rintro e w1 ⟨rfl, rfl⟩
 go_simp
 refine hK _ _ HS0 ?_; clear hK K
 iterate 3 (refine J00 rfl (by kernel_rfl) (fun K hK => ?_); go_simp; refine hK _ _ ?_; clear hK K)
 refine J0n rfl rfl (by kernel_rfl) rfl (fun K hK => ?_); go_simp; refine hK _ _ ?_; clear hK K;refine J02 rfl (by kernel_rfl) (fun K hK => ?_); go_simp;refine hK _ _ HS0 ?_; clear hK K
 (refine J00 rfl (by kernel_rfl) (fun K hK => ?_); go_simp; refine hK _ _ ?_; clear hK K)
 rw [HW.out];refine J02 rfl (by kernel_rfl) (fun K hK => ?_); go_simp;refine hK _ _ ((HS.out _).2 (by constructor <;> go_simp)) ?_; clear hK K;refine J04 ?_;clear k0 k1 k2 k3 hne HS0;go_wp2;exact bodyPost_ret (by simp [results, Tryz.results95, go_sem]) rfl ⟨rfl, ((((More.refl _).alloc _ _).alloc _ _).alloc _ _).drew⟩

theorem Jdf (a b : Int) (sa sb : Bool) (w : World) :
  Calls Tryz.prog 95 #[kn a sa, kn b sb] w fun e w' => e = .returned (kn (max (bnd a) (bnd b)) (sa || sb)) /\ More w w' := by
 cases sa with
 | true => exact Jf0 a b sb w
 | false => exact Jdg a b sb w

theorem Jg8 (a b : Int) (h0 : 0 <= a) (h1 : a <= 17) (h2 : 0 <= b) (h3 : b <= 17) (w : World) :
  Calls Tryz.prog 116 #[V a, V b] w fun e w' => e = .returned (V (if a = 0 \/ b = 0 then max a b else max a b + 1)) /\ w' = w := by
 by_cases ha : a = 0
 ·subst ha
  rw [if_pos (.inl rfl)];go_enter Tryz.func116, Tryz.ntmps116;go_wp2;go_ret;exact ⟨rfl, rfl⟩
 by_cases hb : b = 0
 ·subst hb
  rw [if_pos (.inr rfl)];go_enter Tryz.func116, Tryz.ntmps116;go_wp2;go_ret;exact ⟨rfl, rfl⟩
 ·rw [if_neg (by omega)]
  have e1 : (a == 0) = false := by simp [ha]
  have e2 : (b == 0) = false := by simp [hb]
  obtain ⟨m, hm⟩ : ∃ m, max a b = m := ⟨_, rfl⟩;have hm1 : m <= 17 := by omega
  have hm0 : 0 <= m := by omega
  rw [hm];go_enter Tryz.func116, Tryz.ntmps116;go_wp2;go_ret;exact ⟨rfl, rfl⟩

theorem J8s (a b : Int) (h0 : 0 <= a) (h1 : a <= 17) (h2 : 0 <= b) (h3 : b <= 17) (w : World) :
  Calls Tryz.prog 117 #[V a, V b] w fun e w' => e = .returned (V (if a = 0 \/ b = 0 then 0 else a + b)) /\ w' = w := by
 by_cases ha : a = 0
 ·rw [if_pos (.inl ha)]
  go_enter Tryz.func117, Tryz.ntmps117;go_wp2;go_ret;exact ⟨rfl, rfl⟩
 by_cases hb : b = 0
 ·rw [if_pos (.inr hb)]
  go_enter Tryz.func117, Tryz.ntmps117;go_wp2;go_ret;exact ⟨rfl, rfl⟩
 ·rw [if_neg (by omega)]
  have e1 : (a == 0) = false := by simp [ha]
  have e2 : (b == 0) = false := by simp [hb]
  go_enter Tryz.func117, Tryz.ntmps117;go_wp2;go_ret;exact ⟨rfl, rfl⟩

def opR (op a b : Int) : Int :=
 if op = 1 then (if a = 0 \/ b = 0 then max a b else max a b + 1)
 else if op = 3 then (if a = 0 \/ b = 0 then 0 else a + b)
 else if op = 4 then min a b
 else if op = 5 \/ op = 6 then max a b
 else if op = 8 \/ op = 9 \/ op = 10 then a
 else 17

theorem Jla (op : Int) {a b : Int} (h0 : 0 <= a) (h1 : a <= 17) (h2 : 0 <= b) (h3 : b <= 17) : bnd (opR op a b) = opB op a b := by
 unfold opR opB
 split
 ·split
  ·exact J20 (by omega) (by omega)
  ·rfl
 split
 ·split
  ·exact J20 (by omega) (by omega)
  ·rfl
 split
 ·exact J20 (by omega) (by omega)
 split
 ·exact J20 (by omega) (by omega)
 split
 ·exact J20 (by omega) (by omega)
 ·exact J20 (by omega) (by omega)

theorem Ji3 (a b R : Int) (c : ∀ w : World, Calls Tryz.prog 116 #[V a, V b] w fun e w' => e = .returned (V R) /\ w' = w) (w : World) :
  Calls Tryz.prog 112 #[V 1, V a, V b] w fun e w' => e = .returned (V R) /\ w' = w := by
 go_enter Tryz.func112, Tryz.ntmps112;go_wp2_with (fail)
 refine (c _).mono ?_;rintro e w1 ⟨rfl, rfl⟩;go_wp2;go_ret;exact ⟨rfl, rfl⟩

theorem Ji4 (a b R : Int) (c : ∀ w : World, Calls Tryz.prog 117 #[V a, V b] w fun e w' => e = .returned (V R) /\ w' = w) (w : World) :
  Calls Tryz.prog 112 #[V 3, V a, V b] w fun e w' => e = .returned (V R) /\ w' = w := by
 go_enter Tryz.func112, Tryz.ntmps112;go_wp2_with (fail)
 refine (c _).mono ?_;rintro e w1 ⟨rfl, rfl⟩;go_wp2;go_ret;exact ⟨rfl, rfl⟩

theorem Ji5 (a b : Int) (w : World) :
  Calls Tryz.prog 112 #[V 4, V a, V b] w fun e w' => e = .returned (V (min a b)) /\ w' = w := by
 go_enter Tryz.func112, Tryz.ntmps112;go_wp2;go_ret;exact ⟨rfl, rfl⟩

theorem Ji6 (a b : Int) (w : World) :
  Calls Tryz.prog 112 #[V 5, V a, V b] w fun e w' => e = .returned (V (max a b)) /\ w' = w := by
 go_enter Tryz.func112, Tryz.ntmps112;go_wp2;go_ret;exact ⟨rfl, rfl⟩

theorem Ji7 (a b : Int) (w : World) :
  Calls Tryz.prog 112 #[V 6, V a, V b] w fun e w' => e = .returned (V (max a b)) /\ w' = w := by
 go_enter Tryz.func112, Tryz.ntmps112;go_wp2;go_ret;exact ⟨rfl, rfl⟩

theorem Ji8 (a b : Int) (w : World) :
  Calls Tryz.prog 112 #[V 8, V a, V b] w fun e w' => e = .returned (V (a)) /\ w' = w := by
 go_enter Tryz.func112, Tryz.ntmps112;go_wp2;go_ret;exact ⟨rfl, rfl⟩

theorem Ji9 (a b : Int) (w : World) :
  Calls Tryz.prog 112 #[V 9, V a, V b] w fun e w' => e = .returned (V (a)) /\ w' = w := by
 go_enter Tryz.func112, Tryz.ntmps112;go_wp2;go_ret;exact ⟨rfl, rfl⟩

theorem Jf7 (a b : Int) (w : World) :
  Calls Tryz.prog 112 #[V 10, V a, V b] w fun e w' => e = .returned (V (a)) /\ w' = w := by
 go_enter Tryz.func112, Tryz.ntmps112;go_wp2;go_ret;exact ⟨rfl, rfl⟩

theorem J9w (op a b : Int) (h1 : ¬ op = 1) (h3 : ¬ op = 3) (h4 : ¬ op = 4) (h5 : ¬ op = 5) (h6 : ¬ op = 6) (h8 : ¬ op = 8) (h9 : ¬ op = 9) (h10 : ¬ op = 10) (w : World) :
  Calls Tryz.prog 112 #[V op, V a, V b] w fun e w' => e = .returned (V 17) /\ w' = w := by
 have e1 : (op == 1) = false := by simp [h1]
 have e3 : (op == 3) = false := by simp [h3]
 have e4 : (op == 4) = false := by simp [h4]
 have e5 : (op == 5) = false := by simp [h5]
 have e6 : (op == 6) = false := by simp [h6]
 have e8 : (op == 8) = false := by simp [h8]
 have e9 : (op == 9) = false := by simp [h9]
 have e10 : (op == 10) = false := by simp [h10]
 clear h1 h3 h4 h5 h6 h8 h9 h10;go_enter Tryz.func112, Tryz.ntmps112;go_wp2;go_ret;exact ⟨rfl, rfl⟩

theorem J5o (op a b : Int) (h0 : 0 <= a) (h1 : a <= 17) (h2 : 0 <= b) (h3 : b <= 17) (w : World) :
  Calls Tryz.prog 112 #[V op, V a, V b] w fun e w' => e = .returned (V (opR op a b)) /\ w' = w := by
 by_cases q1 : op = 1
 ·subst q1; exact Ji3 a b _ (fun w => Jg8 a b h0 h1 h2 h3 w) w
 by_cases q3 : op = 3
 ·subst q3; exact Ji4 a b _ (fun w => J8s a b h0 h1 h2 h3 w) w
 by_cases q4 : op = 4
 ·subst q4; exact Ji5 a b w
 by_cases q5 : op = 5
 ·subst q5; exact Ji6 a b w
 by_cases q6 : op = 6
 ·subst q6; exact Ji7 a b w
 by_cases q8 : op = 8
 ·subst q8; exact Ji8 a b w
 by_cases q9 : op = 9
 ·subst q9; exact Ji9 a b w
 by_cases q10 : op = 10
 ·subst q10; exact Jf7 a b w
 ·rw [show opR op a b = 17 by unfold opR; rw [if_neg q1, if_neg q3, if_neg q4, if_neg (by omega), if_neg (by omega)]]
  exact J9w op a b q1 q3 q4 q5 q6 q8 q9 q10 w

theorem Jlb (op a b x y z r : Int) (sb : Bool)
  (c1 : ∀ w : World, Calls Tryz.prog 110 #[V a] w fun e w' => e = .returned (V x) /\ w' = w)
  (c2 : ∀ w : World, Calls Tryz.prog 110 #[V b] w fun e w' => e = .returned (V y) /\ w' = w)
  (c3 : ∀ w : World, Calls Tryz.prog 112 #[V op, V x, V y] w fun e w' => e = .returned (V z) /\ w' = w)
  (c4 : ∀ w : World, Calls Tryz.prog 110 #[V z] w fun e w' => e = .returned (V r) /\ w' = w) (w : World) :
  Calls Tryz.prog 100 #[V op, kn a true, kn b sb] w fun e w' => e = .returned (kn r true) /\ More w w' := by
 unfold kn;obtain ⟨S, HS⟩ : ∃ S : World -> Prop, Hid (∀ w', S w' ↔ Two w.heap.size a true b sb w') := ⟨_, fun _ => Iff.rfl⟩;have k0 : ∀ i : { w' // S w' }, i.val.cell? ⟨w.heap.size, 0, none⟩ = some (V a) := fun i => ((HS.out _).1 i.property).a0
 have k1 : ∀ i : { w' // S w' }, i.val.cell? ⟨w.heap.size, 1, none⟩ = some (.bool true) := fun i => ((HS.out _).1 i.property).a1
 have k2 : ∀ i : { w' // S w' }, i.val.cell? ⟨w.heap.size + 1, 0, none⟩ = some (V b) := fun i => ((HS.out _).1 i.property).b0
 have k3 : ∀ i : { w' // S w' }, i.val.cell? ⟨w.heap.size + 1, 1, none⟩ = some (.bool sb) := fun i => ((HS.out _).1 i.property).b1
 obtain ⟨W, HW⟩ : ∃ W : World, Hid (W = ((w.alloc (.cells #[V a, .bool true] 56)).alloc (.cells #[V b, .bool sb] 56)).alloc (.cells #[V 0, .bool false] 56)) := ⟨_, rfl⟩;have HS0 : S W.drew := (HS.out _).2 (by rw [HW.out]; constructor <;> go_simp);have hne : Nonempty { w' // S w' } := ⟨⟨_, HS0⟩⟩;have HS1 : S W.drew.drew := (HS.out _).2 (by rw [HW.out]; constructor <;> go_simp);go_enter Tryz.func100, Tryz.ntmps100;go_wp2_with (fail)
 rw [<- HW.out];refine J03 (S := S) [(0, true), (1, true), (2, true), (4, true), (5, true), (3, false), (6, false), (7, false), (8, true)] (by kernel_rfl) (by kernel_rfl) (by kernel_rfl) HS0 ?_
 iterate 5 (refine J00 rfl (by kernel_rfl) (fun K hK => ?_); go_simp; refine hK _ _ ?_; clear hK K)
 refine J02 rfl (by kernel_rfl) (fun K hK => ?_); go_simp;refine (c1 _).mono ?_;rintro e w1 ⟨rfl, rfl⟩
 go_simp
 refine hK _ _ HS0 ?_; clear hK K;refine J02 rfl (by kernel_rfl) (fun K hK => ?_); go_simp;refine (c2 _).mono ?_;rintro e w1 ⟨rfl, rfl⟩
 go_simp
 refine hK _ _ HS0 ?_; clear hK K;refine J02 rfl (by kernel_rfl) (fun K hK => ?_); go_simp;refine (c3 _).mono ?_;rintro e w1 ⟨rfl, rfl⟩
 go_simp
 refine hK _ _ HS0 ?_; clear hK K
 (refine J00 rfl (by kernel_rfl) (fun K hK => ?_); go_simp; refine hK _ _ ?_; clear hK K)
 refine J04 ?_;go_wp2_with (fail)
 refine J03 (S := S) [(0, true), (2, true), (3, true), (1, false), (4, true), (5, true), (6, true), (7, true), (8, true), (9, false)] (by kernel_rfl) (by kernel_rfl) (by kernel_rfl) HS1 ?_
 iterate 3 (refine J00 rfl (by kernel_rfl) (fun K hK => ?_); go_simp; refine hK _ _ ?_; clear hK K)
 refine J02 rfl (by kernel_rfl) (fun K hK => ?_); go_simp;refine (c4 _).mono ?_;rintro e w1 ⟨rfl, rfl⟩
 go_simp
 refine hK _ _ HS1 ?_; clear hK K
 (refine J00 rfl (by kernel_rfl) (fun K hK => ?_); go_simp; refine hK _ _ ?_; clear hK K)
 iterate 2 (refine J27 rfl HS1 (by kernel_rfl) (by kernel_rfl) ?_)
 refine J0q rfl rfl (by kernel_rfl) rfl (fun K hK => ?_); go_simp; refine hK _ _ ?_; clear hK K
 (refine J00 rfl (by kernel_rfl) (fun K hK => ?_); go_simp; refine hK _ _ ?_; clear hK K)
 rw [HW.out];refine J02 rfl (by kernel_rfl) (fun K hK => ?_); go_simp;refine hK _ _ ((HS.out _).2 (by constructor <;> go_simp)) ?_; clear hK K;refine J04 ?_;clear HS1 k0 k1 k2 k3 hne HS0;go_wp2;exact bodyPost_ret (by simp [results, Tryz.results100, go_sem]) rfl ⟨rfl, ((((More.refl _).alloc _ _).alloc _ _).alloc _ _).drew.drew⟩

theorem Jia (op a b x y z r : Int) (sb : Bool)
  (c1 : ∀ w : World, Calls Tryz.prog 110 #[V a] w fun e w' => e = .returned (V x) /\ w' = w)
  (c2 : ∀ w : World, Calls Tryz.prog 110 #[V b] w fun e w' => e = .returned (V y) /\ w' = w)
  (c3 : ∀ w : World, Calls Tryz.prog 112 #[V op, V x, V y] w fun e w' => e = .returned (V z) /\ w' = w)
  (c4 : ∀ w : World, Calls Tryz.prog 110 #[V z] w fun e w' => e = .returned (V r) /\ w' = w) (w : World) :
  Calls Tryz.prog 100 #[V op, kn a false, kn b sb] w fun e w' => e = .returned (kn r sb) /\ More w w' := by
 unfold kn;obtain ⟨S, HS⟩ : ∃ S : World -> Prop, Hid (∀ w', S w' ↔ Two w.heap.size a false b sb w') := ⟨_, fun _ => Iff.rfl⟩;have k0 : ∀ i : { w' // S w' }, i.val.cell? ⟨w.heap.size, 0, none⟩ = some (V a) := fun i => ((HS.out _).1 i.property).a0
 have k1 : ∀ i : { w' // S w' }, i.val.cell? ⟨w.heap.size, 1, none⟩ = some (.bool false) := fun i => ((HS.out _).1 i.property).a1
 have k2 : ∀ i : { w' // S w' }, i.val.cell? ⟨w.heap.size + 1, 0, none⟩ = some (V b) := fun i => ((HS.out _).1 i.property).b0
 have k3 : ∀ i : { w' // S w' }, i.val.cell? ⟨w.heap.size + 1, 1, none⟩ = some (.bool sb) := fun i => ((HS.out _).1 i.property).b1
 obtain ⟨W, HW⟩ : ∃ W : World, Hid (W = ((w.alloc (.cells #[V a, .bool false] 56)).alloc (.cells #[V b, .bool sb] 56)).alloc (.cells #[V 0, .bool false] 56)) := ⟨_, rfl⟩;have HS0 : S W.drew := (HS.out _).2 (by rw [HW.out]; constructor <;> go_simp);have hne : Nonempty { w' // S w' } := ⟨⟨_, HS0⟩⟩;have HS1 : S W.drew.drew := (HS.out _).2 (by rw [HW.out]; constructor <;> go_simp);go_enter Tryz.func100, Tryz.ntmps100;go_wp2_with (fail)
 rw [<- HW.out];refine J03 (S := S) [(0, true), (1, true), (2, true), (4, true), (5, true), (3, false), (6, false), (7, false), (8, true)] (by kernel_rfl) (by kernel_rfl) (by kernel_rfl) HS0 ?_
 iterate 5 (refine J00 rfl (by kernel_rfl) (fun K hK => ?_); go_simp; refine hK _ _ ?_; clear hK K)
 refine J02 rfl (by kernel_rfl) (fun K hK => ?_); go_simp;refine (c1 _).mono ?_;rintro e w1 ⟨rfl, rfl⟩
 go_simp
 refine hK _ _ HS0 ?_; clear hK K;refine J02 rfl (by kernel_rfl) (fun K hK => ?_); go_simp;refine (c2 _).mono ?_;rintro e w1 ⟨rfl, rfl⟩
 go_simp
 refine hK _ _ HS0 ?_; clear hK K;refine J02 rfl (by kernel_rfl) (fun K hK => ?_); go_simp;refine (c3 _).mono ?_;rintro e w1 ⟨rfl, rfl⟩
 go_simp
 refine hK _ _ HS0 ?_; clear hK K
 (refine J00 rfl (by kernel_rfl) (fun K hK => ?_); go_simp; refine hK _ _ ?_; clear hK K)
 refine J04 ?_;go_wp2_with (fail)
 refine J03 (S := S) [(0, true), (2, true), (3, true), (1, false), (4, true), (5, true), (6, true), (7, true), (8, true), (9, false)] (by kernel_rfl) (by kernel_rfl) (by kernel_rfl) HS1 ?_
 iterate 3 (refine J00 rfl (by kernel_rfl) (fun K hK => ?_); go_simp; refine hK _ _ ?_; clear hK K)
 refine J02 rfl (by kernel_rfl) (fun K hK => ?_); go_simp;refine (c4 _).mono ?_;rintro e w1 ⟨rfl, rfl⟩
 go_simp
 refine hK _ _ HS1 ?_; clear hK K
 (refine J00 rfl (by kernel_rfl) (fun K hK => ?_); go_simp; refine hK _ _ ?_; clear hK K)
 iterate 2 (refine J00 rfl (by kernel_rfl) (fun K hK => ?_); go_simp; refine hK _ _ ?_; clear hK K)
 refine J0n rfl rfl (by kernel_rfl) rfl (fun K hK => ?_); go_simp; refine hK _ _ ?_; clear hK K
 (refine J00 rfl (by kernel_rfl) (fun K hK => ?_); go_simp; refine hK _ _ ?_; clear hK K)
 rw [HW.out];refine J02 rfl (by kernel_rfl) (fun K hK => ?_); go_simp;refine hK _ _ ((HS.out _).2 (by constructor <;> go_simp)) ?_; clear hK K;refine J04 ?_;clear HS1 k0 k1 k2 k3 hne HS0;go_wp2;exact bodyPost_ret (by simp [results, Tryz.results100, go_sem]) rfl ⟨rfl, ((((More.refl _).alloc _ _).alloc _ _).alloc _ _).drew.drew⟩

theorem J4g (op a b : Int) (sa sb : Bool) (w : World) :
  Calls Tryz.prog 100 #[V op, kn a sa, kn b sb] w fun e w' => e = .returned (kn (opB op (bnd a) (bnd b)) (sa || sb)) /\ More w w' := by
 have ra := J0j a;have rb := J0j b;rw [<- Jla op ra.1 ra.2 rb.1 rb.2];cases sa with
 | true => exact Jlb op a b _ _ _ _ sb (J0o a) (J0o b) (fun w => J5o op _ _ ra.1 ra.2 rb.1 rb.2 w) (J0o _) w
 | false => exact Jia op a b _ _ _ _ sb (J0o a) (J0o b) (fun w => J5o op _ _ ra.1 ra.2 rb.1 rb.2 w) (J0o _) w

theorem J6o (n : Int) (w : World) :
  Calls Tryz.prog 97 #[V n] w fun e w' => e = .returned (kn (fitI n) false) /\ More w w' := by
 obtain ⟨x, hx⟩ : ∃ x, fitI n = x := ⟨_, rfl⟩;have c1 : ∀ w : World, Calls Tryz.prog 111 #[V n] w fun e w' => e = .returned (V x) /\ w' = w := fun w => hx ▸ J8g n w
 rw [hx];clear hx;unfold kn;go_enter Tryz.func97, Tryz.ntmps97;go_wp2_with (fail)
 refine (c1 _).mono ?_;rintro e w1 ⟨rfl, rfl⟩;go_wp2;exact bodyPost_ret (by simp [results, Tryz.results97, go_sem]) rfl ⟨rfl, (More.refl _).alloc _ _⟩
end
section
open Go.RowKit
set_option linter.unusedVariables false
def KRow (w : World) (g : Nat) (s : KS) : Prop :=
 ∀ j, j < 8 -> (w.cell? ⟨g, j * 2, none⟩ = some (V (s j).b) /\ w.cell? ⟨g, j * 2 + 1, none⟩ = some (.bool (s j).s)) /\ w.frozen? ⟨g, j * 2, none⟩ = false /\ w.frozen? ⟨g, j * 2 + 1, none⟩ = false

theorem KRow.lt {w : World} {g : Nat} {s : KS} (h : KRow w g s) : g < w.heap.size := J06 (h 0 (by omega)).1.1
theorem KRow.more {w w' : World} {g : Nat} {s : KS} (m : More w w') (h : KRow w g s) : KRow w' g s := fun j hj => by
 have hb := m.block g h.lt;have hf : ∀ o, w'.frozen? ⟨g, o, none⟩ = w.frozen? ⟨g, o, none⟩ := fun o => World.frozen?_of_block hb
 exact ⟨⟨m.cell (h j hj).1.1, m.cell (h j hj).1.2⟩, by rw [hf]; exact (h j hj).2.1, by rw [hf]; exact (h j hj).2.2⟩
theorem KRow.congr {w : World} {g : Nat} {s t : KS} (h : KRow w g s) (e : ∀ j, j < 8 -> s j = t j) : KRow w g t := fun j hj => by rw [<- e j hj]; exact h j hj
theorem KRow.set {w : World} {g : Nat} {s : KS} (h : KRow w g s) (a : Int) (v : Kn) (ha : a.toNat < 8) :
  KRow ((w.setCell ⟨g, a.toNat * 2, none⟩ (V v.b)).setCell ⟨g, a.toNat * 2 + 1, none⟩ (.bool v.s)) g (setK s a v) := fun j hj => by
 have hj' := h j hj;have haa := h _ ha;refine ⟨?_, by rw [World.frozen?_setCell, World.frozen?_setCell]; exact hj'.2.1, by rw [World.frozen?_setCell, World.frozen?_setCell]; exact hj'.2.2⟩;unfold setK;by_cases e : j = a.toNat
 ·subst e
  rw [if_pos rfl];refine ⟨?_, ?_⟩
  ·rw [World.cell?_setCell_other _ _ _ _ (by simp)]
   exact World.cell?_setCell_same _ _ _ haa.1.1
  ·have q : (w.setCell ⟨g, a.toNat * 2, none⟩ (V v.b)).cell? ⟨g, a.toNat * 2 + 1, none⟩ = some (.bool (s a.toNat).s) := by
    rw [World.cell?_setCell_other _ _ _ _ (by simp)]; exact haa.1.2
   exact World.cell?_setCell_same _ _ _ q
 ·rw [if_neg e]
  refine ⟨?_, ?_⟩
  ·rw [World.cell?_setCell_other _ _ _ _ (by intro e'; simp only [Addr.mk.injEq] at e'; omega), World.cell?_setCell_other _ _ _ _ (by intro e'; simp only [Addr.mk.injEq] at e'; omega)]; exact hj'.1.1
  ·rw [World.cell?_setCell_other _ _ _ _ (by intro e'; simp only [Addr.mk.injEq] at e'; omega), World.cell?_setCell_other _ _ _ _ (by intro e'; simp only [Addr.mk.injEq] at e'; omega)]; exact hj'.1.2
theorem KRow.other {w : World} {g : Nat} {s : KS} (h : KRow w g s) {b : Nat} (hb : b ≠ g) (o : Nat) (v : Value) : KRow (w.setCell ⟨b, o, none⟩ v) g s := fun j hj =>
 ⟨⟨by rw [World.cell?_setCell_other _ _ _ _ (by intro e; simp only [Addr.mk.injEq] at e; omega)]; exact (h j hj).1.1, by rw [World.cell?_setCell_other _ _ _ _ (by intro e; simp only [Addr.mk.injEq] at e; omega)]; exact (h j hj).1.2⟩,
  by rw [World.frozen?_setCell]; exact (h j hj).2.1, by rw [World.frozen?_setCell]; exact (h j hj).2.2⟩

def flatK (s : KS) : Nat -> List Value
 | 0 => []
 | n + 1 => flatK s n ++ [V (s n).b, .bool (s n).s]
theorem J0v (s : KS) : ∀ n, (flatK s n).length = n * 2
 | 0 => rfl
 | n + 1 => by rw [flatK, List.length_append, J0v s n]; simp; omega
theorem J45 (s : KS) : ∀ n j, j < n -> (flatK s n)[j * 2]? = some (V (s j).b) /\ (flatK s n)[j * 2 + 1]? = some (.bool (s j).s)
 | 0, j, h => absurd h (Nat.not_lt_zero _)
 | n + 1, j, h => by
  rw [flatK];by_cases e : j = n
  ·subst e
   rw [List.getElem?_append_right (by rw [J0v]; omega), List.getElem?_append_right (by rw [J0v]; omega), J0v]
   simp
  ·rw [List.getElem?_append_left (by rw [J0v]; omega), List.getElem?_append_left (by rw [J0v]; omega)]
   exact J45 s n j (by omega)
theorem J4v (s : KS) : ∀ n, ∀ u ∈ flatK s n, u.oneCell' = true
 | 0, u, h => by simp [flatK] at h
 | n + 1, u, h => by
  rw [flatK, List.mem_append] at h;rcases h with h | h
  ·exact J4v s n u h
  ·simp at h; rcases h with rfl | rfl <;> rfl
theorem Jh6 {w : World} {g : Nat} {s : KS} (h : KRow w g s) : ∀ j u, (flatK s 8)[j]? = some u -> w.cell? ((⟨g, 0, none⟩ : Addr).add j) = some u := by
 intro j u hu;have hj : j < 16 := by have := (List.getElem?_eq_some_iff.1 hu).1; rw [J0v] at this; omega
 rw [Go.WideShapes.add_plain, Nat.zero_add];have hk := h (j / 2) (by omega);have hf := J45 s 8 (j / 2) (by omega);by_cases e : j % 2 = 0
 ·have e2 : j / 2 * 2 = j := by omega
  rw [e2] at hk hf;rw [hf.1] at hu; rw [<- Option.some.inj hu]; exact hk.1.1
 ·have e2 : j / 2 * 2 + 1 = j := by omega
  rw [e2] at hk hf;rw [hf.2] at hu; rw [<- Option.some.inj hu]; exact hk.1.2
theorem Jb8 {w : World} {lo g c : Nat} {e : TypeId} {s : KS} (h : w.ownsRow lo e 2 (.slice (some ⟨g, 0, none⟩) 8 c) 8 (flatK s 8)) : KRow w g s := fun j hj => by
 have hf := J45 s 8 j hj;exact ⟨⟨by rw [World.ownsRow.cellAt h (j * 2) (by omega)]; exact hf.1, by rw [World.ownsRow.cellAt h (j * 2 + 1) (by omega)]; exact hf.2⟩, World.ownsRow.frozenAt h _, World.ownsRow.frozenAt h _⟩
end
section
open Go.RowKit
set_option linter.unusedSimpArgs false
set_option linter.unusedVariables false
def kv (s : KS) : Array Value := (flatK s 8).toArray
theorem J0e (s : KS) : (kv s).size = 16 := by simp [kv, J0v]
theorem kv_at (s : KS) (j : Nat) (h : j < 8) : (kv s)[j * 2]? = some (V (s j).b) /\ (kv s)[j * 2 + 1]? = some (.bool (s j).s) := by
 simpa [kv] using J45 s 8 j h
theorem J2n (s : KS) : (kv s).all (·.oneCell') = true := by
 unfold kv;rw [List.all_toArray, List.all_eq_true];exact J4v s 8
theorem Jmk {s t : KS} : (∀ j, j < 8 -> s j = t j) -> kv s = kv t := by
 intro h
 have : ∀ n, n <= 8 -> flatK s n = flatK t n := by
  intro n
  induction n with
  | zero => intro _; rfl
  | succ n ih => intro hn; rw [flatK, flatK, ih (by omega), h n (by omega)]
 unfold kv;rw [this 8 (Nat.le_refl _)]
theorem kv_is {c : Array Value} {s : KS} (hs : c.size = 16) (h : ∀ j, j < 8 -> c[j * 2]? = some (V (s j).b) /\ c[j * 2 + 1]? = some (.bool (s j).s)) : c = kv s := by
 apply Array.ext_getElem?;intro j;by_cases e : j < 16
 ·have h1 := h (j / 2) (by omega)
  have h2 := kv_at s (j / 2) (by omega);by_cases e2 : j % 2 = 0
  ·have e3 : j / 2 * 2 = j := by omega
   rw [e3] at h1 h2;rw [h1.1, h2.1]
  ·have e3 : j / 2 * 2 + 1 = j := by omega
   rw [e3] at h1 h2;rw [h1.2, h2.2]
 ·rw [Array.getElem?_eq_none (by omega), Array.getElem?_eq_none (by rw [J0e]; omega)]
theorem Jml (s : KS) (a : Int) (b : Int) (t : Bool) (ha : a.toNat < 8) : ((kv s).setIfInBounds (a.toNat * 2) (V b)).setIfInBounds (a.toNat * 2 + 1) (.bool t) = kv (setK s a ⟨b, t⟩) := by
 refine kv_is (by simp [J0e]) (fun j hj => ?_);have hk := kv_at s j hj;have hz := J0e s;unfold setK;by_cases e : j = a.toNat
 ·subst e
  rw [if_pos rfl];refine ⟨?_, ?_⟩
  ·rw [Array.getElem?_setIfInBounds_ne (by omega), Array.getElem?_setIfInBounds_self_of_lt (by omega)]
  ·rw [Array.getElem?_setIfInBounds_self_of_lt (by simp; omega)]
 ·rw [if_neg e]
  refine ⟨?_, ?_⟩
  ·rw [Array.getElem?_setIfInBounds_ne (by omega), Array.getElem?_setIfInBounds_ne (by omega)]; exact hk.1
  ·rw [Array.getElem?_setIfInBounds_ne (by omega), Array.getElem?_setIfInBounds_ne (by omega)]; exact hk.2

theorem Blk.set {w : World} {n : Nat} {c : Array Value} {T : TypeId} (h : Blk w n c T) (o : Nat) (v : Value) : Blk (w.setCell ⟨n, o, none⟩ v) n (c.setIfInBounds o v) T := by
 unfold Blk at *;rw [setCell_eq_setRow w n o c T (0, 0) v h];exact setRow_heap w n c _ T _ h
theorem Blk.setK {w : World} {n : Nat} {s : KS} {T : TypeId} (h : Blk w n (kv s) T) (a b : Int) (t : Bool) (ha : a.toNat < 8) :
  Blk ((w.setCell ⟨n, a.toNat * 2, none⟩ (V b)).setCell ⟨n, a.toNat * 2 + 1, none⟩ (.bool t)) n (kv (setK s a ⟨b, t⟩)) T := by
 rw [<- Jml s a b t ha];exact (h.set _ _).set _ _
theorem Blk.ne {w : World} {n m : Nat} {c d : Array Value} {T U : TypeId} (h : Blk w n c T) (k : Blk w m d U) (hne : T ≠ U) : n ≠ m := by
 rintro rfl;unfold Blk at h k;rw [h] at k;simp only [Option.some.injEq, Obj.cells.injEq] at k;exact hne k.2.1

theorem J51 {P : Program} (w : World) (g o : Nat) (ty : TypeId) (cs : Array Value) (d : TypeDesc) (hc : ∀ j v, cs[j]? = some v -> w.cell? ⟨g, o + j, none⟩ = some v)
  (hu : P.underlying ty = some d) (hd : (match d with | .struct _ | .array _ _ => true | _ => false) = true) (hi : (P.info? ty).map (·.size) = some cs.size) :
  (loadVar ty ⟨g, o, none⟩).run P w = .ok (.agg cs) w := by
 have hl : (loadCells ⟨g, o, none⟩ cs.size).run P w = .ok cs w := by
  have := run_loadCells_list (P := P) w ⟨g, o, none⟩ cs.toList (fun j v hv => by rw [Go.WideShapes.add_plain]; exact hc j v (by simpa using hv));simpa using this
 cases hq : P.info? ty with
 | none => simp [hq] at hi
 | some i =>
  have hs : i.size = cs.size := by simpa [hq] using hi
  have hagg : (isAgg ty).run P w = .ok true w := by
   unfold isAgg;rw [Sem.run_bind, run_underlying hu w];cases d <;> simp_all
  simp [loadVar, Sem.run_bind, hagg, sizeOf, typeInfo, hq, hs, hl]

theorem J12 {P : Program} {o : Oper} {a : Act} {w : World} (ty : TypeId) (x : Operand) (ho : o.op = .load ty x)
  (g k : Nat) (hx : a.eval x = .pointer (some ⟨g, k, none⟩)) (cs : Array Value) (d : TypeDesc) (hc : ∀ j v, cs[j]? = some v -> w.cell? ⟨g, k + j, none⟩ = some v)
  (hu : P.underlying ty = some d) (hd : (match d with | .struct _ | .array _ _ => true | _ => false) = true) (hi : (P.info? ty).map (·.size) = some cs.size) :
  (execOp a.eval o).run P w = .ok (.value (.agg cs)) w := by
 unfold execOp;simp only [ho, hx, Instr.loadAt, Instr.sureAddr, Sem.run_bind, Sem.run_pure, Result.andThen_ok, J51 w g k ty cs d hc hu hd hi]

theorem Jai {P : Program} {o : Oper} {a : Act} {w : World} {K : Act -> World -> Prop} {Q : Exit -> Act -> World -> Prop} (ty : TypeId) (x : Operand) (ho : o.op = .load ty x)
  (g k : Nat) (hx : a.eval x = .pointer (some ⟨g, k, none⟩)) (cs : Array Value) (d : TypeDesc) (hc : ∀ j v, cs[j]? = some v -> w.cell? ⟨g, k + j, none⟩ = some v)
  (hu : P.underlying ty = some d) (hd : (match d with | .struct _ | .array _ _ => true | _ => false) = true) (hi : (P.info? ty).map (·.size) = some cs.size)
  (h : K (a.put o.dst (.agg cs)) w) : o.wp P a w K Q := by
 unfold Oper.wp execOp;simp only [ho, hx, Instr.loadAt, Instr.sureAddr, Sem.run_bind, Sem.run_pure, Result.andThen_ok, J51 w g k ty cs d hc hu hd hi];exact h
theorem J3p {P : Program} {ops : Array Oper} {rest : List Oper} {o : Oper} {a : Act} {w : World} {Q : Exit -> Act -> World -> Prop} (hgd : o.guard = none) (ty : TypeId) (x : Operand) (ho : o.op = .load ty x)
  (g k : Nat) (hx : a.eval x = .pointer (some ⟨g, k, none⟩)) (cs : Array Value) (d : TypeDesc) (hc : ∀ j v, cs[j]? = some v -> w.cell? ⟨g, k + j, none⟩ = some v)
  (hu : P.underlying ty = some d) (hd : (match d with | .struct _ | .array _ _ => true | _ => false) = true) (hi : (P.info? ty).map (·.size) = some cs.size)
  (h : wpList P ops Q rest (a.put o.dst (.agg cs)) w) : wpList P ops Q (o :: rest) a w :=
 wpList_plain hgd fun _ hK => Jai ty x ho g k hx cs d hc hu hd hi (hK _ _ h)

theorem J7o {P : Program} (w : World) (g o : Nat) (ty : TypeId) (cs : Array Value) (hi : (P.info? ty).map (·.size) = some cs.size) (hc : ∀ j, j < cs.size -> (w.cell? ⟨g, o + j, none⟩).isSome = true /\ w.frozen? ⟨g, o + j, none⟩ = false) (h1 : cs.all (·.oneCell') = true) :
  (storeVar ty ⟨g, o, none⟩ (.agg cs)).run P w = .ok () (w.setCells g o cs.toList) := by
 have hst := run_storeCells_cells (P := P) g o cs.toList 0 w (fun j hj => (hc j (by simpa using hj)).1) (fun j hj => (hc j (by simpa using hj)).2) (fun v hv => by
  obtain ⟨i, hi', rfl⟩ := List.getElem_of_mem hv;have := Array.all_eq_true.1 h1 i (by simpa using hi');simpa using this)
 cases hq : P.info? ty with
 | none => simp [hq] at hi
 | some i =>
  have hs : cs.size = i.size := by simp [hq] at hi; omega
  simp [storeVar, sizeOf, typeInfo, hq, Value.cells, hs];simpa using hst
theorem J94 {P : Program} {o : Oper} {a : Act} {w : World} {K : Act -> World -> Prop} {Q : Exit -> Act -> World -> Prop} (ty : TypeId) (x y : Operand) (ho : o.op = .store ty x y)
  (g k : Nat) (cs : Array Value) (hx : a.eval x = .pointer (some ⟨g, k, none⟩)) (hy : a.eval y = .agg cs) (hi : (P.info? ty).map (·.size) = some cs.size) (hc : ∀ j, j < cs.size -> (w.cell? ⟨g, k + j, none⟩).isSome = true /\ w.frozen? ⟨g, k + j, none⟩ = false) (h1 : cs.all (·.oneCell') = true)
  (h : K (a.put o.dst undef) (w.setCells g k cs.toList)) : o.wp P a w K Q := by
 unfold Oper.wp execOp;simp only [ho, hx, hy, Instr.storeAt, Instr.sureAddr, Sem.run_bind, Sem.run_pure, Result.andThen_ok, J7o w g k ty cs hi hc h1];exact h
theorem J3c {P : Program} {ops : Array Oper} {rest : List Oper} {o : Oper} {a : Act} {w : World} {Q : Exit -> Act -> World -> Prop} (hgd : o.guard = none) (ty : TypeId) (x y : Operand) (ho : o.op = .store ty x y)
  (g k : Nat) (cs : Array Value) (hx : a.eval x = .pointer (some ⟨g, k, none⟩)) (hy : a.eval y = .agg cs) (hi : (P.info? ty).map (·.size) = some cs.size) (hc : ∀ j, j < cs.size -> (w.cell? ⟨g, k + j, none⟩).isSome = true /\ w.frozen? ⟨g, k + j, none⟩ = false) (h1 : cs.all (·.oneCell') = true)
  (h : wpList P ops Q rest (a.put o.dst undef) (w.setCells g k cs.toList)) : wpList P ops Q (o :: rest) a w :=
 wpList_plain hgd fun _ hK => J94 ty x y ho g k cs hx hy hi hc h1 (hK _ _ h)

theorem J2y (M : Nat) : ∀ (vs : List Value) (o : Nat) (w : World), w.grownBy (w.setCells M o vs) (some M)
 | [], o, w => ⟨rfl, rfl, rfl, Nat.le_refl _, fun _ _ _ => rfl⟩
 | v :: vs, o, w => J1z (J1d w M o v) (J2y M vs (o + 1) _)

def pv (o : Option KS) : Array Value := (kv (o.getD zeroK)).push (.bool o.isSome)
theorem J30 (o : Option KS) : (pv o).size = 17 := by simp [pv, J0e]
theorem Jfj (o : Option KS) : (pv o).all (·.oneCell') = true := by
 unfold pv;rw [Array.all_push, J2n]
 rfl
theorem Jfi (o : Option KS) : (pv o)[16]? = some (.bool o.isSome) := by
 unfold pv;rw [Array.getElem?_push, if_pos (by rw [J0e])]
theorem pv_kv (s : KS) (j : Nat) (v : Value) (h : (kv s)[j]? = some v) : (pv (some s))[j]? = some v := by
 have hj : j < 16 := by have := (Array.getElem?_eq_some_iff.1 h).1; rwa [J0e] at this
 unfold pv;rw [Array.getElem?_push, if_neg (by rw [J0e]; omega)];exact h

def PlS (w : World) (B cl : Nat) (l : KV) : Prop := ∃ c, Blk w B c 120 /\ c.size = cl * 17 /\ ∀ k j, k < cl -> j < 17 -> c[k * 17 + j]? = (pv (l k))[j]?

theorem PlS.block {w w' : World} {B cl : Nat} {l : KV} (h : PlS w B cl l) (e : w'.heap[B]? = w.heap[B]?) : PlS w' B cl l := by
 obtain ⟨c, h1, h2, h3⟩ := h;exact ⟨c, e.trans h1, h2, h3⟩
theorem PlS.cells {w : World} {B cl : Nat} {l : KV} (h : PlS w B cl l) {k : Nat} (hk : k < cl) : ∀ j v, (pv (l k))[j]? = some v -> w.cell? ⟨B, k * 17 + j, none⟩ = some v := by
 intro j v hv;obtain ⟨c, h1, h2, h3⟩ := h;have hj : j < 17 := by have := (Array.getElem?_eq_some_iff.1 hv).1; rwa [J30] at this
 exact h1.cell ((h3 k j hk hj).trans hv)
theorem PlS.regs {w : World} {B cl : Nat} {l : KV} (h : PlS w B cl l) {k : Nat} (hk : k < cl) {s : KS} (e : l k = some s) : ∀ j v, (kv s)[j]? = some v -> w.cell? ⟨B, k * 17 + j, none⟩ = some v := by
 intro j v hv;refine h.cells hk j v ?_;rw [e];exact pv_kv s j v hv
theorem PlS.reached {w : World} {B cl : Nat} {l : KV} (h : PlS w B cl l) {k : Nat} (hk : k < cl) : w.cell? ⟨B, k * 17 + 16, none⟩ = some (.bool (l k).isSome) := h.cells hk 16 _ (Jfi _)
theorem PlS.free {w : World} {B cl : Nat} {l : KV} (h : PlS w B cl l) {k : Nat} (hk : k < cl) : ∀ j, j < 17 -> (w.cell? ⟨B, k * 17 + j, none⟩).isSome = true /\ w.frozen? ⟨B, k * 17 + j, none⟩ = false := by
 intro j hj;obtain ⟨c, h1, h2, h3⟩ := h;refine ⟨?_, h1.frozen _⟩;have hs : j < (pv (l k)).size := by rw [J30]; exact hj
 rw [h1.cell ((h3 k j hk hj).trans (Array.getElem?_eq_getElem hs))]
 rfl
theorem PlS.put {w : World} {B cl : Nat} {l : KV} (h : PlS w B cl l) {k : Nat} (hk : k < cl) (s : KS) : PlS (w.setCells B (k * 17) (pv (some s)).toList) B cl (putV l k s) := by
 obtain ⟨c, h1, h2, h3⟩ := h;obtain ⟨c', k1, k2, k3⟩ := J3z (T := 120) (pv (some s)).toList (k * 17) c w h1 (by rw [Array.length_toList, J30, h2]; omega);refine ⟨c', k1, k2.trans h2, fun m j hm hj => ?_⟩;rw [k3, Array.length_toList, J30];by_cases e : m = k
 ·subst e
  rw [if_pos (by omega), J18]
  simp
 ·rw [J15 _ e, if_neg (by omega)]
  exact h3 m j hm hj
theorem PlS.lt {w : World} {B cl : Nat} {l : KV} (h : PlS w B cl l) : B < w.heap.size := by
 obtain ⟨c, h1, _⟩ := h;exact h1.lt

structure Ck (w0 : World) (p : Prg) (lo : Loc) (M B : Nat) (l : KV) (td : List Nat) (tv : Value) (w : World) : Prop where
 box : Blk w M #[.slice lo.ra p.rl lo.rc, .slice lo.ca p.cl lo.cc, .slice (some ⟨B, 0, none⟩) p.cl p.cl, tv] 82
 own : w.ownsRow w0.heap.size 3 1 tv td.length (td.map fun (k : Nat) => Value.int .i64 (k : Int))
 pl : PlS w B p.cl l
 up : More w0 w
 pin : PIn w0 p lo
 lo : w0.heap.size <= M /\ w0.heap.size <= B

def Keeps (w w' : World) : Prop := ∀ n c T, T ≠ 82 -> T ≠ 120 -> T ≠ 3 -> Blk w n c T -> Blk w' n c T
theorem Keeps.trans {a b c : World} (h : Keeps a b) (k : Keeps b c) : Keeps a c := fun n d T h1 h2 h3 q => k n d T h1 h2 h3 (h n d T h1 h2 h3 q)
theorem Keeps.of {w w' : World} (m : More w w') : Keeps w w' := fun n c T _ _ _ q => q.more m

section
variable {w0 : World} {p : Prg} {lo : Loc} {M B : Nat} {l : KV} {td : List Nat} {tv : Value} {w : World}
theorem Ck.pinw (h : Ck w0 p lo M B l td tv w) : PIn w p lo := h.pin.more h.up
theorem Ck.plB (h : Ck w0 p lo M B l td tv w) : ∃ c, Blk w B c 120 := by obtain ⟨c, h1, _⟩ := h.pl; exact ⟨c, h1⟩
theorem Ck.ne (h : Ck w0 p lo M B l td tv w) : M ≠ B := by obtain ⟨c, h1⟩ := h.plB; exact h.box.ne h1 (by decide)
theorem Ck.tne (h : Ck w0 p lo M B l td tv w) {n : Nat} {c : Array Value} {T : TypeId} (hb : Blk w n c T) (hT : T ≠ 3) : tv.ownBlock ≠ some n := by
 intro e;rcases h.own.2 with ⟨rfl, _⟩ | ⟨g, cap, cur, rfl, _, hg, _⟩
 ·simp [Value.ownBlock] at e
 ·simp [Value.ownBlock] at e
  subst e;unfold Blk at hb;rw [hb] at hg;simp only [Option.some.injEq, Obj.cells.injEq] at hg;exact hT hg.2.1
theorem Ck.more (h : Ck w0 p lo M B l td tv w) {w' : World} (m : More w w') : Ck w0 p lo M B l td tv w' :=
 ⟨h.box.more m, h.own.kept (m.grow none) (by cases tv.ownBlock <;> simp), h.pl.block (m.block _ h.pl.lt), h.up.trans m, h.pin, h.lo⟩
theorem Ck.put (h : Ck w0 p lo M B l td tv w) {k : Nat} (hk : k < p.cl) (s : KS) : Ck w0 p lo M B (putV l k s) td tv (w.setCells B (k * 17) (pv (some s)).toList) := by
 obtain ⟨c, hB⟩ := h.plB;have g := J2y B (pv (some s)).toList (k * 17) w;refine ⟨(g.block M h.box.lt (fun e => h.ne (Option.some.inj e))).trans h.box, h.own.kept g (.inr (h.tne hB (by decide))), h.pl.put hk s, h.up.grownBy g (fun b hb => by have := Option.some.inj hb; have := h.lo.2; omega), h.pin, h.lo⟩
theorem Ck.put_keeps (h : Ck w0 p lo M B l td tv w) {k : Nat} (s : KS) : Keeps w (w.setCells B (k * 17) (pv (some s)).toList) := by
 intro n c T h1 h2 h3 q;obtain ⟨d, hB⟩ := h.plB;have g := J2y B (pv (some s)).toList (k * 17) w;exact (g.block n q.lt (fun e => q.ne hB h2 (Option.some.inj e))).trans q
theorem Ck.set (h : Ck w0 p lo M B l td tv w) {td' : List Nat} {tv' : Value} {w' : World} (g : w.grownBy w' tv.ownBlock) (ho : w'.ownsRow w0.heap.size 3 1 tv' td'.length (td'.map fun (k : Nat) => Value.int .i64 (k : Int))) :
  Ck w0 p lo M B l td' tv' (w'.setCell ⟨M, 3, none⟩ tv') := by
 obtain ⟨c, hB⟩ := h.plB;have hb : Blk w' M #[.slice lo.ra p.rl lo.rc, .slice lo.ca p.cl lo.cc, .slice (some ⟨B, 0, none⟩) p.cl p.cl, tv] 82 := (g.block M h.box.lt (fun e => h.tne h.box (by decide) e.symm)).trans h.box;have hb' := hb.set 3 tv';have hpl : PlS w' B p.cl l := h.pl.block (g.block B h.pl.lt (fun e => h.tne hB (by decide) e.symm));have hup : More w0 w' := h.up.grownBy g (fun b hb => (h.own.lt b hb).1)
 have hM : tv'.ownBlock ≠ some M := by
  intro e;rcases ho.2 with ⟨rfl, _⟩ | ⟨g', cap, cur, rfl, _, hg, _⟩
  ·simp [Value.ownBlock] at e
  ·simp [Value.ownBlock] at e
   subst e;unfold Blk at hb;rw [hb] at hg;simp only [Option.some.injEq, Obj.cells.injEq] at hg;exact absurd hg.2.1 (by decide)
 refine ⟨hb', ho.kept (J1d w' M 3 tv') (.inr hM), hpl.block (Below.heap_setCell _ _ _ _ (fun e => h.ne e.symm)), hup.setCell h.lo.1 _, h.pin, h.lo⟩
theorem Ck.set_keeps (h : Ck w0 p lo M B l td tv w) {tv' : Value} {w' : World} (g : w.grownBy w' tv.ownBlock) : Keeps w (w'.setCell ⟨M, 3, none⟩ tv') := by
 intro n c T h1 h2 h3 q;have q' : Blk w' n c T := (g.block n q.lt (fun e => h.tne q h3 e.symm)).trans q;exact q'.other (fun e => by subst e; exact q.ne h.box h1 rfl) _ _
end
theorem Jmu (a n xb rb : Int) (sa xs rs : Bool)
  (c1 : ∀ w : World, Calls Tryz.prog 97 #[V n] w fun e w' => e = .returned (.agg #[V xb, .bool xs]) /\ More w w')
  (c2 : ∀ w : World, Calls Tryz.prog 100 #[V 1, .agg #[V a, .bool sa], .agg #[V xb, .bool xs]] w fun e w' => e = .returned (.agg #[V rb, .bool rs]) /\ More w w') (w : World) :
  Calls Tryz.prog 98 #[.agg #[V a, .bool sa], V n] w fun e w' => e = .returned (.agg #[V rb, .bool rs]) /\ More w w' := by
 obtain ⟨S, HS⟩ : ∃ S : World -> Prop, Hid (∀ w', S w' ↔ (Blk w' w.heap.size #[V a, .bool sa] 56)) := ⟨_, fun _ => Iff.rfl⟩;have k0 : ∀ i : { w' // S w' }, i.val.cell? ⟨w.heap.size, 0, none⟩ = some (V a) := fun i => ((HS.out _).1 i.property).cell rfl
 have k1 : ∀ i : { w' // S w' }, i.val.cell? ⟨w.heap.size, 1, none⟩ = some (.bool sa) := fun i => ((HS.out _).1 i.property).cell rfl
 obtain ⟨W, HW⟩ : ∃ W : World, Hid (W = (w.alloc (.cells #[V a, .bool sa] 56)).alloc (.cells #[V 0, .bool false] 56)) := ⟨_, rfl⟩
 have HB : Hid (Blk W w.heap.size #[V a, .bool sa] 56 /\ Blk W (w.heap.size + 1) #[V 0, .bool false] 56 /\ More w W) := by
  rw [HW.out];exact ⟨(Blk.last _ _ _).alloc _ _, (by simpa using Blk.last (w.alloc (.cells #[V a, .bool sa] 56)) #[V 0, .bool false] 56), ((More.refl _).alloc _ _).alloc _ _⟩
 have HS0 : S W.drew := (HS.out _).2 HB.out.1;have hne : Nonempty { w' // S w' } := ⟨⟨_, HS0⟩⟩;go_enter Tryz.func98, Tryz.ntmps98;go_wp2_with (fail)
 rw [<- HW.out];refine J03 (S := S) [(0, true), (1, true), (2, false), (3, false), (4, false)] (by kernel_rfl) (by kernel_rfl) (by kernel_rfl) HS0 ?_
 iterate 2 (refine J00 rfl (by kernel_rfl) (fun K hK => ?_); go_simp; refine hK _ _ ?_; clear hK K)
 refine J02 rfl (by kernel_rfl) (fun K hK => ?_); go_simp;refine (c1 _).mono ?_;rintro e w1 ⟨rfl, m1⟩;have Hm1 : Hid (More W w1) := (More.refl _).drew.trans m1;have HS1 : S w1 := (HS.out _).2 (HB.out.1.more Hm1.out);clear m1
 go_simp
 refine hK _ _ HS1 ?_; clear hK K;refine J02 rfl (by kernel_rfl) (fun K hK => ?_); go_simp;refine (c2 _).mono ?_;rintro e w2 ⟨rfl, m2⟩;have Hm2 : Hid (More W w2) := Hm1.out.trans m2;have HS2 : S w2 := (HS.out _).2 (HB.out.1.more Hm2.out);clear m2
 go_simp
 refine hK _ _ HS2 ?_; clear hK K;have HR : Hid (Blk w2 (w.heap.size + 1) #[V 0, .bool false] 56) := HB.out.2.1.more Hm2.out;have t0 := HR.out.cell (j := 0) rfl;have t1 := HR.out.cell (j := 1) rfl;have u0 := HR.out.frozen 0;have u1 := HR.out.frozen 1;refine J02 rfl (by kernel_rfl) (fun K hK => ?_); go_simp;refine hK _ _ ((HS.out _).2 (((HB.out.1.more Hm2.out).other (by omega) _ _).other (by omega) _ _)) ?_; clear hK K;refine J04 ?_;clear k0 k1 hne HS0 HS1 HS2;go_wp2;refine bodyPost_ret (by simp [results, Tryz.results98, go_sem, *]) rfl ⟨rfl, ?_⟩;exact ((HB.out.2.2.trans Hm2.out).setCell (by dsimp only; omega) _).setCell (by dsimp only; omega) _

theorem sum_k (k : Kn) (n : Int) (n0 : -9223372036854775808 <= n) (w : World) :
  Calls Tryz.prog 98 #[kn k.b k.s, V n] w fun e w' => e = .returned (kn (Kn.index k n).b (Kn.index k n).s) /\ More w w' := by
 rw [Jhi k n n0];have c1 : ∀ w : World, Calls Tryz.prog 97 #[V n] w fun e w' => e = .returned (kn (Kn.of n).b (Kn.of n).s) /\ More w w' := fun w => J6o n w
 have c2 : ∀ w : World, Calls Tryz.prog 100 #[V 1, kn k.b k.s, kn (Kn.of n).b (Kn.of n).s] w fun e w' => e = .returned (kn (Kn.op 1 k (Kn.of n)).b (Kn.op 1 k (Kn.of n)).s) /\ More w w' := fun w => J4g 1 k.b (Kn.of n).b k.s (Kn.of n).s w
 obtain ⟨v, hv⟩ : ∃ v, Kn.op 1 k (Kn.of n) = v := ⟨_, rfl⟩;obtain ⟨x, hx⟩ : ∃ x, Kn.of n = x := ⟨_, rfl⟩;rw [hv] at c2 |-;rw [hx] at c1 c2;exact Jmu k.b n x.b v.b k.s x.s v.s c1 c2 w

theorem J9q (lg : Int) (sec : Bool) (w : World) :
  Calls Tryz.prog 99 #[.agg #[V lg, .bool sec]] w fun e w' => e = .returned (kn 17 sec) /\ More w w' := by
 unfold kn;go_enter Tryz.func99, Tryz.ntmps99;go_wp2;exact bodyPost_ret (by simp [results, Tryz.results99, go_sem]) rfl ⟨rfl, ((More.refl _).alloc _ _).alloc _ _⟩

def oppI (c : Int) : Int := if c = 1 then 2 else if c = 2 then 1 else if c = 3 then 4 else 3
theorem J7m (c : Int) (w : World) : Calls Tryz.prog 75 #[V c] w fun e w' => e = .returned (V (oppI c)) /\ w' = w := by
 by_cases h1 : c = 1
 ·subst h1
  go_enter Tryz.func75, Tryz.ntmps75;go_wp2;go_ret;exact ⟨rfl, rfl⟩
 by_cases h2 : c = 2
 ·subst h2
  go_enter Tryz.func75, Tryz.ntmps75;go_wp2;go_ret;exact ⟨rfl, rfl⟩
 by_cases h3 : c = 3
 ·subst h3
  go_enter Tryz.func75, Tryz.ntmps75;go_wp2;go_ret;exact ⟨rfl, rfl⟩
 ·have e1 : (c == 1) = false := by simp [h1]
  have e2 : (c == 2) = false := by simp [h2]
  have e3 : (c == 3) = false := by simp [h3]
  have ho : oppI c = 3 := by unfold oppI; rw [if_neg h1, if_neg h2, if_neg h3]
  rw [ho];clear ho;go_enter Tryz.func75, Tryz.ntmps75;go_wp2;go_ret;exact ⟨rfl, rfl⟩
end
section
open Go
section
variable {P : Program} {ops : Array Oper} {Q : Exit -> Act -> World -> Prop} {md : Region.Mode} {S : World -> Prop}

def J8a (md : Region.Mode) (ops : Array Oper) (j : Nat) : Bool :=
 match ops[j]? with
 | none => false
 | some o => (List.range ops.size).all fun i => i == j || o.after.any fun e => Region.binds md e && e.on == i

def AnyL (P : Program) (md : Region.Mode) (ops : Array Oper) (Q : Exit -> Act -> World -> Prop) (S : World -> Prop) : Nat -> Array Bool -> Act -> World -> Prop
 | 0, l, a, w => Region.ready md ops l = [] /\ Q .normal a w
 | n + 1, l, a, w => (Region.ready md ops l = [] -> Q .normal a w) /\ ∀ i ∈ Region.ready md ops l, wpOp P ops Q i (fun a' w' => (J8a md ops i = false -> S w') /\ AnyL P md ops Q S n (l.setIfInBounds i true) a' w') a w

theorem AnyL.any : ∀ (n : Nat) (l : Array Bool) (a : Act) (w : World), AnyL P md ops Q S n l a w -> wpAny P md ops Q n l a w
 | 0, _, _, _, h => h
 | n + 1, _, _, _, h => ⟨h.1, fun i hi => wpOp_mono (fun a' w' h' => AnyL.any n _ a' w' h'.2) (h.2 i hi)⟩

theorem Jj0 {i j : Nat} {l : Array Bool} (hi : i ∈ Region.ready md ops l) (hj : j ∈ Region.ready md ops l) (hne : j ≠ i) : J8a md ops j = false := by
 cases hb : J8a md ops j with
 | false => rfl
 | true =>
  exfalso
  obtain ⟨_, oj, hoj, hall⟩ := mem_ready.1 hj;obtain ⟨hun, oi, hoi, _⟩ := mem_ready.1 hi;unfold J8a at hb;rw [hoj] at hb;dsimp only at hb;rw [List.all_eq_true] at hb;have h1 := hb i (List.mem_range.2 (Array.getElem?_eq_some_iff.1 hoi).1);rw [Bool.or_eq_true] at h1;rcases h1 with h1 | h1
  ·exact hne (by simpa using h1 : i = j).symm
  ·obtain ⟨e, he, hbe⟩ := Array.any_eq_true'.1 h1
   rw [Bool.and_eq_true, beq_iff_eq] at hbe;have h2 := hall e he hbe.1;rw [hbe.2] at h2;rcases Nat.lt_or_ge i l.size with h' | h'
   ·simp [h'] at hun h2; rw [hun] at h2; cases h2
   ·simp [Array.getElem?_eq_none h'] at h2

theorem AnyL.take {i : Nat} {oi : Oper} {v : Value} (hi : ops[i]? = some oi) (hs : Region.noSelect ops = true) (hQ : ∀ c a w, Q (.panic c) (a.put oi.dst v) w -> Q (.panic c) a w) :
  ∀ (n : Nat) (l : Array Bool) (a : Act) (w : World), (∀ j oj, ops[j]? = some oj -> j ≠ i -> l.getD j true = false -> (∀ e ∈ oj.after, Region.binds md e = true -> e.on ≠ i) -> oi.apart ops oj = true) ->
   i ∈ Region.ready md ops l -> YieldsIf P ops S oi v a -> S w -> AnyL P md ops Q S n (l.setIfInBounds i true) (a.put oi.dst v) w -> AnyL P md ops Q S (n + 1) l a w
 | n, l, a, w, hf, hr, hy, hS, H => by
  refine ⟨fun h => absurd hr (by rw [h]; simp), fun j hj => ?_⟩;by_cases hji : j = i
  ·subst hji
   exact hy.wpOp hi hS ⟨fun _ => hS, H⟩
  have hjm := ready_mono hj hji;cases n with
  | zero => rw [H.1] at hjm; cases hjm
  | succ n =>
   obtain ⟨hjun, oj, hoj, hall⟩ := mem_ready.1 hj
   have hno : ∀ e ∈ oj.after, Region.binds md e = true -> e.on ≠ i := fun e he hb hei => by
    have h1 := hall e he hb;have h0 := (mem_ready.1 hr).1;rw [hei] at h1;rcases Nat.lt_or_ge i l.size with h' | h'
    ·simp [h'] at h0 h1; rw [h0] at h1; cases h1
    ·simp [Array.getElem?_eq_none h'] at h1
   have h2 := wpOp_putIf hoj (hf j oj hoj hji hjun hno) (fun cs b => Region.noSelect_spec hs i oi cs b hi) (fun cs b => Region.noSelect_spec hs j oj cs b hoj) hQ hy (H.2 j hjm);have hw := Jj0 hr hj hji;refine wpOp_mono (fun a' w' h3 => ?_) h2;have hS' := h3.2.1 hw;refine ⟨fun _ => hS', AnyL.take hi hs hQ n (l.setIfInBounds j true) a' w' (fun k ok hk hki hun hno' => hf k ok hk hki ?_ hno') (ready_mono hr (Ne.symm hji)) h3.1 hS' ?_⟩
   ·by_cases e : j = k
    ·subst e; exact hjun
    ·rw [getD_set_ne true e] at hun; exact hun
   ·rw [Array.setIfInBounds_comm _ _ hji]
    exact h3.2.2

def J5w (P : Program) (ops : Array Oper) (Q : Exit -> Act -> World -> Prop) (S : World -> Prop) : List (Nat × Bool) -> Act -> World -> Prop
 | [], a, w => Q .normal a w
 | (i, t) :: rest, a, w =>
  match ops[i]? with
  | none => False
  | some o => if t then J2x P ops S o a w (fun a' w' => J5w P ops Q S rest a' w') else J2m P ops Q o a w (fun a' w' => (J8a .any ops i = false -> S w') /\ (rest ≠ [] -> S w') /\ J5w P ops Q S rest a' w')

theorem J3d (hs : Region.noSelect ops = true) (hQ : ∀ c (a : Act) d v w, Q (.panic c) (a.put d v) w -> Q (.panic c) a w) :
  ∀ (l : List (Nat × Bool)) (listed : Array Bool) (a : Act) (w : World), ordB .any ops l listed = true -> (l ≠ [] -> S w) -> J5w P ops Q S l a w -> AnyL P .any ops Q S l.length listed a w
 | [], listed, a, w, hB, _, h => ⟨by simpa [ordB] using hB, h⟩
 | (i, t) :: rest, listed, a, w, hB, hS, h => by
  replace hS : S w := hS (by simp);simp only [ordB, Bool.and_eq_true] at hB;obtain ⟨⟨ho, hc⟩, hB'⟩ := hB;obtain ⟨o, ho⟩ := Option.isSome_iff_exists.1 ho;simp only [J5w, ho] at h;cases t with
  | true =>
   simp only [if_true, Bool.and_eq_true] at hc h;unfold J2x at h;have hr : i ∈ Region.ready .any ops listed := by simpa using hc.2
   by_cases hw : Region.wanted o (yielded ops a.tmps) = true
   ·rw [if_pos hw] at h
    obtain ⟨v, hv, hk⟩ := h;exact AnyL.take ho hs (fun c a w => hQ c a _ _ w) _ _ _ _ (Region.free_spec ho hc.1) hr (.inl ⟨hw, fun w' hw' => hv ⟨w', hw'⟩⟩) hS (J3d hs hQ rest _ _ _ hB' (fun _ => hS) hk)
   ·rw [if_neg hw] at h
    exact AnyL.take ho hs (fun c a w => hQ c a _ _ w) _ _ _ _ (Region.free_spec ho hc.1) hr (.inr ⟨by simpa using hw, rfl⟩) hS (J3d hs hQ rest _ _ _ hB' (fun _ => hS) h)
  | false =>
   simp only [Bool.false_eq_true, if_false, beq_iff_eq] at hc h;refine ⟨fun h0 => absurd (hc.symm.trans h0) (by simp), fun j hj => ?_⟩;obtain rfl : j = i := by rw [hc] at hj; simpa using hj
   unfold J2m at h;unfold wpOp;rw [ho];show if Region.wanted o (yielded ops a.tmps) = true then _ else _
   by_cases hw : Region.wanted o (yielded ops a.tmps) = true
   ·rw [if_pos hw] at h |-
    exact .inl (Oper.wp_mono (fun a' w' h' => ⟨h'.1, J3d hs hQ rest _ _ _ hB' h'.2.1 h'.2.2⟩) h)
   ·rw [if_neg hw] at h |-
    exact ⟨h.1, J3d hs hQ rest _ _ _ hB' h.2.1 h.2.2⟩

structure OrdZ (P : Program) (ops : Array Oper) (Q : Exit -> Act -> World -> Prop) (S : World -> Prop) (l : List (Nat × Bool)) (a : Act) (w : World) : Prop where
 out : J5w P ops Q S l a w

theorem J13 {id : Nat} {a : Act} {w : World} (l : List (Nat × Bool)) (hm : P.follows .mixedOrders = true) (hs : Region.noSelect ops = true)
  (hB : (ordB .any ops l (Array.replicate ops.size false) && l.length == ops.size) = true) (hS : S w.drew) (h : OrdZ P ops (NoPanic Q) S l a w.drew) : (Code.region id ops true).wp P Q a w := by
 rw [Bool.and_eq_true] at hB;have hl : l.length = ops.size := by simpa using hB.2
 refine wp_region_noPanic (wp_region_any hm ?_);rw [<- hl];have := J3d (P := P) (S := S) (Q := NoPanic Q) hs (fun _ _ _ _ _ h => h) l (Array.replicate ops.size false) a w.drew hB.1 (fun _ => hS) h.out;have := this.any
 rwa [<- hl] at this

theorem J0m {ls : List Oper} {i : Nat} {o : Oper} {rest : List (Nat × Bool)} {a : Act} {w : World} (ho' : nth ls i = some o) (hw : Region.wanted o (yielded ls.toArray a.tmps) = true)
  (h : ∀ K : Act -> World -> Prop, (∀ a w, OrdZ P ls.toArray Q S rest a w -> K a w) -> ∃ v, (∀ i : { w' // S w' }, (execOp a.eval o).run P i.val = .ok (.value v) i.val) /\ K (a.put o.dst v) w) :
  OrdZ P ls.toArray Q S ((i, true) :: rest) a w := by
 have ho := J2q ho';refine ⟨?_⟩;simp only [J5w, ho];unfold J2x;simp only [if_true];rw [if_pos hw];exact h _ (fun _ _ h => h.out)
theorem J1u {ls : List Oper} {i : Nat} {o : Oper} {rest : List (Nat × Bool)} {a : Act} {w : World} (ho' : nth ls i = some o) (hw : Region.wanted o (yielded ls.toArray a.tmps) = true)
  (h : ∀ K : Act -> World -> Prop, (∀ a w, S w -> OrdZ P ls.toArray Q S rest a w -> K a w) -> Oper.wp P o a w K Q) : OrdZ P ls.toArray Q S ((i, false) :: rest) a w := by
 have ho := J2q ho';refine ⟨?_⟩;simp only [J5w, ho, Bool.false_eq_true, if_false];unfold J2m;rw [if_pos hw];exact h _ (fun _ _ hs h => ⟨fun _ => hs, fun _ => hs, h.out⟩)
theorem J1v {ls : List Oper} {i : Nat} {o : Oper} {a : Act} {w : World} (ho' : nth ls i = some o) (hw : Region.wanted o (yielded ls.toArray a.tmps) = true) (hl : J8a .any ls.toArray i = true)
  (h : ∀ K : Act -> World -> Prop, (∀ a w, Q .normal a w -> K a w) -> Oper.wp P o a w K Q) : OrdZ P ls.toArray Q S [(i, false)] a w := by
 have ho := J2q ho';refine ⟨?_⟩;simp only [J5w, ho, Bool.false_eq_true, if_false];unfold J2m;rw [if_pos hw];exact h _ (fun _ _ h => ⟨fun e => absurd (hl.symm.trans e) (by simp), fun e => absurd rfl e, h⟩)
end
section
variable {P : Program} {ops : Array Oper} {Q : Exit -> Act -> World -> Prop} {S : World -> Prop}

theorem Jdt {i : Nat} {o : Oper} {a : Act} {w : World} {K K' : Act -> World -> Prop} (ho : ops[i]? = some o) (h : J2m P ops Q o a w K) (hK : ∀ a w, K a w -> K' a w) : wpOp P ops Q i K' a w := by
 unfold J2m at h;unfold wpOp;rw [ho];show if Region.wanted o (yielded ops a.tmps) = true then _ else _
 by_cases hw : Region.wanted o (yielded ops a.tmps) = true
 ·rw [if_pos hw] at h |-
  exact .inl (Oper.wp_mono hK h)
 ·rw [if_neg hw] at h |-
  exact hK _ _ h

structure OrdL (P : Program) (ops : Array Oper) (Q : Exit -> Act -> World -> Prop) (S : World -> Prop) (n : Nat) (listed : Array Bool) (a : Act) (w : World) : Prop where
 out : wpAnyH P .any ops Q S n listed a w

theorem J1m {id : Nat} {a : Act} {w : World} (hm : P.follows .mixedOrders = true) (hS : S w.drew)
  (h : OrdL P ops (NoPanic Q) S ops.size (Array.replicate ops.size false) a w.drew) : (Code.region id ops true).wp P Q a w :=
 wp_region_noPanic (wp_region_held_drew (S := S) hm hS (fun _ => h.out))

theorem J08 {ls : List Oper} (i : Nat) {o : Oper} {n : Nat} {listed : Array Bool} {a : Act} {w : World} (ho' : nth ls i = some o)
  (hB : (Region.noSelect ls.toArray && (Region.free .any ls.toArray listed i && (Region.ready .any ls.toArray listed).contains i)) = true) (hS : S w) (hw : Region.wanted o (yielded ls.toArray a.tmps) = true)
  (h : ∀ K : Act -> World -> Prop, (∀ a w, OrdL P ls.toArray (NoPanic Q) S n (listed.setIfInBounds i true) a w -> K a w) -> ∃ v, (∀ i : { w' // S w' }, (execOp a.eval o).run P i.val = .ok (.value v) i.val) /\ K (a.put o.dst v) w) :
  OrdL P ls.toArray (NoPanic Q) S (n + 1) listed a w := by
 simp only [Bool.and_eq_true] at hB;obtain ⟨v, hv, hk⟩ := h (fun a w => wpAnyH P .any ls.toArray (NoPanic Q) S n (listed.setIfInBounds i true) a w) (fun _ _ h => h.out);exact ⟨wpAnyH_take (J2q ho') hB.1 hB.2.1 hB.2.2 (fun _ _ _ h => h) (.inl ⟨hw, fun w' hw' => hv ⟨w', hw'⟩⟩) hS hk⟩

structure J64 (P : Program) (ops : Array Oper) (Q : Exit -> Act -> World -> Prop) (S : World -> Prop) (i n : Nat) (listed : Array Bool) (a : Act) (w : World) : Prop where
 out : wpOp P ops Q i (fun a' w' => S w' /\ wpAnyH P .any ops Q S n (listed.setIfInBounds i true) a' w') a w

theorem J0a {ls : List Oper} {i : Nat} {o : Oper} {n : Nat} {listed : Array Bool} {a : Act} {w : World} (ho' : nth ls i = some o) (hw : Region.wanted o (yielded ls.toArray a.tmps) = true)
  (h : ∀ K : Act -> World -> Prop, (∀ a w, S w -> OrdL P ls.toArray Q S n (listed.setIfInBounds i true) a w -> K a w) -> Oper.wp P o a w K Q) : J64 P ls.toArray Q S i n listed a w := by
 refine ⟨Jdt (J2q ho') (K := fun a' w' => S w' /\ wpAnyH P .any ls.toArray Q S n (listed.setIfInBounds i true) a' w') ?_ (fun _ _ h => h)⟩;unfold J2m;rw [if_pos hw];exact h _ (fun _ _ hs h => ⟨hs, h.out⟩)

theorem J0x (i : Nat) {n : Nat} {listed : Array Bool} {a : Act} {w : World} (hB : (Region.ready .any ops listed == [i]) = true) (h : J64 P ops Q S i n listed a w) : OrdL P ops Q S (n + 1) listed a w := by
 refine ⟨wpAnyH_all (by simpa using hB) (by simp) (fun j hj => ?_)⟩;obtain rfl : j = i := by simpa using hj
 exact h.out
theorem J3o (i j : Nat) {n : Nat} {listed : Array Bool} {a : Act} {w : World} (hB : (Region.ready .any ops listed == [i, j]) = true) (h : J64 P ops Q S i n listed a w) (k : J64 P ops Q S j n listed a w) : OrdL P ops Q S (n + 1) listed a w := by
 refine ⟨wpAnyH_all (by simpa using hB) (by simp) (fun x hx => ?_)⟩;have hx' : x = i \/ x = j := by simpa using hx
 rcases hx' with rfl | rfl
 ·exact h.out
 ·exact k.out
theorem J3y {n : Nat} {listed : Array Bool} {a : Act} {w : World} (hB : (Region.ready .any ops listed == []) = true) (h : Q .normal a w) : OrdL P ops (NoPanic Q) S n listed a w :=
 ⟨wpAnyH_done (by simpa using hB) (show NoPanic Q .normal a w from h) n⟩

end
end
section
open Go.RowKit
set_option linter.unusedSimpArgs false
set_option linter.unusedVariables false
set_option maxRecDepth 8000
theorem Jb5 : (Tryz.prog.info? 117).map (·.size) = some 16 := by kernel_rfl
theorem J17 (s : KS) : (Tryz.prog.info? 117).map (·.size) = some (kv s).size := by rw [J0e]; exact Jb5
theorem J2z : kv zeroK = #[V 0, .bool false, V 0, .bool false, V 0, .bool false, V 0, .bool false, V 0, .bool false, V 0, .bool false, V 0, .bool false, V 0, .bool false] := rfl
theorem More.setRow {w w' : World} (m : More w w') {g : Nat} (hg : w.heap.size <= g) (c : Array Value) : More w (w'.setRow g c) :=
 m.grownBy (row := some g) ⟨rfl, rfl, rfl, by simp [World.setRow], fun k _ hk => setRow_other _ _ _ _ (fun e => hk (by rw [e]))⟩ (fun b hb => by have := Option.some.inj hb; omega)
theorem Blk.setRow {w : World} {n : Nat} {c : Array Value} {T : TypeId} (h : Blk w n c T) (d : Array Value) : Blk (w.setRow n d) n d T := setRow_heap w n c d T (0, 0) h
theorem Blk.setRow_other {w : World} {n : Nat} {c : Array Value} {T : TypeId} (h : Blk w n c T) {m : Nat} (hm : n ≠ m) (d : Array Value) : Blk (w.setRow m d) n c T := (Go.setRow_other w m n d hm).trans h

def joinU (s t : KS) (k : Nat) : KS := fun j => if j < k then Kn.join (s j) (t j) else s j
theorem Jde (s t : KS) (k : Nat) : setK (joinU s t k) (k : Int) (Kn.join (s k) (t k)) = joinU s t (k + 1) := by
 funext j
 unfold setK joinU;rw [Int.toNat_natCast];by_cases e : j = k
 ·subst e; rw [if_pos rfl, if_pos (by omega)]
 ·rw [if_neg e]
  by_cases h : j < k
  ·rw [if_pos h, if_pos (by omega)]
  ·rw [if_neg h, if_neg (by omega)]

structure JB (w : World) (s t : KS) (k : Nat) (wr : World) : Prop where
 a : Blk wr w.heap.size (kv (joinU s t k)) 117
 b : Blk wr (w.heap.size + 1) (kv t) 117
 r : Blk wr (w.heap.size + 1 + 1) (kv zeroK) 117
 m : More w wr
theorem JB.more {w : World} {s t : KS} {k : Nat} {wr w' : World} (h : JB w s t k wr) (m : More wr w') : JB w s t k w' := ⟨h.a.more m, h.b.more m, h.r.more m, h.m.trans m⟩

theorem J9n (s t : KS) (w : World) :
  Calls Tryz.prog 73 #[.agg (kv s), .agg (kv t)] w fun e w' => e = .returned (.agg (kv (fun j => Kn.join (s j) (t j)))) /\ More w w' := by
 suffices hP : ∀ P : Ending -> World -> Prop, (∀ w', More w w' -> P (.returned (.agg (kv (fun j => Kn.join (s j) (t j))))) w') -> Calls Tryz.prog 73 #[.agg (kv s), .agg (kv t)] w P from hP _ (fun w' m => ⟨rfl, m⟩)
 intro P hP0;have HP : Hid (∀ w', More w w' -> P (.returned (.agg (kv (fun j => Kn.join (s j) (t j))))) w') := hP0;clear hP0;have Cj : Hid (∀ (x y : Kn) (w : World), Calls Tryz.prog 95 #[kn x.b x.s, kn y.b y.s] w fun e w' => e = .returned (kn (Kn.join x y).b (Kn.join x y).s) /\ More w w') := fun x y w => Jdf x.b y.b x.s y.s w
 obtain ⟨W, HW⟩ : ∃ W : World, Hid (W = ((w.alloc (.cells (kv s) 117)).alloc (.cells (kv t) 117)).alloc (.cells #[V 0, .bool false, V 0, .bool false, V 0, .bool false, V 0, .bool false, V 0, .bool false, V 0, .bool false, V 0, .bool false, V 0, .bool false] 117)) := ⟨_, rfl⟩
 have HJ : Hid (JB w s t 0 W) := by
  rw [HW.out];refine ⟨?_, ?_, ?_, ((((More.refl _).alloc _ _).alloc _ _).alloc _ _)⟩
  ·rw [show joinU s t 0 = s from by funext j; simp [joinU]]
   exact ((Blk.last _ _ _).alloc _ _).alloc _ _
  ·exact (by simpa using Blk.last (w.alloc (.cells (kv s) 117)) (kv t) 117 : Blk _ (w.heap.size + 1) _ _).alloc _ _
  ·rw [J2z]
   exact (by simpa using Blk.last ((w.alloc (.cells (kv s) 117)).alloc (.cells (kv t) 117)) #[V 0, .bool false, V 0, .bool false, V 0, .bool false, V 0, .bool false, V 0, .bool false, V 0, .bool false, V 0, .bool false, V 0, .bool false] 117)
 obtain ⟨c, hc⟩ : ∃ c, kv s = c := ⟨_, rfl⟩;obtain ⟨d, hd⟩ : ∃ c, kv t = c := ⟨_, rfl⟩;have hcs : c.size = 16 := hc ▸ J0e s;have hds : d.size = 16 := hd ▸ J0e t;rw [hc, hd] at HW;rw [hc, hd];clear hc hd;go_enter Tryz.func73, Tryz.ntmps73;go_wp2_with (fail)
 rw [<- HW.out];clear hcs hds;go_loopg [6] 8 (fun g iv wr => ∃ k : Nat, k + g = 8 /\ iv = V k /\ Hid (JB w s t k wr))
 case atStart => exact ⟨0, by omega, rfl, HJ.out⟩
 case round =>
  obtain ⟨k, hkg, rfl, Hr⟩ := hrel;cases gk with
  | zero =>
   obtain rfl : k = 8 := by omega
   obtain ⟨C, hC⟩ : ∃ C, kv (joinU s t 8) = C := ⟨_, rfl⟩;have hf : kv (fun j => Kn.join (s j) (t j)) = C := by rw [<- hC]; exact Jmk (fun j hj => by unfold joinU; rw [if_pos hj])
   have hb := Hr.out.a;rw [hC] at hb;have hr := Hr.out.r;have hi : (Tryz.prog.info? 117).map (·.size) = some C.size := by rw [<- hC]; exact J17 _
   have hold : (kv zeroK).size = C.size := by rw [<- hC, J0e, J0e]
   have hone : C.all (·.oneCell') = true := by rw [<- hC]; exact J2n _
   unfold Blk at hb hr
   have HE : Hid (P (.returned (.agg C)) (wr.setRow (w.heap.size + 1 + 1) C)) := by
    have := HP.out (wr.setRow (w.heap.size + 1 + 1) C) (Hr.out.m.setRow (by omega) C);rw [hf] at this;exact this
   clear hf HP HJ HW;go_wp2_with (first | (refine wpList_load_row rfl 117 (.tmp 2) rfl w.heap.size rfl 117 _ (0, 0) _ hb Tryz.underlying117 rfl hi ?_) | (refine wpList_store_row rfl 117 (.tmp 4) (.tmp 19) rfl (w.heap.size + 1 + 1) _ rfl rfl 117 _ hr hi hold hone ?_))
   exact bodyPost_ret (results_cell_row rfl _ _ (w.heap.size + 1 + 1) 117 C (0, 0) _ rfl (setRow_heap _ _ _ _ _ _ hr) Tryz.underlying117 rfl hi) rfl HE.out
  | succ g =>
   have hk8 : k < 8 := by omega
   have hki : (k : Int) < 8 := by omega
   have hk63 : wrap64 ((k : Int) + 1) = (k : Int) + 1 := by unfold wrap64; omega
   obtain ⟨S, HS⟩ : ∃ S : World -> Prop, Hid (∀ w', S w' ↔ JB w s t k w') := ⟨_, fun _ => Iff.rfl⟩;have HS0 : S wr.drew := (HS.out _).2 (Hr.out.more (More.refl _).drew);have hne : Nonempty { w' // S w' } := ⟨⟨_, HS0⟩⟩;obtain ⟨xa, hxa⟩ : ∃ x, s k = x := ⟨_, rfl⟩;obtain ⟨xb, hxb⟩ : ∃ x, t k = x := ⟨_, rfl⟩;have hju : joinU s t k k = xa := by unfold joinU; rw [if_neg (by omega), hxa]
   have k3 : ∀ i : { w' // S w' }, i.val.cell? ⟨w.heap.size, k * 2, none⟩ = some (V xa.b) := fun i => by rw [((HS.out _).1 i.property).a.cell (kv_at _ k hk8).1, hju]
   have k4 : ∀ i : { w' // S w' }, i.val.cell? ⟨w.heap.size, k * 2 + 1, none⟩ = some (.bool xa.s) := fun i => by rw [((HS.out _).1 i.property).a.cell (kv_at _ k hk8).2, hju]
   have k5 : ∀ i : { w' // S w' }, i.val.cell? ⟨w.heap.size + 1, k * 2, none⟩ = some (V xb.b) := fun i => by rw [((HS.out _).1 i.property).b.cell (kv_at _ k hk8).1, hxb]
   have k6 : ∀ i : { w' // S w' }, i.val.cell? ⟨w.heap.size + 1, k * 2 + 1, none⟩ = some (.bool xb.s) := fun i => by rw [((HS.out _).1 i.property).b.cell (kv_at _ k hk8).2, hxb]
   obtain ⟨v, hv⟩ : ∃ v, Kn.join xa xb = v := ⟨_, rfl⟩;have c2 : ∀ w : World, Calls Tryz.prog 95 #[kn xa.b xa.s, kn xb.b xb.s] w fun e w' => e = .returned (kn v.b v.s) /\ More w w' := fun w => hv ▸ Cj.out xa xb w
   have Hv : Hid (Kn.join (s k) (t k) = v) := by rw [hxa, hxb]; exact hv
   clear hxa hxb hv hju;obtain ⟨xab, xas⟩ := xa;obtain ⟨xbb, xbs⟩ := xb;obtain ⟨vb, vs⟩ := v;unfold kn at c2;dsimp only at k3 k4 k5 k6 c2;go_wp2_with (fail)
   refine J13 (S := S) [(0, true), (1, true), (2, true), (3, true), (4, true), (5, true), (6, true), (7, false), (8, true), (9, false)] (by kernel_rfl) (by kernel_rfl) (by kernel_rfl) HS0 ?_
   iterate 7 (refine J0m rfl (by kernel_rfl) (fun K hK => ?_); go_simp; refine hK _ _ ?_; clear hK K)
   refine J1u rfl (by kernel_rfl) (fun K hK => ?_); go_simp;refine (c2 _).mono ?_;rintro e w2 ⟨rfl, m2⟩;have Hm2 : Hid (JB w s t k w2) := Hr.out.more ((More.refl _).drew.trans m2);have HS2 : S w2 := (HS.out _).2 Hm2.out;clear m2
   go_simp
   refine hK _ _ HS2 ?_; clear hK K
   (refine J0m rfl (by kernel_rfl) (fun K hK => ?_); go_simp; refine hK _ _ ?_; clear hK K)
   have q0 := Hm2.out.a.cell (kv_at _ k hk8).1;have q1 := Hm2.out.a.cell (kv_at _ k hk8).2;have q2 := Hm2.out.a.frozen (k * 2);have q3 := Hm2.out.a.frozen (k * 2 + 1);obtain ⟨w3, Hw3⟩ : ∃ w3, Hid (w3 = (w2.setCell ⟨w.heap.size, k * 2, none⟩ (V vb)).setCell ⟨w.heap.size, k * 2 + 1, none⟩ (.bool vs)) := ⟨_, rfl⟩
   have HJ3 : Hid (JB w s t (k + 1) w3) := by
    rw [Hw3.out];refine ⟨?_, (Hm2.out.b.other (by omega) _ _).other (by omega) _ _, (Hm2.out.r.other (by omega) _ _).other (by omega) _ _, (Hm2.out.m.setCell (by simp) _).setCell (by simp) _⟩;rw [<- Jde, Hv.out];have := Hm2.out.a.setK (k : Int) vb vs (by simpa using hk8);rw [Int.toNat_natCast] at this;exact this
   refine J1v rfl (by kernel_rfl) (by kernel_rfl) (fun K hK => ?_)
   go_simp
   rw [<- Hw3.out];refine hK _ _ ?_;clear hK K hne k3 k4 k5 k6 c2 HS0 HS2 q0 q1 q2 q3;refine NoPanic.normal ?_;go_wp2;go_roundg g
   case measure => omega
   case rel => exact ⟨k + 1, by omega, by first | rfl | simp, HJ3.out⟩
theorem Jkn (s : KS) (j : Nat) (h : j < 8) : (kv s).extract (j * 2) (j * 2 + 2) = #[V (s j).b, .bool (s j).s] := by
 have hk := kv_at s j h;have hz := J0e s;apply Array.ext_getElem?;intro i;rw [Array.getElem?_extract];by_cases e : i < 2
 ·rw [if_pos (by omega)]
  by_cases e0 : i = 0
  ·subst e0; rw [Nat.add_zero, hk.1]; rfl
  ·obtain rfl : i = 1 := by omega
   rw [hk.2]; rfl
 ·rw [if_neg (by omega)]
  simp
  omega

theorem Jal : Tryz.prog.cellsOf 56 = 2 := by kernel_rfl
theorem Jet : ∃ i, Tryz.prog.info? 56 = some i /\ i.size = 2 := by
 have h : (Tryz.prog.info? 56).map (·.size) = some 2 := by kernel_rfl
 obtain ⟨i, h1, h2⟩ := Option.map_eq_some_iff.1 h;exact ⟨i, h1, h2⟩

theorem Jjq (s : KS) (j : Nat) (h : j < 8) (w : World) : (part 56 (kv s) (j * 2)).run Tryz.prog w = .ok (.agg #[V (s j).b, .bool (s j).s]) w := by
 obtain ⟨i, hi, hs⟩ := Jet;have hsz : (sizeOf 56).run Tryz.prog w = .ok 2 w := by rw [run_sizeOf w hi, Jal]
 unfold part
 have hag : (isAgg 56).run Tryz.prog w = .ok true w := by
  unfold isAgg;rw [Sem.run_bind, run_underlying Tryz.underlying56 w]
  rfl
 simp only [Sem.run_bind, hag, Result.andThen_ok, if_true, hsz, Sem.run_pure];rw [Jkn s j h]

theorem eq23 (d : Nat) (x y : Int) (s t : Bool) (w : World) : (Op.equalIn (d + 2) 56 (.agg #[V x, .bool s]) (.agg #[V y, .bool t])).run Tryz.prog w = .ok (x == y && s == t) w := by
 cases hx : (x == y) with
 | false => go_simp
 | true =>
  go_simp
  cases s <;> cases t <;> rfl

theorem eqItems (d : Nat) (s t : KS) (w : World) : ∀ is : List Nat, (∀ j ∈ is, j < 8) -> ∃ r : Bool, (Op.eqItems (d + 2) 56 2 (kv s) (kv t) is).run Tryz.prog w = .ok r w /\ (r = true ↔ ∀ j ∈ is, s j = t j)
 | [], _ => ⟨true, by simp [Op.eqItems], by simp⟩
 | i :: is, h => by
  have hi := h i (by simp);obtain ⟨r, hr, hiff⟩ := eqItems d s t w is (fun j hj => h j (by simp [hj]));simp only [Op.eqItems, Sem.run_bind, Jjq s i hi, Jjq t i hi, eq23, Result.andThen_ok];cases hb : ((s i).b == (t i).b && (s i).s == (t i).s) with
  | false =>
   refine ⟨false, by simp, by simp; intro e; rw [e] at hb; simp at hb⟩
  | true =>
   refine ⟨r, by simpa using hr, ?_⟩;rw [hiff];rw [Bool.and_eq_true, beq_iff_eq, beq_iff_eq] at hb
   have e : s i = t i := by
    cases hs : s i; cases ht : t i
    rw [hs, ht] at hb;simp only [Kn.mk.injEq];exact hb
   simp [e]

theorem eq104 (s t : KS) : ∃ r : Bool, (∀ w, (Op.equalIn 10000 117 (.agg (kv s)) (.agg (kv t))).run Tryz.prog w = .ok r w) /\ (r = true ↔ ∀ j, j < 8 -> s j = t j) := by
 obtain ⟨i, hi, _⟩ := Jet;by_cases h : ∀ j, j < 8 -> s j = t j
 ·refine ⟨true, fun w => ?_, ⟨fun _ => h, fun _ => rfl⟩⟩
  rw [run_equalIn_array w 9999 (kv s) (kv t) Tryz.underlying117 hi, Jal];obtain ⟨r, hr, hiff⟩ := eqItems 9997 s t w (List.range 8) (fun j hj => List.mem_range.1 hj);rw [hr];rw [hiff.2 (fun j hj => h j (List.mem_range.1 hj))]
 ·refine ⟨false, fun w => ?_, ⟨fun q => absurd q (by simp), fun q => absurd q h⟩⟩
  rw [run_equalIn_array w 9999 (kv s) (kv t) Tryz.underlying117 hi, Jal];obtain ⟨r, hr, hiff⟩ := eqItems 9997 s t w (List.range 8) (fun j hj => List.mem_range.1 hj);rw [hr];cases r with
  | false => rfl
  | true => exact absurd (fun j hj => hiff.1 rfl j (List.mem_range.2 hj)) h

theorem Jja : (Tryz.prog.info? 120).map (fun i => i.zero.map (fun z => z.cells.size)) = some (some 17) := by kernel_rfl
theorem Jfd : (J44 Tryz.prog 120).mapM (fun f => (Tryz.prog.info? f.type).map fun i => (f.offset, i.size)) = some [(0, 16), (16, 1)] := by kernel_rfl
theorem Jb6 : (Tryz.prog.info? 120).map (·.size) = some 17 := by kernel_rfl

theorem Jc7 (A : Array Value) (hA : A.size = 16) : Tryz.prog.built 120 [(0, .agg A), (1, .bool true)] = some (A.push (.bool true)) := by
 have hz := Jja;cases hi : Tryz.prog.info? 120 with
 | none => rw [hi] at hz; simp at hz
 | some it =>
  rw [hi] at hz;simp only [Option.map_some, Option.some.injEq] at hz;cases hzz : it.zero with
  | none => rw [hzz] at hz; simp at hz
  | some z =>
   rw [hzz] at hz;simp only [Option.map_some, Option.some.injEq] at hz;have hp := Jfd;unfold J44 at hp;rw [Tryz.underlying120] at hp;rw [J3r hi Tryz.underlying120 hzz hp];obtain ⟨c1, e1, s1, g1⟩ := J2p (fun x => [(0, 16), (16, 1)].toArray[x]?) z.cells 0 (.agg A) [(1, .bool true)] 0 16 rfl hA (by omega);obtain ⟨c2, e2, s2, g2⟩ := J2p (fun x => [(0, 16), (16, 1)].toArray[x]?) c1 1 (.bool true) [] 16 1 rfl rfl (by omega);rw [e1, e2];show some c2 = _;refine congrArg some ?_;apply Array.ext_getElem?;intro j;rw [g2 j, g1 j, Array.getElem?_push, hA];by_cases e : j = 16
   ·subst e; rfl
   ·rw [if_neg (by omega), if_neg e]
    by_cases e3 : j < 16
    ·rw [if_pos (by omega)]; rfl
    ·rw [if_neg (by omega), Array.getElem?_eq_none (by omega), Array.getElem?_eq_none (by omega)]
theorem Jjl : ∃ i, Tryz.prog.info? 3 = some i /\ i.zero = some (V 0) /\ i.size = 1 /\ i.bytes = 8 := by
 have h : (Tryz.prog.info? 3).map (fun i => (i.zero, i.size, i.bytes)) = some (some (V 0), 1, 8) := by kernel_rfl
 obtain ⟨i, h1, h2⟩ := Option.map_eq_some_iff.1 h;simp only [Prod.mk.injEq] at h2;exact ⟨i, h1, h2.1, h2.2.1, h2.2.2⟩
theorem Ck.tform {w0 : World} {p : Prg} {lo : Loc} {M B : Nat} {l : KV} {td : List Nat} {tv : Value} {w : World} (h : Ck w0 p lo M B l td tv w) : ∃ ta tc, tv = .slice ta td.length tc := by
 rcases h.own.2 with ⟨rfl, h0⟩ | ⟨g, cap, cur, rfl, _⟩
 ·exact ⟨none, 0, by rw [h0]⟩
 ·exact ⟨_, _, rfl⟩
theorem J2u {P : Program} {ops : Array Oper} {rest : List Oper} {o : Oper} {a : Act} {w : World} {Q : Exit -> Act -> World -> Prop} (hgd : o.guard = none) (ty : TypeId) (x y : Operand) (ho : o.op = .store ty x y)
  (g k : Nat) (cs : Array Value) (hx : a.eval x = .pointer (some ⟨g, k, none⟩)) (hy : a.eval y = .agg cs) (hi : (P.info? ty).map (·.size) = some cs.size) (hc : ∀ j, j < cs.size -> (w.cell? ⟨g, k + j, none⟩).isSome = true /\ w.frozen? ⟨g, k + j, none⟩ = false) (h1 : cs.all (·.oneCell') = true)
  (w' : World) (hw : w' = w.setCells g k cs.toList) (h : wpList P ops Q rest (a.put o.dst undef) w') : wpList P ops Q (o :: rest) a w := by
 subst hw;exact J3c hgd ty x y ho g k cs hx hy hi hc h1 h

theorem J41 {P : Program} {ops : Array Oper} {rest : List Oper} {o : Oper} {a : Act} {w : World} {Q : Exit -> Act -> World -> Prop} (hgd : o.guard = none) (t : TypeId) (parts : Array (Nat × Operand)) (ho : o.op = .build t parts) (C : Array Value) (l : List (Nat × Value)) (hl : (parts.map fun (i, x) => (i, a.eval x)).toList = l)
  (hf : P.built t l = some C) (h : wpList P ops Q rest (a.put o.dst (.agg C)) w) : wpList P ops Q (o :: rest) a w := by
 subst hl;refine wpList_plain hgd fun _ hK => ?_
 unfold Oper.wp execOp;simp only [ho, Sem.run_bind, run_build w t _ C hf, Result.andThen_ok, Sem.run_pure];exact hK _ _ h

section
variable (w0 : World) (p : Prg) (lo : Loc) (M B : Nat) (l : KV) (td : List Nat) (tv : Value) (w : World)

theorem Jgr (h : Ck w0 p lo M B l td tv w) (at_ : Nat) (s : KS) (hat : p.cl <= at_) :
  Calls Tryz.prog 49 #[.pointer (some ⟨M, 0, none⟩), V at_, .agg (kv s)] w fun e w' => e = .returned (.tuple #[]) /\ More w w' := by
 have m2 := h.box.cell (j := 2) rfl;have hM := h.box.lt;obtain ⟨cl, hcl⟩ : ∃ x, p.cl = x := ⟨_, rfl⟩;rw [hcl] at m2 hat;have hi : ((cl : Int) <= at_) := by omega
 obtain ⟨C, hC⟩ : ∃ c, kv s = c := ⟨_, rfl⟩;have hC16 : C.size = 16 := hC ▸ J0e s;rw [hC];clear h hC hcl hat;go_enter Tryz.func49, Tryz.ntmps49;go_wp2;refine bodyPost_ret (results_none (by kernel_rfl) _ _ _) rfl ?_;exact ⟨rfl, (More.refl _).alloc _ _⟩

theorem World.size_alloc2 (w : World) (o : Obj) : (w.alloc o).heap.size = w.heap.size + 1 := by simp
theorem Ck.boxg {w0 : World} {p : Prg} {lo : Loc} {M B : Nat} {l : KV} {td : List Nat} {tv : Value} {w w' : World} (h : Ck w0 p lo M B l td tv w) (g : w.grownBy w' tv.ownBlock) :
  Blk w' M #[.slice lo.ra p.rl lo.rc, .slice lo.ca p.cl lo.cc, .slice (some ⟨B, 0, none⟩) p.cl p.cl, tv] 82 := (g.block M h.box.lt (fun e => h.tne h.box (by decide) e.symm)).trans h.box

theorem Jgp (h : Ck w0 p lo M B l td tv w) (at_ : Nat) (s : KS) (hat : at_ < p.cl) (hcl : p.cl <= 200) (hn : td.length <= 100000) (hl : l at_ = none) :
  Calls Tryz.prog 49 #[.pointer (some ⟨M, 0, none⟩), V at_, .agg (kv s)] w fun e w' => e = .returned (.tuple #[]) /\ ∃ tv', Ck w0 p lo M B (putV l at_ s) (td ++ [at_]) tv' w' /\ Keeps w w' := by
 suffices hP : ∀ P : Ending -> World -> Prop, (∀ tv' w', Ck w0 p lo M B (putV l at_ s) (td ++ [at_]) tv' w' -> Keeps w w' -> P (.returned (.tuple #[])) w') -> Calls Tryz.prog 49 #[.pointer (some ⟨M, 0, none⟩), V at_, .agg (kv s)] w P from hP _ (fun tv' w' a b => ⟨rfl, tv', a, b⟩)
 intro P hP0;have HP : Hid (∀ tv' w', Ck w0 p lo M B (putV l at_ s) (td ++ [at_]) tv' w' -> Keeps w w' -> P (.returned (.tuple #[])) w') := hP0;clear hP0;have HN0 : Hid (td.length <= 100000) := hn;obtain ⟨ta, tc, rfl⟩ := h.tform;have m2 : w.cell? ⟨M, 2, none⟩ = some (.slice (some ⟨B, 0, none⟩) p.cl p.cl) := h.box.cell (j := 2) rfl;have hM := h.box.lt;have hB := h.pl.lt;have hre := h.pl.reached hat;rw [hl] at hre;dsimp only [Option.isSome] at hre;obtain ⟨W, HW⟩ : ∃ W : World, Hid (W = w.alloc (.cells (kv s) 117)) := ⟨_, rfl⟩;have HmW : Hid (More w W) := HW.out ▸ (More.refl _).alloc _ _;have HckW : Hid (Ck w0 p lo M B l td (.slice ta td.length tc) W) := h.more HmW.out;have HkpW : Hid (Keeps w W) := Keeps.of HmW.out;have HbW : Hid (Blk W w.heap.size (kv s) 117) := HW.out ▸ Blk.last _ _ _;obtain ⟨W2, HW2⟩ : ∃ W2 : World, Hid (W2 = W.setCells B (at_ * 17) (pv (some (s))).toList) := ⟨_, rfl⟩;have Hck2 : Hid (Ck w0 p lo M B (putV l at_ (s)) td (.slice ta td.length tc) W2) := HW2.out ▸ HckW.out.put hat (s);have Hkp2 : Hid (Keeps w W2) := HkpW.out.trans (HW2.out ▸ HckW.out.put_keeps (s));obtain ⟨W3, HW3⟩ : ∃ W3 : World, Hid (W3 = W2.alloc (.cells #[V (at_ : Int)] 3)) := ⟨_, rfl⟩;have Hck3 : Hid (Ck w0 p lo M B (putV l at_ (s)) td (.slice ta td.length tc) W3) := Hck2.out.more (HW3.out ▸ (More.refl _).alloc _ _);have Hkp3 : Hid (Keeps w W3) := Hkp2.out.trans (Keeps.of (HW3.out ▸ (More.refl _).alloc _ _))
 have Hc3 : Hid (∀ j u, [Value.int .i64 (at_ : Int)][j]? = some u -> W3.cell? ((⟨W2.heap.size, 0, none⟩ : Addr).add j) = some u) := by
  rw [HW3.out];exact World.news_of_block (cs := #[V (at_ : Int)]) (heap_alloc_last _ _)
 have Hup : Hid (w0.heap.size <= W3.heap.size) := Hck3.out.up.size;have Hsz3 : Hid (W3.heap.size = W2.heap.size + 1) := by rw [HW3.out]; exact (World.size_alloc2 _ _)
 have m3 : W2.cell? ⟨M, 3, none⟩ = some (.slice ta td.length tc) := Hck2.out.box.cell (j := 3) rfl;obtain ⟨i3, Hi3⟩ : ∃ i, Hid (Tryz.prog.info? 3 = some i /\ i.zero = some (V 0) /\ i.size = 1 /\ i.bytes = 8) := Jjl;have Hn : Hid (td.length <= 100000) := HN0.out;obtain ⟨E_, hE_⟩ : ∃ c, kv (s) = c := ⟨_, rfl⟩;have hE16 : E_.size = 16 := hE_ ▸ J0e (s);have hpv : pv (some (s)) = E_.push (.bool true) := by rw [<- hE_]; rfl
 have hbx := HbW.out;unfold Blk at hbx;rw [hE_] at hbx;have hi104 : (Tryz.prog.info? 117).map (·.size) = some E_.size := by rw [hE16]; exact Jb5
 have hbu := Jc7 E_ hE16;have hi107 : (Tryz.prog.info? 120).map (·.size) = some (E_.push (.bool true)).size := by rw [<- hpv, J30]; exact Jb6
 have hfr : ∀ j, j < (E_.push (.bool true)).size -> (W.cell? ⟨B, at_ * 17 + j, none⟩).isSome = true /\ W.frozen? ⟨B, at_ * 17 + j, none⟩ = false := by
  rw [<- hpv, J30];exact HckW.out.pl.free hat
 have hone : (E_.push (.bool true)).all (·.oneCell') = true := by rw [<- hpv]; exact Jfj _
 rw [hpv] at HW2;obtain ⟨n, Hnn⟩ : ∃ x, Hid (td.length = x) := ⟨_, rfl⟩;rw [Hnn.out] at m3
 have Hown : Hid (W3.ownsRow w0.heap.size 3 1 (.slice ta n tc) n (td.map fun (k : Nat) => Value.int .i64 (k : Int))) := by
  have := Hck3.out.own;rw [Hnn.out] at this;exact this
 rw [hE_] at HW;rw [hE_];obtain ⟨cl, Hcl⟩ : ∃ x, Hid (p.cl = x) := ⟨_, rfl⟩;rw [Hcl.out] at m2 hat hcl;have hi1 : ((at_ : Int) < cl) := by omega
 have hi2 : ((cl : Int) <= 200) := by omega
 clear h hE_ hpv hn hl;go_enter Tryz.func49, Tryz.ntmps49
 go_wp2_with (first
  | (at_builtin; rw [<- HW3.out]; refine wpList_append_lies _ rfl (.tmp 44) (.tmp 46) 27 rfl w0.heap.size 3 i3 (V 0) 1 8 Tryz.underlying27 Hi3.out.1 Hi3.out.2.1 Hi3.out.2.2.1 Hi3.out.2.2.2 rfl (by decide) (.slice ta n tc) n (td.map fun (k : Nat) => Value.int .i64 (k : Int)) rfl Hown.out ⟨W2.heap.size, 0, none⟩ 1 1 [V at_] rfl rfl Hc3.out (fun x hx => by simp at hx; subst hx; rfl) (by decide) (by have := Hn.out; rw [Hnn.out] at this; unfold maxLen; omega) (by have := Hn.out; rw [Hnn.out] at this; omega) Hup.out (W2.heap.size + 1) Hsz3.out ?_; intro g cap w3 own3 gr3 hat3 hlt3; have y3 := (Hnn.out ▸ Hck3.out.boxg (Hnn.out ▸ gr3)).cell (j := 3) rfl; have f3 := (Hck3.out.boxg (Hnn.out ▸ gr3)).frozen 3)
  | (rw [<- HW.out]; refine wpList_load_row rfl 117 (.tmp 5) rfl w.heap.size rfl 117 E_ (0, 0) _ hbx Tryz.underlying117 rfl hi104 ?_)
  | (refine J41 rfl 120 _ rfl (E_.push (.bool true)) [(0, .agg E_), (1, .bool true)] (by kernel_rfl) hbu ?_)
  | (refine J2u rfl 120 (.tmp 39) (.tmp 38) rfl B (at_ * 17) (E_.push (.bool true)) rfl rfl hi107 hfr hone W2 HW2.out ?_))
 go_end0
 have own3' : w3.ownsRow w0.heap.size 3 1 (.slice (some ⟨g, 0, none⟩) (n + 1) cap) (td ++ [at_]).length ((td ++ [at_]).map fun (k : Nat) => Value.int .i64 (k : Int)) := by
  rw [List.length_append, Hnn.out, List.map_append];exact own3
 have gr3' : W3.grownBy w3 (Value.slice ta td.length tc).ownBlock := by rw [Hnn.out]; exact gr3
 exact HP.out _ _ (Hck3.out.set gr3' own3') (Hkp3.out.trans (Hck3.out.set_keeps gr3'))

theorem Jgq (h : Ck w0 p lo M B l td tv w) (at_ : Nat) (s t : KS) (hat : at_ < p.cl) (hcl : p.cl <= 200) (hn : td.length <= 100000) (hl : l at_ = some t) :
  Calls Tryz.prog 49 #[.pointer (some ⟨M, 0, none⟩), V at_, .agg (kv s)] w fun e w' => e = .returned (.tuple #[]) /\ Keeps w w' /\ (((∀ j, j < 8 -> Kn.join (t j) (s j) = t j) /\ Ck w0 p lo M B l td tv w') \/ ((¬ ∀ j, j < 8 -> Kn.join (t j) (s j) = t j) /\ ∃ tv', Ck w0 p lo M B (putV l at_ (fun j => Kn.join (t j) (s j))) (td ++ [at_]) tv' w')) := by
 obtain ⟨r, hrj⟩ : ∃ r : KS, (fun j => Kn.join (t j) (s j)) = r := ⟨_, rfl⟩;rw [hrj];have hrj' : (∀ j, j < 8 -> Kn.join (t j) (s j) = t j) ↔ ∀ j, j < 8 -> r j = t j := by rw [<- hrj]
 rw [hrj'];clear hrj'
 suffices hP : ∀ P : Ending -> World -> Prop, (∀ w', (∀ j, j < 8 -> r j = t j) -> Ck w0 p lo M B l td tv w' -> Keeps w w' -> P (.returned (.tuple #[])) w') -> ((¬ ∀ j, j < 8 -> r j = t j) -> ∀ tv' w', Ck w0 p lo M B (putV l at_ r) (td ++ [at_]) tv' w' -> Keeps w w' -> P (.returned (.tuple #[])) w') -> Calls Tryz.prog 49 #[.pointer (some ⟨M, 0, none⟩), V at_, .agg (kv s)] w P from
  hP _ (fun w' a b c => ⟨rfl, c, .inl ⟨a, b⟩⟩) (fun a tv' w' b c => ⟨rfl, c, .inr ⟨a, tv', b⟩⟩)
 intro P hP0 hP1;have HP0 : Hid (∀ w', (∀ j, j < 8 -> r j = t j) -> Ck w0 p lo M B l td tv w' -> Keeps w w' -> P (.returned (.tuple #[])) w') := hP0;have HP1 : Hid ((¬ ∀ j, j < 8 -> r j = t j) -> ∀ tv' w', Ck w0 p lo M B (putV l at_ r) (td ++ [at_]) tv' w' -> Keeps w w' -> P (.returned (.tuple #[])) w') := hP1;clear hP0 hP1;have HN0 : Hid (td.length <= 100000) := hn;obtain ⟨ta, tc, rfl⟩ := h.tform;have m2 : w.cell? ⟨M, 2, none⟩ = some (.slice (some ⟨B, 0, none⟩) p.cl p.cl) := h.box.cell (j := 2) rfl;have hM := h.box.lt;have hB := h.pl.lt;have hre := h.pl.reached hat;have Hpl : Hid (∀ w', Ck w0 p lo M B l td (.slice ta td.length tc) w' -> ∀ j v, (kv t)[j]? = some v -> w'.cell? ⟨B, at_ * 17 + j, none⟩ = some v) := fun w' k => k.pl.regs hat hl
 rw [hl] at hre;dsimp only [Option.isSome] at hre;obtain ⟨W, HW⟩ : ∃ W : World, Hid (W = w.alloc (.cells (kv s) 117)) := ⟨_, rfl⟩;have HmW : Hid (More w W) := HW.out ▸ (More.refl _).alloc _ _;have HckW0 : Hid (Ck w0 p lo M B l td (.slice ta td.length tc) W) := h.more HmW.out;have HbW0 : Hid (Blk W w.heap.size (kv s) 117) := HW.out ▸ Blk.last _ _ _;have c1 : ∀ w : World, Calls Tryz.prog 73 #[.agg (kv t), .agg (kv s)] w fun e w' => e = .returned (.agg (kv r)) /\ More w w' := fun w => hrj ▸ J9n t s w
 obtain ⟨q, hq, hqi⟩ := eq104 r t;have Hqi : Hid (q = true ↔ ∀ j, j < 8 -> r j = t j) := hqi;have Hks : Hid (∀ w', Blk w' w.heap.size (kv s) 117 -> ∀ j v, (kv s)[j]? = some v -> w'.cell? ⟨w.heap.size, 0 + j, none⟩ = some v) := fun w' b j v e => by rw [Nat.zero_add]; exact b.cell e
 have Hkr : Hid (∀ w', Blk w' w.heap.size (kv r) 117 -> ∀ j v, (kv r)[j]? = some v -> w'.cell? ⟨w.heap.size, 0 + j, none⟩ = some v) := fun w' b j v e => by rw [Nat.zero_add]; exact b.cell e
 have hiC := J17 s;have hiD := J17 t;have hiE := J17 r;have hold : (kv s).size = (kv r).size := by rw [J0e, J0e]
 have hone : (kv r).all (·.oneCell') = true := J2n r;have hC16 : (kv s).size = 16 := J0e s;have Hat : Hid (at_ < p.cl) := hat;clear hqi h hl hn hrj;obtain ⟨C, hC⟩ : ∃ c, kv s = c := ⟨_, rfl⟩;obtain ⟨D, hD⟩ : ∃ c, kv t = c := ⟨_, rfl⟩;obtain ⟨E, hE⟩ : ∃ c, kv r = c := ⟨_, rfl⟩;have HE : Hid (kv r = E) := hE;rw [hC] at HW HbW0 c1 hiC hold Hks hC16;rw [hC];rw [hD] at c1 hq hiD Hpl;rw [hE] at c1 hq hiE hold hone Hkr;clear hC hD hE;obtain ⟨cl, Hcl⟩ : ∃ x, Hid (p.cl = x) := ⟨_, rfl⟩;rw [Hcl.out] at m2 hat hcl;have hi1 : ((at_ : Int) < cl) := by omega
 have hi2 : ((cl : Int) <= 200) := by omega
 obtain ⟨S, HS⟩ : ∃ S : World -> Prop, Hid (∀ w', S w' ↔ More W w') := ⟨_, fun _ => Iff.rfl⟩;have HS0 : S W.drew := (HS.out _).2 (More.refl _).drew;have hne : Nonempty { w' // S w' } := ⟨⟨_, HS0⟩⟩;go_enter Tryz.func49, Tryz.ntmps49;go_wp2_with (fail)
 rw [<- HW.out];clear hC16;refine J13 (S := S) [(0, true), (1, true), (2, true), (3, true), (4, true), (5, false), (6, false)] (by kernel_rfl) (by kernel_rfl) (by kernel_rfl) HS0 ?_
 iterate 3 (refine J0m rfl (by kernel_rfl) (fun K hK => ?_); go_simp; refine hK _ _ ?_; clear hK K)
 refine J0m rfl (by kernel_rfl) (fun K hK => ⟨.agg D, fun i => J12 117 (.tmp 26) rfl B (at_ * 17) rfl D _ (Hpl.out _ (HckW0.out.more ((HS.out _).1 i.property))) Tryz.underlying117 rfl hiD, ?_⟩); go_simp; refine hK _ _ ?_; clear hK K;refine J0m rfl (by kernel_rfl) (fun K hK => ⟨.agg C, fun i => J12 117 (.tmp 5) rfl w.heap.size 0 rfl C _ (Hks.out _ (HbW0.out.more ((HS.out _).1 i.property))) Tryz.underlying117 rfl hiC, ?_⟩); go_simp; refine hK _ _ ?_; clear hK K;refine J1u rfl (by kernel_rfl) (fun K hK => ?_); go_simp;refine (c1 _).mono ?_;rintro e w2 ⟨rfl, m_⟩;have Hm2 : Hid (More W w2) := (More.refl W).drew.trans m_;clear m_
 go_simp
 refine hK _ _ ((HS.out _).2 Hm2.out) ?_; clear hK K;have Hb2 : Hid (Blk w2 w.heap.size C 117) := HbW0.out.more Hm2.out;have Hck2_ : Hid (Ck w0 p lo M B l td (.slice ta td.length tc) w2) := HckW0.out.more Hm2.out;obtain ⟨wj, Hwj⟩ : ∃ w_ : World, Hid (w_ = w2.setRow w.heap.size E) := ⟨_, rfl⟩
 have HF : Hid (Blk wj w.heap.size E 117 /\ Ck w0 p lo M B l td (.slice ta td.length tc) wj /\ Keeps w wj) := by
  rw [Hwj.out];have g : w2.grownBy (w2.setRow w.heap.size E) (some w.heap.size) := ⟨rfl, rfl, rfl, by simp [World.setRow], fun k _ hk => setRow_other _ _ _ _ (fun e => hk (by rw [e]))⟩;obtain ⟨cB, hB_⟩ := Hck2_.out.plB;refine ⟨Hb2.out.setRow E, ⟨Hck2_.out.box.setRow_other (fun e => by omega) _, Hck2_.out.own.kept g (.inr (Hck2_.out.tne Hb2.out (by decide))), Hck2_.out.pl.block (setRow_other _ _ _ _ (by omega)), Hck2_.out.up.setRow (Nat.le_trans Hck2_.out.lo.1 (by omega)) _, Hck2_.out.pin, Hck2_.out.lo⟩, ?_⟩;intro n_ c_ T_ t1 t2 t3 b_;have b2 := (b_.more HmW.out).more Hm2.out;exact b2.setRow_other (Nat.ne_of_lt b_.lt) _
 refine J1v rfl (by kernel_rfl) (by kernel_rfl) (fun K hK => ?_);refine wp_store_row 117 (.tmp 5) (.tmp 29) rfl w.heap.size E rfl rfl 117 C Hb2.out hiE hold hone ?_;rw [<- Hwj.out];refine hK _ _ ?_;clear hK K hne HS0;refine NoPanic.normal ?_;obtain ⟨T, HT⟩ : ∃ T : World -> Prop, Hid (∀ w', T w' ↔ More wj w') := ⟨_, fun _ => Iff.rfl⟩;have HT0 : T wj.drew := (HT.out _).2 (More.refl _).drew;have hne : Nonempty { w' // T w' } := ⟨⟨_, HT0⟩⟩;go_wp2_with (fail)
 refine J03 (S := T) [(0, true), (1, true), (2, true), (3, true), (4, true), (5, true)] (by kernel_rfl) (by kernel_rfl) (by kernel_rfl) HT0 ?_;refine J00 rfl (by kernel_rfl) (fun K hK => ⟨.agg E, fun i => J12 117 (.tmp 5) rfl w.heap.size 0 rfl E _ (Hkr.out _ (HF.out.1.more ((HT.out _).1 i.property))) Tryz.underlying117 rfl hiE, ?_⟩); go_simp; refine hK _ _ ?_; clear hK K
 iterate 3 (refine J00 rfl (by kernel_rfl) (fun K hK => ?_); go_simp; refine hK _ _ ?_; clear hK K)
 refine J00 rfl (by kernel_rfl) (fun K hK => ⟨.agg D, fun i => J12 117 (.tmp 33) rfl B (at_ * 17) rfl D _ (Hpl.out _ (HF.out.2.1.more ((HT.out _).1 i.property))) Tryz.underlying117 rfl hiD, ?_⟩); go_simp; refine hK _ _ ?_; clear hK K;refine J00 rfl (by kernel_rfl) (fun K hK => ?_); go_simp; refine hK _ _ ?_; clear hK K;refine J04 ?_;clear hne HT0 hq c1;obtain ⟨wd, Hwd⟩ : ∃ w_ : World, Hid (w_ = wj.drew) := ⟨_, rfl⟩
 have HG : Hid (Blk wd w.heap.size E 117 /\ Ck w0 p lo M B l td (.slice ta td.length tc) wd /\ Keeps w wd) := by
  have m := Hwd.out ▸ (More.refl wj).drew;exact ⟨HF.out.1.more m, HF.out.2.1.more m, HF.out.2.2.trans (Keeps.of m)⟩
 rw [<- Hwd.out];cases q with
 | true =>
  have hend := HP0.out wd (Hqi.out.1 rfl) HG.out.2.1 HG.out.2.2;have Hend : Hid (P (.returned (.tuple #[])) wd) := hend;clear hend HP0 HP1;go_wp2;refine bodyPost_ret (results_none (by kernel_rfl) _ _ _) rfl ?_;exact Hend.out
 | false =>
  have HP : Hid (∀ tv' w', Ck w0 p lo M B (putV l at_ r) (td ++ [at_]) tv' w' -> Keeps w w' -> P (.returned (.tuple #[])) w') := HP1.out (fun k => by have := Hqi.out.2 k; cases this);clear HP0 HP1 Hqi hold hone hiC hiD hiE Hks Hkr Hpl;have hat := Hat.out;have HckW : Hid (Ck w0 p lo M B l td (.slice ta td.length tc) wd) := HG.out.2.1;have HkpW : Hid (Keeps w wd) := HG.out.2.2;have HbW : Hid (Blk wd w.heap.size (kv r) 117) := HE.out ▸ HG.out.1;obtain ⟨W2, HW2⟩ : ∃ W2 : World, Hid (W2 = wd.setCells B (at_ * 17) (pv (some (r))).toList) := ⟨_, rfl⟩;have Hck2 : Hid (Ck w0 p lo M B (putV l at_ (r)) td (.slice ta td.length tc) W2) := HW2.out ▸ HckW.out.put hat (r);have Hkp2 : Hid (Keeps w W2) := HkpW.out.trans (HW2.out ▸ HckW.out.put_keeps (r));obtain ⟨W3, HW3⟩ : ∃ W3 : World, Hid (W3 = W2.alloc (.cells #[V (at_ : Int)] 3)) := ⟨_, rfl⟩;have Hck3 : Hid (Ck w0 p lo M B (putV l at_ (r)) td (.slice ta td.length tc) W3) := Hck2.out.more (HW3.out ▸ (More.refl _).alloc _ _);have Hkp3 : Hid (Keeps w W3) := Hkp2.out.trans (Keeps.of (HW3.out ▸ (More.refl _).alloc _ _))
  have Hc3 : Hid (∀ j u, [Value.int .i64 (at_ : Int)][j]? = some u -> W3.cell? ((⟨W2.heap.size, 0, none⟩ : Addr).add j) = some u) := by
   rw [HW3.out];exact World.news_of_block (cs := #[V (at_ : Int)]) (heap_alloc_last _ _)
  have Hup : Hid (w0.heap.size <= W3.heap.size) := Hck3.out.up.size;have Hsz3 : Hid (W3.heap.size = W2.heap.size + 1) := by rw [HW3.out]; exact (World.size_alloc2 _ _)
  have m3 : W2.cell? ⟨M, 3, none⟩ = some (.slice ta td.length tc) := Hck2.out.box.cell (j := 3) rfl;obtain ⟨i3, Hi3⟩ : ∃ i, Hid (Tryz.prog.info? 3 = some i /\ i.zero = some (V 0) /\ i.size = 1 /\ i.bytes = 8) := Jjl;have Hn : Hid (td.length <= 100000) := HN0.out;obtain ⟨E_, hE_⟩ : ∃ c, kv (r) = c := ⟨_, rfl⟩;have hE16 : E_.size = 16 := hE_ ▸ J0e (r);have hpv : pv (some (r)) = E_.push (.bool true) := by rw [<- hE_]; rfl
  have hbx := HbW.out;unfold Blk at hbx;rw [hE_] at hbx;have hi104 : (Tryz.prog.info? 117).map (·.size) = some E_.size := by rw [hE16]; exact Jb5
  have hbu := Jc7 E_ hE16;have hi107 : (Tryz.prog.info? 120).map (·.size) = some (E_.push (.bool true)).size := by rw [<- hpv, J30]; exact Jb6
  have hfr : ∀ j, j < (E_.push (.bool true)).size -> (wd.cell? ⟨B, at_ * 17 + j, none⟩).isSome = true /\ wd.frozen? ⟨B, at_ * 17 + j, none⟩ = false := by
   rw [<- hpv, J30];exact HckW.out.pl.free hat
  have hone : (E_.push (.bool true)).all (·.oneCell') = true := by rw [<- hpv]; exact Jfj _
  rw [hpv] at HW2;obtain ⟨n, Hnn⟩ : ∃ x, Hid (td.length = x) := ⟨_, rfl⟩;rw [Hnn.out] at m3
  have Hown : Hid (W3.ownsRow w0.heap.size 3 1 (.slice ta n tc) n (td.map fun (k : Nat) => Value.int .i64 (k : Int))) := by
   have := Hck3.out.own;rw [Hnn.out] at this;exact this
  clear hat hE_ hpv
  go_wp2_with (first
   | (at_builtin; rw [<- HW3.out]; refine wpList_append_lies _ rfl (.tmp 44) (.tmp 46) 27 rfl w0.heap.size 3 i3 (V 0) 1 8 Tryz.underlying27 Hi3.out.1 Hi3.out.2.1 Hi3.out.2.2.1 Hi3.out.2.2.2 rfl (by decide) (.slice ta n tc) n (td.map fun (k : Nat) => Value.int .i64 (k : Int)) rfl Hown.out ⟨W2.heap.size, 0, none⟩ 1 1 [V at_] rfl rfl Hc3.out (fun x hx => by simp at hx; subst hx; rfl) (by decide) (by have := Hn.out; rw [Hnn.out] at this; unfold maxLen; omega) (by have := Hn.out; rw [Hnn.out] at this; omega) Hup.out (W2.heap.size + 1) Hsz3.out ?_; intro g cap w3 own3 gr3 hat3 hlt3; have y3 := (Hnn.out ▸ Hck3.out.boxg (Hnn.out ▸ gr3)).cell (j := 3) rfl; have f3 := (Hck3.out.boxg (Hnn.out ▸ gr3)).frozen 3)
   | (refine wpList_load_row rfl 117 (.tmp 5) rfl w.heap.size rfl 117 E_ (0, 0) _ hbx Tryz.underlying117 rfl hi104 ?_)
   | (refine J41 rfl 120 _ rfl (E_.push (.bool true)) [(0, .agg E_), (1, .bool true)] (by kernel_rfl) hbu ?_)
   | (refine J2u rfl 120 (.tmp 39) (.tmp 38) rfl B (at_ * 17) (E_.push (.bool true)) rfl rfl hi107 hfr hone W2 HW2.out ?_))
  go_end0
  have own3' : w3.ownsRow w0.heap.size 3 1 (.slice (some ⟨g, 0, none⟩) (n + 1) cap) (td ++ [at_]).length ((td ++ [at_]).map fun (k : Nat) => Value.int .i64 (k : Int)) := by
   rw [List.length_append, Hnn.out, List.map_append];exact own3
  have gr3' : W3.grownBy w3 (Value.slice ta td.length tc).ownBlock := by rw [Hnn.out]; exact gr3
  exact HP.out _ _ (Hck3.out.set gr3' own3') (Hkp3.out.trans (Hck3.out.set_keeps gr3'))

end

theorem J35 {w0 : World} {p : Prg} {lo : Loc} {M B : Nat} {l : KV} {td : List Nat} {tv : Value} {w : World} (h : Ck w0 p lo M B l td tv w) (hcl : p.cl <= 200) (hn : td.length <= 100000) (x : Nat × KS) :
  Calls Tryz.prog 49 #[.pointer (some ⟨M, 0, none⟩), V x.1, .agg (kv x.2)] w fun e w' => e = .returned (.tuple #[]) /\ Keeps w w' /\ ∃ l' td' tv', ComeK p l td x l' td' /\ Ck w0 p lo M B l' td' tv' w' := by
 obtain ⟨at_, s⟩ := x;dsimp only;by_cases hat : at_ < p.cl
 ·cases hl : l at_ with
  | none =>
   refine (Jgp w0 p lo M B l td tv w h at_ s hat hcl hn hl).mono ?_;rintro e w' ⟨rfl, tv', h1, h2⟩;refine ⟨rfl, h2, _, _, tv', .inr (.inr ⟨hat, ?_, ?_, rfl⟩), h1⟩
   ·rintro ⟨u, e, _⟩
    dsimp only at e;rw [hl] at e; cases e
   ·dsimp only; rw [hl]; rfl
  | some t =>
   refine (Jgq w0 p lo M B l td tv w h at_ s t hat hcl hn hl).mono ?_;rintro e w' ⟨rfl, h2, ⟨h3, h4⟩ | ⟨h3, tv', h4⟩⟩
   ·refine ⟨rfl, h2, l, td, tv, .inr (.inl ⟨hat, ?_, rfl, rfl⟩), h4⟩
    dsimp only; rw [hl];exact ⟨t, rfl, h3⟩
   ·refine ⟨rfl, h2, _, _, tv', .inr (.inr ⟨hat, ?_, ?_, rfl⟩), h4⟩
    ·rintro ⟨u, e, hu⟩
     dsimp only at e hu;rw [hl] at e hu;cases e
     exact h3 hu
    ·dsimp only; rw [hl]; rfl
 ·refine (Jgr w0 p lo M B l td tv w h at_ s (by omega)).mono ?_
  rintro e w' ⟨rfl, m⟩;exact ⟨rfl, Keeps.of m, l, td, tv, .inl ⟨hat, rfl, rfl⟩, h.more m⟩
end
end Go.Proofs.YtapagihngaiebaaGreat
