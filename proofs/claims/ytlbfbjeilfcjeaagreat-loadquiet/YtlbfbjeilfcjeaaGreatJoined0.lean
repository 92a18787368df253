/-
  The texts Mem, Shown, Plain, Sem, StepEq, SemSpec, SpQuiet, KnPlain, CkPlain, CkRound, CkSafe, CkQuiet, HdShape, LdShape, CvPlain, KnLen, Ord, one behind the other, with what is used of them.
-/
import Derived.WalkKit
import Derived.Deep.WholeRow
import Derived.RowKit
import Derived.Laws.BitsAllLaws
import Derived.Laws.MathBits
import Derived.Test.YtlbfbjeilfcjeaaGreatProg
import Derived.Lib.Strings
import Derived.Lib.Slices
import Derived.Lib.Small
import Derived.Lib.Walk
import Derived.Lib.BitFns
import Derived.Deep.RegionHeld3
namespace Go.Proofs.YtlbfbjeilfcjeaaGreat
set_option maxHeartbeats 4000000
section
open Go.RowKit
def More (w w' : World) : Prop := Below w.heap.size w w'

theorem More.refl (w : World) : More w w := Below.refl _ _
theorem More.size {w w' : World} (h : More w w') : w.heap.size <= w'.heap.size := Below.size h
theorem More.block {w w' : World} (h : More w w') (i : Nat) (hi : i < w.heap.size) : w'.heap[i]? = w.heap[i]? := Below.block h i hi
theorem More.trans {a b c : World} (h : More a b) (k : More b c) : More a c := Below.trans h (Below.mono k h.size)
theorem More.alloc {w w' : World} (h : More w w') (c : Array Value) (t : TypeId) : More w (w'.alloc (.cells c t)) := Below.alloc h h.size _
theorem More.setCell {w w' : World} (h : More w w') {a : Addr} (ha : w.heap.size <= a.block) (v : Value) : More w (w'.setCell a v) := Below.setCell h ha v
theorem More.drew {w w' : World} (h : More w w') : More w w'.drew := Below.drew h
theorem More.grownBy {w w1 w2 : World} {row : Option Nat} (h : More w w1) (hg : w1.grownBy w2 row) (hr : ∀ k, row = some k -> w.heap.size <= k) : More w w2 := Below.grown h hg h.size hr
theorem J05 {w : World} {a : Addr} {v : Value} (h : w.cell? a = some v) : a.block < w.heap.size := by
 rcases Nat.lt_or_ge a.block w.heap.size with h' | h'
 ·exact h'
 ·have e : w.heap[a.block]? = none := by simp [h']
  unfold World.cell? at h;simp [e] at h
theorem More.cell {w w' : World} (h : More w w') {a : Addr} {v : Value} (hc : w.cell? a = some v) : w'.cell? a = some v := by
 rw [Below.cell h (J05 hc)]; exact hc

def Says (P : Prop) (w : World) (e : Ending) (w' : World) : Prop := ∃ r : Bool, e = .returned (.bool r) /\ (r = true ↔ P) /\ More w w'

theorem Says.yes {P : Prop} {w w' : World} (h : P) (m : More w w') : Says P w (.returned (.bool true)) w' := ⟨true, rfl, by simp [h], m⟩
theorem Says.no {P : Prop} {w w' : World} (h : ¬ P) (m : More w w') : Says P w (.returned (.bool false)) w' := ⟨false, rfl, by simp [h], m⟩

structure Ins where
 op : Int
 a : Int
 b : Int
 c : Int
 n : Int

structure Prg where
 rl : Nat
 log : Nat -> Int
 sec : Nat -> Bool
 cl : Nat
 ins : Nat -> Ins

def J0g (rl : Nat) (log : Nat -> Int) : Prop := rl <= 6 /\ ∀ i, i < rl -> 0 <= log i /\ log i <= 6

def Reg (regs x : Int) : Prop := 0 <= x /\ x < regs
def Rgn (rl : Nat) (x : Int) : Prop := 0 <= x /\ x < rl
def Plc (cl : Nat) (x : Int) : Prop := 0 <= x /\ x < cl
def Wrd (log : Nat -> Int) (c n : Int) : Prop := 0 <= n /\ n < 2 ^ (log c.toNat).toNat

def InsOk (rl : Nat) (log : Nat -> Int) (cl : Nat) (regs : Int) (i : Ins) : Prop :=
 if i.op = 1 then Reg regs i.a /\ i.b = 0 /\ i.c = 0
 else if i.op = 2 then Reg regs i.a /\ Reg regs i.b /\ i.c = 0 /\ i.n = 0
 else if i.op = 3 then Reg regs i.a /\ Reg regs i.b /\ Rgn rl i.c
 else if i.op = 4 then Reg regs i.a /\ Reg regs i.b /\ Rgn rl i.c
 else if i.op = 5 then Reg regs i.a /\ i.b = 0 /\ Rgn rl i.c /\ Wrd log i.c i.n
 else if i.op = 6 then Reg regs i.a /\ i.b = 0 /\ Rgn rl i.c /\ Wrd log i.c i.n
 else if i.op = 7 then i.a = 0 /\ i.b = 0 /\ i.c = 0 /\ Plc cl i.n
 else if i.op = 8 then Reg regs i.a /\ Reg regs i.b /\ (1 <= i.c /\ i.c <= 4) /\ Plc cl i.n
 else if i.op = 9 then Reg regs i.a /\ i.b = 0 /\ i.c = 0 /\ i.n = 0
 else if i.op = 10 then Reg regs i.a /\ Reg regs i.b /\ i.c = 0
 else if i.op = 11 then Reg regs i.a /\ i.b = 0 /\ i.c = 0 /\ 1 <= i.n /\ i.n <= 64
 else if i.op = 12 then i.a = 0 /\ i.b = 0 /\ i.c = 0 /\ i.n = 0
 else (21 <= i.op /\ i.op <= 30) /\ Reg regs i.a /\ Reg regs i.b /\ Reg regs i.c /\ i.n = 0

def J7l (rl : Nat) (log : Nat -> Int) (cl : Nat) (ins : Nat -> Ins) (most : Nat) (regs : Int) : Prop :=
 1 <= cl /\ cl <= most /\ ∀ i, i < cl -> InsOk rl log cl regs (ins i)

def Prg.Ok (p : Prg) (most : Nat) (regs : Int) : Prop := J0g p.rl p.log /\ J7l p.rl p.log p.cl p.ins most regs

def RegsAt (w : World) (b o rl : Nat) (log : Nat -> Int) (sec : Nat -> Bool) : Prop :=
 ∀ i, i < rl -> w.cell? ⟨b, o + i * 2, none⟩ = some (.int .i64 (log i)) /\ w.cell? ⟨b, o + i * 2 + 1, none⟩ = some (.bool (sec i))
def CodeAt (w : World) (b o cl : Nat) (ins : Nat -> Ins) : Prop :=
 ∀ i, i < cl -> w.cell? ⟨b, o + i * 5, none⟩ = some (.int .i64 (ins i).op) /\ w.cell? ⟨b, o + i * 5 + 1, none⟩ = some (.int .i64 (ins i).a) /\ w.cell? ⟨b, o + i * 5 + 2, none⟩ = some (.int .i64 (ins i).b) /\
  w.cell? ⟨b, o + i * 5 + 3, none⟩ = some (.int .i64 (ins i).c) /\ w.cell? ⟨b, o + i * 5 + 4, none⟩ = some (.int .i64 (ins i).n)

theorem RegsAt.more {w w' : World} (m : More w w') {b o rl : Nat} {log : Nat -> Int} {sec : Nat -> Bool} (h : RegsAt w b o rl log sec) : RegsAt w' b o rl log sec :=
 fun i hi => ⟨m.cell (h i hi).1, m.cell (h i hi).2⟩
theorem CodeAt.more {w w' : World} (m : More w w') {b o cl : Nat} {ins : Nat -> Ins} (h : CodeAt w b o cl ins) : CodeAt w' b o cl ins :=
 fun i hi => ⟨m.cell (h i hi).1, m.cell (h i hi).2.1, m.cell (h i hi).2.2.1, m.cell (h i hi).2.2.2.1, m.cell (h i hi).2.2.2.2⟩

structure Loc where
 ra : Option Addr
 rb : Nat
 ro : Nat
 rc : Nat
 ca : Option Addr
 cb : Nat
 co : Nat
 cc : Nat

structure PIn (w : World) (p : Prg) (l : Loc) : Prop where
 hr : 0 < p.rl -> l.ra = some ⟨l.rb, l.ro, none⟩
 hc : 0 < p.cl -> l.ca = some ⟨l.cb, l.co, none⟩
 regs : RegsAt w l.rb l.ro p.rl p.log p.sec
 code : CodeAt w l.cb l.co p.cl p.ins

theorem PIn.more {w w' : World} (m : More w w') {p : Prg} {l : Loc} (h : PIn w p l) : PIn w' p l := ⟨h.hr, h.hc, h.regs.more m, h.code.more m⟩

def Blw (n e : Int) : Prop := 0 <= n /\ n < e
def Btw (a b c : Int) : Prop := a <= c /\ c <= b

def J0c (l : Int) : Int := 2 ^ l.toNat

theorem J1b {k : Nat} (h : k <= 6) : (1 : Int) <= 2 ^ k /\ (2 : Int) ^ k <= 64 := by
 have : k = 0 \/ k = 1 \/ k = 2 \/ k = 3 \/ k = 4 \/ k = 5 \/ k = 6 := by omega
 rcases this with rfl | rfl | rfl | rfl | rfl | rfl | rfl <;> decide

theorem Says.is_yes {P : Prop} (h : P) {w : World} {e : Ending} {w' : World} (s : Says P w e w') : e = .returned (.bool true) /\ More w w' := by
 obtain ⟨r, rfl, hr, m⟩ := s;cases r
 ·simpa using hr.2 h
 ·exact ⟨rfl, m⟩
theorem Says.is_no {P : Prop} (h : ¬ P) {w : World} {e : Ending} {w' : World} (s : Says P w e w') : e = .returned (.bool false) /\ More w w' := by
 obtain ⟨r, rfl, hr, m⟩ := s;cases r
 ·exact ⟨rfl, m⟩
 ·exact absurd (hr.1 rfl) h

def ListsAt (w : World) (b o ml : Nat) (A : Nat -> Option Addr) (L C : Nat -> Nat) : Prop := ∀ i, i < ml -> w.cell? ⟨b, o + i, none⟩ = some (.slice (A i) (L i) (C i))
theorem ListsAt.more {w w' : World} (m : More w w') {b o ml : Nat} {A : Nat -> Option Addr} {L C : Nat -> Nat} (h : ListsAt w b o ml A L C) : ListsAt w' b o ml A L C := fun i hi => m.cell (h i hi)

def J1t (rl : Nat) (log : Nat -> Int) (ml : Nat) (L : Nat -> Nat) : Prop := J0g rl log /\ ml = rl /\ ∀ i, i < rl -> (L i : Int) = J0c (log i)
structure Se where
 kind : Int
 a : Int
 b : Int

def SeesAt (w : World) (b o : Nat) (l : List Se) : Prop :=
 ∀ i s, l[i]? = some s -> w.cell? ⟨b, o + i * 3, none⟩ = some (.int .i64 s.kind) /\ w.cell? ⟨b, o + i * 3 + 1, none⟩ = some (.int .i64 s.a) /\ w.cell? ⟨b, o + i * 3 + 2, none⟩ = some (.int .i64 s.b)
theorem SeesAt.more {w w' : World} (m : More w w') {b o : Nat} {l : List Se} (h : SeesAt w b o l) : SeesAt w' b o l :=
 fun i s hs => ⟨m.cell (h i s hs).1, m.cell (h i s hs).2.1, m.cell (h i s hs).2.2⟩

def SeenAt (w : World) (v : Value) (l : List Se) : Prop :=
 ∃ (a : Option Addr) (b o c : Nat), v = .slice a l.length c /\ (0 < l.length -> a = some ⟨b, o, none⟩) /\ SeesAt w b o l /\ l.length < 4611686018427387904
theorem SeenAt.more {w w' : World} (m : More w w') {v : Value} {l : List Se} (h : SeenAt w v l) : SeenAt w' v l := by
 obtain ⟨a, b, o, c, e, h1, h2, h3⟩ := h;exact ⟨a, b, o, c, e, h1, h2.more m, h3⟩

structure Mem where
 ml : Nat
 len : Nat -> Nat
 wd : Nat -> Nat -> Int
structure MLoc where
 ma : Option Addr
 mb : Nat
 mo : Nat
 mc : Nat
 A : Nat -> Option Addr
 C : Nat -> Nat
 gb : Nat -> Nat
 go : Nat -> Nat

structure MIn (w : World) (m : Mem) (l : MLoc) : Prop where
 hm : 0 < m.ml -> l.ma = some ⟨l.mb, l.mo, none⟩
 lists : ListsAt w l.mb l.mo m.ml l.A m.len l.C
 hg : ∀ i, i < m.ml -> 0 < m.len i -> l.A i = some ⟨l.gb i, l.go i, none⟩
 words : ∀ i, i < m.ml -> ∀ j, j < m.len i -> w.cell? ⟨l.gb i, l.go i + j, none⟩ = some (.int .i64 (m.wd i j))
 fitl : m.ml < 4611686018427387904
 fitw : ∀ i, i < m.ml -> m.len i < 4611686018427387904
theorem MIn.more {w w' : World} (m : More w w') {x : Mem} {l : MLoc} (h : MIn w x l) : MIn w' x l :=
 ⟨h.hm, h.lists.more m, h.hg, fun i hi j hj => m.cell (h.words i hi j hj), h.fitl, h.fitw⟩

structure Sh where
 fin : Int
 val : Int
 steps : Int
 seen : List Se
 mem : Mem

def ShownAt (w : World) (v : Value) (x : Sh) : Prop :=
 ∃ (sv : Value) (l : MLoc), v = .agg #[.int .i64 x.fin, .int .i64 x.val, .int .i64 x.steps, sv, .slice l.ma x.mem.ml l.mc] /\ SeenAt w sv x.seen /\ MIn w x.mem l
theorem ShownAt.more {w w' : World} (m : More w w') {v : Value} {x : Sh} (h : ShownAt w v x) : ShownAt w' v x := by
 obtain ⟨sv, l, e, h1, h2⟩ := h;exact ⟨sv, l, e, h1.more m, h2.more m⟩
def toU (a : Int) : Nat := (a % 18446744073709551616).toNat

theorem J59 (a : Int) : ((toU a : Nat) : Int) = a % 18446744073709551616 := by unfold toU; omega
theorem J3p (a : Int) : toU a < 18446744073709551616 := by unfold toU; omega

def opI (op a b : Int) : Int :=
 if op = 1 then wrap64 (a + b)
 else if op = 2 then wrap64 (a - b)
 else if op = 3 then wrap64 (a * b)
 else if op = 4 then wrap64 ((toU a &&& toU b : Nat) : Int)
 else if op = 5 then wrap64 ((toU a ||| toU b : Nat) : Int)
 else if op = 6 then wrap64 ((toU a ^^^ toU b : Nat) : Int)
 else if op = 7 then wrap64 ((toU a * 2 ^ (toU b % 64) : Nat) : Int)
 else if op = 8 then wrap64 ((toU a / 2 ^ (toU b % 64) : Nat) : Int)
 else if op = 9 then wrap64 ((toU a / toU b : Nat) : Int)
 else if op = 10 then wrap64 ((toU a % toU b : Nat) : Int)
 else 0

def J1x (c a b : Int) : Bool :=
 if c = 1 then toU a == toU b
 else if c = 2 then toU a != toU b
 else if c = 3 then decide (toU a < toU b)
 else if c = 4 then decide (toU b <= toU a)
 else false

theorem uwrap (a : Int) : IntKind.u64.wrap a = ((toU a : Nat) : Int) := by rw [IntKind.wrap_u64, J59]

theorem opI_1 (a b : Int) : opI 1 a b = wrap64 (a + b) := by simp [opI]
theorem opI_2 (a b : Int) : opI 2 a b = wrap64 (a - b) := by simp [opI]
theorem opI_3 (a b : Int) : opI 3 a b = wrap64 (a * b) := by simp [opI]
theorem opI_4 (a b : Int) : opI 4 a b = wrap64 ((toU a &&& toU b : Nat) : Int) := by simp [opI]
theorem opI_5 (a b : Int) : opI 5 a b = wrap64 ((toU a ||| toU b : Nat) : Int) := by simp [opI]
theorem opI_6 (a b : Int) : opI 6 a b = wrap64 ((toU a ^^^ toU b : Nat) : Int) := by simp [opI]
theorem opI_7 (a b : Int) : opI 7 a b = wrap64 ((toU a * 2 ^ (toU b % 64) : Nat) : Int) := by simp [opI]
theorem opI_8 (a b : Int) : opI 8 a b = wrap64 ((toU a / 2 ^ (toU b % 64) : Nat) : Int) := by simp [opI]
theorem opI_9 (a b : Int) : opI 9 a b = wrap64 ((toU a / toU b : Nat) : Int) := by simp [opI]
theorem Jir (a b : Int) : opI 10 a b = wrap64 ((toU a % toU b : Nat) : Int) := by simp [opI]
def B64 (x : Int) : Prop := -9223372036854775808 <= x /\ x <= 9223372036854775807
theorem Jb4 (x : Int) : B64 (wrap64 x) := by unfold B64 wrap64; omega
theorem J4a : B64 0 := by unfold B64; omega

def setR (r : Nat -> Int) (a v : Int) : Nat -> Int := fun j => if j = a.toNat then v else r j
def baseI (log : Nat -> Int) : Nat -> Int
 | 0 => 0
 | k + 1 => baseI log k + J0c (log k)

def regsI (r : Nat -> Int) (i : Ins) : (Nat -> Int) × List Se :=
 if i.op = 1 then (setR r i.a i.n, [])
 else if i.op = 2 then (setR r i.a (r i.b.toNat), [])
 else if i.op = 10 then (setR r i.a (wrap64 (r i.b.toNat + i.n)), [])
 else if i.op = 11 then (if r i.a.toNat < 0 \/ i.n <= r i.a.toNat then setR r i.a 0 else r, [])
 else if i.op = 12 then (r, [])
 else (setR r i.a (opI (i.op - 20) (r i.b.toNat) (r i.c.toNat)), if i.op = 29 \/ i.op = 30 then [⟨3, r i.b.toNat, r i.c.toNat⟩] else [])

def putI (i : Ins) : Int := if i.op = 3 \/ i.op = 5 then 0 else if i.op = 4 \/ i.op = 6 then 1 else -1
def idxI (r : Nat -> Int) (i : Ins) : Int := if i.op = 5 \/ i.op = 6 then i.n else wrap64 (r i.b.toNat + i.n)

structure St where
 at_ : Nat
 r : Nat -> Int
 m : Mem
 seen : List Se

def RegsR (w : World) (g : Nat) (r : Nat -> Int) : Prop := ∀ j, j < 10 -> w.cell? ⟨g, j, none⟩ = some (.int .i64 (r j)) /\ w.frozen? ⟨g, j, none⟩ = false

theorem J6e {w w' : World} {row : Option Nat} (hg : w.grownBy w' row) {a : Addr} {v : Value} (h : w.cell? a = some v) (hne : some a.block ≠ row) : w'.frozen? a = w.frozen? a :=
 World.frozen?_of_block (hg.block a.block (J05 h) hne)
theorem RegsR.kept {w w' : World} {row : Option Nat} (hg : w.grownBy w' row) {g : Nat} {r : Nat -> Int} (h : RegsR w g r) (hne : some g ≠ row) : RegsR w' g r :=
 fun j hj => ⟨hg.cell (h j hj).1 hne, (J6e hg (h j hj).1 hne).trans (h j hj).2⟩
theorem J22 (w : World) (row : Option Nat) : w.grownBy w.drew row := ⟨rfl, rfl, rfl, Nat.le_refl _, fun _ _ _ => rfl⟩
theorem J0j (w : World) (row : Option Nat) : w.grownBy w row := ⟨rfl, rfl, rfl, Nat.le_refl _, fun _ _ _ => rfl⟩
theorem J0q (w : World) (g o : Nat) (v : Value) : w.grownBy (w.setCell ⟨g, o, none⟩ v) (some g) :=
 ⟨rfl, rfl, rfl, by simp [World.setCell], fun k _ hne => Below.heap_setCell _ _ _ _ (by simpa using hne)⟩
theorem J0z {a b c : World} {row : Option Nat} (h : a.grownBy b row) (k : b.grownBy c row) : a.grownBy c row :=
 ⟨k.os.trans h.os, k.tape.trans h.tape, k.output.trans h.output, Nat.le_trans h.size k.size, fun i hi hne => (k.block i (Nat.lt_of_lt_of_le hi h.size) hne).trans (h.block i hi hne)⟩
theorem More.grow {w w' : World} (h : More w w') (row : Option Nat) : w.grownBy w' row := ⟨Below.os h, Below.tape h, Below.output h, Below.size h, fun k hk _ => Below.block h k hk⟩

theorem RegsR.set {w : World} {g : Nat} {r : Nat -> Int} (h : RegsR w g r) (a v : Int) : RegsR (w.setCell ⟨g, a.toNat, none⟩ (.int .i64 v)) g (setR r a v) := by
 intro j hj;refine ⟨?_, by rw [World.frozen?_setCell]; exact (h j hj).2⟩;unfold setR;by_cases e : j = a.toNat
 ·subst e
  rw [if_pos rfl];exact World.cell?_setCell_same _ _ _ (h _ hj).1
 ·rw [if_neg e, World.cell?_setCell_other _ _ _ _ (by simp <;> omega)]
  exact (h j hj).1

theorem RegsR.alloc {w : World} {g : Nat} {r : Nat -> Int} (h : RegsR w g r) (c : Array Value) (t : TypeId) : RegsR (w.alloc (.cells c t)) g r := h.kept (World.grownBy_alloc w _ none) (by simp)
theorem RegsR.drew {w : World} {g : Nat} {r : Nat -> Int} (h : RegsR w g r) : RegsR w.drew g r := h
theorem RegsR.more {w w' : World} (m : More w w') {g : Nat} {r : Nat -> Int} (h : RegsR w g r) : RegsR w' g r := h.kept (m.grow none) (by simp)
theorem J1m {w w1 : World} {row : Option Nat} (h : w.grownBy w1 row) (o : Obj) : w.grownBy (w1.alloc o) row := J0z h (World.grownBy_alloc w1 o row)
theorem J2j {w w1 : World} {row : Option Nat} (h : w.grownBy w1 row) : w.grownBy w1.drew row := J0z h (J22 w1 row)
theorem J10 {w w1 : World} {g : Nat} (h : w.grownBy w1 (some g)) (o : Nat) (v : Value) : w.grownBy (w1.setCell ⟨g, o, none⟩ v) (some g) := J0z h (J0q w1 g o v)
theorem J4s {w w1 w2 : World} {row : Option Nat} (h : w.grownBy w1 row) (m : More w1 w2) : w.grownBy w2 row := J0z h (m.grow row)
theorem J2b (x : Int) : IntKind.i64.wrap x = wrap64 x := by rw [IntKind.wrap_i64]; unfold wrap64; omega
end
section
open Go.RowKit
set_option linter.unusedVariables false
theorem J39 {i : Ins} (h : i.op = 3 \/ i.op = 5) : putI i = 0 := by unfold putI; rw [if_pos h]
theorem J4f {i : Ins} (h : i.op = 4 \/ i.op = 6) : putI i = 1 := by unfold putI; rw [if_neg (by omega), if_pos h]
theorem Jee {i : Ins} (h3 : ¬ i.op = 3) (h4 : ¬ i.op = 4) (h5 : ¬ i.op = 5) (h6 : ¬ i.op = 6) : putI i = -1 := by unfold putI; rw [if_neg (by omega), if_neg (by omega)]
structure Pl where
 at_ : Nat
 r : Nat -> Int
 wd : Nat -> Int
 past : Nat -> List Int

structure Sp where
 pl : Pl
 ahead : Bool
 since : Int
 back : Pl
 script : List Int
 seen : List Se

def setF {α : Type} (f : Nat -> α) (k : Nat) (v : α) : Nat -> α := fun j => if j = k then v else f j
def Sp.choice (s : Sp) : Int := s.script.headD 0
def Sp.leave (s : Sp) : Sp := if s.ahead = true then s else { s with ahead := true, since := -1, back := s.pl }
def Sp.returns (s : Sp) : Sp := { s with seen := s.seen ++ [⟨4, 0, 0⟩], ahead := false, pl := s.back }
def allI (p : Prg) : Int := baseI p.log p.rl

def Sp.see (s : Sp) (x : Se) : Sp := { s with seen := s.seen ++ [x] }
def Sp.go (s : Sp) (n : Nat) : Sp := { s with pl := { s.pl with at_ := n } }
def Sp.reg (s : Sp) (a v : Int) : Sp := { s with pl := { s.pl with r := setR s.pl.r a v } }

def wordS (p : Prg) (s : Sp) (i : Ins) (n : Int) : Sp :=
 if n < 0 \/ allI p <= n then (if putI i = 0 then s.reg i.a 0 else s)
 else if putI i = 1 then { s with pl := { s.pl with past := setF s.pl.past n.toNat (s.pl.past n.toNat ++ [s.pl.wd n.toNat]), wd := setF s.pl.wd n.toNat (s.pl.r i.a.toNat) } }
 else
  if 0 < s.choice /\ s.choice <= ((s.pl.past n.toNat).length : Int) then
   (({ s with script := s.script.tail }.reg i.a (s.pl.wd n.toNat)).leave).reg i.a ((s.pl.past n.toNat).getD ((s.pl.past n.toNat).length - s.choice.toNat) 0)
  else { s with script := s.script.tail }.reg i.a (s.pl.wd n.toNat)

def stepS (p : Prg) (s : Sp) : Sp × Bool × Option (Int × Int) :=
 if (p.ins s.pl.at_).op = 7 then (((s.see ⟨1, s.pl.at_, 0⟩).go (p.ins s.pl.at_).n.toNat), false, none)
 else if (p.ins s.pl.at_).op = 8 then
  (if J1x (p.ins s.pl.at_).c (s.pl.r (p.ins s.pl.at_).a.toNat) (s.pl.r (p.ins s.pl.at_).b.toNat) = true then
   (if s.choice = 0 then { (s.see ⟨1, s.pl.at_, 0⟩).go (p.ins s.pl.at_).n.toNat with script := s.script.tail } else ({ (s.see ⟨1, s.pl.at_, 0⟩).go (p.ins s.pl.at_).n.toNat with script := s.script.tail }.leave).go (s.pl.at_ + 1), false, none)
  else
   (if s.choice = 0 then { (s.see ⟨1, s.pl.at_, 0⟩).go (s.pl.at_ + 1) with script := s.script.tail } else ({ (s.see ⟨1, s.pl.at_, 0⟩).go (s.pl.at_ + 1) with script := s.script.tail }.leave).go (p.ins s.pl.at_).n.toNat, false, none))
 else if (p.ins s.pl.at_).op = 9 /\ s.ahead = false then (s.see ⟨1, s.pl.at_, 0⟩, false, some (1, s.pl.r (p.ins s.pl.at_).a.toNat))
 else if (p.ins s.pl.at_).op = 9 \/ (p.ins s.pl.at_).op = 12 then ((s.see ⟨1, s.pl.at_, 0⟩).go (s.pl.at_ + 1), true, none)
 else if 0 <= putI (p.ins s.pl.at_) then
  if s.ahead = false /\ (idxI s.pl.r (p.ins s.pl.at_) < 0 \/ J0c (p.log (p.ins s.pl.at_).c.toNat) <= idxI s.pl.r (p.ins s.pl.at_)) then (s.see ⟨1, s.pl.at_, 0⟩, false, some (2, 0))
  else (wordS p (((s.see ⟨1, s.pl.at_, 0⟩).see ⟨2, wrap64 (baseI p.log (p.ins s.pl.at_).c.toNat + idxI s.pl.r (p.ins s.pl.at_)), putI (p.ins s.pl.at_)⟩).go (s.pl.at_ + 1)) (p.ins s.pl.at_) (wrap64 (baseI p.log (p.ins s.pl.at_).c.toNat + idxI s.pl.r (p.ins s.pl.at_))), false, none)
 else ({ (s.see ⟨1, s.pl.at_, 0⟩).go (s.pl.at_ + 1) with pl := ⟨s.pl.at_ + 1, (regsI s.pl.r (p.ins s.pl.at_)).1, s.pl.wd, s.pl.past⟩, seen := s.seen ++ [⟨1, s.pl.at_, 0⟩] ++ (regsI s.pl.r (p.ins s.pl.at_)).2 }, false, none)

def Sp.after (s : Sp) (over : Bool) : Sp :=
 if s.ahead = true then (if over = true \/ s.since + 1 = 12 then ({ s with since := s.since + 1 }).returns else { s with since := s.since + 1 }) else s

structure ShF where
 fin : Int
 val : Int
 steps : Int
 seen : List Se
 wd : Nat -> Int

def Sp.noneLeft (s : Sp) (cl : Nat) : Sp := if cl <= s.pl.at_ /\ s.ahead = true then s.returns else s
def Sp.real (s : Sp) : Pl := if s.ahead = true then s.back else s.pl

def runS (p : Prg) : Nat -> Nat -> Sp -> ShF
 | 0, k, s => ⟨0, 0, k, s.seen, s.real.wd⟩
 | f + 1, k, s =>
  if p.cl <= (s.noneLeft p.cl).pl.at_ then ⟨2, 0, k, (s.noneLeft p.cl).seen, (s.noneLeft p.cl).real.wd⟩
  else match (stepS p (s.noneLeft p.cl)).2.2 with
   | some e => ⟨e.1, e.2, (k : Int) + 1, (stepS p (s.noneLeft p.cl)).1.seen, (stepS p (s.noneLeft p.cl)).1.real.wd⟩
   | none => runS p f (k + 1) ((stepS p (s.noneLeft p.cl)).1.after (stepS p (s.noneLeft p.cl)).2.1)

def playS (p : Prg) (wd : Nat -> Int) (script : List Int) (fuel : Nat) : ShF := runS p fuel 0 ⟨⟨0, fun _ => 0, wd, fun _ => []⟩, false, 0, ⟨0, fun _ => 0, wd, fun _ => []⟩, script, []⟩
end
section
open Go.RowKit
set_option linter.unusedSimpArgs false
set_option linter.unusedVariables false
def PubW (p : Prg) (n : Nat) : Prop := ∃ c, c < p.rl /\ p.sec c = false /\ baseI p.log c <= (n : Int) /\ (n : Int) < baseI p.log c + J0c (p.log c)

theorem Jd9 (l : Int) : 1 <= J0c l := by
 unfold J0c;have : (0 : Int) < 2 ^ l.toNat := Int.pow_pos (by decide);omega
theorem J5f (log : Nat -> Int) : ∀ a b, a <= b -> baseI log a <= baseI log b
 | a, 0, h => by
  obtain rfl : a = 0 := by omega
  exact Int.le_refl _
 | a, b + 1, h => by
  by_cases e : a = b + 1
  ·subst e; exact Int.le_refl _
  ·have h1 := J5f log a b (by omega)
   have h2 := Jd9 (log b);rw [baseI];omega
theorem J7m (log : Nat -> Int) (c : Nat) : 0 <= baseI log c := J5f log 0 c (Nat.zero_le _)
theorem J67 (log : Nat -> Int) (c rl : Nat) (h : c < rl) : baseI log c + J0c (log c) <= baseI log rl := J5f log (c + 1) rl h
theorem Jd0 (log : Nat -> Int) {c d : Nat} {n : Int} (h1 : baseI log c <= n) (h2 : n < baseI log c + J0c (log c)) (k1 : baseI log d <= n) (k2 : n < baseI log d + J0c (log d)) : c = d := by
 rcases Nat.lt_trichotomy c d with h | h | h
 ·have := J67 log c d h; omega
 ·exact h
 ·have := J67 log d c h; omega
theorem J7n {p : Prg} (h : J0g p.rl p.log) : ∀ c, c <= p.rl -> baseI p.log c <= 64 * (c : Int)
 | 0, _ => by simp [baseI]
 | c + 1, hc => by
  have h1 := J7n h c (by omega);have h2 := h.2 c (by omega);have h3 := J1b (k := (p.log c).toNat) (by omega);rw [baseI];unfold J0c
  push_cast
  omega

def Stop (p : Prg) (k : Nat) : Prop := p.cl <= k \/ (p.ins k).op = 9 \/ (p.ins k).op = 12
def Jey (p : Prg) (k : Nat) (r : Nat -> Int) : Nat := if J1x (p.ins k).c (r (p.ins k).a.toNat) (r (p.ins k).b.toNat) = true then (p.ins k).n.toNat else k + 1
def Jbq (p : Prg) (k : Nat) (r : Nat -> Int) : Nat := if J1x (p.ins k).c (r (p.ins k).a.toNat) (r (p.ins k).b.toNat) = true then k + 1 else (p.ins k).n.toNat

structure Tight (p : Prg) (W : Int -> Prop) (lab : Nat -> Nat -> Bool) (I : Nat -> (Nat -> Int) -> Prop) : Prop where
 regs : J0g p.rl p.log
 zero : W 0
 jump : ∀ k, k < p.cl -> (p.ins k).op = 7 -> ∀ r, I k r -> (∀ j, j < 10 -> lab k j = true -> lab (p.ins k).n.toNat j = true) /\ I (p.ins k).n.toNat r
 cond : ∀ k, k < p.cl -> (p.ins k).op = 8 -> ∀ r, I k r -> (p.ins k).a.toNat < 10 /\ (p.ins k).b.toNat < 10 /\ lab k (p.ins k).a.toNat = false /\ lab k (p.ins k).b.toNat = false /\
  (∀ j, j < 10 -> lab k j = true -> lab (p.ins k).n.toNat j = true /\ lab (k + 1) j = true) /\ I (Jey p k r) r /\ (I (Jbq p k r) r \/ Stop p (Jbq p k r))
 halt : ∀ k, k < p.cl -> (p.ins k).op = 9 -> ∀ r, I k r -> (p.ins k).a.toNat < 10 /\ lab k (p.ins k).a.toNat = false
 fence : ∀ k, k < p.cl -> (p.ins k).op = 12 -> ∀ r, I k r -> (∀ j, j < 10 -> lab k j = true -> lab (k + 1) j = true) /\ I (k + 1) r
 word : ∀ k, k < p.cl -> 0 <= putI (p.ins k) -> ∀ r, I k r -> (p.ins k).c.toNat < p.rl /\ (p.ins k).a.toNat < 10 /\ (0 <= idxI r (p.ins k) /\ idxI r (p.ins k) < J0c (p.log (p.ins k).c.toNat)) /\ (∀ t, (∀ j, j < 10 -> lab k j = false -> r j = t j) -> idxI r (p.ins k) = idxI t (p.ins k))
 load : ∀ k, k < p.cl -> putI (p.ins k) = 0 -> ∀ r, I k r -> (∀ j, j < 10 -> j ≠ (p.ins k).a.toNat -> lab k j = true -> lab (k + 1) j = true) /\ (p.sec (p.ins k).c.toNat = true -> lab (k + 1) (p.ins k).a.toNat = true) /\ ∀ v, W v -> I (k + 1) (setR r (p.ins k).a v)
 put : ∀ k, k < p.cl -> putI (p.ins k) = 1 -> ∀ r, I k r -> (∀ j, j < 10 -> lab k j = true -> lab (k + 1) j = true) /\ (lab k (p.ins k).a.toNat = true -> p.sec (p.ins k).c.toNat = true) /\ I (k + 1) r
 kept : ∀ k, k < p.cl -> putI (p.ins k) = 1 -> ∀ r, I k r -> W (r (p.ins k).a.toNat)
 op : ∀ k, k < p.cl -> ¬ (p.ins k).op = 7 -> ¬ (p.ins k).op = 8 -> ¬ (p.ins k).op = 9 -> ¬ (p.ins k).op = 12 -> ¬ 0 <= putI (p.ins k) -> ∀ r, I k r ->
  (∀ t, (∀ j, j < 10 -> lab k j = false -> r j = t j) -> (regsI r (p.ins k)).2 = (regsI t (p.ins k)).2 /\ ∀ j, j < 10 -> lab (k + 1) j = false -> (regsI r (p.ins k)).1 j = (regsI t (p.ins k)).1 j) /\ I (k + 1) (regsI r (p.ins k)).1

section
variable {p : Prg} {W : Int -> Prop} {lab : Nat -> Nat -> Bool} {I : Nat -> (Nat -> Int) -> Prop}

structure TwinP (p : Prg) (lab : Nat -> Nat -> Bool) (a b : Pl) : Prop where
 at_ : a.at_ = b.at_
 r : ∀ j, j < 10 -> lab a.at_ j = false -> a.r j = b.r j
 len : ∀ n, (a.past n).length = (b.past n).length
 wd : ∀ n, PubW p n -> a.wd n = b.wd n
 past : ∀ n, PubW p n -> a.past n = b.past n
def Wds (W : Int -> Prop) (wd : Nat -> Int) (past : Nat -> List Int) : Prop := ∀ n, W (wd n) /\ ∀ v, v ∈ past n -> W v
def Both (W : Int -> Prop) (I : Nat -> (Nat -> Int) -> Prop) (a b : Pl) : Prop := (I a.at_ a.r /\ Wds W a.wd a.past) /\ (I b.at_ b.r /\ Wds W b.wd b.past)
theorem Wds.put {W : Int -> Prop} {wd : Nat -> Int} {past : Nat -> List Int} (h : Wds W wd past) (n : Nat) {x : Int} (hx : W x) : Wds W (setF wd n x) (setF past n (past n ++ [wd n])) := fun m => by
 unfold setF;by_cases e : m = n
 ·rw [if_pos e, if_pos e]
  refine ⟨hx, fun v hv => ?_⟩;rcases List.mem_append.1 hv with q | q
  ·exact (h n).2 v q
  ·rw [List.mem_singleton.1 q]; exact (h n).1
 ·rw [if_neg e, if_neg e]; exact h m
theorem Wds.was {W : Int -> Prop} {wd : Nat -> Int} {past : Nat -> List Int} (h : Wds W wd past) (h0 : W 0) (n k : Nat) : W ((past n).getD k 0) := by
 rw [List.getD_eq_getElem?_getD];cases e : (past n)[k]? with
 | none => exact h0
 | some v => exact (h n).2 v (List.mem_of_getElem? e)

structure TwinS (p : Prg) (W : Int -> Prop) (lab : Nat -> Nat -> Bool) (I : Nat -> (Nat -> Int) -> Prop) (a b : Sp) : Prop where
 pl : TwinP p lab a.pl b.pl
 inv : Both W I a.pl b.pl \/ (a.ahead = true /\ Stop p a.pl.at_)
 ahead : a.ahead = b.ahead
 since : a.since = b.since
 script : a.script = b.script
 seen : a.seen = b.seen
 back : a.ahead = true -> TwinP p lab a.back b.back /\ Both W I a.back b.back

theorem TwinS.both {a b : Sp} (h : TwinS p W lab I a b) (ha : a.ahead = false) : Both W I a.pl b.pl := by
 rcases h.inv with q | ⟨q, _⟩
 ·exact q
 ·rw [ha] at q; cases q
theorem J1n (s : Sp) : s.leave.pl = s.pl := by unfold Sp.leave; split <;> rfl
theorem J3m (s : Sp) : s.leave.ahead = true := by
 unfold Sp.leave
 split
 ·assumption
 ·rfl
theorem TwinS.leave {a b : Sp} (h : TwinS p W lab I a b) (hb : Both W I a.pl b.pl) : TwinS p W lab I a.leave b.leave := by
 have e' := h.ahead;unfold Sp.leave;by_cases e : a.ahead = true
 ·rw [if_pos e, if_pos (e'.symm.trans e)]; exact h
 ·rw [if_neg e, if_neg (fun q => e (e'.trans q))]
  exact ⟨h.pl, .inl hb, rfl, rfl, h.script, h.seen, fun _ => ⟨h.pl, hb⟩⟩
theorem TwinS.returns {a b : Sp} (h : TwinS p W lab I a b) (ha : a.ahead = true) : TwinS p W lab I a.returns b.returns :=
 ⟨(h.back ha).1, .inl (h.back ha).2, rfl, h.since, h.script, by show _ ++ _ = _ ++ _; rw [h.seen], fun q => absurd q (by simp [Sp.returns])⟩
theorem TwinS.to {a b : Sp} (h : TwinS p W lab I a b) {x y : Pl} (hp : TwinP p lab x y) (hi : Both W I x y \/ (a.ahead = true /\ Stop p x.at_)) : TwinS p W lab I { a with pl := x } { b with pl := y } :=
 ⟨hp, hi, h.ahead, h.since, h.script, h.seen, h.back⟩
theorem TwinS.tail {a b : Sp} (h : TwinS p W lab I a b) : TwinS p W lab I { a with script := a.script.tail } { b with script := b.script.tail } :=
 ⟨h.pl, h.inv, h.ahead, h.since, by show a.script.tail = b.script.tail; rw [h.script], h.seen, h.back⟩
theorem TwinS.shown {a b : Sp} (h : TwinS p W lab I a b) (l : List Se) : TwinS p W lab I { a with seen := a.seen ++ l } { b with seen := b.seen ++ l } :=
 ⟨h.pl, h.inv, h.ahead, h.since, h.script, by show _ ++ _ = _ ++ _; rw [h.seen], h.back⟩

theorem TwinS.after {a b : Sp} (h : TwinS p W lab I a b) (over : Bool) : TwinS p W lab I (a.after over) (b.after over) := by
 have e' := h.ahead;have s' := h.since;have h' : TwinS p W lab I { a with since := a.since + 1 } { b with since := b.since + 1 } := ⟨h.pl, h.inv, h.ahead, by show a.since + 1 = b.since + 1; rw [s'], h.script, h.seen, h.back⟩;unfold Sp.after;by_cases e : a.ahead = true
 ·rw [if_pos e, if_pos (e'.symm.trans e)]
  by_cases e2 : over = true \/ a.since + 1 = 12
  ·rw [if_pos e2, if_pos (by rw [<- s']; exact e2)]; exact h'.returns e
  ·rw [if_neg e2, if_neg (by rw [<- s']; exact e2)]; exact h'
 ·rw [if_neg e, if_neg (fun q => e (e'.trans q))]; exact h
theorem TwinS.noneLeft {a b : Sp} (h : TwinS p W lab I a b) (cl : Nat) : TwinS p W lab I (a.noneLeft cl) (b.noneLeft cl) := by
 have e' := h.ahead;have a' := h.pl.at_;unfold Sp.noneLeft;by_cases e : cl <= a.pl.at_ /\ a.ahead = true
 ·rw [if_pos e, if_pos (by rw [<- e', <- a']; exact e)]; exact h.returns e.2
 ·rw [if_neg e, if_neg (by rw [<- e', <- a']; exact e)]; exact h
theorem TwinS.real {a b : Sp} (h : TwinS p W lab I a b) : TwinP p lab a.real b.real := by
 have e' := h.ahead;unfold Sp.real;by_cases e : a.ahead = true
 ·rw [if_pos e, if_pos (e'.symm.trans e)]; exact (h.back e).1
 ·rw [if_neg e, if_neg (fun q => e (e'.trans q))]; exact h.pl

theorem TwinP.go {a b : Pl} (h : TwinP p lab a b) (n : Nat) (hl : ∀ j, j < 10 -> lab a.at_ j = true -> lab n j = true) : TwinP p lab { a with at_ := n } { b with at_ := n } :=
 ⟨rfl, fun j hj e => h.r j hj (by cases q : lab a.at_ j with | false => rfl | true => rw [hl j hj q] at e; cases e), h.len, h.wd, h.past⟩
theorem TwinP.reg {a b : Pl} (h : TwinP p lab a b) (n : Nat) (x v v' : Int) (hl : ∀ j, j < 10 -> j ≠ x.toNat -> lab a.at_ j = true -> lab n j = true) (hv : lab n x.toNat = false -> v = v') :
  TwinP p lab { a with at_ := n, r := setR a.r x v } { b with at_ := n, r := setR b.r x v' } := by
 refine ⟨rfl, fun j hj e => ?_, h.len, h.wd, h.past⟩;show setR a.r x v j = setR b.r x v' j;unfold setR;by_cases q : j = x.toNat
 ·rw [if_pos q, if_pos q]; exact hv (q ▸ e)
 ·rw [if_neg q, if_neg q]
  refine h.r j hj ?_;cases q2 : lab a.at_ j with
  | false => rfl
  | true =>
   dsimp only at e;rw [hl j hj q q2] at e; cases e

theorem J9s (r : Nat -> Int) (a v v' : Int) : setR (setR r a v) a v' = setR r a v' := by
 funext j
 unfold setR
 split <;> rfl

structure J5e (p : Prg) (W : Int -> Prop) (lab : Nat -> Nat -> Bool) (I : Nat -> (Nat -> Int) -> Prop) (x y : Sp × Bool × Option (Int × Int)) : Prop where
 fin : x.2.2 = y.2.2
 ends : x.2.2 ≠ none -> x.1.seen = y.1.seen /\ TwinP p lab x.1.real y.1.real
 goes : x.2.2 = none -> TwinS p W lab I (x.1.after x.2.1) (y.1.after y.2.1)

theorem Jkv (T : Tight p W lab I) {k : Nat} (hk : k < p.cl) (hw : 0 <= putI (p.ins k)) {r : Nat -> Int} (hi : I k r) :
  wrap64 (baseI p.log (p.ins k).c.toNat + idxI r (p.ins k)) = baseI p.log (p.ins k).c.toNat + idxI r (p.ins k) /\ 0 <= baseI p.log (p.ins k).c.toNat + idxI r (p.ins k) /\ baseI p.log (p.ins k).c.toNat + idxI r (p.ins k) < allI p := by
 obtain ⟨h1, _, h5, _⟩ := T.word k hk hw r hi;have h6 := J67 p.log _ _ h1;have h7 := J7m p.log (p.ins k).c.toNat;have h8 := J7n T.regs p.rl (Nat.le_refl _);have h9 := T.regs.1;unfold allI;refine ⟨?_, by omega, by omega⟩;unfold wrap64;omega
theorem Jhf {c : Nat} {x : Int} (hc : c < p.rl) (h0 : 0 <= x) (h1 : x < J0c (p.log c)) : PubW p (baseI p.log c + x).toNat ↔ p.sec c = false := by
 have hb := J7m p.log c;constructor
 ·rintro ⟨d, hd, hs, h2, h3⟩
  have e : d = c := Jd0 p.log (n := baseI p.log c + x) (by omega) (by omega) (by omega) (by omega);rw [<- e]; exact hs
 ·intro hs
  exact ⟨c, hc, hs, by omega, by omega⟩

theorem Jfl (T : Tight p W lab I) (k : Nat) (hk : k < p.cl) (hp : 0 <= putI (p.ins k)) (r r' wd wd' : Nat -> Int) (past past' : Nat -> List Int) (ahead : Bool) (since : Int) (back back' : Pl) (script : List Int) (seen : List Se)
  (hr : ∀ j, j < 10 -> lab k j = false -> r j = r' j) (hlen : ∀ n, (past n).length = (past' n).length) (hwd : ∀ n, PubW p n -> wd n = wd' n) (hpast : ∀ n, PubW p n -> past n = past' n) (hI : I k r) (hJ : I k r') (hV : Wds W wd past) (hV' : Wds W wd' past')
  (hback : ahead = true -> TwinP p lab back back' /\ Both W I back back') (n : Int) (hn0 : 0 <= n) (hn1 : n < allI p) (hpub : PubW p n.toNat ↔ p.sec (p.ins k).c.toNat = false) :
  TwinS p W lab I (wordS p ⟨⟨k + 1, r, wd, past⟩, ahead, since, back, script, seen⟩ (p.ins k) n) (wordS p ⟨⟨k + 1, r', wd', past'⟩, ahead, since, back', script, seen⟩ (p.ins k) n) := by
 obtain ⟨w1, w2, _, _⟩ := T.word k hk hp r hI;have hno : ¬ (n < 0 \/ allI p <= n) := by omega
 by_cases hq : putI (p.ins k) = 1
 ·obtain ⟨t1, t2, t3⟩ := T.put k hk hq r hI
  have t3' := (T.put k hk hq r' hJ).2.2;unfold wordS;dsimp only;rw [if_neg hno, if_neg hno, if_pos hq, if_pos hq];refine ⟨⟨rfl, ?_, fun m => ?_, fun m hm => ?_, fun m hm => ?_⟩, .inl ⟨⟨t3, hV.put _ (T.kept k hk hq r hI)⟩, ⟨t3', hV'.put _ (T.kept k hk hq r' hJ)⟩⟩, rfl, rfl, rfl, rfl, hback⟩
  ·intro j hj e
   refine hr j hj ?_;cases q : lab k j with
   | false => rfl
   | true =>
    dsimp only at e;rw [t1 j hj q] at e; cases e
  ·dsimp only
   unfold setF;by_cases e : m = n.toNat
   ·rw [if_pos e, if_pos e, List.length_append, List.length_append, hlen]; rfl
   ·rw [if_neg e, if_neg e]; exact hlen m
  ·dsimp only
   unfold setF;by_cases e : m = n.toNat
   ·rw [if_pos e, if_pos e]
    refine hr _ w2 ?_;cases q : lab k (p.ins k).a.toNat with
    | false => rfl
    | true =>
     have := t2 q;rw [e] at hm;rw [hpub.1 hm] at this; cases this
   ·rw [if_neg e, if_neg e]; exact hwd m hm
  ·dsimp only
   unfold setF;by_cases e : m = n.toNat
   ·rw [e] at hm
    rw [if_pos e, if_pos e, hpast _ hm, hwd _ hm]
   ·rw [if_neg e, if_neg e]; exact hpast m hm
 ·have h0 : putI (p.ins k) = 0 := by
   unfold putI at hp hq |-;by_cases o1 : (p.ins k).op = 3 \/ (p.ins k).op = 5
   ·rw [if_pos o1]
   ·rw [if_neg o1] at hp hq
    by_cases o2 : (p.ins k).op = 4 \/ (p.ins k).op = 6
    ·rw [if_pos o2] at hq; exact absurd rfl hq
    ·rw [if_neg o2] at hp; omega
  obtain ⟨t1, t2, t3⟩ := T.load k hk h0 r hI;have t3' := (T.load k hk h0 r' hJ).2.2
  have hpubv : lab (k + 1) (p.ins k).a.toNat = false -> PubW p n.toNat := fun q => hpub.2 (by
   cases q2 : p.sec (p.ins k).c.toNat with
   | false => rfl
   | true => rw [t2 q2] at q; cases q)
  have base : TwinP p lab ⟨k, r, wd, past⟩ ⟨k, r', wd', past'⟩ := ⟨rfl, hr, hlen, hwd, hpast⟩;have P1 := base.reg (k + 1) (p.ins k).a (wd n.toNat) (wd' n.toNat) t1 (fun q => hwd _ (hpubv q));have B1 : Both W I ⟨k + 1, setR r (p.ins k).a (wd n.toNat), wd, past⟩ ⟨k + 1, setR r' (p.ins k).a (wd' n.toNat), wd', past'⟩ := ⟨⟨t3 _ (hV _).1, hV⟩, ⟨t3' _ (hV' _).1, hV'⟩⟩
  have S1 : TwinS p W lab I ⟨⟨k + 1, setR r (p.ins k).a (wd n.toNat), wd, past⟩, ahead, since, back, script.tail, seen⟩ ⟨⟨k + 1, setR r' (p.ins k).a (wd' n.toNat), wd', past'⟩, ahead, since, back', script.tail, seen⟩ :=
   ⟨P1, .inl B1, rfl, rfl, rfl, rfl, hback⟩
  unfold wordS;dsimp only;rw [if_neg hno, if_neg hno, if_neg hq, if_neg hq];unfold Sp.choice;dsimp only;rw [<- hlen];by_cases hc : 0 < script.headD 0 /\ script.headD 0 <= ((past n.toNat).length : Int)
  ·rw [if_pos hc, if_pos hc]
   have S2 := S1.leave B1
   have P2 : TwinP p lab { (Sp.leave ⟨⟨k + 1, setR r (p.ins k).a (wd n.toNat), wd, past⟩, ahead, since, back, script.tail, seen⟩).pl with r := setR (Sp.leave ⟨⟨k + 1, setR r (p.ins k).a (wd n.toNat), wd, past⟩, ahead, since, back, script.tail, seen⟩).pl.r (p.ins k).a ((past n.toNat).getD ((past n.toNat).length - (script.headD 0).toNat) 0) }
     { (Sp.leave ⟨⟨k + 1, setR r' (p.ins k).a (wd' n.toNat), wd', past'⟩, ahead, since, back', script.tail, seen⟩).pl with r := setR (Sp.leave ⟨⟨k + 1, setR r' (p.ins k).a (wd' n.toNat), wd', past'⟩, ahead, since, back', script.tail, seen⟩).pl.r (p.ins k).a ((past' n.toNat).getD ((past n.toNat).length - (script.headD 0).toNat) 0) } := by
    rw [J1n, J1n];exact P1.reg (k + 1) (p.ins k).a _ _ (fun j _ _ q => q) (fun q => by rw [hpast _ (hpubv q)])
   refine TwinS.to S2 P2 (.inl ⟨⟨?_, ?_⟩, ⟨?_, ?_⟩⟩)
   ·rw [J1n]
    show I (k + 1) (setR (setR r _ _) _ _);rw [J9s]; exact t3 _ (hV.was T.zero _ _)
   ·rw [J1n]; exact hV
   ·rw [J1n]
    show I (k + 1) (setR (setR r' _ _) _ _);rw [J9s]; exact t3' _ (hV'.was T.zero _ _)
   ·rw [J1n]; exact hV'
  ·rw [if_neg hc, if_neg hc]
   exact S1

theorem Jfb (T : Tight p W lab I) {a b : Sp} (h : TwinS p W lab I a b) (hk : a.pl.at_ < p.cl) (h12 : (p.ins a.pl.at_).op = 9 \/ (p.ins a.pl.at_).op = 12) : J5e p W lab I (stepS p a) (stepS p b) := by
 have hat := h.pl.at_;have hstep : TwinS p W lab I (a.see ⟨1, a.pl.at_, 0⟩) (b.see ⟨1, a.pl.at_, 0⟩) := h.shown _;have e7 : ¬ (p.ins a.pl.at_).op = 7 := by omega
 have e8 : ¬ (p.ins a.pl.at_).op = 8 := by omega
 unfold stepS;rw [<- hat, if_neg e7, if_neg e8, if_neg e7, if_neg e8];by_cases e9 : (p.ins a.pl.at_).op = 9 /\ a.ahead = false
 ·have e9b : (p.ins a.pl.at_).op = 9 /\ b.ahead = false := by rw [<- h.ahead]; exact e9
  rw [if_pos e9, if_pos e9b];obtain ⟨t1, t2⟩ := T.halt _ hk e9.1 _ (h.both e9.2).1.1;refine ⟨?_, fun _ => ⟨?_, ?_⟩, fun q => by cases q⟩
  ·show some _ = some _
   rw [h.pl.r _ t1 t2]
  ·exact hstep.seen
  ·exact hstep.real
 ·have e9b : ¬ ((p.ins a.pl.at_).op = 9 /\ b.ahead = false) := by rw [<- h.ahead]; exact e9
  rw [if_neg e9, if_neg e9b, if_pos h12, if_pos h12];refine ⟨rfl, fun q => absurd rfl q, fun _ => ?_⟩;by_cases ha : a.ahead = true
  ·-- it is taken back
   have hb : b.ahead = true := h.ahead ▸ ha;have hs := hstep.seen;show TwinS p W lab I (Sp.after _ true) (Sp.after _ true);unfold Sp.after;rw [if_pos (show ((a.see ⟨1, a.pl.at_, 0⟩).go (a.pl.at_ + 1)).ahead = true from ha), if_pos (.inl rfl), if_pos (show ((b.see ⟨1, a.pl.at_, 0⟩).go (a.pl.at_ + 1)).ahead = true from hb), if_pos (.inl rfl)];refine ⟨(h.back ha).1, .inl (h.back ha).2, rfl, ?_, h.script, ?_, fun q => absurd q (by simp [Sp.returns])⟩
   ·show a.since + 1 = b.since + 1
    rw [h.since]
   ·show (a.see ⟨1, a.pl.at_, 0⟩).seen ++ [_] = (b.see ⟨1, a.pl.at_, 0⟩).seen ++ [_]
    rw [hs]
  ·-- an IFence that is gone past
   have ha' : a.ahead = false := by simpa using ha
   have o12 : (p.ins a.pl.at_).op = 12 := by rcases h12 with q | q; exact absurd ⟨q, ha'⟩ e9; exact q
   have hbo := h.both ha';obtain ⟨t1, t2⟩ := T.fence _ hk o12 _ hbo.1.1;refine TwinS.after ?_ true;refine hstep.to (h.pl.go _ t1) (.inl ⟨⟨t2, hbo.1.2⟩, ⟨?_, hbo.2.2⟩⟩);have := hbo.2.1;rw [<- hat] at this;exact (T.fence _ hk o12 _ this).2

theorem Jfa (T : Tight p W lab I) {a b : Sp} (h : TwinS p W lab I a b) (hk : a.pl.at_ < p.cl) (hbo : Both W I a.pl b.pl) (e7 : (p.ins a.pl.at_).op = 7) : J5e p W lab I (stepS p a) (stepS p b) := by
 have hat := h.pl.at_;have hstep : TwinS p W lab I (a.see ⟨1, a.pl.at_, 0⟩) (b.see ⟨1, a.pl.at_, 0⟩) := h.shown _;have hI := hbo.1.1;have hJ := hbo.2.1;rw [<- hat] at hJ;obtain ⟨t1, t2⟩ := T.jump _ hk e7 _ hI;have t2' := (T.jump _ hk e7 _ hJ).2;unfold stepS;rw [<- hat, if_pos e7, if_pos e7];refine ⟨rfl, fun q => absurd rfl q, fun _ => TwinS.after (hstep.to (h.pl.go _ t1) (.inl ⟨⟨t2, hbo.1.2⟩, ⟨t2', hbo.2.2⟩⟩)) false⟩

theorem Jf9 (T : Tight p W lab I) {a b : Sp} (h : TwinS p W lab I a b) (hk : a.pl.at_ < p.cl) (hbo : Both W I a.pl b.pl) (e7 : ¬ (p.ins a.pl.at_).op = 7) (e8 : (p.ins a.pl.at_).op = 8) : J5e p W lab I (stepS p a) (stepS p b) := by
 have hat := h.pl.at_;have hstep : TwinS p W lab I (a.see ⟨1, a.pl.at_, 0⟩) (b.see ⟨1, a.pl.at_, 0⟩) := h.shown _;have hI := hbo.1.1;have hJ := hbo.2.1;rw [<- hat] at hJ;obtain ⟨t1, t2, t3, t4, t5, wI⟩ := T.cond _ hk e8 _ hI;have wJ := (T.cond _ hk e8 _ hJ).2.2.2.2.2;have ra := h.pl.r _ t1 t3;have rb := h.pl.r _ t2 t4;have ch : a.choice = b.choice := by unfold Sp.choice; rw [h.script]
 unfold Jey Jbq at wI wJ;rw [<- ra, <- rb] at wJ;unfold stepS;rw [<- hat, if_neg e7, if_neg e7, if_pos e8, if_pos e8, <- ra, <- rb, <- ch];by_cases hh : J1x (p.ins a.pl.at_).c (a.pl.r (p.ins a.pl.at_).a.toNat) (a.pl.r (p.ins a.pl.at_).b.toNat) = true
 ·rw [if_pos hh, if_pos hh] at wI
  rw [if_pos hh, if_pos hh] at wJ;rw [if_pos hh, if_pos hh]
  have h1 : TwinS p W lab I { (a.see ⟨1, a.pl.at_, 0⟩).go (p.ins a.pl.at_).n.toNat with script := a.script.tail } { (b.see ⟨1, a.pl.at_, 0⟩).go (p.ins a.pl.at_).n.toNat with script := b.script.tail } :=
   (hstep.to (h.pl.go _ (fun j hj q => (t5 j hj q).1)) (.inl ⟨⟨wI.1, hbo.1.2⟩, ⟨wJ.1, hbo.2.2⟩⟩)).tail
  by_cases hc : a.choice = 0
  ·rw [if_pos hc, if_pos hc]
   exact ⟨rfl, fun q => absurd rfl q, fun _ => h1.after false⟩
  ·rw [if_neg hc, if_neg hc]
   refine ⟨rfl, fun q => absurd rfl q, fun _ => TwinS.after ?_ false⟩;have h2 := h1.leave ⟨⟨wI.1, hbo.1.2⟩, ⟨wJ.1, hbo.2.2⟩⟩;refine TwinS.to h2 (x := { (Sp.leave _).pl with at_ := a.pl.at_ + 1 }) (y := { (Sp.leave _).pl with at_ := a.pl.at_ + 1 }) ?_ ?_
   ·rw [J1n, J1n]
    exact h.pl.go _ (fun j hj q => (t5 j hj q).2)
   ·rw [J1n, J1n]
    rcases wI.2 with q | q
    ·rcases wJ.2 with q2 | q2
     ·exact .inl ⟨⟨q, hbo.1.2⟩, ⟨q2, hbo.2.2⟩⟩
     ·exact .inr ⟨J3m _, q2⟩
    ·exact .inr ⟨J3m _, q⟩
 ·rw [if_neg hh, if_neg hh] at wI
  rw [if_neg hh, if_neg hh] at wJ;rw [if_neg hh, if_neg hh]
  have h1 : TwinS p W lab I { (a.see ⟨1, a.pl.at_, 0⟩).go (a.pl.at_ + 1) with script := a.script.tail } { (b.see ⟨1, a.pl.at_, 0⟩).go (a.pl.at_ + 1) with script := b.script.tail } :=
   (hstep.to (h.pl.go _ (fun j hj q => (t5 j hj q).2)) (.inl ⟨⟨wI.1, hbo.1.2⟩, ⟨wJ.1, hbo.2.2⟩⟩)).tail
  by_cases hc : a.choice = 0
  ·rw [if_pos hc, if_pos hc]
   exact ⟨rfl, fun q => absurd rfl q, fun _ => h1.after false⟩
  ·rw [if_neg hc, if_neg hc]
   refine ⟨rfl, fun q => absurd rfl q, fun _ => TwinS.after ?_ false⟩;have h2 := h1.leave ⟨⟨wI.1, hbo.1.2⟩, ⟨wJ.1, hbo.2.2⟩⟩;refine TwinS.to h2 (x := { (Sp.leave _).pl with at_ := (p.ins a.pl.at_).n.toNat }) (y := { (Sp.leave _).pl with at_ := (p.ins a.pl.at_).n.toNat }) ?_ ?_
   ·rw [J1n, J1n]
    exact h.pl.go _ (fun j hj q => (t5 j hj q).1)
   ·rw [J1n, J1n]
    rcases wI.2 with q | q
    ·rcases wJ.2 with q2 | q2
     ·exact .inl ⟨⟨q, hbo.1.2⟩, ⟨q2, hbo.2.2⟩⟩
     ·exact .inr ⟨J3m _, q2⟩
    ·exact .inr ⟨J3m _, q⟩

theorem Jfc (T : Tight p W lab I) {a b : Sp} (h : TwinS p W lab I a b) (hk : a.pl.at_ < p.cl) (hbo : Both W I a.pl b.pl) (e7 : ¬ (p.ins a.pl.at_).op = 7) (e8 : ¬ (p.ins a.pl.at_).op = 8) (h12 : ¬ ((p.ins a.pl.at_).op = 9 \/ (p.ins a.pl.at_).op = 12)) (hp : 0 <= putI (p.ins a.pl.at_)) : J5e p W lab I (stepS p a) (stepS p b) := by
 have hat := h.pl.at_;have hstep : TwinS p W lab I (a.see ⟨1, a.pl.at_, 0⟩) (b.see ⟨1, a.pl.at_, 0⟩) := h.shown _;have hI := hbo.1.1;have hJ := hbo.2.1;rw [<- hat] at hJ;have e9 : ¬ (p.ins a.pl.at_).op = 9 := by omega
 have e9a : ¬ ((p.ins a.pl.at_).op = 9 /\ a.ahead = false) := fun q => e9 q.1
 have e9b : ¬ ((p.ins a.pl.at_).op = 9 /\ b.ahead = false) := fun q => e9 q.1
 obtain ⟨w1, w2, w3, w4⟩ := T.word _ hk hp _ hI;have hx := w4 b.pl.r h.pl.r;obtain ⟨x0, x1⟩ := w3;obtain ⟨n1, n2, n3⟩ := Jkv T hk hp hI;have hpub := Jhf w1 x0 x1;have oa : ¬ (a.ahead = false /\ (idxI a.pl.r (p.ins a.pl.at_) < 0 \/ J0c (p.log (p.ins a.pl.at_).c.toNat) <= idxI a.pl.r (p.ins a.pl.at_))) := by omega
 have ob : ¬ (b.ahead = false /\ (idxI a.pl.r (p.ins a.pl.at_) < 0 \/ J0c (p.log (p.ins a.pl.at_).c.toNat) <= idxI a.pl.r (p.ins a.pl.at_))) := by omega
 unfold stepS;rw [<- hat, if_neg e7, if_neg e7, if_neg e8, if_neg e8, if_neg e9a, if_neg e9b, if_neg h12, if_neg h12, if_pos hp, if_pos hp, <- hx, if_neg oa, if_neg ob, n1];refine ⟨rfl, fun q => absurd rfl q, fun _ => TwinS.after ?_ false⟩;generalize hn : baseI p.log (p.ins a.pl.at_).c.toNat + idxI a.pl.r (p.ins a.pl.at_) = n at *;have hse : a.seen ++ [(⟨1, a.pl.at_, 0⟩ : Se)] ++ [⟨2, n, putI (p.ins a.pl.at_)⟩] = b.seen ++ [(⟨1, a.pl.at_, 0⟩ : Se)] ++ [⟨2, n, putI (p.ins a.pl.at_)⟩] := by rw [h.seen]
 have W := Jfl T a.pl.at_ hk hp a.pl.r b.pl.r a.pl.wd b.pl.wd a.pl.past b.pl.past a.ahead a.since a.back b.back a.script (a.seen ++ [(⟨1, a.pl.at_, 0⟩ : Se)] ++ [⟨2, n, putI (p.ins a.pl.at_)⟩]) h.pl.r h.pl.len h.pl.wd h.pl.past hI hJ hbo.1.2 hbo.2.2 h.back n n2 n3 hpub
 have eb : (((b.see ⟨1, a.pl.at_, 0⟩).see ⟨2, n, putI (p.ins a.pl.at_)⟩).go (a.pl.at_ + 1)) = ⟨⟨a.pl.at_ + 1, b.pl.r, b.pl.wd, b.pl.past⟩, a.ahead, a.since, b.back, a.script, a.seen ++ [(⟨1, a.pl.at_, 0⟩ : Se)] ++ [⟨2, n, putI (p.ins a.pl.at_)⟩]⟩ := by
  rw [hse, h.ahead, h.since, h.script]; rfl
 rw [eb];exact W

theorem Jkl (T : Tight p W lab I) {a b : Sp} (h : TwinS p W lab I a b) (hk : a.pl.at_ < p.cl) (hbo : Both W I a.pl b.pl) (e7 : ¬ (p.ins a.pl.at_).op = 7) (e8 : ¬ (p.ins a.pl.at_).op = 8) (h12 : ¬ ((p.ins a.pl.at_).op = 9 \/ (p.ins a.pl.at_).op = 12)) (hp : ¬ 0 <= putI (p.ins a.pl.at_)) : J5e p W lab I (stepS p a) (stepS p b) := by
 have hat := h.pl.at_;have hstep : TwinS p W lab I (a.see ⟨1, a.pl.at_, 0⟩) (b.see ⟨1, a.pl.at_, 0⟩) := h.shown _;have hI := hbo.1.1;have hJ := hbo.2.1;rw [<- hat] at hJ;have e9 : ¬ (p.ins a.pl.at_).op = 9 := by omega
 have e9a : ¬ ((p.ins a.pl.at_).op = 9 /\ a.ahead = false) := fun q => e9 q.1
 have e9b : ¬ ((p.ins a.pl.at_).op = 9 /\ b.ahead = false) := fun q => e9 q.1
 obtain ⟨t1, v1⟩ := T.op _ hk e7 e8 e9 (by omega) hp _ hI;have v2 := (T.op _ hk e7 e8 e9 (by omega) hp _ hJ).2;obtain ⟨u1, u2⟩ := t1 b.pl.r h.pl.r;unfold stepS;rw [<- hat, if_neg e7, if_neg e7, if_neg e8, if_neg e8, if_neg e9a, if_neg e9b, if_neg h12, if_neg h12, if_neg hp, if_neg hp];generalize regsI a.pl.r (p.ins a.pl.at_) = x at u1 u2 v1 |-;generalize regsI b.pl.r (p.ins a.pl.at_) = y at u1 u2 v2 |-;obtain ⟨xr, xs⟩ := x;obtain ⟨yr, ys⟩ := y;dsimp only at u1 u2 v1 v2 |-;subst u1;refine ⟨rfl, fun q => absurd rfl q, fun _ => TwinS.after ?_ false⟩;exact ⟨⟨rfl, u2, h.pl.len, h.pl.wd, h.pl.past⟩, .inl ⟨⟨v1, hbo.1.2⟩, ⟨v2, hbo.2.2⟩⟩, h.ahead, h.since, h.script, by dsimp only; rw [h.seen], h.back⟩

theorem Jfj (T : Tight p W lab I) {a b : Sp} (h : TwinS p W lab I a b) (hk : a.pl.at_ < p.cl) : J5e p W lab I (stepS p a) (stepS p b) := by
 by_cases h12 : (p.ins a.pl.at_).op = 9 \/ (p.ins a.pl.at_).op = 12
 ·exact Jfb T h hk h12
 ·have hbo : Both W I a.pl b.pl := by
   rcases h.inv with q | ⟨_, q⟩
   ·exact q
   ·unfold Stop at q; omega
  by_cases e7 : (p.ins a.pl.at_).op = 7
  ·exact Jfa T h hk hbo e7
  by_cases e8 : (p.ins a.pl.at_).op = 8
  ·exact Jf9 T h hk hbo e7 e8
  by_cases hp : 0 <= putI (p.ins a.pl.at_)
  ·exact Jfc T h hk hbo e7 e8 h12 hp
  ·exact Jkl T h hk hbo e7 e8 h12 hp

theorem Jc1 (T : Tight p W lab I) : ∀ (f k : Nat) (a b : Sp), TwinS p W lab I a b -> (runS p f k a).fin = (runS p f k b).fin /\ (runS p f k a).val = (runS p f k b).val /\ (runS p f k a).steps = (runS p f k b).steps /\ (runS p f k a).seen = (runS p f k b).seen /\ ∀ n, PubW p n -> (runS p f k a).wd n = (runS p f k b).wd n
 | 0, k, a, b, h => ⟨rfl, rfl, rfl, h.seen, h.real.wd⟩
 | f + 1, k, a, b, h => by
  have h' := h.noneLeft p.cl;have hat := h'.pl.at_;rw [runS, runS];by_cases e : p.cl <= (a.noneLeft p.cl).pl.at_
  ·rw [if_pos e, if_pos (by rw [<- hat]; exact e)]
   exact ⟨rfl, rfl, rfl, h'.seen, h'.real.wd⟩
  ·rw [if_neg e, if_neg (by rw [<- hat]; exact e)]
   have st := Jfj T h' (by omega);have hf := st.fin;cases q : (stepS p (a.noneLeft p.cl)).2.2 with
   | none =>
    rw [q] at hf;rw [<- hf];exact Jc1 T f (k + 1) _ _ (st.goes q)
   | some x =>
    rw [q] at hf;rw [<- hf];have se := st.ends (by rw [q]; simp);exact ⟨rfl, rfl, rfl, se.1, se.2.wd⟩

theorem Jb1 (T : Tight p W lab I) (h0 : I 0 (fun _ => 0)) (wd wd' : Nat -> Int) (hw : ∀ n, PubW p n -> wd n = wd' n) (hV : ∀ n, W (wd n)) (hV' : ∀ n, W (wd' n)) (script : List Int) (f : Nat) :
  (playS p wd script f).fin = (playS p wd' script f).fin /\ (playS p wd script f).val = (playS p wd' script f).val /\ (playS p wd script f).steps = (playS p wd' script f).steps /\ (playS p wd script f).seen = (playS p wd' script f).seen /\ ∀ n, PubW p n -> (playS p wd script f).wd n = (playS p wd' script f).wd n :=
 Jc1 T f 0 _ _ ⟨⟨rfl, fun _ _ _ => rfl, fun _ => rfl, hw, fun _ _ => rfl⟩, .inl ⟨⟨h0, fun n => ⟨hV n, fun v q => (by cases q)⟩⟩, ⟨h0, fun n => ⟨hV' n, fun v q => (by cases q)⟩⟩⟩, rfl, rfl, rfl, rfl, fun q => by cases q⟩

def Still (h : Prg) : Prop := ∃ W lab I, (∀ x, B64 x -> W x) /\ Tight h W lab I /\ I 0 (fun _ => 0)
end
end
section
open Go.RowKit
def bnd (k : Int) : Int := if k < 0 \/ 16 < k then 17 else k

def hasI (k n : Int) : Bool := decide (bnd k = 17 \/ (0 <= n /\ n < 2 ^ (bnd k).toNat))

def fitI (n : Int) : Int := bnd (bitLen (toU n) : Int)

def opB (op a b : Int) : Int :=
 if op = 1 then (if a = 0 \/ b = 0 then max a b else bnd (max a b + 1))
 else if op = 3 then (if a = 0 \/ b = 0 then 0 else bnd (a + b))
 else if op = 4 then min a b
 else if op = 5 \/ op = 6 then max a b
 else if op = 8 \/ op = 9 \/ op = 10 then a
 else 17

theorem J0w (k : Int) : 0 <= bnd k /\ bnd k <= 17 := by unfold bnd; split <;> omega
theorem J3t {k : Int} (h0 : 0 <= k) (h1 : k <= 17) : bnd k = k := by unfold bnd; split <;> omega
theorem J4p {k : Int} (h : k < 0 \/ 16 < k) : bnd k = 17 := by unfold bnd; rw [if_pos h]
theorem Jba {k : Int} (h0 : 0 <= k) (h1 : k <= 16) : bnd k = k := J3t h0 (by omega)

theorem J8u (u b : Nat) : bitLen u <= b ↔ u < 2 ^ b := by
 have ⟨h1, h2⟩ := bitLen_spec u;constructor
 ·intro h; exact Nat.lt_of_lt_of_le h1 (Nat.pow_le_pow_right (by decide) h)
 ·intro h
  by_cases h0 : u = 0
  ·subst h0; simp [bitLen]
  ·have h3 := h2 h0
   have h4 : 2 ^ (bitLen u - 1) < 2 ^ b := Nat.lt_of_le_of_lt h3 h;have h5 := (Nat.pow_lt_pow_iff_right (a := 2) (by decide)).1 h4;omega

theorem Jhc {b : Nat} (h : b <= 16) : 2 ^ b <= 65536 := Nat.pow_le_pow_right (n := 2) (by decide) h

theorem Jkr {n : Int} (h0 : 0 <= n) (h1 : n <= 9223372036854775807) : ((toU n : Nat) : Int) = n := by rw [J59]; omega
theorem Jfh {n : Int} (h0 : n < 0) (h1 : -9223372036854775808 <= n) : 9223372036854775808 <= toU n := by unfold toU; omega

theorem Jgc {n : Int} (h0 : -9223372036854775808 <= n) (h1 : n <= 9223372036854775807) {b : Nat} (hb : b <= 16) :
  fitI n <= (b : Int) ↔ (0 <= n /\ n < 2 ^ b) := by
 have hp := Jhc hb;have hl := J8u (toU n) b;have hf : fitI n <= (b : Int) ↔ bitLen (toU n) <= b := by unfold fitI bnd; split <;> omega
 rw [hf, hl];have hc : ((2 ^ b : Nat) : Int) = 2 ^ b := by push_cast; rfl
 rw [<- hc];by_cases hn : n < 0
 ·have := Jfh hn h0; omega
 ·have := Jkr (n := n) (by omega) h1; omega

theorem Jgg {n : Int} (h0 : -9223372036854775808 <= n) (h1 : n <= 9223372036854775807) (k : Int) :
  hasI k n = decide (fitI n <= bnd k) := by
 unfold hasI
 congr 1
 apply propext;have hr := J0w k;have hf : fitI n <= 17 := (J0w _).2;by_cases h : bnd k = 17
 ·rw [h]; simp [hf]
 ·have h2 := Jgc h0 h1 (b := (bnd k).toNat) (by omega)
  rw [show (((bnd k).toNat : Nat) : Int) = bnd k by omega] at h2;rw [h2]; simp [h]

theorem J8y (n : Int) : 0 <= fitI n /\ fitI n <= 17 := J0w _

theorem Jgf {k n : Int} (h : bnd k = 17) : hasI k n = true := by unfold hasI; simp [h]
theorem Jed (k : Nat) : ((2 ^ k : Nat) : Int) = 2 ^ k := by push_cast; rfl
end
section
open Go.RowKit
set_option linter.unusedVariables false
structure Kn where
 b : Int
 s : Bool

namespace Kn
def of (n : Int) : Kn := ⟨fitI n, false⟩
def join (x y : Kn) : Kn := ⟨max (bnd x.b) (bnd y.b), x.s || y.s⟩
def less (x y : Kn) : Kn := ⟨min (bnd x.b) (bnd y.b), x.s⟩
def op (o : Int) (x y : Kn) : Kn := ⟨opB o (bnd x.b) (bnd y.b), x.s || y.s⟩
def index (k : Kn) (n : Int) : Kn := if n < 0 then ⟨17, k.s⟩ else op 1 k (of n)
def Norm (x : Kn) : Prop := 0 <= x.b /\ x.b <= 17
def le (x y : Kn) : Prop := bnd x.b <= bnd y.b /\ (x.s = true -> y.s = true)

theorem le_refl (x : Kn) : le x x := ⟨Int.le_refl _, id⟩
theorem le_trans {x y z : Kn} (h : le x y) (k : le y z) : le x z := ⟨Int.le_trans h.1 k.1, fun q => k.2 (h.2 q)⟩
theorem le_anti {x y : Kn} (hx : x.Norm) (hy : y.Norm) (h : le x y) (k : le y x) : x = y := by
 have e1 := J3t hx.1 hx.2;have e2 := J3t hy.1 hy.2;have hb : x.b = y.b := by have := h.1; have := k.1; omega
 have hs : x.s = y.s := Bool.eq_iff_iff.2 ⟨h.2, k.2⟩;cases x; cases y; simp_all

theorem Je6 (o : Int) {a b : Int} (h0 : 0 <= a) (h1 : a <= 17) (h2 : 0 <= b) (h3 : b <= 17) : 0 <= opB o a b /\ opB o a b <= 17 := by
 have hb := fun k => J0w k
 unfold opB
 split
 ·split
  ·omega
  ·exact hb _
 split
 ·split
  ·omega
  ·exact hb _
 split
 ·omega
 split
 ·omega
 split
 ·omega
 ·omega
theorem Jh3 (o : Int) {a a' b b' : Int} (h0 : 0 <= a) (h1 : a <= a') (h2 : a' <= 17) (k0 : 0 <= b) (k1 : b <= b') (k2 : b' <= 17) : opB o a b <= opB o a' b' := by
 unfold opB
 split
 ·unfold bnd
  split <;> split <;> (repeat' split) <;> omega
 split
 ·unfold bnd
  split <;> split <;> (repeat' split) <;> omega
 split
 ·omega
 split
 ·omega
 split
 ·omega
 ·omega

theorem norm_of (n : Int) : (of n).Norm := J8y n
theorem norm_join (x y : Kn) : (join x y).Norm := by have := J0w x.b; have := J0w y.b; unfold join Norm; dsimp only; omega
theorem norm_less (x y : Kn) : (less x y).Norm := by have := J0w x.b; have := J0w y.b; unfold less Norm; dsimp only; omega
theorem norm_op (o : Int) (x y : Kn) : (op o x y).Norm := by have hx := J0w x.b; have hy := J0w y.b; exact Je6 o hx.1 hx.2 hy.1 hy.2
theorem norm_index (k : Kn) (n : Int) : (index k n).Norm := by
 unfold index; split
 ·unfold Norm; dsimp only; omega
 ·exact norm_op _ _ _

theorem bnd_norm {x : Kn} (h : x.Norm) : bnd x.b = x.b := J3t h.1 h.2
theorem join_l (x y : Kn) : le x (join x y) := by
 have := bnd_norm (norm_join x y); unfold le; rw [this];unfold join; dsimp only;exact ⟨by omega, fun h => by simp [h]⟩
theorem join_r (x y : Kn) : le y (join x y) := by
 have := bnd_norm (norm_join x y); unfold le; rw [this];unfold join; dsimp only;exact ⟨by omega, fun h => by simp [h]⟩
theorem join_le {x y z : Kn} (h : le x z) (k : le y z) : le (join x y) z := by
 have := bnd_norm (norm_join x y); unfold le at *; rw [this];unfold join; dsimp only;refine ⟨by omega, fun q => ?_⟩;rcases Bool.or_eq_true_iff.1 q with q | q
 ·exact h.2 q
 ·exact k.2 q
theorem less_mono {x x' y y' : Kn} (h : le x x') (k : le y y') : le (less x y) (less x' y') := by
 have e1 := bnd_norm (norm_less x y); have e2 := bnd_norm (norm_less x' y'); unfold le at *; rw [e1, e2];unfold less; dsimp only;exact ⟨by omega, h.2⟩
theorem op_mono (o : Int) {x x' y y' : Kn} (h : le x x') (k : le y y') : le (op o x y) (op o x' y') := by
 have e1 := bnd_norm (norm_op o x y); have e2 := bnd_norm (norm_op o x' y'); unfold le at *; rw [e1, e2];unfold op; dsimp only;have r1 := J0w x.b; have r2 := J0w x'.b; have r3 := J0w y.b; have r4 := J0w y'.b;refine ⟨Jh3 o r1.1 h.1 r2.2 r3.1 k.1 r4.2, fun q => ?_⟩;rcases Bool.or_eq_true_iff.1 q with q | q
 ·rw [h.2 q]; rfl
 ·rw [k.2 q]; simp
theorem index_mono {x x' : Kn} (n : Int) (h : le x x') : le (index x n) (index x' n) := by
 unfold index; split
 ·exact ⟨Int.le_refl _, h.2⟩
 ·exact op_mono 1 h (le_refl _)
end Kn

abbrev KS := Nat -> Kn

def setK (s : KS) (a : Int) (v : Kn) : KS := fun j => if j = a.toNat then v else s j

def nextK (p : Prg) (i : Ins) (s : KS) : KS :=
 if i.op = 1 then setK s i.a (Kn.of i.n)
 else if i.op = 2 then setK s i.a (s i.b.toNat)
 else if i.op = 10 then setK s i.a (Kn.index (s i.b.toNat) i.n)
 else if i.op = 3 \/ i.op = 5 then setK s i.a ⟨17, p.sec i.c.toNat⟩
 else if i.op = 11 then setK s i.a (Kn.less (s i.a.toNat) (Kn.of (wrap64 (i.n - 1))))
 else if i.op = 4 \/ i.op = 6 \/ i.op = 12 then s
 else setK s i.a (Kn.op (i.op - 20) (s i.b.toNat) (s i.c.toNat))

def J1e (i : Ins) (s : KS) : KS := setK s i.a (Kn.less (s i.a.toNat) (s i.b.toNat))
def J15 (i : Ins) (s : KS) : KS := setK s i.b (Kn.less (s i.b.toNat) (s i.a.toNat))
def bothK (i : Ins) (s : KS) : KS := setK (J1e i s) i.b (Kn.less (s i.b.toNat) (s i.a.toNat))

def yesK (i : Ins) (s : KS) : KS := if i.c = 1 then bothK i s else if i.c = 2 then s else if i.c = 3 then J1e i s else J15 i s
def noK (i : Ins) (s : KS) : KS := if i.c = 1 then s else if i.c = 2 then bothK i s else if i.c = 3 then J15 i s else J1e i s

def J0f (p : Prg) (at_ : Nat) (s : KS) : List (Nat × KS) :=
 if (p.ins at_).op = 7 then [((p.ins at_).n.toNat, s)]
 else if (p.ins at_).op = 9 then []
 else if (p.ins at_).op = 8 then [((p.ins at_).n.toNat, yesK (p.ins at_) s), (at_ + 1, noK (p.ins at_) s)]
 else [(at_ + 1, nextK p (p.ins at_) s)]

def leS (s t : KS) : Prop := ∀ j, j < 8 -> Kn.le (s j) (t j)
def NormS (s : KS) : Prop := ∀ j, j < 8 -> (s j).Norm
theorem J8e (s : KS) : leS s s := fun _ _ => Kn.le_refl _
theorem J6m {s t u : KS} (h : leS s t) (k : leS t u) : leS s u := fun j hj => Kn.le_trans (h j hj) (k j hj)

theorem J28 {s t : KS} (h : leS s t) {a : Int} {v v' : Kn} (k : Kn.le v v') : leS (setK s a v) (setK t a v') := fun j hj => by
 unfold setK; split
 ·exact k
 ·exact h j hj
theorem J29 {s : KS} (h : NormS s) {a : Int} {v : Kn} (k : v.Norm) : NormS (setK s a v) := fun j hj => by
 unfold setK; split
 ·exact k
 ·exact h j hj

theorem J20 {p : Prg} {i : Ins} (h : InsOk p.rl p.log p.cl 8 i) :
  (¬ (i.op = 7 \/ i.op = 12) -> i.a.toNat < 8) /\ (i.op = 2 \/ i.op = 3 \/ i.op = 4 \/ i.op = 8 \/ i.op = 10 \/ 21 <= i.op -> i.b.toNat < 8) /\ (21 <= i.op -> i.c.toNat < 8) /\
  (1 <= i.op /\ i.op <= 12 \/ 21 <= i.op /\ i.op <= 30) := by
 unfold InsOk Reg at h;have hop : i.op = 1 \/ i.op = 2 \/ i.op = 3 \/ i.op = 4 \/ i.op = 5 \/ i.op = 6 \/ i.op = 7 \/ i.op = 8 \/ i.op = 9 \/ i.op = 10 \/ i.op = 11 \/ i.op = 12 \/ ¬ (1 <= i.op /\ i.op <= 12) := by omega
 rcases hop with h1 | h1 | h1 | h1 | h1 | h1 | h1 | h1 | h1 | h1 | h1 | h1 | h1
 all_goals first
  | (simp [h1] at h; omega)
  | (rw [if_neg (by omega), if_neg (by omega), if_neg (by omega), if_neg (by omega), if_neg (by omega), if_neg (by omega), if_neg (by omega), if_neg (by omega), if_neg (by omega), if_neg (by omega), if_neg (by omega), if_neg (by omega)] at h; omega)

section
variable {p : Prg} {i : Ins}
theorem J4q (hi : InsOk p.rl p.log p.cl 8 i) (h8 : i.op = 8) {s t : KS} (h : leS s t) : leS (J1e i s) (J1e i t) := by
 have hr := J20 hi;exact J28 h (Kn.less_mono (h _ (hr.1 (by omega))) (h _ (hr.2.1 (by omega))))
theorem J5s (hi : InsOk p.rl p.log p.cl 8 i) (h8 : i.op = 8) {s t : KS} (h : leS s t) : leS (J15 i s) (J15 i t) := by
 have hr := J20 hi;exact J28 h (Kn.less_mono (h _ (hr.2.1 (by omega))) (h _ (hr.1 (by omega))))
theorem J7p (hi : InsOk p.rl p.log p.cl 8 i) (h8 : i.op = 8) {s t : KS} (h : leS s t) : leS (bothK i s) (bothK i t) := by
 have hr := J20 hi;exact J28 (J4q hi h8 h) (Kn.less_mono (h _ (hr.2.1 (by omega))) (h _ (hr.1 (by omega))))
theorem Jfp (hi : InsOk p.rl p.log p.cl 8 i) (h8 : i.op = 8) {s t : KS} (h : leS s t) : leS (yesK i s) (yesK i t) := by
 unfold yesK
 split
 ·exact J7p hi h8 h
 split
 ·exact h
 split
 ·exact J4q hi h8 h
 ·exact J5s hi h8 h
theorem Jgz (hi : InsOk p.rl p.log p.cl 8 i) (h8 : i.op = 8) {s t : KS} (h : leS s t) : leS (noK i s) (noK i t) := by
 unfold noK
 split
 ·exact h
 split
 ·exact J7p hi h8 h
 split
 ·exact J5s hi h8 h
 ·exact J4q hi h8 h
theorem Jcq (hi : InsOk p.rl p.log p.cl 8 i) (h7 : ¬ i.op = 7) (h8 : ¬ i.op = 8) (h9 : ¬ i.op = 9) {s t : KS} (h : leS s t) : leS (nextK p i s) (nextK p i t) := by
 have hr := J20 hi;unfold nextK
 split
 ·exact J28 h (Kn.le_refl _)
 split
 ·exact J28 h (h _ (hr.2.1 (by omega)))
 split
 ·exact J28 h (Kn.index_mono _ (h _ (hr.2.1 (by omega))))
 split
 ·exact J28 h (Kn.le_refl _)
 split
 ·exact J28 h (Kn.less_mono (h _ (hr.1 (by omega))) (Kn.le_refl _))
 split
 ·exact h
 ·exact J28 h (Kn.op_mono _ (h _ (hr.2.1 (by omega))) (h _ (hr.2.2.1 (by omega))))
theorem Jcr {s : KS} (hi : InsOk p.rl p.log p.cl 8 i) (h7 : ¬ i.op = 7) (h8 : ¬ i.op = 8) (h9 : ¬ i.op = 9) (h : NormS s) : NormS (nextK p i s) := by
 have hr := J20 hi;unfold nextK
 split
 ·exact J29 h (Kn.norm_of _)
 split
 ·exact J29 h (h _ (hr.2.1 (by omega)))
 split
 ·exact J29 h (Kn.norm_index _ _)
 split
 ·exact J29 h (by unfold Kn.Norm; dsimp only; omega)
 split
 ·exact J29 h (Kn.norm_less _ _)
 split
 ·exact h
 ·exact J29 h (Kn.norm_op _ _ _)
theorem J4r {s : KS} (h : NormS s) : NormS (J1e i s) := J29 h (Kn.norm_less _ _)
theorem J5t {s : KS} (h : NormS s) : NormS (J15 i s) := J29 h (Kn.norm_less _ _)
theorem J7q {s : KS} (h : NormS s) : NormS (bothK i s) := J29 (J4r h) (Kn.norm_less _ _)
theorem Jfq {s : KS} (h : NormS s) : NormS (yesK i s) := by
 unfold yesK
 split
 ·exact J7q h
 split
 ·exact h
 split
 ·exact J4r h
 ·exact J5t h
theorem Jh0 {s : KS} (h : NormS s) : NormS (noK i s) := by
 unfold noK
 split
 ·exact h
 split
 ·exact J7q h
 split
 ·exact J5t h
 ·exact J4r h
end

abbrev KV := Nat -> Option KS

theorem Jci {p : Prg} {at_ : Nat} (hi : InsOk p.rl p.log p.cl 8 (p.ins at_)) {s t : KS} (h : leS s t) {x : Nat × KS} (hx : x ∈ J0f p at_ s) : ∃ y, (x.1, y) ∈ J0f p at_ t /\ leS x.2 y := by
 unfold J0f at *;by_cases h7 : (p.ins at_).op = 7
 ·rw [if_pos h7] at *
  simp at hx; subst hx;exact ⟨t, by simp, h⟩
 rw [if_neg h7] at *;by_cases h9 : (p.ins at_).op = 9
 ·rw [if_pos h9] at *; simp at hx
 rw [if_neg h9] at *;by_cases h8 : (p.ins at_).op = 8
 ·rw [if_pos h8] at *
  simp at hx;rcases hx with rfl | rfl
  ·exact ⟨_, List.mem_cons_self, Jfp hi h8 h⟩
  ·exact ⟨noK (p.ins at_) t, by simp, Jgz hi h8 h⟩
 ·rw [if_neg h8] at *
  simp at hx; subst hx;exact ⟨nextK p (p.ins at_) t, by simp, Jcq hi h7 h8 h9 h⟩

theorem Jcj {p : Prg} {at_ : Nat} (hi : InsOk p.rl p.log p.cl 8 (p.ins at_)) {s : KS} (h : NormS s) {x : Nat × KS} (hx : x ∈ J0f p at_ s) : NormS x.2 := by
 unfold J0f at *;by_cases h7 : (p.ins at_).op = 7
 ·rw [if_pos h7] at *
  simp at hx; subst hx; exact h
 rw [if_neg h7] at *;by_cases h9 : (p.ins at_).op = 9
 ·rw [if_pos h9] at *; simp at hx
 rw [if_neg h9] at *;by_cases h8 : (p.ins at_).op = 8
 ·rw [if_pos h8] at *
  simp at hx;rcases hx with rfl | rfl
  ·exact Jfq h
  ·exact Jh0 h
 ·rw [if_neg h8] at *
  simp at hx; subst hx;exact Jcr hi h7 h8 h9 h

def zeroK : KS := fun _ => ⟨0, false⟩

structure Jb5 (p : Prg) (l : KV) : Prop where
 first : ∃ s, l 0 = some s /\ leS zeroK s
 leads : ∀ at_ s, at_ < p.cl -> l at_ = some s -> ∀ x ∈ J0f p at_ s, x.1 < p.cl -> ∃ u, l x.1 = some u /\ leS x.2 u

def Jie (p : Prg) (l l' : KV) : Prop := ∀ at_ s, at_ < p.cl -> l at_ = some s -> ∃ u, l' at_ = some u /\ leS s u
def NormV (p : Prg) (l : KV) : Prop := ∀ at_ s, at_ < p.cl -> l at_ = some s -> NormS s

structure Known (p : Prg) (l : KV) : Prop where
 closed : Jb5 p l
 norm : NormV p l
 least : ∀ l', Jb5 p l' -> Jie p l l'

theorem Known.one {p : Prg} {l l' : KV} (h : Known p l) (k : Known p l') {at_ : Nat} (ha : at_ < p.cl) :
  (l at_ = none /\ l' at_ = none) \/ ∃ s t, l at_ = some s /\ l' at_ = some t /\ ∀ j, j < 8 -> s j = t j := by
 cases e : l at_ with
 | none =>
  cases e' : l' at_ with
  | none => exact .inl ⟨rfl, rfl⟩
  | some t =>
   obtain ⟨u, hu, _⟩ := k.least l h.closed at_ t ha e';rw [e] at hu; cases hu
 | some s =>
  obtain ⟨t, ht, hst⟩ := h.least l' k.closed at_ s ha e;obtain ⟨u, hu, htu⟩ := k.least l h.closed at_ t ha ht;rw [e] at hu; cases hu;exact .inr ⟨s, t, rfl, ht, fun j hj => Kn.le_anti (h.norm at_ s ha e j hj) (k.norm at_ t ha ht j hj) (hst j hj) (htu j hj)⟩
def joinV (o : Option KS) (t : KS) : KS := match o with
 | none => t
 | some s => fun j => Kn.join (s j) (t j)
def putV (l : KV) (n : Nat) (s : KS) : KV := fun x => if x = n then some s else l x
def SameV (s : KS) (o : Option KS) : Prop := ∃ t, o = some t /\ ∀ j, j < 8 -> s j = t j

theorem J1a (l : KV) (n : Nat) (s : KS) : putV l n s n = some s := by simp [putV]
theorem J18 (l : KV) {n x : Nat} (h : x ≠ n) (s : KS) : putV l n s x = l x := by simp [putV, h]

structure OnWay (p : Prg) (l : KV) : Prop where
 first : ∃ s, l 0 = some s /\ leS zeroK s
 norm : NormV p l
 low : ∀ l', Jb5 p l' -> Jie p l l'

theorem J8d {o : Option KS} {s t : KS} (h : o = some s) : leS s (joinV o t) := by subst h; exact fun j _ => Kn.join_l _ _
theorem Jdy {o : Option KS} {t : KS} : leS t (joinV o t) := by
 cases o with
 | none => exact J8e t
 | some s => exact fun j _ => Kn.join_r _ _

theorem OnWay.start {p : Prg} (h : 0 < p.cl) : OnWay p (putV (fun _ => none) 0 zeroK) where
 first := ⟨zeroK, J1a _ _ _, J8e _⟩
 norm := fun at_ s ha e => by
  by_cases h0 : at_ = 0
  ·subst h0; rw [J1a] at e; cases e
   exact fun j _ => by unfold zeroK Kn.Norm; dsimp only; omega
  ·rw [J18 _ h0] at e; cases e
 low := fun l' hc at_ s ha e => by
  by_cases h0 : at_ = 0
  ·subst h0; rw [J1a] at e; cases e
   exact hc.first
  ·rw [J18 _ h0] at e; cases e

structure Just (p : Prg) (x : Nat × KS) : Prop where
 norm : NormS x.2
 low : ∀ l', Jb5 p l' -> x.1 < p.cl -> ∃ u, l' x.1 = some u /\ leS x.2 u
theorem OnWay.just {p : Prg} (hp : p.Ok 200 8) {l : KV} (h : OnWay p l) {at_ : Nat} {s : KS} (ha : at_ < p.cl) (e : l at_ = some s) {x : Nat × KS} (hx : x ∈ J0f p at_ s) : Just p x := by
 have hi := hp.2.2.2 at_ ha;refine ⟨Jcj hi (h.norm at_ s ha e) hx, fun l' hc hn => ?_⟩;obtain ⟨u, eu, hsu⟩ := h.low l' hc at_ s ha e;obtain ⟨y, hy, hxy⟩ := Jci hi hsu hx;obtain ⟨v, ev, hyv⟩ := hc.leads at_ u ha eu _ hy hn;exact ⟨v, ev, J6m hxy hyv⟩
theorem OnWay.joinJ {p : Prg} {l : KV} (h : OnWay p l) {x : Nat × KS} (hx : Just p x) (hn : x.1 < p.cl) : OnWay p (putV l x.1 (joinV (l x.1) x.2)) := by
 refine ⟨?_, ?_, ?_⟩
 ·obtain ⟨s0, e0, l0⟩ := h.first
  by_cases h0 : 0 = x.1
  ·refine ⟨joinV (l x.1) x.2, by rw [<- h0]; exact J1a _ _ _, ?_⟩
   rw [<- h0, e0];exact J6m l0 (J8d rfl)
  ·exact ⟨s0, by rw [J18 _ h0]; exact e0, l0⟩
 ·intro a t hat et
  by_cases h0 : a = x.1
  ·subst h0
   rw [J1a] at et; cases et;cases eo : l x.1 with
   | none => exact hx.norm
   | some s1 => exact fun j _ => Kn.norm_join _ _
  ·rw [J18 _ h0] at et; exact h.norm a t hat et
 ·intro l' hc a t hat et
  by_cases h0 : a = x.1
  ·subst h0
   rw [J1a] at et; cases et;obtain ⟨v, ev, hxv⟩ := hx.low l' hc hn;refine ⟨v, ev, ?_⟩;cases eo : l x.1 with
   | none => exact hxv
   | some s1 =>
    obtain ⟨v', ev', h1⟩ := h.low l' hc x.1 s1 hn eo;rw [ev] at ev'; cases ev';exact fun j hj => Kn.join_le (h1 j hj) (hxv j hj)
  ·rw [J18 _ h0] at et; exact h.low l' hc a t hat et
def Held (p : Prg) (l : KV) (at_ : Nat) : Prop := ∀ s, l at_ = some s -> ∀ x ∈ J0f p at_ s, x.1 < p.cl -> ∃ u, l x.1 = some u /\ leS x.2 u

theorem J3z {o : Option KS} {t : KS} (h : SameV (joinV o t) o) : ∃ u, o = some u /\ leS t u := by
 obtain ⟨u, e, hj⟩ := h;refine ⟨u, e, fun j hj' => ?_⟩;rw [<- hj j hj'];exact Jdy j hj'

theorem OnWay.known {p : Prg} {l : KV} (h : OnWay p l) (hh : ∀ at_ s, at_ < p.cl -> l at_ = some s -> ∀ x ∈ J0f p at_ s, x.1 < p.cl -> ∃ u, l x.1 = some u /\ leS x.2 u) : Known p l :=
 ⟨⟨h.first, hh⟩, h.norm, h.low⟩

def rankK (k : Kn) : Nat := k.b.toNat + if k.s then 1 else 0
def rankS (s : KS) : Nat -> Nat
 | 0 => 1
 | n + 1 => rankS s n + rankK (s n)
def rankO (o : Option KS) : Nat := match o with
 | none => 0
 | some s => rankS s 8
def rankV (l : KV) : Nat -> Nat
 | 0 => 0
 | n + 1 => rankV l n + rankO (l n)

theorem Jhk {k : Kn} (h : k.Norm) : rankK k <= 18 := by unfold rankK; have := h.2; split <;> omega
theorem Jbs {s : KS} : ∀ n, (∀ j, j < n -> (s j).Norm) -> rankS s n <= 1 + 18 * n
 | 0, _ => by simp [rankS]
 | n + 1, h => by
  have h1 := Jbs n (fun j hj => h j (by omega));have h2 := Jhk (h n (by omega));rw [rankS]; omega
theorem Jhl {o : Option KS} (h : ∀ s, o = some s -> NormS s) : rankO o <= 145 := by
 cases o with
 | none => simp [rankO]
 | some s => exact Jbs 8 (h s rfl)
theorem J60 {p : Prg} {l : KV} (h : NormV p l) : ∀ n, n <= p.cl -> rankV l n <= 145 * n
 | 0, _ => by simp [rankV]
 | n + 1, hn => by
  have h1 := J60 h n (by omega);have h2 := Jhl (o := l n) (fun s e => h n s (by omega) e);rw [rankV]; omega

theorem Jcu {x y : Kn} (hx : x.Norm) (hy : y.Norm) (h : Kn.le x y) : rankK x <= rankK y /\ (rankK y <= rankK x -> x = y) := by
 have e1 := Kn.bnd_norm hx; have e2 := Kn.bnd_norm hy;have hb : x.b <= y.b := by have := h.1; omega
 have hs := h.2;unfold rankK;cases hxs : x.s <;> cases hys : y.s
 ·refine ⟨by simp; omega, fun q => Kn.le_anti hx hy h ⟨?_, by simp [hys]⟩⟩
  simp at q; have := hx.1; have := hy.1; omega
 ·refine ⟨by simp; omega, fun q => ?_⟩
  simp at q; have := hx.1; have := hy.1; omega
 ·simp [hxs, hys] at hs
 ·refine ⟨by simp; omega, fun q => Kn.le_anti hx hy h ⟨?_, by simp [hxs]⟩⟩
  simp at q; have := hx.1; have := hy.1; omega
theorem J7x {s t : KS} : ∀ n, n <= 8 -> NormS s -> NormS t -> leS s t -> rankS s n <= rankS t n /\ (rankS t n <= rankS s n -> ∀ j, j < n -> s j = t j)
 | 0, _, _, _, _ => ⟨Nat.le_refl _, fun _ j hj => by omega⟩
 | n + 1, hn, hs, ht, h => by
  have h1 := J7x n (by omega) hs ht h;have h2 := Jcu (hs n (by omega)) (ht n (by omega)) (h n (by omega));rw [rankS, rankS];refine ⟨by omega, fun q j hj => ?_⟩;by_cases e : j = n
  ·subst e; exact h2.2 (by omega)
  ·exact h1.2 (by omega) j (by omega)
theorem J71 (s : KS) : ∀ n, 1 <= rankS s n
 | 0 => Nat.le_refl _
 | n + 1 => by have := J71 s n; rw [rankS]; omega

theorem Jhm {o : Option KS} {t : KS} (hn : ∀ s, o = some s -> NormS s) (ht : NormS t) (h : ¬ SameV (joinV o t) o) : rankO o < rankS (joinV o t) 8 := by
 cases o with
 | none => exact J71 _ 8
 | some s =>
  have hs := hn s rfl;have hj : NormS (joinV (some s) t) := fun j _ => Kn.norm_join _ _
  have hm := J7x 8 (Nat.le_refl _) hs hj (J8d rfl);rcases Nat.lt_or_ge (rankS s 8) (rankS (joinV (some s) t) 8) with q | q
  ·exact q
  ·exact absurd ⟨s, rfl, fun j hj' => (hm.2 q j hj').symm⟩ h

theorem J5z (l : KV) : ∀ m n, n < m -> rankO (l n) <= rankV l m
 | 0, _, h => absurd h (Nat.not_lt_zero _)
 | m + 1, n, h => by
  rw [rankV];by_cases e : n = m
  ·subst e; omega
  ·have := J5z l m n (by omega); omega
theorem J72 (l : KV) (n : Nat) (s : KS) : ∀ m, rankV (putV l n s) m = if n < m then rankV l m + rankS s 8 - rankO (l n) else rankV l m
 | 0 => by simp [rankV]
 | m + 1 => by
  rw [rankV, J72 l n s m, rankV];by_cases e : m = n
  ·subst e
   rw [if_neg (by omega), if_pos (by omega), J1a];show rankV l m + rankS s 8 = _;omega
  ·rw [J18 _ e]
   by_cases h : n < m
   ·rw [if_pos h, if_pos (by omega)]
    have : rankO (l n) <= rankV l m := J5z l m n h;omega
   ·rw [if_neg h, if_neg (by omega)]

theorem Jan {p : Prg} {l : KV} (hl : NormV p l) {n : Nat} (hn : n < p.cl) {t : KS} (ht : NormS t) (h : ¬ SameV (joinV (l n) t) (l n)) : rankV l p.cl < rankV (putV l n (joinV (l n) t)) p.cl := by
 rw [J72, if_pos hn];have h1 := Jhm (o := l n) (fun s e => hl n s hn e) ht h;have h2 := J5z l p.cl n hn;omega

def J0h (p : Prg) (i : Ins) (s : KS) : Bool :=
 if i.op = 3 then (s i.b.toNat).s
 else if i.op = 4 then (s i.b.toNat).s || ((s i.a.toNat).s && !p.sec i.c.toNat)
 else if i.op = 6 then (s i.a.toNat).s && !p.sec i.c.toNat
 else if i.op = 8 then (s i.a.toNat).s || (s i.b.toNat).s
 else if i.op = 29 \/ i.op = 30 then (s i.b.toNat).s || (s i.c.toNat).s
 else if i.op = 9 then (s i.a.toNat).s
 else false
def J1l (p : Prg) (i : Ins) (s : KS) : Bool := (decide (i.op = 3) || decide (i.op = 4)) && (decide (i.n < 0) || decide (p.log i.c.toNat < (Kn.index (s i.b.toNat) i.n).b))
def outK (p : Prg) (at_ : Nat) : Bool := !(decide ((p.ins at_).op = 7)) && (!(decide ((p.ins at_).op = 9)) && decide (p.cl <= at_ + 1))
def J0t (p : Prg) (at_ : Nat) (s : KS) : Int := if outK p at_ || J1l p (p.ins at_) s then 4 else if J0h p (p.ins at_) s then 5 else 0
def scanK (p : Prg) (l : KV) : Nat -> Nat -> Int × Int
 | 0, _ => (0, 0)
 | n + 1, at_ => match l at_ with
  | none => scanK p l n (at_ + 1)
  | some s => if J0t p at_ s = 0 then scanK p l n (at_ + 1) else (J0t p at_ s, at_)
def J0e (p : Prg) (l : KV) : Int × Int := scanK p l p.cl 0

theorem Ja6 {p : Prg} (hp : p.Ok 200 8) {at_ : Nat} (ha : at_ < p.cl) {s t : KS} (h : ∀ j, j < 8 -> s j = t j) : J0t p at_ s = J0t p at_ t := by
 have hi := hp.2.2.2 at_ ha;have hr := J20 hi;unfold J0t J1l J0h;generalize p.ins at_ = i at *;by_cases h3 : i.op = 3
 ·rw [h _ (hr.2.1 (by omega))]; simp [h3]
 by_cases h4 : i.op = 4
 ·rw [h _ (hr.2.1 (by omega)), h _ (hr.1 (by omega))]; simp [h4]
 by_cases h6 : i.op = 6
 ·rw [h _ (hr.1 (by omega))]; simp [h6]
 by_cases h8 : i.op = 8
 ·rw [h _ (hr.1 (by omega)), h _ (hr.2.1 (by omega))]; simp [h8]
 by_cases h29 : i.op = 29 \/ i.op = 30
 ·rw [h _ (hr.2.1 (by omega)), h _ (hr.2.2.1 (by omega))]; simp [h3, h4, h6, h8, h29]
 by_cases h9 : i.op = 9
 ·rw [h _ (hr.1 (by omega))]; simp [h9]
 ·simp [h3, h4, h6, h8, h29, h9]

theorem J5l {p : Prg} (hp : p.Ok 200 8) {l l' : KV} (h : ∀ at_, at_ < p.cl -> (l at_ = none /\ l' at_ = none) \/ ∃ s t, l at_ = some s /\ l' at_ = some t /\ ∀ j, j < 8 -> s j = t j) :
  ∀ n at_, at_ + n = p.cl -> scanK p l n at_ = scanK p l' n at_
 | 0, at_, _ => rfl
 | n + 1, at_, e => by
  rcases h at_ (by omega) with ⟨h1, h2⟩ | ⟨s, t, h1, h2, hst⟩
  ·simp only [scanK, h1, h2]
   exact J5l hp h n (at_ + 1) (by omega)
  ·simp only [scanK, h1, h2]
   rw [Ja6 hp (by omega) hst, J5l hp h n (at_ + 1) (by omega)]

theorem Jdk {p : Prg} (hp : p.Ok 200 8) {l l' : KV} (h : Known p l) (k : Known p l') : J0e p l = J0e p l' :=
 J5l hp (fun _ ha => h.one k ha) p.cl 0 (by omega)

theorem Jav {p : Prg} {l : KV} : ∀ n at_, (scanK p l n at_).1 = 0 -> ∀ a, at_ <= a -> a < at_ + n -> ∀ s, l a = some s -> J0t p a s = 0
 | 0, at_, _, a, h1, h2 => by omega
 | n + 1, at_, h, a, h1, h2 => fun s e => by
  rw [scanK] at h;cases e0 : l at_ with
  | none =>
   rw [e0] at h;by_cases q : a = at_
   ·subst q; rw [e0] at e; cases e
   ·exact Jav n (at_ + 1) h a (by omega) (by omega) s e
  | some t =>
   rw [e0] at h;dsimp only at h;by_cases q0 : J0t p at_ t = 0
   ·rw [if_pos q0] at h
    by_cases q : a = at_
    ·subst q; rw [e0] at e; cases e; exact q0
    ·exact Jav n (at_ + 1) h a (by omega) (by omega) s e
   ·rw [if_neg q0] at h
    exact absurd h q0
theorem Jfy {p : Prg} {l : KV} (h : (J0e p l).1 = 0) {a : Nat} (ha : a < p.cl) {s : KS} (e : l a = some s) : J0t p a s = 0 :=
 Jav p.cl 0 h a (Nat.zero_le _) (by omega) s e
section
variable {p : Prg} {i : Ins} {k : KS} {r : Nat -> Int}

end

section
variable {p : Prg} {m : Mem} {l : KV} {s : St}

end
def EqS (k : KS) (r t : Nat -> Int) : Prop := ∀ j, j < 8 -> (k j).s = false -> r j = t j
theorem EqS.mono {k u : KS} (h : leS k u) {r t : Nat -> Int} (q : EqS k r t) : EqS u r t := fun j hj hs => q j hj (by
 cases e : (k j).s
 ·rfl
 ·rw [(h j hj).2 e] at hs; cases hs)
theorem EqS.set {k : KS} {r t : Nat -> Int} (h : EqS k r t) (a : Int) {v : Kn} {x y : Int} (q : v.s = false -> x = y) : EqS (setK k a v) (setR r a x) (setR t a y) := fun j hj hs => by
 unfold setK at hs;unfold setR;by_cases e : j = a.toNat
 ·rw [if_pos e] at hs; rw [if_pos e, if_pos e]; exact q hs
 ·rw [if_neg e] at hs; rw [if_neg e, if_neg e]; exact h j hj hs
theorem EqS.know {k : KS} {r t : Nat -> Int} (h : EqS k r t) (a : Int) {v : Kn} (q : v.s = false -> r a.toNat = t a.toNat) : EqS (setK k a v) r t := fun j hj hs => by
 unfold setK at hs;by_cases e : j = a.toNat
 ·rw [if_pos e] at hs; rw [e]; exact q hs
 ·rw [if_neg e] at hs; exact h j hj hs

def PubI (p : Prg) (x y : Mem) : Prop := ∀ c, c < p.rl -> p.sec c = false -> ∀ i, i < x.len c -> x.wd c i = y.wd c i

section
variable {p : Prg} {m m' : Mem} {l : KV} {s t : St}

theorem Jj9 (k : Kn) (n : Int) : (Kn.index k n).s = k.s := by unfold Kn.index; split <;> simp [Kn.op, Kn.of]

theorem Jj7 {i : Ins} {k : KS} {r t : Nat -> Int} (hi : InsOk p.rl p.log p.cl 8 i) (h3 : ¬ i.op = 3) (h4 : ¬ i.op = 4) (h5 : ¬ i.op = 5) (h6 : ¬ i.op = 6) (h7 : ¬ i.op = 7) (h8 : ¬ i.op = 8) (h9 : ¬ i.op = 9)
  (hs : J0h p i k = false) (h : EqS k r t) : EqS (nextK p i k) (regsI r i).1 (regsI t i).1 /\ (regsI r i).2 = (regsI t i).2 := by
 have hg := J20 hi;unfold nextK regsI;by_cases q1 : i.op = 1
 ·rw [if_pos q1, if_pos q1, if_pos q1]; exact ⟨h.set _ (fun _ => rfl), rfl⟩
 rw [if_neg q1, if_neg q1, if_neg q1];by_cases q2 : i.op = 2
 ·rw [if_pos q2, if_pos q2, if_pos q2]; exact ⟨h.set _ (fun q => h _ (hg.2.1 (by omega)) q), rfl⟩
 rw [if_neg q2, if_neg q2, if_neg q2];by_cases q10 : i.op = 10
 ·rw [if_pos q10, if_pos q10, if_pos q10]
  exact ⟨h.set _ (fun q => by rw [Jj9] at q; rw [h _ (hg.2.1 (by omega)) q]), rfl⟩
 rw [if_neg q10, if_neg q10, if_neg q10, if_neg (by omega)];by_cases q11 : i.op = 11
 ·rw [if_pos q11, if_pos q11, if_pos q11]
  have ha := hg.1 (by omega);refine ⟨?_, rfl⟩;dsimp only;cases es : (k i.a.toNat).s
  ·have ee := h _ ha es
   rw [<- ee]
   split
   ·exact h.set _ (fun _ => rfl)
   ·exact h.know _ (fun _ => ee)
  ·intro j hj hjs
   unfold setK at hjs;by_cases e : j = i.a.toNat
   ·rw [if_pos e] at hjs; unfold Kn.less at hjs; dsimp only at hjs; rw [es] at hjs; cases hjs
   ·rw [if_neg e] at hjs
    have := h j hj hjs
    have hs1 : ∀ (r : Nat -> Int) (c : Prop) [Decidable c], (if c then setR r i.a 0 else r) j = r j := fun r c _ => by
     split
     ·unfold setR; rw [if_neg e]
     ·rfl
    rw [hs1, hs1]; exact this
 rw [if_neg q11, if_neg q11, if_neg q11];by_cases q12 : i.op = 12
 ·rw [if_pos (.inr (.inr q12)), if_pos q12, if_pos q12]; exact ⟨h, rfl⟩
 rw [if_neg (by omega), if_neg q12, if_neg q12];have hb := hg.2.1 (by omega); have hc := hg.2.2.1 (by omega)
 have key : (Kn.op (i.op - 20) (k i.b.toNat) (k i.c.toNat)).s = false -> r i.b.toNat = t i.b.toNat /\ r i.c.toNat = t i.c.toNat := fun q => by
  have := Bool.or_eq_false_iff.1 q;exact ⟨h _ hb this.1, h _ hc this.2⟩
 refine ⟨h.set _ (fun q => by rw [(key q).1, (key q).2]), ?_⟩;dsimp only;by_cases q : i.op = 29 \/ i.op = 30
 ·rw [if_pos q, if_pos q]
  unfold J0h at hs;rw [if_neg h3, if_neg h4, if_neg h6, if_neg h8, if_pos q] at hs;rw [(key hs).1, (key hs).2]
 ·rw [if_neg q, if_neg q]

end
end
section
open Go.RowKit
set_option linter.unusedSimpArgs false
set_option linter.unusedVariables false
def sizeK (p : Prg) (k : Nat) : Nat := if (p.ins k).op = 3 \/ (p.ins k).op = 4 then 3 else 1

structure Hdn (p h : Prg) (st : Nat -> Nat) (X : Int) : Prop where
 x : X = 8 \/ X = 9
 rl : p.rl = h.rl
 reg : ∀ i, i < p.rl -> p.log i = h.log i /\ p.sec i = h.sec i
 s0 : st 0 = 0
 next : ∀ k, k < p.cl -> st (k + 1) = st k + sizeK p k
 cl : h.cl = st p.cl
 mem : ∀ k, k < p.cl -> (p.ins k).op = 3 \/ (p.ins k).op = 4 -> h.ins (st k) = ⟨10, X, (p.ins k).b, 0, (p.ins k).n⟩ /\ h.ins (st k + 1) = ⟨11, X, 0, 0, J0c (p.log (p.ins k).c.toNat)⟩ /\ h.ins (st k + 2) = ⟨(p.ins k).op, (p.ins k).a, X, (p.ins k).c, 0⟩
 go : ∀ k, k < p.cl -> (p.ins k).op = 7 \/ (p.ins k).op = 8 -> h.ins (st k) = ⟨(p.ins k).op, (p.ins k).a, (p.ins k).b, (p.ins k).c, (st (p.ins k).n.toNat : Int)⟩
 copy : ∀ k, k < p.cl -> ¬ ((p.ins k).op = 3 \/ (p.ins k).op = 4) -> ¬ ((p.ins k).op = 7 \/ (p.ins k).op = 8) -> h.ins (st k) = p.ins k

theorem J2t (p : Prg) (k : Nat) : 1 <= sizeK p k /\ sizeK p k <= 3 := by unfold sizeK; split <;> omega
theorem J58 {p : Prg} {k : Nat} (h : (p.ins k).op = 3 \/ (p.ins k).op = 4) : sizeK p k = 3 := by unfold sizeK; rw [if_pos h]
theorem J44 {p : Prg} {k : Nat} (h : ¬ ((p.ins k).op = 3 \/ (p.ins k).op = 4)) : sizeK p k = 1 := by unfold sizeK; rw [if_neg h]

section
variable {p h : Prg} {st : Nat -> Nat} {X : Int} {l : KV}

theorem Hdn.mono (S : Hdn p h st X) : ∀ (b a : Nat), a < b -> b <= p.cl -> st a + sizeK p a <= st b
 | 0, a, h1, _ => absurd h1 (Nat.not_lt_zero _)
 | b + 1, a, h1, h2 => by
  have e := S.next b (by omega);have := (J2t p b).1;by_cases q : a = b
  ·subst q; omega
  ·have := S.mono b a (by omega) (by omega); omega
variable {lab : Nat -> Nat -> Bool}
theorem Jbm (x y : Kn) : (Kn.less x y).s = x.s := rfl
theorem Jf7 {s : KS} {a : Int} {v : Kn} (hv : v.s = (s a.toNat).s) (j : Nat) : (setK s a v j).s = (s j).s := by
 unfold setK
 split
 ·rename_i e; rw [e]; exact hv
 ·rfl
theorem J84 (i : Ins) (s : KS) (j : Nat) : (J1e i s j).s = (s j).s := Jf7 (Jbm _ _) j
theorem Jbx (i : Ins) (s : KS) (j : Nat) : (J15 i s j).s = (s j).s := Jf7 (Jbm _ _) j
theorem Jig (i : Ins) (s : KS) (j : Nat) : (bothK i s j).s = (s j).s := by
 unfold bothK;rw [Jf7 (by rw [Jbm]; exact (J84 i s _).symm) j, J84]
theorem yes_s (i : Ins) (s : KS) (j : Nat) : (yesK i s j).s = (s j).s := by
 unfold yesK
 split
 ·exact Jig i s j
 split
 ·rfl
 split
 ·exact J84 i s j
 ·exact Jbx i s j
theorem no_s (i : Ins) (s : KS) (j : Nat) : (noK i s j).s = (s j).s := by
 unfold noK
 split
 ·rfl
 split
 ·exact Jig i s j
 split
 ·exact Jbx i s j
 ·exact J84 i s j

structure Here (p : Prg) (l : KV) (k : Nat) (s : KS) : Prop where
 at_ : k < p.cl
 e : l k = some s
 ins : InsOk p.rl p.log p.cl 8 (p.ins k)
 out : outK p k = false
 bound : J1l p (p.ins k) s = false
 secret : J0h p (p.ins k) s = false
 leads : ∀ x ∈ J0f p k s, x.1 < p.cl -> ∃ u, l x.1 = some u /\ leS x.2 u
theorem J2k (ok : p.Ok 200 8) (hk : Known p l) (hc : (J0e p l).1 = 0) {k : Nat} {s : KS} (ha : k < p.cl) (e : l k = some s) : Here p l k s := by
 have hf := Jfy hc ha e
 have : (outK p k || J1l p (p.ins k) s) = false /\ J0h p (p.ins k) s = false := by
  unfold J0t at hf;cases h1 : (outK p k || J1l p (p.ins k) s)
  ·cases h2 : J0h p (p.ins k) s
   ·exact ⟨rfl, rfl⟩
   ·rw [h1, h2] at hf; simp at hf
  ·rw [h1] at hf; simp at hf
 have h1 := Bool.or_eq_false_iff.1 this.1;exact ⟨ha, e, ok.2.2.2 k ha, h1.1, h1.2, this.2, hk.closed.leads k s ha e⟩
theorem Here.next {k : Nat} {s : KS} (H : Here p l k s) (h7 : ¬ (p.ins k).op = 7) (h9 : ¬ (p.ins k).op = 9) : k + 1 < p.cl := by
 have := H.out;unfold outK at this;simp [h7, h9] at this;omega
theorem Here.plain {k : Nat} {s : KS} (H : Here p l k s) (h7 : ¬ (p.ins k).op = 7) (h8 : ¬ (p.ins k).op = 8) (h9 : ¬ (p.ins k).op = 9) : ∃ u, l (k + 1) = some u /\ leS (nextK p (p.ins k) s) u := by
 have := H.leads (k + 1, nextK p (p.ins k) s) (by unfold J0f; rw [if_neg h7, if_neg h9, if_neg h8]; simp) (H.next h7 h9);exact this

theorem J9n {i : Ins} (ha : i.a.toNat < 8) (r : Nat -> Int) (j : Nat) (hj : 8 <= j) : (regsI r i).1 j = r j := by
 have hs : ∀ v, setR r i.a v j = r j := fun v => by unfold setR; rw [if_neg (by omega)]
 unfold regsI
 split
 ·exact hs _
 split
 ·exact hs _
 split
 ·exact hs _
 split
 ·dsimp only; split
  ·exact hs _
  ·rfl
 split
 ·rfl
 ·exact hs _

theorem idx_x (r : Nat -> Int) {o a x c : Int} (ho : o = 3 \/ o = 4) (h0 : 0 <= r x.toNat) (h1 : r x.toNat < 65) : idxI r ⟨o, a, x, c, 0⟩ = r x.toNat := by
 unfold idxI;dsimp only;rw [if_neg (by omega)];unfold wrap64;omega
theorem Jeg {i : Ins} (hi : InsOk p.rl p.log p.cl 8 i) (m : ¬ (i.op = 3 \/ i.op = 4)) (hp : 0 <= putI i) : i.op = 5 \/ i.op = 6 := by
 unfold putI at hp;by_cases q : i.op = 5 \/ i.op = 6
 ·exact q
 ·rw [if_neg (by omega), if_neg (by omega)] at hp; omega

end
def StrI (i : Ins) : Prop := (i.op = 1 \/ i.op = 2 \/ i.op = 10 \/ i.op = 11 \/ (21 <= i.op /\ i.op <= 28)) /\ i.a.toNat < 10 /\ i.b.toNat < 10 /\ i.c.toNat < 10
def seqR : List Ins -> (Nat -> Int) -> Nat -> Int
  | [], r => r
  | i :: B, r => seqR B (regsI r i).1
def J17 (i : Ins) (L : Nat -> Bool) : Nat -> Bool := fun j =>
  if j = i.a.toNat then (if i.op = 1 then false else if i.op = 2 \/ i.op = 10 then L i.b.toNat else if i.op = 11 then L i.a.toNat else (L i.b.toNat || L i.c.toNat)) else L j
def labs : List Ins -> (Nat -> Bool) -> Nat -> Bool
  | [], L => L
  | i :: B, L => labs B (J17 i L)

theorem J21 : ∀ (A B : List Ins) (r : Nat -> Int), seqR (A ++ B) r = seqR B (seqR A r)
  | [], _, _ => rfl
  | i :: A, B, r => J21 A B _
theorem J2q : ∀ (A B : List Ins) (L : Nat -> Bool), labs (A ++ B) L = labs B (labs A L)
  | [], _, _ => rfl
  | i :: A, B, L => J2q A B _
theorem Jff {B : List Ins} {o : Nat} {i : Ins} (h : B[o]? = some i) : B.take (o + 1) = B.take o ++ [i] := by
  rw [List.take_add_one, h]; rfl
theorem Jka {B : List Ins} {o : Nat} {i : Ins} (h : B[o]? = some i) (r : Nat -> Int) : seqR (B.take (o + 1)) r = (regsI (seqR (B.take o) r) i).1 := by
  rw [Jff h, J21]; rfl
theorem Jjf {B : List Ins} {o : Nat} {i : Ins} (h : B[o]? = some i) (L : Nat -> Bool) : labs (B.take (o + 1)) L = J17 i (labs (B.take o) L) := by
  rw [Jff h, J2q]; rfl

theorem Jfd {i : Ins} (hi : StrI i) {L : Nat -> Bool} {r t : Nat -> Int} (h : ∀ j, j < 10 -> L j = false -> r j = t j) :
    (regsI r i).2 = (regsI t i).2 /\ ∀ j, j < 10 -> J17 i L j = false -> (regsI r i).1 j = (regsI t i).1 j := by
  obtain ⟨hop, ha, hb, hc⟩ := hi
  have key : ∀ (x y : Int) (v : Bool), (v = false -> x = y) -> (∀ j, J17 i L j = if j = i.a.toNat then v else L j) -> ∀ j, j < 10 -> J17 i L j = false -> setR r i.a x j = setR t i.a y j := fun x y v hv e j hj hl => by
    rw [e] at hl;unfold setR;by_cases c : j = i.a.toNat
    · rw [if_pos c] at hl; rw [if_pos c, if_pos c]; exact hv hl
    · rw [if_neg c] at hl; rw [if_neg c, if_neg c]; exact h j hj hl
  by_cases q1 : i.op = 1
  · have e : ∀ r, regsI r i = (setR r i.a i.n, []) := fun r => by unfold regsI; rw [if_pos q1]
    rw [e, e];exact ⟨rfl, key _ _ false (fun _ => rfl) (fun j => by unfold J17; rw [if_pos q1])⟩
  by_cases q2 : i.op = 2
  · have e : ∀ r, regsI r i = (setR r i.a (r i.b.toNat), []) := fun r => by unfold regsI; rw [if_neg q1, if_pos q2]
    rw [e, e];exact ⟨rfl, key _ _ (L i.b.toNat) (fun q => h _ hb q) (fun j => by unfold J17; rw [if_neg q1, if_pos (show i.op = 2 \/ i.op = 10 from .inl q2)])⟩
  by_cases q10 : i.op = 10
  · have e : ∀ r, regsI r i = (setR r i.a (wrap64 (r i.b.toNat + i.n)), []) := fun r => by unfold regsI; rw [if_neg q1, if_neg q2, if_pos q10]
    rw [e, e];exact ⟨rfl, key _ _ (L i.b.toNat) (fun q => by rw [h _ hb q]) (fun j => by unfold J17; rw [if_neg q1, if_pos (show i.op = 2 \/ i.op = 10 from .inr q10)])⟩
  by_cases q11 : i.op = 11
  · have e : ∀ r, regsI r i = (if r i.a.toNat < 0 \/ i.n <= r i.a.toNat then setR r i.a 0 else r, []) := fun r => by unfold regsI; rw [if_neg q1, if_neg q2, if_neg q10, if_pos q11]
    have f : ∀ r : Nat -> Int, ∀ j, (if r i.a.toNat < 0 \/ i.n <= r i.a.toNat then setR r i.a 0 else r) j = setR r i.a (if r i.a.toNat < 0 \/ i.n <= r i.a.toNat then 0 else r i.a.toNat) j := fun r j => by
      split
      · rfl
      · unfold setR
        by_cases c : j = i.a.toNat
        · rw [if_pos c, c]
        · rw [if_neg c]
    rw [e, e];refine ⟨rfl, fun j hj hl => ?_⟩;dsimp only;rw [f, f];exact key _ _ (L i.a.toNat) (fun q => by rw [h _ ha q]) (fun j => by unfold J17; rw [if_neg q1, if_neg (show ¬ (i.op = 2 \/ i.op = 10) by omega), if_pos q11]) j hj hl
  · have e : ∀ r, regsI r i = (setR r i.a (opI (i.op - 20) (r i.b.toNat) (r i.c.toNat)), []) := fun r => by unfold regsI; rw [if_neg q1, if_neg q2, if_neg q10, if_neg q11, if_neg (by omega), if_neg (by omega)]
    rw [e, e];refine ⟨rfl, ?_⟩;generalize hx : opI (i.op - 20) (r i.b.toNat) (r i.c.toNat) = x;generalize hy : opI (i.op - 20) (t i.b.toNat) (t i.c.toNat) = y;refine key x y (L i.b.toNat || L i.c.toNat) (fun q => ?_) (fun j => by unfold J17; rw [if_neg q1, if_neg (show ¬ (i.op = 2 \/ i.op = 10) by omega), if_neg q11]);have := Bool.or_eq_false_iff.1 q;rw [<- hx, <- hy, h _ hb this.1, h _ hc this.2]
theorem J77 {i : Ins} (hi : StrI i) : ¬ i.op = 7 /\ ¬ i.op = 8 /\ ¬ i.op = 9 /\ ¬ i.op = 12 /\ ¬ 0 <= putI i := by
  obtain ⟨hop, _⟩ := hi;refine ⟨by omega, by omega, by omega, by omega, ?_⟩;unfold putI;rw [if_neg (by omega), if_neg (by omega)];omega

def labS (s : KS) : Nat -> Bool := fun j => decide (j < 8) && (s j).s
theorem J6j (s : KS) (j : Nat) (h : 8 <= j) : labS s j = false := by
  unfold labS;rw [show decide (j < 8) = false by simp; omega]
  rfl
theorem J1y {s : KS} {j : Nat} (h : labS s j = true) : j < 8 /\ (s j).s = true := by unfold labS at h; simpa using h
theorem J3l {s : KS} {j : Nat} (h8 : j < 8) (h : (s j).s = true) : labS s j = true := by unfold labS; simp [h8, h]

theorem Jdb (op : Int) (x y : Kn) : (Kn.op op x y).s = (x.s || y.s) := rfl
theorem Jc5 (x : Kn) (n : Int) : (Kn.index x n).s = x.s := by
  unfold Kn.index
  split
  · rfl
  · rw [Jdb]; show (x.s || false) = x.s; simp

theorem Jd8 {p : Prg} {i : Ins} (hi : InsOk p.rl p.log p.cl 8 i) (hop : ¬ (i.op = 3 \/ i.op = 4 \/ i.op = 5 \/ i.op = 6 \/ i.op = 7 \/ i.op = 8 \/ i.op = 9 \/ i.op = 12)) {s : KS} {j : Nat} (h8 : j < 8) (h : J17 i (labS s) j = true) : (nextK p i s j).s = true := by
  have hg := J20 hi;unfold J17 at h
  have set : ∀ v : Kn, (j = i.a.toNat -> v.s = true) -> (¬ j = i.a.toNat -> (s j).s = true) -> (setK s i.a v j).s = true := fun v h1 h2 => by
    unfold setK;by_cases c : j = i.a.toNat
    · rw [if_pos c]; exact h1 c
    · rw [if_neg c]; exact h2 c
  have keep : ¬ j = i.a.toNat -> (s j).s = true := fun c => by rw [if_neg c] at h; exact (J1y h).2
  unfold nextK;by_cases q1 : i.op = 1
  · rw [if_pos q1]
    exact set _ (fun c => by rw [if_pos c, if_pos q1] at h; cases h) keep
  rw [if_neg q1];by_cases q2 : i.op = 2
  · rw [if_pos q2]
    exact set _ (fun c => by rw [if_pos c, if_neg q1, if_pos (.inl q2)] at h; exact (J1y h).2) keep
  rw [if_neg q2];by_cases q10 : i.op = 10
  · rw [if_pos q10]
    exact set _ (fun c => by rw [if_pos c, if_neg q1, if_pos (.inr q10)] at h; rw [Jc5]; exact (J1y h).2) keep
  rw [if_neg q10, if_neg (by omega)];by_cases q11 : i.op = 11
  · rw [if_pos q11]
    exact set _ (fun c => by rw [if_pos c, if_neg q1, if_neg (by omega), if_pos q11] at h; rw [Jbm]; exact (J1y h).2) keep
  rw [if_neg q11, if_neg (by omega)];refine set _ (fun c => ?_) keep;rw [if_pos c, if_neg q1, if_neg (by omega), if_neg q11] at h;rw [Jdb];rcases Bool.or_eq_true_iff.1 h with q | q
  · rw [(J1y q).2]; rfl
  · rw [(J1y q).2]; simp

structure Blo (p h : Prg) (st : Nat -> Nat) (B : Nat -> List Ins) (X : Int) : Prop where
  x : X = 8 \/ X = 9
  rl : p.rl = h.rl
  reg : ∀ i, i < p.rl -> p.log i = h.log i /\ p.sec i = h.sec i
  s0 : st 0 = 0
  next : ∀ k, k < p.cl -> st (k + 1) = st k + (B k).length
  cl : h.cl = st p.cl
  ne : ∀ k, k < p.cl -> 0 < (B k).length
  at_ : ∀ k, k < p.cl -> ∀ o i, (B k)[o]? = some i -> h.ins (st k + o) = i
  go : ∀ k, k < p.cl -> (p.ins k).op = 7 \/ (p.ins k).op = 8 -> B k = [⟨(p.ins k).op, (p.ins k).a, (p.ins k).b, (p.ins k).c, (st (p.ins k).n.toNat : Int)⟩]
  one : ∀ k, k < p.cl -> (p.ins k).op = 5 \/ (p.ins k).op = 6 \/ (p.ins k).op = 9 \/ (p.ins k).op = 12 \/ (p.ins k).op = 29 \/ (p.ins k).op = 30 -> B k = [p.ins k]
  mem : ∀ k, k < p.cl -> (p.ins k).op = 3 \/ (p.ins k).op = 4 -> ∃ pre, B k = pre ++ [⟨(p.ins k).op, (p.ins k).a, X, (p.ins k).c, 0⟩] /\ (∀ i ∈ pre, StrI i) /\ (∀ r j, j < 8 -> seqR pre r j = r j) /\
    (∀ r, 0 <= seqR pre r X.toNat /\ seqR pre r X.toNat < J0c (p.log (p.ins k).c.toNat)) /\
    (∀ r, (∀ j, j < 8 -> B64 (r j)) -> 0 <= idxI r (p.ins k) -> idxI r (p.ins k) < J0c (p.log (p.ins k).c.toNat) -> seqR pre r X.toNat = idxI r (p.ins k)) /\
    (∀ L : Nat -> Bool, (∀ j, 8 <= j -> L j = false) -> L (p.ins k).b.toNat = false -> ∀ j, labs pre L j = true -> j < 8 /\ L j = true)
  ops : ∀ k, k < p.cl -> ¬ ((p.ins k).op = 3 \/ (p.ins k).op = 4) -> ¬ ((p.ins k).op = 7 \/ (p.ins k).op = 8) -> ¬ ((p.ins k).op = 5 \/ (p.ins k).op = 6 \/ (p.ins k).op = 9 \/ (p.ins k).op = 12 \/ (p.ins k).op = 29 \/ (p.ins k).op = 30) ->
    (∀ i ∈ B k, StrI i) /\ (∀ r, (∀ j, j < 8 -> B64 (r j)) -> ∀ j, j < 8 -> seqR (B k) r j = (regsI r (p.ins k)).1 j) /\ (∀ L : Nat -> Bool, (∀ j, 8 <= j -> L j = false) -> ∀ j, labs (B k) L j = true -> j < 8 /\ J17 (p.ins k) L j = true)

section
variable {p h : Prg} {st : Nat -> Nat} {B : Nat -> List Ins} {X : Int} {l : KV}

theorem Blo.mono (S : Blo p h st B X) : ∀ (b a : Nat), a < b -> b <= p.cl -> st a + (B a).length <= st b
  | 0, a, h1, _ => absurd h1 (Nat.not_lt_zero _)
  | b + 1, a, h1, h2 => by
    have e := S.next b (by omega);by_cases q : a = b
    · subst q; omega
    · have := S.mono b a (by omega) (by omega); omega
theorem Blo.uniq (S : Blo p h st B X) {k k' o o' : Nat} (hk : k < p.cl) (hk' : k' < p.cl) (ho : o < (B k).length) (ho' : o' < (B k').length) (e : st k + o = st k' + o') : k = k' /\ o = o' := by
  rcases Nat.lt_trichotomy k k' with q | q | q
  · have := S.mono k' k q (by omega); omega
  · subst q; exact ⟨rfl, by omega⟩
  · have := S.mono k k' q (by omega); omega
theorem Blo.lt (S : Blo p h st B X) {k o : Nat} (hk : k < p.cl) (ho : o < (B k).length) : st k + o < h.cl := by
  have := S.mono p.cl k hk (Nat.le_refl _);rw [S.cl]; omega
theorem Blo.xn (S : Blo p h st B X) : 8 <= X.toNat /\ X.toNat < 10 := by rcases S.x with q | q <;> omega

def BlI (p : Prg) (st : Nat -> Nat) (B : Nat -> List Ins) (l : KV) (q : Nat) (r : Nat -> Int) : Prop :=
  ∃ k o s r0, k < p.cl /\ o < (B k).length /\ q = st k + o /\ l k = some s /\ r = seqR ((B k).take o) r0
def BlSec (p : Prg) (st : Nat -> Nat) (B : Nat -> List Ins) (l : KV) (q j : Nat) : Prop := ∃ k o s, k < p.cl /\ o < (B k).length /\ q = st k + o /\ l k = some s /\ labs ((B k).take o) (labS s) j = true

variable {lab : Nat -> Nat -> Bool}
theorem Jb9 (S : Blo p h st B X) (hl : ∀ q j, lab q j = true ↔ BlSec p st B l q j) {k o : Nat} {s : KS} (hk : k < p.cl) (ho : o < (B k).length) (e : l k = some s) (j : Nat) : lab (st k + o) j = labs ((B k).take o) (labS s) j := by
  have : lab (st k + o) j = true ↔ labs ((B k).take o) (labS s) j = true := by
    rw [hl];constructor
    · rintro ⟨k', o', s', h1, h2, h3, h4, h5⟩
      obtain ⟨rfl, rfl⟩ := S.uniq hk h1 ho h2 h3;rw [e] at h4; cases h4;exact h5
    · exact fun h5 => ⟨k, o, s, hk, ho, rfl, e, h5⟩
  exact Bool.eq_iff_iff.2 this
theorem J1j (S : Blo p h st B X) (hl : ∀ q j, lab q j = true ↔ BlSec p st B l q j) {k : Nat} {s : KS} (hk : k < p.cl) (e : l k = some s) (j : Nat) : lab (st k) j = labS s j := Jb9 S hl hk (S.ne k hk) e j
theorem bl_on (S : Blo p h st B X) {k : Nat} {u : KS} (hk : k < p.cl) (e : l k = some u) (r : Nat -> Int) : BlI p st B l (st k) r := ⟨k, 0, u, r, hk, S.ne k hk, rfl, e, rfl⟩

theorem J2y (S : Blo p h st B X) (ok : p.Ok 200 8) {q : Nat} {r : Nat -> Int} (hI : BlI p st B l q r) : ∃ k s, k < p.cl /\ l k = some s /\
    ((q = st k /\ (B k).length = 1 /\ ((p.ins k).op = 7 \/ (p.ins k).op = 8) /\ h.ins q = ⟨(p.ins k).op, (p.ins k).a, (p.ins k).b, (p.ins k).c, (st (p.ins k).n.toNat : Int)⟩) \/
     (q = st k /\ (B k).length = 1 /\ ((p.ins k).op = 5 \/ (p.ins k).op = 6 \/ (p.ins k).op = 9 \/ (p.ins k).op = 12 \/ (p.ins k).op = 29 \/ (p.ins k).op = 30) /\ h.ins q = p.ins k) \/
     (∃ pre r0, q = st k + pre.length /\ B k = pre ++ [⟨(p.ins k).op, (p.ins k).a, X, (p.ins k).c, 0⟩] /\ ((p.ins k).op = 3 \/ (p.ins k).op = 4) /\ h.ins q = ⟨(p.ins k).op, (p.ins k).a, X, (p.ins k).c, 0⟩ /\ r = seqR pre r0 /\
        (∀ r, 0 <= seqR pre r X.toNat /\ seqR pre r X.toNat < J0c (p.log (p.ins k).c.toNat)) /\ (∀ L : Nat -> Bool, (∀ j, 8 <= j -> L j = false) -> L (p.ins k).b.toNat = false -> ∀ j, labs pre L j = true -> j < 8 /\ L j = true)) \/
     (∃ o r0, o < (B k).length /\ q = st k + o /\ (B k)[o]? = some (h.ins q) /\ StrI (h.ins q) /\ r = seqR ((B k).take o) r0 /\ (o + 1 < (B k).length \/
        (o + 1 = (B k).length /\ ¬ ((p.ins k).op = 3 \/ (p.ins k).op = 4) /\ ¬ ((p.ins k).op = 7 \/ (p.ins k).op = 8) /\ ¬ ((p.ins k).op = 5 \/ (p.ins k).op = 6 \/ (p.ins k).op = 9 \/ (p.ins k).op = 12 \/ (p.ins k).op = 29 \/ (p.ins k).op = 30))))) := by
  obtain ⟨k, o, s, r0, hk, ho, rfl, e, rfl⟩ := hI;refine ⟨k, s, hk, e, ?_⟩;by_cases w : (p.ins k).op = 7 \/ (p.ins k).op = 8
  · have eB := S.go k hk w
    have len : (B k).length = 1 := by rw [eB]; rfl
    obtain rfl : o = 0 := by omega
    exact .inl ⟨rfl, len, w, S.at_ k hk 0 _ (by rw [eB]; rfl)⟩
  by_cases v : (p.ins k).op = 5 \/ (p.ins k).op = 6 \/ (p.ins k).op = 9 \/ (p.ins k).op = 12 \/ (p.ins k).op = 29 \/ (p.ins k).op = 30
  · have eB := S.one k hk v
    have len : (B k).length = 1 := by rw [eB]; rfl
    obtain rfl : o = 0 := by omega
    exact .inr (.inl ⟨rfl, len, v, S.at_ k hk 0 _ (by rw [eB]; rfl)⟩)
  have hat : (B k)[o]? = some (h.ins (st k + o)) := by
    have := List.getElem?_eq_getElem ho;rw [this, S.at_ k hk o _ this]
  by_cases m : (p.ins k).op = 3 \/ (p.ins k).op = 4
  · obtain ⟨pre, eB, hs, h1, h2, h3, h4⟩ := S.mem k hk m
    have len : (B k).length = pre.length + 1 := by rw [eB]; simp
    by_cases c : o = pre.length
    · subst c
      refine .inr (.inr (.inl ⟨pre, r0, rfl, eB, m, ?_, ?_, h2, h4⟩))
      · exact S.at_ k hk _ _ (by rw [eB]; simp)
      · rw [eB]; simp
    · refine .inr (.inr (.inr ⟨o, r0, ho, rfl, hat, ?_, rfl, .inl (by omega)⟩))
      have : pre[o]? = some (h.ins (st k + o)) := by
        rw [eB, List.getElem?_append_left (by omega)] at hat; exact hat
      exact hs _ (List.mem_of_getElem? this)
  · obtain ⟨hs, h1, h2⟩ := S.ops k hk m w v
    exact .inr (.inr (.inr ⟨o, r0, ho, rfl, hat, hs _ (List.mem_of_getElem? hat), rfl, (by
      by_cases c : o + 1 < (B k).length
      · exact .inl c
      · exact .inr ⟨by omega, m, w, v⟩)⟩))

end
end
section
open Go.RowKit
set_option linter.unusedVariables false
def ComeK (p : Prg) (l : KV) (td : List Nat) (x : Nat × KS) (l' : KV) (td' : List Nat) : Prop :=
 (¬ x.1 < p.cl /\ l' = l /\ td' = td) \/ (x.1 < p.cl /\ SameV (joinV (l x.1) x.2) (l x.1) /\ l' = l /\ td' = td) \/ (x.1 < p.cl /\ ¬ SameV (joinV (l x.1) x.2) (l x.1) /\ l' = putV l x.1 (joinV (l x.1) x.2) /\ td' = td ++ [x.1])

structure Todo (p : Prg) (l : KV) (td : List Nat) (a : Nat) (R : List (Nat × KS)) : Prop where
 on : OnWay p l
 just : ∀ x ∈ R, Just p x
 left : ∀ k s, k < p.cl -> l k = some s -> k ∈ td \/ ∀ x ∈ J0f p k s, x.1 < p.cl -> (∃ u, l x.1 = some u /\ leS x.2 u) \/ (k = a /\ x ∈ R)
 come : ∀ k ∈ td, k < p.cl /\ ∃ s, l k = some s
 short : td.length <= rankV l p.cl

theorem Jeh {l : KV} {n : Nat} {t : KS} {k : Nat} {u : KS} (e : l k = some u) : ∃ u', putV l n (joinV (l n) t) k = some u' /\ leS u u' := by
 by_cases h : k = n
 ·subst h
  exact ⟨_, J1a _ _ _, J8d e⟩
 ·exact ⟨u, by rw [J18 _ h]; exact e, J8e _⟩

theorem Todo.next {p : Prg} {l l' : KV} {td td' : List Nat} {a : Nat} {x : Nat × KS} {R : List (Nat × KS)} (h : Todo p l td a (x :: R)) (c : ComeK p l td x l' td') :
  Todo p l' td' a R /\ rankV l p.cl <= rankV l' p.cl /\ td'.length + rankV l p.cl <= td.length + rankV l' p.cl /\ ∀ k, (∃ s, l k = some s) -> ∃ s, l' k = some s := by
 have hj := h.just x List.mem_cons_self;have hj' : ∀ y ∈ R, Just p y := fun y hy => h.just y (List.mem_cons_of_mem _ hy)
 rcases c with ⟨hn, rfl, rfl⟩ | ⟨hn, hs, rfl, rfl⟩ | ⟨hn, hs, rfl, rfl⟩
 ·refine ⟨⟨h.on, hj', fun k s hk e => ?_, h.come, h.short⟩, Nat.le_refl _, Nat.le_refl _, fun _ q => q⟩
  rcases h.left k s hk e with q | q
  ·exact .inl q
  ·refine .inr (fun y hy hy1 => ?_)
   rcases q y hy hy1 with q | ⟨q1, q2⟩
   ·exact .inl q
   ·rcases List.mem_cons.1 q2 with rfl | q2
    ·exact absurd hy1 hn
    ·exact .inr ⟨q1, q2⟩
 ·refine ⟨⟨h.on, hj', fun k s hk e => ?_, h.come, h.short⟩, Nat.le_refl _, Nat.le_refl _, fun _ q => q⟩
  rcases h.left k s hk e with q | q
  ·exact .inl q
  ·refine .inr (fun y hy hy1 => ?_)
   rcases q y hy hy1 with q | ⟨q1, q2⟩
   ·exact .inl q
   ·rcases List.mem_cons.1 q2 with rfl | q2
    ·exact .inl (J3z hs)
    ·exact .inr ⟨q1, q2⟩
 ·have hr := Jan h.on.norm hn hj.norm hs
  refine ⟨⟨h.on.joinJ hj hn, hj', fun k s hk e => ?_, fun k hk => ?_, ?_⟩, Nat.le_of_lt hr, ?_, fun k ⟨s, e⟩ => ?_⟩
  ·by_cases hk0 : k = x.1
   ·exact .inl (by rw [hk0]; simp)
   ·rw [J18 _ hk0] at e
    rcases h.left k s hk e with q | q
    ·exact .inl (List.mem_append_left _ q)
    ·refine .inr (fun y hy hy1 => ?_)
     rcases q y hy hy1 with ⟨u, q1, q2⟩ | ⟨q1, q2⟩
     ·obtain ⟨u', h1, h2⟩ := Jeh (n := x.1) (t := x.2) q1
      exact .inl ⟨u', h1, J6m q2 h2⟩
     ·rcases List.mem_cons.1 q2 with rfl | q2
      ·exact .inl ⟨_, J1a _ _ _, Jdy⟩
      ·exact .inr ⟨q1, q2⟩
  ·rcases List.mem_append.1 hk with q | q
   ·obtain ⟨h1, s, e⟩ := h.come k q
    obtain ⟨u, e', _⟩ := Jeh (n := x.1) (t := x.2) e;exact ⟨h1, u, e'⟩
   ·obtain rfl : k = x.1 := by simpa using q
    exact ⟨hn, _, J1a _ _ _⟩
  ·have := h.short
   rw [List.length_append]; simp; omega
  ·rw [List.length_append]; simp; omega
  ·obtain ⟨u, e', _⟩ := Jeh (n := x.1) (t := x.2) e
   exact ⟨u, e'⟩

theorem Todo.start {p : Prg} (hp : 0 < p.cl) {l' : KV} {td' : List Nat} (c : ComeK p (fun _ => none) [] (0, zeroK) l' td') : Todo p l' td' 0 [] := by
 rcases c with ⟨hn, _⟩ | ⟨hn, hs, _⟩ | ⟨hn, hs, rfl, rfl⟩
 ·exact absurd hp hn
 ·obtain ⟨t, e, _⟩ := hs
  cases e
 ·refine ⟨OnWay.start hp, fun x hx => absurd hx (by simp), fun k s hk e => ?_, fun k hk => ?_, ?_⟩
  ·by_cases h0 : k = 0
   ·exact .inl (by rw [h0]; simp)
   ·rw [J18 _ h0] at e; cases e
  ·obtain rfl : k = 0 := by simpa using hk
   exact ⟨hp, _, J1a _ _ _⟩
  ·rw [J72, if_pos hp]
   have h1 := J71 (joinV none zeroK) 8;have h2 := J5z (fun _ => (none : Option KS)) p.cl 0 hp;show 1 <= _;dsimp only [rankO] at *;omega

theorem Todo.pop {p : Prg} (hp : p.Ok 200 8) {l : KV} {td : List Nat} {a b : Nat} (h : Todo p l (td ++ [a]) b []) {s : KS} (e : l a = some s) : Todo p l td a (J0f p a s) := by
 have ha := (h.come a (by simp)).1;refine ⟨h.on, fun x hx => h.on.just hp ha e hx, fun k t hk ek => ?_, fun k hk => h.come k (List.mem_append_left _ hk), ?_⟩
 ·rcases h.left k t hk ek with q | q
  ·rcases List.mem_append.1 q with q | q
   ·exact .inl q
   ·obtain rfl : k = a := by simpa using q
    rw [e] at ek; cases ek;exact .inr (fun x hx _ => .inr ⟨rfl, hx⟩)
  ·refine .inr (fun x hx hx1 => ?_)
   rcases q x hx hx1 with q | ⟨_, q⟩
   ·exact .inl q
   ·exact absurd q (by simp)
 ·have := h.short
  rw [List.length_append] at this; simp at this; omega

theorem Todo.known {p : Prg} {l : KV} {a : Nat} (h : Todo p l [] a []) : Known p l :=
 h.on.known (fun k s hk e x hx hx1 => by
  rcases h.left k s hk e with q | q
  ·exact absurd q (by simp)
  ·rcases q x hx hx1 with q | ⟨_, q⟩
   ·exact q
   ·exact absurd q (by simp))

theorem Jgh (k : Kn) (n : Int) (h0 : -9223372036854775808 <= n) : Kn.index k n = Kn.op 1 k (Kn.of n) := by
 unfold Kn.index
 split
 ·rename_i h
  have hf : fitI n = 17 := by
   have h1 := Jfh h h0;have h2 : ¬ bitLen (toU n) <= 16 := fun q => by have := (J8u _ _).1 q; omega
   exact J4p (.inr (by omega))
  have hr := J0w k.b;unfold Kn.op Kn.of;dsimp only;rw [hf, J3t (k := 17) (by omega) (by omega), Bool.or_false]
  have : opB 1 (bnd k.b) 17 = 17 := by
   unfold opB;rw [if_pos rfl]
   split
   ·omega
   ·exact J4p (.inr (by omega))
  rw [this]
 ·rfl
end
section
open Go.RowKit
theorem bl_eq : ∀ n x : Nat, x <= n -> x < 18446744073709551616 -> Lib.bitLen x = Go.bitLen x
  | 0, x, h, _ => by
    obtain rfl : x = 0 := by omega
    simp [Lib.bitLen, Lib.bitLenAux, Go.bitLen]
  | n + 1, x, h, hx => by
    by_cases h0 : x = 0
    · subst h0; simp [Lib.bitLen, Lib.bitLenAux, Go.bitLen]
    · rw [Lib.bitLen_half x h0 hx, bl_eq n (x / 2) (by omega) (by omega)]
      by_cases h1 : x / 2 = 0
      · obtain rfl : x = 1 := by omega
        decide +kernel
      · have := Go.bitLen_shift x 1 (by simpa using h1)
        rw [Nat.pow_one] at this;exact this.symm

theorem J45 (i : Nat) (h : i < Lib.len8tab.size) : (Lib.len8tab[i]).toNat = Lib.bitLen i := by
  have e := Lib.len8_eq ⟨i, by rw [Lib.len8tab_size] at h; exact h⟩;simp only [Lib.len8, Int.toNat_natCast, ByteArray.getElem?_lt' _ _ h, Option.getD_some] at e
  exact_mod_cast e

theorem J4w {x q : Int} (k : Nat) (v : Nat) (hv : v = Lib.bitLen q.toNat) (h0 : 0 <= x) (h1 : x <= 18446744073709551615) (q0 : 0 <= q) (q1 : q < 256) (hq : q.toNat = x.toNat / 2 ^ k) (hk : k <= 56) (hp : q ≠ 0) :
    wrap64 ((k : Int) + wrap64 (v : Int)) = (Lib.bitLen x.toNat : Int) := by
  have l := Lib.bitLen_le8' q q0 (by omega)
  have s := Lib.bitLen_shift k x.toNat (by
    have h2 : x.toNat / 2 ^ k ≠ 0 := by omega
    rcases Nat.lt_or_ge x.toNat (2 ^ k) with h | h
    · exact absurd (Nat.div_eq_of_lt h) h2
    · exact h) (by
      have e : (2 : Nat) ^ 64 = 18446744073709551616 := by decide +kernel
      rw [e]; omega)
  rw [s, <- hq, <- hv];rw [<- hv] at l;clear s hv hq hp q1 q0 h0 h1;unfold wrap64;omega

set_option maxRecDepth 100000 in
theorem Jag (x : Int) (w : World) (h0 : 0 <= x) (h1 : x <= 18446744073709551615) :
    Calls Tryz.prog 104 #[.int .u64 x] w fun e w' => e = .returned (.int .i64 (Lib.bitLen x.toNat)) /\ w' = w := by
  have hsz := Lib.len8tab_size;go_enter Tryz.func104, Tryz.ntmps104;go_wp2
  all_goals (go_ret; refine ⟨congrArg Ending.returned (congrArg (Value.int IntKind.i64) ?_), rfl⟩)
  all_goals first
    | (exact J4w (x := x) (q := x / 4294967296 / 65536 / 256) 56 _ (J45 _ _) (by omega) (by omega) (by omega) (by omega) (by rw [show (2 ^ 56 : Nat) = 72057594037927936 by decide +kernel]; omega) (by omega) (by omega))
    | (exact J4w (x := x) (q := x / 4294967296 / 65536) 48 _ (J45 _ _) (by omega) (by omega) (by omega) (by omega) (by rw [show (2 ^ 48 : Nat) = 281474976710656 by decide +kernel]; omega) (by omega) (by omega))
    | (exact J4w (x := x) (q := x / 4294967296 / 256) 40 _ (J45 _ _) (by omega) (by omega) (by omega) (by omega) (by rw [show (2 ^ 40 : Nat) = 1099511627776 by decide +kernel]; omega) (by omega) (by omega))
    | (exact J4w (x := x) (q := x / 4294967296) 32 _ (J45 _ _) (by omega) (by omega) (by omega) (by omega) (by rw [show (2 ^ 32 : Nat) = 4294967296 by decide +kernel]; omega) (by omega) (by omega))
    | (exact J4w (x := x) (q := x / 65536 / 256) 24 _ (J45 _ _) (by omega) (by omega) (by omega) (by omega) (by rw [show (2 ^ 24 : Nat) = 16777216 by decide +kernel]; omega) (by omega) (by omega))
    | (exact J4w (x := x) (q := x / 65536) 16 _ (J45 _ _) (by omega) (by omega) (by omega) (by omega) (by rw [show (2 ^ 16 : Nat) = 65536 by decide +kernel]; omega) (by omega) (by omega))
    | (exact J4w (x := x) (q := x / 256) 8 _ (J45 _ _) (by omega) (by omega) (by omega) (by omega) (by rw [show (2 ^ 8 : Nat) = 256 by decide +kernel]; omega) (by omega) (by omega))
    | (rw [J45]
       have l := Lib.bitLen_le8' x h0 (by omega);unfold wrap64;omega)

theorem J0r (k : Int) (w : World) :
    Calls Tryz.prog 101 #[.int .i64 k] w fun e w' => e = .returned (.int .i64 (bnd k)) /\ w' = w := by
  by_cases h : k < 0
  · rw [J4p (.inl h)]
    go_enter Tryz.func101, Tryz.ntmps101;go_wp2;go_ret;exact ⟨rfl, rfl⟩
  by_cases h2 : 16 < k
  · rw [J4p (.inr h2)]
    go_enter Tryz.func101, Tryz.ntmps101;go_wp2;go_ret;exact ⟨rfl, rfl⟩
  · rw [Jba (by omega) (by omega)]
    go_enter Tryz.func101, Tryz.ntmps101;go_wp2;go_ret;exact ⟨rfl, rfl⟩

theorem J89 (n : Int) (w : World) :
    Calls Tryz.prog 102 #[.int .i64 n] w fun e w' => e = .returned (.int .i64 (fitI n)) /\ w' = w := by
  obtain ⟨l, hl⟩ : ∃ l : Int, ((Lib.bitLen (toU n) : Nat) : Int) = l := ⟨_, rfl⟩;have hf : fitI n = bnd l := by unfold fitI; rw [<- hl, bl_eq _ _ (Nat.le_refl _) (J3p n)]
  have c : ∀ w : World, Calls Tryz.prog 104 #[.int .u64 (IntKind.u64.wrap n)] w fun e w' => e = .returned (.int .i64 l) /\ w' = w := by
    intro w;have := Jag (IntKind.u64.wrap n) w (by rw [uwrap]; omega) (by rw [uwrap]; have := J3p n; omega);rw [uwrap, Int.toNat_natCast, hl] at this;rw [uwrap]; exact this
  rw [hf];clear hf hl;obtain ⟨b, hb⟩ : ∃ b, bnd l = b := ⟨_, rfl⟩;have c2 : ∀ w : World, Calls Tryz.prog 101 #[.int .i64 l] w fun e w' => e = .returned (.int .i64 b) /\ w' = w := fun w => hb ▸ J0r l w
  rw [hb];clear hb;go_enter Tryz.func102, Tryz.ntmps102;go_wp2_with (fail)
  refine (c _).mono ?_;rintro e w1 ⟨rfl, rfl⟩;go_wp2_with (fail)
  refine (c2 _).mono ?_;rintro e w1 ⟨rfl, rfl⟩;go_wp2;go_ret;exact ⟨rfl, rfl⟩
end
section
open Go
section
variable {P : Program} {ops : Array Oper} {Q : Exit -> Act -> World -> Prop} {md : Region.Mode} {S : World -> Prop}

def ordB (md : Region.Mode) (ops : Array Oper) : List (Nat × Bool) -> Array Bool -> Bool
 | [], listed => (Region.ready md ops listed).isEmpty
 | (i, t) :: rest, listed =>
  (ops[i]?).isSome && (if t then Region.free md ops listed i && (Region.ready md ops listed).contains i else Region.ready md ops listed == [i]) &&
   ordB md ops rest (listed.setIfInBounds i true)

def J26 (P : Program) (ops : Array Oper) (S : World -> Prop) (o : Oper) (a : Act) (w : World) (K : Act -> World -> Prop) : Prop :=
 if Region.wanted o (yielded ops a.tmps) = true then ∃ v, (∀ i : { w' // S w' }, (execOp a.eval o).run P i.val = .ok (.value v) i.val) /\ K (a.put o.dst v) w
 else K (a.put o.dst undef) w

def J1u (P : Program) (ops : Array Oper) (Q : Exit -> Act -> World -> Prop) (o : Oper) (a : Act) (w : World) (K : Act -> World -> Prop) : Prop :=
 if Region.wanted o (yielded ops a.tmps) = true then Oper.wp P o a w K Q else K (a.put o.dst undef) w

def wpOrd (P : Program) (ops : Array Oper) (Q : Exit -> Act -> World -> Prop) (S : World -> Prop) : List (Nat × Bool) -> Act -> World -> Prop
 | [], a, w => Q .normal a w
 | (i, t) :: rest, a, w =>
  match ops[i]? with
  | none => False
  | some o => if t then J26 P ops S o a w (fun a' w' => wpOrd P ops Q S rest a' w') else J1u P ops Q o a w (fun a' w' => S w' /\ wpOrd P ops Q S rest a' w')

theorem J3j (hs : Region.noSelect ops = true) (hQ : ∀ c (a : Act) d v w, Q (.panic c) (a.put d v) w -> Q (.panic c) a w) :
  ∀ (l : List (Nat × Bool)) (listed : Array Bool) (a : Act) (w : World), ordB md ops l listed = true -> S w -> wpOrd P ops Q S l a w -> wpAnyH P md ops Q S l.length listed a w
 | [], listed, a, w, hB, _, h => ⟨by simpa [ordB] using hB, h⟩
 | (i, t) :: rest, listed, a, w, hB, hS, h => by
  simp only [ordB, Bool.and_eq_true] at hB;obtain ⟨⟨ho, hc⟩, hB'⟩ := hB;obtain ⟨o, ho⟩ := Option.isSome_iff_exists.1 ho;simp only [wpOrd, ho] at h;cases t with
  | true =>
   simp only [if_true, Bool.and_eq_true] at hc h;unfold J26 at h;by_cases hw : Region.wanted o (yielded ops a.tmps) = true
   ·rw [if_pos hw] at h
    obtain ⟨v, hv, hk⟩ := h;exact wpAnyH_take ho hs hc.1 hc.2 (fun c a w => hQ c a _ _ w) (.inl ⟨hw, fun w' hw' => hv ⟨w', hw'⟩⟩) hS (J3j hs hQ rest _ _ _ hB' hS hk)
   ·rw [if_neg hw] at h
    exact wpAnyH_take ho hs hc.1 hc.2 (fun c a w => hQ c a _ _ w) (.inr ⟨by simpa using hw, rfl⟩) hS (J3j hs hQ rest _ _ _ hB' hS h)
  | false =>
   simp only [Bool.false_eq_true, if_false, beq_iff_eq] at hc h;refine wpAnyH_all hc (by simp) (fun j hj => ?_);obtain rfl : j = i := by simpa using hj
   unfold J1u at h;unfold wpOp;rw [ho];show if Region.wanted o (yielded ops a.tmps) = true then _ else _
   by_cases hw : Region.wanted o (yielded ops a.tmps) = true
   ·rw [if_pos hw] at h |-
    exact .inl (Oper.wp_mono (fun a' w' h' => ⟨h'.1, J3j hs hQ rest _ _ _ hB' h'.1 h'.2⟩) h)
   ·rw [if_neg hw] at h |-
    exact ⟨hS, J3j hs hQ rest _ _ _ hB' h.1 h.2⟩

structure Ord (P : Program) (ops : Array Oper) (Q : Exit -> Act -> World -> Prop) (S : World -> Prop) (l : List (Nat × Bool)) (a : Act) (w : World) : Prop where
 out : wpOrd P ops Q S l a w

theorem J01 {id : Nat} {a : Act} {w : World} (l : List (Nat × Bool)) (hm : P.follows .mixedOrders = true) (hs : Region.noSelect ops = true)
  (hB : (ordB .any ops l (Array.replicate ops.size false) && l.length == ops.size) = true) (hS : S w.drew) (h : Ord P ops (NoPanic Q) S l a w.drew) : (Code.region id ops true).wp P Q a w := by
 rw [Bool.and_eq_true] at hB;have hl : l.length = ops.size := by simpa using hB.2
 refine wp_region_noPanic (wp_region_held_drew (S := S) hm hS (fun _ => ?_));rw [<- hl];have := J3j (P := P) (md := .any) (S := S) (Q := NoPanic Q) hs (fun _ _ _ _ _ h => h) l (Array.replicate ops.size false) a w.drew hB.1 hS h.out
 rwa [<- hl] at this

def nth {α : Type} : List α -> Nat -> Option α
 | [], _ => none
 | x :: _, 0 => some x
 | _ :: l, n + 1 => nth l n
theorem Jip {α : Type} : ∀ (l : List α) (n : Nat), nth l n = l[n]?
 | [], _ => rfl
 | _ :: _, 0 => rfl
 | _ :: l, n + 1 => by rw [nth, Jip l n]; rfl
theorem J1z {α : Type} {l : List α} {n : Nat} {x : α} (h : nth l n = some x) : l.toArray[n]? = some x := by rw [List.getElem?_toArray, <- Jip]; exact h

theorem J00 {ls : List Oper} {i : Nat} {o : Oper} {rest : List (Nat × Bool)} {a : Act} {w : World} (ho' : nth ls i = some o) (hw : Region.wanted o (yielded ls.toArray a.tmps) = true)
  (h : ∀ K : Act -> World -> Prop, (∀ a w, Ord P ls.toArray Q S rest a w -> K a w) -> ∃ v, (∀ i : { w' // S w' }, (execOp a.eval o).run P i.val = .ok (.value v) i.val) /\ K (a.put o.dst v) w) :
  Ord P ls.toArray Q S ((i, true) :: rest) a w := by
 have ho := J1z ho';refine ⟨?_⟩;simp only [wpOrd, ho];unfold J26;simp only [if_true];rw [if_pos hw];exact h _ (fun _ _ h => h.out)
theorem J02 {ls : List Oper} {i : Nat} {o : Oper} {rest : List (Nat × Bool)} {a : Act} {w : World} (ho' : nth ls i = some o) (hw : Region.wanted o (yielded ls.toArray a.tmps) = true)
  (h : ∀ K : Act -> World -> Prop, (∀ a w, S w -> Ord P ls.toArray Q S rest a w -> K a w) -> Oper.wp P o a w K Q) : Ord P ls.toArray Q S ((i, false) :: rest) a w := by
 have ho := J1z ho';refine ⟨?_⟩;simp only [wpOrd, ho, Bool.false_eq_true, if_false];unfold J1u;rw [if_pos hw];exact h _ (fun _ _ hs h => ⟨hs, h.out⟩)
theorem J1c {ls : List Oper} {i : Nat} {o : Oper} {x : Operand} {rest : List (Nat × Bool)} {a : Act} {w : World} (ho' : nth ls i = some o) (hop : o.op = .move x)
  (hw : Region.wanted o (yielded ls.toArray a.tmps) = true)
  (h : ∀ K : Act -> World -> Prop, (∀ a w, Ord P ls.toArray Q S rest a w -> K a w) -> K (a.put o.dst (a.eval x)) w) : Ord P ls.toArray Q S ((i, true) :: rest) a w := by
 refine J00 ho' hw (fun K hK => ⟨a.eval x, fun i => ?_, h K hK⟩);unfold execOp;rw [hop]
 rfl
theorem J48 {ls : List Oper} {i : Nat} {o : Oper} {x : Operand} {rest : List (Nat × Bool)} {a : Act} {w : World} (ho' : nth ls i = some o) (hop : o.op = .assign x)
  (hw : Region.wanted o (yielded ls.toArray a.tmps) = true)
  (h : ∀ K : Act -> World -> Prop, (∀ a w, Ord P ls.toArray Q S rest a w -> K a w) -> K (a.put o.dst (a.eval x)) w) : Ord P ls.toArray Q S ((i, true) :: rest) a w := by
 refine J00 ho' hw (fun K hK => ⟨a.eval x, fun i => ?_, h K hK⟩);unfold execOp;rw [hop]
 rfl

theorem J0o {ls : List Oper} {i : Nat} {o : Oper} {c x y : Operand} {rest : List (Nat × Bool)} {a : Act} {w : World} (ho' : nth ls i = some o) (hop : o.op = .pick c x y)
  (hw : Region.wanted o (yielded ls.toArray a.tmps) = true) (hc : a.eval c = .bool false)
  (h : ∀ K : Act -> World -> Prop, (∀ a w, Ord P ls.toArray Q S rest a w -> K a w) -> K (a.put o.dst (a.eval y)) w) : Ord P ls.toArray Q S ((i, true) :: rest) a w := by
 have ho := J1z ho';refine ⟨?_⟩;simp only [wpOrd, ho];unfold J26;simp only [if_true];rw [if_pos hw];refine ⟨a.eval y, fun i => ?_, h _ (fun _ _ h => h.out)⟩;unfold execOp;rw [hop];dsimp only;rw [hc]
 rfl
theorem J0s {ls : List Oper} {i : Nat} {o : Oper} {c x y : Operand} {rest : List (Nat × Bool)} {a : Act} {w : World} (ho' : nth ls i = some o) (hop : o.op = .pick c x y)
  (hw : Region.wanted o (yielded ls.toArray a.tmps) = true) (hc : a.eval c = .bool true)
  (h : ∀ K : Act -> World -> Prop, (∀ a w, Ord P ls.toArray Q S rest a w -> K a w) -> K (a.put o.dst (a.eval x)) w) : Ord P ls.toArray Q S ((i, true) :: rest) a w := by
 have ho := J1z ho';refine ⟨?_⟩;simp only [wpOrd, ho];unfold J26;simp only [if_true];rw [if_pos hw];refine ⟨a.eval x, fun i => ?_, h _ (fun _ _ h => h.out)⟩;unfold execOp;rw [hop];dsimp only;rw [hc]
 rfl

theorem J1s {ls : List Oper} {i : Nat} {o : Oper} {t : Bool} {rest : List (Nat × Bool)} {a : Act} {w : World} (ho' : nth ls i = some o) (hS : S w)
  (hw : Region.wanted o (yielded ls.toArray a.tmps) = false) (hp : a.put o.dst undef = a) (h : Ord P ls.toArray Q S rest a w) : Ord P ls.toArray Q S ((i, t) :: rest) a w := by
 have ho := J1z ho';refine ⟨?_⟩;simp only [wpOrd, ho];unfold J26 J1u;rw [hw, hp];cases t
 ·simp only [Bool.false_eq_true, if_false]; exact ⟨hS, h.out⟩
 ·simp only [Bool.false_eq_true, if_false, if_true]; exact h.out
theorem J2e {ls : List Oper} {i : Nat} {o : Oper} {t : Bool} {rest : List (Nat × Bool)} {a : Act} {w : World} (ho' : nth ls i = some o) (hS : S w)
  (hw : Region.wanted o (yielded ls.toArray a.tmps) = false)
  (h : ∀ K : Act -> World -> Prop, (∀ a w, Ord P ls.toArray Q S rest a w -> K a w) -> K (a.put o.dst undef) w) : Ord P ls.toArray Q S ((i, t) :: rest) a w := by
 have ho := J1z ho';refine ⟨?_⟩;have hk := h (fun a w => wpOrd P ls.toArray Q S rest a w) (fun _ _ h => h.out);simp only [wpOrd, ho];unfold J26 J1u;rw [hw];cases t
 ·simp only [Bool.false_eq_true, if_false]; exact ⟨hS, hk⟩
 ·simp only [Bool.false_eq_true, if_false, if_true]; exact hk
theorem J04 {a : Act} {w : World} (h : Q .normal a w) : Ord P ops (NoPanic Q) S [] a w := ⟨h⟩

end
end
end Go.Proofs.YtlbfbjeilfcjeaaGreat
