/-
  The texts Mem, Open, Shown, Plain, Sem, Fuel, Script, SOpen, StepEq, SemSpec, Copy, Own, Inv, Way, SpecAlike, Flat, FdPlain, SpQuiet, KnPlain, CkPlain, CkRound, CkSafe, one behind the other, with what is used of them.
-/
import Derived.WalkKit
import Derived.Deep.WholeRow
import Derived.Test.YtapagihngaiebaaGreatRows
import Derived.ProofKit
import Derived.OpenShut
import Derived.Deep.Slices
import Derived.Deep.SlicePairs
import Derived.Deep.Matrix
import Derived.Lib.SmallJoins
import Derived.RowKit
import Derived.Laws.BitsAllLaws
import Derived.Deep.LoopGhost
import Derived.Deep.AppendLies
import Derived.OwnWalk
import Derived.Laws.OwnMore
import Derived.Deep.OwnRows
import Derived.Laws.MathBits
namespace Go.Proofs.YtapagihngaiebaaGreat
set_option maxHeartbeats 4000000
abbrev V (n : Int) : Value := .int .i64 n
section
open Go.RowKit
def More (w w' : World) : Prop := Below w.heap.size w w'

theorem More.refl (w : World) : More w w := Below.refl _ _
theorem More.size {w w' : World} (h : More w w') : w.heap.size <= w'.heap.size := Below.size h
theorem More.block {w w' : World} (h : More w w') (i : Nat) (hi : i < w.heap.size) : w'.heap[i]? = w.heap[i]? := Below.block h i hi
theorem More.trans {a b c : World} (h : More a b) (k : More b c) : More a c := Below.trans h (Below.mono k h.size)
theorem More.alloc {w w' : World} (h : More w w') (c : Array Value) (t : TypeId) : More w (w'.alloc (.cells c t)) := Below.alloc h h.size _
theorem More.setCell {w w' : World} (h : More w w') {a : Addr} (ha : w.heap.size <= a.block) (v : Value) : More w (w'.setCell a v) := Below.setCell h ha v
theorem More.drew {w w' : World} (h : More w w') : More w w'.drew := Below.drew h
theorem More.grownBy {w w1 w2 : World} {row : Option Nat} (h : More w w1) (hg : w1.grownBy w2 row) (hr : ∀ k, row = some k -> w.heap.size <= k) : More w w2 := Below.grown h hg h.size hr
theorem J06 {w : World} {a : Addr} {v : Value} (h : w.cell? a = some v) : a.block < w.heap.size := by
 rcases Nat.lt_or_ge a.block w.heap.size with h' | h'
 ·exact h'
 ·have e : w.heap[a.block]? = none := by simp [h']
  unfold World.cell? at h;simp [e] at h
theorem More.cell {w w' : World} (h : More w w') {a : Addr} {v : Value} (hc : w.cell? a = some v) : w'.cell? a = some v := by
 rw [Below.cell h (J06 hc)]; exact hc

def Says (P : Prop) (w : World) (e : Ending) (w' : World) : Prop := ∃ r : Bool, e = .returned (.bool r) /\ (r = true ↔ P) /\ More w w'

theorem Says.yes {P : Prop} {w w' : World} (h : P) (m : More w w') : Says P w (.returned (.bool true)) w' := ⟨true, rfl, by simp [h], m⟩
theorem Says.no {P : Prop} {w w' : World} (h : ¬ P) (m : More w w') : Says P w (.returned (.bool false)) w' := ⟨false, rfl, by simp [h], m⟩

structure Ins where
 op : Int
 a : Int
 b : Int
 c : Int
 n : Int

structure Prg where
 rl : Nat
 log : Nat -> Int
 sec : Nat -> Bool
 cl : Nat
 ins : Nat -> Ins

def J0h (rl : Nat) (log : Nat -> Int) : Prop := rl <= 6 /\ ∀ i, i < rl -> 0 <= log i /\ log i <= 6

def Reg (regs x : Int) : Prop := 0 <= x /\ x < regs
def Rgn (rl : Nat) (x : Int) : Prop := 0 <= x /\ x < rl
def Plc (cl : Nat) (x : Int) : Prop := 0 <= x /\ x < cl
def Wrd (log : Nat -> Int) (c n : Int) : Prop := 0 <= n /\ n < 2 ^ (log c.toNat).toNat

def InsOk (rl : Nat) (log : Nat -> Int) (cl : Nat) (regs : Int) (i : Ins) : Prop :=
 if i.op = 1 then Reg regs i.a /\ i.b = 0 /\ i.c = 0
 else if i.op = 2 then Reg regs i.a /\ Reg regs i.b /\ i.c = 0 /\ i.n = 0
 else if i.op = 3 then Reg regs i.a /\ Reg regs i.b /\ Rgn rl i.c
 else if i.op = 4 then Reg regs i.a /\ Reg regs i.b /\ Rgn rl i.c
 else if i.op = 5 then Reg regs i.a /\ i.b = 0 /\ Rgn rl i.c /\ Wrd log i.c i.n
 else if i.op = 6 then Reg regs i.a /\ i.b = 0 /\ Rgn rl i.c /\ Wrd log i.c i.n
 else if i.op = 7 then i.a = 0 /\ i.b = 0 /\ i.c = 0 /\ Plc cl i.n
 else if i.op = 8 then Reg regs i.a /\ Reg regs i.b /\ (1 <= i.c /\ i.c <= 4) /\ Plc cl i.n
 else if i.op = 9 then Reg regs i.a /\ i.b = 0 /\ i.c = 0 /\ i.n = 0
 else if i.op = 10 then Reg regs i.a /\ Reg regs i.b /\ i.c = 0
 else if i.op = 11 then Reg regs i.a /\ i.b = 0 /\ i.c = 0 /\ 1 <= i.n /\ i.n <= 64
 else if i.op = 12 then i.a = 0 /\ i.b = 0 /\ i.c = 0 /\ i.n = 0
 else (21 <= i.op /\ i.op <= 30) /\ Reg regs i.a /\ Reg regs i.b /\ Reg regs i.c /\ i.n = 0

def J7u (rl : Nat) (log : Nat -> Int) (cl : Nat) (ins : Nat -> Ins) (most : Nat) (regs : Int) : Prop :=
 1 <= cl /\ cl <= most /\ ∀ i, i < cl -> InsOk rl log cl regs (ins i)

def Prg.Ok (p : Prg) (most : Nat) (regs : Int) : Prop := J0h p.rl p.log /\ J7u p.rl p.log p.cl p.ins most regs

def RegsAt (w : World) (b o rl : Nat) (log : Nat -> Int) (sec : Nat -> Bool) : Prop :=
 ∀ i, i < rl -> w.cell? ⟨b, o + i * 2, none⟩ = some (V (log i)) /\ w.cell? ⟨b, o + i * 2 + 1, none⟩ = some (.bool (sec i))
def CodeAt (w : World) (b o cl : Nat) (ins : Nat -> Ins) : Prop :=
 ∀ i, i < cl -> w.cell? ⟨b, o + i * 5, none⟩ = some (V (ins i).op) /\ w.cell? ⟨b, o + i * 5 + 1, none⟩ = some (V (ins i).a) /\ w.cell? ⟨b, o + i * 5 + 2, none⟩ = some (V (ins i).b) /\
  w.cell? ⟨b, o + i * 5 + 3, none⟩ = some (V (ins i).c) /\ w.cell? ⟨b, o + i * 5 + 4, none⟩ = some (V (ins i).n)

theorem RegsAt.more {w w' : World} (m : More w w') {b o rl : Nat} {log : Nat -> Int} {sec : Nat -> Bool} (h : RegsAt w b o rl log sec) : RegsAt w' b o rl log sec :=
 fun i hi => ⟨m.cell (h i hi).1, m.cell (h i hi).2⟩
theorem CodeAt.more {w w' : World} (m : More w w') {b o cl : Nat} {ins : Nat -> Ins} (h : CodeAt w b o cl ins) : CodeAt w' b o cl ins :=
 fun i hi => ⟨m.cell (h i hi).1, m.cell (h i hi).2.1, m.cell (h i hi).2.2.1, m.cell (h i hi).2.2.2.1, m.cell (h i hi).2.2.2.2⟩

structure Loc where
 ra : Option Addr
 rb : Nat
 ro : Nat
 rc : Nat
 ca : Option Addr
 cb : Nat
 co : Nat
 cc : Nat

structure PIn (w : World) (p : Prg) (l : Loc) : Prop where
 hr : 0 < p.rl -> l.ra = some ⟨l.rb, l.ro, none⟩
 hc : 0 < p.cl -> l.ca = some ⟨l.cb, l.co, none⟩
 regs : RegsAt w l.rb l.ro p.rl p.log p.sec
 code : CodeAt w l.cb l.co p.cl p.ins

theorem PIn.more {w w' : World} (m : More w w') {p : Prg} {l : Loc} (h : PIn w p l) : PIn w' p l := ⟨h.hr, h.hc, h.regs.more m, h.code.more m⟩

def Blw (n e : Int) : Prop := 0 <= n /\ n < e
def Btw (a b c : Int) : Prop := a <= c /\ c <= b

def J0c (l : Int) : Int := 2 ^ l.toNat

theorem J2h {k : Nat} (h : k <= 6) : (1 : Int) <= 2 ^ k /\ (2 : Int) ^ k <= 64 := by
 have : k = 0 \/ k = 1 \/ k = 2 \/ k = 3 \/ k = 4 \/ k = 5 \/ k = 6 := by omega
 rcases this with rfl | rfl | rfl | rfl | rfl | rfl | rfl <;> decide

theorem Says.is_yes {P : Prop} (h : P) {w : World} {e : Ending} {w' : World} (s : Says P w e w') : e = .returned (.bool true) /\ More w w' := by
 obtain ⟨r, rfl, hr, m⟩ := s;cases r
 ·simpa using hr.2 h
 ·exact ⟨rfl, m⟩
theorem Says.is_no {P : Prop} (h : ¬ P) {w : World} {e : Ending} {w' : World} (s : Says P w e w') : e = .returned (.bool false) /\ More w w' := by
 obtain ⟨r, rfl, hr, m⟩ := s;cases r
 ·exact ⟨rfl, m⟩
 ·exact absurd (hr.1 rfl) h

def ListsAt (w : World) (b o ml : Nat) (A : Nat -> Option Addr) (L C : Nat -> Nat) : Prop := ∀ i, i < ml -> w.cell? ⟨b, o + i, none⟩ = some (.slice (A i) (L i) (C i))
theorem ListsAt.more {w w' : World} (m : More w w') {b o ml : Nat} {A : Nat -> Option Addr} {L C : Nat -> Nat} (h : ListsAt w b o ml A L C) : ListsAt w' b o ml A L C := fun i hi => m.cell (h i hi)

def J0t (rl : Nat) (log : Nat -> Int) (ml : Nat) (L : Nat -> Nat) : Prop := J0h rl log /\ ml = rl /\ ∀ i, i < rl -> (L i : Int) = J0c (log i)
end
section
open Go.ChangeShapes Go.WideShapes Go.ChangeAt Go.RowKit Go.Deep Go.Joins
set_option maxRecDepth 8000
theorem Jk3 : Tryz.prog.cellsOf 40 = 2 := by kernel_rfl
theorem Jk2 : Tryz.prog.cellsOf 42 = 5 := by kernel_rfl
theorem Jk0 : Tryz.prog.cellsOf 25 = 2 := by kernel_rfl
theorem Jk4 : Tryz.prog.cellsOf 43 = 1 := by kernel_rfl
theorem Jjf : Tryz.prog.cellsOf 2 = 1 := by kernel_rfl
theorem Jjg : Tryz.prog.cellsOf 3 = 1 := by kernel_rfl
theorem Jm7 : Tryz.prog.cellsOf 4 = 1 := by kernel_rfl

def I64 (x : Int) : Prop := -9223372036854775808 <= x /\ x <= 9223372036854775807
def Ins.fits (i : Ins) : Prop := I64 i.op /\ I64 i.a /\ I64 i.b /\ I64 i.c /\ I64 i.n

structure Prg.Fit (p : Prg) : Prop where
 rl : p.rl <= maxLen
 cl : p.cl <= maxLen
 log : ∀ i, i < p.rl -> I64 (p.log i)
 ins : ∀ i, i < p.cl -> (p.ins i).fits

section
variable {H : Type} {enc : TypeId × Value -> H} {W : World} {base : Nat} {held : Bool}

theorem J23 {a : Addr} {v : Value} (h : W.cell? a = some v) : a = ⟨a.block, a.off, none⟩ := by
 have := World.cell?_spot h;cases a
 simp_all

theorem Jfc {fuel : Nat} {cs : List Value} {x : DataW H × List MemPlace} (h : DataW.trod enc Tryz.prog W base (fun _ => true) held fuel 22 cs = some x) :
  ∃ (ra : Option Addr) (rb ro rl rc : Nat) (log : Nat -> Int) (sec : Nat -> Bool), cs = [.slice ra rl rc] /\ (0 < rl -> ra = some ⟨rb, ro, none⟩) /\ RegsAt W rb ro rl log sec /\ rl <= rc /\ rc <= maxLen /\ ∀ i, i < rl -> I64 (log i) := by
 rcases open_slice Tryz.underlying22 h with ⟨rfl, _⟩ | ⟨a, len, cap, m, n, D, Pl, rfl, hb, hl, hm, hmm, rfl, hx⟩
 ·exact ⟨none, 0, 0, 0, 0, fun _ => 0, fun _ => false, rfl, fun h => by omega, fun i hi => by omega, Nat.le_refl _, Nat.zero_le _, fun i hi => by omega⟩
 have hlm : len <= m := by rw [hmm]; simpa using hl
 have each : ∀ i, i < len -> ∃ q : Int × Bool, W.cell? (a.add (i * 2)) = some (V q.1) /\ W.cell? (a.add (i * 2 + 1)) = some (.bool q.2) /\ I64 q.1 := by
  intro i hi;obtain ⟨cs', h1, h2⟩ := hx i (by omega);rw [Jk3] at h1;obtain ⟨_, hlen, hcell⟩ := World.cells?_some h1;obtain ⟨xs, k, hk, hxy, _, hxl, hf⟩ := DataW.trod_struct Tryz.underlying40 h2
  match cs', hlen with
  | [v0, v1], _ =>
   have g0 := hf 0 _ rfl;have g1 := hf 1 _ rfl;have e0 := hcell 0 (by omega);have e1 := hcell 1 (by omega);rw [add_add] at e0 e1;simp [Jjg, Jm7] at g0 g1
   match xs, hxl with
   | [y0, y1], _ =>
    simp at g0 g1;obtain ⟨z, hz, _, wz⟩ := DataW.trod_int Tryz.underlying3 g0;obtain ⟨s, hs, _⟩ := DataW.trod_bool Tryz.underlying4 g1;simp at hz hs e0 e1;subst hz hs;exact ⟨(z, s), e0, e1, bounds_i64 wz⟩
 obtain ⟨q, hq⟩ := choose_lt each;refine ⟨some a, a.block, a.off, len, cap, fun i => (q i).1, fun i => (q i).2, rfl, fun h0 => ?_, fun i hi => ?_, hl, hm, fun i hi => (hq i hi).2.2⟩
 ·have h1 := (hq 0 h0).1
  simp [Addr.add] at h1;rw [<- J23 h1]
 ·have h1 := (hq 0 (by omega)).1
  simp [Addr.add] at h1;have ha := J23 h1;obtain ⟨b, o, s⟩ := a;simp at ha;subst ha;have := hq i hi;rw [add_plain, add_plain] at this;exact ⟨by simpa using this.1, by have := this.2.1; simpa [Nat.add_assoc] using this⟩

theorem Jfa {fuel : Nat} {cs : List Value} {x : DataW H × List MemPlace} (h : DataW.trod enc Tryz.prog W base (fun _ => true) held fuel 23 cs = some x) :
  ∃ (ca : Option Addr) (cb co cl cc : Nat) (ins : Nat -> Ins), cs = [.slice ca cl cc] /\ (0 < cl -> ca = some ⟨cb, co, none⟩) /\ CodeAt W cb co cl ins /\ cl <= cc /\ cc <= maxLen /\ ∀ i, i < cl -> (ins i).fits := by
 rcases open_slice Tryz.underlying23 h with ⟨rfl, _⟩ | ⟨a, len, cap, m, n, D, Pl, rfl, hb, hl, hm, hmm, rfl, hx⟩
 ·exact ⟨none, 0, 0, 0, 0, fun _ => ⟨0, 0, 0, 0, 0⟩, rfl, fun h => by omega, fun i hi => by omega, Nat.le_refl _, Nat.zero_le _, fun i hi => by omega⟩
 have hlm : len <= m := by rw [hmm]; simpa using hl
 have each : ∀ i, i < len -> ∃ q : Int × Int × Int × Int × Int, W.cell? (a.add (i * 5)) = some (V q.1) /\ W.cell? (a.add (i * 5 + 1)) = some (V q.2.1) /\ W.cell? (a.add (i * 5 + 2)) = some (V q.2.2.1) /\
   W.cell? (a.add (i * 5 + 3)) = some (V q.2.2.2.1) /\ W.cell? (a.add (i * 5 + 4)) = some (V q.2.2.2.2) /\ I64 q.1 /\ I64 q.2.1 /\ I64 q.2.2.1 /\ I64 q.2.2.2.1 /\ I64 q.2.2.2.2 := by
  intro i hi;obtain ⟨cs', h1, h2⟩ := hx i (by omega);rw [Jk2] at h1;obtain ⟨_, hlen, hcell⟩ := World.cells?_some h1;obtain ⟨xs, k, hk, hxy, _, hxl, hf⟩ := DataW.trod_struct Tryz.underlying42 h2
  match cs', hlen with
  | [v0, v1, v2, v3, v4], _ =>
   have g0 := hf 0 _ rfl;have g1 := hf 1 _ rfl;have g2 := hf 2 _ rfl;have g3 := hf 3 _ rfl;have g4 := hf 4 _ rfl;have e0 := hcell 0 (by omega);have e1 := hcell 1 (by omega);have e2 := hcell 2 (by omega);have e3 := hcell 3 (by omega);have e4 := hcell 4 (by omega);rw [add_add] at e0 e1 e2 e3 e4;simp [Jjg, Jjf] at g0 g1 g2 g3 g4
   match xs, hxl with
   | [y0, y1, y2, y3, y4], _ =>
    simp at g0 g1 g2 g3 g4;obtain ⟨z0, hz0, _, wz0⟩ := DataW.trod_int Tryz.underlying3 g0;obtain ⟨z1, hz1, _, wz1⟩ := DataW.trod_int Tryz.underlying3 g1;obtain ⟨z2, hz2, _, wz2⟩ := DataW.trod_int Tryz.underlying3 g2;obtain ⟨z3, hz3, _, wz3⟩ := DataW.trod_int Tryz.underlying3 g3;obtain ⟨z4, hz4, _, wz4⟩ := DataW.trod_int Tryz.underlying2 g4;simp at hz0 hz1 hz2 hz3 hz4 e0 e1 e2 e3 e4;subst hz0 hz1 hz2 hz3 hz4;exact ⟨(z0, z1, z2, z3, z4), e0, e1, e2, e3, e4, bounds_i64 wz0, bounds_i64 wz1, bounds_i64 wz2, bounds_i64 wz3, bounds_i64 wz4⟩
 obtain ⟨q, hq⟩ := choose_lt each;refine ⟨some a, a.block, a.off, len, cap, fun i => ⟨(q i).1, (q i).2.1, (q i).2.2.1, (q i).2.2.2.1, (q i).2.2.2.2⟩, rfl, fun h0 => ?_, fun i hi => ?_, hl, hm, fun i hi => (hq i hi).2.2.2.2.2⟩
 ·have h1 := (hq 0 h0).1
  simp [Addr.add] at h1;rw [<- J23 h1]
 ·have h1 := (hq 0 (by omega)).1
  simp [Addr.add] at h1;have ha := J23 h1;obtain ⟨b, o, s⟩ := a;simp at ha;subst ha;have := hq i hi;rw [add_plain, add_plain, add_plain, add_plain, add_plain] at this;obtain ⟨t0, t1, t2, t3, t4, _⟩ := this;exact ⟨by simpa using t0, by simpa [Nat.add_assoc] using t1, by simpa [Nat.add_assoc] using t2, by simpa [Nat.add_assoc] using t3, by simpa [Nat.add_assoc] using t4⟩

theorem Jfb {v : Value} {d : DataW H} {ps : List MemPlace} {r : Reach} {b0 : Nat} (hv : Value.okWide Tryz.prog W r b0 25 v) (h : DataW.Trod enc Tryz.prog W base (fun _ => true) held 25 v d ps) :
  ∃ (p : Prg) (l : Loc), v = .agg #[.slice l.ra p.rl l.rc, .slice l.ca p.cl l.cc] /\ PIn W p l /\ p.Fit := by
 obtain ⟨v0, v1, y0, y1, n, rfl, rfl, rfl, h0, h1⟩ := open_agg2 Tryz.underlying25 (by kernel_rfl) Jk0 hv h;obtain ⟨ra, rb, ro, rl, rc, log, sec, e0, hra, hr, hrc, hrm, hlog⟩ := Jfc h0;obtain ⟨ca, cb, co, cl, cc, ins, e1, hca, hc, hcc, hcm, hins⟩ := Jfa h1;simp at e0 e1;subst e0 e1;exact ⟨⟨rl, log, sec, cl, ins⟩, ⟨ra, rb, ro, rc, ca, cb, co, cc⟩, rfl, ⟨hra, hca, hr, hc⟩, ⟨Nat.le_trans hrc hrm, Nat.le_trans hcc hcm, hlog, hins⟩⟩

end
end
section
open Go.RowKit
structure Se where
 kind : Int
 a : Int
 b : Int

def SeesAt (w : World) (b o : Nat) (l : List Se) : Prop :=
 ∀ i s, l[i]? = some s -> w.cell? ⟨b, o + i * 3, none⟩ = some (V s.kind) /\ w.cell? ⟨b, o + i * 3 + 1, none⟩ = some (V s.a) /\ w.cell? ⟨b, o + i * 3 + 2, none⟩ = some (V s.b)
theorem SeesAt.more {w w' : World} (m : More w w') {b o : Nat} {l : List Se} (h : SeesAt w b o l) : SeesAt w' b o l :=
 fun i s hs => ⟨m.cell (h i s hs).1, m.cell (h i s hs).2.1, m.cell (h i s hs).2.2⟩

def SeenAt (w : World) (v : Value) (l : List Se) : Prop :=
 ∃ (a : Option Addr) (b o c : Nat), v = .slice a l.length c /\ (0 < l.length -> a = some ⟨b, o, none⟩) /\ SeesAt w b o l /\ l.length < 4611686018427387904
theorem SeenAt.more {w w' : World} (m : More w w') {v : Value} {l : List Se} (h : SeenAt w v l) : SeenAt w' v l := by
 obtain ⟨a, b, o, c, e, h1, h2, h3⟩ := h;exact ⟨a, b, o, c, e, h1, h2.more m, h3⟩

structure Mem where
 ml : Nat
 len : Nat -> Nat
 wd : Nat -> Nat -> Int
structure MLoc where
 ma : Option Addr
 mb : Nat
 mo : Nat
 mc : Nat
 A : Nat -> Option Addr
 C : Nat -> Nat
 gb : Nat -> Nat
 go : Nat -> Nat

structure MIn (w : World) (m : Mem) (l : MLoc) : Prop where
 hm : 0 < m.ml -> l.ma = some ⟨l.mb, l.mo, none⟩
 lists : ListsAt w l.mb l.mo m.ml l.A m.len l.C
 hg : ∀ i, i < m.ml -> 0 < m.len i -> l.A i = some ⟨l.gb i, l.go i, none⟩
 words : ∀ i, i < m.ml -> ∀ j, j < m.len i -> w.cell? ⟨l.gb i, l.go i + j, none⟩ = some (V (m.wd i j))
 fitl : m.ml < 4611686018427387904
 fitw : ∀ i, i < m.ml -> m.len i < 4611686018427387904
theorem MIn.more {w w' : World} (m : More w w') {x : Mem} {l : MLoc} (h : MIn w x l) : MIn w' x l :=
 ⟨h.hm, h.lists.more m, h.hg, fun i hi j hj => m.cell (h.words i hi j hj), h.fitl, h.fitw⟩

structure Mem.Like (x y : Mem) : Prop where
 ml : x.ml = y.ml
 len : ∀ i, i < x.ml -> x.len i = y.len i
 wd : ∀ i, i < x.ml -> ∀ j, j < x.len i -> x.wd i j = y.wd i j

structure Sh where
 fin : Int
 val : Int
 steps : Int
 seen : List Se
 mem : Mem

def J65 (w : World) (v : Value) (x : Sh) : Prop :=
 ∃ (sv : Value) (l : MLoc), v = .agg #[V x.fin, V x.val, V x.steps, sv, .slice l.ma x.mem.ml l.mc] /\ SeenAt w sv x.seen /\ MIn w x.mem l
def toU (a : Int) : Nat := (a % 18446744073709551616).toNat

theorem J2k (a : Int) : ((toU a : Nat) : Int) = a % 18446744073709551616 := by unfold toU; omega
theorem J55 (a : Int) : toU a < 18446744073709551616 := by unfold toU; omega

def opI (op a b : Int) : Int :=
 if op = 1 then wrap64 (a + b)
 else if op = 2 then wrap64 (a - b)
 else if op = 3 then wrap64 (a * b)
 else if op = 4 then wrap64 ((toU a &&& toU b : Nat) : Int)
 else if op = 5 then wrap64 ((toU a ||| toU b : Nat) : Int)
 else if op = 6 then wrap64 ((toU a ^^^ toU b : Nat) : Int)
 else if op = 7 then wrap64 ((toU a * 2 ^ (toU b % 64) : Nat) : Int)
 else if op = 8 then wrap64 ((toU a / 2 ^ (toU b % 64) : Nat) : Int)
 else if op = 9 then wrap64 ((toU a / toU b : Nat) : Int)
 else if op = 10 then wrap64 ((toU a % toU b : Nat) : Int)
 else 0

def J0u (c a b : Int) : Bool :=
 if c = 1 then toU a == toU b
 else if c = 2 then toU a != toU b
 else if c = 3 then decide (toU a < toU b)
 else if c = 4 then decide (toU b <= toU a)
 else false

theorem uwrap (a : Int) : IntKind.u64.wrap a = ((toU a : Nat) : Int) := by rw [IntKind.wrap_u64, J2k]

theorem J3f (n : Int) : wrap64 (IntKind.u64.wrap n) = wrap64 n := by
 rw [IntKind.wrap_u64]; unfold wrap64; omega

theorem Jj1 (a b : Int) : wrap64 (IntKind.u64.wrap (IntKind.u64.wrap a + IntKind.u64.wrap b)) = wrap64 (a + b) := by
 rw [J3f]; simp only [IntKind.wrap_u64]; unfold wrap64; omega
theorem Jj8 (a b : Int) : wrap64 (IntKind.u64.wrap (IntKind.u64.wrap a - IntKind.u64.wrap b)) = wrap64 (a - b) := by
 rw [J3f]; simp only [IntKind.wrap_u64]; unfold wrap64; omega
theorem Jj3 (a b : Int) : wrap64 (IntKind.u64.wrap (IntKind.u64.wrap a * IntKind.u64.wrap b)) = wrap64 (a * b) := by
 have h : (a % 18446744073709551616 * (b % 18446744073709551616)) % 18446744073709551616 = (a * b) % 18446744073709551616 := by
  rw [<- Int.mul_emod]
 rw [J3f]; simp only [IntKind.wrap_u64]; unfold wrap64; omega
theorem Jj2 (a b : Int) : wrap64 (bits .and .u64 (IntKind.u64.wrap a) (IntKind.u64.wrap b)) = wrap64 ((toU a &&& toU b : Nat) : Int) := by
 rw [uwrap, uwrap, u64_and_nat _ _ (J55 a) (J55 b)]
theorem Jm1 (a b : Int) : wrap64 (bits .or .u64 (IntKind.u64.wrap a) (IntKind.u64.wrap b)) = wrap64 ((toU a ||| toU b : Nat) : Int) := by
 rw [uwrap, uwrap, u64_or_nat _ _ (J55 a) (J55 b)]
theorem Jj9 (a b : Int) : wrap64 (bits .xor .u64 (IntKind.u64.wrap a) (IntKind.u64.wrap b)) = wrap64 ((toU a ^^^ toU b : Nat) : Int) := by
 rw [uwrap, uwrap, u64_xor_nat _ _ (J55 a) (J55 b)]
theorem and63 (y : Int) : bits BinOp.and IntKind.u64 (IntKind.u64.wrap y) 63 = ((toU y % 64 : Nat) : Int) := by
 have h := u64_and_nat (toU y) 63 (J55 y) (by decide);rw [uwrap];exact h.trans (by rw [nat_mask6])
theorem Jj6 (a : Int) (k : Nat) : wrap64 (IntKind.u64.wrap (IntKind.u64.wrap a * 2 ^ k)) = wrap64 ((toU a * 2 ^ k : Nat) : Int) := by
 rw [J3f, uwrap]; push_cast; rfl
theorem Jj7 (a : Int) (k : Nat) : wrap64 (IntKind.u64.wrap a / 2 ^ k) = wrap64 ((toU a / 2 ^ k : Nat) : Int) := by
 rw [uwrap]; push_cast; rfl
theorem Jj4 (a b : Int) : wrap64 (IntKind.u64.wrap ((IntKind.u64.wrap a).tdiv (IntKind.u64.wrap b))) = wrap64 ((toU a / toU b : Nat) : Int) := by
 rw [J3f, uwrap, uwrap, Int.ofNat_tdiv]
theorem Jj5 (a b : Int) : wrap64 ((IntKind.u64.wrap a).tmod (IntKind.u64.wrap b)) = wrap64 ((toU a % toU b : Nat) : Int) := by
 rw [uwrap, uwrap, Int.ofNat_tmod]
theorem Jig (a b : Int) (h : toU b = 0) : (0 : Int) = wrap64 ((toU a / toU b : Nat) : Int) := by
 rw [h, Nat.div_zero]; unfold wrap64; omega
theorem Jil (a b : Int) (h : toU b = 0) : wrap64 (IntKind.u64.wrap a) = wrap64 ((toU a % toU b : Nat) : Int) := by
 rw [h, Nat.mod_zero, uwrap]

theorem Jhe (a b : Int) : J0u 1 a b = (IntKind.u64.wrap a == IntKind.u64.wrap b) := by
 have h := J2k a; have h' := J2k b;simp only [J0u, IntKind.wrap_u64];rw [Bool.eq_iff_iff]; simp; omega
theorem Jhf (a b : Int) : J0u 2 a b = (IntKind.u64.wrap a != IntKind.u64.wrap b) := by
 have h := J2k a; have h' := J2k b;simp only [J0u, IntKind.wrap_u64];rw [Bool.eq_iff_iff]; simp; omega
theorem Jhg (a b : Int) : J0u 3 a b = decide (IntKind.u64.wrap a < IntKind.u64.wrap b) := by
 have h := J2k a; have h' := J2k b;simp only [J0u, IntKind.wrap_u64];rw [Bool.eq_iff_iff]; simp; omega
theorem Jhh (a b : Int) : J0u 4 a b = decide (IntKind.u64.wrap b <= IntKind.u64.wrap a) := by
 have h := J2k a; have h' := J2k b;simp only [J0u, IntKind.wrap_u64];rw [Bool.eq_iff_iff]; simp; omega

theorem opI_1 (a b : Int) : opI 1 a b = wrap64 (a + b) := by simp [opI]
theorem opI_2 (a b : Int) : opI 2 a b = wrap64 (a - b) := by simp [opI]
theorem opI_3 (a b : Int) : opI 3 a b = wrap64 (a * b) := by simp [opI]
theorem opI_4 (a b : Int) : opI 4 a b = wrap64 ((toU a &&& toU b : Nat) : Int) := by simp [opI]
theorem opI_5 (a b : Int) : opI 5 a b = wrap64 ((toU a ||| toU b : Nat) : Int) := by simp [opI]
theorem opI_6 (a b : Int) : opI 6 a b = wrap64 ((toU a ^^^ toU b : Nat) : Int) := by simp [opI]
theorem opI_7 (a b : Int) : opI 7 a b = wrap64 ((toU a * 2 ^ (toU b % 64) : Nat) : Int) := by simp [opI]
theorem opI_8 (a b : Int) : opI 8 a b = wrap64 ((toU a / 2 ^ (toU b % 64) : Nat) : Int) := by simp [opI]
theorem opI_9 (a b : Int) : opI 9 a b = wrap64 ((toU a / toU b : Nat) : Int) := by simp [opI]
theorem Jjp (a b : Int) : opI 10 a b = wrap64 ((toU a % toU b : Nat) : Int) := by simp [opI]
def B64 (x : Int) : Prop := -9223372036854775808 <= x /\ x <= 9223372036854775807
theorem J5x (x : Int) : B64 (wrap64 x) := by unfold B64 wrap64; omega
theorem J1i : B64 0 := by unfold B64; omega

def setR (r : Nat -> Int) (a v : Int) : Nat -> Int := fun j => if j = a.toNat then v else r j
def setW (m : Mem) (c i : Nat) (v : Int) : Mem := ⟨m.ml, m.len, fun x y => if x = c /\ y = i then v else m.wd x y⟩

def baseI (log : Nat -> Int) : Nat -> Int
 | 0 => 0
 | k + 1 => baseI log k + J0c (log k)

def regsI (r : Nat -> Int) (i : Ins) : (Nat -> Int) × List Se :=
 if i.op = 1 then (setR r i.a i.n, [])
 else if i.op = 2 then (setR r i.a (r i.b.toNat), [])
 else if i.op = 10 then (setR r i.a (wrap64 (r i.b.toNat + i.n)), [])
 else if i.op = 11 then (if r i.a.toNat < 0 \/ i.n <= r i.a.toNat then setR r i.a 0 else r, [])
 else if i.op = 12 then (r, [])
 else (setR r i.a (opI (i.op - 20) (r i.b.toNat) (r i.c.toNat)), if i.op = 29 \/ i.op = 30 then [⟨3, r i.b.toNat, r i.c.toNat⟩] else [])

def putI (i : Ins) : Int := if i.op = 3 \/ i.op = 5 then 0 else if i.op = 4 \/ i.op = 6 then 1 else -1
def idxI (r : Nat -> Int) (i : Ins) : Int := if i.op = 5 \/ i.op = 6 then i.n else wrap64 (r i.b.toNat + i.n)

structure St where
 at_ : Nat
 r : Nat -> Int
 m : Mem
 seen : List Se

def stepI (p : Prg) (s : St) : St × Option (Int × Int) :=
 if (p.ins s.at_).op = 7 then (⟨(p.ins s.at_).n.toNat, s.r, s.m, s.seen ++ [⟨1, s.at_, 0⟩]⟩, none)
 else if (p.ins s.at_).op = 8 then
  (⟨if J0u (p.ins s.at_).c (s.r (p.ins s.at_).a.toNat) (s.r (p.ins s.at_).b.toNat) = true then (p.ins s.at_).n.toNat else s.at_ + 1, s.r, s.m, s.seen ++ [⟨1, s.at_, 0⟩]⟩, none)
 else if (p.ins s.at_).op = 9 then (⟨s.at_ + 1, s.r, s.m, s.seen ++ [⟨1, s.at_, 0⟩]⟩, some (1, s.r (p.ins s.at_).a.toNat))
 else if 0 <= putI (p.ins s.at_) then
  if idxI s.r (p.ins s.at_) < 0 \/ (s.m.len (p.ins s.at_).c.toNat : Int) <= idxI s.r (p.ins s.at_) then (⟨s.at_ + 1, s.r, s.m, s.seen ++ [⟨1, s.at_, 0⟩]⟩, some (2, 0))
  else if putI (p.ins s.at_) = 1 then
   (⟨s.at_ + 1, s.r, setW s.m (p.ins s.at_).c.toNat (idxI s.r (p.ins s.at_)).toNat (s.r (p.ins s.at_).a.toNat),
    s.seen ++ [⟨1, s.at_, 0⟩] ++ [⟨2, baseI p.log (p.ins s.at_).c.toNat + idxI s.r (p.ins s.at_), 1⟩]⟩, none)
  else
   (⟨s.at_ + 1, setR s.r (p.ins s.at_).a (s.m.wd (p.ins s.at_).c.toNat (idxI s.r (p.ins s.at_)).toNat), s.m,
    s.seen ++ [⟨1, s.at_, 0⟩] ++ [⟨2, baseI p.log (p.ins s.at_).c.toNat + idxI s.r (p.ins s.at_), 0⟩]⟩, none)
 else (⟨s.at_ + 1, (regsI s.r (p.ins s.at_)).1, s.m, s.seen ++ [⟨1, s.at_, 0⟩] ++ (regsI s.r (p.ins s.at_)).2⟩, none)

def runI (p : Prg) : Nat -> Nat -> St -> Sh
 | 0, k, s => ⟨0, 0, k, s.seen, s.m⟩
 | f + 1, k, s =>
  if p.cl <= s.at_ then ⟨2, 0, k, s.seen, s.m⟩
  else match (stepI p s).2 with
   | some e => ⟨e.1, e.2, (k : Int) + 1, (stepI p s).1.seen, (stepI p s).1.m⟩
   | none => runI p f (k + 1) (stepI p s).1

def playI (p : Prg) (m : Mem) (fuel : Nat) : Sh := runI p fuel 0 ⟨0, fun _ => 0, m, []⟩

theorem Jat {w w' : World} {row : Option Nat} (hg : w.grownBy w' row) {a : Addr} {v : Value} (h : w.cell? a = some v) (hne : some a.block ≠ row) : w'.frozen? a = w.frozen? a :=
 World.frozen?_of_block (hg.block a.block (J06 h) hne)
theorem J36 (w : World) (row : Option Nat) : w.grownBy w.drew row := ⟨rfl, rfl, rfl, Nat.le_refl _, fun _ _ _ => rfl⟩
theorem J1l (w : World) (row : Option Nat) : w.grownBy w row := ⟨rfl, rfl, rfl, Nat.le_refl _, fun _ _ _ => rfl⟩
theorem J1d (w : World) (g o : Nat) (v : Value) : w.grownBy (w.setCell ⟨g, o, none⟩ v) (some g) :=
 ⟨rfl, rfl, rfl, by simp [World.setCell], fun k _ hne => Below.heap_setCell _ _ _ _ (by simpa using hne)⟩
theorem J1z {a b c : World} {row : Option Nat} (h : a.grownBy b row) (k : b.grownBy c row) : a.grownBy c row :=
 ⟨k.os.trans h.os, k.tape.trans h.tape, k.output.trans h.output, Nat.le_trans h.size k.size, fun i hi hne => (k.block i (Nat.lt_of_lt_of_le hi h.size) hne).trans (h.block i hi hne)⟩
theorem More.grow {w w' : World} (h : More w w') (row : Option Nat) : w.grownBy w' row := ⟨Below.os h, Below.tape h, Below.output h, Below.size h, fun k hk _ => Below.block h k hk⟩

theorem J61 {w w1 : World} {row : Option Nat} (h : w.grownBy w1 row) (o : Obj) : w.grownBy (w1.alloc o) row := J1z h (World.grownBy_alloc w1 o row)
theorem J1q {w w1 : World} {g : Nat} (h : w.grownBy w1 (some g)) (o : Nat) (v : Value) : w.grownBy (w1.setCell ⟨g, o, none⟩ v) (some g) := J1z h (J1d w1 g o v)
theorem Jav {w w1 w2 : World} {row : Option Nat} (h : w.grownBy w1 row) (m : More w1 w2) : w.grownBy w2 row := J1z h (m.grow row)
theorem J1y (x : Int) : IntKind.i64.wrap x = wrap64 x := by rw [IntKind.wrap_i64]; unfold wrap64; omega
end
section
open Go.ChangeShapes Go.WideShapes Go.ChangeAt Go.RowKit Go.Deep Go.Joins
set_option linter.unusedVariables false
set_option maxRecDepth 8000
structure MRaw (w : World) (m : Mem) (l : MLoc) : Prop where
 hm : 0 < m.ml -> l.ma = some ⟨l.mb, l.mo, none⟩
 lists : ListsAt w l.mb l.mo m.ml l.A m.len l.C
 hg : ∀ i, i < m.ml -> 0 < m.len i -> l.A i = some ⟨l.gb i, l.go i, none⟩
 words : ∀ i, i < m.ml -> ∀ j, j < m.len i -> w.cell? ⟨l.gb i, l.go i + j, none⟩ = some (V (m.wd i j))
theorem MRaw.more {w w' : World} (m : More w w') {x : Mem} {l : MLoc} (h : MRaw w x l) : MRaw w' x l :=
 ⟨h.hm, h.lists.more m, h.hg, fun i hi j hj => m.cell (h.words i hi j hj)⟩
theorem MRaw.in_ {w : World} {m : Mem} {l : MLoc} (h : MRaw w m l) (h1 : m.ml <= 6) (h2 : ∀ i, i < m.ml -> m.len i <= 64) : MIn w m l :=
 ⟨h.hm, h.lists, h.hg, h.words, by omega, fun i hi => by have := h2 i hi; omega⟩

theorem J9x {H : Type} {enc : TypeId × Value -> H} {W : World} {base : Nat} {held : Bool} {v : Value} {d : DataW H} {ps : List MemPlace} {r : Reach} {b0 : Nat}
  (hv : Value.okWide Tryz.prog W r b0 26 v) (h : DataW.Trod enc Tryz.prog W base (fun _ => true) held 26 v d ps) :
  ∃ (m : Mem) (l : MLoc), v = .slice l.ma m.ml l.mc /\ MRaw W m l /\ ∀ j, j < m.ml -> ∀ i, i < m.len j -> B64 (m.wd j i) := by
 obtain ⟨a0, len, cap, rfl⟩ := okWide_slice Tryz.underlying26 hv;obtain ⟨fuel, hf⟩ := h;rcases open_int_rows Tryz.underlying26 Tryz.underlying43 Tryz.underlying2 Jk4 Jjf hf with ⟨hcs, _⟩ | ⟨a, len', cap', A, L, C, Z, hcs, _, hl, hm, _, hrow⟩
 ·simp [Value.cells] at hcs
  obtain ⟨rfl, rfl, rfl⟩ := hcs;exact ⟨⟨0, fun _ => 0, fun _ _ => 0⟩, ⟨none, 0, 0, 0, fun _ => none, fun _ => 0, fun _ => 0, fun _ => 0⟩, rfl, ⟨fun h => by simp at h, fun i hi => by simp at hi, fun i hi => by simp at hi, fun i hi => by simp at hi⟩, fun j hj => by simp at hj⟩
 ·simp [Value.cells] at hcs
  obtain ⟨rfl, rfl, rfl⟩ := hcs
  have haddr : ∀ i, i < len -> 0 < L i -> ∃ a', A i = some a' /\ a' = ⟨a'.block, a'.off, none⟩ := by
   intro i hi h0;obtain ⟨_, h2, _, _, _, h6, h7⟩ := hrow i (by omega);cases hA : A i with
   | none => have := h6 hA; omega
   | some a' =>
    refine ⟨a', rfl, ?_⟩;have := (h7 a' hA).2 0 (by omega);simp [Addr.add] at this;exact J23 this
  refine ⟨⟨len, L, fun i j => (Z i).getD j 0⟩, ⟨some a, a.block, a.off, cap, A, C, fun i => ((A i).getD a).block, fun i => ((A i).getD a).off⟩, rfl, ⟨fun h0 => ?_, fun i hi => ?_, fun i hi h0 => ?_, fun i hi j hj => ?_⟩, fun j hj i hi => ?_⟩
  ·dsimp only at h0 |-
   have h1 := (hrow 0 (by omega)).1;simp [Addr.add] at h1;rw [<- J23 h1]
  ·dsimp only at hi |-
   have h1 := (hrow 0 (by omega)).1;simp [Addr.add] at h1;have ha := J23 h1;obtain ⟨b, o, s⟩ := a;simp at ha;subst ha;have := (hrow i (by omega)).1;rw [add_plain] at this;exact this
  ·dsimp only at hi h0 |-
   obtain ⟨a', e1, e2⟩ := haddr i hi h0;rw [e1];simp only [Option.getD_some];rw [<- e2]
  ·dsimp only at hi hj |-
   obtain ⟨a', e1, e2⟩ := haddr i hi (by omega);have h2 := (hrow i (by omega)).2.1;have := ((hrow i (by omega)).2.2.2.2.2.2 a' e1).2 j (by omega);rw [e1];simp only [Option.getD_some];rw [e2, add_plain] at this;exact this
  ·dsimp only at hj hi |-
   obtain ⟨_, h2, _, h4, h5, _, _⟩ := hrow j (by omega);have hlt : i < (Z j).length := by omega
   have : (Z j).getD i 0 ∈ Z j := by simp [List.getD, List.getElem?_eq_getElem hlt]
   exact bounds_i64 (h5 _ this)
end
section
open Go.RowKit
set_option linter.unusedSimpArgs false
set_option linter.unusedVariables false
theorem J2f {P : Prop} (h : P) : Hid P := h
structure SIn (w : World) (sa : Option Addr) (sb so : Nat) (L : List Int) : Prop where
 ha : 0 < L.length -> sa = some ⟨sb, so, none⟩
 cells : ∀ (j : Nat) (c : Int), L[j]? = some c -> w.cell? ⟨sb, so + j, none⟩ = some (V c)
theorem SIn.more {w w' : World} (m : More w w') {sa : Option Addr} {sb so : Nat} {L : List Int} (h : SIn w sa sb so L) : SIn w' sa sb so L := ⟨h.ha, fun j c hc => m.cell (h.cells j c hc)⟩
def ScOk (L : List Int) : Prop := L.length <= 2000 /\ ∀ (j : Nat) (c : Int), L[j]? = some c -> 0 <= c

theorem Jdv (sa : Option Addr) (sb so n cap : Nat) (L : List Int) (hn : L.length = n) (w : World) (h : SIn w sa sb so L) :
  Calls Tryz.prog 7 #[.slice sa n cap] w fun e w' => ∃ r : Bool, e = .returned (.bool r) /\ (r = true ↔ ScOk L) /\ w' = w := by
 have H := J2f (And.intro h hn);clear h hn;by_cases h2 : 2000 < n
 ·have h2' : (2000 : Int) < (n : Int) := by omega
  go_enter Tryz.func7, Tryz.ntmps7;go_wp2;go_ret;exact ⟨false, rfl, ⟨(fun h => by cases h), fun h => by have := h.1; rw [H.out.2] at this; omega⟩, rfl⟩
 ·have h2' : ¬ (2000 : Int) < (n : Int) := by omega
  go_enter Tryz.func7, Tryz.ntmps7;go_wp2;go_loopg [3] n (fun g i wr => ∃ k : Nat, k + g = n /\ i = V k /\ (∀ (j : Nat) (c : Int), j < k -> L[j]? = some c -> 0 <= c) /\ wr = w)
  case atStart => exact ⟨0, by omega, rfl, fun j c hj => by omega, rfl⟩
  case round =>
   obtain ⟨k, hkg, rfl, hok, rfl⟩ := hrel;have Hok := J2f hok;clear hok;cases gk with
   | zero =>
    obtain rfl : k = n := by omega
    go_wp2;go_ret;refine ⟨true, rfl, ⟨fun _ => ⟨by have := H.out.2; omega, fun j c hc => ?_⟩, fun _ => rfl⟩, rfl⟩;exact Hok.out j c (by have := (List.getElem?_eq_some_iff.1 hc).1; have := H.out.2; omega) hc
   | succ g =>
    have hk : k < n := by omega
    have hk' : (k : Int) < (n : Int) := by omega
    have hkw : wrap64 ((k : Int) + 1) = (k : Int) + 1 := by unfold wrap64; omega
    obtain rfl := H.out.1.ha (by have := H.out.2; omega);obtain ⟨c, hc⟩ : ∃ c, L[k]? = some c := ⟨L[k]'(by have := H.out.2; omega), List.getElem?_eq_getElem _⟩;have hcell := H.out.1.cells k c hc;have Hc := J2f hc;clear hc;by_cases c0 : c < 0
    ·go_wp2
     go_ret;refine ⟨false, rfl, ⟨(fun h => by cases h), fun h => ?_⟩, rfl⟩;have := h.2 k c Hc.out;omega
    ·go_wp2
     go_roundg g
     case measure => omega
     case rel =>
      refine ⟨k + 1, by omega, by first | rfl | (push_cast; rfl) | simp, fun j c' hj hc' => ?_, rfl⟩;by_cases e : j = k
      ·subst e
       rw [Hc.out] at hc';obtain rfl := Option.some.inj hc';omega
      ·exact Hok.out j c' (by omega) hc'
end
section
open Go.ChangeShapes Go.WideShapes Go.ChangeAt Go.RowKit Go.Deep Go.Joins
set_option linter.unusedVariables false
set_option maxRecDepth 8000
theorem Jgo : Tryz.prog.cellsOf 3 = 1 := by kernel_rfl

theorem Jbe {H : Type} {enc : TypeId × Value -> H} {W : World} {base : Nat} {held : Bool} {v : Value} {d : DataW H} {ps : List MemPlace} {r : Reach} {b0 : Nat}
  (hv : Value.okWide Tryz.prog W r b0 27 v) (h : DataW.Trod enc Tryz.prog W base (fun _ => true) held 27 v d ps) :
  ∃ (sa : Option Addr) (sb so n cap : Nat) (L : List Int), v = .slice sa n cap /\ L.length = n /\ n <= cap /\ SIn W sa sb so L := by
 obtain ⟨a0, len, cap, rfl⟩ := okWide_slice Tryz.underlying27 hv;obtain ⟨fuel, hf⟩ := h;rcases open_ints Tryz.underlying27 Tryz.underlying3 Jgo hf with ⟨hcs, _⟩ | ⟨a, len', cap', zs, hcs, _, hl, hm, hlen, _, hcell, _⟩
 ·simp [Value.cells] at hcs
  obtain ⟨rfl, rfl, rfl⟩ := hcs;exact ⟨none, 0, 0, 0, 0, [], rfl, rfl, Nat.le_refl _, ⟨fun h => absurd h (Nat.not_lt_zero _), fun j c hc => by simp at hc⟩⟩
 ·simp [Value.cells] at hcs
  obtain ⟨rfl, rfl, rfl⟩ := hcs;simp only [if_true] at hlen;refine ⟨some a, a.block, a.off, len, cap, zs.take len, rfl, by simp; omega, hl, ?_⟩;by_cases h0 : 0 < len
  ·have h1 := hcell 0 (by omega)
   simp [Addr.add] at h1;have ha := J23 h1;obtain ⟨b, o, sp⟩ := a;simp at ha;subst ha;refine ⟨fun _ => rfl, fun j c hc => ?_⟩;have hj : j < len := by have := (List.getElem?_eq_some_iff.1 hc).1; simp at this; omega
   have h2 := hcell j (by omega);rw [add_plain] at h2;rw [List.getElem?_take, if_pos hj] at hc;rw [List.getD_eq_getElem?_getD, hc, Option.getD_some] at h2;exact h2
  ·obtain rfl : len = 0 := by omega
   exact ⟨fun h => by simp at h, fun j c hc => by simp at hc⟩
end
section
open Go.RowKit
set_option linter.unusedVariables false
theorem J38 {i : Ins} (h : i.op = 3 \/ i.op = 5) : putI i = 0 := by unfold putI; rw [if_pos h]
theorem J48 {i : Ins} (h : i.op = 4 \/ i.op = 6) : putI i = 1 := by unfold putI; rw [if_neg (by omega), if_pos h]
theorem Jff {i : Ins} (h3 : ¬ i.op = 3) (h4 : ¬ i.op = 4) (h5 : ¬ i.op = 5) (h6 : ¬ i.op = 6) : putI i = -1 := by unfold putI; rw [if_neg (by omega), if_neg (by omega)]

theorem J90 {p : Prg} {s : St} {i : Ins} (hI : p.ins s.at_ = i) (hop : i.op = 4 \/ i.op = 6) (hx : ¬ (idxI s.r i < 0 \/ (s.m.len i.c.toNat : Int) <= idxI s.r i)) :
  stepI p s = (⟨s.at_ + 1, s.r, setW s.m i.c.toNat (idxI s.r i).toNat (s.r i.a.toNat), s.seen ++ [⟨1, s.at_, 0⟩] ++ [⟨2, baseI p.log i.c.toNat + idxI s.r i, 1⟩]⟩, none) := by
 subst hI;have hp := J48 hop;unfold stepI;rw [if_neg (by omega), if_neg (by omega), if_neg (by omega), if_pos (by rw [hp]; decide), if_neg hx, if_pos hp]

theorem J54 {p : Prg} {s : St} {i : Ins} (hI : p.ins s.at_ = i) (hop : i.op = 3 \/ i.op = 5) (hx : ¬ (idxI s.r i < 0 \/ (s.m.len i.c.toNat : Int) <= idxI s.r i)) :
  stepI p s = (⟨s.at_ + 1, setR s.r i.a (s.m.wd i.c.toNat (idxI s.r i).toNat), s.m, s.seen ++ [⟨1, s.at_, 0⟩] ++ [⟨2, baseI p.log i.c.toNat + idxI s.r i, 0⟩]⟩, none) := by
 subst hI;have hp := J38 hop;unfold stepI;rw [if_neg (by omega), if_neg (by omega), if_neg (by omega), if_pos (by rw [hp]; decide), if_neg hx, if_neg (by rw [hp]; decide)]

theorem J3b {p : Prg} {s : St} {i : Ins} (hI : p.ins s.at_ = i) (h3 : ¬ i.op = 3) (h4 : ¬ i.op = 4) (h5 : ¬ i.op = 5) (h6 : ¬ i.op = 6) (h7 : ¬ i.op = 7) (h8 : ¬ i.op = 8) (h9 : ¬ i.op = 9) :
  stepI p s = (⟨s.at_ + 1, (regsI s.r i).1, s.m, s.seen ++ [⟨1, s.at_, 0⟩] ++ (regsI s.r i).2⟩, none) := by
 subst hI;have hp := Jff h3 h4 h5 h6;unfold stepI;rw [if_neg h7, if_neg h8, if_neg h9, if_neg (by rw [hp]; decide)]
structure Pl where
 at_ : Nat
 r : Nat -> Int
 wd : Nat -> Int
 past : Nat -> List Int

structure Sp where
 pl : Pl
 ahead : Bool
 since : Int
 back : Pl
 script : List Int
 seen : List Se

def setF {α : Type} (f : Nat -> α) (k : Nat) (v : α) : Nat -> α := fun j => if j = k then v else f j
def Sp.choice (s : Sp) : Int := s.script.headD 0
def Sp.leave (s : Sp) : Sp := if s.ahead = true then s else { s with ahead := true, since := -1, back := s.pl }
def Sp.returns (s : Sp) : Sp := { s with seen := s.seen ++ [⟨4, 0, 0⟩], ahead := false, pl := s.back }
def allI (p : Prg) : Int := baseI p.log p.rl

def Sp.see (s : Sp) (x : Se) : Sp := { s with seen := s.seen ++ [x] }
def Sp.go (s : Sp) (n : Nat) : Sp := { s with pl := { s.pl with at_ := n } }
def Sp.reg (s : Sp) (a v : Int) : Sp := { s with pl := { s.pl with r := setR s.pl.r a v } }

def wordS (p : Prg) (s : Sp) (i : Ins) (n : Int) : Sp :=
 if n < 0 \/ allI p <= n then (if putI i = 0 then s.reg i.a 0 else s)
 else if putI i = 1 then { s with pl := { s.pl with past := setF s.pl.past n.toNat (s.pl.past n.toNat ++ [s.pl.wd n.toNat]), wd := setF s.pl.wd n.toNat (s.pl.r i.a.toNat) } }
 else
  if 0 < s.choice /\ s.choice <= ((s.pl.past n.toNat).length : Int) then
   (({ s with script := s.script.tail }.reg i.a (s.pl.wd n.toNat)).leave).reg i.a ((s.pl.past n.toNat).getD ((s.pl.past n.toNat).length - s.choice.toNat) 0)
  else { s with script := s.script.tail }.reg i.a (s.pl.wd n.toNat)

def stepS (p : Prg) (s : Sp) : Sp × Bool × Option (Int × Int) :=
 if (p.ins s.pl.at_).op = 7 then (((s.see ⟨1, s.pl.at_, 0⟩).go (p.ins s.pl.at_).n.toNat), false, none)
 else if (p.ins s.pl.at_).op = 8 then
  (if J0u (p.ins s.pl.at_).c (s.pl.r (p.ins s.pl.at_).a.toNat) (s.pl.r (p.ins s.pl.at_).b.toNat) = true then
   (if s.choice = 0 then { (s.see ⟨1, s.pl.at_, 0⟩).go (p.ins s.pl.at_).n.toNat with script := s.script.tail } else ({ (s.see ⟨1, s.pl.at_, 0⟩).go (p.ins s.pl.at_).n.toNat with script := s.script.tail }.leave).go (s.pl.at_ + 1), false, none)
  else
   (if s.choice = 0 then { (s.see ⟨1, s.pl.at_, 0⟩).go (s.pl.at_ + 1) with script := s.script.tail } else ({ (s.see ⟨1, s.pl.at_, 0⟩).go (s.pl.at_ + 1) with script := s.script.tail }.leave).go (p.ins s.pl.at_).n.toNat, false, none))
 else if (p.ins s.pl.at_).op = 9 /\ s.ahead = false then (s.see ⟨1, s.pl.at_, 0⟩, false, some (1, s.pl.r (p.ins s.pl.at_).a.toNat))
 else if (p.ins s.pl.at_).op = 9 \/ (p.ins s.pl.at_).op = 12 then ((s.see ⟨1, s.pl.at_, 0⟩).go (s.pl.at_ + 1), true, none)
 else if 0 <= putI (p.ins s.pl.at_) then
  if s.ahead = false /\ (idxI s.pl.r (p.ins s.pl.at_) < 0 \/ J0c (p.log (p.ins s.pl.at_).c.toNat) <= idxI s.pl.r (p.ins s.pl.at_)) then (s.see ⟨1, s.pl.at_, 0⟩, false, some (2, 0))
  else (wordS p (((s.see ⟨1, s.pl.at_, 0⟩).see ⟨2, wrap64 (baseI p.log (p.ins s.pl.at_).c.toNat + idxI s.pl.r (p.ins s.pl.at_)), putI (p.ins s.pl.at_)⟩).go (s.pl.at_ + 1)) (p.ins s.pl.at_) (wrap64 (baseI p.log (p.ins s.pl.at_).c.toNat + idxI s.pl.r (p.ins s.pl.at_))), false, none)
 else ({ (s.see ⟨1, s.pl.at_, 0⟩).go (s.pl.at_ + 1) with pl := ⟨s.pl.at_ + 1, (regsI s.pl.r (p.ins s.pl.at_)).1, s.pl.wd, s.pl.past⟩, seen := s.seen ++ [⟨1, s.pl.at_, 0⟩] ++ (regsI s.pl.r (p.ins s.pl.at_)).2 }, false, none)

def Sp.after (s : Sp) (over : Bool) : Sp :=
 if s.ahead = true then (if over = true \/ s.since + 1 = 12 then ({ s with since := s.since + 1 }).returns else { s with since := s.since + 1 }) else s

structure ShF where
 fin : Int
 val : Int
 steps : Int
 seen : List Se
 wd : Nat -> Int

def Sp.noneLeft (s : Sp) (cl : Nat) : Sp := if cl <= s.pl.at_ /\ s.ahead = true then s.returns else s
def Sp.real (s : Sp) : Pl := if s.ahead = true then s.back else s.pl

def runS (p : Prg) : Nat -> Nat -> Sp -> ShF
 | 0, k, s => ⟨0, 0, k, s.seen, s.real.wd⟩
 | f + 1, k, s =>
  if p.cl <= (s.noneLeft p.cl).pl.at_ then ⟨2, 0, k, (s.noneLeft p.cl).seen, (s.noneLeft p.cl).real.wd⟩
  else match (stepS p (s.noneLeft p.cl)).2.2 with
   | some e => ⟨e.1, e.2, (k : Int) + 1, (stepS p (s.noneLeft p.cl)).1.seen, (stepS p (s.noneLeft p.cl)).1.real.wd⟩
   | none => runS p f (k + 1) ((stepS p (s.noneLeft p.cl)).1.after (stepS p (s.noneLeft p.cl)).2.1)

def playS (p : Prg) (wd : Nat -> Int) (script : List Int) (fuel : Nat) : ShF := runS p fuel 0 ⟨⟨0, fun _ => 0, wd, fun _ => []⟩, false, 0, ⟨0, fun _ => 0, wd, fun _ => []⟩, script, []⟩
theorem info2 : (Tryz.prog.info? 2).map (fun i => (i.zero, i.size, i.bytes)) = some (some (V 0), 1, 8) := by kernel_rfl
def flatS : List Se -> List Value
 | [] => []
 | s :: l => V s.kind :: V s.a :: V s.b :: flatS l
theorem J5m : ∀ l l' : List Se, flatS (l ++ l') = flatS l ++ flatS l'
 | [], _ => rfl
 | s :: l, l' => by simp [flatS, J5m l l']
theorem Jcf : ∀ (l : List Se) (i : Nat) (s : Se), l[i]? = some s -> (flatS l)[i * 3]? = some (V s.kind) /\ (flatS l)[i * 3 + 1]? = some (V s.a) /\ (flatS l)[i * 3 + 2]? = some (V s.b)
 | [], i, s, h => by simp at h
 | x :: l, 0, s, h => by simp at h; subst h; simp [flatS]
 | x :: l, i + 1, s, h => by
  have := Jcf l i s (by simpa using h);rw [show (i + 1) * 3 = i * 3 + 1 + 1 + 1 by omega, flatS];simpa using this

def SeenOwn (w : World) (base : Nat) (v : Value) (l : List Se) : Prop := w.ownsRow base 107 3 v l.length (flatS l)

theorem SeenOwn.at_ {w : World} {base : Nat} {v : Value} {l : List Se} (h : SeenOwn w base v l) (hb : l.length < 4611686018427387904) : SeenAt w v l := by
 by_cases h0 : l.length = 0
 ·rcases h.2 with ⟨rfl, _⟩ | ⟨g, cap, cur, rfl, _⟩
  ·have : l = [] := List.eq_nil_of_length_eq_zero h0
   subst this;exact ⟨none, 0, 0, 0, rfl, fun h => absurd h (Nat.not_lt_zero _), fun i s h => by simp at h, by simp⟩
  ·have : l = [] := List.eq_nil_of_length_eq_zero h0
   subst this;exact ⟨_, 0, 0, cap, rfl, fun h => absurd h (Nat.not_lt_zero _), fun i s h => by simp at h, by simp⟩
 ·obtain ⟨g, cap, rfl, _, _⟩ := World.ownsRow.form h (by omega)
  refine ⟨_, g, 0, cap, rfl, fun _ => rfl, fun i s hs => ?_, hb⟩;have hi : i < l.length := (List.getElem?_eq_some_iff.1 hs).1;obtain ⟨f0, f1, f2⟩ := Jcf l i s hs;simp only [Nat.zero_add];exact ⟨by rw [World.ownsRow.cellAt h _ (by omega)]; exact f0, by rw [World.ownsRow.cellAt h _ (by omega)]; exact f1, by rw [World.ownsRow.cellAt h _ (by omega)]; exact f2⟩

theorem SeenOwn.kept {w w' : World} {base : Nat} {v : Value} {l : List Se} (h : SeenOwn w base v l) {row : Option Nat} (hg : w.grownBy w' row) (hr : ∀ b, row = some b -> b < base) : SeenOwn w' base v l := by
 refine World.ownsRow.kept h hg ?_;cases hv : v.ownBlock with
 | none => left; rfl
 | some b =>
  right;intro e;have h1 := (World.ownsRow.lt h b hv).1;have h2 := hr b e.symm;omega
end
section
open Go.RowKit
set_option linter.unusedSimpArgs false
set_option linter.unusedVariables false
theorem J8r {w : World} {base : Nat} {e : TypeId} {size : Nat} {v : Value} {n : Nat} {xs : List Value} (h : w.ownsRow base e size v n xs) : ∃ a c, v = .slice a n c := by
 rcases h.2 with ⟨h, h0⟩ | ⟨g, cap, cur, h, _⟩
 ·exact ⟨none, 0, by rw [h, h0]⟩
 ·exact ⟨_, cap, h⟩
theorem Jl8 (o x y : Int) : B64 (opI o x y) := by
  unfold opI
  repeat' split
  all_goals first | exact J5x _ | exact J1i

theorem J4b {r : Nat -> Int} (hr : ∀ j, j < 10 -> B64 (r j)) (a v : Int) (hv : B64 v) : ∀ j, j < 10 -> B64 (setR r a v j) := by
  intro j hj;unfold setR
  split
  · exact hv
  · exact hr j hj

theorem Jfl {r : Nat -> Int} (hr : ∀ j, j < 10 -> B64 (r j)) (i : Ins) (hb : i.op = 2 -> i.b.toNat < 10) (hn : B64 i.n) : ∀ j, j < 10 -> B64 ((regsI r i).1 j) := by
  unfold regsI;by_cases h1 : i.op = 1
  · rw [if_pos h1]; exact J4b hr _ _ hn
  rw [if_neg h1];by_cases h2 : i.op = 2
  · rw [if_pos h2]; exact J4b hr _ _ (hr _ (hb h2))
  rw [if_neg h2];by_cases h3 : i.op = 10
  · rw [if_pos h3]; exact J4b hr _ _ (J5x _)
  rw [if_neg h3];by_cases h4 : i.op = 11
  · rw [if_pos h4]
    dsimp only
    split
    · exact J4b hr _ _ J1i
    · exact hr
  rw [if_neg h4];by_cases h5 : i.op = 12
  · rw [if_pos h5]; exact hr
  rw [if_neg h5];exact J4b hr _ _ (Jl8 _ _ _)
theorem Jfn (r : Nat -> Int) (i : Ins) : (regsI r i).2.length <= 1 := by
  unfold regsI
  repeat' split
  all_goals first | exact Nat.zero_le _ | exact Nat.le_refl _

def baseN (len : Nat -> Nat) : Nat -> Nat
  | 0 => 0
  | k + 1 => baseN len k + len k
theorem J8c (len : Nat -> Nat) : ∀ k, (∀ j, j < k -> len j <= 64) -> baseN len k <= 64 * k
  | 0, _ => by simp [baseN]
  | k + 1, h => by
    have := J8c len k (fun j hj => h j (by omega));have := h k (by omega);simp only [baseN];omega
theorem J33 (len : Nat -> Nat) (a : Nat) : ∀ k, a <= k -> baseN len a <= baseN len k
  | 0, h => by obtain rfl : a = 0 := by omega
               exact Nat.le_refl _
  | k + 1, h => by
    by_cases e : a = k + 1
    · subst e; exact Nat.le_refl _
    · have := J33 len a k (by omega)
      simp only [baseN];omega

theorem J4i (p : Prg) (m : Mem) (hlen : ∀ i, i < m.ml -> (m.len i : Int) = J0c (p.log i)) : ∀ j, j <= m.ml -> (baseN m.len j : Int) = baseI p.log j
  | 0, _ => rfl
  | j + 1, h => by
    simp only [baseN, baseI];rw [<- J4i p m hlen j (by omega), <- hlen j (by omega)]
    push_cast
    rfl
theorem Jgj (len : Nat -> Nat) {c c' i i' : Nat} (hi : i < len c) (hi' : i' < len c') (h : baseN len c + i = baseN len c' + i') : c = c' /\ i = i' := by
 rcases Nat.lt_trichotomy c c' with h1 | h1 | h1
 ·have := J33 len (c + 1) c' h1
  simp only [baseN] at this;omega
 ·subst h1; exact ⟨rfl, by omega⟩
 ·have := J33 len (c' + 1) c h1
  simp only [baseN] at this;omega

theorem J4m {s : Sp} (h : s.ahead = true) : s.leave = s := by unfold Sp.leave; rw [if_pos h]

theorem Jbz (p : Prg) (s : Sp) (i : Ins) (n : Int) (h : s.ahead = true) : (wordS p s i n).ahead = true /\ (wordS p s i n).back = s.back := by
 unfold wordS
 split
 ·split
  ·exact ⟨h, rfl⟩
  ·exact ⟨h, rfl⟩
 ·split
  ·exact ⟨h, rfl⟩
  ·split
   ·rw [J4m (by exact h)]
    exact ⟨h, rfl⟩
   ·exact ⟨h, rfl⟩

theorem Je0 (p : Prg) (s : Sp) (h : s.ahead = true) : (stepS p s).2.2 = none /\ (stepS p s).1.ahead = true /\ (stepS p s).1.back = s.back := by
 unfold stepS;by_cases h7 : (p.ins s.pl.at_).op = 7
 ·rw [if_pos h7]; exact ⟨rfl, h, rfl⟩
 rw [if_neg h7];by_cases h8 : (p.ins s.pl.at_).op = 8
 ·rw [if_pos h8]
  by_cases hh : J0u (p.ins s.pl.at_).c (s.pl.r (p.ins s.pl.at_).a.toNat) (s.pl.r (p.ins s.pl.at_).b.toNat) = true
  ·rw [if_pos hh]
   by_cases hc : s.choice = 0
   ·rw [if_pos hc]; exact ⟨rfl, h, rfl⟩
   ·rw [if_neg hc, J4m (by exact h)]; exact ⟨rfl, h, rfl⟩
  ·rw [if_neg hh]
   by_cases hc : s.choice = 0
   ·rw [if_pos hc]; exact ⟨rfl, h, rfl⟩
   ·rw [if_neg hc, J4m (by exact h)]; exact ⟨rfl, h, rfl⟩
 rw [if_neg h8, if_neg (by rw [h]; simp)];by_cases h9 : (p.ins s.pl.at_).op = 9 \/ (p.ins s.pl.at_).op = 12
 ·rw [if_pos h9]; exact ⟨rfl, h, rfl⟩
 rw [if_neg h9];by_cases hp : 0 <= putI (p.ins s.pl.at_)
 ·rw [if_pos hp, if_neg (by rw [h]; simp)]
  exact ⟨rfl, Jbz p _ _ _ h⟩
 ·rw [if_neg hp]; exact ⟨rfl, h, rfl⟩

theorem J7l {s : Sp} {cl : Nat} (h : cl <= (s.noneLeft cl).pl.at_) : (s.noneLeft cl).ahead = false := by
 unfold Sp.noneLeft at h |-;by_cases hc : cl <= s.pl.at_ /\ s.ahead = true
 ·rw [if_pos hc]; rfl
 ·rw [if_neg hc] at h |-
  cases ha : s.ahead with
  | false => rfl
  | true => exact absurd ⟨h, ha⟩ hc
end
section
open Go.RowKit
set_option linter.unusedVariables false
def J81 (m : Mem) (j : Nat) : Nat -> Int
 | 0 => 0
 | n + 1 => if baseN m.len n <= j /\ j < baseN m.len n + m.len n then m.wd n (j - baseN m.len n) else J81 m j n
def flatM (m : Mem) (j : Nat) : Int := J81 m j m.ml

theorem J9i (m : Mem) (c i : Nat) (hi : i < m.len c) : ∀ n, c < n -> J81 m (baseN m.len c + i) n = m.wd c i
 | 0, h => absurd h (Nat.not_lt_zero _)
 | n + 1, h => by
  unfold J81;by_cases hr : baseN m.len n <= baseN m.len c + i /\ baseN m.len c + i < baseN m.len n + m.len n
  ·rw [if_pos hr]
   obtain ⟨e1, e2⟩ := Jgj m.len (c := n) (i := baseN m.len c + i - baseN m.len n) (by omega) hi (by omega);rw [e2, e1]
  ·rw [if_neg hr]
   have hcn : c ≠ n := by
    rintro rfl;exact hr (by omega)
   exact J9i m c i hi n (by omega)
theorem J60 (m : Mem) (c i : Nat) (hc : c < m.ml) (hi : i < m.len c) : flatM m (baseN m.len c + i) = m.wd c i :=
 J9i m c i hi m.ml hc
theorem J67 (len : Nat -> Nat) : ∀ (n j : Nat), j < baseN len n -> ∃ c i, c < n /\ i < len c /\ baseN len c + i = j
 | 0, j, h => by simp [baseN] at h
 | n + 1, j, h => by
  by_cases e : j < baseN len n
  ·obtain ⟨c, i, h1, h2, h3⟩ := J67 len n j e
   exact ⟨c, i, by omega, h2, h3⟩
  ·simp only [baseN] at h
   exact ⟨n, j - baseN len n, by omega, by omega, by omega⟩
theorem Jei {m : Mem} {W : Nat -> Int} (hW : ∀ j, j < m.ml -> ∀ i, i < m.len j -> W (baseN m.len j + i) = m.wd j i) (j : Nat) (hj : j < baseN m.len m.ml) : W j = flatM m j := by
 obtain ⟨c, i, h1, h2, rfl⟩ := J67 m.len m.ml j hj;rw [hW c h1 i h2, J60 m c i h1 h2]
end
section
open Go.RowKit
set_option linter.unusedSimpArgs false
set_option linter.unusedVariables false
theorem Jh5 {p : Prg} {m : Mem} (hok : p.Ok 8000 10) (hf : J0t p.rl p.log m.ml m.len) : (∀ i, i < m.ml -> 0 < m.len i /\ m.len i <= 64) /\ m.ml <= 6 := by
 refine ⟨fun i hi => ?_, by have h0 := hf.2.1; have := hok.1.1; omega⟩;have h0 := hf.2.1;have h1 := hf.2.2 i (by omega);have h2 := hok.1.2 i (by omega);have h3 := J2h (k := (p.log i).toNat) (by omega);unfold J0c at h1;omega

def Wr1 (p : Prg) (m : Mem) (L : List Int) (fuel c : Int) : Prop :=
 (¬ (p.Ok 8000 10 /\ J0t p.rl p.log m.ml m.len) /\ c = 2) \/ ((p.Ok 8000 10 /\ J0t p.rl p.log m.ml m.len) /\ ((fuel < 0 \/ 40000 < fuel) \/ ¬ ScOk L) /\ c = 3) \/
  ((p.Ok 8000 10 /\ J0t p.rl p.log m.ml m.len) /\ ¬ (fuel < 0 \/ 40000 < fuel) /\ ScOk L /\ c = 0)
theorem Jge {p : Prg} {m : Mem} {L : List Int} {fuel c d : Int} (h : Wr1 p m L fuel c) (k : Wr1 p m L fuel d) : c = d := by
 rcases h with ⟨a, b⟩ | ⟨a, b, e⟩ | ⟨a, b, e, f⟩ <;> rcases k with ⟨a', b'⟩ | ⟨a', b', e'⟩ | ⟨a', b', e', f'⟩
 ·rw [b, b']
 ·exact absurd a' a
 ·exact absurd a' a
 ·exact absurd a a'
 ·rw [e, e']
 ·rcases b with b | b
  ·exact absurd b b'
  ·exact absurd e' b
 ·exact absurd a a'
 ·rcases b' with b' | b'
  ·exact absurd b' b
  ·exact absurd e b'
 ·rw [f, f']
def Diff (x y : List Se) (k : Int) (is : Bool) : Prop := (x = y /\ k = 0 /\ is = false) \/ ∃ n : Nat, k = n /\ is = true /\ (∀ j, j < n -> x[j]? = y[j]?) /\ ¬ x[n]? = y[n]?
theorem Jgt {x y : List Se} {k k' : Int} {is is' : Bool} (h : Diff x y k is) (g : Diff x y k' is') : k = k' /\ is = is' := by
 rcases h with ⟨rfl, rfl, rfl⟩ | ⟨n, rfl, rfl, a, b⟩ <;> rcases g with ⟨q, rfl, rfl⟩ | ⟨n', rfl, rfl, a', b'⟩
 ·exact ⟨rfl, rfl⟩
 ·exact absurd rfl b'
 ·exact absurd (by rw [q]) b
 ·have : n = n' := by
   rcases Nat.lt_trichotomy n n' with q | q | q
   ·exact absurd (a' n q) b
   ·exact q
   ·exact absurd (a n' q) b'
  rw [this];exact ⟨rfl, rfl⟩
theorem J9c (x : List Se) {k : Int} {is : Bool} (h : Diff x x k is) : k = 0 /\ is = false := by
 rcases h with ⟨_, a, b⟩ | ⟨n, _, _, _, b⟩
 ·exact ⟨a, b⟩
 ·exact absurd rfl b

def J5j (p : Prg) (m m' : Mem) (L : List Int) (fuel k : Int) (is : Bool) (c : Int) : Prop :=
 ∃ c1, Wr1 p m L fuel c1 /\ ((¬ c1 = 0 /\ k = 0 /\ is = false /\ c = c1) \/ (c1 = 0 /\ ∃ c2, Wr1 p m' L fuel c2 /\
  ((¬ c2 = 0 /\ k = 0 /\ is = false /\ c = c2) \/ (c2 = 0 /\ c = 0 /\ Diff (playS p (flatM m) L fuel.toNat).seen (playS p (flatM m') L fuel.toNat).seen k is))))
def Jc5 (p : Prg) (m : Mem) (L : List Int) (fuel : Int) (w : World) (e : Ending) (w' : World) : Prop :=
 ∃ (x1 x2 x3 code : Int) (a : Option Addr) (n c : Nat) (a' : Option Addr) (n' c' : Nat), e = .returned (.tuple #[.agg #[V x1, V x2, V x3, .slice a n c, .slice a' n' c'], V code]) /\ Wr1 p m L fuel code /\
  (code = 0 -> x1 = (playS p (flatM m) L fuel.toNat).fin /\ SeenAt w' (.slice a n c) (playS p (flatM m) L fuel.toNat).seen) /\ More w w'
def Je2 (p : Prg) (m m' : Mem) (L : List Int) (fuel : Int) (w : World) (e : Ending) (w' : World) : Prop :=
 ∃ (k : Int) (is : Bool) (c : Int), e = .returned (.tuple #[V k, .bool is, V c]) /\ J5j p m m' L fuel k is c /\ More w w'
def PubW (p : Prg) (n : Nat) : Prop := ∃ c, c < p.rl /\ p.sec c = false /\ baseI p.log c <= (n : Int) /\ (n : Int) < baseI p.log c + J0c (p.log c)

theorem J4e (l : Int) : 1 <= J0c l := by
 unfold J0c;have : (0 : Int) < 2 ^ l.toNat := Int.pow_pos (by decide);omega
theorem J57 (log : Nat -> Int) : ∀ a b, a <= b -> baseI log a <= baseI log b
 | a, 0, h => by
  obtain rfl : a = 0 := by omega
  exact Int.le_refl _
 | a, b + 1, h => by
  by_cases e : a = b + 1
  ·subst e; exact Int.le_refl _
  ·have h1 := J57 log a b (by omega)
   have h2 := J4e (log b);rw [baseI];omega
theorem J7v (log : Nat -> Int) (c : Nat) : 0 <= baseI log c := J57 log 0 c (Nat.zero_le _)
theorem J68 (log : Nat -> Int) (c rl : Nat) (h : c < rl) : baseI log c + J0c (log c) <= baseI log rl := J57 log (c + 1) rl h
theorem Jdw (log : Nat -> Int) {c d : Nat} {n : Int} (h1 : baseI log c <= n) (h2 : n < baseI log c + J0c (log c)) (k1 : baseI log d <= n) (k2 : n < baseI log d + J0c (log d)) : c = d := by
 rcases Nat.lt_trichotomy c d with h | h | h
 ·have := J68 log c d h; omega
 ·exact h
 ·have := J68 log d c h; omega
theorem J7w {p : Prg} (h : J0h p.rl p.log) : ∀ c, c <= p.rl -> baseI p.log c <= 64 * (c : Int)
 | 0, _ => by simp [baseI]
 | c + 1, hc => by
  have h1 := J7w h c (by omega);have h2 := h.2 c (by omega);have h3 := J2h (k := (p.log c).toNat) (by omega);rw [baseI];unfold J0c
  push_cast
  omega

def Stop (p : Prg) (k : Nat) : Prop := p.cl <= k \/ (p.ins k).op = 9 \/ (p.ins k).op = 12
def J9z (p : Prg) (k : Nat) (r : Nat -> Int) : Nat := if J0u (p.ins k).c (r (p.ins k).a.toNat) (r (p.ins k).b.toNat) = true then (p.ins k).n.toNat else k + 1
def J6w (p : Prg) (k : Nat) (r : Nat -> Int) : Nat := if J0u (p.ins k).c (r (p.ins k).a.toNat) (r (p.ins k).b.toNat) = true then k + 1 else (p.ins k).n.toNat

structure Tight (p : Prg) (W : Int -> Prop) (lab : Nat -> Nat -> Bool) (I : Nat -> (Nat -> Int) -> Prop) : Prop where
 regs : J0h p.rl p.log
 zero : W 0
 jump : ∀ k, k < p.cl -> (p.ins k).op = 7 -> ∀ r, I k r -> (∀ j, j < 10 -> lab k j = true -> lab (p.ins k).n.toNat j = true) /\ I (p.ins k).n.toNat r
 cond : ∀ k, k < p.cl -> (p.ins k).op = 8 -> ∀ r, I k r -> (p.ins k).a.toNat < 10 /\ (p.ins k).b.toNat < 10 /\ lab k (p.ins k).a.toNat = false /\ lab k (p.ins k).b.toNat = false /\
  (∀ j, j < 10 -> lab k j = true -> lab (p.ins k).n.toNat j = true /\ lab (k + 1) j = true) /\ I (J9z p k r) r /\ (I (J6w p k r) r \/ Stop p (J6w p k r))
 halt : ∀ k, k < p.cl -> (p.ins k).op = 9 -> ∀ r, I k r -> (p.ins k).a.toNat < 10 /\ lab k (p.ins k).a.toNat = false
 fence : ∀ k, k < p.cl -> (p.ins k).op = 12 -> ∀ r, I k r -> (∀ j, j < 10 -> lab k j = true -> lab (k + 1) j = true) /\ I (k + 1) r
 word : ∀ k, k < p.cl -> 0 <= putI (p.ins k) -> ∀ r, I k r -> (p.ins k).c.toNat < p.rl /\ (p.ins k).a.toNat < 10 /\ (0 <= idxI r (p.ins k) /\ idxI r (p.ins k) < J0c (p.log (p.ins k).c.toNat)) /\ (∀ t, (∀ j, j < 10 -> lab k j = false -> r j = t j) -> idxI r (p.ins k) = idxI t (p.ins k))
 load : ∀ k, k < p.cl -> putI (p.ins k) = 0 -> ∀ r, I k r -> (∀ j, j < 10 -> j ≠ (p.ins k).a.toNat -> lab k j = true -> lab (k + 1) j = true) /\ (p.sec (p.ins k).c.toNat = true -> lab (k + 1) (p.ins k).a.toNat = true) /\ ∀ v, W v -> I (k + 1) (setR r (p.ins k).a v)
 put : ∀ k, k < p.cl -> putI (p.ins k) = 1 -> ∀ r, I k r -> (∀ j, j < 10 -> lab k j = true -> lab (k + 1) j = true) /\ (lab k (p.ins k).a.toNat = true -> p.sec (p.ins k).c.toNat = true) /\ I (k + 1) r
 kept : ∀ k, k < p.cl -> putI (p.ins k) = 1 -> ∀ r, I k r -> W (r (p.ins k).a.toNat)
 op : ∀ k, k < p.cl -> ¬ (p.ins k).op = 7 -> ¬ (p.ins k).op = 8 -> ¬ (p.ins k).op = 9 -> ¬ (p.ins k).op = 12 -> ¬ 0 <= putI (p.ins k) -> ∀ r, I k r ->
  (∀ t, (∀ j, j < 10 -> lab k j = false -> r j = t j) -> (regsI r (p.ins k)).2 = (regsI t (p.ins k)).2 /\ ∀ j, j < 10 -> lab (k + 1) j = false -> (regsI r (p.ins k)).1 j = (regsI t (p.ins k)).1 j) /\ I (k + 1) (regsI r (p.ins k)).1

section
variable {p : Prg} {W : Int -> Prop} {lab : Nat -> Nat -> Bool} {I : Nat -> (Nat -> Int) -> Prop}

structure TwinP (p : Prg) (lab : Nat -> Nat -> Bool) (a b : Pl) : Prop where
 at_ : a.at_ = b.at_
 r : ∀ j, j < 10 -> lab a.at_ j = false -> a.r j = b.r j
 len : ∀ n, (a.past n).length = (b.past n).length
 wd : ∀ n, PubW p n -> a.wd n = b.wd n
 past : ∀ n, PubW p n -> a.past n = b.past n
def Wds (W : Int -> Prop) (wd : Nat -> Int) (past : Nat -> List Int) : Prop := ∀ n, W (wd n) /\ ∀ v, v ∈ past n -> W v
def Both (W : Int -> Prop) (I : Nat -> (Nat -> Int) -> Prop) (a b : Pl) : Prop := (I a.at_ a.r /\ Wds W a.wd a.past) /\ (I b.at_ b.r /\ Wds W b.wd b.past)
theorem Wds.put {W : Int -> Prop} {wd : Nat -> Int} {past : Nat -> List Int} (h : Wds W wd past) (n : Nat) {x : Int} (hx : W x) : Wds W (setF wd n x) (setF past n (past n ++ [wd n])) := fun m => by
 unfold setF;by_cases e : m = n
 ·rw [if_pos e, if_pos e]
  refine ⟨hx, fun v hv => ?_⟩;rcases List.mem_append.1 hv with q | q
  ·exact (h n).2 v q
  ·rw [List.mem_singleton.1 q]; exact (h n).1
 ·rw [if_neg e, if_neg e]; exact h m
theorem Wds.was {W : Int -> Prop} {wd : Nat -> Int} {past : Nat -> List Int} (h : Wds W wd past) (h0 : W 0) (n k : Nat) : W ((past n).getD k 0) := by
 rw [List.getD_eq_getElem?_getD];cases e : (past n)[k]? with
 | none => exact h0
 | some v => exact (h n).2 v (List.mem_of_getElem? e)

structure TwinS (p : Prg) (W : Int -> Prop) (lab : Nat -> Nat -> Bool) (I : Nat -> (Nat -> Int) -> Prop) (a b : Sp) : Prop where
 pl : TwinP p lab a.pl b.pl
 inv : Both W I a.pl b.pl \/ (a.ahead = true /\ Stop p a.pl.at_)
 ahead : a.ahead = b.ahead
 since : a.since = b.since
 script : a.script = b.script
 seen : a.seen = b.seen
 back : a.ahead = true -> TwinP p lab a.back b.back /\ Both W I a.back b.back

theorem TwinS.both {a b : Sp} (h : TwinS p W lab I a b) (ha : a.ahead = false) : Both W I a.pl b.pl := by
 rcases h.inv with q | ⟨q, _⟩
 ·exact q
 ·rw [ha] at q; cases q
theorem J1r (s : Sp) : s.leave.pl = s.pl := by unfold Sp.leave; split <;> rfl
theorem J3h (s : Sp) : s.leave.ahead = true := by
 unfold Sp.leave
 split
 ·assumption
 ·rfl
theorem TwinS.leave {a b : Sp} (h : TwinS p W lab I a b) (hb : Both W I a.pl b.pl) : TwinS p W lab I a.leave b.leave := by
 have e' := h.ahead;unfold Sp.leave;by_cases e : a.ahead = true
 ·rw [if_pos e, if_pos (e'.symm.trans e)]; exact h
 ·rw [if_neg e, if_neg (fun q => e (e'.trans q))]
  exact ⟨h.pl, .inl hb, rfl, rfl, h.script, h.seen, fun _ => ⟨h.pl, hb⟩⟩
theorem TwinS.returns {a b : Sp} (h : TwinS p W lab I a b) (ha : a.ahead = true) : TwinS p W lab I a.returns b.returns :=
 ⟨(h.back ha).1, .inl (h.back ha).2, rfl, h.since, h.script, by show _ ++ _ = _ ++ _; rw [h.seen], fun q => absurd q (by simp [Sp.returns])⟩
theorem TwinS.to {a b : Sp} (h : TwinS p W lab I a b) {x y : Pl} (hp : TwinP p lab x y) (hi : Both W I x y \/ (a.ahead = true /\ Stop p x.at_)) : TwinS p W lab I { a with pl := x } { b with pl := y } :=
 ⟨hp, hi, h.ahead, h.since, h.script, h.seen, h.back⟩
theorem TwinS.tail {a b : Sp} (h : TwinS p W lab I a b) : TwinS p W lab I { a with script := a.script.tail } { b with script := b.script.tail } :=
 ⟨h.pl, h.inv, h.ahead, h.since, by show a.script.tail = b.script.tail; rw [h.script], h.seen, h.back⟩
theorem TwinS.shown {a b : Sp} (h : TwinS p W lab I a b) (l : List Se) : TwinS p W lab I { a with seen := a.seen ++ l } { b with seen := b.seen ++ l } :=
 ⟨h.pl, h.inv, h.ahead, h.since, h.script, by show _ ++ _ = _ ++ _; rw [h.seen], h.back⟩

theorem TwinS.after {a b : Sp} (h : TwinS p W lab I a b) (over : Bool) : TwinS p W lab I (a.after over) (b.after over) := by
 have e' := h.ahead;have s' := h.since;have h' : TwinS p W lab I { a with since := a.since + 1 } { b with since := b.since + 1 } := ⟨h.pl, h.inv, h.ahead, by show a.since + 1 = b.since + 1; rw [s'], h.script, h.seen, h.back⟩;unfold Sp.after;by_cases e : a.ahead = true
 ·rw [if_pos e, if_pos (e'.symm.trans e)]
  by_cases e2 : over = true \/ a.since + 1 = 12
  ·rw [if_pos e2, if_pos (by rw [<- s']; exact e2)]; exact h'.returns e
  ·rw [if_neg e2, if_neg (by rw [<- s']; exact e2)]; exact h'
 ·rw [if_neg e, if_neg (fun q => e (e'.trans q))]; exact h
theorem TwinS.noneLeft {a b : Sp} (h : TwinS p W lab I a b) (cl : Nat) : TwinS p W lab I (a.noneLeft cl) (b.noneLeft cl) := by
 have e' := h.ahead;have a' := h.pl.at_;unfold Sp.noneLeft;by_cases e : cl <= a.pl.at_ /\ a.ahead = true
 ·rw [if_pos e, if_pos (by rw [<- e', <- a']; exact e)]; exact h.returns e.2
 ·rw [if_neg e, if_neg (by rw [<- e', <- a']; exact e)]; exact h
theorem TwinS.real {a b : Sp} (h : TwinS p W lab I a b) : TwinP p lab a.real b.real := by
 have e' := h.ahead;unfold Sp.real;by_cases e : a.ahead = true
 ·rw [if_pos e, if_pos (e'.symm.trans e)]; exact (h.back e).1
 ·rw [if_neg e, if_neg (fun q => e (e'.trans q))]; exact h.pl

theorem TwinP.go {a b : Pl} (h : TwinP p lab a b) (n : Nat) (hl : ∀ j, j < 10 -> lab a.at_ j = true -> lab n j = true) : TwinP p lab { a with at_ := n } { b with at_ := n } :=
 ⟨rfl, fun j hj e => h.r j hj (by cases q : lab a.at_ j with | false => rfl | true => rw [hl j hj q] at e; cases e), h.len, h.wd, h.past⟩
theorem TwinP.reg {a b : Pl} (h : TwinP p lab a b) (n : Nat) (x v v' : Int) (hl : ∀ j, j < 10 -> j ≠ x.toNat -> lab a.at_ j = true -> lab n j = true) (hv : lab n x.toNat = false -> v = v') :
  TwinP p lab { a with at_ := n, r := setR a.r x v } { b with at_ := n, r := setR b.r x v' } := by
 refine ⟨rfl, fun j hj e => ?_, h.len, h.wd, h.past⟩;show setR a.r x v j = setR b.r x v' j;unfold setR;by_cases q : j = x.toNat
 ·rw [if_pos q, if_pos q]; exact hv (q ▸ e)
 ·rw [if_neg q, if_neg q]
  refine h.r j hj ?_;cases q2 : lab a.at_ j with
  | false => rfl
  | true =>
   dsimp only at e;rw [hl j hj q q2] at e; cases e

theorem Ja8 (r : Nat -> Int) (a v v' : Int) : setR (setR r a v) a v' = setR r a v' := by
 funext j
 unfold setR
 split <;> rfl

structure J56 (p : Prg) (W : Int -> Prop) (lab : Nat -> Nat -> Bool) (I : Nat -> (Nat -> Int) -> Prop) (x y : Sp × Bool × Option (Int × Int)) : Prop where
 fin : x.2.2 = y.2.2
 ends : x.2.2 ≠ none -> x.1.seen = y.1.seen /\ TwinP p lab x.1.real y.1.real
 goes : x.2.2 = none -> TwinS p W lab I (x.1.after x.2.1) (y.1.after y.2.1)

theorem Jlz (T : Tight p W lab I) {k : Nat} (hk : k < p.cl) (hw : 0 <= putI (p.ins k)) {r : Nat -> Int} (hi : I k r) :
  wrap64 (baseI p.log (p.ins k).c.toNat + idxI r (p.ins k)) = baseI p.log (p.ins k).c.toNat + idxI r (p.ins k) /\ 0 <= baseI p.log (p.ins k).c.toNat + idxI r (p.ins k) /\ baseI p.log (p.ins k).c.toNat + idxI r (p.ins k) < allI p := by
 obtain ⟨h1, _, h5, _⟩ := T.word k hk hw r hi;have h6 := J68 p.log _ _ h1;have h7 := J7v p.log (p.ins k).c.toNat;have h8 := J7w T.regs p.rl (Nat.le_refl _);have h9 := T.regs.1;unfold allI;refine ⟨?_, by omega, by omega⟩;unfold wrap64;omega
theorem Jif {c : Nat} {x : Int} (hc : c < p.rl) (h0 : 0 <= x) (h1 : x < J0c (p.log c)) : PubW p (baseI p.log c + x).toNat ↔ p.sec c = false := by
 have hb := J7v p.log c;constructor
 ·rintro ⟨d, hd, hs, h2, h3⟩
  have e : d = c := Jdw p.log (n := baseI p.log c + x) (by omega) (by omega) (by omega) (by omega);rw [<- e]; exact hs
 ·intro hs
  exact ⟨c, hc, hs, by omega, by omega⟩

theorem Jgc (T : Tight p W lab I) (k : Nat) (hk : k < p.cl) (hp : 0 <= putI (p.ins k)) (r r' wd wd' : Nat -> Int) (past past' : Nat -> List Int) (ahead : Bool) (since : Int) (back back' : Pl) (script : List Int) (seen : List Se)
  (hr : ∀ j, j < 10 -> lab k j = false -> r j = r' j) (hlen : ∀ n, (past n).length = (past' n).length) (hwd : ∀ n, PubW p n -> wd n = wd' n) (hpast : ∀ n, PubW p n -> past n = past' n) (hI : I k r) (hJ : I k r') (hV : Wds W wd past) (hV' : Wds W wd' past')
  (hback : ahead = true -> TwinP p lab back back' /\ Both W I back back') (n : Int) (hn0 : 0 <= n) (hn1 : n < allI p) (hpub : PubW p n.toNat ↔ p.sec (p.ins k).c.toNat = false) :
  TwinS p W lab I (wordS p ⟨⟨k + 1, r, wd, past⟩, ahead, since, back, script, seen⟩ (p.ins k) n) (wordS p ⟨⟨k + 1, r', wd', past'⟩, ahead, since, back', script, seen⟩ (p.ins k) n) := by
 obtain ⟨w1, w2, _, _⟩ := T.word k hk hp r hI;have hno : ¬ (n < 0 \/ allI p <= n) := by omega
 by_cases hq : putI (p.ins k) = 1
 ·obtain ⟨t1, t2, t3⟩ := T.put k hk hq r hI
  have t3' := (T.put k hk hq r' hJ).2.2;unfold wordS;dsimp only;rw [if_neg hno, if_neg hno, if_pos hq, if_pos hq];refine ⟨⟨rfl, ?_, fun m => ?_, fun m hm => ?_, fun m hm => ?_⟩, .inl ⟨⟨t3, hV.put _ (T.kept k hk hq r hI)⟩, ⟨t3', hV'.put _ (T.kept k hk hq r' hJ)⟩⟩, rfl, rfl, rfl, rfl, hback⟩
  ·intro j hj e
   refine hr j hj ?_;cases q : lab k j with
   | false => rfl
   | true =>
    dsimp only at e;rw [t1 j hj q] at e; cases e
  ·dsimp only
   unfold setF;by_cases e : m = n.toNat
   ·rw [if_pos e, if_pos e, List.length_append, List.length_append, hlen]; rfl
   ·rw [if_neg e, if_neg e]; exact hlen m
  ·dsimp only
   unfold setF;by_cases e : m = n.toNat
   ·rw [if_pos e, if_pos e]
    refine hr _ w2 ?_;cases q : lab k (p.ins k).a.toNat with
    | false => rfl
    | true =>
     have := t2 q;rw [e] at hm;rw [hpub.1 hm] at this; cases this
   ·rw [if_neg e, if_neg e]; exact hwd m hm
  ·dsimp only
   unfold setF;by_cases e : m = n.toNat
   ·rw [e] at hm
    rw [if_pos e, if_pos e, hpast _ hm, hwd _ hm]
   ·rw [if_neg e, if_neg e]; exact hpast m hm
 ·have h0 : putI (p.ins k) = 0 := by
   unfold putI at hp hq |-;by_cases o1 : (p.ins k).op = 3 \/ (p.ins k).op = 5
   ·rw [if_pos o1]
   ·rw [if_neg o1] at hp hq
    by_cases o2 : (p.ins k).op = 4 \/ (p.ins k).op = 6
    ·rw [if_pos o2] at hq; exact absurd rfl hq
    ·rw [if_neg o2] at hp; omega
  obtain ⟨t1, t2, t3⟩ := T.load k hk h0 r hI;have t3' := (T.load k hk h0 r' hJ).2.2
  have hpubv : lab (k + 1) (p.ins k).a.toNat = false -> PubW p n.toNat := fun q => hpub.2 (by
   cases q2 : p.sec (p.ins k).c.toNat with
   | false => rfl
   | true => rw [t2 q2] at q; cases q)
  have base : TwinP p lab ⟨k, r, wd, past⟩ ⟨k, r', wd', past'⟩ := ⟨rfl, hr, hlen, hwd, hpast⟩;have P1 := base.reg (k + 1) (p.ins k).a (wd n.toNat) (wd' n.toNat) t1 (fun q => hwd _ (hpubv q));have B1 : Both W I ⟨k + 1, setR r (p.ins k).a (wd n.toNat), wd, past⟩ ⟨k + 1, setR r' (p.ins k).a (wd' n.toNat), wd', past'⟩ := ⟨⟨t3 _ (hV _).1, hV⟩, ⟨t3' _ (hV' _).1, hV'⟩⟩
  have S1 : TwinS p W lab I ⟨⟨k + 1, setR r (p.ins k).a (wd n.toNat), wd, past⟩, ahead, since, back, script.tail, seen⟩ ⟨⟨k + 1, setR r' (p.ins k).a (wd' n.toNat), wd', past'⟩, ahead, since, back', script.tail, seen⟩ :=
   ⟨P1, .inl B1, rfl, rfl, rfl, rfl, hback⟩
  unfold wordS;dsimp only;rw [if_neg hno, if_neg hno, if_neg hq, if_neg hq];unfold Sp.choice;dsimp only;rw [<- hlen];by_cases hc : 0 < script.headD 0 /\ script.headD 0 <= ((past n.toNat).length : Int)
  ·rw [if_pos hc, if_pos hc]
   have S2 := S1.leave B1
   have P2 : TwinP p lab { (Sp.leave ⟨⟨k + 1, setR r (p.ins k).a (wd n.toNat), wd, past⟩, ahead, since, back, script.tail, seen⟩).pl with r := setR (Sp.leave ⟨⟨k + 1, setR r (p.ins k).a (wd n.toNat), wd, past⟩, ahead, since, back, script.tail, seen⟩).pl.r (p.ins k).a ((past n.toNat).getD ((past n.toNat).length - (script.headD 0).toNat) 0) }
     { (Sp.leave ⟨⟨k + 1, setR r' (p.ins k).a (wd' n.toNat), wd', past'⟩, ahead, since, back', script.tail, seen⟩).pl with r := setR (Sp.leave ⟨⟨k + 1, setR r' (p.ins k).a (wd' n.toNat), wd', past'⟩, ahead, since, back', script.tail, seen⟩).pl.r (p.ins k).a ((past' n.toNat).getD ((past n.toNat).length - (script.headD 0).toNat) 0) } := by
    rw [J1r, J1r];exact P1.reg (k + 1) (p.ins k).a _ _ (fun j _ _ q => q) (fun q => by rw [hpast _ (hpubv q)])
   refine TwinS.to S2 P2 (.inl ⟨⟨?_, ?_⟩, ⟨?_, ?_⟩⟩)
   ·rw [J1r]
    show I (k + 1) (setR (setR r _ _) _ _);rw [Ja8]; exact t3 _ (hV.was T.zero _ _)
   ·rw [J1r]; exact hV
   ·rw [J1r]
    show I (k + 1) (setR (setR r' _ _) _ _);rw [Ja8]; exact t3' _ (hV'.was T.zero _ _)
   ·rw [J1r]; exact hV'
  ·rw [if_neg hc, if_neg hc]
   exact S1

theorem Jg6 (T : Tight p W lab I) {a b : Sp} (h : TwinS p W lab I a b) (hk : a.pl.at_ < p.cl) (h12 : (p.ins a.pl.at_).op = 9 \/ (p.ins a.pl.at_).op = 12) : J56 p W lab I (stepS p a) (stepS p b) := by
 have hat := h.pl.at_;have hstep : TwinS p W lab I (a.see ⟨1, a.pl.at_, 0⟩) (b.see ⟨1, a.pl.at_, 0⟩) := h.shown _;have e7 : ¬ (p.ins a.pl.at_).op = 7 := by omega
 have e8 : ¬ (p.ins a.pl.at_).op = 8 := by omega
 unfold stepS;rw [<- hat, if_neg e7, if_neg e8, if_neg e7, if_neg e8];by_cases e9 : (p.ins a.pl.at_).op = 9 /\ a.ahead = false
 ·have e9b : (p.ins a.pl.at_).op = 9 /\ b.ahead = false := by rw [<- h.ahead]; exact e9
  rw [if_pos e9, if_pos e9b];obtain ⟨t1, t2⟩ := T.halt _ hk e9.1 _ (h.both e9.2).1.1;refine ⟨?_, fun _ => ⟨?_, ?_⟩, fun q => by cases q⟩
  ·show some _ = some _
   rw [h.pl.r _ t1 t2]
  ·exact hstep.seen
  ·exact hstep.real
 ·have e9b : ¬ ((p.ins a.pl.at_).op = 9 /\ b.ahead = false) := by rw [<- h.ahead]; exact e9
  rw [if_neg e9, if_neg e9b, if_pos h12, if_pos h12];refine ⟨rfl, fun q => absurd rfl q, fun _ => ?_⟩;by_cases ha : a.ahead = true
  ·-- it is taken back
   have hb : b.ahead = true := h.ahead ▸ ha;have hs := hstep.seen;show TwinS p W lab I (Sp.after _ true) (Sp.after _ true);unfold Sp.after;rw [if_pos (show ((a.see ⟨1, a.pl.at_, 0⟩).go (a.pl.at_ + 1)).ahead = true from ha), if_pos (.inl rfl), if_pos (show ((b.see ⟨1, a.pl.at_, 0⟩).go (a.pl.at_ + 1)).ahead = true from hb), if_pos (.inl rfl)];refine ⟨(h.back ha).1, .inl (h.back ha).2, rfl, ?_, h.script, ?_, fun q => absurd q (by simp [Sp.returns])⟩
   ·show a.since + 1 = b.since + 1
    rw [h.since]
   ·show (a.see ⟨1, a.pl.at_, 0⟩).seen ++ [_] = (b.see ⟨1, a.pl.at_, 0⟩).seen ++ [_]
    rw [hs]
  ·-- an IFence that is gone past
   have ha' : a.ahead = false := by simpa using ha
   have o12 : (p.ins a.pl.at_).op = 12 := by rcases h12 with q | q; exact absurd ⟨q, ha'⟩ e9; exact q
   have hbo := h.both ha';obtain ⟨t1, t2⟩ := T.fence _ hk o12 _ hbo.1.1;refine TwinS.after ?_ true;refine hstep.to (h.pl.go _ t1) (.inl ⟨⟨t2, hbo.1.2⟩, ⟨?_, hbo.2.2⟩⟩);have := hbo.2.1;rw [<- hat] at this;exact (T.fence _ hk o12 _ this).2

theorem Jg5 (T : Tight p W lab I) {a b : Sp} (h : TwinS p W lab I a b) (hk : a.pl.at_ < p.cl) (hbo : Both W I a.pl b.pl) (e7 : (p.ins a.pl.at_).op = 7) : J56 p W lab I (stepS p a) (stepS p b) := by
 have hat := h.pl.at_;have hstep : TwinS p W lab I (a.see ⟨1, a.pl.at_, 0⟩) (b.see ⟨1, a.pl.at_, 0⟩) := h.shown _;have hI := hbo.1.1;have hJ := hbo.2.1;rw [<- hat] at hJ;obtain ⟨t1, t2⟩ := T.jump _ hk e7 _ hI;have t2' := (T.jump _ hk e7 _ hJ).2;unfold stepS;rw [<- hat, if_pos e7, if_pos e7];refine ⟨rfl, fun q => absurd rfl q, fun _ => TwinS.after (hstep.to (h.pl.go _ t1) (.inl ⟨⟨t2, hbo.1.2⟩, ⟨t2', hbo.2.2⟩⟩)) false⟩

theorem Jg4 (T : Tight p W lab I) {a b : Sp} (h : TwinS p W lab I a b) (hk : a.pl.at_ < p.cl) (hbo : Both W I a.pl b.pl) (e7 : ¬ (p.ins a.pl.at_).op = 7) (e8 : (p.ins a.pl.at_).op = 8) : J56 p W lab I (stepS p a) (stepS p b) := by
 have hat := h.pl.at_;have hstep : TwinS p W lab I (a.see ⟨1, a.pl.at_, 0⟩) (b.see ⟨1, a.pl.at_, 0⟩) := h.shown _;have hI := hbo.1.1;have hJ := hbo.2.1;rw [<- hat] at hJ;obtain ⟨t1, t2, t3, t4, t5, wI⟩ := T.cond _ hk e8 _ hI;have wJ := (T.cond _ hk e8 _ hJ).2.2.2.2.2;have ra := h.pl.r _ t1 t3;have rb := h.pl.r _ t2 t4;have ch : a.choice = b.choice := by unfold Sp.choice; rw [h.script]
 unfold J9z J6w at wI wJ;rw [<- ra, <- rb] at wJ;unfold stepS;rw [<- hat, if_neg e7, if_neg e7, if_pos e8, if_pos e8, <- ra, <- rb, <- ch];by_cases hh : J0u (p.ins a.pl.at_).c (a.pl.r (p.ins a.pl.at_).a.toNat) (a.pl.r (p.ins a.pl.at_).b.toNat) = true
 ·rw [if_pos hh, if_pos hh] at wI
  rw [if_pos hh, if_pos hh] at wJ;rw [if_pos hh, if_pos hh]
  have h1 : TwinS p W lab I { (a.see ⟨1, a.pl.at_, 0⟩).go (p.ins a.pl.at_).n.toNat with script := a.script.tail } { (b.see ⟨1, a.pl.at_, 0⟩).go (p.ins a.pl.at_).n.toNat with script := b.script.tail } :=
   (hstep.to (h.pl.go _ (fun j hj q => (t5 j hj q).1)) (.inl ⟨⟨wI.1, hbo.1.2⟩, ⟨wJ.1, hbo.2.2⟩⟩)).tail
  by_cases hc : a.choice = 0
  ·rw [if_pos hc, if_pos hc]
   exact ⟨rfl, fun q => absurd rfl q, fun _ => h1.after false⟩
  ·rw [if_neg hc, if_neg hc]
   refine ⟨rfl, fun q => absurd rfl q, fun _ => TwinS.after ?_ false⟩;have h2 := h1.leave ⟨⟨wI.1, hbo.1.2⟩, ⟨wJ.1, hbo.2.2⟩⟩;refine TwinS.to h2 (x := { (Sp.leave _).pl with at_ := a.pl.at_ + 1 }) (y := { (Sp.leave _).pl with at_ := a.pl.at_ + 1 }) ?_ ?_
   ·rw [J1r, J1r]
    exact h.pl.go _ (fun j hj q => (t5 j hj q).2)
   ·rw [J1r, J1r]
    rcases wI.2 with q | q
    ·rcases wJ.2 with q2 | q2
     ·exact .inl ⟨⟨q, hbo.1.2⟩, ⟨q2, hbo.2.2⟩⟩
     ·exact .inr ⟨J3h _, q2⟩
    ·exact .inr ⟨J3h _, q⟩
 ·rw [if_neg hh, if_neg hh] at wI
  rw [if_neg hh, if_neg hh] at wJ;rw [if_neg hh, if_neg hh]
  have h1 : TwinS p W lab I { (a.see ⟨1, a.pl.at_, 0⟩).go (a.pl.at_ + 1) with script := a.script.tail } { (b.see ⟨1, a.pl.at_, 0⟩).go (a.pl.at_ + 1) with script := b.script.tail } :=
   (hstep.to (h.pl.go _ (fun j hj q => (t5 j hj q).2)) (.inl ⟨⟨wI.1, hbo.1.2⟩, ⟨wJ.1, hbo.2.2⟩⟩)).tail
  by_cases hc : a.choice = 0
  ·rw [if_pos hc, if_pos hc]
   exact ⟨rfl, fun q => absurd rfl q, fun _ => h1.after false⟩
  ·rw [if_neg hc, if_neg hc]
   refine ⟨rfl, fun q => absurd rfl q, fun _ => TwinS.after ?_ false⟩;have h2 := h1.leave ⟨⟨wI.1, hbo.1.2⟩, ⟨wJ.1, hbo.2.2⟩⟩;refine TwinS.to h2 (x := { (Sp.leave _).pl with at_ := (p.ins a.pl.at_).n.toNat }) (y := { (Sp.leave _).pl with at_ := (p.ins a.pl.at_).n.toNat }) ?_ ?_
   ·rw [J1r, J1r]
    exact h.pl.go _ (fun j hj q => (t5 j hj q).1)
   ·rw [J1r, J1r]
    rcases wI.2 with q | q
    ·rcases wJ.2 with q2 | q2
     ·exact .inl ⟨⟨q, hbo.1.2⟩, ⟨q2, hbo.2.2⟩⟩
     ·exact .inr ⟨J3h _, q2⟩
    ·exact .inr ⟨J3h _, q⟩

theorem Jg7 (T : Tight p W lab I) {a b : Sp} (h : TwinS p W lab I a b) (hk : a.pl.at_ < p.cl) (hbo : Both W I a.pl b.pl) (e7 : ¬ (p.ins a.pl.at_).op = 7) (e8 : ¬ (p.ins a.pl.at_).op = 8) (h12 : ¬ ((p.ins a.pl.at_).op = 9 \/ (p.ins a.pl.at_).op = 12)) (hp : 0 <= putI (p.ins a.pl.at_)) : J56 p W lab I (stepS p a) (stepS p b) := by
 have hat := h.pl.at_;have hstep : TwinS p W lab I (a.see ⟨1, a.pl.at_, 0⟩) (b.see ⟨1, a.pl.at_, 0⟩) := h.shown _;have hI := hbo.1.1;have hJ := hbo.2.1;rw [<- hat] at hJ;have e9 : ¬ (p.ins a.pl.at_).op = 9 := by omega
 have e9a : ¬ ((p.ins a.pl.at_).op = 9 /\ a.ahead = false) := fun q => e9 q.1
 have e9b : ¬ ((p.ins a.pl.at_).op = 9 /\ b.ahead = false) := fun q => e9 q.1
 obtain ⟨w1, w2, w3, w4⟩ := T.word _ hk hp _ hI;have hx := w4 b.pl.r h.pl.r;obtain ⟨x0, x1⟩ := w3;obtain ⟨n1, n2, n3⟩ := Jlz T hk hp hI;have hpub := Jif w1 x0 x1;have oa : ¬ (a.ahead = false /\ (idxI a.pl.r (p.ins a.pl.at_) < 0 \/ J0c (p.log (p.ins a.pl.at_).c.toNat) <= idxI a.pl.r (p.ins a.pl.at_))) := by omega
 have ob : ¬ (b.ahead = false /\ (idxI a.pl.r (p.ins a.pl.at_) < 0 \/ J0c (p.log (p.ins a.pl.at_).c.toNat) <= idxI a.pl.r (p.ins a.pl.at_))) := by omega
 unfold stepS;rw [<- hat, if_neg e7, if_neg e7, if_neg e8, if_neg e8, if_neg e9a, if_neg e9b, if_neg h12, if_neg h12, if_pos hp, if_pos hp, <- hx, if_neg oa, if_neg ob, n1];refine ⟨rfl, fun q => absurd rfl q, fun _ => TwinS.after ?_ false⟩;generalize hn : baseI p.log (p.ins a.pl.at_).c.toNat + idxI a.pl.r (p.ins a.pl.at_) = n at *;have hse : a.seen ++ [(⟨1, a.pl.at_, 0⟩ : Se)] ++ [⟨2, n, putI (p.ins a.pl.at_)⟩] = b.seen ++ [(⟨1, a.pl.at_, 0⟩ : Se)] ++ [⟨2, n, putI (p.ins a.pl.at_)⟩] := by rw [h.seen]
 have W := Jgc T a.pl.at_ hk hp a.pl.r b.pl.r a.pl.wd b.pl.wd a.pl.past b.pl.past a.ahead a.since a.back b.back a.script (a.seen ++ [(⟨1, a.pl.at_, 0⟩ : Se)] ++ [⟨2, n, putI (p.ins a.pl.at_)⟩]) h.pl.r h.pl.len h.pl.wd h.pl.past hI hJ hbo.1.2 hbo.2.2 h.back n n2 n3 hpub
 have eb : (((b.see ⟨1, a.pl.at_, 0⟩).see ⟨2, n, putI (p.ins a.pl.at_)⟩).go (a.pl.at_ + 1)) = ⟨⟨a.pl.at_ + 1, b.pl.r, b.pl.wd, b.pl.past⟩, a.ahead, a.since, b.back, a.script, a.seen ++ [(⟨1, a.pl.at_, 0⟩ : Se)] ++ [⟨2, n, putI (p.ins a.pl.at_)⟩]⟩ := by
  rw [hse, h.ahead, h.since, h.script]; rfl
 rw [eb];exact W

theorem Jlq (T : Tight p W lab I) {a b : Sp} (h : TwinS p W lab I a b) (hk : a.pl.at_ < p.cl) (hbo : Both W I a.pl b.pl) (e7 : ¬ (p.ins a.pl.at_).op = 7) (e8 : ¬ (p.ins a.pl.at_).op = 8) (h12 : ¬ ((p.ins a.pl.at_).op = 9 \/ (p.ins a.pl.at_).op = 12)) (hp : ¬ 0 <= putI (p.ins a.pl.at_)) : J56 p W lab I (stepS p a) (stepS p b) := by
 have hat := h.pl.at_;have hstep : TwinS p W lab I (a.see ⟨1, a.pl.at_, 0⟩) (b.see ⟨1, a.pl.at_, 0⟩) := h.shown _;have hI := hbo.1.1;have hJ := hbo.2.1;rw [<- hat] at hJ;have e9 : ¬ (p.ins a.pl.at_).op = 9 := by omega
 have e9a : ¬ ((p.ins a.pl.at_).op = 9 /\ a.ahead = false) := fun q => e9 q.1
 have e9b : ¬ ((p.ins a.pl.at_).op = 9 /\ b.ahead = false) := fun q => e9 q.1
 obtain ⟨t1, v1⟩ := T.op _ hk e7 e8 e9 (by omega) hp _ hI;have v2 := (T.op _ hk e7 e8 e9 (by omega) hp _ hJ).2;obtain ⟨u1, u2⟩ := t1 b.pl.r h.pl.r;unfold stepS;rw [<- hat, if_neg e7, if_neg e7, if_neg e8, if_neg e8, if_neg e9a, if_neg e9b, if_neg h12, if_neg h12, if_neg hp, if_neg hp];generalize regsI a.pl.r (p.ins a.pl.at_) = x at u1 u2 v1 |-;generalize regsI b.pl.r (p.ins a.pl.at_) = y at u1 u2 v2 |-;obtain ⟨xr, xs⟩ := x;obtain ⟨yr, ys⟩ := y;dsimp only at u1 u2 v1 v2 |-;subst u1;refine ⟨rfl, fun q => absurd rfl q, fun _ => TwinS.after ?_ false⟩;exact ⟨⟨rfl, u2, h.pl.len, h.pl.wd, h.pl.past⟩, .inl ⟨⟨v1, hbo.1.2⟩, ⟨v2, hbo.2.2⟩⟩, h.ahead, h.since, h.script, by dsimp only; rw [h.seen], h.back⟩

theorem Jg9 (T : Tight p W lab I) {a b : Sp} (h : TwinS p W lab I a b) (hk : a.pl.at_ < p.cl) : J56 p W lab I (stepS p a) (stepS p b) := by
 by_cases h12 : (p.ins a.pl.at_).op = 9 \/ (p.ins a.pl.at_).op = 12
 ·exact Jg6 T h hk h12
 ·have hbo : Both W I a.pl b.pl := by
   rcases h.inv with q | ⟨_, q⟩
   ·exact q
   ·unfold Stop at q; omega
  by_cases e7 : (p.ins a.pl.at_).op = 7
  ·exact Jg5 T h hk hbo e7
  by_cases e8 : (p.ins a.pl.at_).op = 8
  ·exact Jg4 T h hk hbo e7 e8
  by_cases hp : 0 <= putI (p.ins a.pl.at_)
  ·exact Jg7 T h hk hbo e7 e8 h12 hp
  ·exact Jlq T h hk hbo e7 e8 h12 hp

theorem Jd0 (T : Tight p W lab I) : ∀ (f k : Nat) (a b : Sp), TwinS p W lab I a b -> (runS p f k a).fin = (runS p f k b).fin /\ (runS p f k a).val = (runS p f k b).val /\ (runS p f k a).steps = (runS p f k b).steps /\ (runS p f k a).seen = (runS p f k b).seen /\ ∀ n, PubW p n -> (runS p f k a).wd n = (runS p f k b).wd n
 | 0, k, a, b, h => ⟨rfl, rfl, rfl, h.seen, h.real.wd⟩
 | f + 1, k, a, b, h => by
  have h' := h.noneLeft p.cl;have hat := h'.pl.at_;rw [runS, runS];by_cases e : p.cl <= (a.noneLeft p.cl).pl.at_
  ·rw [if_pos e, if_pos (by rw [<- hat]; exact e)]
   exact ⟨rfl, rfl, rfl, h'.seen, h'.real.wd⟩
  ·rw [if_neg e, if_neg (by rw [<- hat]; exact e)]
   have st := Jg9 T h' (by omega);have hf := st.fin;cases q : (stepS p (a.noneLeft p.cl)).2.2 with
   | none =>
    rw [q] at hf;rw [<- hf];exact Jd0 T f (k + 1) _ _ (st.goes q)
   | some x =>
    rw [q] at hf;rw [<- hf];have se := st.ends (by rw [q]; simp);exact ⟨rfl, rfl, rfl, se.1, se.2.wd⟩

theorem Jbx (T : Tight p W lab I) (h0 : I 0 (fun _ => 0)) (wd wd' : Nat -> Int) (hw : ∀ n, PubW p n -> wd n = wd' n) (hV : ∀ n, W (wd n)) (hV' : ∀ n, W (wd' n)) (script : List Int) (f : Nat) :
  (playS p wd script f).fin = (playS p wd' script f).fin /\ (playS p wd script f).val = (playS p wd' script f).val /\ (playS p wd script f).steps = (playS p wd' script f).steps /\ (playS p wd script f).seen = (playS p wd' script f).seen /\ ∀ n, PubW p n -> (playS p wd script f).wd n = (playS p wd' script f).wd n :=
 Jd0 T f 0 _ _ ⟨⟨rfl, fun _ _ _ => rfl, fun _ => rfl, hw, fun _ _ => rfl⟩, .inl ⟨⟨h0, fun n => ⟨hV n, fun v q => (by cases q)⟩⟩, ⟨h0, fun n => ⟨hV' n, fun v q => (by cases q)⟩⟩⟩, rfl, rfl, rfl, rfl, fun q => by cases q⟩

def Still (h : Prg) : Prop := ∃ W lab I, (∀ x, B64 x -> W x) /\ Tight h W lab I /\ I 0 (fun _ => 0)
end
end
section
open Go.RowKit
def bnd (k : Int) : Int := if k < 0 \/ 16 < k then 17 else k

def hasI (k n : Int) : Bool := decide (bnd k = 17 \/ (0 <= n /\ n < 2 ^ (bnd k).toNat))

def fitI (n : Int) : Int := bnd (bitLen (toU n) : Int)

def opB (op a b : Int) : Int :=
 if op = 1 then (if a = 0 \/ b = 0 then max a b else bnd (max a b + 1))
 else if op = 3 then (if a = 0 \/ b = 0 then 0 else bnd (a + b))
 else if op = 4 then min a b
 else if op = 5 \/ op = 6 then max a b
 else if op = 8 \/ op = 9 \/ op = 10 then a
 else 17

theorem J0j (k : Int) : 0 <= bnd k /\ bnd k <= 17 := by unfold bnd; split <;> omega
theorem J20 {k : Int} (h0 : 0 <= k) (h1 : k <= 17) : bnd k = k := by unfold bnd; split <;> omega
theorem J8d (k : Int) : bnd (bnd k) = bnd k := J20 (J0j k).1 (J0j k).2
theorem J3g {k : Int} (h : k < 0 \/ 16 < k) : bnd k = 17 := by unfold bnd; rw [if_pos h]
theorem J6a {k : Int} (h0 : 0 <= k) (h1 : k <= 16) : bnd k = k := J20 h0 (by omega)

theorem J9a (u b : Nat) : bitLen u <= b ↔ u < 2 ^ b := by
 have ⟨h1, h2⟩ := bitLen_spec u;constructor
 ·intro h; exact Nat.lt_of_lt_of_le h1 (Nat.pow_le_pow_right (by decide) h)
 ·intro h
  by_cases h0 : u = 0
  ·subst h0; simp [bitLen]
  ·have h3 := h2 h0
   have h4 : 2 ^ (bitLen u - 1) < 2 ^ b := Nat.lt_of_le_of_lt h3 h;have h5 := (Nat.pow_lt_pow_iff_right (a := 2) (by decide)).1 h4;omega

theorem J47 {b : Nat} (h : b <= 16) : 2 ^ b <= 65536 := Nat.pow_le_pow_right (n := 2) (by decide) h

theorem J31 {n : Int} (h0 : 0 <= n) (h1 : n <= 9223372036854775807) : ((toU n : Nat) : Int) = n := by rw [J2k]; omega
theorem Jby {n : Int} (h0 : n < 0) (h1 : -9223372036854775808 <= n) : 9223372036854775808 <= toU n := by unfold toU; omega

theorem Jh4 {n : Int} (h0 : -9223372036854775808 <= n) (h1 : n <= 9223372036854775807) {b : Nat} (hb : b <= 16) :
  fitI n <= (b : Int) ↔ (0 <= n /\ n < 2 ^ b) := by
 have hp := J47 hb;have hl := J9a (toU n) b;have hf : fitI n <= (b : Int) ↔ bitLen (toU n) <= b := by unfold fitI bnd; split <;> omega
 rw [hf, hl];have hc : ((2 ^ b : Nat) : Int) = 2 ^ b := by push_cast; rfl
 rw [<- hc];by_cases hn : n < 0
 ·have := Jby hn h0; omega
 ·have := J31 (n := n) (by omega) h1; omega

theorem J8j {n : Int} (h0 : -9223372036854775808 <= n) (h1 : n <= 9223372036854775807) (k : Int) :
  hasI k n = decide (fitI n <= bnd k) := by
 unfold hasI
 congr 1
 apply propext;have hr := J0j k;have hf : fitI n <= 17 := (J0j _).2;by_cases h : bnd k = 17
 ·rw [h]; simp [hf]
 ·have h2 := Jh4 h0 h1 (b := (bnd k).toNat) (by omega)
  rw [show (((bnd k).toNat : Nat) : Int) = bnd k by omega] at h2;rw [h2]; simp [h]

theorem J4u (n : Int) : 0 <= fitI n /\ fitI n <= 17 := J0j _

theorem Jh9 {n : Int} (h0 : -9223372036854775808 <= n) (h1 : n <= 9223372036854775807) : hasI (fitI n) n = true := by
 rw [J8j h0 h1, decide_eq_true_eq, J20 (J4u n).1 (J4u n).2]; exact Int.le_refl _

theorem J9m {n k k' : Int} (h0 : -9223372036854775808 <= n) (h1 : n <= 9223372036854775807) (h : hasI k n = true) (hk : bnd k <= bnd k') : hasI k' n = true := by
 rw [J8j h0 h1, decide_eq_true_eq] at *; omega

theorem J8i {k n : Int} (h : bnd k = 17) : hasI k n = true := by unfold hasI; simp [h]
theorem J4x {k n : Int} (hk : bnd k <= 16) (h : hasI k n = true) : 0 <= n /\ n < 2 ^ (bnd k).toNat /\ n < 65536 := by
 unfold hasI at h;rw [decide_eq_true_eq] at h;have hr := J0j k;have hp := J47 (b := (bnd k).toNat) (by omega);have hc : ((2 ^ (bnd k).toNat : Nat) : Int) = 2 ^ (bnd k).toNat := by push_cast; rfl
 rw [<- hc] at h |-;omega
theorem Jeo {k n : Int} (h0 : 0 <= n) (h1 : n < 2 ^ (bnd k).toNat) : hasI k n = true := by
 unfold hasI; rw [decide_eq_true_eq]; exact .inr ⟨h0, h1⟩

theorem Jen {a b n m : Int} (n0 : -9223372036854775808 <= n) (n1 : n <= 9223372036854775807) (m0 : -9223372036854775808 <= m) (m1 : m <= 9223372036854775807)
  (ha : hasI a n = true) (hb : hasI b m = true) (h : toU n <= toU m) : hasI (min (bnd a) (bnd b)) n = true := by
 have ra := J0j a;have rb := J0j b;by_cases h1 : bnd a <= bnd b
 ·refine J9m n0 n1 ha ?_
  rw [show min (bnd a) (bnd b) = bnd a by omega, J8d]; exact Int.le_refl _
 ·have h2 : bnd b <= 16 := by omega
  have ⟨m2, m3, m4⟩ := J4x h2 hb;rw [show min (bnd a) (bnd b) = bnd b by omega];have um := J31 m2 m1
  have hn : 0 <= n := by
   by_cases h3 : n < 0
   ·have := Jby h3 n0; omega
   ·omega
  have un := J31 hn n1;refine Jeo hn ?_;rw [J8d]; omega

theorem J1n {n : Int} (h0 : 0 <= n) (h1 : n <= 9223372036854775807) : wrap64 n = n := by unfold wrap64; omega

theorem J2r (k : Nat) : ((2 ^ k : Nat) : Int) = 2 ^ k := by push_cast; rfl

theorem Jhn (op : Int) {a b n m : Int} (n0 : -9223372036854775808 <= n) (n1 : n <= 9223372036854775807) (m0 : -9223372036854775808 <= m) (m1 : m <= 9223372036854775807)
  (ha : hasI a n = true) (hb : hasI b m = true) : hasI (opB op (bnd a) (bnd b)) (opI op n m) = true := by
 have ra := J0j a;have rb := J0j b;by_cases hres : bnd (opB op (bnd a) (bnd b)) = 17
 ·exact J8i hres
 have rr := J0j (opB op (bnd a) (bnd b));have ka : bnd a <= 16 -> 0 <= n /\ n < ((2 ^ (bnd a).toNat : Nat) : Int) /\ n < 65536 := fun h => by rw [J2r]; exact J4x h ha
 have kb : bnd b <= 16 -> 0 <= m /\ m < ((2 ^ (bnd b).toNat : Nat) : Int) /\ m < 65536 := fun h => by rw [J2r]; exact J4x h hb
 have mk : ∀ (k : Nat) (r : Int), opB op (bnd a) (bnd b) = (k : Int) -> k <= 16 -> opI op n m = r -> 0 <= r -> r < ((2 ^ k : Nat) : Int) -> hasI (opB op (bnd a) (bnd b)) (opI op n m) = true := by
  intro k r e hk er h0 h1;rw [e, er];refine Jeo h0 ?_;rw [J6a (by omega) (by omega), Int.toNat_natCast, <- J2r]; exact h1
 generalize hA : bnd a = A at *;generalize hB : bnd b = B at *;by_cases h1 : op = 1
 ·subst h1
  rw [show opB 1 A B = if A = 0 \/ B = 0 then max A B else bnd (max A B + 1) by simp [opB]] at *;by_cases hz : A = 0 \/ B = 0
  ·rw [if_pos hz] at *
   rw [J20 (by omega) (by omega)] at hres;have qa := ka (by omega); have qb := kb (by omega);rcases hz with h | h
   ·subst h
    have : n = 0 := by have := qa.2.1; simp at this; omega
    subst this;refine mk B.toNat m (by omega) (by omega) ?_ qb.1 qb.2.1;rw [opI_1, J1n (by omega) (by omega)]; omega
   ·subst h
    have : m = 0 := by have := qb.2.1; simp at this; omega
    subst this;refine mk A.toNat n (by omega) (by omega) ?_ qa.1 qa.2.1;rw [opI_1, J1n (by omega) (by omega)]; omega
  ·rw [if_neg hz] at *
   rw [J8d] at hres
   have hm : max A B + 1 <= 16 := by
    by_cases h : max A B + 1 <= 16
    ·exact h
    ·exact absurd (J3g (by omega)) hres
   have qa := ka (by omega); have qb := kb (by omega);refine mk (max A B + 1).toNat (n + m) (by rw [J6a (by omega) hm]; omega) (by omega) ?_ (by omega) ?_
   ·rw [opI_1, J1n (by omega) (by omega)]
   ·have e : (max A B + 1).toNat = (max A B).toNat + 1 := by omega
    have pa : 2 ^ A.toNat <= 2 ^ (max A B).toNat := Nat.pow_le_pow_right (by decide) (by omega);have pb : 2 ^ B.toNat <= 2 ^ (max A B).toNat := Nat.pow_le_pow_right (by decide) (by omega);rw [e, Nat.pow_succ]; omega
 by_cases h3 : op = 3
 ·subst h3
  rw [show opB 3 A B = if A = 0 \/ B = 0 then 0 else bnd (A + B) by simp [opB]] at *;by_cases hz : A = 0 \/ B = 0
  ·rw [if_pos hz] at *
   refine mk 0 0 rfl (by omega) ?_ (by omega) (by decide);rcases hz with h | h
   ·subst h
    have qa := ka (by omega);have : n = 0 := by have := qa.2.1; simp at this; omega
    subst this;rw [opI_3, Int.zero_mul]; exact J1n (by omega) (by omega)
   ·subst h
    have qb := kb (by omega);have : m = 0 := by have := qb.2.1; simp at this; omega
    subst this;rw [opI_3, Int.mul_zero]; exact J1n (by omega) (by omega)
  ·rw [if_neg hz] at *
   rw [J8d] at hres
   have hm : A + B <= 16 := by
    by_cases h : A + B <= 16
    ·exact h
    ·exact absurd (J3g (by omega)) hres
   have qa := ka (by omega); have qb := kb (by omega);obtain ⟨x, rfl⟩ := Int.eq_ofNat_of_zero_le qa.1;obtain ⟨y, rfl⟩ := Int.eq_ofNat_of_zero_le qb.1
   have hxy : x * y < 2 ^ (A.toNat + B.toNat) := by
    rw [Nat.pow_add];exact Nat.mul_lt_mul'' (by omega) (by omega)
   have hp := J47 (b := A.toNat + B.toNat) (by omega);refine mk (A + B).toNat ((x * y : Nat) : Int) (by rw [J6a (by omega) hm]; omega) (by omega) ?_ (by omega) ?_
   ·rw [opI_3, show (x : Int) * (y : Int) = ((x * y : Nat) : Int) by push_cast; rfl, J1n (by omega) (by omega)]
   ·rw [show (A + B).toNat = A.toNat + B.toNat by omega]; omega
 by_cases h4 : op = 4
 ·subst h4
  rw [show opB 4 A B = min A B by simp [opB]] at *;rw [J20 (by omega) (by omega)] at hres
  have hle : ((toU n &&& toU m : Nat)) < 2 ^ (min A B).toNat := by
   by_cases h : A <= B
   ·have qa := ka (by omega)
    have := J31 qa.1 n1;have h5 : toU n &&& toU m <= toU n := Nat.and_le_left;rw [show (min A B).toNat = A.toNat by omega]; omega
   ·have qb := kb (by omega)
    have := J31 qb.1 m1;have h5 : toU n &&& toU m <= toU m := Nat.and_le_right;rw [show (min A B).toNat = B.toNat by omega]; omega
  have hp := J47 (b := (min A B).toNat) (by omega);refine mk (min A B).toNat ((toU n &&& toU m : Nat) : Int) (by omega) (by omega) ?_ (by omega) (by omega);rw [opI_4, J1n (by omega) (by omega)]
 by_cases h5 : op = 5
 ·subst h5
  rw [show opB 5 A B = max A B by simp [opB]] at *;rw [J20 (by omega) (by omega)] at hres;have qa := ka (by omega); have qb := kb (by omega);have un := J31 qa.1 n1; have um := J31 qb.1 m1;have pa : 2 ^ A.toNat <= 2 ^ (max A B).toNat := Nat.pow_le_pow_right (by decide) (by omega);have pb : 2 ^ B.toNat <= 2 ^ (max A B).toNat := Nat.pow_le_pow_right (by decide) (by omega);have hle : (toU n ||| toU m : Nat) < 2 ^ (max A B).toNat := Nat.or_lt_two_pow (by omega) (by omega);have hp := J47 (b := (max A B).toNat) (by omega);refine mk (max A B).toNat ((toU n ||| toU m : Nat) : Int) (by omega) (by omega) ?_ (by omega) (by omega);rw [opI_5, J1n (by omega) (by omega)]
 by_cases h6 : op = 6
 ·subst h6
  rw [show opB 6 A B = max A B by simp [opB]] at *;rw [J20 (by omega) (by omega)] at hres;have qa := ka (by omega); have qb := kb (by omega);have un := J31 qa.1 n1; have um := J31 qb.1 m1;have pa : 2 ^ A.toNat <= 2 ^ (max A B).toNat := Nat.pow_le_pow_right (by decide) (by omega);have pb : 2 ^ B.toNat <= 2 ^ (max A B).toNat := Nat.pow_le_pow_right (by decide) (by omega);have hle : (toU n ^^^ toU m : Nat) < 2 ^ (max A B).toNat := Nat.xor_lt_two_pow (by omega) (by omega);have hp := J47 (b := (max A B).toNat) (by omega);refine mk (max A B).toNat ((toU n ^^^ toU m : Nat) : Int) (by omega) (by omega) ?_ (by omega) (by omega);rw [opI_6, J1n (by omega) (by omega)]
 by_cases h8 : op = 8 \/ op = 9 \/ op = 10
 ·have e : opB op A B = A := by unfold opB; rw [if_neg h1, if_neg h3, if_neg h4, if_neg (by omega), if_pos h8]
  rw [e] at hres mk |-;rw [J20 (by omega) (by omega)] at hres;have qa := ka (by omega);have un := J31 qa.1 n1
  have fin : ∀ v : Nat, v <= toU n -> opI op n m = wrap64 (v : Int) -> hasI A (opI op n m) = true := by
   intro v hv ev;refine mk A.toNat (v : Int) (by omega) (by omega) ?_ (by omega) (by omega);rw [ev, J1n (by omega) (by omega)]
  rcases h8 with h | h | h
  ·subst h; exact fin _ (Nat.div_le_self _ _) (opI_8 n m)
  ·subst h; exact fin _ (Nat.div_le_self _ _) (opI_9 n m)
  ·subst h; exact fin _ (Nat.mod_le _ _) (Jjp n m)
 ·exfalso
  have e : opB op A B = 17 := by unfold opB; rw [if_neg h1, if_neg h3, if_neg h4, if_neg (by omega), if_neg h8]
  rw [e] at hres;exact hres (J20 (by omega) (by omega))
end
section
open Go.RowKit
set_option linter.unusedVariables false
structure Kn where
 b : Int
 s : Bool

namespace Kn
def of (n : Int) : Kn := ⟨fitI n, false⟩
def join (x y : Kn) : Kn := ⟨max (bnd x.b) (bnd y.b), x.s || y.s⟩
def less (x y : Kn) : Kn := ⟨min (bnd x.b) (bnd y.b), x.s⟩
def op (o : Int) (x y : Kn) : Kn := ⟨opB o (bnd x.b) (bnd y.b), x.s || y.s⟩
def index (k : Kn) (n : Int) : Kn := if n < 0 then ⟨17, k.s⟩ else op 1 k (of n)
def Norm (x : Kn) : Prop := 0 <= x.b /\ x.b <= 17
def le (x y : Kn) : Prop := bnd x.b <= bnd y.b /\ (x.s = true -> y.s = true)

theorem le_refl (x : Kn) : le x x := ⟨Int.le_refl _, id⟩
theorem le_trans {x y z : Kn} (h : le x y) (k : le y z) : le x z := ⟨Int.le_trans h.1 k.1, fun q => k.2 (h.2 q)⟩
theorem le_anti {x y : Kn} (hx : x.Norm) (hy : y.Norm) (h : le x y) (k : le y x) : x = y := by
 have e1 := J20 hx.1 hx.2;have e2 := J20 hy.1 hy.2;have hb : x.b = y.b := by have := h.1; have := k.1; omega
 have hs : x.s = y.s := Bool.eq_iff_iff.2 ⟨h.2, k.2⟩;cases x; cases y; simp_all

theorem Jf6 (o : Int) {a b : Int} (h0 : 0 <= a) (h1 : a <= 17) (h2 : 0 <= b) (h3 : b <= 17) : 0 <= opB o a b /\ opB o a b <= 17 := by
 have hb := fun k => J0j k
 unfold opB
 split
 ·split
  ·omega
  ·exact hb _
 split
 ·split
  ·omega
  ·exact hb _
 split
 ·omega
 split
 ·omega
 split
 ·omega
 ·omega
theorem Ji2 (o : Int) {a a' b b' : Int} (h0 : 0 <= a) (h1 : a <= a') (h2 : a' <= 17) (k0 : 0 <= b) (k1 : b <= b') (k2 : b' <= 17) : opB o a b <= opB o a' b' := by
 unfold opB
 split
 ·unfold bnd
  split <;> split <;> (repeat' split) <;> omega
 split
 ·unfold bnd
  split <;> split <;> (repeat' split) <;> omega
 split
 ·omega
 split
 ·omega
 split
 ·omega
 ·omega

theorem norm_of (n : Int) : (of n).Norm := J4u n
theorem norm_join (x y : Kn) : (join x y).Norm := by have := J0j x.b; have := J0j y.b; unfold join Norm; dsimp only; omega
theorem norm_less (x y : Kn) : (less x y).Norm := by have := J0j x.b; have := J0j y.b; unfold less Norm; dsimp only; omega
theorem norm_op (o : Int) (x y : Kn) : (op o x y).Norm := by have hx := J0j x.b; have hy := J0j y.b; exact Jf6 o hx.1 hx.2 hy.1 hy.2
theorem norm_index (k : Kn) (n : Int) : (index k n).Norm := by
 unfold index; split
 ·unfold Norm; dsimp only; omega
 ·exact norm_op _ _ _

theorem bnd_norm {x : Kn} (h : x.Norm) : bnd x.b = x.b := J20 h.1 h.2
theorem join_l (x y : Kn) : le x (join x y) := by
 have := bnd_norm (norm_join x y); unfold le; rw [this];unfold join; dsimp only;exact ⟨by omega, fun h => by simp [h]⟩
theorem join_r (x y : Kn) : le y (join x y) := by
 have := bnd_norm (norm_join x y); unfold le; rw [this];unfold join; dsimp only;exact ⟨by omega, fun h => by simp [h]⟩
theorem join_le {x y z : Kn} (h : le x z) (k : le y z) : le (join x y) z := by
 have := bnd_norm (norm_join x y); unfold le at *; rw [this];unfold join; dsimp only;refine ⟨by omega, fun q => ?_⟩;rcases Bool.or_eq_true_iff.1 q with q | q
 ·exact h.2 q
 ·exact k.2 q
theorem less_mono {x x' y y' : Kn} (h : le x x') (k : le y y') : le (less x y) (less x' y') := by
 have e1 := bnd_norm (norm_less x y); have e2 := bnd_norm (norm_less x' y'); unfold le at *; rw [e1, e2];unfold less; dsimp only;exact ⟨by omega, h.2⟩
theorem op_mono (o : Int) {x x' y y' : Kn} (h : le x x') (k : le y y') : le (op o x y) (op o x' y') := by
 have e1 := bnd_norm (norm_op o x y); have e2 := bnd_norm (norm_op o x' y'); unfold le at *; rw [e1, e2];unfold op; dsimp only;have r1 := J0j x.b; have r2 := J0j x'.b; have r3 := J0j y.b; have r4 := J0j y'.b;refine ⟨Ji2 o r1.1 h.1 r2.2 r3.1 k.1 r4.2, fun q => ?_⟩;rcases Bool.or_eq_true_iff.1 q with q | q
 ·rw [h.2 q]; rfl
 ·rw [k.2 q]; simp
theorem index_mono {x x' : Kn} (n : Int) (h : le x x') : le (index x n) (index x' n) := by
 unfold index; split
 ·exact ⟨Int.le_refl _, h.2⟩
 ·exact op_mono 1 h (le_refl _)
end Kn

abbrev KS := Nat -> Kn

def setK (s : KS) (a : Int) (v : Kn) : KS := fun j => if j = a.toNat then v else s j

def nextK (p : Prg) (i : Ins) (s : KS) : KS :=
 if i.op = 1 then setK s i.a (Kn.of i.n)
 else if i.op = 2 then setK s i.a (s i.b.toNat)
 else if i.op = 10 then setK s i.a (Kn.index (s i.b.toNat) i.n)
 else if i.op = 3 \/ i.op = 5 then setK s i.a ⟨17, p.sec i.c.toNat⟩
 else if i.op = 11 then setK s i.a (Kn.less (s i.a.toNat) (Kn.of (wrap64 (i.n - 1))))
 else if i.op = 4 \/ i.op = 6 \/ i.op = 12 then s
 else setK s i.a (Kn.op (i.op - 20) (s i.b.toNat) (s i.c.toNat))

def J1g (i : Ins) (s : KS) : KS := setK s i.a (Kn.less (s i.a.toNat) (s i.b.toNat))
def J11 (i : Ins) (s : KS) : KS := setK s i.b (Kn.less (s i.b.toNat) (s i.a.toNat))
def bothK (i : Ins) (s : KS) : KS := setK (J1g i s) i.b (Kn.less (s i.b.toNat) (s i.a.toNat))

def yesK (i : Ins) (s : KS) : KS := if i.c = 1 then bothK i s else if i.c = 2 then s else if i.c = 3 then J1g i s else J11 i s
def noK (i : Ins) (s : KS) : KS := if i.c = 1 then s else if i.c = 2 then bothK i s else if i.c = 3 then J11 i s else J1g i s

def J0f (p : Prg) (at_ : Nat) (s : KS) : List (Nat × KS) :=
 if (p.ins at_).op = 7 then [((p.ins at_).n.toNat, s)]
 else if (p.ins at_).op = 9 then []
 else if (p.ins at_).op = 8 then [((p.ins at_).n.toNat, yesK (p.ins at_) s), (at_ + 1, noK (p.ins at_) s)]
 else [(at_ + 1, nextK p (p.ins at_) s)]

def leS (s t : KS) : Prop := ∀ j, j < 8 -> Kn.le (s j) (t j)
def NormS (s : KS) : Prop := ∀ j, j < 8 -> (s j).Norm
theorem J8m (s : KS) : leS s s := fun _ _ => Kn.le_refl _
theorem J6q {s t u : KS} (h : leS s t) (k : leS t u) : leS s u := fun j hj => Kn.le_trans (h j hj) (k j hj)

theorem J29 {s t : KS} (h : leS s t) {a : Int} {v v' : Kn} (k : Kn.le v v') : leS (setK s a v) (setK t a v') := fun j hj => by
 unfold setK; split
 ·exact k
 ·exact h j hj
theorem J2a {s : KS} (h : NormS s) {a : Int} {v : Kn} (k : v.Norm) : NormS (setK s a v) := fun j hj => by
 unfold setK; split
 ·exact k
 ·exact h j hj

theorem J0s {p : Prg} {i : Ins} (h : InsOk p.rl p.log p.cl 8 i) :
  (¬ (i.op = 7 \/ i.op = 12) -> i.a.toNat < 8) /\ (i.op = 2 \/ i.op = 3 \/ i.op = 4 \/ i.op = 8 \/ i.op = 10 \/ 21 <= i.op -> i.b.toNat < 8) /\ (21 <= i.op -> i.c.toNat < 8) /\
  (1 <= i.op /\ i.op <= 12 \/ 21 <= i.op /\ i.op <= 30) := by
 unfold InsOk Reg at h;have hop : i.op = 1 \/ i.op = 2 \/ i.op = 3 \/ i.op = 4 \/ i.op = 5 \/ i.op = 6 \/ i.op = 7 \/ i.op = 8 \/ i.op = 9 \/ i.op = 10 \/ i.op = 11 \/ i.op = 12 \/ ¬ (1 <= i.op /\ i.op <= 12) := by omega
 rcases hop with h1 | h1 | h1 | h1 | h1 | h1 | h1 | h1 | h1 | h1 | h1 | h1 | h1
 all_goals first
  | (simp [h1] at h; omega)
  | (rw [if_neg (by omega), if_neg (by omega), if_neg (by omega), if_neg (by omega), if_neg (by omega), if_neg (by omega), if_neg (by omega), if_neg (by omega), if_neg (by omega), if_neg (by omega), if_neg (by omega), if_neg (by omega)] at h; omega)

section
variable {p : Prg} {i : Ins}
theorem J4k (hi : InsOk p.rl p.log p.cl 8 i) (h8 : i.op = 8) {s t : KS} (h : leS s t) : leS (J1g i s) (J1g i t) := by
 have hr := J0s hi;exact J29 h (Kn.less_mono (h _ (hr.1 (by omega))) (h _ (hr.2.1 (by omega))))
theorem J5p (hi : InsOk p.rl p.log p.cl 8 i) (h8 : i.op = 8) {s t : KS} (h : leS s t) : leS (J11 i s) (J11 i t) := by
 have hr := J0s hi;exact J29 h (Kn.less_mono (h _ (hr.2.1 (by omega))) (h _ (hr.1 (by omega))))
theorem J7y (hi : InsOk p.rl p.log p.cl 8 i) (h8 : i.op = 8) {s t : KS} (h : leS s t) : leS (bothK i s) (bothK i t) := by
 have hr := J0s hi;exact J29 (J4k hi h8 h) (Kn.less_mono (h _ (hr.2.1 (by omega))) (h _ (hr.1 (by omega))))
theorem Jgg (hi : InsOk p.rl p.log p.cl 8 i) (h8 : i.op = 8) {s t : KS} (h : leS s t) : leS (yesK i s) (yesK i t) := by
 unfold yesK
 split
 ·exact J7y hi h8 h
 split
 ·exact h
 split
 ·exact J4k hi h8 h
 ·exact J5p hi h8 h
theorem Ji0 (hi : InsOk p.rl p.log p.cl 8 i) (h8 : i.op = 8) {s t : KS} (h : leS s t) : leS (noK i s) (noK i t) := by
 unfold noK
 split
 ·exact h
 split
 ·exact J7y hi h8 h
 split
 ·exact J5p hi h8 h
 ·exact J4k hi h8 h
theorem Jdp (hi : InsOk p.rl p.log p.cl 8 i) (h7 : ¬ i.op = 7) (h8 : ¬ i.op = 8) (h9 : ¬ i.op = 9) {s t : KS} (h : leS s t) : leS (nextK p i s) (nextK p i t) := by
 have hr := J0s hi;unfold nextK
 split
 ·exact J29 h (Kn.le_refl _)
 split
 ·exact J29 h (h _ (hr.2.1 (by omega)))
 split
 ·exact J29 h (Kn.index_mono _ (h _ (hr.2.1 (by omega))))
 split
 ·exact J29 h (Kn.le_refl _)
 split
 ·exact J29 h (Kn.less_mono (h _ (hr.1 (by omega))) (Kn.le_refl _))
 split
 ·exact h
 ·exact J29 h (Kn.op_mono _ (h _ (hr.2.1 (by omega))) (h _ (hr.2.2.1 (by omega))))
theorem Jdq {s : KS} (hi : InsOk p.rl p.log p.cl 8 i) (h7 : ¬ i.op = 7) (h8 : ¬ i.op = 8) (h9 : ¬ i.op = 9) (h : NormS s) : NormS (nextK p i s) := by
 have hr := J0s hi;unfold nextK
 split
 ·exact J2a h (Kn.norm_of _)
 split
 ·exact J2a h (h _ (hr.2.1 (by omega)))
 split
 ·exact J2a h (Kn.norm_index _ _)
 split
 ·exact J2a h (by unfold Kn.Norm; dsimp only; omega)
 split
 ·exact J2a h (Kn.norm_less _ _)
 split
 ·exact h
 ·exact J2a h (Kn.norm_op _ _ _)
theorem J4l {s : KS} (h : NormS s) : NormS (J1g i s) := J2a h (Kn.norm_less _ _)
theorem J5q {s : KS} (h : NormS s) : NormS (J11 i s) := J2a h (Kn.norm_less _ _)
theorem J7z {s : KS} (h : NormS s) : NormS (bothK i s) := J2a (J4l h) (Kn.norm_less _ _)
theorem Jgh {s : KS} (h : NormS s) : NormS (yesK i s) := by
 unfold yesK
 split
 ·exact J7z h
 split
 ·exact h
 split
 ·exact J4l h
 ·exact J5q h
theorem Ji1 {s : KS} (h : NormS s) : NormS (noK i s) := by
 unfold noK
 split
 ·exact h
 split
 ·exact J7z h
 split
 ·exact J5q h
 ·exact J4l h
end

abbrev KV := Nat -> Option KS

theorem Jdj {p : Prg} {at_ : Nat} (hi : InsOk p.rl p.log p.cl 8 (p.ins at_)) {s t : KS} (h : leS s t) {x : Nat × KS} (hx : x ∈ J0f p at_ s) : ∃ y, (x.1, y) ∈ J0f p at_ t /\ leS x.2 y := by
 unfold J0f at *;by_cases h7 : (p.ins at_).op = 7
 ·rw [if_pos h7] at *
  simp at hx; subst hx;exact ⟨t, by simp, h⟩
 rw [if_neg h7] at *;by_cases h9 : (p.ins at_).op = 9
 ·rw [if_pos h9] at *; simp at hx
 rw [if_neg h9] at *;by_cases h8 : (p.ins at_).op = 8
 ·rw [if_pos h8] at *
  simp at hx;rcases hx with rfl | rfl
  ·exact ⟨_, List.mem_cons_self, Jgg hi h8 h⟩
  ·exact ⟨noK (p.ins at_) t, by simp, Ji0 hi h8 h⟩
 ·rw [if_neg h8] at *
  simp at hx; subst hx;exact ⟨nextK p (p.ins at_) t, by simp, Jdp hi h7 h8 h9 h⟩

theorem Jdk {p : Prg} {at_ : Nat} (hi : InsOk p.rl p.log p.cl 8 (p.ins at_)) {s : KS} (h : NormS s) {x : Nat × KS} (hx : x ∈ J0f p at_ s) : NormS x.2 := by
 unfold J0f at *;by_cases h7 : (p.ins at_).op = 7
 ·rw [if_pos h7] at *
  simp at hx; subst hx; exact h
 rw [if_neg h7] at *;by_cases h9 : (p.ins at_).op = 9
 ·rw [if_pos h9] at *; simp at hx
 rw [if_neg h9] at *;by_cases h8 : (p.ins at_).op = 8
 ·rw [if_pos h8] at *
  simp at hx;rcases hx with rfl | rfl
  ·exact Jgh h
  ·exact Ji1 h
 ·rw [if_neg h8] at *
  simp at hx; subst hx;exact Jdq hi h7 h8 h9 h

def zeroK : KS := fun _ => ⟨0, false⟩

structure Jc2 (p : Prg) (l : KV) : Prop where
 first : ∃ s, l 0 = some s /\ leS zeroK s
 leads : ∀ at_ s, at_ < p.cl -> l at_ = some s -> ∀ x ∈ J0f p at_ s, x.1 < p.cl -> ∃ u, l x.1 = some u /\ leS x.2 u

def Jjc (p : Prg) (l l' : KV) : Prop := ∀ at_ s, at_ < p.cl -> l at_ = some s -> ∃ u, l' at_ = some u /\ leS s u
def NormV (p : Prg) (l : KV) : Prop := ∀ at_ s, at_ < p.cl -> l at_ = some s -> NormS s

structure Known (p : Prg) (l : KV) : Prop where
 closed : Jc2 p l
 norm : NormV p l
 least : ∀ l', Jc2 p l' -> Jjc p l l'

theorem Known.one {p : Prg} {l l' : KV} (h : Known p l) (k : Known p l') {at_ : Nat} (ha : at_ < p.cl) :
  (l at_ = none /\ l' at_ = none) \/ ∃ s t, l at_ = some s /\ l' at_ = some t /\ ∀ j, j < 8 -> s j = t j := by
 cases e : l at_ with
 | none =>
  cases e' : l' at_ with
  | none => exact .inl ⟨rfl, rfl⟩
  | some t =>
   obtain ⟨u, hu, _⟩ := k.least l h.closed at_ t ha e';rw [e] at hu; cases hu
 | some s =>
  obtain ⟨t, ht, hst⟩ := h.least l' k.closed at_ s ha e;obtain ⟨u, hu, htu⟩ := k.least l h.closed at_ t ha ht;rw [e] at hu; cases hu;exact .inr ⟨s, t, rfl, ht, fun j hj => Kn.le_anti (h.norm at_ s ha e j hj) (k.norm at_ t ha ht j hj) (hst j hj) (htu j hj)⟩
def joinV (o : Option KS) (t : KS) : KS := match o with
 | none => t
 | some s => fun j => Kn.join (s j) (t j)
def putV (l : KV) (n : Nat) (s : KS) : KV := fun x => if x = n then some s else l x
def SameV (s : KS) (o : Option KS) : Prop := ∃ t, o = some t /\ ∀ j, j < 8 -> s j = t j

theorem J18 (l : KV) (n : Nat) (s : KS) : putV l n s n = some s := by simp [putV]
theorem J15 (l : KV) {n x : Nat} (h : x ≠ n) (s : KS) : putV l n s x = l x := by simp [putV, h]

structure OnWay (p : Prg) (l : KV) : Prop where
 first : ∃ s, l 0 = some s /\ leS zeroK s
 norm : NormV p l
 low : ∀ l', Jc2 p l' -> Jjc p l l'

theorem J8l {o : Option KS} {s t : KS} (h : o = some s) : leS s (joinV o t) := by subst h; exact fun j _ => Kn.join_l _ _
theorem Jex {o : Option KS} {t : KS} : leS t (joinV o t) := by
 cases o with
 | none => exact J8m t
 | some s => exact fun j _ => Kn.join_r _ _

theorem OnWay.start {p : Prg} (h : 0 < p.cl) : OnWay p (putV (fun _ => none) 0 zeroK) where
 first := ⟨zeroK, J18 _ _ _, J8m _⟩
 norm := fun at_ s ha e => by
  by_cases h0 : at_ = 0
  ·subst h0; rw [J18] at e; cases e
   exact fun j _ => by unfold zeroK Kn.Norm; dsimp only; omega
  ·rw [J15 _ h0] at e; cases e
 low := fun l' hc at_ s ha e => by
  by_cases h0 : at_ = 0
  ·subst h0; rw [J18] at e; cases e
   exact hc.first
  ·rw [J15 _ h0] at e; cases e

structure Just (p : Prg) (x : Nat × KS) : Prop where
 norm : NormS x.2
 low : ∀ l', Jc2 p l' -> x.1 < p.cl -> ∃ u, l' x.1 = some u /\ leS x.2 u
theorem OnWay.just {p : Prg} (hp : p.Ok 200 8) {l : KV} (h : OnWay p l) {at_ : Nat} {s : KS} (ha : at_ < p.cl) (e : l at_ = some s) {x : Nat × KS} (hx : x ∈ J0f p at_ s) : Just p x := by
 have hi := hp.2.2.2 at_ ha;refine ⟨Jdk hi (h.norm at_ s ha e) hx, fun l' hc hn => ?_⟩;obtain ⟨u, eu, hsu⟩ := h.low l' hc at_ s ha e;obtain ⟨y, hy, hxy⟩ := Jdj hi hsu hx;obtain ⟨v, ev, hyv⟩ := hc.leads at_ u ha eu _ hy hn;exact ⟨v, ev, J6q hxy hyv⟩
theorem OnWay.joinJ {p : Prg} {l : KV} (h : OnWay p l) {x : Nat × KS} (hx : Just p x) (hn : x.1 < p.cl) : OnWay p (putV l x.1 (joinV (l x.1) x.2)) := by
 refine ⟨?_, ?_, ?_⟩
 ·obtain ⟨s0, e0, l0⟩ := h.first
  by_cases h0 : 0 = x.1
  ·refine ⟨joinV (l x.1) x.2, by rw [<- h0]; exact J18 _ _ _, ?_⟩
   rw [<- h0, e0];exact J6q l0 (J8l rfl)
  ·exact ⟨s0, by rw [J15 _ h0]; exact e0, l0⟩
 ·intro a t hat et
  by_cases h0 : a = x.1
  ·subst h0
   rw [J18] at et; cases et;cases eo : l x.1 with
   | none => exact hx.norm
   | some s1 => exact fun j _ => Kn.norm_join _ _
  ·rw [J15 _ h0] at et; exact h.norm a t hat et
 ·intro l' hc a t hat et
  by_cases h0 : a = x.1
  ·subst h0
   rw [J18] at et; cases et;obtain ⟨v, ev, hxv⟩ := hx.low l' hc hn;refine ⟨v, ev, ?_⟩;cases eo : l x.1 with
   | none => exact hxv
   | some s1 =>
    obtain ⟨v', ev', h1⟩ := h.low l' hc x.1 s1 hn eo;rw [ev] at ev'; cases ev';exact fun j hj => Kn.join_le (h1 j hj) (hxv j hj)
  ·rw [J15 _ h0] at et; exact h.low l' hc a t hat et
def Held (p : Prg) (l : KV) (at_ : Nat) : Prop := ∀ s, l at_ = some s -> ∀ x ∈ J0f p at_ s, x.1 < p.cl -> ∃ u, l x.1 = some u /\ leS x.2 u

theorem J3v {o : Option KS} {t : KS} (h : SameV (joinV o t) o) : ∃ u, o = some u /\ leS t u := by
 obtain ⟨u, e, hj⟩ := h;refine ⟨u, e, fun j hj' => ?_⟩;rw [<- hj j hj'];exact Jex j hj'

theorem OnWay.known {p : Prg} {l : KV} (h : OnWay p l) (hh : ∀ at_ s, at_ < p.cl -> l at_ = some s -> ∀ x ∈ J0f p at_ s, x.1 < p.cl -> ∃ u, l x.1 = some u /\ leS x.2 u) : Known p l :=
 ⟨⟨h.first, hh⟩, h.norm, h.low⟩

def rankK (k : Kn) : Nat := k.b.toNat + if k.s then 1 else 0
def rankS (s : KS) : Nat -> Nat
 | 0 => 1
 | n + 1 => rankS s n + rankK (s n)
def rankO (o : Option KS) : Nat := match o with
 | none => 0
 | some s => rankS s 8
def rankV (l : KV) : Nat -> Nat
 | 0 => 0
 | n + 1 => rankV l n + rankO (l n)

theorem Jih {k : Kn} (h : k.Norm) : rankK k <= 18 := by unfold rankK; have := h.2; split <;> omega
theorem Jcu {s : KS} : ∀ n, (∀ j, j < n -> (s j).Norm) -> rankS s n <= 1 + 18 * n
 | 0, _ => by simp [rankS]
 | n + 1, h => by
  have h1 := Jcu n (fun j hj => h j (by omega));have h2 := Jih (h n (by omega));rw [rankS]; omega
theorem Jii {o : Option KS} (h : ∀ s, o = some s -> NormS s) : rankO o <= 145 := by
 cases o with
 | none => simp [rankO]
 | some s => exact Jcu 8 (h s rfl)
theorem J63 {p : Prg} {l : KV} (h : NormV p l) : ∀ n, n <= p.cl -> rankV l n <= 145 * n
 | 0, _ => by simp [rankV]
 | n + 1, hn => by
  have h1 := J63 h n (by omega);have h2 := Jii (o := l n) (fun s e => h n s (by omega) e);rw [rankV]; omega

theorem Jdu {x y : Kn} (hx : x.Norm) (hy : y.Norm) (h : Kn.le x y) : rankK x <= rankK y /\ (rankK y <= rankK x -> x = y) := by
 have e1 := Kn.bnd_norm hx; have e2 := Kn.bnd_norm hy;have hb : x.b <= y.b := by have := h.1; omega
 have hs := h.2;unfold rankK;cases hxs : x.s <;> cases hys : y.s
 ·refine ⟨by simp; omega, fun q => Kn.le_anti hx hy h ⟨?_, by simp [hys]⟩⟩
  simp at q; have := hx.1; have := hy.1; omega
 ·refine ⟨by simp; omega, fun q => ?_⟩
  simp at q; have := hx.1; have := hy.1; omega
 ·simp [hxs, hys] at hs
 ·refine ⟨by simp; omega, fun q => Kn.le_anti hx hy h ⟨?_, by simp [hxs]⟩⟩
  simp at q; have := hx.1; have := hy.1; omega
theorem J87 {s t : KS} : ∀ n, n <= 8 -> NormS s -> NormS t -> leS s t -> rankS s n <= rankS t n /\ (rankS t n <= rankS s n -> ∀ j, j < n -> s j = t j)
 | 0, _, _, _, _ => ⟨Nat.le_refl _, fun _ j hj => by omega⟩
 | n + 1, hn, hs, ht, h => by
  have h1 := J87 n (by omega) hs ht h;have h2 := Jdu (hs n (by omega)) (ht n (by omega)) (h n (by omega));rw [rankS, rankS];refine ⟨by omega, fun q j hj => ?_⟩;by_cases e : j = n
  ·subst e; exact h2.2 (by omega)
  ·exact h1.2 (by omega) j (by omega)
theorem J6z (s : KS) : ∀ n, 1 <= rankS s n
 | 0 => Nat.le_refl _
 | n + 1 => by have := J6z s n; rw [rankS]; omega

theorem Jij {o : Option KS} {t : KS} (hn : ∀ s, o = some s -> NormS s) (ht : NormS t) (h : ¬ SameV (joinV o t) o) : rankO o < rankS (joinV o t) 8 := by
 cases o with
 | none => exact J6z _ 8
 | some s =>
  have hs := hn s rfl;have hj : NormS (joinV (some s) t) := fun j _ => Kn.norm_join _ _
  have hm := J87 8 (Nat.le_refl _) hs hj (J8l rfl);rcases Nat.lt_or_ge (rankS s 8) (rankS (joinV (some s) t) 8) with q | q
  ·exact q
  ·exact absurd ⟨s, rfl, fun j hj' => (hm.2 q j hj').symm⟩ h

theorem J62 (l : KV) : ∀ m n, n < m -> rankO (l n) <= rankV l m
 | 0, _, h => absurd h (Nat.not_lt_zero _)
 | m + 1, n, h => by
  rw [rankV];by_cases e : n = m
  ·subst e; omega
  ·have := J62 l m n (by omega); omega
theorem J70 (l : KV) (n : Nat) (s : KS) : ∀ m, rankV (putV l n s) m = if n < m then rankV l m + rankS s 8 - rankO (l n) else rankV l m
 | 0 => by simp [rankV]
 | m + 1 => by
  rw [rankV, J70 l n s m, rankV];by_cases e : m = n
  ·subst e
   rw [if_neg (by omega), if_pos (by omega), J18];show rankV l m + rankS s 8 = _;omega
  ·rw [J15 _ e]
   by_cases h : n < m
   ·rw [if_pos h, if_pos (by omega)]
    have : rankO (l n) <= rankV l m := J62 l m n h;omega
   ·rw [if_neg h, if_neg (by omega)]

theorem Jbh {p : Prg} {l : KV} (hl : NormV p l) {n : Nat} (hn : n < p.cl) {t : KS} (ht : NormS t) (h : ¬ SameV (joinV (l n) t) (l n)) : rankV l p.cl < rankV (putV l n (joinV (l n) t)) p.cl := by
 rw [J70, if_pos hn];have h1 := Jij (o := l n) (fun s e => hl n s hn e) ht h;have h2 := J62 l p.cl n hn;omega

def J0g (p : Prg) (i : Ins) (s : KS) : Bool :=
 if i.op = 3 then (s i.b.toNat).s
 else if i.op = 4 then (s i.b.toNat).s || ((s i.a.toNat).s && !p.sec i.c.toNat)
 else if i.op = 6 then (s i.a.toNat).s && !p.sec i.c.toNat
 else if i.op = 8 then (s i.a.toNat).s || (s i.b.toNat).s
 else if i.op = 29 \/ i.op = 30 then (s i.b.toNat).s || (s i.c.toNat).s
 else if i.op = 9 then (s i.a.toNat).s
 else false
def J1c (p : Prg) (i : Ins) (s : KS) : Bool := (decide (i.op = 3) || decide (i.op = 4)) && (decide (i.n < 0) || decide (p.log i.c.toNat < (Kn.index (s i.b.toNat) i.n).b))
def outK (p : Prg) (at_ : Nat) : Bool := !(decide ((p.ins at_).op = 7)) && (!(decide ((p.ins at_).op = 9)) && decide (p.cl <= at_ + 1))
def J0p (p : Prg) (at_ : Nat) (s : KS) : Int := if outK p at_ || J1c p (p.ins at_) s then 4 else if J0g p (p.ins at_) s then 5 else 0
def scanK (p : Prg) (l : KV) : Nat -> Nat -> Int × Int
 | 0, _ => (0, 0)
 | n + 1, at_ => match l at_ with
  | none => scanK p l n (at_ + 1)
  | some s => if J0p p at_ s = 0 then scanK p l n (at_ + 1) else (J0p p at_ s, at_)
def J09 (p : Prg) (l : KV) : Int × Int := scanK p l p.cl 0

theorem Jao {p : Prg} (hp : p.Ok 200 8) {at_ : Nat} (ha : at_ < p.cl) {s t : KS} (h : ∀ j, j < 8 -> s j = t j) : J0p p at_ s = J0p p at_ t := by
 have hi := hp.2.2.2 at_ ha;have hr := J0s hi;unfold J0p J1c J0g;generalize p.ins at_ = i at *;by_cases h3 : i.op = 3
 ·rw [h _ (hr.2.1 (by omega))]; simp [h3]
 by_cases h4 : i.op = 4
 ·rw [h _ (hr.2.1 (by omega)), h _ (hr.1 (by omega))]; simp [h4]
 by_cases h6 : i.op = 6
 ·rw [h _ (hr.1 (by omega))]; simp [h6]
 by_cases h8 : i.op = 8
 ·rw [h _ (hr.1 (by omega)), h _ (hr.2.1 (by omega))]; simp [h8]
 by_cases h29 : i.op = 29 \/ i.op = 30
 ·rw [h _ (hr.2.1 (by omega)), h _ (hr.2.2.1 (by omega))]; simp [h3, h4, h6, h8, h29]
 by_cases h9 : i.op = 9
 ·rw [h _ (hr.1 (by omega))]; simp [h9]
 ·simp [h3, h4, h6, h8, h29, h9]

theorem J5d {p : Prg} (hp : p.Ok 200 8) {l l' : KV} (h : ∀ at_, at_ < p.cl -> (l at_ = none /\ l' at_ = none) \/ ∃ s t, l at_ = some s /\ l' at_ = some t /\ ∀ j, j < 8 -> s j = t j) :
  ∀ n at_, at_ + n = p.cl -> scanK p l n at_ = scanK p l' n at_
 | 0, at_, _ => rfl
 | n + 1, at_, e => by
  rcases h at_ (by omega) with ⟨h1, h2⟩ | ⟨s, t, h1, h2, hst⟩
  ·simp only [scanK, h1, h2]
   exact J5d hp h n (at_ + 1) (by omega)
  ·simp only [scanK, h1, h2]
   rw [Jao hp (by omega) hst, J5d hp h n (at_ + 1) (by omega)]

theorem Jea {p : Prg} (hp : p.Ok 200 8) {l l' : KV} (h : Known p l) (k : Known p l') : J09 p l = J09 p l' :=
 J5d hp (fun _ ha => h.one k ha) p.cl 0 (by omega)

theorem Jbk {p : Prg} {l : KV} : ∀ n at_, (scanK p l n at_).1 = 0 -> ∀ a, at_ <= a -> a < at_ + n -> ∀ s, l a = some s -> J0p p a s = 0
 | 0, at_, _, a, h1, h2 => by omega
 | n + 1, at_, h, a, h1, h2 => fun s e => by
  rw [scanK] at h;cases e0 : l at_ with
  | none =>
   rw [e0] at h;by_cases q : a = at_
   ·subst q; rw [e0] at e; cases e
   ·exact Jbk n (at_ + 1) h a (by omega) (by omega) s e
  | some t =>
   rw [e0] at h;dsimp only at h;by_cases q0 : J0p p at_ t = 0
   ·rw [if_pos q0] at h
    by_cases q : a = at_
    ·subst q; rw [e0] at e; cases e; exact q0
    ·exact Jbk n (at_ + 1) h a (by omega) (by omega) s e
   ·rw [if_neg q0] at h
    exact absurd h q0
theorem Jca {p : Prg} {l : KV} (h : (J09 p l).1 = 0) {a : Nat} (ha : a < p.cl) {s : KS} (e : l a = some s) : J0p p a s = 0 :=
 Jbk p.cl 0 h a (Nat.zero_le _) (by omega) s e
theorem J6k (k : Int) : hasI k 0 = true := by
 unfold hasI;rw [decide_eq_true_eq];exact .inr ⟨Int.le_refl _, by rw [<- J2r]; have := Nat.two_pow_pos (bnd k).toNat; omega⟩
theorem Jck (n : Int) : hasI 17 n = true := J8i (J20 (by omega) (by omega))

def Kn.has (k : Kn) (n : Int) : Prop := hasI k.b n = true
theorem Kn.has_mono {x y : Kn} (h : Kn.le x y) {n : Int} (hn : B64 n) (k : x.has n) : y.has n := J9m hn.1 hn.2 k h.1
theorem Kn.has_less {x y : Kn} {n m : Int} (hn : B64 n) (hm : B64 m) (hx : x.has n) (hy : y.has m) (h : toU n <= toU m) : (Kn.less x y).has n := Jen hn.1 hn.2 hm.1 hm.2 hx hy h
theorem Kn.has_op (o : Int) {x y : Kn} {n m : Int} (hn : B64 n) (hm : B64 m) (hx : x.has n) (hy : y.has m) : (Kn.op o x y).has (opI o n m) := Jhn o hn.1 hn.2 hm.1 hm.2 hx hy
theorem Kn.has_of {n : Int} (hn : B64 n) : (Kn.of n).has n := Jh9 hn.1 hn.2
theorem Kn.has_index {x : Kn} {n m : Int} (hn : B64 n) (hm : B64 m) (hx : x.has n) : (Kn.index x m).has (wrap64 (n + m)) := by
 unfold Kn.index
 split
 ·exact Jck _
 ·have := Kn.has_op 1 hn hm hx (Kn.has_of hm)
  rw [opI_1] at this; exact this

def HasS (k : KS) (r : Nat -> Int) : Prop := ∀ j, j < 8 -> (k j).has (r j)
theorem HasS.mono {k t : KS} (h : leS k t) {r : Nat -> Int} (hr : ∀ j, j < 8 -> B64 (r j)) (q : HasS k r) : HasS t r := fun j hj => Kn.has_mono (h j hj) (hr j hj) (q j hj)
theorem HasS.set {k : KS} {r : Nat -> Int} (h : HasS k r) (a : Int) {v : Kn} {n : Int} (q : v.has n) : HasS (setK k a v) (setR r a n) := fun j hj => by
 unfold setK setR;by_cases e : j = a.toNat
 ·rw [if_pos e, if_pos e]; exact q
 ·rw [if_neg e, if_neg e]; exact h j hj
theorem HasS.know {k : KS} {r : Nat -> Int} (h : HasS k r) (a : Int) {v : Kn} (q : v.has (r a.toNat)) : HasS (setK k a v) r := fun j hj => by
 unfold setK;by_cases e : j = a.toNat
 ·rw [if_pos e, e]; exact q
 ·rw [if_neg e]; exact h j hj

theorem Jl9 (o a b : Int) : B64 (opI o a b) := by
 unfold opI
 repeat' split
 all_goals first | exact J5x _ | exact J1i

section
variable {p : Prg} {i : Ins} {k : KS} {r : Nat -> Int}

theorem J6l (hi : InsOk p.rl p.log p.cl 8 i) (h8 : i.op = 8) (hr : ∀ j, j < 8 -> B64 (r j)) (h : HasS k r) (q : toU (r i.a.toNat) <= toU (r i.b.toNat)) : HasS (J1g i k) r := by
 have hg := J0s hi;have ha := hg.1 (by omega); have hb := hg.2.1 (by omega);exact h.know i.a (Kn.has_less (hr _ ha) (hr _ hb) (h _ ha) (h _ hb) q)
theorem J82 (hi : InsOk p.rl p.log p.cl 8 i) (h8 : i.op = 8) (hr : ∀ j, j < 8 -> B64 (r j)) (h : HasS k r) (q : toU (r i.b.toNat) <= toU (r i.a.toNat)) : HasS (J11 i k) r := by
 have hg := J0s hi;have ha := hg.1 (by omega); have hb := hg.2.1 (by omega);exact h.know i.b (Kn.has_less (hr _ hb) (hr _ ha) (h _ hb) (h _ ha) q)
theorem Jcl (hi : InsOk p.rl p.log p.cl 8 i) (h8 : i.op = 8) (hr : ∀ j, j < 8 -> B64 (r j)) (h : HasS k r) (q : toU (r i.a.toNat) = toU (r i.b.toNat)) : HasS (bothK i k) r := by
 have hg := J0s hi;have ha := hg.1 (by omega); have hb := hg.2.1 (by omega);exact (J6l hi h8 hr h (Nat.le_of_eq q)).know i.b (Kn.has_less (hr _ hb) (hr _ ha) (h _ hb) (h _ ha) (Nat.le_of_eq q.symm))

theorem Jeb (hi : InsOk p.rl p.log p.cl 8 i) (h8 : i.op = 8) : i.c = 1 \/ i.c = 2 \/ i.c = 3 \/ i.c = 4 := by
 unfold InsOk at hi;simp [h8] at hi;omega

theorem Jep (hi : InsOk p.rl p.log p.cl 8 i) (h8 : i.op = 8) (hr : ∀ j, j < 8 -> B64 (r j)) (h : HasS k r) (q : J0u i.c (r i.a.toNat) (r i.b.toNat) = true) : HasS (yesK i k) r := by
 unfold yesK;rcases Jeb hi h8 with hc | hc | hc | hc <;> rw [hc] at q |- <;> simp [J0u] at q |-
 ·exact Jcl hi h8 hr h q
 ·exact h
 ·exact J6l hi h8 hr h (Nat.le_of_lt q)
 ·exact J82 hi h8 hr h q
theorem Jji (hi : InsOk p.rl p.log p.cl 8 i) (h8 : i.op = 8) (hr : ∀ j, j < 8 -> B64 (r j)) (h : HasS k r) (q : ¬ J0u i.c (r i.a.toNat) (r i.b.toNat) = true) : HasS (noK i k) r := by
 unfold noK;rcases Jeb hi h8 with hc | hc | hc | hc <;> rw [hc] at q |- <;> simp [J0u] at q |-
 ·exact h
 ·exact Jcl hi h8 hr h q
 ·exact J82 hi h8 hr h q
 ·exact J6l hi h8 hr h (Nat.le_of_lt q)

theorem Jhv {x n : Int} (h1 : 1 <= n) (h2 : n <= 64) : wrap64 (n - 1) = n - 1 /\ B64 (n - 1) := by
 refine ⟨?_, ?_⟩
 ·unfold wrap64; omega
 ·unfold B64; omega
theorem Jha {x : Kn} {n m : Int} (hn : B64 n) (hx : x.has n) (h1 : 1 <= m) (h2 : m <= 64) (q : ¬ (n < 0 \/ m <= n)) : (Kn.less x (Kn.of (wrap64 (m - 1)))).has n := by
 obtain ⟨e, hb⟩ := Jhv (x := n) h1 h2;rw [e];refine Kn.has_less hn hb hx (Kn.has_of hb) ?_;unfold toU; omega

theorem Jhb (hi : InsOk p.rl p.log p.cl 8 i) (hn : B64 i.n) (h3 : ¬ i.op = 3) (h4 : ¬ i.op = 4) (h5 : ¬ i.op = 5) (h6 : ¬ i.op = 6) (h7 : ¬ i.op = 7) (h8 : ¬ i.op = 8) (h9 : ¬ i.op = 9)
  (hr : ∀ j, j < 8 -> B64 (r j)) (h : HasS k r) : HasS (nextK p i k) (regsI r i).1 := by
 have hg := J0s hi;unfold nextK regsI;by_cases q1 : i.op = 1
 ·rw [if_pos q1, if_pos q1]; exact h.set _ (Kn.has_of hn)
 rw [if_neg q1, if_neg q1];by_cases q2 : i.op = 2
 ·rw [if_pos q2, if_pos q2]; exact h.set _ (h _ (hg.2.1 (by omega)))
 rw [if_neg q2, if_neg q2];by_cases q10 : i.op = 10
 ·rw [if_pos q10, if_pos q10]
  have hb := hg.2.1 (by omega);exact h.set _ (Kn.has_index (hr _ hb) hn (h _ hb))
 rw [if_neg q10, if_neg q10, if_neg (by omega)];by_cases q11 : i.op = 11
 ·rw [if_pos q11, if_pos q11]
  have ha := hg.1 (by omega);have hb : 1 <= i.n /\ i.n <= 64 := by unfold InsOk at hi; simp [q11] at hi; omega
  by_cases q : r i.a.toNat < 0 \/ i.n <= r i.a.toNat
  ·rw [if_pos q]; exact h.set _ (J6k _)
  ·rw [if_neg q]; exact h.know _ (Jha (hr _ ha) (h _ ha) hb.1 hb.2 q)
 rw [if_neg q11, if_neg q11];by_cases q12 : i.op = 12
 ·rw [if_pos (.inr (.inr q12)), if_pos q12]; exact h
 rw [if_neg (by omega), if_neg q12];have hb := hg.2.1 (by omega); have hc := hg.2.2.1 (by omega);exact h.set _ (Kn.has_op _ (hr _ hb) (hr _ hc) (h _ hb) (h _ hc))
end

theorem J3j {r : Nat -> Int} (h : ∀ j, j < 10 -> B64 (r j)) (a : Int) {v : Int} (hv : B64 v) : ∀ j, j < 10 -> B64 (setR r a v j) := fun j hj => by
 unfold setR; split
 ·exact hv
 ·exact h j hj
theorem Jfm {p : Prg} {r : Nat -> Int} {i : Ins} (hi : InsOk p.rl p.log p.cl 8 i) (h : ∀ j, j < 10 -> B64 (r j)) (hn : B64 i.n) : ∀ j, j < 10 -> B64 ((regsI r i).1 j) := by
 have hg := J0s hi;unfold regsI;by_cases q1 : i.op = 1
 ·rw [if_pos q1]; exact J3j h _ hn
 rw [if_neg q1];by_cases q2 : i.op = 2
 ·rw [if_pos q2]; exact J3j h _ (h _ (by have := hg.2.1 (by omega); omega))
 rw [if_neg q2];by_cases q10 : i.op = 10
 ·rw [if_pos q10]; exact J3j h _ (J5x _)
 rw [if_neg q10];by_cases q11 : i.op = 11
 ·rw [if_pos q11]
  dsimp only
  split
  ·exact J3j h _ J1i
  ·exact h
 rw [if_neg q11];by_cases q12 : i.op = 12
 ·rw [if_pos q12]; exact h
 ·rw [if_neg q12]; exact J3j h _ (Jl9 _ _ _)

structure Sound (p : Prg) (m : Mem) (l : KV) (s : St) : Prop where
 at_ : s.at_ < p.cl
 kn : ∃ k, l s.at_ = some k /\ HasS k s.r
 r : ∀ j, j < 10 -> B64 (s.r j)
 ml : s.m.ml = m.ml
 len : ∀ j, s.m.len j = m.len j
 wd : ∀ j, j < m.ml -> ∀ i, i < m.len j -> B64 (s.m.wd j i)

structure Good (p : Prg) (m : Mem) (l : KV) : Prop where
 ok : p.Ok 200 8
 n : ∀ i, i < p.cl -> B64 (p.ins i).n
 fits : J0t p.rl p.log m.ml m.len
 known : Known p l
 check : (J09 p l).1 = 0

section
variable {p : Prg} {m : Mem} {l : KV} {s : St}

theorem Good.fault (g : Good p m l) {k : KS} (ha : s.at_ < p.cl) (e : l s.at_ = some k) : outK p s.at_ = false /\ J1c p (p.ins s.at_) k = false /\ J0g p (p.ins s.at_) k = false := by
 have h := Jca g.check ha e;unfold J0p at h;cases h1 : (outK p s.at_ || J1c p (p.ins s.at_) k)
 ·cases h2 : J0g p (p.ins s.at_) k
  ·have := Bool.or_eq_false_iff.1 h1; exact ⟨this.1, this.2, rfl⟩
  ·rw [h1, h2] at h; simp at h
 ·rw [h1] at h; simp at h
theorem Good.next (g : Good p m l) {k : KS} (ha : s.at_ < p.cl) (e : l s.at_ = some k) (h7 : ¬ (p.ins s.at_).op = 7) (h9 : ¬ (p.ins s.at_).op = 9) : s.at_ + 1 < p.cl := by
 have h := (g.fault ha e).1;unfold outK at h;simp [h7, h9] at h;omega

theorem Good.word (g : Good p m l) (h : Sound p m l s) {k : KS} (e : l s.at_ = some k) (hk : HasS k s.r) (hop : (p.ins s.at_).op = 3 \/ (p.ins s.at_).op = 4 \/ (p.ins s.at_).op = 5 \/ (p.ins s.at_).op = 6) :
  ¬ (idxI s.r (p.ins s.at_) < 0 \/ (s.m.len (p.ins s.at_).c.toNat : Int) <= idxI s.r (p.ins s.at_)) /\ (p.ins s.at_).c.toNat < p.rl /\ (p.ins s.at_).c.toNat < m.ml := by
 have hi := g.ok.2.2.2 s.at_ h.at_;have hn := g.n s.at_ h.at_;have hf := g.fault h.at_ e;have hg := J0s hi;rw [h.len];generalize p.ins s.at_ = i at *
 have hc : Rgn p.rl i.c := by
  unfold InsOk at hi;rcases hop with q | q | q | q <;> simp [q] at hi
  ·exact hi.2.2
  ·exact hi.2.2
  ·exact hi.2.2.1
  ·exact hi.2.2.1
 have hcr : i.c.toNat < p.rl := by unfold Rgn at hc; omega
 have hlen := g.fits.2.2 i.c.toNat hcr;have hlog := g.fits.1.2 i.c.toNat hcr;refine ⟨?_, hcr, by rw [g.fits.2.1]; exact hcr⟩;rw [hlen];unfold J0c;by_cases q : i.op = 5 \/ i.op = 6
 ·have hw : Wrd p.log i.c i.n := by
   unfold InsOk at hi;rcases q with q | q <;> simp [q] at hi
   ·exact hi.2.2.2
   ·exact hi.2.2.2
  unfold Wrd at hw;unfold idxI;rw [if_pos q];omega
 ·have h34 : i.op = 3 \/ i.op = 4 := by omega
  have hb := hg.2.1 (by omega);have hbd := hf.2.1;unfold J1c at hbd
  have hn0 : 0 <= i.n /\ (Kn.index (k i.b.toNat) i.n).b <= p.log i.c.toNat := by
   rcases h34 with q3 | q3 <;> simp [q3] at hbd <;> omega
  unfold idxI;rw [if_neg q];have hx := Kn.has_index (h.r i.b.toNat (by omega)) hn (hk _ hb);have hnm := Kn.norm_index (k i.b.toNat) i.n;unfold Kn.has at hx;have hs := J4x (by rw [Kn.bnd_norm hnm]; omega) hx;rw [Kn.bnd_norm hnm] at hs;have hp : 2 ^ (Kn.index (k i.b.toNat) i.n).b.toNat <= 2 ^ (p.log i.c.toNat).toNat := Nat.pow_le_pow_right (by decide) (by omega);have h1 := J2r (Kn.index (k i.b.toNat) i.n).b.toNat;have h2 := J2r (p.log i.c.toNat).toNat;omega

theorem Good.step (g : Good p m l) (h : Sound p m l s) : (∃ s' v, stepI p s = (s', some (1, v)) /\ (p.ins s.at_).op = 9 /\ s' = ⟨s.at_ + 1, s.r, s.m, s.seen ++ [⟨1, s.at_, 0⟩]⟩ /\ v = s.r (p.ins s.at_).a.toNat) \/ ∃ s', stepI p s = (s', none) /\ Sound p m l s' := by
 obtain ⟨k, e, hk⟩ := h.kn;have hi := g.ok.2.2.2 s.at_ h.at_;have hn := g.n s.at_ h.at_;have hl := g.known.closed.leads s.at_ k h.at_ e;have hr8 : ∀ j, j < 8 -> B64 (s.r j) := fun j hj => h.r j (by omega)
 by_cases h7 : (p.ins s.at_).op = 7
 ·refine .inr ⟨_, by unfold stepI; rw [if_pos h7], ?_⟩
  have hp : Plc p.cl (p.ins s.at_).n := by unfold InsOk at hi; simp [h7] at hi; exact hi.2.2.2
  unfold Plc at hp;obtain ⟨u, eu, hu⟩ := hl ((p.ins s.at_).n.toNat, k) (by unfold J0f; rw [if_pos h7]; simp) (by dsimp only; omega);exact ⟨by dsimp only; omega, ⟨u, eu, hk.mono hu hr8⟩, h.r, h.ml, h.len, h.wd⟩
 by_cases h8 : (p.ins s.at_).op = 8
 ·refine .inr ⟨_, by unfold stepI; rw [if_neg h7, if_pos h8], ?_⟩
  have hp : Plc p.cl (p.ins s.at_).n := by unfold InsOk at hi; simp [h8] at hi; exact hi.2.2.2
  unfold Plc at hp;have hx := g.next h.at_ e h7 (by omega);by_cases q : J0u (p.ins s.at_).c (s.r (p.ins s.at_).a.toNat) (s.r (p.ins s.at_).b.toNat) = true
  ·obtain ⟨u, eu, hu⟩ := hl ((p.ins s.at_).n.toNat, yesK (p.ins s.at_) k) (by unfold J0f; rw [if_neg h7, if_neg (by omega), if_pos h8]; simp) (by dsimp only; omega)
   rw [if_pos q];exact ⟨by dsimp only; omega, ⟨u, eu, (Jep hi h8 hr8 hk q).mono hu hr8⟩, h.r, h.ml, h.len, h.wd⟩
  ·obtain ⟨u, eu, hu⟩ := hl (s.at_ + 1, noK (p.ins s.at_) k) (by unfold J0f; rw [if_neg h7, if_neg (by omega), if_pos h8]; simp) hx
   rw [if_neg q];exact ⟨hx, ⟨u, eu, (Jji hi h8 hr8 hk q).mono hu hr8⟩, h.r, h.ml, h.len, h.wd⟩
 by_cases h9 : (p.ins s.at_).op = 9
 ·exact .inl ⟨_, _, by unfold stepI; rw [if_neg h7, if_neg h8, if_pos h9], h9, rfl, rfl⟩
 have hx := g.next h.at_ e h7 h9;obtain ⟨u, eu, hu⟩ := hl (s.at_ + 1, nextK p (p.ins s.at_) k) (by unfold J0f; rw [if_neg h7, if_neg h9, if_neg h8]; simp) hx;by_cases hop : (p.ins s.at_).op = 3 \/ (p.ins s.at_).op = 4 \/ (p.ins s.at_).op = 5 \/ (p.ins s.at_).op = 6
 ·obtain ⟨hw, hc1, hc2⟩ := g.word h e hk hop
  have hw' := hw;rw [h.len] at hw';by_cases hld : (p.ins s.at_).op = 3 \/ (p.ins s.at_).op = 5
  ·refine .inr ⟨_, J54 rfl hld hw, ?_⟩
   have hv : B64 (s.m.wd (p.ins s.at_).c.toNat (idxI s.r (p.ins s.at_)).toNat) := h.wd _ hc2 _ (by omega);refine ⟨hx, ⟨u, eu, HasS.mono hu (fun j hj => J3j h.r _ hv j (by omega)) ?_⟩, J3j h.r _ hv, h.ml, h.len, h.wd⟩;have e2 : nextK p (p.ins s.at_) k = setK k (p.ins s.at_).a ⟨17, p.sec (p.ins s.at_).c.toNat⟩ := by unfold nextK; rw [if_neg (by omega), if_neg (by omega), if_neg (by omega), if_pos hld]
   rw [e2];exact hk.set _ (Jck _)
  ·refine .inr ⟨_, J90 rfl (by omega) hw, ?_⟩
   have e2 : nextK p (p.ins s.at_) k = k := by unfold nextK; rw [if_neg (by omega), if_neg (by omega), if_neg (by omega), if_neg hld, if_neg (by omega), if_pos (by omega)]
   rw [e2] at hu;refine ⟨hx, ⟨u, eu, hk.mono hu hr8⟩, h.r, h.ml, h.len, fun j hj y hy => ?_⟩;have ha := (J0s hi).1 (by omega);unfold setW;dsimp only
   split
   ·exact h.r _ (by omega)
   ·exact h.wd j hj y hy
 ·refine .inr ⟨_, J3b rfl (by omega) (by omega) (by omega) (by omega) h7 h8 h9, ?_⟩
  have hb := Jfm hi h.r hn;exact ⟨hx, ⟨u, eu, HasS.mono hu (fun j hj => hb j (by omega)) (Jhb hi hn (by omega) (by omega) (by omega) (by omega) h7 h8 h9 hr8 hk)⟩, hb, h.ml, h.len, h.wd⟩

theorem Good.begin_ (g : Good p m l) (hw : ∀ j, j < m.ml -> ∀ i, i < m.len j -> B64 (m.wd j i)) : Sound p m l ⟨0, fun _ => 0, m, []⟩ := by
 obtain ⟨s, e, hs⟩ := g.known.closed.first
 exact ⟨g.ok.2.1, ⟨s, e, fun j hj => J6k _⟩, fun _ _ => J1i, rfl, fun _ => rfl, hw⟩

end
end
end Go.Proofs.YtapagihngaiebaaGreat
