/-
  The texts Mem, Open, Shown, Plain, Sem, Fuel, Script, SOpen, KnPlain, CkPlain, CkRound, CvPlain, KnLen, Ord, KnDev, CkMem, one behind the other, with what is used of them.
-/
import Derived.WalkKit
import Derived.Deep.WholeRow
import Derived.Test.YtmpafeoileonjaaRows
import Derived.ProofKit
import Derived.OpenShut
import Derived.Deep.Slices
import Derived.Deep.SlicePairs
import Derived.Deep.Matrix
import Derived.Lib.SmallJoins
import Derived.RowKit
import Derived.Laws.BitsAllLaws
import Derived.Deep.LoopGhost
import Derived.Laws.MathBits
import Derived.Test.YtmpafeoileonjaaProg
import Derived.Lib.Strings
import Derived.Lib.Slices
import Derived.Lib.Small
import Derived.Lib.Walk
import Derived.Lib.BitFns
import Derived.Deep.RegionHeld3
import Derived.Deep.AppendLies
import Derived.OwnWalk
import Derived.Laws.OwnMore
namespace Go.Proofs.Ytmpafeoileonjaa
section
open Go.RowKit
def More (w w' : World) : Prop := Below w.heap.size w w'

theorem More.refl (w : World) : More w w := Below.refl _ _
theorem More.size {w w' : World} (h : More w w') : w.heap.size ≤ w'.heap.size := Below.size h
theorem More.block {w w' : World} (h : More w w') (i : Nat) (hi : i < w.heap.size) : w'.heap[i]? = w.heap[i]? := Below.block h i hi
theorem More.trans {a b c : World} (h : More a b) (k : More b c) : More a c := Below.trans h (Below.mono k h.size)
theorem More.alloc {w w' : World} (h : More w w') (c : Array Value) (t : TypeId) : More w (w'.alloc (.cells c t)) := Below.alloc h h.size _
theorem More.setCell {w w' : World} (h : More w w') {a : Addr} (ha : w.heap.size ≤ a.block) (v : Value) : More w (w'.setCell a v) := Below.setCell h ha v
theorem More.drew {w w' : World} (h : More w w') : More w w'.drew := Below.drew h
theorem More.grownBy {w w1 w2 : World} {row : Option Nat} (h : More w w1) (hg : w1.grownBy w2 row) (hr : ∀ k, row = some k → w.heap.size ≤ k) : More w w2 := Below.grown h hg h.size hr
theorem J05 {w : World} {a : Addr} {v : Value} (h : w.cell? a = some v) : a.block < w.heap.size := by
 rcases Nat.lt_or_ge a.block w.heap.size with h' | h'
 ·exact h'
 ·have e : w.heap[a.block]? = none := by simp [h']
  unfold World.cell? at h
  simp [e] at h
theorem More.cell {w w' : World} (h : More w w') {a : Addr} {v : Value} (hc : w.cell? a = some v) : w'.cell? a = some v := by
 rw [Below.cell h (J05 hc)]; exact hc

def Says (P : Prop) (w : World) (e : Ending) (w' : World) : Prop := ∃ r : Bool, e = .returned (.bool r) ∧ (r = true ↔ P) ∧ More w w'

theorem Says.yes {P : Prop} {w w' : World} (h : P) (m : More w w') : Says P w (.returned (.bool true)) w' := ⟨true, rfl, by simp [h], m⟩
theorem Says.no {P : Prop} {w w' : World} (h : ¬ P) (m : More w w') : Says P w (.returned (.bool false)) w' := ⟨false, rfl, by simp [h], m⟩

structure Ins where
 op : Int
 a : Int
 b : Int
 c : Int
 n : Int

structure Prg where
 rl : Nat
 log : Nat → Int
 sec : Nat → Bool
 cl : Nat
 ins : Nat → Ins

def J0g (rl : Nat) (log : Nat → Int) : Prop := rl ≤ 6 ∧ ∀ i, i < rl → 0 ≤ log i ∧ log i ≤ 6

def Reg (regs x : Int) : Prop := 0 ≤ x ∧ x < regs
def Rgn (rl : Nat) (x : Int) : Prop := 0 ≤ x ∧ x < rl
def Plc (cl : Nat) (x : Int) : Prop := 0 ≤ x ∧ x < cl
def Wrd (log : Nat → Int) (c n : Int) : Prop := 0 ≤ n ∧ n < 2 ^ (log c.toNat).toNat

def InsOk (rl : Nat) (log : Nat → Int) (cl : Nat) (regs : Int) (i : Ins) : Prop :=
 if i.op = 1 then Reg regs i.a ∧ i.b = 0 ∧ i.c = 0
 else if i.op = 2 then Reg regs i.a ∧ Reg regs i.b ∧ i.c = 0 ∧ i.n = 0
 else if i.op = 3 then Reg regs i.a ∧ Reg regs i.b ∧ Rgn rl i.c
 else if i.op = 4 then Reg regs i.a ∧ Reg regs i.b ∧ Rgn rl i.c
 else if i.op = 5 then Reg regs i.a ∧ i.b = 0 ∧ Rgn rl i.c ∧ Wrd log i.c i.n
 else if i.op = 6 then Reg regs i.a ∧ i.b = 0 ∧ Rgn rl i.c ∧ Wrd log i.c i.n
 else if i.op = 7 then i.a = 0 ∧ i.b = 0 ∧ i.c = 0 ∧ Plc cl i.n
 else if i.op = 8 then Reg regs i.a ∧ Reg regs i.b ∧ (1 ≤ i.c ∧ i.c ≤ 4) ∧ Plc cl i.n
 else if i.op = 9 then Reg regs i.a ∧ i.b = 0 ∧ i.c = 0 ∧ i.n = 0
 else if i.op = 10 then Reg regs i.a ∧ Reg regs i.b ∧ i.c = 0
 else if i.op = 11 then Reg regs i.a ∧ i.b = 0 ∧ i.c = 0 ∧ 1 ≤ i.n ∧ i.n ≤ 64
 else if i.op = 12 then i.a = 0 ∧ i.b = 0 ∧ i.c = 0 ∧ i.n = 0
 else (21 ≤ i.op ∧ i.op ≤ 30) ∧ Reg regs i.a ∧ Reg regs i.b ∧ Reg regs i.c ∧ i.n = 0

def J71 (rl : Nat) (log : Nat → Int) (cl : Nat) (ins : Nat → Ins) (most : Nat) (regs : Int) : Prop :=
 1 ≤ cl ∧ cl ≤ most ∧ ∀ i, i < cl → InsOk rl log cl regs (ins i)

def Prg.Ok (p : Prg) (most : Nat) (regs : Int) : Prop := J0g p.rl p.log ∧ J71 p.rl p.log p.cl p.ins most regs

def RegsAt (w : World) (b o rl : Nat) (log : Nat → Int) (sec : Nat → Bool) : Prop :=
 ∀ i, i < rl → w.cell? ⟨b, o + i * 2, none⟩ = some (.int .i64 (log i)) ∧ w.cell? ⟨b, o + i * 2 + 1, none⟩ = some (.bool (sec i))
def CodeAt (w : World) (b o cl : Nat) (ins : Nat → Ins) : Prop :=
 ∀ i, i < cl → w.cell? ⟨b, o + i * 5, none⟩ = some (.int .i64 (ins i).op) ∧ w.cell? ⟨b, o + i * 5 + 1, none⟩ = some (.int .i64 (ins i).a) ∧ w.cell? ⟨b, o + i * 5 + 2, none⟩ = some (.int .i64 (ins i).b) ∧
  w.cell? ⟨b, o + i * 5 + 3, none⟩ = some (.int .i64 (ins i).c) ∧ w.cell? ⟨b, o + i * 5 + 4, none⟩ = some (.int .i64 (ins i).n)

theorem RegsAt.more {w w' : World} (m : More w w') {b o rl : Nat} {log : Nat → Int} {sec : Nat → Bool} (h : RegsAt w b o rl log sec) : RegsAt w' b o rl log sec :=
 fun i hi => ⟨m.cell (h i hi).1, m.cell (h i hi).2⟩
theorem CodeAt.more {w w' : World} (m : More w w') {b o cl : Nat} {ins : Nat → Ins} (h : CodeAt w b o cl ins) : CodeAt w' b o cl ins :=
 fun i hi => ⟨m.cell (h i hi).1, m.cell (h i hi).2.1, m.cell (h i hi).2.2.1, m.cell (h i hi).2.2.2.1, m.cell (h i hi).2.2.2.2⟩

structure Loc where
 ra : Option Addr
 rb : Nat
 ro : Nat
 rc : Nat
 ca : Option Addr
 cb : Nat
 co : Nat
 cc : Nat

structure PIn (w : World) (p : Prg) (l : Loc) : Prop where
 hr : 0 < p.rl → l.ra = some ⟨l.rb, l.ro, none⟩
 hc : 0 < p.cl → l.ca = some ⟨l.cb, l.co, none⟩
 regs : RegsAt w l.rb l.ro p.rl p.log p.sec
 code : CodeAt w l.cb l.co p.cl p.ins

theorem PIn.more {w w' : World} (m : More w w') {p : Prg} {l : Loc} (h : PIn w p l) : PIn w' p l := ⟨h.hr, h.hc, h.regs.more m, h.code.more m⟩

def Blw (n e : Int) : Prop := 0 ≤ n ∧ n < e
def Btw (a b c : Int) : Prop := a ≤ c ∧ c ≤ b

def J0h (l : Int) : Int := 2 ^ l.toNat

theorem J2j {k : Nat} (h : k ≤ 6) : (1 : Int) ≤ 2 ^ k ∧ (2 : Int) ^ k ≤ 64 := by
 have : k = 0 ∨ k = 1 ∨ k = 2 ∨ k = 3 ∨ k = 4 ∨ k = 5 ∨ k = 6 := by omega
 rcases this with rfl | rfl | rfl | rfl | rfl | rfl | rfl <;> decide

theorem Says.is_yes {P : Prop} (h : P) {w : World} {e : Ending} {w' : World} (s : Says P w e w') : e = .returned (.bool true) ∧ More w w' := by
 obtain ⟨r, rfl, hr, m⟩ := s
 cases r
 ·simpa using hr.2 h
 ·exact ⟨rfl, m⟩
theorem Says.is_no {P : Prop} (h : ¬ P) {w : World} {e : Ending} {w' : World} (s : Says P w e w') : e = .returned (.bool false) ∧ More w w' := by
 obtain ⟨r, rfl, hr, m⟩ := s
 cases r
 ·exact ⟨rfl, m⟩
 ·exact absurd (hr.1 rfl) h

def ListsAt (w : World) (b o ml : Nat) (A : Nat → Option Addr) (L C : Nat → Nat) : Prop := ∀ i, i < ml → w.cell? ⟨b, o + i, none⟩ = some (.slice (A i) (L i) (C i))
theorem ListsAt.more {w w' : World} (m : More w w') {b o ml : Nat} {A : Nat → Option Addr} {L C : Nat → Nat} (h : ListsAt w b o ml A L C) : ListsAt w' b o ml A L C := fun i hi => m.cell (h i hi)

def J1m (rl : Nat) (log : Nat → Int) (ml : Nat) (L : Nat → Nat) : Prop := J0g rl log ∧ ml = rl ∧ ∀ i, i < rl → (L i : Int) = J0h (log i)
end
section
open Go.ChangeShapes Go.WideShapes Go.ChangeAt Go.RowKit Go.Deep Go.Joins
set_option maxRecDepth 8000
theorem Ji5 : Try.prog.cellsOf 51 = 2 := by kernel_rfl
theorem Ji4 : Try.prog.cellsOf 59 = 5 := by kernel_rfl
theorem Ji3 : Try.prog.cellsOf 25 = 2 := by kernel_rfl
theorem Ji6 : Try.prog.cellsOf 70 = 1 := by kernel_rfl
theorem Jhp : Try.prog.cellsOf 2 = 1 := by kernel_rfl
theorem Jhq : Try.prog.cellsOf 3 = 1 := by kernel_rfl
theorem Jk0 : Try.prog.cellsOf 4 = 1 := by kernel_rfl

def I64 (x : Int) : Prop := -9223372036854775808 ≤ x ∧ x ≤ 9223372036854775807
def Ins.fits (i : Ins) : Prop := I64 i.op ∧ I64 i.a ∧ I64 i.b ∧ I64 i.c ∧ I64 i.n

structure Prg.Fit (p : Prg) : Prop where
 rl : p.rl ≤ maxLen
 cl : p.cl ≤ maxLen
 log : ∀ i, i < p.rl → I64 (p.log i)
 ins : ∀ i, i < p.cl → (p.ins i).fits

section
variable {H : Type} {enc : TypeId × Value → H} {W : World} {base : Nat} {held : Bool}

theorem J1z {a : Addr} {v : Value} (h : W.cell? a = some v) : a = ⟨a.block, a.off, none⟩ := by
 have := World.cell?_spot h
 cases a
 simp_all

theorem Jdq {fuel : Nat} {cs : List Value} {x : DataW H × List MemPlace} (h : DataW.trod enc Try.prog W base (fun _ => true) held fuel 22 cs = some x) :
  ∃ (ra : Option Addr) (rb ro rl rc : Nat) (log : Nat → Int) (sec : Nat → Bool), cs = [.slice ra rl rc] ∧ (0 < rl → ra = some ⟨rb, ro, none⟩) ∧ RegsAt W rb ro rl log sec ∧ rl ≤ rc ∧ rc ≤ maxLen ∧ ∀ i, i < rl → I64 (log i) := by
 rcases open_slice Try.underlying22 h with ⟨rfl, _⟩ | ⟨a, len, cap, m, n, D, Pl, rfl, hb, hl, hm, hmm, rfl, hx⟩
 ·exact ⟨none, 0, 0, 0, 0, fun _ => 0, fun _ => false, rfl, fun h => by omega, fun i hi => by omega, Nat.le_refl _, Nat.zero_le _, fun i hi => by omega⟩
 have hlm : len ≤ m := by rw [hmm]; simpa using hl
 have each : ∀ i, i < len → ∃ q : Int × Bool, W.cell? (a.add (i * 2)) = some (.int .i64 q.1) ∧ W.cell? (a.add (i * 2 + 1)) = some (.bool q.2) ∧ I64 q.1 := by
  intro i hi
  obtain ⟨cs', h1, h2⟩ := hx i (by omega)
  rw [Ji5] at h1
  obtain ⟨_, hlen, hcell⟩ := World.cells?_some h1
  obtain ⟨xs, k, hk, hxy, _, hxl, hf⟩ := DataW.trod_struct Try.underlying51 h2
  match cs', hlen with
  | [v0, v1], _ =>
   have g0 := hf 0 _ rfl
   have g1 := hf 1 _ rfl
   have e0 := hcell 0 (by omega)
   have e1 := hcell 1 (by omega)
   rw [add_add] at e0 e1
   simp [Jhq, Jk0] at g0 g1
   match xs, hxl with
   | [y0, y1], _ =>
    simp at g0 g1
    obtain ⟨z, hz, _, wz⟩ := DataW.trod_int Try.underlying3 g0
    obtain ⟨s, hs, _⟩ := DataW.trod_bool Try.underlying4 g1
    simp at hz hs e0 e1
    subst hz hs
    exact ⟨(z, s), e0, e1, bounds_i64 wz⟩
 obtain ⟨q, hq⟩ := choose_lt each
 refine ⟨some a, a.block, a.off, len, cap, fun i => (q i).1, fun i => (q i).2, rfl, fun h0 => ?_, fun i hi => ?_, hl, hm, fun i hi => (hq i hi).2.2⟩
 ·have h1 := (hq 0 h0).1
  simp [Addr.add] at h1
  rw [← J1z h1]
 ·have h1 := (hq 0 (by omega)).1
  simp [Addr.add] at h1
  have ha := J1z h1
  obtain ⟨b, o, s⟩ := a
  simp at ha
  subst ha
  have := hq i hi
  rw [add_plain, add_plain] at this
  exact ⟨by simpa using this.1, by have := this.2.1; simpa [Nat.add_assoc] using this⟩

theorem Jdo {fuel : Nat} {cs : List Value} {x : DataW H × List MemPlace} (h : DataW.trod enc Try.prog W base (fun _ => true) held fuel 23 cs = some x) :
  ∃ (ca : Option Addr) (cb co cl cc : Nat) (ins : Nat → Ins), cs = [.slice ca cl cc] ∧ (0 < cl → ca = some ⟨cb, co, none⟩) ∧ CodeAt W cb co cl ins ∧ cl ≤ cc ∧ cc ≤ maxLen ∧ ∀ i, i < cl → (ins i).fits := by
 rcases open_slice Try.underlying23 h with ⟨rfl, _⟩ | ⟨a, len, cap, m, n, D, Pl, rfl, hb, hl, hm, hmm, rfl, hx⟩
 ·exact ⟨none, 0, 0, 0, 0, fun _ => ⟨0, 0, 0, 0, 0⟩, rfl, fun h => by omega, fun i hi => by omega, Nat.le_refl _, Nat.zero_le _, fun i hi => by omega⟩
 have hlm : len ≤ m := by rw [hmm]; simpa using hl
 have each : ∀ i, i < len → ∃ q : Int × Int × Int × Int × Int, W.cell? (a.add (i * 5)) = some (.int .i64 q.1) ∧ W.cell? (a.add (i * 5 + 1)) = some (.int .i64 q.2.1) ∧ W.cell? (a.add (i * 5 + 2)) = some (.int .i64 q.2.2.1) ∧
   W.cell? (a.add (i * 5 + 3)) = some (.int .i64 q.2.2.2.1) ∧ W.cell? (a.add (i * 5 + 4)) = some (.int .i64 q.2.2.2.2) ∧ I64 q.1 ∧ I64 q.2.1 ∧ I64 q.2.2.1 ∧ I64 q.2.2.2.1 ∧ I64 q.2.2.2.2 := by
  intro i hi
  obtain ⟨cs', h1, h2⟩ := hx i (by omega)
  rw [Ji4] at h1
  obtain ⟨_, hlen, hcell⟩ := World.cells?_some h1
  obtain ⟨xs, k, hk, hxy, _, hxl, hf⟩ := DataW.trod_struct Try.underlying59 h2
  match cs', hlen with
  | [v0, v1, v2, v3, v4], _ =>
   have g0 := hf 0 _ rfl
   have g1 := hf 1 _ rfl
   have g2 := hf 2 _ rfl
   have g3 := hf 3 _ rfl
   have g4 := hf 4 _ rfl
   have e0 := hcell 0 (by omega)
   have e1 := hcell 1 (by omega)
   have e2 := hcell 2 (by omega)
   have e3 := hcell 3 (by omega)
   have e4 := hcell 4 (by omega)
   rw [add_add] at e0 e1 e2 e3 e4
   simp [Jhq, Jhp] at g0 g1 g2 g3 g4
   match xs, hxl with
   | [y0, y1, y2, y3, y4], _ =>
    simp at g0 g1 g2 g3 g4
    obtain ⟨z0, hz0, _, wz0⟩ := DataW.trod_int Try.underlying3 g0
    obtain ⟨z1, hz1, _, wz1⟩ := DataW.trod_int Try.underlying3 g1
    obtain ⟨z2, hz2, _, wz2⟩ := DataW.trod_int Try.underlying3 g2
    obtain ⟨z3, hz3, _, wz3⟩ := DataW.trod_int Try.underlying3 g3
    obtain ⟨z4, hz4, _, wz4⟩ := DataW.trod_int Try.underlying2 g4
    simp at hz0 hz1 hz2 hz3 hz4 e0 e1 e2 e3 e4
    subst hz0 hz1 hz2 hz3 hz4
    exact ⟨(z0, z1, z2, z3, z4), e0, e1, e2, e3, e4, bounds_i64 wz0, bounds_i64 wz1, bounds_i64 wz2, bounds_i64 wz3, bounds_i64 wz4⟩
 obtain ⟨q, hq⟩ := choose_lt each
 refine ⟨some a, a.block, a.off, len, cap, fun i => ⟨(q i).1, (q i).2.1, (q i).2.2.1, (q i).2.2.2.1, (q i).2.2.2.2⟩, rfl, fun h0 => ?_, fun i hi => ?_, hl, hm, fun i hi => (hq i hi).2.2.2.2.2⟩
 ·have h1 := (hq 0 h0).1
  simp [Addr.add] at h1
  rw [← J1z h1]
 ·have h1 := (hq 0 (by omega)).1
  simp [Addr.add] at h1
  have ha := J1z h1
  obtain ⟨b, o, s⟩ := a
  simp at ha
  subst ha
  have := hq i hi
  rw [add_plain, add_plain, add_plain, add_plain, add_plain] at this
  obtain ⟨t0, t1, t2, t3, t4, _⟩ := this
  exact ⟨by simpa using t0, by simpa [Nat.add_assoc] using t1, by simpa [Nat.add_assoc] using t2, by simpa [Nat.add_assoc] using t3, by simpa [Nat.add_assoc] using t4⟩

theorem Jdp {v : Value} {d : DataW H} {ps : List MemPlace} {r : Reach} {b0 : Nat} (hv : Value.okWide Try.prog W r b0 25 v) (h : DataW.Trod enc Try.prog W base (fun _ => true) held 25 v d ps) :
  ∃ (p : Prg) (l : Loc), v = .agg #[.slice l.ra p.rl l.rc, .slice l.ca p.cl l.cc] ∧ PIn W p l ∧ p.Fit := by
 obtain ⟨v0, v1, y0, y1, n, rfl, rfl, rfl, h0, h1⟩ := open_agg2 Try.underlying25 (by kernel_rfl) Ji3 hv h
 obtain ⟨ra, rb, ro, rl, rc, log, sec, e0, hra, hr, hrc, hrm, hlog⟩ := Jdq h0
 obtain ⟨ca, cb, co, cl, cc, ins, e1, hca, hc, hcc, hcm, hins⟩ := Jdo h1
 simp at e0 e1
 subst e0 e1
 exact ⟨⟨rl, log, sec, cl, ins⟩, ⟨ra, rb, ro, rc, ca, cb, co, cc⟩, rfl, ⟨hra, hca, hr, hc⟩, ⟨Nat.le_trans hrc hrm, Nat.le_trans hcc hcm, hlog, hins⟩⟩

end
end
section
open Go.RowKit
structure Se where
 kind : Int
 a : Int
 b : Int

def SeesAt (w : World) (b o : Nat) (l : List Se) : Prop :=
 ∀ i s, l[i]? = some s → w.cell? ⟨b, o + i * 3, none⟩ = some (.int .i64 s.kind) ∧ w.cell? ⟨b, o + i * 3 + 1, none⟩ = some (.int .i64 s.a) ∧ w.cell? ⟨b, o + i * 3 + 2, none⟩ = some (.int .i64 s.b)
theorem SeesAt.more {w w' : World} (m : More w w') {b o : Nat} {l : List Se} (h : SeesAt w b o l) : SeesAt w' b o l :=
 fun i s hs => ⟨m.cell (h i s hs).1, m.cell (h i s hs).2.1, m.cell (h i s hs).2.2⟩

def SeenAt (w : World) (v : Value) (l : List Se) : Prop :=
 ∃ (a : Option Addr) (b o c : Nat), v = .slice a l.length c ∧ (0 < l.length → a = some ⟨b, o, none⟩) ∧ SeesAt w b o l ∧ l.length < 4611686018427387904
theorem SeenAt.more {w w' : World} (m : More w w') {v : Value} {l : List Se} (h : SeenAt w v l) : SeenAt w' v l := by
 obtain ⟨a, b, o, c, e, h1, h2, h3⟩ := h
 exact ⟨a, b, o, c, e, h1, h2.more m, h3⟩

structure Mem where
 ml : Nat
 len : Nat → Nat
 wd : Nat → Nat → Int
structure MLoc where
 ma : Option Addr
 mb : Nat
 mo : Nat
 mc : Nat
 A : Nat → Option Addr
 C : Nat → Nat
 gb : Nat → Nat
 go : Nat → Nat

structure MIn (w : World) (m : Mem) (l : MLoc) : Prop where
 hm : 0 < m.ml → l.ma = some ⟨l.mb, l.mo, none⟩
 lists : ListsAt w l.mb l.mo m.ml l.A m.len l.C
 hg : ∀ i, i < m.ml → 0 < m.len i → l.A i = some ⟨l.gb i, l.go i, none⟩
 words : ∀ i, i < m.ml → ∀ j, j < m.len i → w.cell? ⟨l.gb i, l.go i + j, none⟩ = some (.int .i64 (m.wd i j))
 fitl : m.ml < 4611686018427387904
 fitw : ∀ i, i < m.ml → m.len i < 4611686018427387904
theorem MIn.more {w w' : World} (m : More w w') {x : Mem} {l : MLoc} (h : MIn w x l) : MIn w' x l :=
 ⟨h.hm, h.lists.more m, h.hg, fun i hi j hj => m.cell (h.words i hi j hj), h.fitl, h.fitw⟩

structure Mem.Like (x y : Mem) : Prop where
 ml : x.ml = y.ml
 len : ∀ i, i < x.ml → x.len i = y.len i
 wd : ∀ i, i < x.ml → ∀ j, j < x.len i → x.wd i j = y.wd i j

structure Sh where
 fin : Int
 val : Int
 steps : Int
 seen : List Se
 mem : Mem

def ShownAt (w : World) (v : Value) (x : Sh) : Prop :=
 ∃ (sv : Value) (l : MLoc), v = .agg #[.int .i64 x.fin, .int .i64 x.val, .int .i64 x.steps, sv, .slice l.ma x.mem.ml l.mc] ∧ SeenAt w sv x.seen ∧ MIn w x.mem l
theorem ShownAt.more {w w' : World} (m : More w w') {v : Value} {x : Sh} (h : ShownAt w v x) : ShownAt w' v x := by
 obtain ⟨sv, l, e, h1, h2⟩ := h
 exact ⟨sv, l, e, h1.more m, h2.more m⟩
def toU (a : Int) : Nat := (a % 18446744073709551616).toNat

theorem J4w (a : Int) : ((toU a : Nat) : Int) = a % 18446744073709551616 := by unfold toU; omega
theorem J3l (a : Int) : toU a < 18446744073709551616 := by unfold toU; omega

def opI (op a b : Int) : Int :=
 if op = 1 then wrap64 (a + b)
 else if op = 2 then wrap64 (a - b)
 else if op = 3 then wrap64 (a * b)
 else if op = 4 then wrap64 ((toU a &&& toU b : Nat) : Int)
 else if op = 5 then wrap64 ((toU a ||| toU b : Nat) : Int)
 else if op = 6 then wrap64 ((toU a ^^^ toU b : Nat) : Int)
 else if op = 7 then wrap64 ((toU a * 2 ^ (toU b % 64) : Nat) : Int)
 else if op = 8 then wrap64 ((toU a / 2 ^ (toU b % 64) : Nat) : Int)
 else if op = 9 then wrap64 ((toU a / toU b : Nat) : Int)
 else if op = 10 then wrap64 ((toU a % toU b : Nat) : Int)
 else 0

def J15 (c a b : Int) : Bool :=
 if c = 1 then toU a == toU b
 else if c = 2 then toU a != toU b
 else if c = 3 then decide (toU a < toU b)
 else if c = 4 then decide (toU b ≤ toU a)
 else false

theorem uwrap (a : Int) : IntKind.u64.wrap a = ((toU a : Nat) : Int) := by rw [IntKind.wrap_u64, J4w]

theorem opI_1 (a b : Int) : opI 1 a b = wrap64 (a + b) := by simp [opI]
theorem opI_2 (a b : Int) : opI 2 a b = wrap64 (a - b) := by simp [opI]
theorem opI_3 (a b : Int) : opI 3 a b = wrap64 (a * b) := by simp [opI]
theorem opI_4 (a b : Int) : opI 4 a b = wrap64 ((toU a &&& toU b : Nat) : Int) := by simp [opI]
theorem opI_5 (a b : Int) : opI 5 a b = wrap64 ((toU a ||| toU b : Nat) : Int) := by simp [opI]
theorem opI_6 (a b : Int) : opI 6 a b = wrap64 ((toU a ^^^ toU b : Nat) : Int) := by simp [opI]
theorem opI_7 (a b : Int) : opI 7 a b = wrap64 ((toU a * 2 ^ (toU b % 64) : Nat) : Int) := by simp [opI]
theorem opI_8 (a b : Int) : opI 8 a b = wrap64 ((toU a / 2 ^ (toU b % 64) : Nat) : Int) := by simp [opI]
theorem opI_9 (a b : Int) : opI 9 a b = wrap64 ((toU a / toU b : Nat) : Int) := by simp [opI]
theorem Jdn (a b : Int) : opI 10 a b = wrap64 ((toU a % toU b : Nat) : Int) := by simp [opI]
def B64 (x : Int) : Prop := -9223372036854775808 ≤ x ∧ x ≤ 9223372036854775807
theorem J5k (x : Int) : B64 (wrap64 x) := by unfold B64 wrap64; omega
theorem J1e : B64 0 := by unfold B64; omega

def setR (r : Nat → Int) (a v : Int) : Nat → Int := fun j => if j = a.toNat then v else r j
def setW (m : Mem) (c i : Nat) (v : Int) : Mem := ⟨m.ml, m.len, fun x y => if x = c ∧ y = i then v else m.wd x y⟩

def baseI (log : Nat → Int) : Nat → Int
 | 0 => 0
 | k + 1 => baseI log k + J0h (log k)

def regsI (r : Nat → Int) (i : Ins) : (Nat → Int) × List Se :=
 if i.op = 1 then (setR r i.a i.n, [])
 else if i.op = 2 then (setR r i.a (r i.b.toNat), [])
 else if i.op = 10 then (setR r i.a (wrap64 (r i.b.toNat + i.n)), [])
 else if i.op = 11 then (if r i.a.toNat < 0 ∨ i.n ≤ r i.a.toNat then setR r i.a 0 else r, [])
 else if i.op = 12 then (r, [])
 else (setR r i.a (opI (i.op - 20) (r i.b.toNat) (r i.c.toNat)), if i.op = 29 ∨ i.op = 30 then [⟨3, r i.b.toNat, r i.c.toNat⟩] else [])

def putI (i : Ins) : Int := if i.op = 3 ∨ i.op = 5 then 0 else if i.op = 4 ∨ i.op = 6 then 1 else -1
def idxI (r : Nat → Int) (i : Ins) : Int := if i.op = 5 ∨ i.op = 6 then i.n else wrap64 (r i.b.toNat + i.n)

structure St where
 at_ : Nat
 r : Nat → Int
 m : Mem
 seen : List Se

def stepI (p : Prg) (s : St) : St × Option (Int × Int) :=
 if (p.ins s.at_).op = 7 then (⟨(p.ins s.at_).n.toNat, s.r, s.m, s.seen ++ [⟨1, s.at_, 0⟩]⟩, none)
 else if (p.ins s.at_).op = 8 then
  (⟨if J15 (p.ins s.at_).c (s.r (p.ins s.at_).a.toNat) (s.r (p.ins s.at_).b.toNat) = true then (p.ins s.at_).n.toNat else s.at_ + 1, s.r, s.m, s.seen ++ [⟨1, s.at_, 0⟩]⟩, none)
 else if (p.ins s.at_).op = 9 then (⟨s.at_ + 1, s.r, s.m, s.seen ++ [⟨1, s.at_, 0⟩]⟩, some (1, s.r (p.ins s.at_).a.toNat))
 else if 0 ≤ putI (p.ins s.at_) then
  if idxI s.r (p.ins s.at_) < 0 ∨ (s.m.len (p.ins s.at_).c.toNat : Int) ≤ idxI s.r (p.ins s.at_) then (⟨s.at_ + 1, s.r, s.m, s.seen ++ [⟨1, s.at_, 0⟩]⟩, some (2, 0))
  else if putI (p.ins s.at_) = 1 then
   (⟨s.at_ + 1, s.r, setW s.m (p.ins s.at_).c.toNat (idxI s.r (p.ins s.at_)).toNat (s.r (p.ins s.at_).a.toNat),
    s.seen ++ [⟨1, s.at_, 0⟩] ++ [⟨2, baseI p.log (p.ins s.at_).c.toNat + idxI s.r (p.ins s.at_), 1⟩]⟩, none)
  else
   (⟨s.at_ + 1, setR s.r (p.ins s.at_).a (s.m.wd (p.ins s.at_).c.toNat (idxI s.r (p.ins s.at_)).toNat), s.m,
    s.seen ++ [⟨1, s.at_, 0⟩] ++ [⟨2, baseI p.log (p.ins s.at_).c.toNat + idxI s.r (p.ins s.at_), 0⟩]⟩, none)
 else (⟨s.at_ + 1, (regsI s.r (p.ins s.at_)).1, s.m, s.seen ++ [⟨1, s.at_, 0⟩] ++ (regsI s.r (p.ins s.at_)).2⟩, none)

def runI (p : Prg) : Nat → Nat → St → Sh
 | 0, k, s => ⟨0, 0, k, s.seen, s.m⟩
 | f + 1, k, s =>
  if p.cl ≤ s.at_ then ⟨2, 0, k, s.seen, s.m⟩
  else match (stepI p s).2 with
   | some e => ⟨e.1, e.2, (k : Int) + 1, (stepI p s).1.seen, (stepI p s).1.m⟩
   | none => runI p f (k + 1) (stepI p s).1

def playI (p : Prg) (m : Mem) (fuel : Nat) : Sh := runI p fuel 0 ⟨0, fun _ => 0, m, []⟩

def RegsR (w : World) (g : Nat) (r : Nat → Int) : Prop := ∀ j, j < 10 → w.cell? ⟨g, j, none⟩ = some (.int .i64 (r j)) ∧ w.frozen? ⟨g, j, none⟩ = false

theorem J62 {w w' : World} {row : Option Nat} (hg : w.grownBy w' row) {a : Addr} {v : Value} (h : w.cell? a = some v) (hne : some a.block ≠ row) : w'.frozen? a = w.frozen? a :=
 World.frozen?_of_block (hg.block a.block (J05 h) hne)
theorem RegsR.kept {w w' : World} {row : Option Nat} (hg : w.grownBy w' row) {g : Nat} {r : Nat → Int} (h : RegsR w g r) (hne : some g ≠ row) : RegsR w' g r :=
 fun j hj => ⟨hg.cell (h j hj).1 hne, (J62 hg (h j hj).1 hne).trans (h j hj).2⟩
theorem J1y (w : World) (row : Option Nat) : w.grownBy w.drew row := ⟨rfl, rfl, rfl, Nat.le_refl _, fun _ _ _ => rfl⟩
theorem J0n (w : World) (row : Option Nat) : w.grownBy w row := ⟨rfl, rfl, rfl, Nat.le_refl _, fun _ _ _ => rfl⟩
theorem J0p (w : World) (g o : Nat) (v : Value) : w.grownBy (w.setCell ⟨g, o, none⟩ v) (some g) :=
 ⟨rfl, rfl, rfl, by simp [World.setCell], fun k _ hne => Below.heap_setCell _ _ _ _ (by simpa using hne)⟩
theorem J0x {a b c : World} {row : Option Nat} (h : a.grownBy b row) (k : b.grownBy c row) : a.grownBy c row :=
 ⟨k.os.trans h.os, k.tape.trans h.tape, k.output.trans h.output, Nat.le_trans h.size k.size, fun i hi hne => (k.block i (Nat.lt_of_lt_of_le hi h.size) hne).trans (h.block i hi hne)⟩
theorem More.grow {w w' : World} (h : More w w') (row : Option Nat) : w.grownBy w' row := ⟨Below.os h, Below.tape h, Below.output h, Below.size h, fun k hk _ => Below.block h k hk⟩

theorem RegsR.set {w : World} {g : Nat} {r : Nat → Int} (h : RegsR w g r) (a v : Int) : RegsR (w.setCell ⟨g, a.toNat, none⟩ (.int .i64 v)) g (setR r a v) := by
 intro j hj
 refine ⟨?_, by rw [World.frozen?_setCell]; exact (h j hj).2⟩
 unfold setR
 by_cases e : j = a.toNat
 ·subst e
  rw [if_pos rfl]
  exact World.cell?_setCell_same _ _ _ (h _ hj).1
 ·rw [if_neg e, World.cell?_setCell_other _ _ _ _ (by simp <;> omega)]
  exact (h j hj).1

theorem RegsR.alloc {w : World} {g : Nat} {r : Nat → Int} (h : RegsR w g r) (c : Array Value) (t : TypeId) : RegsR (w.alloc (.cells c t)) g r := h.kept (World.grownBy_alloc w _ none) (by simp)
theorem RegsR.drew {w : World} {g : Nat} {r : Nat → Int} (h : RegsR w g r) : RegsR w.drew g r := h
theorem RegsR.more {w w' : World} (m : More w w') {g : Nat} {r : Nat → Int} (h : RegsR w g r) : RegsR w' g r := h.kept (m.grow none) (by simp)
theorem J1u {w w1 : World} {row : Option Nat} (h : w.grownBy w1 row) (o : Obj) : w.grownBy (w1.alloc o) row := J0x h (World.grownBy_alloc w1 o row)
theorem J2e {w w1 : World} {row : Option Nat} (h : w.grownBy w1 row) : w.grownBy w1.drew row := J0x h (J1y w1 row)
theorem J10 {w w1 : World} {g : Nat} (h : w.grownBy w1 (some g)) (o : Nat) (v : Value) : w.grownBy (w1.setCell ⟨g, o, none⟩ v) (some g) := J0x h (J0p w1 g o v)
theorem J7s {w w1 w2 : World} {row : Option Nat} (h : w.grownBy w1 row) (m : More w1 w2) : w.grownBy w2 row := J0x h (m.grow row)
theorem J27 (x : Int) : IntKind.i64.wrap x = wrap64 x := by rw [IntKind.wrap_i64]; unfold wrap64; omega
end
section
open Go.ChangeShapes Go.WideShapes Go.ChangeAt Go.RowKit Go.Deep Go.Joins
set_option linter.unusedVariables false
set_option maxRecDepth 8000
structure MRaw (w : World) (m : Mem) (l : MLoc) : Prop where
 hm : 0 < m.ml → l.ma = some ⟨l.mb, l.mo, none⟩
 lists : ListsAt w l.mb l.mo m.ml l.A m.len l.C
 hg : ∀ i, i < m.ml → 0 < m.len i → l.A i = some ⟨l.gb i, l.go i, none⟩
 words : ∀ i, i < m.ml → ∀ j, j < m.len i → w.cell? ⟨l.gb i, l.go i + j, none⟩ = some (.int .i64 (m.wd i j))
theorem MRaw.more {w w' : World} (m : More w w') {x : Mem} {l : MLoc} (h : MRaw w x l) : MRaw w' x l :=
 ⟨h.hm, h.lists.more m, h.hg, fun i hi j hj => m.cell (h.words i hi j hj)⟩
theorem MRaw.in_ {w : World} {m : Mem} {l : MLoc} (h : MRaw w m l) (h1 : m.ml ≤ 6) (h2 : ∀ i, i < m.ml → m.len i ≤ 64) : MIn w m l :=
 ⟨h.hm, h.lists, h.hg, h.words, by omega, fun i hi => by have := h2 i hi; omega⟩

theorem J8x {H : Type} {enc : TypeId × Value → H} {W : World} {base : Nat} {held : Bool} {v : Value} {d : DataW H} {ps : List MemPlace} {r : Reach} {b0 : Nat}
  (hv : Value.okWide Try.prog W r b0 35 v) (h : DataW.Trod enc Try.prog W base (fun _ => true) held 35 v d ps) :
  ∃ (m : Mem) (l : MLoc), v = .slice l.ma m.ml l.mc ∧ MRaw W m l ∧ ∀ j, j < m.ml → ∀ i, i < m.len j → B64 (m.wd j i) := by
 obtain ⟨a0, len, cap, rfl⟩ := okWide_slice Try.underlying35 hv
 obtain ⟨fuel, hf⟩ := h
 rcases open_int_rows Try.underlying35 Try.underlying70 Try.underlying2 Ji6 Jhp hf with ⟨hcs, _⟩ | ⟨a, len', cap', A, L, C, Z, hcs, _, hl, hm, _, hrow⟩
 ·simp [Value.cells] at hcs
  obtain ⟨rfl, rfl, rfl⟩ := hcs
  exact ⟨⟨0, fun _ => 0, fun _ _ => 0⟩, ⟨none, 0, 0, 0, fun _ => none, fun _ => 0, fun _ => 0, fun _ => 0⟩, rfl, ⟨fun h => by simp at h, fun i hi => by simp at hi, fun i hi => by simp at hi, fun i hi => by simp at hi⟩, fun j hj => by simp at hj⟩
 ·simp [Value.cells] at hcs
  obtain ⟨rfl, rfl, rfl⟩ := hcs
  have haddr : ∀ i, i < len → 0 < L i → ∃ a', A i = some a' ∧ a' = ⟨a'.block, a'.off, none⟩ := by
   intro i hi h0
   obtain ⟨_, h2, _, _, _, h6, h7⟩ := hrow i (by omega)
   cases hA : A i with
   | none => have := h6 hA; omega
   | some a' =>
    refine ⟨a', rfl, ?_⟩
    have := (h7 a' hA).2 0 (by omega)
    simp [Addr.add] at this
    exact J1z this
  refine ⟨⟨len, L, fun i j => (Z i).getD j 0⟩, ⟨some a, a.block, a.off, cap, A, C, fun i => ((A i).getD a).block, fun i => ((A i).getD a).off⟩, rfl, ⟨fun h0 => ?_, fun i hi => ?_, fun i hi h0 => ?_, fun i hi j hj => ?_⟩, fun j hj i hi => ?_⟩
  ·dsimp only at h0 ⊢
   have h1 := (hrow 0 (by omega)).1
   simp [Addr.add] at h1
   rw [← J1z h1]
  ·dsimp only at hi ⊢
   have h1 := (hrow 0 (by omega)).1
   simp [Addr.add] at h1
   have ha := J1z h1
   obtain ⟨b, o, s⟩ := a
   simp at ha
   subst ha
   have := (hrow i (by omega)).1
   rw [add_plain] at this
   exact this
  ·dsimp only at hi h0 ⊢
   obtain ⟨a', e1, e2⟩ := haddr i hi h0
   rw [e1]
   simp only [Option.getD_some]
   rw [← e2]
  ·dsimp only at hi hj ⊢
   obtain ⟨a', e1, e2⟩ := haddr i hi (by omega)
   have h2 := (hrow i (by omega)).2.1
   have := ((hrow i (by omega)).2.2.2.2.2.2 a' e1).2 j (by omega)
   rw [e1]
   simp only [Option.getD_some]
   rw [e2, add_plain] at this
   exact this
  ·dsimp only at hj hi ⊢
   obtain ⟨_, h2, _, h4, h5, _, _⟩ := hrow j (by omega)
   have hlt : i < (Z j).length := by omega
   have : (Z j).getD i 0 ∈ Z j := by simp [List.getD, List.getElem?_eq_getElem hlt]
   exact bounds_i64 (h5 _ this)
end
section
open Go.RowKit
set_option linter.unusedSimpArgs false
set_option linter.unusedVariables false
theorem J9w {P : Prop} (h : P) : Hid P := h
structure SIn (w : World) (sa : Option Addr) (sb so : Nat) (L : List Int) : Prop where
 ha : 0 < L.length → sa = some ⟨sb, so, none⟩
 cells : ∀ (j : Nat) (c : Int), L[j]? = some c → w.cell? ⟨sb, so + j, none⟩ = some (.int .i64 c)
theorem SIn.more {w w' : World} (m : More w w') {sa : Option Addr} {sb so : Nat} {L : List Int} (h : SIn w sa sb so L) : SIn w' sa sb so L := ⟨h.ha, fun j c hc => m.cell (h.cells j c hc)⟩
def ScOk (L : List Int) : Prop := L.length ≤ 2000 ∧ ∀ (j : Nat) (c : Int), L[j]? = some c → 0 ≤ c

set_option maxHeartbeats 400000 in
theorem Jca (sa : Option Addr) (sb so n cap : Nat) (L : List Int) (hn : L.length = n) (w : World) (h : SIn w sa sb so L) :
  Calls Try.prog 16 #[.slice sa n cap] w fun e w' => ∃ r : Bool, e = .returned (.bool r) ∧ (r = true ↔ ScOk L) ∧ w' = w := by
 have H := J9w (And.intro h hn)
 clear h hn
 by_cases h2 : 2000 < n
 ·have h2' : (2000 : Int) < (n : Int) := by omega
  go_enter Try.func16, Try.ntmps16
  go_wp2
  go_ret
  exact ⟨false, rfl, ⟨(fun h => by cases h), fun h => by have := h.1; rw [H.out.2] at this; omega⟩, rfl⟩
 ·have h2' : ¬ (2000 : Int) < (n : Int) := by omega
  go_enter Try.func16, Try.ntmps16
  go_wp2
  go_loopg [3] n (fun g i wr => ∃ k : Nat, k + g = n ∧ i = .int .i64 k ∧ (∀ (j : Nat) (c : Int), j < k → L[j]? = some c → 0 ≤ c) ∧ wr = w)
  case atStart => exact ⟨0, by omega, rfl, fun j c hj => by omega, rfl⟩
  case round =>
   obtain ⟨k, hkg, rfl, hok, rfl⟩ := hrel
   have Hok := J9w hok
   clear hok
   cases gk with
   | zero =>
    obtain rfl : k = n := by omega
    go_wp2
    go_ret
    refine ⟨true, rfl, ⟨fun _ => ⟨by have := H.out.2; omega, fun j c hc => ?_⟩, fun _ => rfl⟩, rfl⟩
    exact Hok.out j c (by have := (List.getElem?_eq_some_iff.1 hc).1; have := H.out.2; omega) hc
   | succ g =>
    have hk : k < n := by omega
    have hk' : (k : Int) < (n : Int) := by omega
    have hkw : wrap64 ((k : Int) + 1) = (k : Int) + 1 := by unfold wrap64; omega
    obtain rfl := H.out.1.ha (by have := H.out.2; omega)
    obtain ⟨c, hc⟩ : ∃ c, L[k]? = some c := ⟨L[k]'(by have := H.out.2; omega), List.getElem?_eq_getElem _⟩
    have hcell := H.out.1.cells k c hc
    have Hc := J9w hc
    clear hc
    by_cases c0 : c < 0
    ·go_wp2
     go_ret
     refine ⟨false, rfl, ⟨(fun h => by cases h), fun h => ?_⟩, rfl⟩
     have := h.2 k c Hc.out
     omega
    ·go_wp2
     go_roundg g
     case measure => omega
     case rel =>
      refine ⟨k + 1, by omega, by first | rfl | (push_cast; rfl) | simp, fun j c' hj hc' => ?_, rfl⟩
      by_cases e : j = k
      ·subst e
       rw [Hc.out] at hc'
       obtain rfl := Option.some.inj hc'
       omega
      ·exact Hok.out j c' (by omega) hc'
end
section
open Go.ChangeShapes Go.WideShapes Go.ChangeAt Go.RowKit Go.Deep Go.Joins
set_option linter.unusedVariables false
set_option maxRecDepth 8000
theorem Jf5 : Try.prog.cellsOf 3 = 1 := by kernel_rfl

theorem Ja5 {H : Type} {enc : TypeId × Value → H} {W : World} {base : Nat} {held : Bool} {v : Value} {d : DataW H} {ps : List MemPlace} {r : Reach} {b0 : Nat}
  (hv : Value.okWide Try.prog W r b0 43 v) (h : DataW.Trod enc Try.prog W base (fun _ => true) held 43 v d ps) :
  ∃ (sa : Option Addr) (sb so n cap : Nat) (L : List Int), v = .slice sa n cap ∧ L.length = n ∧ n ≤ cap ∧ SIn W sa sb so L := by
 obtain ⟨a0, len, cap, rfl⟩ := okWide_slice Try.underlying43 hv
 obtain ⟨fuel, hf⟩ := h
 rcases open_ints Try.underlying43 Try.underlying3 Jf5 hf with ⟨hcs, _⟩ | ⟨a, len', cap', zs, hcs, _, hl, hm, hlen, _, hcell, _⟩
 ·simp [Value.cells] at hcs
  obtain ⟨rfl, rfl, rfl⟩ := hcs
  exact ⟨none, 0, 0, 0, 0, [], rfl, rfl, Nat.le_refl _, ⟨fun h => absurd h (Nat.not_lt_zero _), fun j c hc => by simp at hc⟩⟩
 ·simp [Value.cells] at hcs
  obtain ⟨rfl, rfl, rfl⟩ := hcs
  simp only [if_true] at hlen
  refine ⟨some a, a.block, a.off, len, cap, zs.take len, rfl, by simp; omega, hl, ?_⟩
  by_cases h0 : 0 < len
  ·have h1 := hcell 0 (by omega)
   simp [Addr.add] at h1
   have ha := J1z h1
   obtain ⟨b, o, sp⟩ := a
   simp at ha
   subst ha
   refine ⟨fun _ => rfl, fun j c hc => ?_⟩
   have hj : j < len := by have := (List.getElem?_eq_some_iff.1 hc).1; simp at this; omega
   have h2 := hcell j (by omega)
   rw [add_plain] at h2
   rw [List.getElem?_take, if_pos hj] at hc
   rw [List.getD_eq_getElem?_getD, hc, Option.getD_some] at h2
   exact h2
  ·obtain rfl : len = 0 := by omega
   exact ⟨fun h => by simp at h, fun j c hc => by simp at hc⟩
end
section
open Go.RowKit
def bnd (k : Int) : Int := if k < 0 ∨ 16 < k then 17 else k

def hasI (k n : Int) : Bool := decide (bnd k = 17 ∨ (0 ≤ n ∧ n < 2 ^ (bnd k).toNat))

def fitI (n : Int) : Int := bnd (bitLen (toU n) : Int)

def opB (op a b : Int) : Int :=
 if op = 1 then (if a = 0 ∨ b = 0 then max a b else bnd (max a b + 1))
 else if op = 3 then (if a = 0 ∨ b = 0 then 0 else bnd (a + b))
 else if op = 4 then min a b
 else if op = 5 ∨ op = 6 then max a b
 else if op = 8 ∨ op = 9 ∨ op = 10 then a
 else 17

theorem J0j (k : Int) : 0 ≤ bnd k ∧ bnd k ≤ 17 := by unfold bnd; split <;> omega
theorem J1w {k : Int} (h0 : 0 ≤ k) (h1 : k ≤ 17) : bnd k = k := by unfold bnd; split <;> omega
theorem J7n (k : Int) : bnd (bnd k) = bnd k := J1w (J0j k).1 (J0j k).2
theorem J3e {k : Int} (h : k < 0 ∨ 16 < k) : bnd k = 17 := by unfold bnd; rw [if_pos h]
theorem J5v {k : Int} (h0 : 0 ≤ k) (h1 : k ≤ 16) : bnd k = k := J1w h0 (by omega)

theorem J8b (u b : Nat) : bitLen u ≤ b ↔ u < 2 ^ b := by
 have ⟨h1, h2⟩ := bitLen_spec u
 constructor
 ·intro h; exact Nat.lt_of_lt_of_le h1 (Nat.pow_le_pow_right (by decide) h)
 ·intro h
  by_cases h0 : u = 0
  ·subst h0; simp [bitLen]
  ·have h3 := h2 h0
   have h4 : 2 ^ (bitLen u - 1) < 2 ^ b := Nat.lt_of_le_of_lt h3 h
   have h5 := (Nat.pow_lt_pow_iff_right (a := 2) (by decide)).1 h4
   omega

theorem J47 {b : Nat} (h : b ≤ 16) : 2 ^ b ≤ 65536 := Nat.pow_le_pow_right (n := 2) (by decide) h

theorem J2x {n : Int} (h0 : 0 ≤ n) (h1 : n ≤ 9223372036854775807) : ((toU n : Nat) : Int) = n := by rw [J4w]; omega
theorem Jal {n : Int} (h0 : n < 0) (h1 : -9223372036854775808 ≤ n) : 9223372036854775808 ≤ toU n := by unfold toU; omega

theorem Jfj {n : Int} (h0 : -9223372036854775808 ≤ n) (h1 : n ≤ 9223372036854775807) {b : Nat} (hb : b ≤ 16) :
  fitI n ≤ (b : Int) ↔ (0 ≤ n ∧ n < 2 ^ b) := by
 have hp := J47 hb
 have hl := J8b (toU n) b
 have hf : fitI n ≤ (b : Int) ↔ bitLen (toU n) ≤ b := by unfold fitI bnd; split <;> omega
 rw [hf, hl]
 have hc : ((2 ^ b : Nat) : Int) = 2 ^ b := by push_cast; rfl
 rw [← hc]
 by_cases hn : n < 0
 ·have := Jal hn h0; omega
 ·have := J2x (n := n) (by omega) h1; omega

theorem J7u {n : Int} (h0 : -9223372036854775808 ≤ n) (h1 : n ≤ 9223372036854775807) (k : Int) :
  hasI k n = decide (fitI n ≤ bnd k) := by
 unfold hasI
 congr 1
 apply propext
 have hr := J0j k
 have hf : fitI n ≤ 17 := (J0j _).2
 by_cases h : bnd k = 17
 ·rw [h]; simp [hf]
 ·have h2 := Jfj h0 h1 (b := (bnd k).toNat) (by omega)
  rw [show (((bnd k).toNat : Nat) : Int) = bnd k by omega] at h2
  rw [h2]; simp [h]

theorem J4n (n : Int) : 0 ≤ fitI n ∧ fitI n ≤ 17 := J0j _

theorem Jfp {n : Int} (h0 : -9223372036854775808 ≤ n) (h1 : n ≤ 9223372036854775807) : hasI (fitI n) n = true := by
 rw [J7u h0 h1, decide_eq_true_eq, J1w (J4n n).1 (J4n n).2]; exact Int.le_refl _

theorem J8m {n k k' : Int} (h0 : -9223372036854775808 ≤ n) (h1 : n ≤ 9223372036854775807) (h : hasI k n = true) (hk : bnd k ≤ bnd k') : hasI k' n = true := by
 rw [J7u h0 h1, decide_eq_true_eq] at *; omega

theorem J7t {k n : Int} (h : bnd k = 17) : hasI k n = true := by unfold hasI; simp [h]
theorem J4p {k n : Int} (hk : bnd k ≤ 16) (h : hasI k n = true) : 0 ≤ n ∧ n < 2 ^ (bnd k).toNat ∧ n < 65536 := by
 unfold hasI at h
 rw [decide_eq_true_eq] at h
 have hr := J0j k
 have hp := J47 (b := (bnd k).toNat) (by omega)
 have hc : ((2 ^ (bnd k).toNat : Nat) : Int) = 2 ^ (bnd k).toNat := by push_cast; rfl
 rw [← hc] at h ⊢
 omega
theorem Jd7 {k n : Int} (h0 : 0 ≤ n) (h1 : n < 2 ^ (bnd k).toNat) : hasI k n = true := by
 unfold hasI; rw [decide_eq_true_eq]; exact .inr ⟨h0, h1⟩

theorem Jd6 {a b n m : Int} (n0 : -9223372036854775808 ≤ n) (n1 : n ≤ 9223372036854775807) (m0 : -9223372036854775808 ≤ m) (m1 : m ≤ 9223372036854775807)
  (ha : hasI a n = true) (hb : hasI b m = true) (h : toU n ≤ toU m) : hasI (min (bnd a) (bnd b)) n = true := by
 have ra := J0j a
 have rb := J0j b
 by_cases h1 : bnd a ≤ bnd b
 ·refine J8m n0 n1 ha ?_
  rw [show min (bnd a) (bnd b) = bnd a by omega, J7n]; exact Int.le_refl _
 ·have h2 : bnd b ≤ 16 := by omega
  have ⟨m2, m3, m4⟩ := J4p h2 hb
  rw [show min (bnd a) (bnd b) = bnd b by omega]
  have um := J2x m2 m1
  have hn : 0 ≤ n := by
   by_cases h3 : n < 0
   ·have := Jal h3 n0; omega
   ·omega
  have un := J2x hn n1
  refine Jd7 hn ?_
  rw [J7n]; omega

theorem J1k {n : Int} (h0 : 0 ≤ n) (h1 : n ≤ 9223372036854775807) : wrap64 n = n := by unfold wrap64; omega

theorem J2l (k : Nat) : ((2 ^ k : Nat) : Int) = 2 ^ k := by push_cast; rfl

theorem Jfy (op : Int) {a b n m : Int} (n0 : -9223372036854775808 ≤ n) (n1 : n ≤ 9223372036854775807) (m0 : -9223372036854775808 ≤ m) (m1 : m ≤ 9223372036854775807)
  (ha : hasI a n = true) (hb : hasI b m = true) : hasI (opB op (bnd a) (bnd b)) (opI op n m) = true := by
 have ra := J0j a
 have rb := J0j b
 by_cases hres : bnd (opB op (bnd a) (bnd b)) = 17
 ·exact J7t hres
 have rr := J0j (opB op (bnd a) (bnd b))
 have ka : bnd a ≤ 16 → 0 ≤ n ∧ n < ((2 ^ (bnd a).toNat : Nat) : Int) ∧ n < 65536 := fun h => by rw [J2l]; exact J4p h ha
 have kb : bnd b ≤ 16 → 0 ≤ m ∧ m < ((2 ^ (bnd b).toNat : Nat) : Int) ∧ m < 65536 := fun h => by rw [J2l]; exact J4p h hb
 have mk : ∀ (k : Nat) (r : Int), opB op (bnd a) (bnd b) = (k : Int) → k ≤ 16 → opI op n m = r → 0 ≤ r → r < ((2 ^ k : Nat) : Int) → hasI (opB op (bnd a) (bnd b)) (opI op n m) = true := by
  intro k r e hk er h0 h1
  rw [e, er]
  refine Jd7 h0 ?_
  rw [J5v (by omega) (by omega), Int.toNat_natCast, ← J2l]; exact h1
 generalize hA : bnd a = A at *
 generalize hB : bnd b = B at *
 by_cases h1 : op = 1
 ·subst h1
  rw [show opB 1 A B = if A = 0 ∨ B = 0 then max A B else bnd (max A B + 1) by simp [opB]] at *
  by_cases hz : A = 0 ∨ B = 0
  ·rw [if_pos hz] at *
   rw [J1w (by omega) (by omega)] at hres
   have qa := ka (by omega); have qb := kb (by omega)
   rcases hz with h | h
   ·subst h
    have : n = 0 := by have := qa.2.1; simp at this; omega
    subst this
    refine mk B.toNat m (by omega) (by omega) ?_ qb.1 qb.2.1
    rw [opI_1, J1k (by omega) (by omega)]; omega
   ·subst h
    have : m = 0 := by have := qb.2.1; simp at this; omega
    subst this
    refine mk A.toNat n (by omega) (by omega) ?_ qa.1 qa.2.1
    rw [opI_1, J1k (by omega) (by omega)]; omega
  ·rw [if_neg hz] at *
   rw [J7n] at hres
   have hm : max A B + 1 ≤ 16 := by
    by_cases h : max A B + 1 ≤ 16
    ·exact h
    ·exact absurd (J3e (by omega)) hres
   have qa := ka (by omega); have qb := kb (by omega)
   refine mk (max A B + 1).toNat (n + m) (by rw [J5v (by omega) hm]; omega) (by omega) ?_ (by omega) ?_
   ·rw [opI_1, J1k (by omega) (by omega)]
   ·have e : (max A B + 1).toNat = (max A B).toNat + 1 := by omega
    have pa : 2 ^ A.toNat ≤ 2 ^ (max A B).toNat := Nat.pow_le_pow_right (by decide) (by omega)
    have pb : 2 ^ B.toNat ≤ 2 ^ (max A B).toNat := Nat.pow_le_pow_right (by decide) (by omega)
    rw [e, Nat.pow_succ]; omega
 by_cases h3 : op = 3
 ·subst h3
  rw [show opB 3 A B = if A = 0 ∨ B = 0 then 0 else bnd (A + B) by simp [opB]] at *
  by_cases hz : A = 0 ∨ B = 0
  ·rw [if_pos hz] at *
   refine mk 0 0 rfl (by omega) ?_ (by omega) (by decide)
   rcases hz with h | h
   ·subst h
    have qa := ka (by omega)
    have : n = 0 := by have := qa.2.1; simp at this; omega
    subst this
    rw [opI_3, Int.zero_mul]; exact J1k (by omega) (by omega)
   ·subst h
    have qb := kb (by omega)
    have : m = 0 := by have := qb.2.1; simp at this; omega
    subst this
    rw [opI_3, Int.mul_zero]; exact J1k (by omega) (by omega)
  ·rw [if_neg hz] at *
   rw [J7n] at hres
   have hm : A + B ≤ 16 := by
    by_cases h : A + B ≤ 16
    ·exact h
    ·exact absurd (J3e (by omega)) hres
   have qa := ka (by omega); have qb := kb (by omega)
   obtain ⟨x, rfl⟩ := Int.eq_ofNat_of_zero_le qa.1
   obtain ⟨y, rfl⟩ := Int.eq_ofNat_of_zero_le qb.1
   have hxy : x * y < 2 ^ (A.toNat + B.toNat) := by
    rw [Nat.pow_add]
    exact Nat.mul_lt_mul'' (by omega) (by omega)
   have hp := J47 (b := A.toNat + B.toNat) (by omega)
   refine mk (A + B).toNat ((x * y : Nat) : Int) (by rw [J5v (by omega) hm]; omega) (by omega) ?_ (by omega) ?_
   ·rw [opI_3, show (x : Int) * (y : Int) = ((x * y : Nat) : Int) by push_cast; rfl, J1k (by omega) (by omega)]
   ·rw [show (A + B).toNat = A.toNat + B.toNat by omega]; omega
 by_cases h4 : op = 4
 ·subst h4
  rw [show opB 4 A B = min A B by simp [opB]] at *
  rw [J1w (by omega) (by omega)] at hres
  have hle : ((toU n &&& toU m : Nat)) < 2 ^ (min A B).toNat := by
   by_cases h : A ≤ B
   ·have qa := ka (by omega)
    have := J2x qa.1 n1
    have h5 : toU n &&& toU m ≤ toU n := Nat.and_le_left
    rw [show (min A B).toNat = A.toNat by omega]; omega
   ·have qb := kb (by omega)
    have := J2x qb.1 m1
    have h5 : toU n &&& toU m ≤ toU m := Nat.and_le_right
    rw [show (min A B).toNat = B.toNat by omega]; omega
  have hp := J47 (b := (min A B).toNat) (by omega)
  refine mk (min A B).toNat ((toU n &&& toU m : Nat) : Int) (by omega) (by omega) ?_ (by omega) (by omega)
  rw [opI_4, J1k (by omega) (by omega)]
 by_cases h5 : op = 5
 ·subst h5
  rw [show opB 5 A B = max A B by simp [opB]] at *
  rw [J1w (by omega) (by omega)] at hres
  have qa := ka (by omega); have qb := kb (by omega)
  have un := J2x qa.1 n1; have um := J2x qb.1 m1
  have pa : 2 ^ A.toNat ≤ 2 ^ (max A B).toNat := Nat.pow_le_pow_right (by decide) (by omega)
  have pb : 2 ^ B.toNat ≤ 2 ^ (max A B).toNat := Nat.pow_le_pow_right (by decide) (by omega)
  have hle : (toU n ||| toU m : Nat) < 2 ^ (max A B).toNat := Nat.or_lt_two_pow (by omega) (by omega)
  have hp := J47 (b := (max A B).toNat) (by omega)
  refine mk (max A B).toNat ((toU n ||| toU m : Nat) : Int) (by omega) (by omega) ?_ (by omega) (by omega)
  rw [opI_5, J1k (by omega) (by omega)]
 by_cases h6 : op = 6
 ·subst h6
  rw [show opB 6 A B = max A B by simp [opB]] at *
  rw [J1w (by omega) (by omega)] at hres
  have qa := ka (by omega); have qb := kb (by omega)
  have un := J2x qa.1 n1; have um := J2x qb.1 m1
  have pa : 2 ^ A.toNat ≤ 2 ^ (max A B).toNat := Nat.pow_le_pow_right (by decide) (by omega)
  have pb : 2 ^ B.toNat ≤ 2 ^ (max A B).toNat := Nat.pow_le_pow_right (by decide) (by omega)
  have hle : (toU n ^^^ toU m : Nat) < 2 ^ (max A B).toNat := Nat.xor_lt_two_pow (by omega) (by omega)
  have hp := J47 (b := (max A B).toNat) (by omega)
  refine mk (max A B).toNat ((toU n ^^^ toU m : Nat) : Int) (by omega) (by omega) ?_ (by omega) (by omega)
  rw [opI_6, J1k (by omega) (by omega)]
 by_cases h8 : op = 8 ∨ op = 9 ∨ op = 10
 ·have e : opB op A B = A := by unfold opB; rw [if_neg h1, if_neg h3, if_neg h4, if_neg (by omega), if_pos h8]
  rw [e] at hres mk ⊢
  rw [J1w (by omega) (by omega)] at hres
  have qa := ka (by omega)
  have un := J2x qa.1 n1
  have fin : ∀ v : Nat, v ≤ toU n → opI op n m = wrap64 (v : Int) → hasI A (opI op n m) = true := by
   intro v hv ev
   refine mk A.toNat (v : Int) (by omega) (by omega) ?_ (by omega) (by omega)
   rw [ev, J1k (by omega) (by omega)]
  rcases h8 with h | h | h
  ·subst h; exact fin _ (Nat.div_le_self _ _) (opI_8 n m)
  ·subst h; exact fin _ (Nat.div_le_self _ _) (opI_9 n m)
  ·subst h; exact fin _ (Nat.mod_le _ _) (Jdn n m)
 ·exfalso
  have e : opB op A B = 17 := by unfold opB; rw [if_neg h1, if_neg h3, if_neg h4, if_neg (by omega), if_neg h8]
  rw [e] at hres
  exact hres (J1w (by omega) (by omega))
end
section
open Go.RowKit
set_option linter.unusedVariables false
structure Kn where
 b : Int
 s : Bool

namespace Kn
def of (n : Int) : Kn := ⟨fitI n, false⟩
def join (x y : Kn) : Kn := ⟨max (bnd x.b) (bnd y.b), x.s || y.s⟩
def less (x y : Kn) : Kn := ⟨min (bnd x.b) (bnd y.b), x.s⟩
def op (o : Int) (x y : Kn) : Kn := ⟨opB o (bnd x.b) (bnd y.b), x.s || y.s⟩
def index (k : Kn) (n : Int) : Kn := if n < 0 then ⟨17, k.s⟩ else op 1 k (of n)
def Norm (x : Kn) : Prop := 0 ≤ x.b ∧ x.b ≤ 17
def le (x y : Kn) : Prop := bnd x.b ≤ bnd y.b ∧ (x.s = true → y.s = true)

theorem le_refl (x : Kn) : le x x := ⟨Int.le_refl _, id⟩
theorem le_trans {x y z : Kn} (h : le x y) (k : le y z) : le x z := ⟨Int.le_trans h.1 k.1, fun q => k.2 (h.2 q)⟩
theorem le_anti {x y : Kn} (hx : x.Norm) (hy : y.Norm) (h : le x y) (k : le y x) : x = y := by
 have e1 := J1w hx.1 hx.2
 have e2 := J1w hy.1 hy.2
 have hb : x.b = y.b := by have := h.1; have := k.1; omega
 have hs : x.s = y.s := Bool.eq_iff_iff.2 ⟨h.2, k.2⟩
 cases x; cases y; simp_all

theorem Jdl (o : Int) {a b : Int} (h0 : 0 ≤ a) (h1 : a ≤ 17) (h2 : 0 ≤ b) (h3 : b ≤ 17) : 0 ≤ opB o a b ∧ opB o a b ≤ 17 := by
 have hb := fun k => J0j k
 unfold opB
 split
 ·split
  ·omega
  ·exact hb _
 split
 ·split
  ·omega
  ·exact hb _
 split
 ·omega
 split
 ·omega
 split
 ·omega
 ·omega
theorem Jgh (o : Int) {a a' b b' : Int} (h0 : 0 ≤ a) (h1 : a ≤ a') (h2 : a' ≤ 17) (k0 : 0 ≤ b) (k1 : b ≤ b') (k2 : b' ≤ 17) : opB o a b ≤ opB o a' b' := by
 unfold opB
 split
 ·unfold bnd
  split <;> split <;> (repeat' split) <;> omega
 split
 ·unfold bnd
  split <;> split <;> (repeat' split) <;> omega
 split
 ·omega
 split
 ·omega
 split
 ·omega
 ·omega

theorem norm_of (n : Int) : (of n).Norm := J4n n
theorem norm_join (x y : Kn) : (join x y).Norm := by have := J0j x.b; have := J0j y.b; unfold join Norm; dsimp only; omega
theorem norm_less (x y : Kn) : (less x y).Norm := by have := J0j x.b; have := J0j y.b; unfold less Norm; dsimp only; omega
theorem norm_op (o : Int) (x y : Kn) : (op o x y).Norm := by have hx := J0j x.b; have hy := J0j y.b; exact Jdl o hx.1 hx.2 hy.1 hy.2
theorem norm_index (k : Kn) (n : Int) : (index k n).Norm := by
 unfold index; split
 ·unfold Norm; dsimp only; omega
 ·exact norm_op _ _ _

theorem bnd_norm {x : Kn} (h : x.Norm) : bnd x.b = x.b := J1w h.1 h.2
theorem join_l (x y : Kn) : le x (join x y) := by
 have := bnd_norm (norm_join x y); unfold le; rw [this]
 unfold join; dsimp only
 exact ⟨by omega, fun h => by simp [h]⟩
theorem join_r (x y : Kn) : le y (join x y) := by
 have := bnd_norm (norm_join x y); unfold le; rw [this]
 unfold join; dsimp only
 exact ⟨by omega, fun h => by simp [h]⟩
theorem join_le {x y z : Kn} (h : le x z) (k : le y z) : le (join x y) z := by
 have := bnd_norm (norm_join x y); unfold le at *; rw [this]
 unfold join; dsimp only
 refine ⟨by omega, fun q => ?_⟩
 rcases Bool.or_eq_true_iff.1 q with q | q
 ·exact h.2 q
 ·exact k.2 q
theorem less_mono {x x' y y' : Kn} (h : le x x') (k : le y y') : le (less x y) (less x' y') := by
 have e1 := bnd_norm (norm_less x y); have e2 := bnd_norm (norm_less x' y'); unfold le at *; rw [e1, e2]
 unfold less; dsimp only
 exact ⟨by omega, h.2⟩
theorem op_mono (o : Int) {x x' y y' : Kn} (h : le x x') (k : le y y') : le (op o x y) (op o x' y') := by
 have e1 := bnd_norm (norm_op o x y); have e2 := bnd_norm (norm_op o x' y'); unfold le at *; rw [e1, e2]
 unfold op; dsimp only
 have r1 := J0j x.b; have r2 := J0j x'.b; have r3 := J0j y.b; have r4 := J0j y'.b
 refine ⟨Jgh o r1.1 h.1 r2.2 r3.1 k.1 r4.2, fun q => ?_⟩
 rcases Bool.or_eq_true_iff.1 q with q | q
 ·rw [h.2 q]; rfl
 ·rw [k.2 q]; simp
theorem index_mono {x x' : Kn} (n : Int) (h : le x x') : le (index x n) (index x' n) := by
 unfold index; split
 ·exact ⟨Int.le_refl _, h.2⟩
 ·exact op_mono 1 h (le_refl _)
end Kn

abbrev KS := Nat → Kn

def setK (s : KS) (a : Int) (v : Kn) : KS := fun j => if j = a.toNat then v else s j

def nextK (p : Prg) (i : Ins) (s : KS) : KS :=
 if i.op = 1 then setK s i.a (Kn.of i.n)
 else if i.op = 2 then setK s i.a (s i.b.toNat)
 else if i.op = 10 then setK s i.a (Kn.index (s i.b.toNat) i.n)
 else if i.op = 3 ∨ i.op = 5 then setK s i.a ⟨17, p.sec i.c.toNat⟩
 else if i.op = 11 then setK s i.a (Kn.less (s i.a.toNat) (Kn.of (wrap64 (i.n - 1))))
 else if i.op = 4 ∨ i.op = 6 ∨ i.op = 12 then s
 else setK s i.a (Kn.op (i.op - 20) (s i.b.toNat) (s i.c.toNat))

def J1c (i : Ins) (s : KS) : KS := setK s i.a (Kn.less (s i.a.toNat) (s i.b.toNat))
def J12 (i : Ins) (s : KS) : KS := setK s i.b (Kn.less (s i.b.toNat) (s i.a.toNat))
def bothK (i : Ins) (s : KS) : KS := setK (J1c i s) i.b (Kn.less (s i.b.toNat) (s i.a.toNat))

def yesK (i : Ins) (s : KS) : KS := if i.c = 1 then bothK i s else if i.c = 2 then s else if i.c = 3 then J1c i s else J12 i s
def noK (i : Ins) (s : KS) : KS := if i.c = 1 then s else if i.c = 2 then bothK i s else if i.c = 3 then J12 i s else J1c i s

def J0d (p : Prg) (at_ : Nat) (s : KS) : List (Nat × KS) :=
 if (p.ins at_).op = 7 then [((p.ins at_).n.toNat, s)]
 else if (p.ins at_).op = 9 then []
 else if (p.ins at_).op = 8 then [((p.ins at_).n.toNat, yesK (p.ins at_) s), (at_ + 1, noK (p.ins at_) s)]
 else [(at_ + 1, nextK p (p.ins at_) s)]

def leS (s t : KS) : Prop := ∀ j, j < 8 → Kn.le (s j) (t j)
def NormS (s : KS) : Prop := ∀ j, j < 8 → (s j).Norm
theorem J7x (s : KS) : leS s s := fun _ _ => Kn.le_refl _
theorem J69 {s t u : KS} (h : leS s t) (k : leS t u) : leS s u := fun j hj => Kn.le_trans (h j hj) (k j hj)

theorem J24 {s t : KS} (h : leS s t) {a : Int} {v v' : Kn} (k : Kn.le v v') : leS (setK s a v) (setK t a v') := fun j hj => by
 unfold setK; split
 ·exact k
 ·exact h j hj
theorem J25 {s : KS} (h : NormS s) {a : Int} {v : Kn} (k : v.Norm) : NormS (setK s a v) := fun j hj => by
 unfold setK; split
 ·exact k
 ·exact h j hj

theorem J1a {p : Prg} {i : Ins} (h : InsOk p.rl p.log p.cl 8 i) :
  (¬ (i.op = 7 ∨ i.op = 12) → i.a.toNat < 8) ∧ (i.op = 2 ∨ i.op = 3 ∨ i.op = 4 ∨ i.op = 8 ∨ i.op = 10 ∨ 21 ≤ i.op → i.b.toNat < 8) ∧ (21 ≤ i.op → i.c.toNat < 8) ∧
  (1 ≤ i.op ∧ i.op ≤ 12 ∨ 21 ≤ i.op ∧ i.op ≤ 30) := by
 unfold InsOk Reg at h
 have hop : i.op = 1 ∨ i.op = 2 ∨ i.op = 3 ∨ i.op = 4 ∨ i.op = 5 ∨ i.op = 6 ∨ i.op = 7 ∨ i.op = 8 ∨ i.op = 9 ∨ i.op = 10 ∨ i.op = 11 ∨ i.op = 12 ∨ ¬ (1 ≤ i.op ∧ i.op ≤ 12) := by omega
 rcases hop with h1 | h1 | h1 | h1 | h1 | h1 | h1 | h1 | h1 | h1 | h1 | h1 | h1
 all_goals first
  | (simp [h1] at h; omega)
  | (rw [if_neg (by omega), if_neg (by omega), if_neg (by omega), if_neg (by omega), if_neg (by omega), if_neg (by omega), if_neg (by omega), if_neg (by omega), if_neg (by omega), if_neg (by omega), if_neg (by omega), if_neg (by omega)] at h; omega)

section
variable {p : Prg} {i : Ins}
theorem J4h (hi : InsOk p.rl p.log p.cl 8 i) (h8 : i.op = 8) {s t : KS} (h : leS s t) : leS (J1c i s) (J1c i t) := by
 have hr := J1a hi
 exact J24 h (Kn.less_mono (h _ (hr.1 (by omega))) (h _ (hr.2.1 (by omega))))
theorem J5d (hi : InsOk p.rl p.log p.cl 8 i) (h8 : i.op = 8) {s t : KS} (h : leS s t) : leS (J12 i s) (J12 i t) := by
 have hr := J1a hi
 exact J24 h (Kn.less_mono (h _ (hr.2.1 (by omega))) (h _ (hr.1 (by omega))))
theorem J75 (hi : InsOk p.rl p.log p.cl 8 i) (h8 : i.op = 8) {s t : KS} (h : leS s t) : leS (bothK i s) (bothK i t) := by
 have hr := J1a hi
 exact J24 (J4h hi h8 h) (Kn.less_mono (h _ (hr.2.1 (by omega))) (h _ (hr.1 (by omega))))
theorem Jez (hi : InsOk p.rl p.log p.cl 8 i) (h8 : i.op = 8) {s t : KS} (h : leS s t) : leS (yesK i s) (yesK i t) := by
 unfold yesK
 split
 ·exact J75 hi h8 h
 split
 ·exact h
 split
 ·exact J4h hi h8 h
 ·exact J5d hi h8 h
theorem Jgd (hi : InsOk p.rl p.log p.cl 8 i) (h8 : i.op = 8) {s t : KS} (h : leS s t) : leS (noK i s) (noK i t) := by
 unfold noK
 split
 ·exact h
 split
 ·exact J75 hi h8 h
 split
 ·exact J5d hi h8 h
 ·exact J4h hi h8 h
theorem Jc4 (hi : InsOk p.rl p.log p.cl 8 i) (h7 : ¬ i.op = 7) (h8 : ¬ i.op = 8) (h9 : ¬ i.op = 9) {s t : KS} (h : leS s t) : leS (nextK p i s) (nextK p i t) := by
 have hr := J1a hi
 unfold nextK
 split
 ·exact J24 h (Kn.le_refl _)
 split
 ·exact J24 h (h _ (hr.2.1 (by omega)))
 split
 ·exact J24 h (Kn.index_mono _ (h _ (hr.2.1 (by omega))))
 split
 ·exact J24 h (Kn.le_refl _)
 split
 ·exact J24 h (Kn.less_mono (h _ (hr.1 (by omega))) (Kn.le_refl _))
 split
 ·exact h
 ·exact J24 h (Kn.op_mono _ (h _ (hr.2.1 (by omega))) (h _ (hr.2.2.1 (by omega))))
theorem Jc5 {s : KS} (hi : InsOk p.rl p.log p.cl 8 i) (h7 : ¬ i.op = 7) (h8 : ¬ i.op = 8) (h9 : ¬ i.op = 9) (h : NormS s) : NormS (nextK p i s) := by
 have hr := J1a hi
 unfold nextK
 split
 ·exact J25 h (Kn.norm_of _)
 split
 ·exact J25 h (h _ (hr.2.1 (by omega)))
 split
 ·exact J25 h (Kn.norm_index _ _)
 split
 ·exact J25 h (by unfold Kn.Norm; dsimp only; omega)
 split
 ·exact J25 h (Kn.norm_less _ _)
 split
 ·exact h
 ·exact J25 h (Kn.norm_op _ _ _)
theorem J4i {s : KS} (h : NormS s) : NormS (J1c i s) := J25 h (Kn.norm_less _ _)
theorem J5e {s : KS} (h : NormS s) : NormS (J12 i s) := J25 h (Kn.norm_less _ _)
theorem J76 {s : KS} (h : NormS s) : NormS (bothK i s) := J25 (J4i h) (Kn.norm_less _ _)
theorem Jf0 {s : KS} (h : NormS s) : NormS (yesK i s) := by
 unfold yesK
 split
 ·exact J76 h
 split
 ·exact h
 split
 ·exact J4i h
 ·exact J5e h
theorem Jge {s : KS} (h : NormS s) : NormS (noK i s) := by
 unfold noK
 split
 ·exact h
 split
 ·exact J76 h
 split
 ·exact J5e h
 ·exact J4i h
end

abbrev KV := Nat → Option KS

theorem Jc0 {p : Prg} {at_ : Nat} (hi : InsOk p.rl p.log p.cl 8 (p.ins at_)) {s t : KS} (h : leS s t) {x : Nat × KS} (hx : x ∈ J0d p at_ s) : ∃ y, (x.1, y) ∈ J0d p at_ t ∧ leS x.2 y := by
 unfold J0d at *
 by_cases h7 : (p.ins at_).op = 7
 ·rw [if_pos h7] at *
  simp at hx; subst hx
  exact ⟨t, by simp, h⟩
 rw [if_neg h7] at *
 by_cases h9 : (p.ins at_).op = 9
 ·rw [if_pos h9] at *; simp at hx
 rw [if_neg h9] at *
 by_cases h8 : (p.ins at_).op = 8
 ·rw [if_pos h8] at *
  simp at hx
  rcases hx with rfl | rfl
  ·exact ⟨_, List.mem_cons_self, Jez hi h8 h⟩
  ·exact ⟨noK (p.ins at_) t, by simp, Jgd hi h8 h⟩
 ·rw [if_neg h8] at *
  simp at hx; subst hx
  exact ⟨nextK p (p.ins at_) t, by simp, Jc4 hi h7 h8 h9 h⟩

theorem Jc1 {p : Prg} {at_ : Nat} (hi : InsOk p.rl p.log p.cl 8 (p.ins at_)) {s : KS} (h : NormS s) {x : Nat × KS} (hx : x ∈ J0d p at_ s) : NormS x.2 := by
 unfold J0d at *
 by_cases h7 : (p.ins at_).op = 7
 ·rw [if_pos h7] at *
  simp at hx; subst hx; exact h
 rw [if_neg h7] at *
 by_cases h9 : (p.ins at_).op = 9
 ·rw [if_pos h9] at *; simp at hx
 rw [if_neg h9] at *
 by_cases h8 : (p.ins at_).op = 8
 ·rw [if_pos h8] at *
  simp at hx
  rcases hx with rfl | rfl
  ·exact Jf0 h
  ·exact Jge h
 ·rw [if_neg h8] at *
  simp at hx; subst hx
  exact Jc5 hi h7 h8 h9 h

def zeroK : KS := fun _ => ⟨0, false⟩

structure Jao (p : Prg) (l : KV) : Prop where
 first : ∃ s, l 0 = some s ∧ leS zeroK s
 leads : ∀ at_ s, at_ < p.cl → l at_ = some s → ∀ x ∈ J0d p at_ s, x.1 < p.cl → ∃ u, l x.1 = some u ∧ leS x.2 u

def Jhn (p : Prg) (l l' : KV) : Prop := ∀ at_ s, at_ < p.cl → l at_ = some s → ∃ u, l' at_ = some u ∧ leS s u
def NormV (p : Prg) (l : KV) : Prop := ∀ at_ s, at_ < p.cl → l at_ = some s → NormS s

structure Known (p : Prg) (l : KV) : Prop where
 closed : Jao p l
 norm : NormV p l
 least : ∀ l', Jao p l' → Jhn p l l'

theorem Known.one {p : Prg} {l l' : KV} (h : Known p l) (k : Known p l') {at_ : Nat} (ha : at_ < p.cl) :
  (l at_ = none ∧ l' at_ = none) ∨ ∃ s t, l at_ = some s ∧ l' at_ = some t ∧ ∀ j, j < 8 → s j = t j := by
 cases e : l at_ with
 | none =>
  cases e' : l' at_ with
  | none => exact .inl ⟨rfl, rfl⟩
  | some t =>
   obtain ⟨u, hu, _⟩ := k.least l h.closed at_ t ha e'
   rw [e] at hu; cases hu
 | some s =>
  obtain ⟨t, ht, hst⟩ := h.least l' k.closed at_ s ha e
  obtain ⟨u, hu, htu⟩ := k.least l h.closed at_ t ha ht
  rw [e] at hu; cases hu
  exact .inr ⟨s, t, rfl, ht, fun j hj => Kn.le_anti (h.norm at_ s ha e j hj) (k.norm at_ t ha ht j hj) (hst j hj) (htu j hj)⟩
def joinV (o : Option KS) (t : KS) : KS := match o with
 | none => t
 | some s => fun j => Kn.join (s j) (t j)
def putV (l : KV) (n : Nat) (s : KS) : KV := fun x => if x = n then some s else l x
def SameV (s : KS) (o : Option KS) : Prop := ∃ t, o = some t ∧ ∀ j, j < 8 → s j = t j

theorem J18 (l : KV) (n : Nat) (s : KS) : putV l n s n = some s := by simp [putV]
theorem J16 (l : KV) {n x : Nat} (h : x ≠ n) (s : KS) : putV l n s x = l x := by simp [putV, h]

structure OnWay (p : Prg) (l : KV) : Prop where
 first : ∃ s, l 0 = some s ∧ leS zeroK s
 norm : NormV p l
 low : ∀ l', Jao p l' → Jhn p l l'

theorem J7w {o : Option KS} {s t : KS} (h : o = some s) : leS s (joinV o t) := by subst h; exact fun j _ => Kn.join_l _ _
theorem Jdd {o : Option KS} {t : KS} : leS t (joinV o t) := by
 cases o with
 | none => exact J7x t
 | some s => exact fun j _ => Kn.join_r _ _

theorem OnWay.start {p : Prg} (h : 0 < p.cl) : OnWay p (putV (fun _ => none) 0 zeroK) where
 first := ⟨zeroK, J18 _ _ _, J7x _⟩
 norm := fun at_ s ha e => by
  by_cases h0 : at_ = 0
  ·subst h0; rw [J18] at e; cases e
   exact fun j _ => by unfold zeroK Kn.Norm; dsimp only; omega
  ·rw [J16 _ h0] at e; cases e
 low := fun l' hc at_ s ha e => by
  by_cases h0 : at_ = 0
  ·subst h0; rw [J18] at e; cases e
   exact hc.first
  ·rw [J16 _ h0] at e; cases e

structure Just (p : Prg) (x : Nat × KS) : Prop where
 norm : NormS x.2
 low : ∀ l', Jao p l' → x.1 < p.cl → ∃ u, l' x.1 = some u ∧ leS x.2 u
theorem OnWay.just {p : Prg} (hp : p.Ok 200 8) {l : KV} (h : OnWay p l) {at_ : Nat} {s : KS} (ha : at_ < p.cl) (e : l at_ = some s) {x : Nat × KS} (hx : x ∈ J0d p at_ s) : Just p x := by
 have hi := hp.2.2.2 at_ ha
 refine ⟨Jc1 hi (h.norm at_ s ha e) hx, fun l' hc hn => ?_⟩
 obtain ⟨u, eu, hsu⟩ := h.low l' hc at_ s ha e
 obtain ⟨y, hy, hxy⟩ := Jc0 hi hsu hx
 obtain ⟨v, ev, hyv⟩ := hc.leads at_ u ha eu _ hy hn
 exact ⟨v, ev, J69 hxy hyv⟩
theorem OnWay.joinJ {p : Prg} {l : KV} (h : OnWay p l) {x : Nat × KS} (hx : Just p x) (hn : x.1 < p.cl) : OnWay p (putV l x.1 (joinV (l x.1) x.2)) := by
 refine ⟨?_, ?_, ?_⟩
 ·obtain ⟨s0, e0, l0⟩ := h.first
  by_cases h0 : 0 = x.1
  ·refine ⟨joinV (l x.1) x.2, by rw [← h0]; exact J18 _ _ _, ?_⟩
   rw [← h0, e0]
   exact J69 l0 (J7w rfl)
  ·exact ⟨s0, by rw [J16 _ h0]; exact e0, l0⟩
 ·intro a t hat et
  by_cases h0 : a = x.1
  ·subst h0
   rw [J18] at et; cases et
   cases eo : l x.1 with
   | none => exact hx.norm
   | some s1 => exact fun j _ => Kn.norm_join _ _
  ·rw [J16 _ h0] at et; exact h.norm a t hat et
 ·intro l' hc a t hat et
  by_cases h0 : a = x.1
  ·subst h0
   rw [J18] at et; cases et
   obtain ⟨v, ev, hxv⟩ := hx.low l' hc hn
   refine ⟨v, ev, ?_⟩
   cases eo : l x.1 with
   | none => exact hxv
   | some s1 =>
    obtain ⟨v', ev', h1⟩ := h.low l' hc x.1 s1 hn eo
    rw [ev] at ev'; cases ev'
    exact fun j hj => Kn.join_le (h1 j hj) (hxv j hj)
  ·rw [J16 _ h0] at et; exact h.low l' hc a t hat et
def Held (p : Prg) (l : KV) (at_ : Nat) : Prop := ∀ s, l at_ = some s → ∀ x ∈ J0d p at_ s, x.1 < p.cl → ∃ u, l x.1 = some u ∧ leS x.2 u

theorem J3s {o : Option KS} {t : KS} (h : SameV (joinV o t) o) : ∃ u, o = some u ∧ leS t u := by
 obtain ⟨u, e, hj⟩ := h
 refine ⟨u, e, fun j hj' => ?_⟩
 rw [← hj j hj']
 exact Jdd j hj'

theorem OnWay.known {p : Prg} {l : KV} (h : OnWay p l) (hh : ∀ at_ s, at_ < p.cl → l at_ = some s → ∀ x ∈ J0d p at_ s, x.1 < p.cl → ∃ u, l x.1 = some u ∧ leS x.2 u) : Known p l :=
 ⟨⟨h.first, hh⟩, h.norm, h.low⟩

def rankK (k : Kn) : Nat := k.b.toNat + if k.s then 1 else 0
def rankS (s : KS) : Nat → Nat
 | 0 => 1
 | n + 1 => rankS s n + rankK (s n)
def rankO (o : Option KS) : Nat := match o with
 | none => 0
 | some s => rankS s 8
def rankV (l : KV) : Nat → Nat
 | 0 => 0
 | n + 1 => rankV l n + rankO (l n)

theorem Jgw {k : Kn} (h : k.Norm) : rankK k ≤ 18 := by unfold rankK; have := h.2; split <;> omega
theorem Jba {s : KS} : ∀ n, (∀ j, j < n → (s j).Norm) → rankS s n ≤ 1 + 18 * n
 | 0, _ => by simp [rankS]
 | n + 1, h => by
  have h1 := Jba n (fun j hj => h j (by omega))
  have h2 := Jgw (h n (by omega))
  rw [rankS]; omega
theorem Jgx {o : Option KS} (h : ∀ s, o = some s → NormS s) : rankO o ≤ 145 := by
 cases o with
 | none => simp [rankO]
 | some s => exact Jba 8 (h s rfl)
theorem J5o {p : Prg} {l : KV} (h : NormV p l) : ∀ n, n ≤ p.cl → rankV l n ≤ 145 * n
 | 0, _ => by simp [rankV]
 | n + 1, hn => by
  have h1 := J5o h n (by omega)
  have h2 := Jgx (o := l n) (fun s e => h n s (by omega) e)
  rw [rankV]; omega

theorem Jc7 {x y : Kn} (hx : x.Norm) (hy : y.Norm) (h : Kn.le x y) : rankK x ≤ rankK y ∧ (rankK y ≤ rankK x → x = y) := by
 have e1 := Kn.bnd_norm hx; have e2 := Kn.bnd_norm hy
 have hb : x.b ≤ y.b := by have := h.1; omega
 have hs := h.2
 unfold rankK
 cases hxs : x.s <;> cases hys : y.s
 ·refine ⟨by simp; omega, fun q => Kn.le_anti hx hy h ⟨?_, by simp [hys]⟩⟩
  simp at q; have := hx.1; have := hy.1; omega
 ·refine ⟨by simp; omega, fun q => ?_⟩
  simp at q; have := hx.1; have := hy.1; omega
 ·simp [hxs, hys] at hs
 ·refine ⟨by simp; omega, fun q => Kn.le_anti hx hy h ⟨?_, by simp [hxs]⟩⟩
  simp at q; have := hx.1; have := hy.1; omega
theorem J7e {s t : KS} : ∀ n, n ≤ 8 → NormS s → NormS t → leS s t → rankS s n ≤ rankS t n ∧ (rankS t n ≤ rankS s n → ∀ j, j < n → s j = t j)
 | 0, _, _, _, _ => ⟨Nat.le_refl _, fun _ j hj => by omega⟩
 | n + 1, hn, hs, ht, h => by
  have h1 := J7e n (by omega) hs ht h
  have h2 := Jc7 (hs n (by omega)) (ht n (by omega)) (h n (by omega))
  rw [rankS, rankS]
  refine ⟨by omega, fun q j hj => ?_⟩
  by_cases e : j = n
  ·subst e; exact h2.2 (by omega)
  ·exact h1.2 (by omega) j (by omega)
theorem J6k (s : KS) : ∀ n, 1 ≤ rankS s n
 | 0 => Nat.le_refl _
 | n + 1 => by have := J6k s n; rw [rankS]; omega

theorem Jgy {o : Option KS} {t : KS} (hn : ∀ s, o = some s → NormS s) (ht : NormS t) (h : ¬ SameV (joinV o t) o) : rankO o < rankS (joinV o t) 8 := by
 cases o with
 | none => exact J6k _ 8
 | some s =>
  have hs := hn s rfl
  have hj : NormS (joinV (some s) t) := fun j _ => Kn.norm_join _ _
  have hm := J7e 8 (Nat.le_refl _) hs hj (J7w rfl)
  rcases Nat.lt_or_ge (rankS s 8) (rankS (joinV (some s) t) 8) with q | q
  ·exact q
  ·exact absurd ⟨s, rfl, fun j hj' => (hm.2 q j hj').symm⟩ h

theorem J5n (l : KV) : ∀ m n, n < m → rankO (l n) ≤ rankV l m
 | 0, _, h => absurd h (Nat.not_lt_zero _)
 | m + 1, n, h => by
  rw [rankV]
  by_cases e : n = m
  ·subst e; omega
  ·have := J5n l m n (by omega); omega
theorem J6l (l : KV) (n : Nat) (s : KS) : ∀ m, rankV (putV l n s) m = if n < m then rankV l m + rankS s 8 - rankO (l n) else rankV l m
 | 0 => by simp [rankV]
 | m + 1 => by
  rw [rankV, J6l l n s m, rankV]
  by_cases e : m = n
  ·subst e
   rw [if_neg (by omega), if_pos (by omega), J18]
   show rankV l m + rankS s 8 = _
   omega
  ·rw [J16 _ e]
   by_cases h : n < m
   ·rw [if_pos h, if_pos (by omega)]
    have : rankO (l n) ≤ rankV l m := J5n l m n h
    omega
   ·rw [if_neg h, if_neg (by omega)]

theorem Ja8 {p : Prg} {l : KV} (hl : NormV p l) {n : Nat} (hn : n < p.cl) {t : KS} (ht : NormS t) (h : ¬ SameV (joinV (l n) t) (l n)) : rankV l p.cl < rankV (putV l n (joinV (l n) t)) p.cl := by
 rw [J6l, if_pos hn]
 have h1 := Jgy (o := l n) (fun s e => hl n s hn e) ht h
 have h2 := J5n l p.cl n hn
 omega

def J0f (p : Prg) (i : Ins) (s : KS) : Bool :=
 if i.op = 3 then (s i.b.toNat).s
 else if i.op = 4 then (s i.b.toNat).s || ((s i.a.toNat).s && !p.sec i.c.toNat)
 else if i.op = 6 then (s i.a.toNat).s && !p.sec i.c.toNat
 else if i.op = 8 then (s i.a.toNat).s || (s i.b.toNat).s
 else if i.op = 29 ∨ i.op = 30 then (s i.b.toNat).s || (s i.c.toNat).s
 else if i.op = 9 then (s i.a.toNat).s
 else false
def J19 (p : Prg) (i : Ins) (s : KS) : Bool := (decide (i.op = 3) || decide (i.op = 4)) && (decide (i.n < 0) || decide (p.log i.c.toNat < (Kn.index (s i.b.toNat) i.n).b))
def outK (p : Prg) (at_ : Nat) : Bool := !(decide ((p.ins at_).op = 7)) && (!(decide ((p.ins at_).op = 9)) && decide (p.cl ≤ at_ + 1))
def J0r (p : Prg) (at_ : Nat) (s : KS) : Int := if outK p at_ || J19 p (p.ins at_) s then 4 else if J0f p (p.ins at_) s then 5 else 0
def scanK (p : Prg) (l : KV) : Nat → Nat → Int × Int
 | 0, _ => (0, 0)
 | n + 1, at_ => match l at_ with
  | none => scanK p l n (at_ + 1)
  | some s => if J0r p at_ s = 0 then scanK p l n (at_ + 1) else (J0r p at_ s, at_)
def J0c (p : Prg) (l : KV) : Int × Int := scanK p l p.cl 0

theorem J9r {p : Prg} (hp : p.Ok 200 8) {at_ : Nat} (ha : at_ < p.cl) {s t : KS} (h : ∀ j, j < 8 → s j = t j) : J0r p at_ s = J0r p at_ t := by
 have hi := hp.2.2.2 at_ ha
 have hr := J1a hi
 unfold J0r J19 J0f
 generalize p.ins at_ = i at *
 by_cases h3 : i.op = 3
 ·rw [h _ (hr.2.1 (by omega))]; simp [h3]
 by_cases h4 : i.op = 4
 ·rw [h _ (hr.2.1 (by omega)), h _ (hr.1 (by omega))]; simp [h4]
 by_cases h6 : i.op = 6
 ·rw [h _ (hr.1 (by omega))]; simp [h6]
 by_cases h8 : i.op = 8
 ·rw [h _ (hr.1 (by omega)), h _ (hr.2.1 (by omega))]; simp [h8]
 by_cases h29 : i.op = 29 ∨ i.op = 30
 ·rw [h _ (hr.2.1 (by omega)), h _ (hr.2.2.1 (by omega))]; simp [h3, h4, h6, h8, h29]
 by_cases h9 : i.op = 9
 ·rw [h _ (hr.1 (by omega))]; simp [h9]
 ·simp [h3, h4, h6, h8, h29, h9]

theorem J57 {p : Prg} (hp : p.Ok 200 8) {l l' : KV} (h : ∀ at_, at_ < p.cl → (l at_ = none ∧ l' at_ = none) ∨ ∃ s t, l at_ = some s ∧ l' at_ = some t ∧ ∀ j, j < 8 → s j = t j) :
  ∀ n at_, at_ + n = p.cl → scanK p l n at_ = scanK p l' n at_
 | 0, at_, _ => rfl
 | n + 1, at_, e => by
  rcases h at_ (by omega) with ⟨h1, h2⟩ | ⟨s, t, h1, h2, hst⟩
  ·simp only [scanK, h1, h2]
   exact J57 hp h n (at_ + 1) (by omega)
  ·simp only [scanK, h1, h2]
   rw [J9r hp (by omega) hst, J57 hp h n (at_ + 1) (by omega)]

theorem Jct {p : Prg} (hp : p.Ok 200 8) {l l' : KV} (h : Known p l) (k : Known p l') : J0c p l = J0c p l' :=
 J57 hp (fun _ ha => h.one k ha) p.cl 0 (by omega)

theorem Jag {p : Prg} {l : KV} : ∀ n at_, (scanK p l n at_).1 = 0 → ∀ a, at_ ≤ a → a < at_ + n → ∀ s, l a = some s → J0r p a s = 0
 | 0, at_, _, a, h1, h2 => by omega
 | n + 1, at_, h, a, h1, h2 => fun s e => by
  rw [scanK] at h
  cases e0 : l at_ with
  | none =>
   rw [e0] at h
   by_cases q : a = at_
   ·subst q; rw [e0] at e; cases e
   ·exact Jag n (at_ + 1) h a (by omega) (by omega) s e
  | some t =>
   rw [e0] at h
   dsimp only at h
   by_cases q0 : J0r p at_ t = 0
   ·rw [if_pos q0] at h
    by_cases q : a = at_
    ·subst q; rw [e0] at e; cases e; exact q0
    ·exact Jag n (at_ + 1) h a (by omega) (by omega) s e
   ·rw [if_neg q0] at h
    exact absurd h q0
theorem Jat {p : Prg} {l : KV} (h : (J0c p l).1 = 0) {a : Nat} (ha : a < p.cl) {s : KS} (e : l a = some s) : J0r p a s = 0 :=
 Jag p.cl 0 h a (Nat.zero_le _) (by omega) s e
def ComeK (p : Prg) (l : KV) (td : List Nat) (x : Nat × KS) (l' : KV) (td' : List Nat) : Prop :=
 (¬ x.1 < p.cl ∧ l' = l ∧ td' = td) ∨ (x.1 < p.cl ∧ SameV (joinV (l x.1) x.2) (l x.1) ∧ l' = l ∧ td' = td) ∨ (x.1 < p.cl ∧ ¬ SameV (joinV (l x.1) x.2) (l x.1) ∧ l' = putV l x.1 (joinV (l x.1) x.2) ∧ td' = td ++ [x.1])

structure Todo (p : Prg) (l : KV) (td : List Nat) (a : Nat) (R : List (Nat × KS)) : Prop where
 on : OnWay p l
 just : ∀ x ∈ R, Just p x
 left : ∀ k s, k < p.cl → l k = some s → k ∈ td ∨ ∀ x ∈ J0d p k s, x.1 < p.cl → (∃ u, l x.1 = some u ∧ leS x.2 u) ∨ (k = a ∧ x ∈ R)
 come : ∀ k ∈ td, k < p.cl ∧ ∃ s, l k = some s
 short : td.length ≤ rankV l p.cl

theorem Jdt {l : KV} {n : Nat} {t : KS} {k : Nat} {u : KS} (e : l k = some u) : ∃ u', putV l n (joinV (l n) t) k = some u' ∧ leS u u' := by
 by_cases h : k = n
 ·subst h
  exact ⟨_, J18 _ _ _, J7w e⟩
 ·exact ⟨u, by rw [J16 _ h]; exact e, J7x _⟩

theorem Todo.next {p : Prg} {l l' : KV} {td td' : List Nat} {a : Nat} {x : Nat × KS} {R : List (Nat × KS)} (h : Todo p l td a (x :: R)) (c : ComeK p l td x l' td') :
  Todo p l' td' a R ∧ rankV l p.cl ≤ rankV l' p.cl ∧ td'.length + rankV l p.cl ≤ td.length + rankV l' p.cl ∧ ∀ k, (∃ s, l k = some s) → ∃ s, l' k = some s := by
 have hj := h.just x List.mem_cons_self
 have hj' : ∀ y ∈ R, Just p y := fun y hy => h.just y (List.mem_cons_of_mem _ hy)
 rcases c with ⟨hn, rfl, rfl⟩ | ⟨hn, hs, rfl, rfl⟩ | ⟨hn, hs, rfl, rfl⟩
 ·refine ⟨⟨h.on, hj', fun k s hk e => ?_, h.come, h.short⟩, Nat.le_refl _, Nat.le_refl _, fun _ q => q⟩
  rcases h.left k s hk e with q | q
  ·exact .inl q
  ·refine .inr (fun y hy hy1 => ?_)
   rcases q y hy hy1 with q | ⟨q1, q2⟩
   ·exact .inl q
   ·rcases List.mem_cons.1 q2 with rfl | q2
    ·exact absurd hy1 hn
    ·exact .inr ⟨q1, q2⟩
 ·refine ⟨⟨h.on, hj', fun k s hk e => ?_, h.come, h.short⟩, Nat.le_refl _, Nat.le_refl _, fun _ q => q⟩
  rcases h.left k s hk e with q | q
  ·exact .inl q
  ·refine .inr (fun y hy hy1 => ?_)
   rcases q y hy hy1 with q | ⟨q1, q2⟩
   ·exact .inl q
   ·rcases List.mem_cons.1 q2 with rfl | q2
    ·exact .inl (J3s hs)
    ·exact .inr ⟨q1, q2⟩
 ·have hr := Ja8 h.on.norm hn hj.norm hs
  refine ⟨⟨h.on.joinJ hj hn, hj', fun k s hk e => ?_, fun k hk => ?_, ?_⟩, Nat.le_of_lt hr, ?_, fun k ⟨s, e⟩ => ?_⟩
  ·by_cases hk0 : k = x.1
   ·exact .inl (by rw [hk0]; simp)
   ·rw [J16 _ hk0] at e
    rcases h.left k s hk e with q | q
    ·exact .inl (List.mem_append_left _ q)
    ·refine .inr (fun y hy hy1 => ?_)
     rcases q y hy hy1 with ⟨u, q1, q2⟩ | ⟨q1, q2⟩
     ·obtain ⟨u', h1, h2⟩ := Jdt (n := x.1) (t := x.2) q1
      exact .inl ⟨u', h1, J69 q2 h2⟩
     ·rcases List.mem_cons.1 q2 with rfl | q2
      ·exact .inl ⟨_, J18 _ _ _, Jdd⟩
      ·exact .inr ⟨q1, q2⟩
  ·rcases List.mem_append.1 hk with q | q
   ·obtain ⟨h1, s, e⟩ := h.come k q
    obtain ⟨u, e', _⟩ := Jdt (n := x.1) (t := x.2) e
    exact ⟨h1, u, e'⟩
   ·obtain rfl : k = x.1 := by simpa using q
    exact ⟨hn, _, J18 _ _ _⟩
  ·have := h.short
   rw [List.length_append]; simp; omega
  ·rw [List.length_append]; simp; omega
  ·obtain ⟨u, e', _⟩ := Jdt (n := x.1) (t := x.2) e
   exact ⟨u, e'⟩

theorem Todo.start {p : Prg} (hp : 0 < p.cl) {l' : KV} {td' : List Nat} (c : ComeK p (fun _ => none) [] (0, zeroK) l' td') : Todo p l' td' 0 [] := by
 rcases c with ⟨hn, _⟩ | ⟨hn, hs, _⟩ | ⟨hn, hs, rfl, rfl⟩
 ·exact absurd hp hn
 ·obtain ⟨t, e, _⟩ := hs
  cases e
 ·refine ⟨OnWay.start hp, fun x hx => absurd hx (by simp), fun k s hk e => ?_, fun k hk => ?_, ?_⟩
  ·by_cases h0 : k = 0
   ·exact .inl (by rw [h0]; simp)
   ·rw [J16 _ h0] at e; cases e
  ·obtain rfl : k = 0 := by simpa using hk
   exact ⟨hp, _, J18 _ _ _⟩
  ·rw [J6l, if_pos hp]
   have h1 := J6k (joinV none zeroK) 8
   have h2 := J5n (fun _ => (none : Option KS)) p.cl 0 hp
   show 1 ≤ _
   dsimp only [rankO] at *
   omega

theorem Todo.pop {p : Prg} (hp : p.Ok 200 8) {l : KV} {td : List Nat} {a b : Nat} (h : Todo p l (td ++ [a]) b []) {s : KS} (e : l a = some s) : Todo p l td a (J0d p a s) := by
 have ha := (h.come a (by simp)).1
 refine ⟨h.on, fun x hx => h.on.just hp ha e hx, fun k t hk ek => ?_, fun k hk => h.come k (List.mem_append_left _ hk), ?_⟩
 ·rcases h.left k t hk ek with q | q
  ·rcases List.mem_append.1 q with q | q
   ·exact .inl q
   ·obtain rfl : k = a := by simpa using q
    rw [e] at ek; cases ek
    exact .inr (fun x hx _ => .inr ⟨rfl, hx⟩)
  ·refine .inr (fun x hx hx1 => ?_)
   rcases q x hx hx1 with q | ⟨_, q⟩
   ·exact .inl q
   ·exact absurd q (by simp)
 ·have := h.short
  rw [List.length_append] at this; simp at this; omega

theorem Todo.known {p : Prg} {l : KV} {a : Nat} (h : Todo p l [] a []) : Known p l :=
 h.on.known (fun k s hk e x hx hx1 => by
  rcases h.left k s hk e with q | q
  ·exact absurd q (by simp)
  ·rcases q x hx hx1 with q | ⟨_, q⟩
   ·exact q
   ·exact absurd q (by simp))

theorem Jfs (k : Kn) (n : Int) (h0 : -9223372036854775808 ≤ n) : Kn.index k n = Kn.op 1 k (Kn.of n) := by
 unfold Kn.index
 split
 ·rename_i h
  have hf : fitI n = 17 := by
   have h1 := Jal h h0
   have h2 : ¬ bitLen (toU n) ≤ 16 := fun q => by have := (J8b _ _).1 q; omega
   exact J3e (.inr (by omega))
  have hr := J0j k.b
  unfold Kn.op Kn.of
  dsimp only
  rw [hf, J1w (k := 17) (by omega) (by omega), Bool.or_false]
  have : opB 1 (bnd k.b) 17 = 17 := by
   unfold opB
   rw [if_pos rfl]
   split
   ·omega
   ·exact J3e (.inr (by omega))
  rw [this]
 ·rfl
end
section
open Go.RowKit
theorem bl_eq : ∀ n x : Nat, x ≤ n → x < 18446744073709551616 → Lib.bitLen x = Go.bitLen x
  | 0, x, h, _ => by
    obtain rfl : x = 0 := by omega
    simp [Lib.bitLen, Lib.bitLenAux, Go.bitLen]
  | n + 1, x, h, hx => by
    by_cases h0 : x = 0
    · subst h0; simp [Lib.bitLen, Lib.bitLenAux, Go.bitLen]
    · rw [Lib.bitLen_half x h0 hx, bl_eq n (x / 2) (by omega) (by omega)]
      by_cases h1 : x / 2 = 0
      · obtain rfl : x = 1 := by omega
        decide +kernel
      · have := Go.bitLen_shift x 1 (by simpa using h1)
        rw [Nat.pow_one] at this
        exact this.symm

theorem J3y (i : Nat) (h : i < Lib.len8tab.size) : (Lib.len8tab[i]).toNat = Lib.bitLen i := by
  have e := Lib.len8_eq ⟨i, by rw [Lib.len8tab_size] at h; exact h⟩
  simp only [Lib.len8, Int.toNat_natCast, ByteArray.getElem?_lt' _ _ h, Option.getD_some] at e
  exact_mod_cast e

theorem J4k {x q : Int} (k : Nat) (v : Nat) (hv : v = Lib.bitLen q.toNat) (h0 : 0 ≤ x) (h1 : x ≤ 18446744073709551615) (q0 : 0 ≤ q) (q1 : q < 256) (hq : q.toNat = x.toNat / 2 ^ k) (hk : k ≤ 56) (hp : q ≠ 0) :
    wrap64 ((k : Int) + wrap64 (v : Int)) = (Lib.bitLen x.toNat : Int) := by
  have l := Lib.bitLen_le8' q q0 (by omega)
  have s := Lib.bitLen_shift k x.toNat (by
    have h2 : x.toNat / 2 ^ k ≠ 0 := by omega
    rcases Nat.lt_or_ge x.toNat (2 ^ k) with h | h
    · exact absurd (Nat.div_eq_of_lt h) h2
    · exact h) (by
      have e : (2 : Nat) ^ 64 = 18446744073709551616 := by decide +kernel
      rw [e]; omega)
  rw [s, ← hq, ← hv]
  rw [← hv] at l
  clear s hv hq hp q1 q0 h0 h1
  unfold wrap64
  omega

set_option maxHeartbeats 4000000 in
set_option maxRecDepth 100000 in
theorem Ja2 (x : Int) (w : World) (h0 : 0 ≤ x) (h1 : x ≤ 18446744073709551615) :
    Calls Try.prog 102 #[.int .u64 x] w fun e w' => e = .returned (.int .i64 (Lib.bitLen x.toNat)) ∧ w' = w := by
  have hsz := Lib.len8tab_size
  go_enter Try.func102, Try.ntmps102
  go_wp2
  all_goals (go_ret; refine ⟨congrArg Ending.returned (congrArg (Value.int IntKind.i64) ?_), rfl⟩)
  all_goals first
    | (exact J4k (x := x) (q := x / 4294967296 / 65536 / 256) 56 _ (J3y _ _) (by omega) (by omega) (by omega) (by omega) (by rw [show (2 ^ 56 : Nat) = 72057594037927936 by decide +kernel]; omega) (by omega) (by omega))
    | (exact J4k (x := x) (q := x / 4294967296 / 65536) 48 _ (J3y _ _) (by omega) (by omega) (by omega) (by omega) (by rw [show (2 ^ 48 : Nat) = 281474976710656 by decide +kernel]; omega) (by omega) (by omega))
    | (exact J4k (x := x) (q := x / 4294967296 / 256) 40 _ (J3y _ _) (by omega) (by omega) (by omega) (by omega) (by rw [show (2 ^ 40 : Nat) = 1099511627776 by decide +kernel]; omega) (by omega) (by omega))
    | (exact J4k (x := x) (q := x / 4294967296) 32 _ (J3y _ _) (by omega) (by omega) (by omega) (by omega) (by rw [show (2 ^ 32 : Nat) = 4294967296 by decide +kernel]; omega) (by omega) (by omega))
    | (exact J4k (x := x) (q := x / 65536 / 256) 24 _ (J3y _ _) (by omega) (by omega) (by omega) (by omega) (by rw [show (2 ^ 24 : Nat) = 16777216 by decide +kernel]; omega) (by omega) (by omega))
    | (exact J4k (x := x) (q := x / 65536) 16 _ (J3y _ _) (by omega) (by omega) (by omega) (by omega) (by rw [show (2 ^ 16 : Nat) = 65536 by decide +kernel]; omega) (by omega) (by omega))
    | (exact J4k (x := x) (q := x / 256) 8 _ (J3y _ _) (by omega) (by omega) (by omega) (by omega) (by rw [show (2 ^ 8 : Nat) = 256 by decide +kernel]; omega) (by omega) (by omega))
    | (rw [J3y]
       have l := Lib.bitLen_le8' x h0 (by omega)
       unfold wrap64
       omega)

theorem J0q (k : Int) (w : World) :
    Calls Try.prog 99 #[.int .i64 k] w fun e w' => e = .returned (.int .i64 (bnd k)) ∧ w' = w := by
  by_cases h : k < 0
  · rw [J3e (.inl h)]
    go_enter Try.func99, Try.ntmps99
    go_wp2
    go_ret
    exact ⟨rfl, rfl⟩
  by_cases h2 : 16 < k
  · rw [J3e (.inr h2)]
    go_enter Try.func99, Try.ntmps99
    go_wp2
    go_ret
    exact ⟨rfl, rfl⟩
  · rw [J5v (by omega) (by omega)]
    go_enter Try.func99, Try.ntmps99
    go_wp2
    go_ret
    exact ⟨rfl, rfl⟩

theorem J7q (n : Int) (w : World) :
    Calls Try.prog 100 #[.int .i64 n] w fun e w' => e = .returned (.int .i64 (fitI n)) ∧ w' = w := by
  obtain ⟨l, hl⟩ : ∃ l : Int, ((Lib.bitLen (toU n) : Nat) : Int) = l := ⟨_, rfl⟩
  have hf : fitI n = bnd l := by unfold fitI; rw [← hl, bl_eq _ _ (Nat.le_refl _) (J3l n)]
  have c : ∀ w : World, Calls Try.prog 102 #[.int .u64 (IntKind.u64.wrap n)] w fun e w' => e = .returned (.int .i64 l) ∧ w' = w := by
    intro w
    have := Ja2 (IntKind.u64.wrap n) w (by rw [uwrap]; omega) (by rw [uwrap]; have := J3l n; omega)
    rw [uwrap, Int.toNat_natCast, hl] at this
    rw [uwrap]; exact this
  rw [hf]
  clear hf hl
  obtain ⟨b, hb⟩ : ∃ b, bnd l = b := ⟨_, rfl⟩
  have c2 : ∀ w : World, Calls Try.prog 99 #[.int .i64 l] w fun e w' => e = .returned (.int .i64 b) ∧ w' = w := fun w => hb ▸ J0q l w
  rw [hb]
  clear hb
  go_enter Try.func100, Try.ntmps100
  go_wp2_with (fail)
  refine (c _).mono ?_
  rintro e w1 ⟨rfl, rfl⟩
  go_wp2_with (fail)
  refine (c2 _).mono ?_
  rintro e w1 ⟨rfl, rfl⟩
  go_wp2
  go_ret
  exact ⟨rfl, rfl⟩
end
section
open Go
section
variable {P : Program} {ops : Array Oper} {Q : Exit → Act → World → Prop} {md : Region.Mode} {S : World → Prop}

def ordB (md : Region.Mode) (ops : Array Oper) : List (Nat × Bool) → Array Bool → Bool
 | [], listed => (Region.ready md ops listed).isEmpty
 | (i, t) :: rest, listed =>
  (ops[i]?).isSome && (if t then Region.free md ops listed i && (Region.ready md ops listed).contains i else Region.ready md ops listed == [i]) &&
   ordB md ops rest (listed.setIfInBounds i true)

def J22 (P : Program) (ops : Array Oper) (S : World → Prop) (o : Oper) (a : Act) (w : World) (K : Act → World → Prop) : Prop :=
 if Region.wanted o (yielded ops a.tmps) = true then ∃ v, (∀ i : { w' // S w' }, (execOp a.eval o).run P i.val = .ok (.value v) i.val) ∧ K (a.put o.dst v) w
 else K (a.put o.dst undef) w

def J1s (P : Program) (ops : Array Oper) (Q : Exit → Act → World → Prop) (o : Oper) (a : Act) (w : World) (K : Act → World → Prop) : Prop :=
 if Region.wanted o (yielded ops a.tmps) = true then Oper.wp P o a w K Q else K (a.put o.dst undef) w

def wpOrd (P : Program) (ops : Array Oper) (Q : Exit → Act → World → Prop) (S : World → Prop) : List (Nat × Bool) → Act → World → Prop
 | [], a, w => Q .normal a w
 | (i, t) :: rest, a, w =>
  match ops[i]? with
  | none => False
  | some o => if t then J22 P ops S o a w (fun a' w' => wpOrd P ops Q S rest a' w') else J1s P ops Q o a w (fun a' w' => S w' ∧ wpOrd P ops Q S rest a' w')

theorem J3d (hs : Region.noSelect ops = true) (hQ : ∀ c (a : Act) d v w, Q (.panic c) (a.put d v) w → Q (.panic c) a w) :
  ∀ (l : List (Nat × Bool)) (listed : Array Bool) (a : Act) (w : World), ordB md ops l listed = true → S w → wpOrd P ops Q S l a w → wpAnyH P md ops Q S l.length listed a w
 | [], listed, a, w, hB, _, h => ⟨by simpa [ordB] using hB, h⟩
 | (i, t) :: rest, listed, a, w, hB, hS, h => by
  simp only [ordB, Bool.and_eq_true] at hB
  obtain ⟨⟨ho, hc⟩, hB'⟩ := hB
  obtain ⟨o, ho⟩ := Option.isSome_iff_exists.1 ho
  simp only [wpOrd, ho] at h
  cases t with
  | true =>
   simp only [if_true, Bool.and_eq_true] at hc h
   unfold J22 at h
   by_cases hw : Region.wanted o (yielded ops a.tmps) = true
   ·rw [if_pos hw] at h
    obtain ⟨v, hv, hk⟩ := h
    exact wpAnyH_take ho hs hc.1 hc.2 (fun c a w => hQ c a _ _ w) (.inl ⟨hw, fun w' hw' => hv ⟨w', hw'⟩⟩) hS (J3d hs hQ rest _ _ _ hB' hS hk)
   ·rw [if_neg hw] at h
    exact wpAnyH_take ho hs hc.1 hc.2 (fun c a w => hQ c a _ _ w) (.inr ⟨by simpa using hw, rfl⟩) hS (J3d hs hQ rest _ _ _ hB' hS h)
  | false =>
   simp only [Bool.false_eq_true, if_false, beq_iff_eq] at hc h
   refine wpAnyH_all hc (by simp) (fun j hj => ?_)
   obtain rfl : j = i := by simpa using hj
   unfold J1s at h
   unfold wpOp
   rw [ho]
   show if Region.wanted o (yielded ops a.tmps) = true then _ else _
   by_cases hw : Region.wanted o (yielded ops a.tmps) = true
   ·rw [if_pos hw] at h ⊢
    exact .inl (Oper.wp_mono (fun a' w' h' => ⟨h'.1, J3d hs hQ rest _ _ _ hB' h'.1 h'.2⟩) h)
   ·rw [if_neg hw] at h ⊢
    exact ⟨hS, J3d hs hQ rest _ _ _ hB' h.1 h.2⟩

structure Ord (P : Program) (ops : Array Oper) (Q : Exit → Act → World → Prop) (S : World → Prop) (l : List (Nat × Bool)) (a : Act) (w : World) : Prop where
 out : wpOrd P ops Q S l a w

theorem J01 {id : Nat} {a : Act} {w : World} (l : List (Nat × Bool)) (hm : P.follows .mixedOrders = true) (hs : Region.noSelect ops = true)
  (hB : (ordB .any ops l (Array.replicate ops.size false) && l.length == ops.size) = true) (hS : S w.drew) (h : Ord P ops (NoPanic Q) S l a w.drew) : (Code.region id ops true).wp P Q a w := by
 rw [Bool.and_eq_true] at hB
 have hl : l.length = ops.size := by simpa using hB.2
 refine wp_region_noPanic (wp_region_held_drew (S := S) hm hS (fun _ => ?_))
 rw [← hl]
 have := J3d (P := P) (md := .any) (S := S) (Q := NoPanic Q) hs (fun _ _ _ _ _ h => h) l (Array.replicate ops.size false) a w.drew hB.1 hS h.out
 rwa [← hl] at this

def nth {α : Type} : List α → Nat → Option α
 | [], _ => none
 | x :: _, 0 => some x
 | _ :: l, n + 1 => nth l n
theorem Jhy {α : Type} : ∀ (l : List α) (n : Nat), nth l n = l[n]?
 | [], _ => rfl
 | _ :: _, 0 => rfl
 | _ :: l, n + 1 => by rw [nth, Jhy l n]; rfl
theorem J1v {α : Type} {l : List α} {n : Nat} {x : α} (h : nth l n = some x) : l.toArray[n]? = some x := by rw [List.getElem?_toArray, ← Jhy]; exact h

theorem J00 {ls : List Oper} {i : Nat} {o : Oper} {rest : List (Nat × Bool)} {a : Act} {w : World} (ho' : nth ls i = some o) (hw : Region.wanted o (yielded ls.toArray a.tmps) = true)
  (h : ∀ K : Act → World → Prop, (∀ a w, Ord P ls.toArray Q S rest a w → K a w) → ∃ v, (∀ i : { w' // S w' }, (execOp a.eval o).run P i.val = .ok (.value v) i.val) ∧ K (a.put o.dst v) w) :
  Ord P ls.toArray Q S ((i, true) :: rest) a w := by
 have ho := J1v ho'
 refine ⟨?_⟩
 simp only [wpOrd, ho]
 unfold J22
 simp only [if_true]
 rw [if_pos hw]
 exact h _ (fun _ _ h => h.out)
theorem J02 {ls : List Oper} {i : Nat} {o : Oper} {rest : List (Nat × Bool)} {a : Act} {w : World} (ho' : nth ls i = some o) (hw : Region.wanted o (yielded ls.toArray a.tmps) = true)
  (h : ∀ K : Act → World → Prop, (∀ a w, S w → Ord P ls.toArray Q S rest a w → K a w) → Oper.wp P o a w K Q) : Ord P ls.toArray Q S ((i, false) :: rest) a w := by
 have ho := J1v ho'
 refine ⟨?_⟩
 simp only [wpOrd, ho, Bool.false_eq_true, if_false]
 unfold J1s
 rw [if_pos hw]
 exact h _ (fun _ _ hs h => ⟨hs, h.out⟩)
theorem J1b {ls : List Oper} {i : Nat} {o : Oper} {x : Operand} {rest : List (Nat × Bool)} {a : Act} {w : World} (ho' : nth ls i = some o) (hop : o.op = .move x)
  (hw : Region.wanted o (yielded ls.toArray a.tmps) = true)
  (h : ∀ K : Act → World → Prop, (∀ a w, Ord P ls.toArray Q S rest a w → K a w) → K (a.put o.dst (a.eval x)) w) : Ord P ls.toArray Q S ((i, true) :: rest) a w := by
 refine J00 ho' hw (fun K hK => ⟨a.eval x, fun i => ?_, h K hK⟩)
 unfold execOp
 rw [hop]
 rfl
theorem J41 {ls : List Oper} {i : Nat} {o : Oper} {x : Operand} {rest : List (Nat × Bool)} {a : Act} {w : World} (ho' : nth ls i = some o) (hop : o.op = .assign x)
  (hw : Region.wanted o (yielded ls.toArray a.tmps) = true)
  (h : ∀ K : Act → World → Prop, (∀ a w, Ord P ls.toArray Q S rest a w → K a w) → K (a.put o.dst (a.eval x)) w) : Ord P ls.toArray Q S ((i, true) :: rest) a w := by
 refine J00 ho' hw (fun K hK => ⟨a.eval x, fun i => ?_, h K hK⟩)
 unfold execOp
 rw [hop]
 rfl

theorem J0m {ls : List Oper} {i : Nat} {o : Oper} {c x y : Operand} {rest : List (Nat × Bool)} {a : Act} {w : World} (ho' : nth ls i = some o) (hop : o.op = .pick c x y)
  (hw : Region.wanted o (yielded ls.toArray a.tmps) = true) (hc : a.eval c = .bool false)
  (h : ∀ K : Act → World → Prop, (∀ a w, Ord P ls.toArray Q S rest a w → K a w) → K (a.put o.dst (a.eval y)) w) : Ord P ls.toArray Q S ((i, true) :: rest) a w := by
 have ho := J1v ho'
 refine ⟨?_⟩
 simp only [wpOrd, ho]
 unfold J22
 simp only [if_true]
 rw [if_pos hw]
 refine ⟨a.eval y, fun i => ?_, h _ (fun _ _ h => h.out)⟩
 unfold execOp
 rw [hop]
 dsimp only
 rw [hc]
 rfl
theorem J0s {ls : List Oper} {i : Nat} {o : Oper} {c x y : Operand} {rest : List (Nat × Bool)} {a : Act} {w : World} (ho' : nth ls i = some o) (hop : o.op = .pick c x y)
  (hw : Region.wanted o (yielded ls.toArray a.tmps) = true) (hc : a.eval c = .bool true)
  (h : ∀ K : Act → World → Prop, (∀ a w, Ord P ls.toArray Q S rest a w → K a w) → K (a.put o.dst (a.eval x)) w) : Ord P ls.toArray Q S ((i, true) :: rest) a w := by
 have ho := J1v ho'
 refine ⟨?_⟩
 simp only [wpOrd, ho]
 unfold J22
 simp only [if_true]
 rw [if_pos hw]
 refine ⟨a.eval x, fun i => ?_, h _ (fun _ _ h => h.out)⟩
 unfold execOp
 rw [hop]
 dsimp only
 rw [hc]
 rfl

theorem J1r {ls : List Oper} {i : Nat} {o : Oper} {t : Bool} {rest : List (Nat × Bool)} {a : Act} {w : World} (ho' : nth ls i = some o) (hS : S w)
  (hw : Region.wanted o (yielded ls.toArray a.tmps) = false) (hp : a.put o.dst undef = a) (h : Ord P ls.toArray Q S rest a w) : Ord P ls.toArray Q S ((i, t) :: rest) a w := by
 have ho := J1v ho'
 refine ⟨?_⟩
 simp only [wpOrd, ho]
 unfold J22 J1s
 rw [hw, hp]
 cases t
 ·simp only [Bool.false_eq_true, if_false]; exact ⟨hS, h.out⟩
 ·simp only [Bool.false_eq_true, if_false, if_true]; exact h.out
theorem J2a {ls : List Oper} {i : Nat} {o : Oper} {t : Bool} {rest : List (Nat × Bool)} {a : Act} {w : World} (ho' : nth ls i = some o) (hS : S w)
  (hw : Region.wanted o (yielded ls.toArray a.tmps) = false)
  (h : ∀ K : Act → World → Prop, (∀ a w, Ord P ls.toArray Q S rest a w → K a w) → K (a.put o.dst undef) w) : Ord P ls.toArray Q S ((i, t) :: rest) a w := by
 have ho := J1v ho'
 refine ⟨?_⟩
 have hk := h (fun a w => wpOrd P ls.toArray Q S rest a w) (fun _ _ h => h.out)
 simp only [wpOrd, ho]
 unfold J22 J1s
 rw [hw]
 cases t
 ·simp only [Bool.false_eq_true, if_false]; exact ⟨hS, hk⟩
 ·simp only [Bool.false_eq_true, if_false, if_true]; exact hk
theorem J04 {a : Act} {w : World} (h : Q .normal a w) : Ord P ops (NoPanic Q) S [] a w := ⟨h⟩

end
end
section
open Go.RowKit
abbrev kn (a : Int) (s : Bool) : Value := .agg #[.int .i64 a, .bool s]

structure Two (n : Nat) (a : Int) (sa : Bool) (b : Int) (sb : Bool) (w : World) : Prop where
 a0 : w.cell? ⟨n, 0, none⟩ = some (.int .i64 a)
 a1 : w.cell? ⟨n, 1, none⟩ = some (.bool sa)
 b0 : w.cell? ⟨n + 1, 0, none⟩ = some (.int .i64 b)
 b1 : w.cell? ⟨n + 1, 1, none⟩ = some (.bool sb)

theorem J54 (a b : Int) (sa sb : Bool) (w : World) :
  Calls Try.prog 87 #[kn a sa, kn b sb] w fun e w' => e = .returned (kn (min (bnd a) (bnd b)) sa) ∧ More w w' := by
 obtain ⟨x, hx⟩ : ∃ x, bnd a = x := ⟨_, rfl⟩
 obtain ⟨y, hy⟩ : ∃ x, bnd b = x := ⟨_, rfl⟩
 have c1 : ∀ w : World, Calls Try.prog 99 #[.int .i64 a] w fun e w' => e = .returned (.int .i64 x) ∧ w' = w := fun w => hx ▸ J0q a w
 have c2 : ∀ w : World, Calls Try.prog 99 #[.int .i64 b] w fun e w' => e = .returned (.int .i64 y) ∧ w' = w := fun w => hy ▸ J0q b w
 rw [hx, hy]
 clear hx hy
 unfold kn
 obtain ⟨S, HS⟩ : ∃ S : World → Prop, Hid (∀ w', S w' ↔ Two w.heap.size a sa b sb w') := ⟨_, fun _ => Iff.rfl⟩
 have k0 : ∀ i : { w' // S w' }, i.val.cell? ⟨w.heap.size, 0, none⟩ = some (.int .i64 a) := fun i => ((HS.out _).1 i.property).a0
 have k1 : ∀ i : { w' // S w' }, i.val.cell? ⟨w.heap.size, 1, none⟩ = some (.bool sa) := fun i => ((HS.out _).1 i.property).a1
 have k2 : ∀ i : { w' // S w' }, i.val.cell? ⟨w.heap.size + 1, 0, none⟩ = some (.int .i64 b) := fun i => ((HS.out _).1 i.property).b0
 have k3 : ∀ i : { w' // S w' }, i.val.cell? ⟨w.heap.size + 1, 1, none⟩ = some (.bool sb) := fun i => ((HS.out _).1 i.property).b1
 obtain ⟨W, HW⟩ : ∃ W : World, Hid (W = ((w.alloc (.cells #[.int .i64 a, .bool sa] 65)).alloc (.cells #[.int .i64 b, .bool sb] 65)).alloc (.cells #[.int .i64 0, .bool false] 65)) := ⟨_, rfl⟩
 have HS0 : S W.drew := (HS.out _).2 (by rw [HW.out]; constructor <;> go_simp)
 have hne : Nonempty { w' // S w' } := ⟨⟨_, HS0⟩⟩
 go_enter Try.func87, Try.ntmps87
 go_wp2_with (fail)
 rw [← HW.out]
 refine J01 (S := S) [(0, true), (1, true), (3, true), (4, true), (7, true), (8, true), (2, false), (5, false), (6, false), (9, true), (10, false)] (by kernel_rfl) (by kernel_rfl) (by kernel_rfl) HS0 ?_
 iterate 6 (refine J00 rfl (by kernel_rfl) (fun K hK => ?_); go_simp; refine hK _ _ ?_; clear hK K)
 refine J02 rfl (by kernel_rfl) (fun K hK => ?_); go_simp
 refine (c1 _).mono ?_
 rintro e w1 ⟨rfl, rfl⟩
 go_simp
 refine hK _ _ HS0 ?_; clear hK K
 refine J02 rfl (by kernel_rfl) (fun K hK => ?_); go_simp
 refine (c2 _).mono ?_
 rintro e w1 ⟨rfl, rfl⟩
 go_simp
 refine hK _ _ HS0 ?_; clear hK K
 refine J02 rfl (by kernel_rfl) (fun K hK => ?_); go_simp
 refine hK _ _ HS0 ?_; clear hK K
 (refine J00 rfl (by kernel_rfl) (fun K hK => ?_); go_simp; refine hK _ _ ?_; clear hK K)
 rw [HW.out]
 refine J02 rfl (by kernel_rfl) (fun K hK => ?_); go_simp
 refine hK _ _ ((HS.out _).2 (by constructor <;> go_simp)) ?_; clear hK K
 refine J04 ?_
 clear k0 k1 k2 k3 hne HS0
 go_wp2
 exact bodyPost_ret (by simp [results, Try.results87, go_sem]) rfl ⟨rfl, ((((More.refl _).alloc _ _).alloc _ _).alloc _ _).drew⟩

theorem Jdg (a b : Int) (sb : Bool) (w : World) :
  Calls Try.prog 86 #[kn a true, kn b sb] w fun e w' => e = .returned (kn (max (bnd a) (bnd b)) true) ∧ More w w' := by
 obtain ⟨x, hx⟩ : ∃ x, bnd a = x := ⟨_, rfl⟩
 obtain ⟨y, hy⟩ : ∃ x, bnd b = x := ⟨_, rfl⟩
 have c1 : ∀ w : World, Calls Try.prog 99 #[.int .i64 a] w fun e w' => e = .returned (.int .i64 x) ∧ w' = w := fun w => hx ▸ J0q a w
 have c2 : ∀ w : World, Calls Try.prog 99 #[.int .i64 b] w fun e w' => e = .returned (.int .i64 y) ∧ w' = w := fun w => hy ▸ J0q b w
 rw [hx, hy]
 clear hx hy
 unfold kn
 obtain ⟨S, HS⟩ : ∃ S : World → Prop, Hid (∀ w', S w' ↔ Two w.heap.size a true b sb w') := ⟨_, fun _ => Iff.rfl⟩
 have k0 : ∀ i : { w' // S w' }, i.val.cell? ⟨w.heap.size, 0, none⟩ = some (.int .i64 a) := fun i => ((HS.out _).1 i.property).a0
 have k1 : ∀ i : { w' // S w' }, i.val.cell? ⟨w.heap.size, 1, none⟩ = some (.bool true) := fun i => ((HS.out _).1 i.property).a1
 have k2 : ∀ i : { w' // S w' }, i.val.cell? ⟨w.heap.size + 1, 0, none⟩ = some (.int .i64 b) := fun i => ((HS.out _).1 i.property).b0
 have k3 : ∀ i : { w' // S w' }, i.val.cell? ⟨w.heap.size + 1, 1, none⟩ = some (.bool sb) := fun i => ((HS.out _).1 i.property).b1
 obtain ⟨W, HW⟩ : ∃ W : World, Hid (W = ((w.alloc (.cells #[.int .i64 a, .bool true] 65)).alloc (.cells #[.int .i64 b, .bool sb] 65)).alloc (.cells #[.int .i64 0, .bool false] 65)) := ⟨_, rfl⟩
 have HS0 : S W.drew := (HS.out _).2 (by rw [HW.out]; constructor <;> go_simp)
 have hne : Nonempty { w' // S w' } := ⟨⟨_, HS0⟩⟩
 go_enter Try.func86, Try.ntmps86
 go_wp2_with (fail)
 rw [← HW.out]
 refine J01 (S := S) [(0, true), (1, true), (3, true), (4, true), (7, true), (8, true), (2, false), (5, false), (9, true), (10, true), (11, true), (12, true), (6, false), (13, true), (14, false)] (by kernel_rfl) (by kernel_rfl) (by kernel_rfl) HS0 ?_
 iterate 6 (refine J00 rfl (by kernel_rfl) (fun K hK => ?_); go_simp; refine hK _ _ ?_; clear hK K)
 refine J02 rfl (by kernel_rfl) (fun K hK => ?_); go_simp
 refine (c1 _).mono ?_
 rintro e w1 ⟨rfl, rfl⟩
 go_simp
 refine hK _ _ HS0 ?_; clear hK K
 refine J02 rfl (by kernel_rfl) (fun K hK => ?_); go_simp
 refine (c2 _).mono ?_
 rintro e w1 ⟨rfl, rfl⟩
 go_simp
 refine hK _ _ HS0 ?_; clear hK K
 (refine J00 rfl (by kernel_rfl) (fun K hK => ?_); go_simp; refine hK _ _ ?_; clear hK K)
 iterate 2 (refine J1r rfl HS0 (by kernel_rfl) (by kernel_rfl) ?_)
 refine J0s rfl rfl (by kernel_rfl) rfl (fun K hK => ?_); go_simp; refine hK _ _ ?_; clear hK K
 refine J02 rfl (by kernel_rfl) (fun K hK => ?_); go_simp
 refine hK _ _ HS0 ?_; clear hK K
 (refine J00 rfl (by kernel_rfl) (fun K hK => ?_); go_simp; refine hK _ _ ?_; clear hK K)
 rw [HW.out]
 refine J02 rfl (by kernel_rfl) (fun K hK => ?_); go_simp
 refine hK _ _ ((HS.out _).2 (by constructor <;> go_simp)) ?_; clear hK K
 refine J04 ?_
 clear k0 k1 k2 k3 hne HS0
 go_wp2
 exact bodyPost_ret (by simp [results, Try.results86, go_sem]) rfl ⟨rfl, ((((More.refl _).alloc _ _).alloc _ _).alloc _ _).drew⟩

theorem Jby (a b : Int) (sb : Bool) (w : World) :
  Calls Try.prog 86 #[kn a false, kn b sb] w fun e w' => e = .returned (kn (max (bnd a) (bnd b)) sb) ∧ More w w' := by
 obtain ⟨x, hx⟩ : ∃ x, bnd a = x := ⟨_, rfl⟩
 obtain ⟨y, hy⟩ : ∃ x, bnd b = x := ⟨_, rfl⟩
 have c1 : ∀ w : World, Calls Try.prog 99 #[.int .i64 a] w fun e w' => e = .returned (.int .i64 x) ∧ w' = w := fun w => hx ▸ J0q a w
 have c2 : ∀ w : World, Calls Try.prog 99 #[.int .i64 b] w fun e w' => e = .returned (.int .i64 y) ∧ w' = w := fun w => hy ▸ J0q b w
 rw [hx, hy]
 clear hx hy
 unfold kn
 obtain ⟨S, HS⟩ : ∃ S : World → Prop, Hid (∀ w', S w' ↔ Two w.heap.size a false b sb w') := ⟨_, fun _ => Iff.rfl⟩
 have k0 : ∀ i : { w' // S w' }, i.val.cell? ⟨w.heap.size, 0, none⟩ = some (.int .i64 a) := fun i => ((HS.out _).1 i.property).a0
 have k1 : ∀ i : { w' // S w' }, i.val.cell? ⟨w.heap.size, 1, none⟩ = some (.bool false) := fun i => ((HS.out _).1 i.property).a1
 have k2 : ∀ i : { w' // S w' }, i.val.cell? ⟨w.heap.size + 1, 0, none⟩ = some (.int .i64 b) := fun i => ((HS.out _).1 i.property).b0
 have k3 : ∀ i : { w' // S w' }, i.val.cell? ⟨w.heap.size + 1, 1, none⟩ = some (.bool sb) := fun i => ((HS.out _).1 i.property).b1
 obtain ⟨W, HW⟩ : ∃ W : World, Hid (W = ((w.alloc (.cells #[.int .i64 a, .bool false] 65)).alloc (.cells #[.int .i64 b, .bool sb] 65)).alloc (.cells #[.int .i64 0, .bool false] 65)) := ⟨_, rfl⟩
 have HS0 : S W.drew := (HS.out _).2 (by rw [HW.out]; constructor <;> go_simp)
 have hne : Nonempty { w' // S w' } := ⟨⟨_, HS0⟩⟩
 go_enter Try.func86, Try.ntmps86
 go_wp2_with (fail)
 rw [← HW.out]
 refine J01 (S := S) [(0, true), (1, true), (3, true), (4, true), (7, true), (8, true), (2, false), (5, false), (9, true), (10, true), (11, true), (12, true), (6, false), (13, true), (14, false)] (by kernel_rfl) (by kernel_rfl) (by kernel_rfl) HS0 ?_
 iterate 6 (refine J00 rfl (by kernel_rfl) (fun K hK => ?_); go_simp; refine hK _ _ ?_; clear hK K)
 refine J02 rfl (by kernel_rfl) (fun K hK => ?_); go_simp
 refine (c1 _).mono ?_
 rintro e w1 ⟨rfl, rfl⟩
 go_simp
 refine hK _ _ HS0 ?_; clear hK K
 refine J02 rfl (by kernel_rfl) (fun K hK => ?_); go_simp
 refine (c2 _).mono ?_
 rintro e w1 ⟨rfl, rfl⟩
 go_simp
 refine hK _ _ HS0 ?_; clear hK K
 iterate 3 (refine J00 rfl (by kernel_rfl) (fun K hK => ?_); go_simp; refine hK _ _ ?_; clear hK K)
 refine J0m rfl rfl (by kernel_rfl) rfl (fun K hK => ?_); go_simp; refine hK _ _ ?_; clear hK K
 refine J02 rfl (by kernel_rfl) (fun K hK => ?_); go_simp
 refine hK _ _ HS0 ?_; clear hK K
 (refine J00 rfl (by kernel_rfl) (fun K hK => ?_); go_simp; refine hK _ _ ?_; clear hK K)
 rw [HW.out]
 refine J02 rfl (by kernel_rfl) (fun K hK => ?_); go_simp
 refine hK _ _ ((HS.out _).2 (by constructor <;> go_simp)) ?_; clear hK K
 refine J04 ?_
 clear k0 k1 k2 k3 hne HS0
 go_wp2
 exact bodyPost_ret (by simp [results, Try.results86, go_sem]) rfl ⟨rfl, ((((More.refl _).alloc _ _).alloc _ _).alloc _ _).drew⟩

theorem Jbx (a b : Int) (sa sb : Bool) (w : World) :
  Calls Try.prog 86 #[kn a sa, kn b sb] w fun e w' => e = .returned (kn (max (bnd a) (bnd b)) (sa || sb)) ∧ More w w' := by
 cases sa with
 | true => exact Jdg a b sb w
 | false => exact Jby a b sb w

theorem Jeq (a b : Int) (h0 : 0 ≤ a) (h1 : a ≤ 17) (h2 : 0 ≤ b) (h3 : b ≤ 17) (w : World) :
  Calls Try.prog 103 #[.int .i64 a, .int .i64 b] w fun e w' => e = .returned (.int .i64 (if a = 0 ∨ b = 0 then max a b else max a b + 1)) ∧ w' = w := by
 by_cases ha : a = 0
 ·subst ha
  rw [if_pos (.inl rfl)]
  go_enter Try.func103, Try.ntmps103
  go_wp2
  go_ret
  exact ⟨rfl, rfl⟩
 by_cases hb : b = 0
 ·subst hb
  rw [if_pos (.inr rfl)]
  go_enter Try.func103, Try.ntmps103
  go_wp2
  go_ret
  exact ⟨rfl, rfl⟩
 ·rw [if_neg (by omega)]
  have e1 : (a == 0) = false := by simp [ha]
  have e2 : (b == 0) = false := by simp [hb]
  obtain ⟨m, hm⟩ : ∃ m, max a b = m := ⟨_, rfl⟩
  have hm1 : m ≤ 17 := by omega
  have hm0 : 0 ≤ m := by omega
  rw [hm]
  go_enter Try.func103, Try.ntmps103
  go_wp2
  go_ret
  exact ⟨rfl, rfl⟩

theorem J7z (a b : Int) (h0 : 0 ≤ a) (h1 : a ≤ 17) (h2 : 0 ≤ b) (h3 : b ≤ 17) (w : World) :
  Calls Try.prog 104 #[.int .i64 a, .int .i64 b] w fun e w' => e = .returned (.int .i64 (if a = 0 ∨ b = 0 then 0 else a + b)) ∧ w' = w := by
 by_cases ha : a = 0
 ·rw [if_pos (.inl ha)]
  go_enter Try.func104, Try.ntmps104
  go_wp2
  go_ret
  exact ⟨rfl, rfl⟩
 by_cases hb : b = 0
 ·rw [if_pos (.inr hb)]
  go_enter Try.func104, Try.ntmps104
  go_wp2
  go_ret
  exact ⟨rfl, rfl⟩
 ·rw [if_neg (by omega)]
  have e1 : (a == 0) = false := by simp [ha]
  have e2 : (b == 0) = false := by simp [hb]
  go_enter Try.func104, Try.ntmps104
  go_wp2
  go_ret
  exact ⟨rfl, rfl⟩

def opR (op a b : Int) : Int :=
 if op = 1 then (if a = 0 ∨ b = 0 then max a b else max a b + 1)
 else if op = 3 then (if a = 0 ∨ b = 0 then 0 else a + b)
 else if op = 4 then min a b
 else if op = 5 ∨ op = 6 then max a b
 else if op = 8 ∨ op = 9 ∨ op = 10 then a
 else 17

theorem Jj6 (op : Int) {a b : Int} (h0 : 0 ≤ a) (h1 : a ≤ 17) (h2 : 0 ≤ b) (h3 : b ≤ 17) : bnd (opR op a b) = opB op a b := by
 unfold opR opB
 split
 ·split
  ·exact J1w (by omega) (by omega)
  ·rfl
 split
 ·split
  ·exact J1w (by omega) (by omega)
  ·rfl
 split
 ·exact J1w (by omega) (by omega)
 split
 ·exact J1w (by omega) (by omega)
 split
 ·exact J1w (by omega) (by omega)
 ·exact J1w (by omega) (by omega)

theorem Jgi (a b R : Int) (c : ∀ w : World, Calls Try.prog 103 #[.int .i64 a, .int .i64 b] w fun e w' => e = .returned (.int .i64 R) ∧ w' = w) (w : World) :
  Calls Try.prog 101 #[.int .i64 1, .int .i64 a, .int .i64 b] w fun e w' => e = .returned (.int .i64 R) ∧ w' = w := by
 go_enter Try.func101, Try.ntmps101
 go_wp2_with (fail)
 refine (c _).mono ?_
 rintro e w1 ⟨rfl, rfl⟩
 go_wp2
 go_ret
 exact ⟨rfl, rfl⟩

theorem Jgj (a b R : Int) (c : ∀ w : World, Calls Try.prog 104 #[.int .i64 a, .int .i64 b] w fun e w' => e = .returned (.int .i64 R) ∧ w' = w) (w : World) :
  Calls Try.prog 101 #[.int .i64 3, .int .i64 a, .int .i64 b] w fun e w' => e = .returned (.int .i64 R) ∧ w' = w := by
 go_enter Try.func101, Try.ntmps101
 go_wp2_with (fail)
 refine (c _).mono ?_
 rintro e w1 ⟨rfl, rfl⟩
 go_wp2
 go_ret
 exact ⟨rfl, rfl⟩

theorem Jgk (a b : Int) (w : World) :
  Calls Try.prog 101 #[.int .i64 4, .int .i64 a, .int .i64 b] w fun e w' => e = .returned (.int .i64 (min a b)) ∧ w' = w := by
 go_enter Try.func101, Try.ntmps101
 go_wp2
 go_ret
 exact ⟨rfl, rfl⟩

theorem Jgl (a b : Int) (w : World) :
  Calls Try.prog 101 #[.int .i64 5, .int .i64 a, .int .i64 b] w fun e w' => e = .returned (.int .i64 (max a b)) ∧ w' = w := by
 go_enter Try.func101, Try.ntmps101
 go_wp2
 go_ret
 exact ⟨rfl, rfl⟩

theorem Jgm (a b : Int) (w : World) :
  Calls Try.prog 101 #[.int .i64 6, .int .i64 a, .int .i64 b] w fun e w' => e = .returned (.int .i64 (max a b)) ∧ w' = w := by
 go_enter Try.func101, Try.ntmps101
 go_wp2
 go_ret
 exact ⟨rfl, rfl⟩

theorem Jgn (a b : Int) (w : World) :
  Calls Try.prog 101 #[.int .i64 8, .int .i64 a, .int .i64 b] w fun e w' => e = .returned (.int .i64 (a)) ∧ w' = w := by
 go_enter Try.func101, Try.ntmps101
 go_wp2
 go_ret
 exact ⟨rfl, rfl⟩

theorem Jgo (a b : Int) (w : World) :
  Calls Try.prog 101 #[.int .i64 9, .int .i64 a, .int .i64 b] w fun e w' => e = .returned (.int .i64 (a)) ∧ w' = w := by
 go_enter Try.func101, Try.ntmps101
 go_wp2
 go_ret
 exact ⟨rfl, rfl⟩

theorem Jdm (a b : Int) (w : World) :
  Calls Try.prog 101 #[.int .i64 10, .int .i64 a, .int .i64 b] w fun e w' => e = .returned (.int .i64 (a)) ∧ w' = w := by
 go_enter Try.func101, Try.ntmps101
 go_wp2
 go_ret
 exact ⟨rfl, rfl⟩

theorem J8w (op a b : Int) (h1 : ¬ op = 1) (h3 : ¬ op = 3) (h4 : ¬ op = 4) (h5 : ¬ op = 5) (h6 : ¬ op = 6) (h8 : ¬ op = 8) (h9 : ¬ op = 9) (h10 : ¬ op = 10) (w : World) :
  Calls Try.prog 101 #[.int .i64 op, .int .i64 a, .int .i64 b] w fun e w' => e = .returned (.int .i64 17) ∧ w' = w := by
 have e1 : (op == 1) = false := by simp [h1]
 have e3 : (op == 3) = false := by simp [h3]
 have e4 : (op == 4) = false := by simp [h4]
 have e5 : (op == 5) = false := by simp [h5]
 have e6 : (op == 6) = false := by simp [h6]
 have e8 : (op == 8) = false := by simp [h8]
 have e9 : (op == 9) = false := by simp [h9]
 have e10 : (op == 10) = false := by simp [h10]
 clear h1 h3 h4 h5 h6 h8 h9 h10
 go_enter Try.func101, Try.ntmps101
 go_wp2
 go_ret
 exact ⟨rfl, rfl⟩

theorem J5c (op a b : Int) (h0 : 0 ≤ a) (h1 : a ≤ 17) (h2 : 0 ≤ b) (h3 : b ≤ 17) (w : World) :
  Calls Try.prog 101 #[.int .i64 op, .int .i64 a, .int .i64 b] w fun e w' => e = .returned (.int .i64 (opR op a b)) ∧ w' = w := by
 by_cases q1 : op = 1
 ·subst q1; exact Jgi a b _ (fun w => Jeq a b h0 h1 h2 h3 w) w
 by_cases q3 : op = 3
 ·subst q3; exact Jgj a b _ (fun w => J7z a b h0 h1 h2 h3 w) w
 by_cases q4 : op = 4
 ·subst q4; exact Jgk a b w
 by_cases q5 : op = 5
 ·subst q5; exact Jgl a b w
 by_cases q6 : op = 6
 ·subst q6; exact Jgm a b w
 by_cases q8 : op = 8
 ·subst q8; exact Jgn a b w
 by_cases q9 : op = 9
 ·subst q9; exact Jgo a b w
 by_cases q10 : op = 10
 ·subst q10; exact Jdm a b w
 ·rw [show opR op a b = 17 by unfold opR; rw [if_neg q1, if_neg q3, if_neg q4, if_neg (by omega), if_neg (by omega)]]
  exact J8w op a b q1 q3 q4 q5 q6 q8 q9 q10 w

theorem Jj7 (op a b x y z r : Int) (sb : Bool)
  (c1 : ∀ w : World, Calls Try.prog 99 #[.int .i64 a] w fun e w' => e = .returned (.int .i64 x) ∧ w' = w)
  (c2 : ∀ w : World, Calls Try.prog 99 #[.int .i64 b] w fun e w' => e = .returned (.int .i64 y) ∧ w' = w)
  (c3 : ∀ w : World, Calls Try.prog 101 #[.int .i64 op, .int .i64 x, .int .i64 y] w fun e w' => e = .returned (.int .i64 z) ∧ w' = w)
  (c4 : ∀ w : World, Calls Try.prog 99 #[.int .i64 z] w fun e w' => e = .returned (.int .i64 r) ∧ w' = w) (w : World) :
  Calls Try.prog 91 #[.int .i64 op, kn a true, kn b sb] w fun e w' => e = .returned (kn r true) ∧ More w w' := by
 unfold kn
 obtain ⟨S, HS⟩ : ∃ S : World → Prop, Hid (∀ w', S w' ↔ Two w.heap.size a true b sb w') := ⟨_, fun _ => Iff.rfl⟩
 have k0 : ∀ i : { w' // S w' }, i.val.cell? ⟨w.heap.size, 0, none⟩ = some (.int .i64 a) := fun i => ((HS.out _).1 i.property).a0
 have k1 : ∀ i : { w' // S w' }, i.val.cell? ⟨w.heap.size, 1, none⟩ = some (.bool true) := fun i => ((HS.out _).1 i.property).a1
 have k2 : ∀ i : { w' // S w' }, i.val.cell? ⟨w.heap.size + 1, 0, none⟩ = some (.int .i64 b) := fun i => ((HS.out _).1 i.property).b0
 have k3 : ∀ i : { w' // S w' }, i.val.cell? ⟨w.heap.size + 1, 1, none⟩ = some (.bool sb) := fun i => ((HS.out _).1 i.property).b1
 obtain ⟨W, HW⟩ : ∃ W : World, Hid (W = ((w.alloc (.cells #[.int .i64 a, .bool true] 65)).alloc (.cells #[.int .i64 b, .bool sb] 65)).alloc (.cells #[.int .i64 0, .bool false] 65)) := ⟨_, rfl⟩
 have HS0 : S W.drew := (HS.out _).2 (by rw [HW.out]; constructor <;> go_simp)
 have hne : Nonempty { w' // S w' } := ⟨⟨_, HS0⟩⟩
 have HS1 : S W.drew.drew := (HS.out _).2 (by rw [HW.out]; constructor <;> go_simp)
 go_enter Try.func91, Try.ntmps91
 go_wp2_with (fail)
 rw [← HW.out]
 refine J01 (S := S) [(0, true), (1, true), (2, true), (4, true), (5, true), (3, false), (6, false), (7, false), (8, true)] (by kernel_rfl) (by kernel_rfl) (by kernel_rfl) HS0 ?_
 iterate 5 (refine J00 rfl (by kernel_rfl) (fun K hK => ?_); go_simp; refine hK _ _ ?_; clear hK K)
 refine J02 rfl (by kernel_rfl) (fun K hK => ?_); go_simp
 refine (c1 _).mono ?_
 rintro e w1 ⟨rfl, rfl⟩
 go_simp
 refine hK _ _ HS0 ?_; clear hK K
 refine J02 rfl (by kernel_rfl) (fun K hK => ?_); go_simp
 refine (c2 _).mono ?_
 rintro e w1 ⟨rfl, rfl⟩
 go_simp
 refine hK _ _ HS0 ?_; clear hK K
 refine J02 rfl (by kernel_rfl) (fun K hK => ?_); go_simp
 refine (c3 _).mono ?_
 rintro e w1 ⟨rfl, rfl⟩
 go_simp
 refine hK _ _ HS0 ?_; clear hK K
 (refine J00 rfl (by kernel_rfl) (fun K hK => ?_); go_simp; refine hK _ _ ?_; clear hK K)
 refine J04 ?_
 go_wp2_with (fail)
 refine J01 (S := S) [(0, true), (2, true), (3, true), (1, false), (4, true), (5, true), (6, true), (7, true), (8, true), (9, false)] (by kernel_rfl) (by kernel_rfl) (by kernel_rfl) HS1 ?_
 iterate 3 (refine J00 rfl (by kernel_rfl) (fun K hK => ?_); go_simp; refine hK _ _ ?_; clear hK K)
 refine J02 rfl (by kernel_rfl) (fun K hK => ?_); go_simp
 refine (c4 _).mono ?_
 rintro e w1 ⟨rfl, rfl⟩
 go_simp
 refine hK _ _ HS1 ?_; clear hK K
 (refine J00 rfl (by kernel_rfl) (fun K hK => ?_); go_simp; refine hK _ _ ?_; clear hK K)
 iterate 2 (refine J1r rfl HS1 (by kernel_rfl) (by kernel_rfl) ?_)
 refine J0s rfl rfl (by kernel_rfl) rfl (fun K hK => ?_); go_simp; refine hK _ _ ?_; clear hK K
 (refine J00 rfl (by kernel_rfl) (fun K hK => ?_); go_simp; refine hK _ _ ?_; clear hK K)
 rw [HW.out]
 refine J02 rfl (by kernel_rfl) (fun K hK => ?_); go_simp
 refine hK _ _ ((HS.out _).2 (by constructor <;> go_simp)) ?_; clear hK K
 refine J04 ?_
 clear HS1 k0 k1 k2 k3 hne HS0
 go_wp2
 exact bodyPost_ret (by simp [results, Try.results91, go_sem]) rfl ⟨rfl, ((((More.refl _).alloc _ _).alloc _ _).alloc _ _).drew.drew⟩

theorem Jgp (op a b x y z r : Int) (sb : Bool)
  (c1 : ∀ w : World, Calls Try.prog 99 #[.int .i64 a] w fun e w' => e = .returned (.int .i64 x) ∧ w' = w)
  (c2 : ∀ w : World, Calls Try.prog 99 #[.int .i64 b] w fun e w' => e = .returned (.int .i64 y) ∧ w' = w)
  (c3 : ∀ w : World, Calls Try.prog 101 #[.int .i64 op, .int .i64 x, .int .i64 y] w fun e w' => e = .returned (.int .i64 z) ∧ w' = w)
  (c4 : ∀ w : World, Calls Try.prog 99 #[.int .i64 z] w fun e w' => e = .returned (.int .i64 r) ∧ w' = w) (w : World) :
  Calls Try.prog 91 #[.int .i64 op, kn a false, kn b sb] w fun e w' => e = .returned (kn r sb) ∧ More w w' := by
 unfold kn
 obtain ⟨S, HS⟩ : ∃ S : World → Prop, Hid (∀ w', S w' ↔ Two w.heap.size a false b sb w') := ⟨_, fun _ => Iff.rfl⟩
 have k0 : ∀ i : { w' // S w' }, i.val.cell? ⟨w.heap.size, 0, none⟩ = some (.int .i64 a) := fun i => ((HS.out _).1 i.property).a0
 have k1 : ∀ i : { w' // S w' }, i.val.cell? ⟨w.heap.size, 1, none⟩ = some (.bool false) := fun i => ((HS.out _).1 i.property).a1
 have k2 : ∀ i : { w' // S w' }, i.val.cell? ⟨w.heap.size + 1, 0, none⟩ = some (.int .i64 b) := fun i => ((HS.out _).1 i.property).b0
 have k3 : ∀ i : { w' // S w' }, i.val.cell? ⟨w.heap.size + 1, 1, none⟩ = some (.bool sb) := fun i => ((HS.out _).1 i.property).b1
 obtain ⟨W, HW⟩ : ∃ W : World, Hid (W = ((w.alloc (.cells #[.int .i64 a, .bool false] 65)).alloc (.cells #[.int .i64 b, .bool sb] 65)).alloc (.cells #[.int .i64 0, .bool false] 65)) := ⟨_, rfl⟩
 have HS0 : S W.drew := (HS.out _).2 (by rw [HW.out]; constructor <;> go_simp)
 have hne : Nonempty { w' // S w' } := ⟨⟨_, HS0⟩⟩
 have HS1 : S W.drew.drew := (HS.out _).2 (by rw [HW.out]; constructor <;> go_simp)
 go_enter Try.func91, Try.ntmps91
 go_wp2_with (fail)
 rw [← HW.out]
 refine J01 (S := S) [(0, true), (1, true), (2, true), (4, true), (5, true), (3, false), (6, false), (7, false), (8, true)] (by kernel_rfl) (by kernel_rfl) (by kernel_rfl) HS0 ?_
 iterate 5 (refine J00 rfl (by kernel_rfl) (fun K hK => ?_); go_simp; refine hK _ _ ?_; clear hK K)
 refine J02 rfl (by kernel_rfl) (fun K hK => ?_); go_simp
 refine (c1 _).mono ?_
 rintro e w1 ⟨rfl, rfl⟩
 go_simp
 refine hK _ _ HS0 ?_; clear hK K
 refine J02 rfl (by kernel_rfl) (fun K hK => ?_); go_simp
 refine (c2 _).mono ?_
 rintro e w1 ⟨rfl, rfl⟩
 go_simp
 refine hK _ _ HS0 ?_; clear hK K
 refine J02 rfl (by kernel_rfl) (fun K hK => ?_); go_simp
 refine (c3 _).mono ?_
 rintro e w1 ⟨rfl, rfl⟩
 go_simp
 refine hK _ _ HS0 ?_; clear hK K
 (refine J00 rfl (by kernel_rfl) (fun K hK => ?_); go_simp; refine hK _ _ ?_; clear hK K)
 refine J04 ?_
 go_wp2_with (fail)
 refine J01 (S := S) [(0, true), (2, true), (3, true), (1, false), (4, true), (5, true), (6, true), (7, true), (8, true), (9, false)] (by kernel_rfl) (by kernel_rfl) (by kernel_rfl) HS1 ?_
 iterate 3 (refine J00 rfl (by kernel_rfl) (fun K hK => ?_); go_simp; refine hK _ _ ?_; clear hK K)
 refine J02 rfl (by kernel_rfl) (fun K hK => ?_); go_simp
 refine (c4 _).mono ?_
 rintro e w1 ⟨rfl, rfl⟩
 go_simp
 refine hK _ _ HS1 ?_; clear hK K
 (refine J00 rfl (by kernel_rfl) (fun K hK => ?_); go_simp; refine hK _ _ ?_; clear hK K)
 iterate 2 (refine J00 rfl (by kernel_rfl) (fun K hK => ?_); go_simp; refine hK _ _ ?_; clear hK K)
 refine J0m rfl rfl (by kernel_rfl) rfl (fun K hK => ?_); go_simp; refine hK _ _ ?_; clear hK K
 (refine J00 rfl (by kernel_rfl) (fun K hK => ?_); go_simp; refine hK _ _ ?_; clear hK K)
 rw [HW.out]
 refine J02 rfl (by kernel_rfl) (fun K hK => ?_); go_simp
 refine hK _ _ ((HS.out _).2 (by constructor <;> go_simp)) ?_; clear hK K
 refine J04 ?_
 clear HS1 k0 k1 k2 k3 hne HS0
 go_wp2
 exact bodyPost_ret (by simp [results, Try.results91, go_sem]) rfl ⟨rfl, ((((More.refl _).alloc _ _).alloc _ _).alloc _ _).drew.drew⟩

theorem J4c (op a b : Int) (sa sb : Bool) (w : World) :
  Calls Try.prog 91 #[.int .i64 op, kn a sa, kn b sb] w fun e w' => e = .returned (kn (opB op (bnd a) (bnd b)) (sa || sb)) ∧ More w w' := by
 have ra := J0j a
 have rb := J0j b
 rw [← Jj6 op ra.1 ra.2 rb.1 rb.2]
 cases sa with
 | true => exact Jj7 op a b _ _ _ _ sb (J0q a) (J0q b) (fun w => J5c op _ _ ra.1 ra.2 rb.1 rb.2 w) (J0q _) w
 | false => exact Jgp op a b _ _ _ _ sb (J0q a) (J0q b) (fun w => J5c op _ _ ra.1 ra.2 rb.1 rb.2 w) (J0q _) w

theorem J67 (n : Int) (w : World) :
  Calls Try.prog 88 #[.int .i64 n] w fun e w' => e = .returned (kn (fitI n) false) ∧ More w w' := by
 obtain ⟨x, hx⟩ : ∃ x, fitI n = x := ⟨_, rfl⟩
 have c1 : ∀ w : World, Calls Try.prog 100 #[.int .i64 n] w fun e w' => e = .returned (.int .i64 x) ∧ w' = w := fun w => hx ▸ J7q n w
 rw [hx]
 clear hx
 unfold kn
 go_enter Try.func88, Try.ntmps88
 go_wp2_with (fail)
 refine (c1 _).mono ?_
 rintro e w1 ⟨rfl, rfl⟩
 go_wp2
 exact bodyPost_ret (by simp [results, Try.results88, go_sem]) rfl ⟨rfl, (More.refl _).alloc _ _⟩
end
section
open Go.RowKit
set_option linter.unusedVariables false
def Blk (w : World) (n : Nat) (cs : Array Value) (T : TypeId) : Prop := w.heap[n]? = some (.cells cs T (0, 0))
theorem Blk.lt {w : World} {n : Nat} {cs : Array Value} {T : TypeId} (h : Blk w n cs T) : n < w.heap.size := by
 rcases Nat.lt_or_ge n w.heap.size with q | q
 ·exact q
 ·unfold Blk at h; simp [q] at h
theorem Blk.more {w w' : World} {n : Nat} {cs : Array Value} {T : TypeId} (m : More w w') (h : Blk w n cs T) : Blk w' n cs T := (m.block n h.lt).trans h
theorem Blk.cell {w : World} {n : Nat} {cs : Array Value} {T : TypeId} (h : Blk w n cs T) {j : Nat} {v : Value} (e : cs[j]? = some v) : w.cell? ⟨n, j, none⟩ = some v := by rw [cell_of_row _ _ _ _ _ _ h]; exact e
theorem Blk.frozen {w : World} {n : Nat} {cs : Array Value} {T : TypeId} (h : Blk w n cs T) (j : Nat) : w.frozen? ⟨n, j, none⟩ = false := frozen_of_row _ _ _ _ _ h
theorem Blk.last (w : World) (cs : Array Value) (T : TypeId) : Blk (w.alloc (.cells cs T)) w.heap.size cs T := heap_alloc_last _ _
theorem Blk.other {w : World} {n : Nat} {cs : Array Value} {T : TypeId} (h : Blk w n cs T) {b : Nat} (hb : b ≠ n) (o : Nat) (v : Value) : Blk (w.setCell ⟨b, o, none⟩ v) n cs T := (Below.heap_setCell _ _ _ _ (fun e => hb e.symm)).trans h

def KRow (w : World) (g : Nat) (s : KS) : Prop :=
 ∀ j, j < 8 → (w.cell? ⟨g, j * 2, none⟩ = some (.int .i64 (s j).b) ∧ w.cell? ⟨g, j * 2 + 1, none⟩ = some (.bool (s j).s)) ∧ w.frozen? ⟨g, j * 2, none⟩ = false ∧ w.frozen? ⟨g, j * 2 + 1, none⟩ = false

theorem KRow.lt {w : World} {g : Nat} {s : KS} (h : KRow w g s) : g < w.heap.size := J05 (h 0 (by omega)).1.1
theorem KRow.more {w w' : World} {g : Nat} {s : KS} (m : More w w') (h : KRow w g s) : KRow w' g s := fun j hj => by
 have hb := m.block g h.lt
 have hf : ∀ o, w'.frozen? ⟨g, o, none⟩ = w.frozen? ⟨g, o, none⟩ := fun o => World.frozen?_of_block hb
 exact ⟨⟨m.cell (h j hj).1.1, m.cell (h j hj).1.2⟩, by rw [hf]; exact (h j hj).2.1, by rw [hf]; exact (h j hj).2.2⟩
theorem KRow.congr {w : World} {g : Nat} {s t : KS} (h : KRow w g s) (e : ∀ j, j < 8 → s j = t j) : KRow w g t := fun j hj => by rw [← e j hj]; exact h j hj
theorem KRow.set {w : World} {g : Nat} {s : KS} (h : KRow w g s) (a : Int) (v : Kn) (ha : a.toNat < 8) :
  KRow ((w.setCell ⟨g, a.toNat * 2, none⟩ (.int .i64 v.b)).setCell ⟨g, a.toNat * 2 + 1, none⟩ (.bool v.s)) g (setK s a v) := fun j hj => by
 have hj' := h j hj
 have haa := h _ ha
 refine ⟨?_, by rw [World.frozen?_setCell, World.frozen?_setCell]; exact hj'.2.1, by rw [World.frozen?_setCell, World.frozen?_setCell]; exact hj'.2.2⟩
 unfold setK
 by_cases e : j = a.toNat
 ·subst e
  rw [if_pos rfl]
  refine ⟨?_, ?_⟩
  ·rw [World.cell?_setCell_other _ _ _ _ (by simp)]
   exact World.cell?_setCell_same _ _ _ haa.1.1
  ·have q : (w.setCell ⟨g, a.toNat * 2, none⟩ (.int .i64 v.b)).cell? ⟨g, a.toNat * 2 + 1, none⟩ = some (.bool (s a.toNat).s) := by
    rw [World.cell?_setCell_other _ _ _ _ (by simp)]; exact haa.1.2
   exact World.cell?_setCell_same _ _ _ q
 ·rw [if_neg e]
  refine ⟨?_, ?_⟩
  ·rw [World.cell?_setCell_other _ _ _ _ (by intro e'; simp only [Addr.mk.injEq] at e'; omega), World.cell?_setCell_other _ _ _ _ (by intro e'; simp only [Addr.mk.injEq] at e'; omega)]; exact hj'.1.1
  ·rw [World.cell?_setCell_other _ _ _ _ (by intro e'; simp only [Addr.mk.injEq] at e'; omega), World.cell?_setCell_other _ _ _ _ (by intro e'; simp only [Addr.mk.injEq] at e'; omega)]; exact hj'.1.2
theorem KRow.other {w : World} {g : Nat} {s : KS} (h : KRow w g s) {b : Nat} (hb : b ≠ g) (o : Nat) (v : Value) : KRow (w.setCell ⟨b, o, none⟩ v) g s := fun j hj =>
 ⟨⟨by rw [World.cell?_setCell_other _ _ _ _ (by intro e; simp only [Addr.mk.injEq] at e; omega)]; exact (h j hj).1.1, by rw [World.cell?_setCell_other _ _ _ _ (by intro e; simp only [Addr.mk.injEq] at e; omega)]; exact (h j hj).1.2⟩,
  by rw [World.frozen?_setCell]; exact (h j hj).2.1, by rw [World.frozen?_setCell]; exact (h j hj).2.2⟩

def flatK (s : KS) : Nat → List Value
 | 0 => []
 | n + 1 => flatK s n ++ [.int .i64 (s n).b, .bool (s n).s]
theorem J0y (s : KS) : ∀ n, (flatK s n).length = n * 2
 | 0 => rfl
 | n + 1 => by rw [flatK, List.length_append, J0y s n]; simp; omega
theorem J45 (s : KS) : ∀ n j, j < n → (flatK s n)[j * 2]? = some (.int .i64 (s j).b) ∧ (flatK s n)[j * 2 + 1]? = some (.bool (s j).s)
 | 0, j, h => absurd h (Nat.not_lt_zero _)
 | n + 1, j, h => by
  rw [flatK]
  by_cases e : j = n
  ·subst e
   rw [List.getElem?_append_right (by rw [J0y]; omega), List.getElem?_append_right (by rw [J0y]; omega), J0y]
   simp
  ·rw [List.getElem?_append_left (by rw [J0y]; omega), List.getElem?_append_left (by rw [J0y]; omega)]
   exact J45 s n j (by omega)
theorem J4o (s : KS) : ∀ n, ∀ u ∈ flatK s n, u.oneCell' = true
 | 0, u, h => by simp [flatK] at h
 | n + 1, u, h => by
  rw [flatK, List.mem_append] at h
  rcases h with h | h
  ·exact J4o s n u h
  ·simp at h; rcases h with rfl | rfl <;> rfl
theorem Jfk {w : World} {g : Nat} {s : KS} (h : KRow w g s) : ∀ j u, (flatK s 8)[j]? = some u → w.cell? ((⟨g, 0, none⟩ : Addr).add j) = some u := by
 intro j u hu
 have hj : j < 16 := by have := (List.getElem?_eq_some_iff.1 hu).1; rw [J0y] at this; omega
 rw [Go.WideShapes.add_plain, Nat.zero_add]
 have hk := h (j / 2) (by omega)
 have hf := J45 s 8 (j / 2) (by omega)
 by_cases e : j % 2 = 0
 ·have e2 : j / 2 * 2 = j := by omega
  rw [e2] at hk hf
  rw [hf.1] at hu; rw [← Option.some.inj hu]; exact hk.1.1
 ·have e2 : j / 2 * 2 + 1 = j := by omega
  rw [e2] at hk hf
  rw [hf.2] at hu; rw [← Option.some.inj hu]; exact hk.1.2
theorem Ja0 {w : World} {lo g c : Nat} {e : TypeId} {s : KS} (h : w.ownsRow lo e 2 (.slice (some ⟨g, 0, none⟩) 8 c) 8 (flatK s 8)) : KRow w g s := fun j hj => by
 have hf := J45 s 8 j hj
 exact ⟨⟨by rw [World.ownsRow.cellAt h (j * 2) (by omega)]; exact hf.1, by rw [World.ownsRow.cellAt h (j * 2 + 1) (by omega)]; exact hf.2⟩, World.ownsRow.frozenAt h _, World.ownsRow.frozenAt h _⟩
end
end Go.Proofs.Ytmpafeoileonjaa
