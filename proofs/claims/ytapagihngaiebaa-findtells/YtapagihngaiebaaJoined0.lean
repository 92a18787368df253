/-
  The texts Mem, Open, Shown, Plain, Sem, Fuel, Script, SOpen, StepEq, SemSpec, Copy, Own, Inv, Way, SpecAlike, Flat, FdPlain, BlkM, SpecMore, PAt, RPlace, Ord, Last, StepS, RAux, Mach, one behind the other, with what is used of them.
-/
import Derived.WalkKit
import Derived.Deep.WholeRow
import Derived.Test.YtapagihngaiebaaRows
import Derived.ProofKit
import Derived.OpenShut
import Derived.Deep.Slices
import Derived.Deep.SlicePairs
import Derived.Deep.Matrix
import Derived.Lib.SmallJoins
import Derived.RowKit
import Derived.Laws.BitsAllLaws
import Derived.Deep.LoopGhost
import Derived.Deep.AppendLies
import Derived.OwnWalk
import Derived.Laws.OwnMore
import Derived.Deep.OwnRows
import Derived.Laws.IdiomCopy
import Derived.Laws.AppendOwnNone
import Derived.Deep.RegionHeld3
namespace Go.Proofs.Ytapagihngaiebaa
section
open Go.RowKit
def More (w w' : World) : Prop := Below w.heap.size w w'

theorem More.refl (w : World) : More w w := Below.refl _ _
theorem More.size {w w' : World} (h : More w w') : w.heap.size ≤ w'.heap.size := Below.size h
theorem More.block {w w' : World} (h : More w w') (i : Nat) (hi : i < w.heap.size) : w'.heap[i]? = w.heap[i]? := Below.block h i hi
theorem More.trans {a b c : World} (h : More a b) (k : More b c) : More a c := Below.trans h (Below.mono k h.size)
theorem More.alloc {w w' : World} (h : More w w') (c : Array Value) (t : TypeId) : More w (w'.alloc (.cells c t)) := Below.alloc h h.size _
theorem More.setCell {w w' : World} (h : More w w') {a : Addr} (ha : w.heap.size ≤ a.block) (v : Value) : More w (w'.setCell a v) := Below.setCell h ha v
theorem More.drew {w w' : World} (h : More w w') : More w w'.drew := Below.drew h
theorem More.grownBy {w w1 w2 : World} {row : Option Nat} (h : More w w1) (hg : w1.grownBy w2 row) (hr : ∀ k, row = some k → w.heap.size ≤ k) : More w w2 := Below.grown h hg h.size hr
theorem cell_block {w : World} {a : Addr} {v : Value} (h : w.cell? a = some v) : a.block < w.heap.size := by
  rcases Nat.lt_or_ge a.block w.heap.size with h' | h'
  · exact h'
  · have e : w.heap[a.block]? = none := by simp [h']
    unfold World.cell? at h
    simp [e] at h
theorem More.cell {w w' : World} (h : More w w') {a : Addr} {v : Value} (hc : w.cell? a = some v) : w'.cell? a = some v := by
  rw [Below.cell h (cell_block hc)]; exact hc

def Says (P : Prop) (w : World) (e : Ending) (w' : World) : Prop := ∃ r : Bool, e = .returned (.bool r) ∧ (r = true ↔ P) ∧ More w w'

theorem Says.yes {P : Prop} {w w' : World} (h : P) (m : More w w') : Says P w (.returned (.bool true)) w' := ⟨true, rfl, by simp [h], m⟩
theorem Says.no {P : Prop} {w w' : World} (h : ¬ P) (m : More w w') : Says P w (.returned (.bool false)) w' := ⟨false, rfl, by simp [h], m⟩

structure Ins where
  op : Int
  a : Int
  b : Int
  c : Int
  n : Int

/-- Regions, by their Log and whether they are secret; instructions. -/
structure Prg where
  rl : Nat
  log : Nat → Int
  sec : Nat → Bool
  cl : Nat
  ins : Nat → Ins

def RegionsOk (rl : Nat) (log : Nat → Int) : Prop := rl ≤ 6 ∧ ∀ i, i < rl → 0 ≤ log i ∧ log i ≤ 6

/-- A register. -/
def Reg (regs x : Int) : Prop := 0 ≤ x ∧ x < regs
/-- The number of a region. -/
def Rgn (rl : Nat) (x : Int) : Prop := 0 ≤ x ∧ x < rl
/-- The number of an instruction. -/
def Plc (cl : Nat) (x : Int) : Prop := 0 ≤ x ∧ x < cl
/-- The number of a word of region x. -/
def Wrd (log : Nat → Int) (c n : Int) : Prop := 0 ≤ n ∧ n < 2 ^ (log c.toNat).toNat

/-- B1: an instruction of a program with so many regions, instructions, registers. -/
def InsOk (rl : Nat) (log : Nat → Int) (cl : Nat) (regs : Int) (i : Ins) : Prop :=
  if i.op = 1 then Reg regs i.a ∧ i.b = 0 ∧ i.c = 0
  else if i.op = 2 then Reg regs i.a ∧ Reg regs i.b ∧ i.c = 0 ∧ i.n = 0
  else if i.op = 3 then Reg regs i.a ∧ Reg regs i.b ∧ Rgn rl i.c
  else if i.op = 4 then Reg regs i.a ∧ Reg regs i.b ∧ Rgn rl i.c
  else if i.op = 5 then Reg regs i.a ∧ i.b = 0 ∧ Rgn rl i.c ∧ Wrd log i.c i.n
  else if i.op = 6 then Reg regs i.a ∧ i.b = 0 ∧ Rgn rl i.c ∧ Wrd log i.c i.n
  else if i.op = 7 then i.a = 0 ∧ i.b = 0 ∧ i.c = 0 ∧ Plc cl i.n
  else if i.op = 8 then Reg regs i.a ∧ Reg regs i.b ∧ (1 ≤ i.c ∧ i.c ≤ 4) ∧ Plc cl i.n
  else if i.op = 9 then Reg regs i.a ∧ i.b = 0 ∧ i.c = 0 ∧ i.n = 0
  else if i.op = 10 then Reg regs i.a ∧ Reg regs i.b ∧ i.c = 0
  else if i.op = 11 then Reg regs i.a ∧ i.b = 0 ∧ i.c = 0 ∧ 1 ≤ i.n ∧ i.n ≤ 64
  else if i.op = 12 then i.a = 0 ∧ i.b = 0 ∧ i.c = 0 ∧ i.n = 0
  else (21 ≤ i.op ∧ i.op ≤ 30) ∧ Reg regs i.a ∧ Reg regs i.b ∧ Reg regs i.c ∧ i.n = 0

def CodeOk (rl : Nat) (log : Nat → Int) (cl : Nat) (ins : Nat → Ins) (most : Nat) (regs : Int) : Prop :=
  1 ≤ cl ∧ cl ≤ most ∧ ∀ i, i < cl → InsOk rl log cl regs (ins i)

/-- B1, with so many instructions and registers at most. -/
def Prg.Ok (p : Prg) (most : Nat) (regs : Int) : Prop := RegionsOk p.rl p.log ∧ CodeOk p.rl p.log p.cl p.ins most regs

def RegsAt (w : World) (b o rl : Nat) (log : Nat → Int) (sec : Nat → Bool) : Prop :=
  ∀ i, i < rl → w.cell? ⟨b, o + i * 2, none⟩ = some (.int .i64 (log i)) ∧ w.cell? ⟨b, o + i * 2 + 1, none⟩ = some (.bool (sec i))
def CodeAt (w : World) (b o cl : Nat) (ins : Nat → Ins) : Prop :=
  ∀ i, i < cl → w.cell? ⟨b, o + i * 5, none⟩ = some (.int .i64 (ins i).op) ∧ w.cell? ⟨b, o + i * 5 + 1, none⟩ = some (.int .i64 (ins i).a) ∧ w.cell? ⟨b, o + i * 5 + 2, none⟩ = some (.int .i64 (ins i).b) ∧
    w.cell? ⟨b, o + i * 5 + 3, none⟩ = some (.int .i64 (ins i).c) ∧ w.cell? ⟨b, o + i * 5 + 4, none⟩ = some (.int .i64 (ins i).n)

theorem RegsAt.more {w w' : World} (m : More w w') {b o rl : Nat} {log : Nat → Int} {sec : Nat → Bool} (h : RegsAt w b o rl log sec) : RegsAt w' b o rl log sec :=
  fun i hi => ⟨m.cell (h i hi).1, m.cell (h i hi).2⟩
theorem CodeAt.more {w w' : World} (m : More w w') {b o cl : Nat} {ins : Nat → Ins} (h : CodeAt w b o cl ins) : CodeAt w' b o cl ins :=
  fun i hi => ⟨m.cell (h i hi).1, m.cell (h i hi).2.1, m.cell (h i hi).2.2.1, m.cell (h i hi).2.2.2.1, m.cell (h i hi).2.2.2.2⟩

/-- Where a program lies: the two slices' addresses (also as numbers, where there is an element) and capacities. -/
structure Loc where
  ra : Option Addr
  rb : Nat
  ro : Nat
  rc : Nat
  ca : Option Addr
  cb : Nat
  co : Nat
  cc : Nat

structure PIn (w : World) (p : Prg) (l : Loc) : Prop where
  hr : 0 < p.rl → l.ra = some ⟨l.rb, l.ro, none⟩
  hc : 0 < p.cl → l.ca = some ⟨l.cb, l.co, none⟩
  regs : RegsAt w l.rb l.ro p.rl p.log p.sec
  code : CodeAt w l.cb l.co p.cl p.ins

theorem PIn.more {w w' : World} (m : More w w') {p : Prg} {l : Loc} (h : PIn w p l) : PIn w' p l := ⟨h.hr, h.hc, h.regs.more m, h.code.more m⟩

def Blw (n e : Int) : Prop := 0 ≤ n ∧ n < e
def Btw (a b c : Int) : Prop := a ≤ c ∧ c ≤ b

/-- How many words a region has. -/
def wordsI (l : Int) : Int := 2 ^ l.toNat

theorem two_pow_le {k : Nat} (h : k ≤ 6) : (1 : Int) ≤ 2 ^ k ∧ (2 : Int) ^ k ≤ 64 := by
  have : k = 0 ∨ k = 1 ∨ k = 2 ∨ k = 3 ∨ k = 4 ∨ k = 5 ∨ k = 6 := by omega
  rcases this with rfl | rfl | rfl | rfl | rfl | rfl | rfl <;> decide

theorem Says.is_yes {P : Prop} (h : P) {w : World} {e : Ending} {w' : World} (s : Says P w e w') : e = .returned (.bool true) ∧ More w w' := by
  obtain ⟨r, rfl, hr, m⟩ := s
  cases r
  · simpa using hr.2 h
  · exact ⟨rfl, m⟩
theorem Says.is_no {P : Prop} (h : ¬ P) {w : World} {e : Ending} {w' : World} (s : Says P w e w') : e = .returned (.bool false) ∧ More w w' := by
  obtain ⟨r, rfl, hr, m⟩ := s
  cases r
  · exact ⟨rfl, m⟩
  · exact absurd (hr.1 rfl) h

/-- A memory: lists, by where they lie and how long they are. -/
def ListsAt (w : World) (b o ml : Nat) (A : Nat → Option Addr) (L C : Nat → Nat) : Prop := ∀ i, i < ml → w.cell? ⟨b, o + i, none⟩ = some (.slice (A i) (L i) (C i))
theorem ListsAt.more {w w' : World} (m : More w w') {b o ml : Nat} {A : Nat → Option Addr} {L C : Nat → Nat} (h : ListsAt w b o ml A L C) : ListsAt w' b o ml A L C := fun i hi => m.cell (h i hi)

/-- B2. -/
def FitsOk (rl : Nat) (log : Nat → Int) (ml : Nat) (L : Nat → Nat) : Prop := RegionsOk rl log ∧ ml = rl ∧ ∀ i, i < rl → (L i : Int) = wordsI (log i)
end
section
open Go.ChangeShapes Go.WideShapes Go.ChangeAt Go.RowKit Go.Deep Go.Joins
set_option maxRecDepth 8000
theorem cells47 : Try.prog.cellsOf 79 = 2 := by kernel_rfl
theorem cells34 : Try.prog.cellsOf 75 = 5 := by kernel_rfl
theorem cells29 : Try.prog.cellsOf 25 = 2 := by kernel_rfl
theorem cells48 : Try.prog.cellsOf 67 = 1 := by kernel_rfl
theorem cells2 : Try.prog.cellsOf 2 = 1 := by kernel_rfl
theorem cells3 : Try.prog.cellsOf 3 = 1 := by kernel_rfl
theorem cells4 : Try.prog.cellsOf 4 = 1 := by kernel_rfl

def I64 (x : Int) : Prop := -9223372036854775808 ≤ x ∧ x ≤ 9223372036854775807
def Ins.fits (i : Ins) : Prop := I64 i.op ∧ I64 i.a ∧ I64 i.b ∧ I64 i.c ∧ I64 i.n

/-- What holds of every program that is handed in: the lengths and numbers are such as Go has. -/
structure Prg.Fit (p : Prg) : Prop where
  rl : p.rl ≤ maxLen
  cl : p.cl ≤ maxLen
  log : ∀ i, i < p.rl → I64 (p.log i)
  ins : ∀ i, i < p.cl → (p.ins i).fits

section
variable {H : Type} {enc : TypeId × Value → H} {W : World} {base : Nat} {held : Bool}

theorem plain_addr {a : Addr} {v : Value} (h : W.cell? a = some v) : a = ⟨a.block, a.off, none⟩ := by
  have := World.cell?_spot h
  cases a
  simp_all

theorem open_regs {fuel : Nat} {cs : List Value} {x : DataW H × List MemPlace} (h : DataW.trod enc Try.prog W base (fun _ => true) held fuel 22 cs = some x) :
    ∃ (ra : Option Addr) (rb ro rl rc : Nat) (log : Nat → Int) (sec : Nat → Bool), cs = [.slice ra rl rc] ∧ (0 < rl → ra = some ⟨rb, ro, none⟩) ∧ RegsAt W rb ro rl log sec ∧ rl ≤ rc ∧ rc ≤ maxLen ∧ ∀ i, i < rl → I64 (log i) := by
  rcases open_slice Try.underlying22 h with ⟨rfl, _⟩ | ⟨a, len, cap, m, n, D, Pl, rfl, hb, hl, hm, hmm, rfl, hx⟩
  · exact ⟨none, 0, 0, 0, 0, fun _ => 0, fun _ => false, rfl, fun h => by omega, fun i hi => by omega, Nat.le_refl _, Nat.zero_le _, fun i hi => by omega⟩
  have hlm : len ≤ m := by rw [hmm]; simpa using hl
  have each : ∀ i, i < len → ∃ q : Int × Bool, W.cell? (a.add (i * 2)) = some (.int .i64 q.1) ∧ W.cell? (a.add (i * 2 + 1)) = some (.bool q.2) ∧ I64 q.1 := by
    intro i hi
    obtain ⟨cs', h1, h2⟩ := hx i (by omega)
    rw [cells47] at h1
    obtain ⟨_, hlen, hcell⟩ := World.cells?_some h1
    obtain ⟨xs, k, hk, hxy, _, hxl, hf⟩ := DataW.trod_struct Try.underlying79 h2
    match cs', hlen with
    | [v0, v1], _ =>
      have g0 := hf 0 _ rfl
      have g1 := hf 1 _ rfl
      have e0 := hcell 0 (by omega)
      have e1 := hcell 1 (by omega)
      rw [add_add] at e0 e1
      simp [cells3, cells4] at g0 g1
      match xs, hxl with
      | [y0, y1], _ =>
        simp at g0 g1
        obtain ⟨z, hz, _, wz⟩ := DataW.trod_int Try.underlying3 g0
        obtain ⟨s, hs, _⟩ := DataW.trod_bool Try.underlying4 g1
        simp at hz hs e0 e1
        subst hz hs
        exact ⟨(z, s), e0, e1, bounds_i64 wz⟩
  obtain ⟨q, hq⟩ := choose_lt each
  refine ⟨some a, a.block, a.off, len, cap, fun i => (q i).1, fun i => (q i).2, rfl, fun h0 => ?_, fun i hi => ?_, hl, hm, fun i hi => (hq i hi).2.2⟩
  · have h1 := (hq 0 h0).1
    simp [Addr.add] at h1
    rw [← plain_addr h1]
  · have h1 := (hq 0 (by omega)).1
    simp [Addr.add] at h1
    have ha := plain_addr h1
    obtain ⟨b, o, s⟩ := a
    simp at ha
    subst ha
    have := hq i hi
    rw [add_plain, add_plain] at this
    exact ⟨by simpa using this.1, by have := this.2.1; simpa [Nat.add_assoc] using this⟩

theorem open_code {fuel : Nat} {cs : List Value} {x : DataW H × List MemPlace} (h : DataW.trod enc Try.prog W base (fun _ => true) held fuel 23 cs = some x) :
    ∃ (ca : Option Addr) (cb co cl cc : Nat) (ins : Nat → Ins), cs = [.slice ca cl cc] ∧ (0 < cl → ca = some ⟨cb, co, none⟩) ∧ CodeAt W cb co cl ins ∧ cl ≤ cc ∧ cc ≤ maxLen ∧ ∀ i, i < cl → (ins i).fits := by
  rcases open_slice Try.underlying23 h with ⟨rfl, _⟩ | ⟨a, len, cap, m, n, D, Pl, rfl, hb, hl, hm, hmm, rfl, hx⟩
  · exact ⟨none, 0, 0, 0, 0, fun _ => ⟨0, 0, 0, 0, 0⟩, rfl, fun h => by omega, fun i hi => by omega, Nat.le_refl _, Nat.zero_le _, fun i hi => by omega⟩
  have hlm : len ≤ m := by rw [hmm]; simpa using hl
  have each : ∀ i, i < len → ∃ q : Int × Int × Int × Int × Int, W.cell? (a.add (i * 5)) = some (.int .i64 q.1) ∧ W.cell? (a.add (i * 5 + 1)) = some (.int .i64 q.2.1) ∧ W.cell? (a.add (i * 5 + 2)) = some (.int .i64 q.2.2.1) ∧
      W.cell? (a.add (i * 5 + 3)) = some (.int .i64 q.2.2.2.1) ∧ W.cell? (a.add (i * 5 + 4)) = some (.int .i64 q.2.2.2.2) ∧ I64 q.1 ∧ I64 q.2.1 ∧ I64 q.2.2.1 ∧ I64 q.2.2.2.1 ∧ I64 q.2.2.2.2 := by
    intro i hi
    obtain ⟨cs', h1, h2⟩ := hx i (by omega)
    rw [cells34] at h1
    obtain ⟨_, hlen, hcell⟩ := World.cells?_some h1
    obtain ⟨xs, k, hk, hxy, _, hxl, hf⟩ := DataW.trod_struct Try.underlying75 h2
    match cs', hlen with
    | [v0, v1, v2, v3, v4], _ =>
      have g0 := hf 0 _ rfl
      have g1 := hf 1 _ rfl
      have g2 := hf 2 _ rfl
      have g3 := hf 3 _ rfl
      have g4 := hf 4 _ rfl
      have e0 := hcell 0 (by omega)
      have e1 := hcell 1 (by omega)
      have e2 := hcell 2 (by omega)
      have e3 := hcell 3 (by omega)
      have e4 := hcell 4 (by omega)
      rw [add_add] at e0 e1 e2 e3 e4
      simp [cells3, cells2] at g0 g1 g2 g3 g4
      match xs, hxl with
      | [y0, y1, y2, y3, y4], _ =>
        simp at g0 g1 g2 g3 g4
        obtain ⟨z0, hz0, _, wz0⟩ := DataW.trod_int Try.underlying3 g0
        obtain ⟨z1, hz1, _, wz1⟩ := DataW.trod_int Try.underlying3 g1
        obtain ⟨z2, hz2, _, wz2⟩ := DataW.trod_int Try.underlying3 g2
        obtain ⟨z3, hz3, _, wz3⟩ := DataW.trod_int Try.underlying3 g3
        obtain ⟨z4, hz4, _, wz4⟩ := DataW.trod_int Try.underlying2 g4
        simp at hz0 hz1 hz2 hz3 hz4 e0 e1 e2 e3 e4
        subst hz0 hz1 hz2 hz3 hz4
        exact ⟨(z0, z1, z2, z3, z4), e0, e1, e2, e3, e4, bounds_i64 wz0, bounds_i64 wz1, bounds_i64 wz2, bounds_i64 wz3, bounds_i64 wz4⟩
  obtain ⟨q, hq⟩ := choose_lt each
  refine ⟨some a, a.block, a.off, len, cap, fun i => ⟨(q i).1, (q i).2.1, (q i).2.2.1, (q i).2.2.2.1, (q i).2.2.2.2⟩, rfl, fun h0 => ?_, fun i hi => ?_, hl, hm, fun i hi => (hq i hi).2.2.2.2.2⟩
  · have h1 := (hq 0 h0).1
    simp [Addr.add] at h1
    rw [← plain_addr h1]
  · have h1 := (hq 0 (by omega)).1
    simp [Addr.add] at h1
    have ha := plain_addr h1
    obtain ⟨b, o, s⟩ := a
    simp at ha
    subst ha
    have := hq i hi
    rw [add_plain, add_plain, add_plain, add_plain, add_plain] at this
    obtain ⟨t0, t1, t2, t3, t4, _⟩ := this
    exact ⟨by simpa using t0, by simpa [Nat.add_assoc] using t1, by simpa [Nat.add_assoc] using t2, by simpa [Nat.add_assoc] using t3, by simpa [Nat.add_assoc] using t4⟩

theorem open_prog {v : Value} {d : DataW H} {ps : List MemPlace} {r : Reach} {b0 : Nat} (hv : Value.okWide Try.prog W r b0 25 v) (h : DataW.Trod enc Try.prog W base (fun _ => true) held 25 v d ps) :
    ∃ (p : Prg) (l : Loc), v = .agg #[.slice l.ra p.rl l.rc, .slice l.ca p.cl l.cc] ∧ PIn W p l ∧ p.Fit := by
  obtain ⟨v0, v1, y0, y1, n, rfl, rfl, rfl, h0, h1⟩ := open_agg2 Try.underlying25 (by kernel_rfl) cells29 hv h
  obtain ⟨ra, rb, ro, rl, rc, log, sec, e0, hra, hr, hrc, hrm, hlog⟩ := open_regs h0
  obtain ⟨ca, cb, co, cl, cc, ins, e1, hca, hc, hcc, hcm, hins⟩ := open_code h1
  simp at e0 e1
  subst e0 e1
  exact ⟨⟨rl, log, sec, cl, ins⟩, ⟨ra, rb, ro, rc, ca, cb, co, cc⟩, rfl, ⟨hra, hca, hr, hc⟩, ⟨Nat.le_trans hrc hrm, Nat.le_trans hcc hcm, hlog, hins⟩⟩

end
end
section
open Go.RowKit
/-- Something that can be watched. -/
structure Se where
  kind : Int
  a : Int
  b : Int

def SeesAt (w : World) (b o : Nat) (l : List Se) : Prop :=
  ∀ i s, l[i]? = some s → w.cell? ⟨b, o + i * 3, none⟩ = some (.int .i64 s.kind) ∧ w.cell? ⟨b, o + i * 3 + 1, none⟩ = some (.int .i64 s.a) ∧ w.cell? ⟨b, o + i * 3 + 2, none⟩ = some (.int .i64 s.b)
theorem SeesAt.more {w w' : World} (m : More w w') {b o : Nat} {l : List Se} (h : SeesAt w b o l) : SeesAt w' b o l :=
  fun i s hs => ⟨m.cell (h i s hs).1, m.cell (h i s hs).2.1, m.cell (h i s hs).2.2⟩

/-- A slice of what was shown. -/
def SeenAt (w : World) (v : Value) (l : List Se) : Prop :=
  ∃ (a : Option Addr) (b o c : Nat), v = .slice a l.length c ∧ (0 < l.length → a = some ⟨b, o, none⟩) ∧ SeesAt w b o l ∧ l.length < 4611686018427387904
theorem SeenAt.more {w w' : World} (m : More w w') {v : Value} {l : List Se} (h : SeenAt w v l) : SeenAt w' v l := by
  obtain ⟨a, b, o, c, e, h1, h2, h3⟩ := h
  exact ⟨a, b, o, c, e, h1, h2.more m, h3⟩

/-- A memory: so many lists, so long, of these words. -/
structure Mem where
  ml : Nat
  len : Nat → Nat
  wd : Nat → Nat → Int
/-- Where a memory lies. -/
structure MLoc where
  ma : Option Addr
  mb : Nat
  mo : Nat
  mc : Nat
  A : Nat → Option Addr
  C : Nat → Nat
  gb : Nat → Nat
  go : Nat → Nat

structure MIn (w : World) (m : Mem) (l : MLoc) : Prop where
  hm : 0 < m.ml → l.ma = some ⟨l.mb, l.mo, none⟩
  lists : ListsAt w l.mb l.mo m.ml l.A m.len l.C
  hg : ∀ i, i < m.ml → 0 < m.len i → l.A i = some ⟨l.gb i, l.go i, none⟩
  words : ∀ i, i < m.ml → ∀ j, j < m.len i → w.cell? ⟨l.gb i, l.go i + j, none⟩ = some (.int .i64 (m.wd i j))
  fitl : m.ml < 4611686018427387904
  fitw : ∀ i, i < m.ml → m.len i < 4611686018427387904
theorem MIn.more {w w' : World} (m : More w w') {x : Mem} {l : MLoc} (h : MIn w x l) : MIn w' x l :=
  ⟨h.hm, h.lists.more m, h.hg, fun i hi j hj => m.cell (h.words i hi j hj), h.fitl, h.fitw⟩

/-- What a run shows. -/
structure Sh where
  fin : Int
  val : Int
  steps : Int
  seen : List Se
  mem : Mem

def ShownAt (w : World) (v : Value) (x : Sh) : Prop :=
  ∃ (sv : Value) (l : MLoc), v = .agg #[.int .i64 x.fin, .int .i64 x.val, .int .i64 x.steps, sv, .slice l.ma x.mem.ml l.mc] ∧ SeenAt w sv x.seen ∧ MIn w x.mem l
/-- A number of 64 bits, taken from 0 on. -/
def toU (a : Int) : Nat := (a % 18446744073709551616).toNat

theorem toU_cast (a : Int) : ((toU a : Nat) : Int) = a % 18446744073709551616 := by unfold toU; omega
theorem toU_lt (a : Int) : toU a < 18446744073709551616 := by unfold toU; omega

/-- What an operation makes of two numbers. -/
def opI (op a b : Int) : Int :=
  if op = 1 then wrap64 (a + b)
  else if op = 2 then wrap64 (a - b)
  else if op = 3 then wrap64 (a * b)
  else if op = 4 then wrap64 ((toU a &&& toU b : Nat) : Int)
  else if op = 5 then wrap64 ((toU a ||| toU b : Nat) : Int)
  else if op = 6 then wrap64 ((toU a ^^^ toU b : Nat) : Int)
  else if op = 7 then wrap64 ((toU a * 2 ^ (toU b % 64) : Nat) : Int)
  else if op = 8 then wrap64 ((toU a / 2 ^ (toU b % 64) : Nat) : Int)
  else if op = 9 then wrap64 ((toU a / toU b : Nat) : Int)
  else if op = 10 then wrap64 ((toU a % toU b : Nat) : Int)
  else 0

/-- Whether two numbers are as a condition says. -/
def holdsI (c a b : Int) : Bool :=
  if c = 1 then toU a == toU b
  else if c = 2 then toU a != toU b
  else if c = 3 then decide (toU a < toU b)
  else if c = 4 then decide (toU b ≤ toU a)
  else false

theorem uwrap (a : Int) : IntKind.u64.wrap a = ((toU a : Nat) : Int) := by rw [IntKind.wrap_u64, toU_cast]

theorem wrap_uwrap (n : Int) : wrap64 (IntKind.u64.wrap n) = wrap64 n := by
  rw [IntKind.wrap_u64]; unfold wrap64; omega

theorem wrap_add (a b : Int) : wrap64 (IntKind.u64.wrap (IntKind.u64.wrap a + IntKind.u64.wrap b)) = wrap64 (a + b) := by
  rw [wrap_uwrap]; simp only [IntKind.wrap_u64]; unfold wrap64; omega
theorem wrap_sub (a b : Int) : wrap64 (IntKind.u64.wrap (IntKind.u64.wrap a - IntKind.u64.wrap b)) = wrap64 (a - b) := by
  rw [wrap_uwrap]; simp only [IntKind.wrap_u64]; unfold wrap64; omega
theorem wrap_mul (a b : Int) : wrap64 (IntKind.u64.wrap (IntKind.u64.wrap a * IntKind.u64.wrap b)) = wrap64 (a * b) := by
  have h : (a % 18446744073709551616 * (b % 18446744073709551616)) % 18446744073709551616 = (a * b) % 18446744073709551616 := by
    rw [← Int.mul_emod]
  rw [wrap_uwrap]; simp only [IntKind.wrap_u64]; unfold wrap64; omega
theorem wrap_and (a b : Int) : wrap64 (bits .and .u64 (IntKind.u64.wrap a) (IntKind.u64.wrap b)) = wrap64 ((toU a &&& toU b : Nat) : Int) := by
  rw [uwrap, uwrap, u64_and_nat _ _ (toU_lt a) (toU_lt b)]
theorem wrap_or (a b : Int) : wrap64 (bits .or .u64 (IntKind.u64.wrap a) (IntKind.u64.wrap b)) = wrap64 ((toU a ||| toU b : Nat) : Int) := by
  rw [uwrap, uwrap, u64_or_nat _ _ (toU_lt a) (toU_lt b)]
theorem wrap_xor (a b : Int) : wrap64 (bits .xor .u64 (IntKind.u64.wrap a) (IntKind.u64.wrap b)) = wrap64 ((toU a ^^^ toU b : Nat) : Int) := by
  rw [uwrap, uwrap, u64_xor_nat _ _ (toU_lt a) (toU_lt b)]
theorem and63 (y : Int) : bits BinOp.and IntKind.u64 (IntKind.u64.wrap y) 63 = ((toU y % 64 : Nat) : Int) := by
  have h := u64_and_nat (toU y) 63 (toU_lt y) (by decide)
  rw [uwrap]
  exact h.trans (by rw [nat_mask6])
theorem wrap_shl (a : Int) (k : Nat) : wrap64 (IntKind.u64.wrap (IntKind.u64.wrap a * 2 ^ k)) = wrap64 ((toU a * 2 ^ k : Nat) : Int) := by
  rw [wrap_uwrap, uwrap]; push_cast; rfl
theorem wrap_shr (a : Int) (k : Nat) : wrap64 (IntKind.u64.wrap a / 2 ^ k) = wrap64 ((toU a / 2 ^ k : Nat) : Int) := by
  rw [uwrap]; push_cast; rfl
theorem wrap_quo (a b : Int) : wrap64 (IntKind.u64.wrap ((IntKind.u64.wrap a).tdiv (IntKind.u64.wrap b))) = wrap64 ((toU a / toU b : Nat) : Int) := by
  rw [wrap_uwrap, uwrap, uwrap, Int.ofNat_tdiv]
theorem wrap_rem (a b : Int) : wrap64 ((IntKind.u64.wrap a).tmod (IntKind.u64.wrap b)) = wrap64 ((toU a % toU b : Nat) : Int) := by
  rw [uwrap, uwrap, Int.ofNat_tmod]
theorem quo_zero (a b : Int) (h : toU b = 0) : (0 : Int) = wrap64 ((toU a / toU b : Nat) : Int) := by
  rw [h, Nat.div_zero]; unfold wrap64; omega
theorem rem_zero (a b : Int) (h : toU b = 0) : wrap64 (IntKind.u64.wrap a) = wrap64 ((toU a % toU b : Nat) : Int) := by
  rw [h, Nat.mod_zero, uwrap]

theorem holdsI_1 (a b : Int) : holdsI 1 a b = (IntKind.u64.wrap a == IntKind.u64.wrap b) := by
  have h := toU_cast a; have h' := toU_cast b
  simp only [holdsI, IntKind.wrap_u64]
  rw [Bool.eq_iff_iff]; simp; omega
theorem holdsI_2 (a b : Int) : holdsI 2 a b = (IntKind.u64.wrap a != IntKind.u64.wrap b) := by
  have h := toU_cast a; have h' := toU_cast b
  simp only [holdsI, IntKind.wrap_u64]
  rw [Bool.eq_iff_iff]; simp; omega
theorem holdsI_3 (a b : Int) : holdsI 3 a b = decide (IntKind.u64.wrap a < IntKind.u64.wrap b) := by
  have h := toU_cast a; have h' := toU_cast b
  simp only [holdsI, IntKind.wrap_u64]
  rw [Bool.eq_iff_iff]; simp; omega
theorem holdsI_4 (a b : Int) : holdsI 4 a b = decide (IntKind.u64.wrap b ≤ IntKind.u64.wrap a) := by
  have h := toU_cast a; have h' := toU_cast b
  simp only [holdsI, IntKind.wrap_u64]
  rw [Bool.eq_iff_iff]; simp; omega

theorem opI_1 (a b : Int) : opI 1 a b = wrap64 (a + b) := by simp [opI]
theorem opI_2 (a b : Int) : opI 2 a b = wrap64 (a - b) := by simp [opI]
theorem opI_3 (a b : Int) : opI 3 a b = wrap64 (a * b) := by simp [opI]
theorem opI_4 (a b : Int) : opI 4 a b = wrap64 ((toU a &&& toU b : Nat) : Int) := by simp [opI]
theorem opI_5 (a b : Int) : opI 5 a b = wrap64 ((toU a ||| toU b : Nat) : Int) := by simp [opI]
theorem opI_6 (a b : Int) : opI 6 a b = wrap64 ((toU a ^^^ toU b : Nat) : Int) := by simp [opI]
theorem opI_7 (a b : Int) : opI 7 a b = wrap64 ((toU a * 2 ^ (toU b % 64) : Nat) : Int) := by simp [opI]
theorem opI_8 (a b : Int) : opI 8 a b = wrap64 ((toU a / 2 ^ (toU b % 64) : Nat) : Int) := by simp [opI]
theorem opI_9 (a b : Int) : opI 9 a b = wrap64 ((toU a / toU b : Nat) : Int) := by simp [opI]
theorem opI_10 (a b : Int) : opI 10 a b = wrap64 ((toU a % toU b : Nat) : Int) := by simp [opI]
def B64 (x : Int) : Prop := -9223372036854775808 ≤ x ∧ x ≤ 9223372036854775807
theorem B64_wrap (x : Int) : B64 (wrap64 x) := by unfold B64 wrap64; omega
theorem B64_zero : B64 0 := by unfold B64; omega

def setR (r : Nat → Int) (a v : Int) : Nat → Int := fun j => if j = a.toNat then v else r j
/-- How many words the regions ahead of one have. -/
def baseI (log : Nat → Int) : Nat → Int
  | 0 => 0
  | k + 1 => baseI log k + wordsI (log k)

/-- An instruction of registers alone: the registers behind it, and what it shows beside its step. -/
def regsI (r : Nat → Int) (i : Ins) : (Nat → Int) × List Se :=
  if i.op = 1 then (setR r i.a i.n, [])
  else if i.op = 2 then (setR r i.a (r i.b.toNat), [])
  else if i.op = 10 then (setR r i.a (wrap64 (r i.b.toNat + i.n)), [])
  else if i.op = 11 then (if r i.a.toNat < 0 ∨ i.n ≤ r i.a.toNat then setR r i.a 0 else r, [])
  else if i.op = 12 then (r, [])
  else (setR r i.a (opI (i.op - 20) (r i.b.toNat) (r i.c.toNat)), if i.op = 29 ∨ i.op = 30 then [⟨3, r i.b.toNat, r i.c.toNat⟩] else [])

def putI (i : Ins) : Int := if i.op = 3 ∨ i.op = 5 then 0 else if i.op = 4 ∨ i.op = 6 then 1 else -1
def idxI (r : Nat → Int) (i : Ins) : Int := if i.op = 5 ∨ i.op = 6 then i.n else wrap64 (r i.b.toNat + i.n)

/-- Where a run stands. -/
structure St where
  at_ : Nat
  r : Nat → Int
  m : Mem
  seen : List Se

def RegsR (w : World) (g : Nat) (r : Nat → Int) : Prop := ∀ j, j < 10 → w.cell? ⟨g, j, none⟩ = some (.int .i64 (r j)) ∧ w.frozen? ⟨g, j, none⟩ = false

theorem frozen_kept {w w' : World} {row : Option Nat} (hg : w.grownBy w' row) {a : Addr} {v : Value} (h : w.cell? a = some v) (hne : some a.block ≠ row) : w'.frozen? a = w.frozen? a :=
  World.frozen?_of_block (hg.block a.block (cell_block h) hne)
theorem RegsR.kept {w w' : World} {row : Option Nat} (hg : w.grownBy w' row) {g : Nat} {r : Nat → Int} (h : RegsR w g r) (hne : some g ≠ row) : RegsR w' g r :=
  fun j hj => ⟨hg.cell (h j hj).1 hne, (frozen_kept hg (h j hj).1 hne).trans (h j hj).2⟩
theorem grown_drew (w : World) (row : Option Nat) : w.grownBy w.drew row := ⟨rfl, rfl, rfl, Nat.le_refl _, fun _ _ _ => rfl⟩
theorem grown_refl (w : World) (row : Option Nat) : w.grownBy w row := ⟨rfl, rfl, rfl, Nat.le_refl _, fun _ _ _ => rfl⟩
theorem grown_set (w : World) (g o : Nat) (v : Value) : w.grownBy (w.setCell ⟨g, o, none⟩ v) (some g) :=
  ⟨rfl, rfl, rfl, by simp [World.setCell], fun k _ hne => Below.heap_setCell _ _ _ _ (by simpa using hne)⟩
theorem grown_trans {a b c : World} {row : Option Nat} (h : a.grownBy b row) (k : b.grownBy c row) : a.grownBy c row :=
  ⟨k.os.trans h.os, k.tape.trans h.tape, k.output.trans h.output, Nat.le_trans h.size k.size, fun i hi hne => (k.block i (Nat.lt_of_lt_of_le hi h.size) hne).trans (h.block i hi hne)⟩
theorem More.grow {w w' : World} (h : More w w') (row : Option Nat) : w.grownBy w' row := ⟨Below.os h, Below.tape h, Below.output h, Below.size h, fun k hk _ => Below.block h k hk⟩

theorem RegsR.set {w : World} {g : Nat} {r : Nat → Int} (h : RegsR w g r) (a v : Int) : RegsR (w.setCell ⟨g, a.toNat, none⟩ (.int .i64 v)) g (setR r a v) := by
  intro j hj
  refine ⟨?_, by rw [World.frozen?_setCell]; exact (h j hj).2⟩
  unfold setR
  by_cases e : j = a.toNat
  · subst e
    rw [if_pos rfl]
    exact World.cell?_setCell_same _ _ _ (h _ hj).1
  · rw [if_neg e, World.cell?_setCell_other _ _ _ _ (by simp <;> omega)]
    exact (h j hj).1

theorem RegsR.alloc {w : World} {g : Nat} {r : Nat → Int} (h : RegsR w g r) (c : Array Value) (t : TypeId) : RegsR (w.alloc (.cells c t)) g r := h.kept (World.grownBy_alloc w _ none) (by simp)
theorem RegsR.drew {w : World} {g : Nat} {r : Nat → Int} (h : RegsR w g r) : RegsR w.drew g r := h
theorem RegsR.more {w w' : World} (m : More w w') {g : Nat} {r : Nat → Int} (h : RegsR w g r) : RegsR w' g r := h.kept (m.grow none) (by simp)
theorem gr_alloc {w w1 : World} {row : Option Nat} (h : w.grownBy w1 row) (o : Obj) : w.grownBy (w1.alloc o) row := grown_trans h (World.grownBy_alloc w1 o row)
theorem gr_drew {w w1 : World} {row : Option Nat} (h : w.grownBy w1 row) : w.grownBy w1.drew row := grown_trans h (grown_drew w1 row)
theorem gr_set {w w1 : World} {g : Nat} (h : w.grownBy w1 (some g)) (o : Nat) (v : Value) : w.grownBy (w1.setCell ⟨g, o, none⟩ v) (some g) := grown_trans h (grown_set w1 g o v)
theorem gr_more {w w1 w2 : World} {row : Option Nat} (h : w.grownBy w1 row) (m : More w1 w2) : w.grownBy w2 row := grown_trans h (m.grow row)
theorem wrapEq (x : Int) : IntKind.i64.wrap x = wrap64 x := by rw [IntKind.wrap_i64]; unfold wrap64; omega
end
section
open Go.ChangeShapes Go.WideShapes Go.ChangeAt Go.RowKit Go.Deep Go.Joins
set_option linter.unusedVariables false
set_option maxRecDepth 8000
structure MRaw (w : World) (m : Mem) (l : MLoc) : Prop where
  hm : 0 < m.ml → l.ma = some ⟨l.mb, l.mo, none⟩
  lists : ListsAt w l.mb l.mo m.ml l.A m.len l.C
  hg : ∀ i, i < m.ml → 0 < m.len i → l.A i = some ⟨l.gb i, l.go i, none⟩
  words : ∀ i, i < m.ml → ∀ j, j < m.len i → w.cell? ⟨l.gb i, l.go i + j, none⟩ = some (.int .i64 (m.wd i j))
theorem MRaw.more {w w' : World} (m : More w w') {x : Mem} {l : MLoc} (h : MRaw w x l) : MRaw w' x l :=
  ⟨h.hm, h.lists.more m, h.hg, fun i hi j hj => m.cell (h.words i hi j hj)⟩
theorem MRaw.in_ {w : World} {m : Mem} {l : MLoc} (h : MRaw w m l) (h1 : m.ml ≤ 6) (h2 : ∀ i, i < m.ml → m.len i ≤ 64) : MIn w m l :=
  ⟨h.hm, h.lists, h.hg, h.words, by omega, fun i hi => by have := h2 i hi; omega⟩

theorem open_memw {H : Type} {enc : TypeId × Value → H} {W : World} {base : Nat} {held : Bool} {v : Value} {d : DataW H} {ps : List MemPlace} {r : Reach} {b0 : Nat}
    (hv : Value.okWide Try.prog W r b0 26 v) (h : DataW.Trod enc Try.prog W base (fun _ => true) held 26 v d ps) :
    ∃ (m : Mem) (l : MLoc), v = .slice l.ma m.ml l.mc ∧ MRaw W m l ∧ ∀ j, j < m.ml → ∀ i, i < m.len j → B64 (m.wd j i) := by
  obtain ⟨a0, len, cap, rfl⟩ := okWide_slice Try.underlying26 hv
  obtain ⟨fuel, hf⟩ := h
  rcases open_int_rows Try.underlying26 Try.underlying67 Try.underlying2 cells48 cells2 hf with ⟨hcs, _⟩ | ⟨a, len', cap', A, L, C, Z, hcs, _, hl, hm, _, hrow⟩
  · simp [Value.cells] at hcs
    obtain ⟨rfl, rfl, rfl⟩ := hcs
    exact ⟨⟨0, fun _ => 0, fun _ _ => 0⟩, ⟨none, 0, 0, 0, fun _ => none, fun _ => 0, fun _ => 0, fun _ => 0⟩, rfl, ⟨fun h => by simp at h, fun i hi => by simp at hi, fun i hi => by simp at hi, fun i hi => by simp at hi⟩, fun j hj => by simp at hj⟩
  · simp [Value.cells] at hcs
    obtain ⟨rfl, rfl, rfl⟩ := hcs
    have haddr : ∀ i, i < len → 0 < L i → ∃ a', A i = some a' ∧ a' = ⟨a'.block, a'.off, none⟩ := by
      intro i hi h0
      obtain ⟨_, h2, _, _, _, h6, h7⟩ := hrow i (by omega)
      cases hA : A i with
      | none => have := h6 hA; omega
      | some a' =>
        refine ⟨a', rfl, ?_⟩
        have := (h7 a' hA).2 0 (by omega)
        simp [Addr.add] at this
        exact plain_addr this
    refine ⟨⟨len, L, fun i j => (Z i).getD j 0⟩, ⟨some a, a.block, a.off, cap, A, C, fun i => ((A i).getD a).block, fun i => ((A i).getD a).off⟩, rfl, ⟨fun h0 => ?_, fun i hi => ?_, fun i hi h0 => ?_, fun i hi j hj => ?_⟩, fun j hj i hi => ?_⟩
    · dsimp only at h0 ⊢
      have h1 := (hrow 0 (by omega)).1
      simp [Addr.add] at h1
      rw [← plain_addr h1]
    · dsimp only at hi ⊢
      have h1 := (hrow 0 (by omega)).1
      simp [Addr.add] at h1
      have ha := plain_addr h1
      obtain ⟨b, o, s⟩ := a
      simp at ha
      subst ha
      have := (hrow i (by omega)).1
      rw [add_plain] at this
      exact this
    · dsimp only at hi h0 ⊢
      obtain ⟨a', e1, e2⟩ := haddr i hi h0
      rw [e1]
      simp only [Option.getD_some]
      rw [← e2]
    · dsimp only at hi hj ⊢
      obtain ⟨a', e1, e2⟩ := haddr i hi (by omega)
      have h2 := (hrow i (by omega)).2.1
      have := ((hrow i (by omega)).2.2.2.2.2.2 a' e1).2 j (by omega)
      rw [e1]
      simp only [Option.getD_some]
      rw [e2, add_plain] at this
      exact this
    · dsimp only at hj hi ⊢
      obtain ⟨_, h2, _, h4, h5, _, _⟩ := hrow j (by omega)
      have hlt : i < (Z j).length := by omega
      have : (Z j).getD i 0 ∈ Z j := by simp [List.getD, List.getElem?_eq_getElem hlt]
      exact bounds_i64 (h5 _ this)
end
section
open Go.RowKit
set_option linter.unusedSimpArgs false
set_option linter.unusedVariables false
theorem hid_of2 {P : Prop} (h : P) : Hid P := h
structure SIn (w : World) (sa : Option Addr) (sb so : Nat) (L : List Int) : Prop where
  ha : 0 < L.length → sa = some ⟨sb, so, none⟩
  cells : ∀ (j : Nat) (c : Int), L[j]? = some c → w.cell? ⟨sb, so + j, none⟩ = some (.int .i64 c)
theorem SIn.more {w w' : World} (m : More w w') {sa : Option Addr} {sb so : Nat} {L : List Int} (h : SIn w sa sb so L) : SIn w' sa sb so L := ⟨h.ha, fun j c hc => m.cell (h.cells j c hc)⟩
/-- D1: which scripts may be. -/
def ScOk (L : List Int) : Prop := L.length ≤ 2000 ∧ ∀ (j : Nat) (c : Int), L[j]? = some c → 0 ≤ c

set_option maxHeartbeats 400000 in
theorem ref_script (sa : Option Addr) (sb so n cap : Nat) (L : List Int) (hn : L.length = n) (w : World) (h : SIn w sa sb so L) :
    Calls Try.prog 17 #[.slice sa n cap] w fun e w' => ∃ r : Bool, e = .returned (.bool r) ∧ (r = true ↔ ScOk L) ∧ w' = w := by
  have H := hid_of2 (And.intro h hn)
  clear h hn
  by_cases h2 : 2000 < n
  · have h2' : (2000 : Int) < (n : Int) := by omega
    go_enter Try.func17, Try.ntmps17
    go_wp2
    go_ret
    exact ⟨false, rfl, ⟨(fun h => by cases h), fun h => by have := h.1; rw [H.out.2] at this; omega⟩, rfl⟩
  · have h2' : ¬ (2000 : Int) < (n : Int) := by omega
    go_enter Try.func17, Try.ntmps17
    go_wp2
    go_loopg [3] n (fun g i wr => ∃ k : Nat, k + g = n ∧ i = .int .i64 k ∧ (∀ (j : Nat) (c : Int), j < k → L[j]? = some c → 0 ≤ c) ∧ wr = w)
    case atStart => exact ⟨0, by omega, rfl, fun j c hj => by omega, rfl⟩
    case round =>
      obtain ⟨k, hkg, rfl, hok, rfl⟩ := hrel
      have Hok := hid_of2 hok
      clear hok
      cases gk with
      | zero =>
        obtain rfl : k = n := by omega
        go_wp2
        go_ret
        refine ⟨true, rfl, ⟨fun _ => ⟨by have := H.out.2; omega, fun j c hc => ?_⟩, fun _ => rfl⟩, rfl⟩
        exact Hok.out j c (by have := (List.getElem?_eq_some_iff.1 hc).1; have := H.out.2; omega) hc
      | succ g =>
        have hk : k < n := by omega
        have hk' : (k : Int) < (n : Int) := by omega
        have hkw : wrap64 ((k : Int) + 1) = (k : Int) + 1 := by unfold wrap64; omega
        obtain rfl := H.out.1.ha (by have := H.out.2; omega)
        obtain ⟨c, hc⟩ : ∃ c, L[k]? = some c := ⟨L[k]'(by have := H.out.2; omega), List.getElem?_eq_getElem _⟩
        have hcell := H.out.1.cells k c hc
        have Hc := hid_of2 hc
        clear hc
        by_cases c0 : c < 0
        · go_wp2
          go_ret
          refine ⟨false, rfl, ⟨(fun h => by cases h), fun h => ?_⟩, rfl⟩
          have := h.2 k c Hc.out
          omega
        · go_wp2
          go_roundg g
          case measure => omega
          case rel =>
            refine ⟨k + 1, by omega, by first | rfl | (push_cast; rfl) | simp, fun j c' hj hc' => ?_, rfl⟩
            by_cases e : j = k
            · subst e
              rw [Hc.out] at hc'
              obtain rfl := Option.some.inj hc'
              omega
            · exact Hok.out j c' (by omega) hc'
end
section
open Go.ChangeShapes Go.WideShapes Go.ChangeAt Go.RowKit Go.Deep Go.Joins
set_option linter.unusedVariables false
set_option maxRecDepth 8000
theorem cellsOf3 : Try.prog.cellsOf 3 = 1 := by kernel_rfl

theorem open_script {H : Type} {enc : TypeId × Value → H} {W : World} {base : Nat} {held : Bool} {v : Value} {d : DataW H} {ps : List MemPlace} {r : Reach} {b0 : Nat}
    (hv : Value.okWide Try.prog W r b0 27 v) (h : DataW.Trod enc Try.prog W base (fun _ => true) held 27 v d ps) :
    ∃ (sa : Option Addr) (sb so n cap : Nat) (L : List Int), v = .slice sa n cap ∧ L.length = n ∧ n ≤ cap ∧ SIn W sa sb so L := by
  obtain ⟨a0, len, cap, rfl⟩ := okWide_slice Try.underlying27 hv
  obtain ⟨fuel, hf⟩ := h
  rcases open_ints Try.underlying27 Try.underlying3 cellsOf3 hf with ⟨hcs, _⟩ | ⟨a, len', cap', zs, hcs, _, hl, hm, hlen, _, hcell, _⟩
  · simp [Value.cells] at hcs
    obtain ⟨rfl, rfl, rfl⟩ := hcs
    exact ⟨none, 0, 0, 0, 0, [], rfl, rfl, Nat.le_refl _, ⟨fun h => absurd h (Nat.not_lt_zero _), fun j c hc => by simp at hc⟩⟩
  · simp [Value.cells] at hcs
    obtain ⟨rfl, rfl, rfl⟩ := hcs
    simp only [if_true] at hlen
    refine ⟨some a, a.block, a.off, len, cap, zs.take len, rfl, by simp; omega, hl, ?_⟩
    by_cases h0 : 0 < len
    · have h1 := hcell 0 (by omega)
      simp [Addr.add] at h1
      have ha := plain_addr h1
      obtain ⟨b, o, sp⟩ := a
      simp at ha
      subst ha
      refine ⟨fun _ => rfl, fun j c hc => ?_⟩
      have hj : j < len := by have := (List.getElem?_eq_some_iff.1 hc).1; simp at this; omega
      have h2 := hcell j (by omega)
      rw [add_plain] at h2
      rw [List.getElem?_take, if_pos hj] at hc
      rw [List.getD_eq_getElem?_getD, hc, Option.getD_some] at h2
      exact h2
    · obtain rfl : len = 0 := by omega
      exact ⟨fun h => by simp at h, fun j c hc => by simp at hc⟩
end
section
open Go.RowKit
set_option linter.unusedVariables false
theorem putI_load {i : Ins} (h : i.op = 3 ∨ i.op = 5) : putI i = 0 := by unfold putI; rw [if_pos h]
theorem putI_put {i : Ins} (h : i.op = 4 ∨ i.op = 6) : putI i = 1 := by unfold putI; rw [if_neg (by omega), if_pos h]
theorem putI_no {i : Ins} (h3 : ¬ i.op = 3) (h4 : ¬ i.op = 4) (h5 : ¬ i.op = 5) (h6 : ¬ i.op = 6) : putI i = -1 := by unfold putI; rw [if_neg (by omega), if_neg (by omega)]
/-- A place: the next instruction, registers, words, what each was (the eldest first). -/
structure Pl where
  at_ : Nat
  r : Nat → Int
  wd : Nat → Int
  past : Nat → List Int

/-- Where a run stands: the place, the one to come back to (where it is ahead of time), the steps since the choice, the choices that are left, what was shown. -/
structure Sp where
  pl : Pl
  ahead : Bool
  since : Int
  back : Pl
  script : List Int
  seen : List Se

def setF {α : Type} (f : Nat → α) (k : Nat) (v : α) : Nat → α := fun j => if j = k then v else f j
def Sp.choice (s : Sp) : Int := s.script.headD 0
/-- D3: where the run is now is the place to come back to. -/
def Sp.leave (s : Sp) : Sp := if s.ahead = true then s else { s with ahead := true, since := -1, back := s.pl }
/-- D4: it is taken back. -/
def Sp.returns (s : Sp) : Sp := { s with seen := s.seen ++ [⟨4, 0, 0⟩], ahead := false, pl := s.back }
/-- How many words a program's regions have in all. -/
def allI (p : Prg) : Int := baseI p.log p.rl

def Sp.see (s : Sp) (x : Se) : Sp := { s with seen := s.seen ++ [x] }
def Sp.go (s : Sp) (n : Nat) : Sp := { s with pl := { s.pl with at_ := n } }
def Sp.reg (s : Sp) (a v : Int) : Sp := { s with pl := { s.pl with r := setR s.pl.r a v } }

/-- A word is taken or put, whose number is n. -/
def wordS (p : Prg) (s : Sp) (i : Ins) (n : Int) : Sp :=
  if n < 0 ∨ allI p ≤ n then (if putI i = 0 then s.reg i.a 0 else s)
  else if putI i = 1 then { s with pl := { s.pl with past := setF s.pl.past n.toNat (s.pl.past n.toNat ++ [s.pl.wd n.toNat]), wd := setF s.pl.wd n.toNat (s.pl.r i.a.toNat) } }
  else
    if 0 < s.choice ∧ s.choice ≤ ((s.pl.past n.toNat).length : Int) then
      (({ s with script := s.script.tail }.reg i.a (s.pl.wd n.toNat)).leave).reg i.a ((s.pl.past n.toNat).getD ((s.pl.past n.toNat).length - s.choice.toNat) 0)
    else { s with script := s.script.tail }.reg i.a (s.pl.wd n.toNat)

/-- An instruction: the state behind it, whether it is taken back at once if it is ahead of time, how the run ends with it, if it does. -/
def stepS (p : Prg) (s : Sp) : Sp × Bool × Option (Int × Int) :=
  if (p.ins s.pl.at_).op = 7 then (((s.see ⟨1, s.pl.at_, 0⟩).go (p.ins s.pl.at_).n.toNat), false, none)
  else if (p.ins s.pl.at_).op = 8 then
    (if holdsI (p.ins s.pl.at_).c (s.pl.r (p.ins s.pl.at_).a.toNat) (s.pl.r (p.ins s.pl.at_).b.toNat) = true then
      (if s.choice = 0 then { (s.see ⟨1, s.pl.at_, 0⟩).go (p.ins s.pl.at_).n.toNat with script := s.script.tail } else ({ (s.see ⟨1, s.pl.at_, 0⟩).go (p.ins s.pl.at_).n.toNat with script := s.script.tail }.leave).go (s.pl.at_ + 1), false, none)
    else
      (if s.choice = 0 then { (s.see ⟨1, s.pl.at_, 0⟩).go (s.pl.at_ + 1) with script := s.script.tail } else ({ (s.see ⟨1, s.pl.at_, 0⟩).go (s.pl.at_ + 1) with script := s.script.tail }.leave).go (p.ins s.pl.at_).n.toNat, false, none))
  else if (p.ins s.pl.at_).op = 9 ∧ s.ahead = false then (s.see ⟨1, s.pl.at_, 0⟩, false, some (1, s.pl.r (p.ins s.pl.at_).a.toNat))
  else if (p.ins s.pl.at_).op = 9 ∨ (p.ins s.pl.at_).op = 12 then ((s.see ⟨1, s.pl.at_, 0⟩).go (s.pl.at_ + 1), true, none)
  else if 0 ≤ putI (p.ins s.pl.at_) then
    if s.ahead = false ∧ (idxI s.pl.r (p.ins s.pl.at_) < 0 ∨ wordsI (p.log (p.ins s.pl.at_).c.toNat) ≤ idxI s.pl.r (p.ins s.pl.at_)) then (s.see ⟨1, s.pl.at_, 0⟩, false, some (2, 0))
    else (wordS p (((s.see ⟨1, s.pl.at_, 0⟩).see ⟨2, wrap64 (baseI p.log (p.ins s.pl.at_).c.toNat + idxI s.pl.r (p.ins s.pl.at_)), putI (p.ins s.pl.at_)⟩).go (s.pl.at_ + 1)) (p.ins s.pl.at_) (wrap64 (baseI p.log (p.ins s.pl.at_).c.toNat + idxI s.pl.r (p.ins s.pl.at_))), false, none)
  else ({ (s.see ⟨1, s.pl.at_, 0⟩).go (s.pl.at_ + 1) with pl := ⟨s.pl.at_ + 1, (regsI s.pl.r (p.ins s.pl.at_)).1, s.pl.wd, s.pl.past⟩, seen := s.seen ++ [⟨1, s.pl.at_, 0⟩] ++ (regsI s.pl.r (p.ins s.pl.at_)).2 }, false, none)

/-- Behind a step: one more since the choice, and taken back if it is time (D4). -/
def Sp.after (s : Sp) (over : Bool) : Sp :=
  if s.ahead = true then (if over = true ∨ s.since + 1 = 12 then ({ s with since := s.since + 1 }).returns else { s with since := s.since + 1 }) else s

/-- What a run tells: how it ends, its value, its steps, what was shown, and the words. -/
structure ShF where
  fin : Int
  val : Int
  steps : Int
  seen : List Se
  wd : Nat → Int

/-- Where no instruction is left, ahead of time, it is taken back. -/
def Sp.noneLeft (s : Sp) (cl : Nat) : Sp := if cl ≤ s.pl.at_ ∧ s.ahead = true then s.returns else s
def Sp.real (s : Sp) : Pl := if s.ahead = true then s.back else s.pl

/-- So many steps more, behind k of them. -/
def runS (p : Prg) : Nat → Nat → Sp → ShF
  | 0, k, s => ⟨0, 0, k, s.seen, s.real.wd⟩
  | f + 1, k, s =>
    if p.cl ≤ (s.noneLeft p.cl).pl.at_ then ⟨2, 0, k, (s.noneLeft p.cl).seen, (s.noneLeft p.cl).real.wd⟩
    else match (stepS p (s.noneLeft p.cl)).2.2 with
      | some e => ⟨e.1, e.2, (k : Int) + 1, (stepS p (s.noneLeft p.cl)).1.seen, (stepS p (s.noneLeft p.cl)).1.real.wd⟩
      | none => runS p f (k + 1) ((stepS p (s.noneLeft p.cl)).1.after (stepS p (s.noneLeft p.cl)).2.1)

/-- The run, from the first instruction on. -/
def playS (p : Prg) (wd : Nat → Int) (script : List Int) (fuel : Nat) : ShF := runS p fuel 0 ⟨⟨0, fun _ => 0, wd, fun _ => []⟩, false, 0, ⟨0, fun _ => 0, wd, fun _ => []⟩, script, []⟩
theorem info2 : (Try.prog.info? 2).map (fun i => (i.zero, i.size, i.bytes)) = some (some (.int .i64 0), 1, 8) := by kernel_rfl
theorem info43 : (Try.prog.info? 67).map (fun i => (i.zero, i.size, i.bytes)) = some (some (.slice none 0 0), 1, 24) := by kernel_rfl

/-- The words of a list, as cells. -/
def wordsL (m : Mem) (j : Nat) : List Value := (List.range (m.len j)).map fun i => .int .i64 (m.wd j i)
theorem wordsL_length (m : Mem) (j : Nat) : (wordsL m j).length = m.len j := by simp [wordsL]
theorem wordsL_one (m : Mem) (j : Nat) : ∀ u ∈ wordsL m j, u.oneCell' = true := by
  intro u hu
  simp only [wordsL, List.mem_map] at hu
  obtain ⟨i, _, rfl⟩ := hu
  rfl
theorem wordsL_at (m : Mem) (j i : Nat) (h : i < m.len j) : (wordsL m j)[i]? = some (.int .i64 (m.wd j i)) := by simp [wordsL, h]

/-- So many lists have been copied. -/
structure CpAt (w : World) (base : Nat) (m : Mem) (k : Nat) (v : Value) (G C : Nat → Nat) : Prop where
  own : w.ownsRow base 67 1 v k ((List.range k).map fun j => .slice (some ⟨G j, 0, none⟩) (m.len j) (C j))
  row : ∀ j, j < k → w.ownsRow base 2 1 (.slice (some ⟨G j, 0, none⟩) (m.len j) (C j)) (m.len j) (wordsL m j)
  apart : ∀ j, j < k → v.ownBlock ≠ some (G j)
  apart2 : ∀ j j', j < k → j' < k → j ≠ j' → G j ≠ G j'

theorem CpAt.start (w : World) (base : Nat) (m : Mem) : CpAt w base m 0 (.slice none 0 0) (fun _ => 0) (fun _ => 0) :=
  ⟨World.ownsRow_nil _ _ _ _, fun j hj => absurd hj (Nat.not_lt_zero _), fun j hj => absurd hj (Nat.not_lt_zero _), fun j j' hj => absurd hj (Nat.not_lt_zero _)⟩

theorem CpAt.lt {w : World} {base : Nat} {m : Mem} {k : Nat} {v : Value} {G C : Nat → Nat} (c : CpAt w base m k v G C) (j : Nat) (hj : j < k) : G j < w.heap.size := ((c.row j hj).lt _ rfl).2

theorem CpAt.own3 {wr w2 : World} {base : Nat} {m : Mem} {k : Nat} {v : Value} {G C : Nat → Nat} (c : CpAt wr base m k v G C) (o o3 : Obj) (gr2 : (wr.alloc o).grownBy w2 (some wr.heap.size)) :
    (w2.alloc o3).ownsRow base 67 1 v k ((List.range k).map fun j => .slice (some ⟨G j, 0, none⟩) (m.len j) (C j)) :=
  ((c.own.alloc o).kept gr2 (by
    cases hb : v.ownBlock with
    | none => left; rfl
    | some b => right; have := (c.own.lt b hb).2; simp; omega)).alloc o3

theorem CpAt.step {wr w2 w4 : World} {base : Nat} {m : Mem} {k : Nat} {v : Value} {G C : Nat → Nat} (c : CpAt wr base m k v G C) (o o3 : Obj) (g cap g2 cap2 : Nat)
    (own2 : w2.ownsRow base 2 1 (.slice (some ⟨g, 0, none⟩) (m.len k) cap) (m.len k) (wordsL m k)) (gr2 : (wr.alloc o).grownBy w2 (some wr.heap.size)) (hg : wr.heap.size ≤ g)
    (own4 : w4.ownsRow base 67 1 (.slice (some ⟨g2, 0, none⟩) (k + 1) cap2) (k + 1) (((List.range k).map fun j => .slice (some ⟨G j, 0, none⟩) (m.len j) (C j)) ++ [.slice (some ⟨g, 0, none⟩) (m.len k) cap]))
    (gr4 : (w2.alloc o3).grownBy w4 v.ownBlock) (hat : v.ownBlock = some g2 ∨ g2 = w2.heap.size + 1) :
    CpAt w4 base m (k + 1) (.slice (some ⟨g2, 0, none⟩) (k + 1) cap2) (fun j => if j = k then g else G j) (fun j => if j = k then cap else C j) := by
  have hs1 : wr.heap.size + 1 ≤ w2.heap.size := by have := gr2.size; simpa using this
  have hgl : g < w2.heap.size := ((own2.lt _ rfl).2)
  have hvl : ∀ b, v.ownBlock = some b → b < wr.heap.size := fun b hb => ((c.own.lt b hb).2)
  refine ⟨?_, fun j hj => ?_, fun j hj => ?_, fun j j' hj hj' hne => ?_⟩
  · have e : ((List.range (k + 1)).map fun j => (Value.slice (some ⟨(if j = k then g else G j), 0, none⟩) (m.len j) (if j = k then cap else C j)))
        = ((List.range k).map fun j => (Value.slice (some ⟨G j, 0, none⟩) (m.len j) (C j))) ++ [.slice (some ⟨g, 0, none⟩) (m.len k) cap] := by
      rw [List.range_succ, List.map_append]
      congr 1
      · refine List.map_congr_left fun j hj => ?_
        have : j ≠ k := by have := List.mem_range.1 hj; omega
        simp [this]
      · simp
    rw [e]
    exact own4
  · by_cases e : j = k
    · subst e
      simp only [if_true]
      exact (own2.alloc o3).kept gr4 (by
        cases hb : v.ownBlock with
        | none => right; simp [Value.ownBlock]
        | some b => right; have := hvl b hb; simp [Value.ownBlock]; omega)
    · simp only [e, if_false]
      have hj' : j < k := by omega
      have hl := c.lt j hj'
      refine ((((c.row j hj').alloc o).kept gr2 (by right; simp [Value.ownBlock]; omega)).alloc o3).kept gr4 (by right; simp only [Value.ownBlock]; exact fun h => c.apart j hj' h.symm)
  · simp only [Value.ownBlock]
    intro h
    simp only [Option.some.injEq] at h
    by_cases e : j = k
    · simp only [e, if_true] at h
      rcases hat with h1 | h1
      · have := hvl g2 h1; omega
      · omega
    · simp only [e, if_false] at h
      have hj' : j < k := by omega
      rcases hat with h1 | h1
      · exact c.apart j hj' (by rw [h1, h])
      · have := c.lt j hj'; omega
  · by_cases e : j = k
    · by_cases e' : j' = k
      · omega
      · simp only [e, e', if_true, if_false]
        have := c.lt j' (by omega)
        omega
    · by_cases e' : j' = k
      · simp only [e, e', if_true, if_false]
        have := c.lt j (by omega)
        omega
      · simp only [e, e', if_false]
        exact c.apart2 j j' (by omega) (by omega) hne
def flatS : List Se → List Value
  | [] => []
  | s :: l => .int .i64 s.kind :: .int .i64 s.a :: .int .i64 s.b :: flatS l
theorem flatS_length : ∀ l : List Se, (flatS l).length = l.length * 3
  | [] => rfl
  | s :: l => by simp [flatS, flatS_length l]; omega
theorem flatS_append : ∀ l l' : List Se, flatS (l ++ l') = flatS l ++ flatS l'
  | [], _ => rfl
  | s :: l, l' => by simp [flatS, flatS_append l l']
theorem flatS_at : ∀ (l : List Se) (i : Nat) (s : Se), l[i]? = some s → (flatS l)[i * 3]? = some (.int .i64 s.kind) ∧ (flatS l)[i * 3 + 1]? = some (.int .i64 s.a) ∧ (flatS l)[i * 3 + 2]? = some (.int .i64 s.b)
  | [], i, s, h => by simp at h
  | x :: l, 0, s, h => by simp at h; subst h; simp [flatS]
  | x :: l, i + 1, s, h => by
    have := flatS_at l i s (by simpa using h)
    rw [show (i + 1) * 3 = i * 3 + 1 + 1 + 1 by omega, flatS]
    simpa using this

/-- What was shown, in a row of the run's own. -/
def SeenOwn (w : World) (base : Nat) (v : Value) (l : List Se) : Prop := w.ownsRow base 45 3 v l.length (flatS l)

theorem SeenOwn.at_ {w : World} {base : Nat} {v : Value} {l : List Se} (h : SeenOwn w base v l) (hb : l.length < 4611686018427387904) : SeenAt w v l := by
  by_cases h0 : l.length = 0
  · rcases h.2 with ⟨rfl, _⟩ | ⟨g, cap, cur, rfl, _⟩
    · have : l = [] := List.eq_nil_of_length_eq_zero h0
      subst this
      exact ⟨none, 0, 0, 0, rfl, fun h => absurd h (Nat.not_lt_zero _), fun i s h => by simp at h, by simp⟩
    · have : l = [] := List.eq_nil_of_length_eq_zero h0
      subst this
      exact ⟨_, 0, 0, cap, rfl, fun h => absurd h (Nat.not_lt_zero _), fun i s h => by simp at h, by simp⟩
  · obtain ⟨g, cap, rfl, _, _⟩ := World.ownsRow.form h (by omega)
    refine ⟨_, g, 0, cap, rfl, fun _ => rfl, fun i s hs => ?_, hb⟩
    have hi : i < l.length := (List.getElem?_eq_some_iff.1 hs).1
    obtain ⟨f0, f1, f2⟩ := flatS_at l i s hs
    simp only [Nat.zero_add]
    exact ⟨by rw [World.ownsRow.cellAt h _ (by omega)]; exact f0, by rw [World.ownsRow.cellAt h _ (by omega)]; exact f1, by rw [World.ownsRow.cellAt h _ (by omega)]; exact f2⟩

theorem SeenOwn.kept {w w' : World} {base : Nat} {v : Value} {l : List Se} (h : SeenOwn w base v l) {row : Option Nat} (hg : w.grownBy w' row) (hr : ∀ b, row = some b → b < base) : SeenOwn w' base v l := by
  refine World.ownsRow.kept h hg ?_
  cases hv : v.ownBlock with
  | none => left; rfl
  | some b =>
    right
    intro e
    have h1 := (World.ownsRow.lt h b hv).1
    have h2 := hr b e.symm
    omega

structure MemOwn (w : World) (lo hi : Nat) (m : Mem) (mv : Value) (mb mc : Nat) (G C : Nat → Nat) : Prop where
  val : 0 < m.ml → mv = .slice (some ⟨mb, 0, none⟩) m.ml mc ∧ lo ≤ mb ∧ mb < hi
  nil : m.ml = 0 → ∃ a c, mv = .slice a 0 c
  rows : ∀ j, j < m.ml → w.cell? ⟨mb, j, none⟩ = some (.slice (some ⟨G j, 0, none⟩) (m.len j) (C j))
  words : ∀ j, j < m.ml → ∀ i, i < m.len j → w.cell? ⟨G j, i, none⟩ = some (.int .i64 (m.wd j i)) ∧ w.frozen? ⟨G j, i, none⟩ = false
  at_ : ∀ j, j < m.ml → lo ≤ G j ∧ G j < hi ∧ G j ≠ mb
  apart : ∀ j j', j < m.ml → j' < m.ml → j ≠ j' → G j ≠ G j'

theorem CpAt.own_ {w : World} {base : Nat} {m : Mem} {v : Value} {G C : Nat → Nat} (c : CpAt w base m m.ml v G C) : ∃ mb mc, MemOwn w base w.heap.size m v mb mc G C := by
  by_cases h0 : m.ml = 0
  · have hv : ∃ a cap, v = .slice a 0 cap := by
      rcases c.own.2 with ⟨h, _⟩ | ⟨g, cap, cur, h, _⟩
      · exact ⟨_, _, h⟩
      · exact ⟨_, cap, by rw [h, h0]⟩
    exact ⟨0, 0, fun h => by omega, fun _ => hv, fun j hj => by omega, fun j hj => by omega, fun j hj => by omega, fun j j' hj => by omega⟩
  · obtain ⟨g, cap, rfl, hb, hl⟩ := World.ownsRow.form c.own (by omega)
    refine ⟨g, cap, fun _ => ⟨rfl, hb, hl⟩, fun h => absurd h h0, fun j hj => ?_, fun j hj i hi => ⟨?_, World.ownsRow.frozenAt (c.row j hj) i⟩, fun j hj => ⟨((c.row j hj).lt _ rfl).1, ((c.row j hj).lt _ rfl).2, fun e => c.apart j hj (by rw [e]; rfl)⟩, c.apart2⟩
    · rw [World.ownsRow.cellAt c.own j (by omega)]
      simp [hj]
    · rw [World.ownsRow.cellAt (c.row j hj) i (by omega)]
      exact wordsL_at m j i hi

theorem MemOwn.in_ {w : World} {lo hi : Nat} {m : Mem} {mv : Value} {mb mc : Nat} {G C : Nat → Nat} (h : MemOwn w lo hi m mv mb mc G C) (f1 : m.ml < 4611686018427387904) (f2 : ∀ i, i < m.ml → m.len i < 4611686018427387904) :
    ∃ l : MLoc, mv = .slice l.ma m.ml l.mc ∧ MIn w m l := by
  by_cases h0 : m.ml = 0
  · obtain ⟨a, c, hv⟩ := h.nil h0
    refine ⟨⟨a, 0, 0, c, fun _ => none, fun _ => 0, fun _ => 0, fun _ => 0⟩, by rw [hv, h0], fun h => by omega, fun j hj => by omega, fun j hj => by omega, fun j hj => by omega, f1, f2⟩
  · refine ⟨⟨some ⟨mb, 0, none⟩, mb, 0, mc, fun j => some ⟨G j, 0, none⟩, C, G, fun _ => 0⟩, (h.val (by omega)).1, fun _ => rfl, fun j hj => ?_, fun j hj _ => rfl, fun j hj i hi => ?_, f1, f2⟩
    · simpa using h.rows j hj
    · simpa using (h.words j hj i hi).1
end
section
open Go.RowKit
set_option linter.unusedSimpArgs false
set_option linter.unusedVariables false
theorem own_form {w : World} {base : Nat} {e : TypeId} {size : Nat} {v : Value} {n : Nat} {xs : List Value} (h : w.ownsRow base e size v n xs) : ∃ a c, v = .slice a n c := by
  rcases h.2 with ⟨h, h0⟩ | ⟨g, cap, cur, h, _⟩
  · exact ⟨none, 0, by rw [h, h0]⟩
  · exact ⟨_, cap, h⟩
theorem opI_B64 (o x y : Int) : B64 (opI o x y) := by
  unfold opI
  repeat' split
  all_goals first | exact B64_wrap _ | exact B64_zero

theorem setR_B64 {r : Nat → Int} (hr : ∀ j, j < 10 → B64 (r j)) (a v : Int) (hv : B64 v) : ∀ j, j < 10 → B64 (setR r a v j) := by
  intro j hj
  unfold setR
  split
  · exact hv
  · exact hr j hj

theorem regsI_B64 {r : Nat → Int} (hr : ∀ j, j < 10 → B64 (r j)) (i : Ins) (hb : i.op = 2 → i.b.toNat < 10) (hn : B64 i.n) : ∀ j, j < 10 → B64 ((regsI r i).1 j) := by
  unfold regsI
  by_cases h1 : i.op = 1
  · rw [if_pos h1]; exact setR_B64 hr _ _ hn
  rw [if_neg h1]
  by_cases h2 : i.op = 2
  · rw [if_pos h2]; exact setR_B64 hr _ _ (hr _ (hb h2))
  rw [if_neg h2]
  by_cases h3 : i.op = 10
  · rw [if_pos h3]; exact setR_B64 hr _ _ (B64_wrap _)
  rw [if_neg h3]
  by_cases h4 : i.op = 11
  · rw [if_pos h4]
    dsimp only
    split
    · exact setR_B64 hr _ _ B64_zero
    · exact hr
  rw [if_neg h4]
  by_cases h5 : i.op = 12
  · rw [if_pos h5]; exact hr
  rw [if_neg h5]
  exact setR_B64 hr _ _ (opI_B64 _ _ _)
theorem regsI_len (r : Nat → Int) (i : Ins) : (regsI r i).2.length ≤ 1 := by
  unfold regsI
  repeat' split
  all_goals first | exact Nat.zero_le _ | exact Nat.le_refl _

def baseN (len : Nat → Nat) : Nat → Nat
  | 0 => 0
  | k + 1 => baseN len k + len k
theorem baseN_le (len : Nat → Nat) : ∀ k, (∀ j, j < k → len j ≤ 64) → baseN len k ≤ 64 * k
  | 0, _ => by simp [baseN]
  | k + 1, h => by
    have := baseN_le len k (fun j hj => h j (by omega))
    have := h k (by omega)
    simp only [baseN]
    omega
theorem baseN_mono (len : Nat → Nat) (a : Nat) : ∀ k, a ≤ k → baseN len a ≤ baseN len k
  | 0, h => by obtain rfl : a = 0 := by omega
               exact Nat.le_refl _
  | k + 1, h => by
    by_cases e : a = k + 1
    · subst e; exact Nat.le_refl _
    · have := baseN_mono len a k (by omega)
      simp only [baseN]
      omega

theorem base_eq (p : Prg) (m : Mem) (hlen : ∀ i, i < m.ml → (m.len i : Int) = wordsI (p.log i)) : ∀ j, j ≤ m.ml → (baseN m.len j : Int) = baseI p.log j
  | 0, _ => rfl
  | j + 1, h => by
    simp only [baseN, baseI]
    rw [← base_eq p m hlen j (by omega), ← hlen j (by omega)]
    push_cast
    rfl
theorem base_inj (len : Nat → Nat) {c c' i i' : Nat} (hi : i < len c) (hi' : i' < len c') (h : baseN len c + i = baseN len c' + i') : c = c' ∧ i = i' := by
  rcases Nat.lt_trichotomy c c' with h1 | h1 | h1
  · have := baseN_mono len (c + 1) c' h1
    simp only [baseN] at this
    omega
  · subst h1; exact ⟨rfl, by omega⟩
  · have := baseN_mono len (c' + 1) c h1
    simp only [baseN] at this
    omega

theorem leave_keeps {s : Sp} (h : s.ahead = true) : s.leave = s := by unfold Sp.leave; rw [if_pos h]

theorem wordS_ahead (p : Prg) (s : Sp) (i : Ins) (n : Int) (h : s.ahead = true) : (wordS p s i n).ahead = true ∧ (wordS p s i n).back = s.back := by
  unfold wordS
  split
  · split
    · exact ⟨h, rfl⟩
    · exact ⟨h, rfl⟩
  · split
    · exact ⟨h, rfl⟩
    · split
      · rw [leave_keeps (by exact h)]
        exact ⟨h, rfl⟩
      · exact ⟨h, rfl⟩

theorem step_ahead (p : Prg) (s : Sp) (h : s.ahead = true) : (stepS p s).2.2 = none ∧ (stepS p s).1.ahead = true ∧ (stepS p s).1.back = s.back := by
  unfold stepS
  by_cases h7 : (p.ins s.pl.at_).op = 7
  · rw [if_pos h7]; exact ⟨rfl, h, rfl⟩
  rw [if_neg h7]
  by_cases h8 : (p.ins s.pl.at_).op = 8
  · rw [if_pos h8]
    by_cases hh : holdsI (p.ins s.pl.at_).c (s.pl.r (p.ins s.pl.at_).a.toNat) (s.pl.r (p.ins s.pl.at_).b.toNat) = true
    · rw [if_pos hh]
      by_cases hc : s.choice = 0
      · rw [if_pos hc]; exact ⟨rfl, h, rfl⟩
      · rw [if_neg hc, leave_keeps (by exact h)]; exact ⟨rfl, h, rfl⟩
    · rw [if_neg hh]
      by_cases hc : s.choice = 0
      · rw [if_pos hc]; exact ⟨rfl, h, rfl⟩
      · rw [if_neg hc, leave_keeps (by exact h)]; exact ⟨rfl, h, rfl⟩
  rw [if_neg h8, if_neg (by rw [h]; simp)]
  by_cases h9 : (p.ins s.pl.at_).op = 9 ∨ (p.ins s.pl.at_).op = 12
  · rw [if_pos h9]; exact ⟨rfl, h, rfl⟩
  rw [if_neg h9]
  by_cases hp : 0 ≤ putI (p.ins s.pl.at_)
  · rw [if_pos hp, if_neg (by rw [h]; simp)]
    exact ⟨rfl, wordS_ahead p _ _ _ h⟩
  · rw [if_neg hp]; exact ⟨rfl, h, rfl⟩

theorem noneLeft_ahead {s : Sp} {cl : Nat} (h : cl ≤ (s.noneLeft cl).pl.at_) : (s.noneLeft cl).ahead = false := by
  unfold Sp.noneLeft at h ⊢
  by_cases hc : cl ≤ s.pl.at_ ∧ s.ahead = true
  · rw [if_pos hc]; rfl
  · rw [if_neg hc] at h ⊢
    cases ha : s.ahead with
    | false => rfl
    | true => exact absurd ⟨h, ha⟩ hc
end
section
open Go.RowKit
set_option linter.unusedVariables false
/-- The word at a place, looked for in the first regions. -/
def flatIn (m : Mem) (j : Nat) : Nat → Int
  | 0 => 0
  | n + 1 => if baseN m.len n ≤ j ∧ j < baseN m.len n + m.len n then m.wd n (j - baseN m.len n) else flatIn m j n
def flatM (m : Mem) (j : Nat) : Int := flatIn m j m.ml

theorem flatIn_at (m : Mem) (c i : Nat) (hi : i < m.len c) : ∀ n, c < n → flatIn m (baseN m.len c + i) n = m.wd c i
  | 0, h => absurd h (Nat.not_lt_zero _)
  | n + 1, h => by
    unfold flatIn
    by_cases hr : baseN m.len n ≤ baseN m.len c + i ∧ baseN m.len c + i < baseN m.len n + m.len n
    · rw [if_pos hr]
      obtain ⟨e1, e2⟩ := base_inj m.len (c := n) (i := baseN m.len c + i - baseN m.len n) (by omega) hi (by omega)
      rw [e2, e1]
    · rw [if_neg hr]
      have hcn : c ≠ n := by
        rintro rfl
        exact hr (by omega)
      exact flatIn_at m c i hi n (by omega)
theorem flatM_at (m : Mem) (c i : Nat) (hc : c < m.ml) (hi : i < m.len c) : flatM m (baseN m.len c + i) = m.wd c i :=
  flatIn_at m c i hi m.ml hc
theorem base_find (len : Nat → Nat) : ∀ (n j : Nat), j < baseN len n → ∃ c i, c < n ∧ i < len c ∧ baseN len c + i = j
  | 0, j, h => by simp [baseN] at h
  | n + 1, j, h => by
    by_cases e : j < baseN len n
    · obtain ⟨c, i, h1, h2, h3⟩ := base_find len n j e
      exact ⟨c, i, by omega, h2, h3⟩
    · simp only [baseN] at h
      exact ⟨n, j - baseN len n, by omega, by omega, by omega⟩
/-- Two that have the words of one memory are the same so far. -/
theorem flat_same {m : Mem} {W : Nat → Int} (hW : ∀ j, j < m.ml → ∀ i, i < m.len j → W (baseN m.len j + i) = m.wd j i) (j : Nat) (hj : j < baseN m.len m.ml) : W j = flatM m j := by
  obtain ⟨c, i, h1, h2, rfl⟩ := base_find m.len m.ml j hj
  rw [hW c h1 i h2, flatM_at m c i h1 h2]
end
section
open Go.RowKit
set_option linter.unusedSimpArgs false
set_option linter.unusedVariables false
theorem fits_pos {p : Prg} {m : Mem} (hok : p.Ok 8000 10) (hf : FitsOk p.rl p.log m.ml m.len) : (∀ i, i < m.ml → 0 < m.len i ∧ m.len i ≤ 64) ∧ m.ml ≤ 6 := by
  refine ⟨fun i hi => ?_, by have h0 := hf.2.1; have := hok.1.1; omega⟩
  have h0 := hf.2.1
  have h1 := hf.2.2 i (by omega)
  have h2 := hok.1.2 i (by omega)
  have h3 := two_pow_le (k := (p.log i).toNat) (by omega)
  unfold wordsI at h1
  omega

/-- What is wrong with a run. -/
def Wr1 (p : Prg) (m : Mem) (L : List Int) (fuel c : Int) : Prop :=
  (¬ (p.Ok 8000 10 ∧ FitsOk p.rl p.log m.ml m.len) ∧ c = 2) ∨ ((p.Ok 8000 10 ∧ FitsOk p.rl p.log m.ml m.len) ∧ ((fuel < 0 ∨ 40000 < fuel) ∨ ¬ ScOk L) ∧ c = 3) ∨
    ((p.Ok 8000 10 ∧ FitsOk p.rl p.log m.ml m.len) ∧ ¬ (fuel < 0 ∨ 40000 < fuel) ∧ ScOk L ∧ c = 0)
theorem wr1_one {p : Prg} {m : Mem} {L : List Int} {fuel c d : Int} (h : Wr1 p m L fuel c) (k : Wr1 p m L fuel d) : c = d := by
  rcases h with ⟨a, b⟩ | ⟨a, b, e⟩ | ⟨a, b, e, f⟩ <;> rcases k with ⟨a', b'⟩ | ⟨a', b', e'⟩ | ⟨a', b', e', f'⟩
  · rw [b, b']
  · exact absurd a' a
  · exact absurd a' a
  · exact absurd a a'
  · rw [e, e']
  · rcases b with b | b
    · exact absurd b b'
    · exact absurd e' b
  · exact absurd a a'
  · rcases b' with b' | b'
    · exact absurd b' b
    · exact absurd e b'
  · rw [f, f']
theorem wr1_zero {p : Prg} {m : Mem} {L : List Int} {fuel : Int} (h : Wr1 p m L fuel 0) : (p.Ok 8000 10 ∧ FitsOk p.rl p.log m.ml m.len) ∧ ¬ (fuel < 0 ∨ 40000 < fuel) ∧ ScOk L := by
  rcases h with ⟨_, b⟩ | ⟨_, _, b⟩ | ⟨a, b, c, _⟩
  · exact absurd b (by decide)
  · exact absurd b (by decide)
  · exact ⟨a, b, c⟩

/-- The first that is not the same, if there is one. -/
def Diff (x y : List Se) (k : Int) (is : Bool) : Prop := (x = y ∧ k = 0 ∧ is = false) ∨ ∃ n : Nat, k = n ∧ is = true ∧ (∀ j, j < n → x[j]? = y[j]?) ∧ ¬ x[n]? = y[n]?
theorem diff_one {x y : List Se} {k k' : Int} {is is' : Bool} (h : Diff x y k is) (g : Diff x y k' is') : k = k' ∧ is = is' := by
  rcases h with ⟨rfl, rfl, rfl⟩ | ⟨n, rfl, rfl, a, b⟩ <;> rcases g with ⟨q, rfl, rfl⟩ | ⟨n', rfl, rfl, a', b'⟩
  · exact ⟨rfl, rfl⟩
  · exact absurd rfl b'
  · exact absurd (by rw [q]) b
  · have : n = n' := by
      rcases Nat.lt_trichotomy n n' with q | q | q
      · exact absurd (a' n q) b
      · exact q
      · exact absurd (a n' q) b'
    rw [this]
    exact ⟨rfl, rfl⟩
theorem diff_same (x : List Se) {k : Int} {is : Bool} (h : Diff x x k is) : k = 0 ∧ is = false := by
  rcases h with ⟨_, a, b⟩ | ⟨n, _, _, _, b⟩
  · exact ⟨a, b⟩
  · exact absurd rfl b

/-- What is found of two runs. -/
def FindOf (p : Prg) (m m' : Mem) (L : List Int) (fuel k : Int) (is : Bool) (c : Int) : Prop :=
  ∃ c1, Wr1 p m L fuel c1 ∧ ((¬ c1 = 0 ∧ k = 0 ∧ is = false ∧ c = c1) ∨ (c1 = 0 ∧ ∃ c2, Wr1 p m' L fuel c2 ∧
    ((¬ c2 = 0 ∧ k = 0 ∧ is = false ∧ c = c2) ∨ (c2 = 0 ∧ c = 0 ∧ Diff (playS p (flatM m) L fuel.toNat).seen (playS p (flatM m') L fuel.toNat).seen k is))))
theorem findOf_one {p : Prg} {m m' : Mem} {L : List Int} {fuel k k' c c' : Int} {is is' : Bool} (h : FindOf p m m' L fuel k is c) (g : FindOf p m m' L fuel k' is' c') : k = k' ∧ is = is' ∧ c = c' := by
  obtain ⟨c1, w1, h⟩ := h
  obtain ⟨d1, v1, g⟩ := g
  obtain rfl := wr1_one w1 v1
  rcases h with ⟨a, rfl, rfl, rfl⟩ | ⟨a, c2, w2, h⟩ <;> rcases g with ⟨b, rfl, rfl, rfl⟩ | ⟨b, d2, v2, g⟩
  · exact ⟨rfl, rfl, rfl⟩
  · exact absurd b a
  · exact absurd a b
  · obtain rfl := wr1_one w2 v2
    rcases h with ⟨a, rfl, rfl, rfl⟩ | ⟨a, rfl, h⟩ <;> rcases g with ⟨b, rfl, rfl, rfl⟩ | ⟨b, rfl, g⟩
    · exact ⟨rfl, rfl, rfl⟩
    · exact absurd b a
    · exact absurd a b
    · have := diff_one h g
      exact ⟨this.1, this.2, rfl⟩

/-- What spec.Run tells. -/
def RunAns (p : Prg) (m : Mem) (L : List Int) (fuel : Int) (w : World) (e : Ending) (w' : World) : Prop :=
  ∃ (x1 x2 x3 code : Int) (a : Option Addr) (n c : Nat) (a' : Option Addr) (n' c' : Nat), e = .returned (.tuple #[.agg #[.int .i64 x1, .int .i64 x2, .int .i64 x3, .slice a n c, .slice a' n' c'], .int .i64 code]) ∧ Wr1 p m L fuel code ∧
    (code = 0 → x1 = (playS p (flatM m) L fuel.toNat).fin ∧ SeenAt w' (.slice a n c) (playS p (flatM m) L fuel.toNat).seen) ∧ More w w'
/-- What Find tells. -/
def FindAns (p : Prg) (m m' : Mem) (L : List Int) (fuel : Int) (w : World) (e : Ending) (w' : World) : Prop :=
  ∃ (k : Int) (is : Bool) (c : Int), e = .returned (.tuple #[.int .i64 k, .bool is, .int .i64 c]) ∧ FindOf p m m' L fuel k is c ∧ More w w'
/-- A block that holds just this, and may be written. -/
def Blk (w : World) (n : Nat) (cs : Array Value) (T : TypeId) : Prop := w.heap[n]? = some (.cells cs T (0, 0))
theorem Blk.lt {w : World} {n : Nat} {cs : Array Value} {T : TypeId} (h : Blk w n cs T) : n < w.heap.size := by
  rcases Nat.lt_or_ge n w.heap.size with q | q
  · exact q
  · unfold Blk at h; simp [q] at h
theorem Blk.more {w w' : World} {n : Nat} {cs : Array Value} {T : TypeId} (m : More w w') (h : Blk w n cs T) : Blk w' n cs T := (m.block n h.lt).trans h
theorem Blk.cell {w : World} {n : Nat} {cs : Array Value} {T : TypeId} (h : Blk w n cs T) {j : Nat} {v : Value} (e : cs[j]? = some v) : w.cell? ⟨n, j, none⟩ = some v := by rw [cell_of_row _ _ _ _ _ _ h]; exact e
theorem Blk.frozen {w : World} {n : Nat} {cs : Array Value} {T : TypeId} (h : Blk w n cs T) (j : Nat) : w.frozen? ⟨n, j, none⟩ = false := frozen_of_row _ _ _ _ _ h
theorem Blk.last (w : World) (cs : Array Value) (T : TypeId) : Blk (w.alloc (.cells cs T)) w.heap.size cs T := heap_alloc_last _ _
theorem Blk.other {w : World} {n : Nat} {cs : Array Value} {T : TypeId} (h : Blk w n cs T) {b : Nat} (hb : b ≠ n) (o : Nat) (v : Value) : Blk (w.setCell ⟨b, o, none⟩ v) n cs T := (Below.heap_setCell _ _ _ _ (fun e => hb e.symm)).trans h
theorem Blk.alloc {w : World} {n : Nat} {c : Array Value} {T : TypeId} (h : Blk w n c T) (d : Array Value) (U : TypeId) : Blk (w.alloc (.cells d U)) n c T := h.more ((More.refl _).alloc _ _)
theorem Blk.put {w : World} {n : Nat} {cs : Array Value} {T : TypeId} (h : Blk w n cs T) (j : Nat) (v : Value) : Blk (w.setCell ⟨n, j, none⟩ v) n (cs.setIfInBounds j v) T := by
  unfold Blk at h ⊢
  unfold World.setCell
  simp [Array.getElem?_modify, h]
theorem leave_seen (s : Sp) : s.leave.seen = s.seen := by unfold Sp.leave; split <;> rfl
theorem wordS_seen (p : Prg) (s : Sp) (i : Ins) (n : Int) : (wordS p s i n).seen = s.seen := by
  unfold wordS
  split
  · split <;> rfl
  · split
    · rfl
    · split
      · show (Sp.leave _).seen = s.seen
        rw [leave_seen]
        rfl
      · rfl

/-- A step shows itself first, and ends by no fuel. -/
theorem stepS_shows (p : Prg) (s : Sp) : (∃ t, (stepS p s).1.seen = s.seen ++ (⟨1, s.pl.at_, 0⟩ : Se) :: t) ∧ ∀ e, (stepS p s).2.2 = some e → ¬ e.1 = 0 := by
  unfold stepS
  by_cases h7 : (p.ins s.pl.at_).op = 7
  · rw [if_pos h7]; exact ⟨⟨[], rfl⟩, fun e h => by cases h⟩
  rw [if_neg h7]
  by_cases h8 : (p.ins s.pl.at_).op = 8
  · rw [if_pos h8]
    by_cases hh : holdsI (p.ins s.pl.at_).c (s.pl.r (p.ins s.pl.at_).a.toNat) (s.pl.r (p.ins s.pl.at_).b.toNat) = true
    · rw [if_pos hh]
      refine ⟨⟨[], ?_⟩, fun e h => by cases h⟩
      dsimp only
      split
      · rfl
      · show (Sp.leave _).seen = _
        rw [leave_seen]; rfl
    · rw [if_neg hh]
      refine ⟨⟨[], ?_⟩, fun e h => by cases h⟩
      dsimp only
      split
      · rfl
      · show (Sp.leave _).seen = _
        rw [leave_seen]; rfl
  rw [if_neg h8]
  by_cases h9 : (p.ins s.pl.at_).op = 9 ∧ s.ahead = false
  · rw [if_pos h9]
    exact ⟨⟨[], rfl⟩, fun e h => by have := (Option.some.inj h).symm; subst this; simp⟩
  rw [if_neg h9]
  by_cases h9' : (p.ins s.pl.at_).op = 9 ∨ (p.ins s.pl.at_).op = 12
  · rw [if_pos h9']; exact ⟨⟨[], rfl⟩, fun e h => by cases h⟩
  rw [if_neg h9']
  by_cases hp : 0 ≤ putI (p.ins s.pl.at_)
  · rw [if_pos hp]
    by_cases hx : s.ahead = false ∧ (idxI s.pl.r (p.ins s.pl.at_) < 0 ∨ wordsI (p.log (p.ins s.pl.at_).c.toNat) ≤ idxI s.pl.r (p.ins s.pl.at_))
    · rw [if_pos hx]
      exact ⟨⟨[], rfl⟩, fun e h => by have := (Option.some.inj h).symm; subst this; simp⟩
    · rw [if_neg hx]
      refine ⟨⟨[⟨2, wrap64 (baseI p.log (p.ins s.pl.at_).c.toNat + idxI s.pl.r (p.ins s.pl.at_)), putI (p.ins s.pl.at_)⟩], ?_⟩, fun e h => by cases h⟩
      dsimp only
      rw [wordS_seen]
      simp [Sp.see, Sp.go]
  · rw [if_neg hp]
    exact ⟨⟨(regsI s.pl.r (p.ins s.pl.at_)).2, by simp⟩, fun e h => by cases h⟩

theorem after_seen (s : Sp) (over : Bool) : ∃ t, (s.after over).seen = s.seen ++ t := by
  unfold Sp.after
  split
  · split
    · exact ⟨[⟨4, 0, 0⟩], rfl⟩
    · exact ⟨[], (List.append_nil _).symm⟩
  · exact ⟨[], (List.append_nil _).symm⟩
theorem noneLeft_seen (s : Sp) (cl : Nat) : ∃ t, (s.noneLeft cl).seen = s.seen ++ t := by
  unfold Sp.noneLeft
  split
  · exact ⟨[⟨4, 0, 0⟩], rfl⟩
  · exact ⟨[], (List.append_nil _).symm⟩

theorem runS_seen (p : Prg) : ∀ (g k : Nat) (s : Sp), ∃ t, (runS p g k s).seen = s.seen ++ t
  | 0, k, s => ⟨[], (List.append_nil _).symm⟩
  | g + 1, k, s => by
    obtain ⟨t1, e1⟩ := noneLeft_seen s p.cl
    obtain ⟨⟨t2, e2⟩, _⟩ := stepS_shows p (s.noneLeft p.cl)
    rw [runS]
    split
    · exact ⟨t1, e1⟩
    · split
      · exact ⟨t1 ++ (⟨1, (s.noneLeft p.cl).pl.at_, 0⟩ :: t2), by dsimp only; rw [e2, e1, List.append_assoc]⟩
      · obtain ⟨t3, e3⟩ := after_seen (stepS p (s.noneLeft p.cl)).1 (stepS p (s.noneLeft p.cl)).2.1
        obtain ⟨t4, e4⟩ := runS_seen p g (k + 1) ((stepS p (s.noneLeft p.cl)).1.after (stepS p (s.noneLeft p.cl)).2.1)
        exact ⟨t1 ++ ((⟨1, (s.noneLeft p.cl).pl.at_, 0⟩ :: t2) ++ (t3 ++ t4)), by rw [e4, e3, e2, e1]; simp⟩

/-- Who has fuel shows something. -/
theorem spec_shows (p : Prg) (wd : Nat → Int) (script : List Int) (g : Nat) (hc : 1 ≤ p.cl) : (playS p wd script (g + 1)).seen ≠ [] := by
  unfold playS
  rw [runS]
  have hn : (Sp.noneLeft ⟨⟨0, fun _ => 0, wd, fun _ => []⟩, false, 0, ⟨0, fun _ => 0, wd, fun _ => []⟩, script, []⟩ p.cl) = ⟨⟨0, fun _ => 0, wd, fun _ => []⟩, false, 0, ⟨0, fun _ => 0, wd, fun _ => []⟩, script, []⟩ := by unfold Sp.noneLeft; rw [if_neg (by simp)]
  rw [hn, if_neg (by dsimp only; omega)]
  obtain ⟨⟨t2, e2⟩, _⟩ := stepS_shows p ⟨⟨0, fun _ => 0, wd, fun _ => []⟩, false, 0, ⟨0, fun _ => 0, wd, fun _ => []⟩, script, []⟩
  split
  · dsimp only; rw [e2]; simp
  · obtain ⟨t3, e3⟩ := after_seen (stepS p ⟨⟨0, fun _ => 0, wd, fun _ => []⟩, false, 0, ⟨0, fun _ => 0, wd, fun _ => []⟩, script, []⟩).1 (stepS p ⟨⟨0, fun _ => 0, wd, fun _ => []⟩, false, 0, ⟨0, fun _ => 0, wd, fun _ => []⟩, script, []⟩).2.1
    obtain ⟨t4, e4⟩ := runS_seen p g (0 + 1) ((stepS p ⟨⟨0, fun _ => 0, wd, fun _ => []⟩, false, 0, ⟨0, fun _ => 0, wd, fun _ => []⟩, script, []⟩).1.after (stepS p ⟨⟨0, fun _ => 0, wd, fun _ => []⟩, false, 0, ⟨0, fun _ => 0, wd, fun _ => []⟩, script, []⟩).2.1)
    rw [e4, e3, e2]
    simp

theorem after_none {s : Sp} (h : s.ahead = false) (over : Bool) : s.after over = s := by unfold Sp.after; rw [if_neg (by rw [h]; decide)]
theorem noneLeft_none {s : Sp} (h : s.ahead = false) (cl : Nat) : s.noneLeft cl = s := by unfold Sp.noneLeft; rw [if_neg (by rw [h]; simp)]
end
section
open Go.RowKit
set_option linter.unusedVariables false
/-- A cell that may be written. -/
def Wr (w : World) (b o : Nat) (v : Value) : Prop := w.cell? ⟨b, o, none⟩ = some v ∧ w.frozen? ⟨b, o, none⟩ = false
theorem Wr.kept {w w' : World} {row : Option Nat} (hg : w.grownBy w' row) {b o : Nat} {v : Value} (h : Wr w b o v) (hne : some b ≠ row) : Wr w' b o v :=
  ⟨hg.cell h.1 hne, (frozen_kept hg h.1 hne).trans h.2⟩
theorem Wr.same {w : World} {b o : Nat} {v : Value} (h : Wr w b o v) (u : Value) : Wr (w.setCell ⟨b, o, none⟩ u) b o u :=
  ⟨World.cell?_setCell_same _ _ _ h.1, by rw [World.frozen?_setCell]; exact h.2⟩
theorem Wr.other {w : World} {b o : Nat} {v : Value} (h : Wr w b o v) (b' o' : Nat) (u : Value) (hne : b' ≠ b ∨ o' ≠ o) : Wr (w.setCell ⟨b', o', none⟩ u) b o v :=
  ⟨by rw [World.cell?_setCell_other _ _ _ _ (by intro e; simp only [Addr.mk.injEq] at e; omega)]; exact h.1, by rw [World.frozen?_setCell]; exact h.2⟩

section
variable {w wr w' : World} {rv cv : Value} {B : Nat} {s : St} {k : Nat} {sv mv : Value} {mb mc : Nat} {G C : Nat → Nat}

end
end
section
open Go.RowKit
set_option linter.unusedSimpArgs false
set_option linter.unusedVariables false
theorem run_append_owned_empty {P : Program} {w : World} (base : Nat) (t ty e : TypeId) (i : TypeInfo) (size : Nat) (ht : P.underlying t = some (.slice e)) (hi : P.info? e = some i)
    (v : Value) (n : Nat) (xs : List Value) (hown : w.ownsRow base e size v n xs) (ad : Option Addr) (c : Nat) :
    (Builtin.append_ #[t, t] ty #[v, .slice ad 0 c]).run P w = .ok v w := by
  have hl : ∀ a : Addr, (loadCells a 0).run P w = .ok #[] w := fun a => rfl
  rcases hown.2 with ⟨rfl, rfl⟩ | ⟨g, cap, cur, rfl, _, _, hnc, _⟩
  · cases ad <;> simp [Builtin.append_, run_underlying ht, sizeOf, typeInfo, hi, Builtin.lenOf, Builtin.firstCells, hl]
  · cases ad <;> simp [Builtin.append_, run_underlying ht, sizeOf, typeInfo, hi, Builtin.lenOf, Builtin.firstCells, hnc, storeCells, hl]

/-- What is appended lies anywhere, or there is nothing of it. -/
theorem wp_append_any {P : Program} {o : Oper} {a : Act} (w : World) {K : Act → World → Prop} {Q : Exit → Act → World → Prop} (s x : Operand) (t : TypeId)
    (ho : o.op = .call { callee := .builtin .append, args := #[s, x], argTypes := #[t, t] })
    (base : Nat) (e : TypeId) (i : TypeInfo) (z : Value) (size bytes : Nat) (ht : P.underlying t = some (.slice e)) (hi : P.info? e = some i) (hz : i.zero = some z)
    (hsize : i.size = size) (hby : i.bytes = bytes) (hzs : z.cells.size = size) (hsz : 0 < size)
    (v : Value) (n : Nat) (xs : List Value) (hs : a.eval s = v) (hown : w.ownsRow base e size v n xs)
    (ad : Option Addr) (m c : Nat) (news : List Value) (hx : a.eval x = .slice ad m c) (hl : news.length = m * size) (hnews : 0 < m → ∃ ad', ad = some ad' ∧ ∀ j u, news[j]? = some u → w.cell? (ad'.add j) = some u) (h1 : ∀ u ∈ news, u.oneCell' = true)
    (h63 : n + m ≤ maxLen) (hbytes : (n + m) * bytes ≤ 140737488355328) (hbase : base ≤ w.heap.size)
    (h : ∀ va cap w', w'.ownsRow base e size (.slice va (n + m) cap) (n + m) (xs ++ news) → w.grownBy w' v.ownBlock → (∀ b, (Value.slice va (n + m) cap).ownBlock = some b → v.ownBlock = some b ∨ b = w.heap.size) → (v.ownBlock ≠ none → va ≠ none) → K (a.put o.dst (.slice va (n + m) cap)) w') : o.wp P a w K Q := by
  by_cases hm : 0 < m
  · obtain ⟨ad', rfl, hn2⟩ := hnews hm
    refine wp_append_lies w s x t ho base e i z size bytes ht hi hz hsize hby hzs hsz v n xs hs hown ad' m c news hx hl hn2 h1 hm h63 hbytes hbase w.heap.size rfl (fun g cap w' h2 h3 h4 h5 => h _ _ _ h2 h3 (fun b hb => ?_) (fun _ => by simp))
    have : b = g := by simpa [Value.ownBlock] using hb.symm
    subst this
    exact h4
  · obtain rfl : m = 0 := by omega
    have hnl : news = [] := List.eq_nil_of_length_eq_zero (by rw [hl]; omega)
    subst hnl
    have hrun := run_append_owned_empty (P := P) (w := w) base t o.type e i size ht hi v n xs hown ad c
    obtain ⟨va, cap, rfl⟩ := own_form hown
    unfold Oper.wp
    simp [execOp, ho, resolve, invoke, builtin, hs, hx, hrun, Result.andThen]
    exact h va cap w (by simpa using hown) (grown_refl _ _) (fun b hb => .inl hb) (fun h1 h2 => h1 (by rw [h2]; rfl))
theorem wpList_append_any {P : Program} {ops : Array Oper} {rest : List Oper} {o : Oper} {a : Act} (w : World) {Q : Exit → Act → World → Prop} (hgd : o.guard = none) (s x : Operand) (t : TypeId)
    (ho : o.op = .call { callee := .builtin .append, args := #[s, x], argTypes := #[t, t] })
    (base : Nat) (e : TypeId) (i : TypeInfo) (z : Value) (size bytes : Nat) (ht : P.underlying t = some (.slice e)) (hi : P.info? e = some i) (hz : i.zero = some z)
    (hsize : i.size = size) (hby : i.bytes = bytes) (hzs : z.cells.size = size) (hsz : 0 < size)
    (v : Value) (n : Nat) (xs : List Value) (hs : a.eval s = v) (hown : w.ownsRow base e size v n xs)
    (ad : Option Addr) (m c : Nat) (news : List Value) (hx : a.eval x = .slice ad m c) (hl : news.length = m * size) (hnews : 0 < m → ∃ ad', ad = some ad' ∧ ∀ j u, news[j]? = some u → w.cell? (ad'.add j) = some u) (h1 : ∀ u ∈ news, u.oneCell' = true)
    (h63 : n + m ≤ maxLen) (hbytes : (n + m) * bytes ≤ 140737488355328) (hbase : base ≤ w.heap.size)
    (h : ∀ va cap w', w'.ownsRow base e size (.slice va (n + m) cap) (n + m) (xs ++ news) → w.grownBy w' v.ownBlock → (∀ b, (Value.slice va (n + m) cap).ownBlock = some b → v.ownBlock = some b ∨ b = w.heap.size) → (v.ownBlock ≠ none → va ≠ none) → wpList P ops Q rest (a.put o.dst (.slice va (n + m) cap)) w') : wpList P ops Q (o :: rest) a w :=
  wpList_plain hgd fun _ hK => wp_append_any w s x t ho base e i z size bytes ht hi hz hsize hby hzs hsz v n xs hs hown ad m c news hx hl hnews h1 h63 hbytes hbase fun va cap w' h2 h3 h4 h5 => hK _ _ (h va cap w' h2 h3 h4 h5)

def ints (l : List Int) : List Value := l.map fun x => .int .i64 x
theorem ints_length (l : List Int) : (ints l).length = l.length := by simp [ints]
theorem ints_one (l : List Int) : ∀ u ∈ ints l, u.oneCell' = true := by
  intro u hu
  simp only [ints, List.mem_map] at hu
  obtain ⟨i, _, rfl⟩ := hu
  rfl

/-- The blocks of a place, and its slices. -/
structure PV where
  rg : Nat
  rc : Nat
  wg : Nat
  wa : Option Addr
  wc : Nat
  pg : Nat
  pa : Option Addr
  pc : Nat
  P : Nat → Value
def PV.regs (a : PV) : Value := .slice (some ⟨a.rg, 0, none⟩) 10 a.rc
def PV.words (a : PV) (N : Nat) : Value := .slice a.wa N a.wc
def PV.past (a : PV) (N : Nat) : Value := .slice a.pa N a.pc

/-- Labels of a place's blocks. -/
def InR (K l : Nat) : Prop := K < l ∧ l < K + 1000

structure PlL (w : World) (lo N K : Nat) (lab : Nat → Nat) (q : Pl) (a : PV) : Prop where
  lr : lab a.rg = K + 1
  regs : RegsR w a.rg q.r
  lw : 0 < N → lab a.wg = K + 2
  wa : 0 < N → a.wa = some ⟨a.wg, 0, none⟩
  words : ∀ j, j < N → Wr w a.wg j (.int .i64 (q.wd j))
  lp : 0 < N → lab a.pg = K + 3
  pa : 0 < N → a.pa = some ⟨a.pg, 0, none⟩
  past : ∀ j, j < N → Wr w a.pg j (a.P j)
  rows : ∀ j, j < N → w.ownsRow lo 2 1 (a.P j) (q.past j).length (ints (q.past j))
  lrow : ∀ j, j < N → ∀ b, (a.P j).ownBlock = some b → lab b = K + 10 + j
  cap : N ≤ a.wc

section
variable {w w' : World} {lo N K : Nat} {lab lab' : Nat → Nat} {q : Pl} {a : PV}

theorem PlL.labs (h : PlL w lo N K lab q a) (hl : ∀ b, lab b ≠ 0 → lab' b = lab b) : PlL w lo N K lab' q a :=
  ⟨by rw [hl _ (by rw [h.lr]; omega)]; exact h.lr, h.regs, fun hN => by rw [hl _ (by rw [h.lw hN]; omega)]; exact h.lw hN, h.wa, h.words, fun hN => by rw [hl _ (by rw [h.lp hN]; omega)]; exact h.lp hN, h.pa, h.past, h.rows, fun j hj b hb => by rw [hl _ (by rw [h.lrow j hj b hb]; omega)]; exact h.lrow j hj b hb, h.cap⟩
theorem PlL.kept (h : PlL w lo N K lab q a) (hN : N ≤ 384) {row : Option Nat} (hg : w.grownBy w' row) (hr : ∀ b, row = some b → ¬ InR K (lab b)) : PlL w' lo N K lab q a := by
  have ne : ∀ b, InR K (lab b) → some b ≠ row := fun b hb e => hr b e.symm hb
  refine ⟨h.lr, h.regs.kept hg (ne _ (by rw [h.lr]; unfold InR; omega)), h.lw, h.wa, fun j hj => (h.words j hj).kept hg (ne _ (by rw [h.lw (by omega)]; unfold InR; omega)), h.lp, h.pa, fun j hj => (h.past j hj).kept hg (ne _ (by rw [h.lp (by omega)]; unfold InR; omega)), fun j hj => ?_, h.lrow, h.cap⟩
  refine World.ownsRow.kept (h.rows j hj) hg ?_
  cases hv : (a.P j).ownBlock with
  | none => left; rfl
  | some b => right; exact ne b (by rw [h.lrow j hj b hv]; unfold InR; omega)
theorem PlL.go (h : PlL w lo N K lab q a) (n : Nat) : PlL w lo N K lab { q with at_ := n } a := ⟨h.lr, h.regs, h.lw, h.wa, h.words, h.lp, h.pa, h.past, h.rows, h.lrow, h.cap⟩
theorem PlL.base (h : PlL w lo N K lab q a) {lo' : Nat} (hl : lo' ≤ lo) : PlL w lo' N K lab q a :=
  ⟨h.lr, h.regs, h.lw, h.wa, h.words, h.lp, h.pa, h.past, fun j hj => ⟨(h.rows j hj).1, by
    rcases (h.rows j hj).2 with h1 | ⟨g, cap, cur, h1, h2, h3⟩
    · exact .inl h1
    · exact .inr ⟨g, cap, cur, h1, by omega, h3⟩⟩, h.lrow, h.cap⟩
/-- The registers have changed, in their own block alone. -/
theorem PlL.regd (h : PlL w lo N K lab q a) (hN : N ≤ 384) (r : Nat → Int) (hg : w.grownBy w' (some a.rg)) (hr : RegsR w' a.rg r) : PlL w' lo N K lab { q with r := r } a := by
  have ne : ∀ b, lab b ≠ K + 1 → some b ≠ some a.rg := fun b hb e => hb (by rw [Option.some.inj e]; exact h.lr)
  refine ⟨h.lr, hr, h.lw, h.wa, fun j hj => (h.words j hj).kept hg (ne _ (by rw [h.lw (by omega)]; omega)), h.lp, h.pa, fun j hj => (h.past j hj).kept hg (ne _ (by rw [h.lp (by omega)]; omega)), fun j hj => ?_, h.lrow, h.cap⟩
  refine World.ownsRow.kept (h.rows j hj) hg ?_
  cases hv : (a.P j).ownBlock with
  | none => left; rfl
  | some b => right; exact ne b (by rw [h.lrow j hj b hv]; omega)
theorem PlL.reg (h : PlL w lo N K lab q a) (hN : N ≤ 384) (k v : Int) : PlL (w.setCell ⟨a.rg, k.toNat, none⟩ (.int .i64 v)) lo N K lab { q with r := setR q.r k v } a :=
  h.regd hN _ (grown_set w a.rg _ _) (h.regs.set k v)
/-- A word has been put. -/
theorem PlL.word (h : PlL w lo N K lab q a) (hN : N ≤ 384) (n : Nat) (hn : n < N) (v : Int) : PlL (w.setCell ⟨a.wg, n, none⟩ (.int .i64 v)) lo N K lab { q with wd := setF q.wd n v } a := by
  have hg := grown_set w a.wg n (.int .i64 v)
  have ne : ∀ b, lab b ≠ K + 2 → some b ≠ some a.wg := fun b hb e => hb (by rw [Option.some.inj e]; exact h.lw (by omega))
  refine ⟨h.lr, h.regs.kept hg (ne _ (by rw [h.lr]; omega)), h.lw, h.wa, fun j hj => ?_, h.lp, h.pa, fun j hj => (h.past j hj).kept hg (ne _ (by rw [h.lp (by omega)]; omega)), fun j hj => ?_, h.lrow, h.cap⟩
  · dsimp only [setF]
    by_cases e : j = n
    · subst e; rw [if_pos rfl]; exact (h.words j hj).same _
    · rw [if_neg e]; exact (h.words j hj).other _ _ _ (by omega)
  · refine World.ownsRow.kept (h.rows j hj) hg ?_
    cases hv : (a.P j).ownBlock with
    | none => left; rfl
    | some b => right; exact ne b (by rw [h.lrow j hj b hv]; omega)
/-- What a word was has grown by one: its row has grown, and its place is stored; its label is kept, or is that of the new block. -/
theorem PlL.push (h : PlL w lo N K lab q a) (hN : N ≤ 384) (n : Nat) (hn : n < N) (x : Int) (v : Value) (hg : w.grownBy w' (a.P n).ownBlock) (own : w'.ownsRow lo 2 1 v ((q.past n).length + 1) (ints (q.past n) ++ [.int .i64 x]))
    (hl : ∀ b, lab b ≠ 0 → lab' b = lab b) (hv : ∀ b, v.ownBlock = some b → lab' b = K + 10 + n) :
    PlL (w'.setCell ⟨a.pg, n, none⟩ v) lo N K lab' { q with past := setF q.past n (q.past n ++ [x]) } { a with P := setF a.P n v } := by
  have h' := h.labs hl
  have ne : ∀ b, lab b ≠ K + 10 + n → some b ≠ (a.P n).ownBlock := fun b hb e => hb (h.lrow n hn b e.symm)
  have hg2 := grown_set w' a.pg n v
  have lp := h'.lp (by omega)
  have lw := h.lw (by omega)
  have lpo := h.lp (by omega)
  have ne2 : ∀ b, lab' b ≠ K + 3 → some b ≠ some a.pg := fun b hb e => hb (by rw [Option.some.inj e]; exact lp)
  refine ⟨h'.lr, (h.regs.kept hg (ne _ (by rw [h.lr]; omega))).kept hg2 (ne2 _ (by rw [h'.lr]; omega)), h'.lw, h.wa, fun j hj => ((h.words j hj).kept hg (ne _ (by rw [lw]; omega))).kept hg2 (ne2 _ (by rw [h'.lw (by omega)]; omega)), h'.lp, h.pa, fun j hj => ?_, fun j hj => ?_, fun j hj b hb => ?_, h.cap⟩
  · dsimp only [setF]
    by_cases e : j = n
    · subst e; rw [if_pos rfl]; exact ((h.past j hj).kept hg (ne _ (by rw [lpo]; omega))).same _
    · rw [if_neg e]; exact ((h.past j hj).kept hg (ne _ (by rw [lpo]; omega))).other _ _ _ (by omega)
  · dsimp only [setF]
    by_cases e : j = n
    · subst e
      rw [if_pos rfl, if_pos rfl, List.length_append]
      have e1 : ints (q.past j ++ [x]) = ints (q.past j) ++ [.int .i64 x] := by simp [ints]
      rw [e1]
      refine World.ownsRow.kept own hg2 ?_
      cases hvb : v.ownBlock with
      | none => left; rfl
      | some b => right; exact ne2 b (by rw [hv b hvb]; omega)
    · rw [if_neg e, if_neg e]
      refine World.ownsRow.kept (World.ownsRow.kept (h.rows j hj) hg ?_) hg2 ?_
      · cases hb : (a.P j).ownBlock with
        | none => left; rfl
        | some b => right; exact ne b (by rw [h.lrow j hj b hb]; omega)
      · cases hb : (a.P j).ownBlock with
        | none => left; rfl
        | some b => right; exact ne2 b (by rw [h'.lrow j hj b hb]; omega)
  · dsimp only [setF] at hb
    by_cases e : j = n
    · subst e; rw [if_pos rfl] at hb; exact hv b hb
    · rw [if_neg e] at hb; exact h'.lrow j hj b hb
end
end
section
open Go
section
variable {P : Program} {ops : Array Oper} {Q : Exit → Act → World → Prop} {md : Region.Mode} {S : World → Prop}

/-- The named order: an operation's number, and whether it is taken first (true) or is the only one that may come up (false). -/
def ordB (md : Region.Mode) (ops : Array Oper) : List (Nat × Bool) → Array Bool → Bool
  | [], listed => (Region.ready md ops listed).isEmpty
  | (i, t) :: rest, listed =>
    (ops[i]?).isSome && (if t then Region.free md ops listed i && (Region.ready md ops listed).contains i else Region.ready md ops listed == [i]) &&
      ordB md ops rest (listed.setIfInBounds i true)

/-- An operation that reads alone: one value in every world that meets S. -/
def OrdTake (P : Program) (ops : Array Oper) (S : World → Prop) (o : Oper) (a : Act) (w : World) (K : Act → World → Prop) : Prop :=
  if Region.wanted o (yielded ops a.tmps) = true then ∃ v, (∀ i : { w' // S w' }, (execOp a.eval o).run P i.val = .ok (.value v) i.val) ∧ K (a.put o.dst v) w
  else K (a.put o.dst undef) w

/-- One that calls or makes memory: behind it S holds anew. -/
def OrdBusy (P : Program) (ops : Array Oper) (Q : Exit → Act → World → Prop) (o : Oper) (a : Act) (w : World) (K : Act → World → Prop) : Prop :=
  if Region.wanted o (yielded ops a.tmps) = true then Oper.wp P o a w K Q else K (a.put o.dst undef) w

def wpOrd (P : Program) (ops : Array Oper) (Q : Exit → Act → World → Prop) (S : World → Prop) : List (Nat × Bool) → Act → World → Prop
  | [], a, w => Q .normal a w
  | (i, t) :: rest, a, w =>
    match ops[i]? with
    | none => False
    | some o => if t then OrdTake P ops S o a w (fun a' w' => wpOrd P ops Q S rest a' w') else OrdBusy P ops Q o a w (fun a' w' => S w' ∧ wpOrd P ops Q S rest a' w')

theorem wpOrd_held (hs : Region.noSelect ops = true) (hQ : ∀ c (a : Act) d v w, Q (.panic c) (a.put d v) w → Q (.panic c) a w) :
    ∀ (l : List (Nat × Bool)) (listed : Array Bool) (a : Act) (w : World), ordB md ops l listed = true → S w → wpOrd P ops Q S l a w → wpAnyH P md ops Q S l.length listed a w
  | [], listed, a, w, hB, _, h => ⟨by simpa [ordB] using hB, h⟩
  | (i, t) :: rest, listed, a, w, hB, hS, h => by
    simp only [ordB, Bool.and_eq_true] at hB
    obtain ⟨⟨ho, hc⟩, hB'⟩ := hB
    obtain ⟨o, ho⟩ := Option.isSome_iff_exists.1 ho
    simp only [wpOrd, ho] at h
    cases t with
    | true =>
      simp only [if_true, Bool.and_eq_true] at hc h
      unfold OrdTake at h
      by_cases hw : Region.wanted o (yielded ops a.tmps) = true
      · rw [if_pos hw] at h
        obtain ⟨v, hv, hk⟩ := h
        exact wpAnyH_take ho hs hc.1 hc.2 (fun c a w => hQ c a _ _ w) (.inl ⟨hw, fun w' hw' => hv ⟨w', hw'⟩⟩) hS (wpOrd_held hs hQ rest _ _ _ hB' hS hk)
      · rw [if_neg hw] at h
        exact wpAnyH_take ho hs hc.1 hc.2 (fun c a w => hQ c a _ _ w) (.inr ⟨by simpa using hw, rfl⟩) hS (wpOrd_held hs hQ rest _ _ _ hB' hS h)
    | false =>
      simp only [Bool.false_eq_true, if_false, beq_iff_eq] at hc h
      refine wpAnyH_all hc (by simp) (fun j hj => ?_)
      obtain rfl : j = i := by simpa using hj
      unfold OrdBusy at h
      unfold wpOp
      rw [ho]
      show if Region.wanted o (yielded ops a.tmps) = true then _ else _
      by_cases hw : Region.wanted o (yielded ops a.tmps) = true
      · rw [if_pos hw] at h ⊢
        exact .inl (Oper.wp_mono (fun a' w' h' => ⟨h'.1, wpOrd_held hs hQ rest _ _ _ hB' h'.1 h'.2⟩) h)
      · rw [if_neg hw] at h ⊢
        exact ⟨hS, wpOrd_held hs hQ rest _ _ _ hB' h.1 h.2⟩

/-- The walk as a structure, so that nothing looks into it unasked. -/
structure Ord (P : Program) (ops : Array Oper) (Q : Exit → Act → World → Prop) (S : World → Prop) (l : List (Nat × Bool)) (a : Act) (w : World) : Prop where
  out : wpOrd P ops Q S l a w

/-- A region that asks the tape, by a named order. -/
theorem wp_region_ord {id : Nat} {a : Act} {w : World} (l : List (Nat × Bool)) (hm : P.follows .mixedOrders = true) (hs : Region.noSelect ops = true)
    (hB : (ordB .any ops l (Array.replicate ops.size false) && l.length == ops.size) = true) (hS : S w.drew) (h : Ord P ops (NoPanic Q) S l a w.drew) : (Code.region id ops true).wp P Q a w := by
  rw [Bool.and_eq_true] at hB
  have hl : l.length = ops.size := by simpa using hB.2
  refine wp_region_noPanic (wp_region_held_drew (S := S) hm hS (fun _ => ?_))
  rw [← hl]
  have := wpOrd_held (P := P) (md := .any) (S := S) (Q := NoPanic Q) hs (fun _ _ _ _ _ h => h) l (Array.replicate ops.size false) a w.drew hB.1 hS h.out
  rwa [← hl] at this

def nth {α : Type} : List α → Nat → Option α
  | [], _ => none
  | x :: _, 0 => some x
  | _ :: l, n + 1 => nth l n
theorem nth_at {α : Type} : ∀ (l : List α) (n : Nat), nth l n = l[n]?
  | [], _ => rfl
  | _ :: _, 0 => rfl
  | _ :: l, n + 1 => by rw [nth, nth_at l n]; rfl
theorem nth_arr {α : Type} {l : List α} {n : Nat} {x : α} (h : nth l n = some x) : l.toArray[n]? = some x := by rw [List.getElem?_toArray, ← nth_at]; exact h

theorem wpOrd_take {ls : List Oper} {i : Nat} {o : Oper} {rest : List (Nat × Bool)} {a : Act} {w : World} (ho' : nth ls i = some o) (hw : Region.wanted o (yielded ls.toArray a.tmps) = true)
    (h : ∀ K : Act → World → Prop, (∀ a w, Ord P ls.toArray Q S rest a w → K a w) → ∃ v, (∀ i : { w' // S w' }, (execOp a.eval o).run P i.val = .ok (.value v) i.val) ∧ K (a.put o.dst v) w) :
    Ord P ls.toArray Q S ((i, true) :: rest) a w := by
  have ho := nth_arr ho'
  refine ⟨?_⟩
  simp only [wpOrd, ho]
  unfold OrdTake
  simp only [if_true]
  rw [if_pos hw]
  exact h _ (fun _ _ h => h.out)
theorem wpOrd_busy {ls : List Oper} {i : Nat} {o : Oper} {rest : List (Nat × Bool)} {a : Act} {w : World} (ho' : nth ls i = some o) (hw : Region.wanted o (yielded ls.toArray a.tmps) = true)
    (h : ∀ K : Act → World → Prop, (∀ a w, S w → Ord P ls.toArray Q S rest a w → K a w) → Oper.wp P o a w K Q) : Ord P ls.toArray Q S ((i, false) :: rest) a w := by
  have ho := nth_arr ho'
  refine ⟨?_⟩
  simp only [wpOrd, ho, Bool.false_eq_true, if_false]
  unfold OrdBusy
  rw [if_pos hw]
  exact h _ (fun _ _ hs h => ⟨hs, h.out⟩)
/-- A move, an assignment. -/
theorem wpOrd_move {ls : List Oper} {i : Nat} {o : Oper} {x : Operand} {rest : List (Nat × Bool)} {a : Act} {w : World} (ho' : nth ls i = some o) (hop : o.op = .move x)
    (hw : Region.wanted o (yielded ls.toArray a.tmps) = true)
    (h : ∀ K : Act → World → Prop, (∀ a w, Ord P ls.toArray Q S rest a w → K a w) → K (a.put o.dst (a.eval x)) w) : Ord P ls.toArray Q S ((i, true) :: rest) a w := by
  refine wpOrd_take ho' hw (fun K hK => ⟨a.eval x, fun i => ?_, h K hK⟩)
  unfold execOp
  rw [hop]
  rfl
theorem wpOrd_assign {ls : List Oper} {i : Nat} {o : Oper} {x : Operand} {rest : List (Nat × Bool)} {a : Act} {w : World} (ho' : nth ls i = some o) (hop : o.op = .assign x)
    (hw : Region.wanted o (yielded ls.toArray a.tmps) = true)
    (h : ∀ K : Act → World → Prop, (∀ a w, Ord P ls.toArray Q S rest a w → K a w) → K (a.put o.dst (a.eval x)) w) : Ord P ls.toArray Q S ((i, true) :: rest) a w := by
  refine wpOrd_take ho' hw (fun K hK => ⟨a.eval x, fun i => ?_, h K hK⟩)
  unfold execOp
  rw [hop]
  rfl

/-- A pick whose test is false, or true. -/
theorem wpOrd_pickF {ls : List Oper} {i : Nat} {o : Oper} {c x y : Operand} {rest : List (Nat × Bool)} {a : Act} {w : World} (ho' : nth ls i = some o) (hop : o.op = .pick c x y)
    (hw : Region.wanted o (yielded ls.toArray a.tmps) = true) (hc : a.eval c = .bool false)
    (h : ∀ K : Act → World → Prop, (∀ a w, Ord P ls.toArray Q S rest a w → K a w) → K (a.put o.dst (a.eval y)) w) : Ord P ls.toArray Q S ((i, true) :: rest) a w := by
  have ho := nth_arr ho'
  refine ⟨?_⟩
  simp only [wpOrd, ho]
  unfold OrdTake
  simp only [if_true]
  rw [if_pos hw]
  refine ⟨a.eval y, fun i => ?_, h _ (fun _ _ h => h.out)⟩
  unfold execOp
  rw [hop]
  dsimp only
  rw [hc]
  rfl
theorem wpOrd_pickT {ls : List Oper} {i : Nat} {o : Oper} {c x y : Operand} {rest : List (Nat × Bool)} {a : Act} {w : World} (ho' : nth ls i = some o) (hop : o.op = .pick c x y)
    (hw : Region.wanted o (yielded ls.toArray a.tmps) = true) (hc : a.eval c = .bool true)
    (h : ∀ K : Act → World → Prop, (∀ a w, Ord P ls.toArray Q S rest a w → K a w) → K (a.put o.dst (a.eval x)) w) : Ord P ls.toArray Q S ((i, true) :: rest) a w := by
  have ho := nth_arr ho'
  refine ⟨?_⟩
  simp only [wpOrd, ho]
  unfold OrdTake
  simp only [if_true]
  rw [if_pos hw]
  refine ⟨a.eval x, fun i => ?_, h _ (fun _ _ h => h.out)⟩
  unfold execOp
  rw [hop]
  dsimp only
  rw [hc]
  rfl

/-- One that its guard passes over (its slot is as it was). -/
theorem wpOrd_skip {ls : List Oper} {i : Nat} {o : Oper} {t : Bool} {rest : List (Nat × Bool)} {a : Act} {w : World} (ho' : nth ls i = some o) (hS : S w)
    (hw : Region.wanted o (yielded ls.toArray a.tmps) = false) (hp : a.put o.dst undef = a) (h : Ord P ls.toArray Q S rest a w) : Ord P ls.toArray Q S ((i, t) :: rest) a w := by
  have ho := nth_arr ho'
  refine ⟨?_⟩
  simp only [wpOrd, ho]
  unfold OrdTake OrdBusy
  rw [hw, hp]
  cases t
  · simp only [Bool.false_eq_true, if_false]; exact ⟨hS, h.out⟩
  · simp only [Bool.false_eq_true, if_false, if_true]; exact h.out
/-- One that its guard passes over, whatever its slot held. -/
theorem wpOrd_pass {ls : List Oper} {i : Nat} {o : Oper} {t : Bool} {rest : List (Nat × Bool)} {a : Act} {w : World} (ho' : nth ls i = some o) (hS : S w)
    (hw : Region.wanted o (yielded ls.toArray a.tmps) = false)
    (h : ∀ K : Act → World → Prop, (∀ a w, Ord P ls.toArray Q S rest a w → K a w) → K (a.put o.dst undef) w) : Ord P ls.toArray Q S ((i, t) :: rest) a w := by
  have ho := nth_arr ho'
  refine ⟨?_⟩
  have hk := h (fun a w => wpOrd P ls.toArray Q S rest a w) (fun _ _ h => h.out)
  simp only [wpOrd, ho]
  unfold OrdTake OrdBusy
  rw [hw]
  cases t
  · simp only [Bool.false_eq_true, if_false]; exact ⟨hS, hk⟩
  · simp only [Bool.false_eq_true, if_false, if_true]; exact hk
theorem wpOrd_done {a : Act} {w : World} (h : Q .normal a w) : Ord P ops (NoPanic Q) S [] a w := ⟨h⟩

end
section
variable {P : Program} {ops : Array Oper} {Q : Exit → Act → World → Prop} {md : Region.Mode} {S : World → Prop}

/-- Does operation j wait for every other one? -/
def waitsB (md : Region.Mode) (ops : Array Oper) (j : Nat) : Bool :=
  match ops[j]? with
  | none => false
  | some o => (List.range ops.size).all fun i => i == j || o.after.any fun e => Region.binds md e && e.on == i

/-- Whatever comes up: behind it S holds, unless it waited for all. -/
def AnyL (P : Program) (md : Region.Mode) (ops : Array Oper) (Q : Exit → Act → World → Prop) (S : World → Prop) : Nat → Array Bool → Act → World → Prop
  | 0, l, a, w => Region.ready md ops l = [] ∧ Q .normal a w
  | n + 1, l, a, w => (Region.ready md ops l = [] → Q .normal a w) ∧ ∀ i ∈ Region.ready md ops l, wpOp P ops Q i (fun a' w' => (waitsB md ops i = false → S w') ∧ AnyL P md ops Q S n (l.setIfInBounds i true) a' w') a w

theorem AnyL.any : ∀ (n : Nat) (l : Array Bool) (a : Act) (w : World), AnyL P md ops Q S n l a w → wpAny P md ops Q n l a w
  | 0, _, _, _, h => h
  | n + 1, _, _, _, h => ⟨h.1, fun i hi => wpOp_mono (fun a' w' h' => AnyL.any n _ a' w' h'.2) (h.2 i hi)⟩

/-- One that may come up while another is unlisted does not wait for that one. -/
theorem waits_no {i j : Nat} {l : Array Bool} (hi : i ∈ Region.ready md ops l) (hj : j ∈ Region.ready md ops l) (hne : j ≠ i) : waitsB md ops j = false := by
  cases hb : waitsB md ops j with
  | false => rfl
  | true =>
    exfalso
    obtain ⟨_, oj, hoj, hall⟩ := mem_ready.1 hj
    obtain ⟨hun, oi, hoi, _⟩ := mem_ready.1 hi
    unfold waitsB at hb
    rw [hoj] at hb
    dsimp only at hb
    rw [List.all_eq_true] at hb
    have h1 := hb i (List.mem_range.2 (Array.getElem?_eq_some_iff.1 hoi).1)
    rw [Bool.or_eq_true] at h1
    rcases h1 with h1 | h1
    · exact hne (by simpa using h1 : i = j).symm
    · obtain ⟨e, he, hbe⟩ := Array.any_eq_true'.1 h1
      rw [Bool.and_eq_true, beq_iff_eq] at hbe
      have h2 := hall e he hbe.1
      rw [hbe.2] at h2
      rcases Nat.lt_or_ge i l.size with h' | h'
      · simp [h'] at hun h2; rw [hun] at h2; cases h2
      · simp [Array.getElem?_eq_none h'] at h2

theorem AnyL.take {i : Nat} {oi : Oper} {v : Value} (hi : ops[i]? = some oi) (hs : Region.noSelect ops = true) (hQ : ∀ c a w, Q (.panic c) (a.put oi.dst v) w → Q (.panic c) a w) :
    ∀ (n : Nat) (l : Array Bool) (a : Act) (w : World), (∀ j oj, ops[j]? = some oj → j ≠ i → l.getD j true = false → (∀ e ∈ oj.after, Region.binds md e = true → e.on ≠ i) → oi.apart ops oj = true) →
      i ∈ Region.ready md ops l → YieldsIf P ops S oi v a → S w → AnyL P md ops Q S n (l.setIfInBounds i true) (a.put oi.dst v) w → AnyL P md ops Q S (n + 1) l a w
  | n, l, a, w, hf, hr, hy, hS, H => by
    refine ⟨fun h => absurd hr (by rw [h]; simp), fun j hj => ?_⟩
    by_cases hji : j = i
    · subst hji
      exact hy.wpOp hi hS ⟨fun _ => hS, H⟩
    have hjm := ready_mono hj hji
    cases n with
    | zero => rw [H.1] at hjm; cases hjm
    | succ n =>
      obtain ⟨hjun, oj, hoj, hall⟩ := mem_ready.1 hj
      have hno : ∀ e ∈ oj.after, Region.binds md e = true → e.on ≠ i := fun e he hb hei => by
        have h1 := hall e he hb
        have h0 := (mem_ready.1 hr).1
        rw [hei] at h1
        rcases Nat.lt_or_ge i l.size with h' | h'
        · simp [h'] at h0 h1; rw [h0] at h1; cases h1
        · simp [Array.getElem?_eq_none h'] at h1
      have h2 := wpOp_putIf hoj (hf j oj hoj hji hjun hno) (fun cs b => Region.noSelect_spec hs i oi cs b hi) (fun cs b => Region.noSelect_spec hs j oj cs b hoj) hQ hy (H.2 j hjm)
      have hw := waits_no hr hj hji
      refine wpOp_mono (fun a' w' h3 => ?_) h2
      have hS' := h3.2.1 hw
      refine ⟨fun _ => hS', AnyL.take hi hs hQ n (l.setIfInBounds j true) a' w' (fun k ok hk hki hun hno' => hf k ok hk hki ?_ hno') (ready_mono hr (Ne.symm hji)) h3.1 hS' ?_⟩
      · by_cases e : j = k
        · subst e; exact hjun
        · rw [getD_set_ne true e] at hun; exact hun
      · rw [Array.setIfInBounds_comm _ _ hji]
        exact h3.2.2

/-- The walk by a named order. -/
def wpOrdZ (P : Program) (ops : Array Oper) (Q : Exit → Act → World → Prop) (S : World → Prop) : List (Nat × Bool) → Act → World → Prop
  | [], a, w => Q .normal a w
  | (i, t) :: rest, a, w =>
    match ops[i]? with
    | none => False
    | some o => if t then OrdTake P ops S o a w (fun a' w' => wpOrdZ P ops Q S rest a' w') else OrdBusy P ops Q o a w (fun a' w' => (waitsB .any ops i = false → S w') ∧ (rest ≠ [] → S w') ∧ wpOrdZ P ops Q S rest a' w')

theorem wpOrdZ_any (hs : Region.noSelect ops = true) (hQ : ∀ c (a : Act) d v w, Q (.panic c) (a.put d v) w → Q (.panic c) a w) :
    ∀ (l : List (Nat × Bool)) (listed : Array Bool) (a : Act) (w : World), ordB .any ops l listed = true → (l ≠ [] → S w) → wpOrdZ P ops Q S l a w → AnyL P .any ops Q S l.length listed a w
  | [], listed, a, w, hB, _, h => ⟨by simpa [ordB] using hB, h⟩
  | (i, t) :: rest, listed, a, w, hB, hS, h => by
    replace hS : S w := hS (by simp)
    simp only [ordB, Bool.and_eq_true] at hB
    obtain ⟨⟨ho, hc⟩, hB'⟩ := hB
    obtain ⟨o, ho⟩ := Option.isSome_iff_exists.1 ho
    simp only [wpOrdZ, ho] at h
    cases t with
    | true =>
      simp only [if_true, Bool.and_eq_true] at hc h
      unfold OrdTake at h
      have hr : i ∈ Region.ready .any ops listed := by simpa using hc.2
      by_cases hw : Region.wanted o (yielded ops a.tmps) = true
      · rw [if_pos hw] at h
        obtain ⟨v, hv, hk⟩ := h
        exact AnyL.take ho hs (fun c a w => hQ c a _ _ w) _ _ _ _ (Region.free_spec ho hc.1) hr (.inl ⟨hw, fun w' hw' => hv ⟨w', hw'⟩⟩) hS (wpOrdZ_any hs hQ rest _ _ _ hB' (fun _ => hS) hk)
      · rw [if_neg hw] at h
        exact AnyL.take ho hs (fun c a w => hQ c a _ _ w) _ _ _ _ (Region.free_spec ho hc.1) hr (.inr ⟨by simpa using hw, rfl⟩) hS (wpOrdZ_any hs hQ rest _ _ _ hB' (fun _ => hS) h)
    | false =>
      simp only [Bool.false_eq_true, if_false, beq_iff_eq] at hc h
      refine ⟨fun h0 => absurd (hc.symm.trans h0) (by simp), fun j hj => ?_⟩
      obtain rfl : j = i := by rw [hc] at hj; simpa using hj
      unfold OrdBusy at h
      unfold wpOp
      rw [ho]
      show if Region.wanted o (yielded ops a.tmps) = true then _ else _
      by_cases hw : Region.wanted o (yielded ops a.tmps) = true
      · rw [if_pos hw] at h ⊢
        exact .inl (Oper.wp_mono (fun a' w' h' => ⟨h'.1, wpOrdZ_any hs hQ rest _ _ _ hB' h'.2.1 h'.2.2⟩) h)
      · rw [if_neg hw] at h ⊢
        exact ⟨h.1, wpOrdZ_any hs hQ rest _ _ _ hB' h.2.1 h.2.2⟩

structure OrdZ (P : Program) (ops : Array Oper) (Q : Exit → Act → World → Prop) (S : World → Prop) (l : List (Nat × Bool)) (a : Act) (w : World) : Prop where
  out : wpOrdZ P ops Q S l a w

theorem wp_region_last {id : Nat} {a : Act} {w : World} (l : List (Nat × Bool)) (hm : P.follows .mixedOrders = true) (hs : Region.noSelect ops = true)
    (hB : (ordB .any ops l (Array.replicate ops.size false) && l.length == ops.size) = true) (hS : S w.drew) (h : OrdZ P ops (NoPanic Q) S l a w.drew) : (Code.region id ops true).wp P Q a w := by
  rw [Bool.and_eq_true] at hB
  have hl : l.length = ops.size := by simpa using hB.2
  refine wp_region_noPanic (wp_region_any hm ?_)
  rw [← hl]
  have := wpOrdZ_any (P := P) (S := S) (Q := NoPanic Q) hs (fun _ _ _ _ _ h => h) l (Array.replicate ops.size false) a w.drew hB.1 (fun _ => hS) h.out
  have := this.any
  rwa [← hl] at this

theorem wpOrdZ_take {ls : List Oper} {i : Nat} {o : Oper} {rest : List (Nat × Bool)} {a : Act} {w : World} (ho' : nth ls i = some o) (hw : Region.wanted o (yielded ls.toArray a.tmps) = true)
    (h : ∀ K : Act → World → Prop, (∀ a w, OrdZ P ls.toArray Q S rest a w → K a w) → ∃ v, (∀ i : { w' // S w' }, (execOp a.eval o).run P i.val = .ok (.value v) i.val) ∧ K (a.put o.dst v) w) :
    OrdZ P ls.toArray Q S ((i, true) :: rest) a w := by
  have ho := nth_arr ho'
  refine ⟨?_⟩
  simp only [wpOrdZ, ho]
  unfold OrdTake
  simp only [if_true]
  rw [if_pos hw]
  exact h _ (fun _ _ h => h.out)
theorem wpOrdZ_busy {ls : List Oper} {i : Nat} {o : Oper} {rest : List (Nat × Bool)} {a : Act} {w : World} (ho' : nth ls i = some o) (hw : Region.wanted o (yielded ls.toArray a.tmps) = true)
    (h : ∀ K : Act → World → Prop, (∀ a w, S w → OrdZ P ls.toArray Q S rest a w → K a w) → Oper.wp P o a w K Q) : OrdZ P ls.toArray Q S ((i, false) :: rest) a w := by
  have ho := nth_arr ho'
  refine ⟨?_⟩
  simp only [wpOrdZ, ho, Bool.false_eq_true, if_false]
  unfold OrdBusy
  rw [if_pos hw]
  exact h _ (fun _ _ hs h => ⟨fun _ => hs, fun _ => hs, h.out⟩)
/-- The last one, which waits for all. -/
theorem wpOrdZ_last {ls : List Oper} {i : Nat} {o : Oper} {a : Act} {w : World} (ho' : nth ls i = some o) (hw : Region.wanted o (yielded ls.toArray a.tmps) = true) (hl : waitsB .any ls.toArray i = true)
    (h : ∀ K : Act → World → Prop, (∀ a w, Q .normal a w → K a w) → Oper.wp P o a w K Q) : OrdZ P ls.toArray Q S [(i, false)] a w := by
  have ho := nth_arr ho'
  refine ⟨?_⟩
  simp only [wpOrdZ, ho, Bool.false_eq_true, if_false]
  unfold OrdBusy
  rw [if_pos hw]
  exact h _ (fun _ _ h => ⟨fun e => absurd (hl.symm.trans e) (by simp), fun e => absurd rfl e, h⟩)
end
end
section
open Go.RowKit
set_option linter.unusedSimpArgs false
set_option linter.unusedVariables false
/-- The number of the word that an instruction means. -/
def numS (p : Prg) (s : Sp) (i : Ins) : Int := wrap64 (baseI p.log i.c.toNat + idxI s.pl.r i)
/-- Behind what the step shows first. -/
def Sp.on (s : Sp) : Sp := (s.see ⟨1, s.pl.at_, 0⟩).go (s.pl.at_ + 1)

theorem stepS_jump {p : Prg} {s : Sp} {i : Ins} (hI : p.ins s.pl.at_ = i) (h : i.op = 7) : stepS p s = ((s.see ⟨1, s.pl.at_, 0⟩).go i.n.toNat, false, none) := by
  subst hI; unfold stepS; rw [if_pos h]
theorem stepS_if {p : Prg} {s : Sp} {i : Ins} (hI : p.ins s.pl.at_ = i) (h : i.op = 8) (hh : Bool) (hhh : holdsI i.c (s.pl.r i.a.toNat) (s.pl.r i.b.toNat) = hh) (right wrong : Nat) (hr : right = if hh = true then i.n.toNat else s.pl.at_ + 1) (hw : wrong = if hh = true then s.pl.at_ + 1 else i.n.toNat) :
    stepS p s = (if s.choice = 0 then { (s.see ⟨1, s.pl.at_, 0⟩).go right with script := s.script.tail } else ({ (s.see ⟨1, s.pl.at_, 0⟩).go right with script := s.script.tail }.leave).go wrong, false, none) := by
  subst hI
  unfold stepS
  rw [if_neg (by omega), if_pos h]
  cases hh with
  | true => rw [if_pos hhh]; subst hr hw; rfl
  | false => rw [if_neg (by rw [hhh]; decide)]; subst hr hw; rfl
theorem stepS_halt {p : Prg} {s : Sp} {i : Ins} (hI : p.ins s.pl.at_ = i) (h : i.op = 9) (ha : s.ahead = false) : stepS p s = (s.see ⟨1, s.pl.at_, 0⟩, false, some (1, s.pl.r i.a.toNat)) := by
  subst hI; unfold stepS; rw [if_neg (by omega), if_neg (by omega), if_pos ⟨h, ha⟩]
theorem stepS_over {p : Prg} {s : Sp} {i : Ins} (hI : p.ins s.pl.at_ = i) (h : (i.op = 9 ∧ s.ahead = true) ∨ i.op = 12) : stepS p s = (s.on, true, none) := by
  subst hI
  unfold stepS Sp.on
  rw [if_neg (by omega), if_neg (by omega)]
  have h1 : ¬ ((p.ins s.pl.at_).op = 9 ∧ s.ahead = false) := by
    rintro ⟨h1, h2⟩
    rcases h with ⟨_, h3⟩ | h3
    · rw [h2] at h3; cases h3
    · omega
  rw [if_neg h1, if_pos (by omega)]
theorem stepS_fault {p : Prg} {s : Sp} {i : Ins} (hI : p.ins s.pl.at_ = i) (h : i.op = 3 ∨ i.op = 4 ∨ i.op = 5 ∨ i.op = 6) (ha : s.ahead = false) (hx : idxI s.pl.r i < 0 ∨ wordsI (p.log i.c.toNat) ≤ idxI s.pl.r i) : stepS p s = (s.see ⟨1, s.pl.at_, 0⟩, false, some (2, 0)) := by
  subst hI
  have hp : 0 ≤ putI (p.ins s.pl.at_) := by
    rcases h with h | h | h | h
    · rw [putI_load (.inl h)]; decide
    · rw [putI_put (.inl h)]; decide
    · rw [putI_load (.inr h)]; decide
    · rw [putI_put (.inr h)]; decide
  unfold stepS
  rw [if_neg (by omega), if_neg (by omega), if_neg (by omega), if_neg (by omega), if_pos hp, if_pos ⟨ha, hx⟩]
theorem stepS_word {p : Prg} {s : Sp} {i : Ins} (hI : p.ins s.pl.at_ = i) (h : i.op = 3 ∨ i.op = 4 ∨ i.op = 5 ∨ i.op = 6) (hx : ¬ (s.ahead = false ∧ (idxI s.pl.r i < 0 ∨ wordsI (p.log i.c.toNat) ≤ idxI s.pl.r i))) :
    stepS p s = (wordS p (s.on.see ⟨2, numS p s i, putI i⟩) i (numS p s i), false, none) := by
  subst hI
  have hp : 0 ≤ putI (p.ins s.pl.at_) := by
    rcases h with h | h | h | h
    · rw [putI_load (.inl h)]; decide
    · rw [putI_put (.inl h)]; decide
    · rw [putI_load (.inr h)]; decide
    · rw [putI_put (.inr h)]; decide
  unfold stepS
  rw [if_neg (by omega), if_neg (by omega), if_neg (by omega), if_neg (by omega), if_pos hp, if_neg hx]
  rfl
theorem stepS_regs {p : Prg} {s : Sp} {i : Ins} (hI : p.ins s.pl.at_ = i) (h3 : ¬ i.op = 3) (h4 : ¬ i.op = 4) (h5 : ¬ i.op = 5) (h6 : ¬ i.op = 6) (h7 : ¬ i.op = 7) (h8 : ¬ i.op = 8) (h9 : ¬ i.op = 9) (h12 : ¬ i.op = 12) :
    stepS p s = ({ s.on with pl := { s.on.pl with r := (regsI s.pl.r i).1 }, seen := s.on.seen ++ (regsI s.pl.r i).2 }, false, none) := by
  subst hI
  have hp := putI_no h3 h4 h5 h6
  unfold stepS
  rw [if_neg h7, if_neg h8, if_neg (by omega), if_neg (by omega), if_neg (by rw [hp]; decide)]
  rfl

/-- What holds of a place. -/
structure PlOk (p : Prg) (k : Nat) (q : Pl) : Prop where
  at_ : q.at_ ≤ p.cl
  r : ∀ j, j < 10 → B64 (q.r j)
  wd : ∀ j : Nat, (j : Int) < allI p → B64 (q.wd j)
  past : ∀ j, (q.past j).length ≤ k
  was : ∀ j : Nat, (j : Int) < allI p → ∀ v ∈ q.past j, B64 v
structure InvS (p : Prg) (k n : Nat) (s : Sp) : Prop where
  pl : PlOk p k s.pl
  back : s.ahead = true → PlOk p k s.back
  seen : s.seen.length ≤ n
  sc : ∀ c ∈ s.script, 0 ≤ c

theorem PlOk.mono {p : Prg} {k k' : Nat} {q : Pl} (h : PlOk p k q) (hk : k ≤ k') : PlOk p k' q := ⟨h.at_, h.r, h.wd, fun j => Nat.le_trans (h.past j) hk, h.was⟩
theorem PlOk.go {p : Prg} {k : Nat} {q : Pl} (h : PlOk p k q) (n : Nat) (hn : n ≤ p.cl) : PlOk p k { q with at_ := n } := ⟨hn, h.r, h.wd, h.past, h.was⟩
theorem PlOk.reg {p : Prg} {k : Nat} {q : Pl} (h : PlOk p k q) (a v : Int) (hv : B64 v) : PlOk p k { q with r := setR q.r a v } := ⟨h.at_, setR_B64 h.r a v hv, h.wd, h.past, h.was⟩
theorem InvS.mono {p : Prg} {k k' n n' : Nat} {s : Sp} (h : InvS p k n s) (hk : k ≤ k') (hn : n ≤ n') : InvS p k' n' s := ⟨h.pl.mono hk, fun a => (h.back a).mono hk, Nat.le_trans h.seen hn, h.sc⟩
theorem InvS.see {p : Prg} {k n : Nat} {s : Sp} (h : InvS p k n s) (x : Se) : InvS p k (n + 1) (s.see x) := ⟨h.pl, h.back, by have := h.seen; simp [Sp.see]; omega, h.sc⟩
theorem InvS.go {p : Prg} {k n : Nat} {s : Sp} (h : InvS p k n s) (m : Nat) (hm : m ≤ p.cl) : InvS p k n (s.go m) := ⟨h.pl.go m hm, h.back, h.seen, h.sc⟩
theorem InvS.reg {p : Prg} {k n : Nat} {s : Sp} (h : InvS p k n s) (a v : Int) (hv : B64 v) : InvS p k n (s.reg a v) := ⟨h.pl.reg a v hv, h.back, h.seen, h.sc⟩
theorem InvS.tail {p : Prg} {k n : Nat} {s : Sp} (h : InvS p k n s) : InvS p k n { s with script := s.script.tail } := ⟨h.pl, h.back, h.seen, fun c hc => h.sc c (List.mem_of_mem_tail hc)⟩
theorem InvS.leave {p : Prg} {k n : Nat} {s : Sp} (h : InvS p k n s) : InvS p k n s.leave := by
  unfold Sp.leave
  split
  · exact h
  · exact ⟨h.pl, fun _ => h.pl, h.seen, h.sc⟩
theorem InvS.returns {p : Prg} {k n : Nat} {s : Sp} (h : InvS p k n s) (ha : s.ahead = true) : InvS p k (n + 1) s.returns := ⟨h.back ha, fun a => by simp [Sp.returns] at a, by have := h.seen; simp [Sp.returns]; omega, h.sc⟩
theorem InvS.noneLeft {p : Prg} {k n : Nat} {s : Sp} (h : InvS p k n s) (cl : Nat) : InvS p k (n + 1) (s.noneLeft cl) := by
  unfold Sp.noneLeft
  split
  · rename_i hc; exact h.returns hc.2
  · exact h.mono (Nat.le_refl _) (Nat.le_succ _)
theorem InvS.after {p : Prg} {k n : Nat} {s : Sp} (h : InvS p k n s) (over : Bool) : InvS p k (n + 1) (s.after over) := by
  unfold Sp.after
  split
  · rename_i ha
    have h2 : InvS p k n { s with since := s.since + 1 } := ⟨h.pl, h.back, h.seen, h.sc⟩
    split
    · exact h2.returns ha
    · exact h2.mono (Nat.le_refl _) (Nat.le_succ _)
  · exact h.mono (Nat.le_refl _) (Nat.le_succ _)
theorem InvS.word {p : Prg} {k n : Nat} {s : Sp} (h : InvS p k n s) (i : Ins) (m : Int) (hop : i.op = 3 ∨ i.op = 4 ∨ i.op = 5 ∨ i.op = 6) (ha : i.a.toNat < 10) : InvS p (k + 1) n (wordS p s i m) := by
  have h1 : InvS p (k + 1) n s := h.mono (Nat.le_succ _) (Nat.le_refl _)
  unfold wordS
  by_cases hm : m < 0 ∨ allI p ≤ m
  · rw [if_pos hm]
    split
    · exact h1.reg _ _ B64_zero
    · exact h1
  rw [if_neg hm]
  by_cases hp : putI i = 1
  · rw [if_pos hp]
    refine ⟨⟨h.pl.at_, h.pl.r, fun j hj => ?_, fun j => ?_, fun j hj v hv => ?_⟩, h1.back, h.seen, h.sc⟩
    · dsimp only [setF]
      split
      · exact h.pl.r _ ha
      · exact h.pl.wd j hj
    · dsimp only [setF]
      have := h.pl.past j
      split
      · rename_i e; subst e; simp; exact h.pl.past _
      · omega
    · dsimp only [setF] at hv
      split at hv
      · rename_i e
        subst e
        rcases List.mem_append.1 hv with hv | hv
        · exact h.pl.was _ hj v hv
        · rw [List.mem_singleton.1 hv]; exact h.pl.wd _ hj
      · exact h.pl.was j hj v hv
  rw [if_neg hp]
  have hm2 : ((m.toNat : Nat) : Int) < allI p := by omega
  have h2 : InvS p (k + 1) n ({ s with script := s.script.tail }.reg i.a (s.pl.wd m.toNat)) := (h1.tail).reg _ _ (h.pl.wd _ hm2)
  split
  · refine h2.leave.reg _ _ ?_
    rw [List.getD_eq_getElem?_getD]
    cases hq : (s.pl.past m.toNat)[(s.pl.past m.toNat).length - s.choice.toNat]? with
    | none => exact B64_zero
    | some v => exact h.pl.was _ hm2 v (List.mem_of_getElem? hq)
  · exact h2

theorem InvS.step {p : Prg} {k n : Nat} {s : Sp} (h : InvS p k n s) (hat : s.pl.at_ < p.cl) (hin : InsOk p.rl p.log p.cl 10 (p.ins s.pl.at_)) (hn : B64 (p.ins s.pl.at_).n) : InvS p (k + 1) (n + 2) (stepS p s).1 := by
  obtain ⟨i, hI⟩ : ∃ i, p.ins s.pl.at_ = i := ⟨_, rfl⟩
  rw [hI] at hin hn
  have h1 : InvS p (k + 1) (n + 1) (s.see ⟨1, s.pl.at_, 0⟩) := (h.see _).mono (Nat.le_succ _) (Nat.le_refl _)
  have hon : InvS p k (n + 1) s.on := (h.see _).go _ hat
  have hon1 : InvS p (k + 1) (n + 1) s.on := hon.mono (Nat.le_succ _) (Nat.le_refl _)
  by_cases h7 : i.op = 7
  · rw [stepS_jump hI h7]
    have : 0 ≤ i.n ∧ i.n < p.cl := by unfold InsOk Plc at hin; simp [h7] at hin; exact hin.2.2.2
    exact (h1.go _ (by omega)).mono (Nat.le_refl _) (Nat.le_succ _)
  by_cases h8 : i.op = 8
  · have hpl : 0 ≤ i.n ∧ i.n < p.cl := by unfold InsOk Plc at hin; simp [h8] at hin; exact hin.2.2.2
    rw [stepS_if hI h8 _ rfl _ _ rfl rfl]
    have hb : ∀ b : Bool, (if b = true then i.n.toNat else s.pl.at_ + 1) ≤ p.cl ∧ (if b = true then s.pl.at_ + 1 else i.n.toNat) ≤ p.cl := by intro b; cases b <;> simp <;> omega
    have hb2 := hb (holdsI i.c (s.pl.r i.a.toNat) (s.pl.r i.b.toNat))
    have h2 := (h1.go _ hb2.1).tail
    dsimp only
    split
    · exact h2.mono (Nat.le_refl _) (Nat.le_succ _)
    · exact (h2.leave.go _ hb2.2).mono (Nat.le_refl _) (Nat.le_succ _)
  by_cases h9 : i.op = 9
  · cases ha : s.ahead with
    | false => rw [stepS_halt hI h9 ha]; exact h1.mono (Nat.le_refl _) (Nat.le_succ _)
    | true => rw [stepS_over hI (.inl ⟨h9, ha⟩)]; exact hon1.mono (Nat.le_refl _) (Nat.le_succ _)
  by_cases h12 : i.op = 12
  · rw [stepS_over hI (.inr h12)]; exact hon1.mono (Nat.le_refl _) (Nat.le_succ _)
  by_cases hw : i.op = 3 ∨ i.op = 4 ∨ i.op = 5 ∨ i.op = 6
  · have hra : i.a.toNat < 10 := by
      unfold InsOk Reg at hin
      rcases hw with e | e | e | e <;> simp [e] at hin <;> omega
    by_cases hx : s.ahead = false ∧ (idxI s.pl.r i < 0 ∨ wordsI (p.log i.c.toNat) ≤ idxI s.pl.r i)
    · rw [stepS_fault hI hw hx.1 hx.2]; exact h1.mono (Nat.le_refl _) (Nat.le_succ _)
    · rw [stepS_word hI hw hx]
      exact (hon.see _).word i _ hw hra
  rw [stepS_regs hI (by omega) (by omega) (by omega) (by omega) h7 h8 h9 h12]
  refine ⟨⟨hon1.pl.at_, regsI_B64 h.pl.r i (fun e => ?_) hn, hon1.pl.wd, hon1.pl.past, hon1.pl.was⟩, hon1.back, ?_, hon1.sc⟩
  · unfold InsOk Reg at hin
    simp [e] at hin
    omega
  · have := hon1.seen
    have := regsI_len s.pl.r i
    simp
    omega
end
section
open Go.RowKit
set_option linter.unusedSimpArgs false
set_option linter.unusedVariables false
set_option maxRecDepth 8000
theorem heap_some_lt {w : World} {b : Nat} {o : Obj} (h : w.heap[b]? = some o) : b < w.heap.size := (Array.getElem?_eq_some_iff.1 h).1

theorem below_put {w w' : World} {M : Nat} (h : Below M w w') (j : Nat) (v : Value) : Below M w (w'.setCell ⟨M, j, none⟩ v) := Below.setCell h (Nat.le_refl _) v

theorem below_alloc {w w' : World} {M : Nat} (h : Below M w w') (hM : M ≤ w'.heap.size) (o : Obj) : Below M w (w'.alloc o) := Below.alloc h hM o

theorem below_drew {w w' : World} {M : Nat} (h : Below M w w') : Below M w w'.drew := Below.drew h

theorem below_more {w w' w'' : World} {M : Nat} (h : Below M w w') (hM : M ≤ w'.heap.size) (m : More w' w'') : Below M w w'' := Below.trans h (Below.mono m hM)

theorem info79 : (Try.prog.info? 45).map (fun i => (i.zero, i.size, i.bytes)) = some (some (.agg #[.int .i64 0, .int .i64 0, .int .i64 0]), 3, 24) := by kernel_rfl

theorem cell_three_new' (w : World) (x y z : Value) (t : TypeId) : ∀ j u, [x, y, z][j]? = some u → (w.alloc (.cells #[x, y, z] t)).cell? ((⟨w.heap.size, 0, none⟩ : Addr).add j) = some u := by
  intro j u h
  rw [Go.WideShapes.add_plain]
  have hj : j = 0 ∨ j = 1 ∨ j = 2 := by have := (List.getElem?_eq_some_iff.1 h).1; simp at this; omega
  rcases hj with rfl | rfl | rfl <;> (simp at h; subst h; go_simp)

/-- The choices that are left, where the script lies (in a block below B). -/
structure ScAt (w : World) (B : Nat) (sc : Value) (L : List Int) : Prop where
  out : ∃ sa cap, sc = .slice sa L.length cap ∧ L.length ≤ cap ∧ (L ≠ [] → ∃ sb so, sa = some ⟨sb, so, none⟩ ∧ sb < B ∧ ∀ j c, L[j]? = some c → w.cell? ⟨sb, so + j, none⟩ = some (.int .i64 c))

theorem ScAt.below {w w' : World} {B : Nat} {sc : Value} {L : List Int} (h : ScAt w B sc L) (hb : Below B w w') : ScAt w' B sc L := by
  obtain ⟨sa, cap, h1, h2, h3⟩ := h.out
  refine ⟨sa, cap, h1, h2, fun hL => ?_⟩
  obtain ⟨sb, so, h4, h5, h6⟩ := h3 hL
  exact ⟨sb, so, h4, h5, fun j c hc => by rw [Below.cell hb h5]; exact h6 j c hc⟩

theorem hid_of' {P : Prop} (h : P) : Hid P := h

theorem cell_of_box {w : World} {R : Nat} {c : Array Value} {T : TypeId} (h : w.heap[R]? = some (.cells c T (0, 0))) (j : Nat) (v : Value) (hv : c[j]? = some v) : w.cell? ⟨R, j, none⟩ = some v := by
  rw [cell_of_row w R j c T (0, 0) h]; exact hv

theorem info60 : (Try.prog.info? 67).map (fun i => (i.zero, i.size, i.bytes)) = some (some (.slice none 0 0), 1, 24) := by kernel_rfl

theorem madeNil_at (n j : Nat) (h : j < n) : (madeCells #[.slice none 0 0] n)[j]? = some (.slice none 0 0) := by
  unfold madeCells
  simp [h, Nat.mod_one]

/-- A run ends with a step that changes nothing. -/
theorem stepS_end {p : Prg} {s : Sp} {e : Int × Int} (h : (stepS p s).2.2 = some e) : (stepS p s).1 = s.see ⟨1, s.pl.at_, 0⟩ := by
  obtain ⟨i, hI⟩ : ∃ i, p.ins s.pl.at_ = i := ⟨_, rfl⟩
  by_cases h7 : i.op = 7
  · rw [stepS_jump hI h7] at h; cases h
  by_cases h8 : i.op = 8
  · rw [stepS_if hI h8 _ rfl _ _ rfl rfl] at h; cases h
  by_cases h9 : i.op = 9
  · cases ha : s.ahead with
    | false => rw [stepS_halt hI h9 ha]
    | true => rw [stepS_over hI (.inl ⟨h9, ha⟩)] at h; cases h
  by_cases h12 : i.op = 12
  · rw [stepS_over hI (.inr h12)] at h; cases h
  by_cases hw : i.op = 3 ∨ i.op = 4 ∨ i.op = 5 ∨ i.op = 6
  · by_cases hx : s.ahead = false ∧ (idxI s.pl.r i < 0 ∨ wordsI (p.log i.c.toNat) ≤ idxI s.pl.r i)
    · rw [stepS_fault hI hw hx.1 hx.2]
    · rw [stepS_word hI hw hx] at h; cases h
  rw [stepS_regs hI (by omega) (by omega) (by omega) (by omega) h7 h8 h9 h12] at h
  cases h

theorem stepS_fin {p : Prg} {s : Sp} {e : Int × Int} (h : (stepS p s).2.2 = some e) : e.1 = 1 ∨ e.1 = 2 := by
  obtain ⟨i, hI⟩ : ∃ i, p.ins s.pl.at_ = i := ⟨_, rfl⟩
  by_cases h7 : i.op = 7
  · rw [stepS_jump hI h7] at h; cases h
  by_cases h8 : i.op = 8
  · rw [stepS_if hI h8 _ rfl _ _ rfl rfl] at h; cases h
  by_cases h9 : i.op = 9
  · cases ha : s.ahead with
    | false => rw [stepS_halt hI h9 ha] at h; left; rw [← Option.some.inj h]
    | true => rw [stepS_over hI (.inl ⟨h9, ha⟩)] at h; cases h
  by_cases h12 : i.op = 12
  · rw [stepS_over hI (.inr h12)] at h; cases h
  by_cases hw : i.op = 3 ∨ i.op = 4 ∨ i.op = 5 ∨ i.op = 6
  · by_cases hx : s.ahead = false ∧ (idxI s.pl.r i < 0 ∨ wordsI (p.log i.c.toNat) ≤ idxI s.pl.r i)
    · rw [stepS_fault hI hw hx.1 hx.2] at h; right; rw [← Option.some.inj h]
    · rw [stepS_word hI hw hx] at h; cases h
  rw [stepS_regs hI (by omega) (by omega) (by omega) (by omega) h7 h8 h9 h12] at h
  cases h

theorem allI_N {p : Prg} {m : Mem} (hrl : m.ml = p.rl) (hlen : ∀ i, i < m.ml → (m.len i : Int) = wordsI (p.log i)) : allI p = (baseN m.len m.ml : Int) := by
  unfold allI
  rw [← hrl]
  exact (base_eq p m hlen m.ml (Nat.le_refl _)).symm
end
section
open Go.RowKit
set_option linter.unusedVariables false
structure Ms where
  fin : Int
  val : Int
  steps : Int
  sv : Value
  mv : Value
  r : Nat → Int
  wd : Nat → Int
  next : Int
  fuel : Int
  ended : Bool
  st : Nat → Int
  T : TypeId
  tl : Nat → Option Value
  mo : List (Nat × Obj)

/-- What its cells are. -/
def cellF (rv cv : Value) (x : Ms) (j : Nat) : Value :=
  if j = 0 then rv else if j = 1 then cv else if j = 2 then .int .i64 x.fin else if j = 3 then .int .i64 x.val else if j = 4 then .int .i64 x.steps
  else if j = 5 then x.sv else if j = 6 then x.mv else if j < 17 then .int .i64 (x.r (j - 7)) else if j < 401 then .int .i64 (x.wd (j - 17))
  else if j = 401 then .int .i64 x.next else if j = 402 then .int .i64 x.fuel else if j = 403 then .bool x.ended else .int .i64 (x.st (j - 404))

theorem cellF_r (rv cv : Value) (x : Ms) (j : Nat) (hj : j < 10) : cellF rv cv x (7 + j) = .int .i64 (x.r j) := by
  unfold cellF
  rw [if_neg (by omega), if_neg (by omega), if_neg (by omega), if_neg (by omega), if_neg (by omega), if_neg (by omega), if_neg (by omega), if_pos (by omega), show 7 + j - 7 = j by omega]
theorem cellF_wd (rv cv : Value) (x : Ms) (j : Nat) (hj : j < 384) : cellF rv cv x (17 + j) = .int .i64 (x.wd j) := by
  unfold cellF
  rw [if_neg (by omega), if_neg (by omega), if_neg (by omega), if_neg (by omega), if_neg (by omega), if_neg (by omega), if_neg (by omega), if_neg (by omega), if_pos (by omega), show 17 + j - 17 = j by omega]
theorem cellF_st (rv cv : Value) (x : Ms) (j : Nat) (hj : j < 7) : cellF rv cv x (404 + j) = .int .i64 (x.st j) := by
  unfold cellF
  rw [if_neg (by omega), if_neg (by omega), if_neg (by omega), if_neg (by omega), if_neg (by omega), if_neg (by omega), if_neg (by omega), if_neg (by omega), if_neg (by omega), if_neg (by omega), if_neg (by omega), if_neg (by omega), show 404 + j - 404 = j by omega]

/-- The first 411 cells are the machine's; what lies behind them (of a value that begins with a machine) is tl. -/
structure MC (c : Array Value) (rv cv : Value) (x : Ms) : Prop where
  big : 411 ≤ c.size
  at_ : ∀ j, j < 411 → c[j]? = some (cellF rv cv x j)
  tail : ∀ j, 411 ≤ j → c[j]? = x.tl j

theorem MC.size {c : Array Value} {rv cv : Value} {x : Ms} (h : MC c rv cv x) (ht : x.tl 411 = none) : c.size = 411 := by
  have h1 := h.tail 411 (Nat.le_refl _)
  rw [ht, Array.getElem?_eq_none_iff] at h1
  have := h.big
  omega

structure MAt (w : World) (M : Nat) (rv cv : Value) (x : Ms) : Prop where
  out : ∃ c, w.heap[M]? = some (.cells c x.T (0, 0)) ∧ MC c rv cv x

def setN (r : Nat → Int) (k : Nat) (v : Int) : Nat → Int := fun j => if j = k then v else r j

section
variable {w w' : World} {M : Nat} {rv cv : Value} {x : Ms}

theorem MAt.wr (h : MAt w M rv cv x) (j : Nat) (hj : j < 411) : Wr w M j (cellF rv cv x j) := by
  obtain ⟨c, hh, hc⟩ := h.out
  exact ⟨by rw [cell_of_row w M j c x.T (0, 0) hh]; exact hc.at_ j hj, by simp [World.frozen?, hh]⟩
theorem MAt.lt (h : MAt w M rv cv x) : M < w.heap.size := cell_block (h.wr 0 (by omega)).1

theorem MAt.p0 (h : MAt w M rv cv x) : Wr w M 0 rv := h.wr 0 (by omega)
theorem MAt.p1 (h : MAt w M rv cv x) : Wr w M 1 cv := h.wr 1 (by omega)
theorem MAt.fin (h : MAt w M rv cv x) : Wr w M 2 (.int .i64 x.fin) := h.wr 2 (by omega)
theorem MAt.val (h : MAt w M rv cv x) : Wr w M 3 (.int .i64 x.val) := h.wr 3 (by omega)
theorem MAt.steps (h : MAt w M rv cv x) : Wr w M 4 (.int .i64 x.steps) := h.wr 4 (by omega)
theorem MAt.sv (h : MAt w M rv cv x) : Wr w M 5 x.sv := h.wr 5 (by omega)
theorem MAt.mv (h : MAt w M rv cv x) : Wr w M 6 x.mv := h.wr 6 (by omega)
theorem MAt.next (h : MAt w M rv cv x) : Wr w M 401 (.int .i64 x.next) := h.wr 401 (by omega)
theorem MAt.fuel (h : MAt w M rv cv x) : Wr w M 402 (.int .i64 x.fuel) := h.wr 402 (by omega)
theorem MAt.ended (h : MAt w M rv cv x) : Wr w M 403 (.bool x.ended) := h.wr 403 (by omega)
theorem MAt.r (h : MAt w M rv cv x) (j : Nat) (hj : j < 10) : Wr w M (7 + j) (.int .i64 (x.r j)) := by
  have := h.wr (7 + j) (by omega)
  rw [cellF_r rv cv x j hj] at this
  exact this
theorem MAt.wd (h : MAt w M rv cv x) (j : Nat) (hj : j < 384) : Wr w M (17 + j) (.int .i64 (x.wd j)) := by
  have := h.wr (17 + j) (by omega)
  rw [cellF_wd rv cv x j hj] at this
  exact this
theorem MAt.st (h : MAt w M rv cv x) (j : Nat) (hj : j < 7) : Wr w M (404 + j) (.int .i64 (x.st j)) := by
  have := h.wr (404 + j) (by omega)
  rw [cellF_st rv cv x j hj] at this
  exact this

theorem MAt.kept (h : MAt w M rv cv x) {row : Option Nat} (hg : w.grownBy w' row) (hne : some M ≠ row) : MAt w' M rv cv x := by
  obtain ⟨c, hh, hc⟩ := h.out
  exact ⟨c, by rw [hg.block M h.lt hne]; exact hh, hc⟩
theorem MAt.alloc (h : MAt w M rv cv x) (o : Obj) : MAt (w.alloc o) M rv cv x := h.kept (World.grownBy_alloc w o none) (by simp)
theorem MAt.drew (h : MAt w M rv cv x) : MAt w.drew M rv cv x := h.kept (grown_drew w none) (by simp)
theorem MAt.more (h : MAt w M rv cv x) (m : More w w') : MAt w' M rv cv x := h.kept (m.grow none) (by simp)

theorem MAt.set (h : MAt w M rv cv x) (j : Nat) (v : Value) (x' : Ms) (hj : j < 411) (hT : x'.T = x.T) (htl : x'.tl = x.tl) (hx : ∀ i, i < 411 → cellF rv cv x' i = if i = j then v else cellF rv cv x i) : MAt (w.setCell ⟨M, j, none⟩ v) M rv cv x' := by
  obtain ⟨c, hh, hc⟩ := h.out
  refine ⟨c.setIfInBounds j v, ?_, by simp [hc.big], fun i hi => ?_, fun i hi => ?_⟩
  · rw [setCell_eq_setRow w M j c x.T (0, 0) v hh, hT]
    exact setRow_heap w M c _ x.T _ hh
  · rw [hx i hi, Array.getElem?_setIfInBounds]
    by_cases e : i = j
    · subst e
      rw [if_pos rfl, if_pos rfl, if_pos (by have := hc.big; omega)]
    · rw [if_neg (fun h => e h.symm), if_neg e]
      exact hc.at_ i hi
  · rw [Array.getElem?_setIfInBounds, if_neg (by omega), htl]
    exact hc.tail i hi

/-- A store behind the machine's own cells. -/
theorem MAt.setTl (h : MAt w M rv cv x) (j : Nat) (v u : Value) (tl : Nat → Option Value) (hj : 411 ≤ j) (hu : x.tl j = some u) (htl : ∀ i, 411 ≤ i → tl i = if i = j then some v else x.tl i) : MAt (w.setCell ⟨M, j, none⟩ v) M rv cv { x with tl := tl } := by
  obtain ⟨c, hh, hc⟩ := h.out
  have hlt : j < c.size := by
    have h1 := hc.tail j hj
    rw [hu] at h1
    exact (Array.getElem?_eq_some_iff.1 h1).1
  refine ⟨c.setIfInBounds j v, ?_, by simp [hc.big], fun i hi => ?_, fun i hi => ?_⟩
  · rw [setCell_eq_setRow w M j c x.T (0, 0) v hh]
    exact setRow_heap w M c _ x.T _ hh
  · rw [Array.getElem?_setIfInBounds, if_neg (by omega)]
    exact hc.at_ i hi
  · show _ = tl i
    rw [Array.getElem?_setIfInBounds, htl i hi]
    by_cases e : i = j
    · subst e
      rw [if_pos rfl, if_pos rfl, if_pos hlt]
    · rw [if_neg (fun h => e h.symm), if_neg e]
      exact hc.tail i hi
theorem MAt.tlw (h : MAt w M rv cv x) (j : Nat) (hj : 411 ≤ j) (v : Value) (hv : x.tl j = some v) : Wr w M j v := by
  obtain ⟨c, hh, hc⟩ := h.out
  exact ⟨by rw [cell_of_row w M j c x.T (0, 0) hh, hc.tail j hj]; exact hv, by simp [World.frozen?, hh]⟩

theorem MAt.setFin (h : MAt w M rv cv x) (n : Int) : MAt (w.setCell ⟨M, 2, none⟩ (.int .i64 n)) M rv cv { x with fin := n } :=
  h.set 2 _ _ (by omega) rfl rfl fun i hi => by unfold cellF; by_cases e : i = 2 <;> simp [e]
theorem MAt.setVal (h : MAt w M rv cv x) (n : Int) : MAt (w.setCell ⟨M, 3, none⟩ (.int .i64 n)) M rv cv { x with val := n } :=
  h.set 3 _ _ (by omega) rfl rfl fun i hi => by unfold cellF; by_cases e : i = 3 <;> simp [e]
theorem MAt.setSteps (h : MAt w M rv cv x) (n : Int) : MAt (w.setCell ⟨M, 4, none⟩ (.int .i64 n)) M rv cv { x with steps := n } :=
  h.set 4 _ _ (by omega) rfl rfl fun i hi => by unfold cellF; by_cases e : i = 4 <;> simp [e]
theorem MAt.setSv (h : MAt w M rv cv x) (v : Value) : MAt (w.setCell ⟨M, 5, none⟩ v) M rv cv { x with sv := v } :=
  h.set 5 _ _ (by omega) rfl rfl fun i hi => by unfold cellF; by_cases e : i = 5 <;> simp [e]
theorem MAt.setMv (h : MAt w M rv cv x) (v : Value) : MAt (w.setCell ⟨M, 6, none⟩ v) M rv cv { x with mv := v } :=
  h.set 6 _ _ (by omega) rfl rfl fun i hi => by unfold cellF; by_cases e : i = 6 <;> simp [e]
theorem MAt.setNext (h : MAt w M rv cv x) (n : Int) : MAt (w.setCell ⟨M, 401, none⟩ (.int .i64 n)) M rv cv { x with next := n } :=
  h.set 401 _ _ (by omega) rfl rfl fun i hi => by unfold cellF; by_cases e : i = 401 <;> simp [e]
theorem MAt.setEnded (h : MAt w M rv cv x) (b : Bool) : MAt (w.setCell ⟨M, 403, none⟩ (.bool b)) M rv cv { x with ended := b } :=
  h.set 403 _ _ (by omega) rfl rfl fun i hi => by unfold cellF; by_cases e : i = 403 <;> simp [e]
theorem MAt.setR (h : MAt w M rv cv x) (k : Nat) (hk : k < 10) (n : Int) : MAt (w.setCell ⟨M, 7 + k, none⟩ (.int .i64 n)) M rv cv { x with r := setN x.r k n } :=
  h.set (7 + k) _ _ (by omega) rfl rfl fun i hi => by
    by_cases e : i = 7 + k
    · subst e; rw [if_pos rfl, cellF_r _ _ _ k hk]; simp [setN]
    · rw [if_neg e]
      unfold cellF setN
      by_cases e1 : i < 7
      · have : i = 0 ∨ i = 1 ∨ i = 2 ∨ i = 3 ∨ i = 4 ∨ i = 5 ∨ i = 6 := by omega
        rcases this with rfl | rfl | rfl | rfl | rfl | rfl | rfl <;> simp
      · have e2 : ¬ i - 7 = k := by omega
        simp [e2]
theorem MAt.setWd (h : MAt w M rv cv x) (k : Nat) (hk : k < 384) (n : Int) : MAt (w.setCell ⟨M, 17 + k, none⟩ (.int .i64 n)) M rv cv { x with wd := setN x.wd k n } :=
  h.set (17 + k) _ _ (by omega) rfl rfl fun i hi => by
    by_cases e : i = 17 + k
    · subst e; rw [if_pos rfl, cellF_wd _ _ _ k hk]; simp [setN]
    · rw [if_neg e]
      unfold cellF setN
      by_cases e1 : i < 17
      · simp [e1]
      · have e2 : ¬ i - 17 = k := by omega
        simp [e2]
theorem MAt.setSt (h : MAt w M rv cv x) (k : Nat) (hk : k < 7) (n : Int) : MAt (w.setCell ⟨M, 404 + k, none⟩ (.int .i64 n)) M rv cv { x with st := setN x.st k n } :=
  h.set (404 + k) _ _ (by omega) rfl rfl fun i hi => by
    by_cases e : i = 404 + k
    · subst e; rw [if_pos rfl, cellF_st _ _ _ k hk]; simp [setN]
    · rw [if_neg e]
      unfold cellF setN
      by_cases e1 : i < 404
      · have : i < 401 ∨ i = 401 ∨ i = 402 ∨ i = 403 := by omega
        rcases this with h1 | rfl | rfl | rfl
        · simp [h1]
        · simp
        · simp
        · simp
      · have e2 : ¬ i - 404 = k := by omega
        simp [e2]
end

/-- A machine, and what it has shown so far, in a row of its own behind it (the field sv says nothing here); and blocks behind it that it leaves alone (mo). -/
structure Run (w : World) (M : Nat) (rv cv : Value) (x : Ms) (se : List Se) : Prop where
  out : ∃ sv, MAt w M rv cv { x with sv := sv } ∧ SeenOwn w (M + 1) sv se ∧ ∀ q ∈ x.mo, M < q.1 ∧ some q.1 ≠ sv.ownBlock ∧ w.heap[q.1]? = some q.2

section
variable {w w' : World} {M : Nat} {rv cv : Value} {x x' : Ms} {se : List Se}
theorem Run.lt (h : Run w M rv cv x se) : M < w.heap.size := by
  obtain ⟨sv, hm, _⟩ := h.out
  exact hm.lt
theorem Run.kept (h : Run w M rv cv x se) {row : Option Nat} (hg : w.grownBy w' row) (hr : ∀ b, row = some b → b < M) : Run w' M rv cv x se := by
  obtain ⟨sv, hm, ho, hq⟩ := h.out
  exact ⟨sv, hm.kept hg (fun e => by have := hr M e.symm; omega), ho.kept hg (fun b hb => by have := hr b hb; omega), fun q e => ⟨(hq q e).1, (hq q e).2.1, by rw [hg.block q.1 (heap_some_lt (hq q e).2.2) (fun e' => by have := hr q.1 e'.symm; have := (hq q e).1; omega)]; exact (hq q e).2.2⟩⟩
theorem Run.more (h : Run w M rv cv x se) (m : More w w') : Run w' M rv cv x se := h.kept (m.grow none) (fun b hb => by cases hb)
theorem Run.alloc (h : Run w M rv cv x se) (o : Obj) : Run (w.alloc o) M rv cv x se := h.kept (World.grownBy_alloc w o none) (fun b hb => by cases hb)
theorem Run.drew (h : Run w M rv cv x se) : Run w.drew M rv cv x se := h.kept (grown_drew w none) (fun b hb => by cases hb)
/-- A store into the machine itself. -/
theorem Run.put (h : Run w M rv cv x se) {j : Nat} {v : Value} (hmo : x'.mo = x.mo) (hm : ∀ sv, MAt w M rv cv { x with sv := sv } → MAt (w.setCell ⟨M, j, none⟩ v) M rv cv { x' with sv := sv }) : Run (w.setCell ⟨M, j, none⟩ v) M rv cv x' se := by
  obtain ⟨sv, h1, ho, hq⟩ := h.out
  exact ⟨sv, hm sv h1, ho.kept (grown_set w M j v) (fun b hb => by have := Option.some.inj hb; omega), fun q e => by
    rw [hmo] at e
    exact ⟨(hq q e).1, (hq q e).2.1, by rw [(grown_set w M j v).block q.1 (heap_some_lt (hq q e).2.2) (fun e' => by have := Option.some.inj e'; have := (hq q e).1; omega)]; exact (hq q e).2.2⟩⟩
theorem Run.setFin (h : Run w M rv cv x se) (n : Int) : Run (w.setCell ⟨M, 2, none⟩ (.int .i64 n)) M rv cv { x with fin := n } se := h.put rfl fun _ m => m.setFin n
theorem Run.setVal (h : Run w M rv cv x se) (n : Int) : Run (w.setCell ⟨M, 3, none⟩ (.int .i64 n)) M rv cv { x with val := n } se := h.put rfl fun _ m => m.setVal n
theorem Run.setSteps (h : Run w M rv cv x se) (n : Int) : Run (w.setCell ⟨M, 4, none⟩ (.int .i64 n)) M rv cv { x with steps := n } se := h.put rfl fun _ m => m.setSteps n
theorem Run.setNext (h : Run w M rv cv x se) (n : Int) : Run (w.setCell ⟨M, 401, none⟩ (.int .i64 n)) M rv cv { x with next := n } se := h.put rfl fun _ m => m.setNext n
theorem Run.setEnded (h : Run w M rv cv x se) (b : Bool) : Run (w.setCell ⟨M, 403, none⟩ (.bool b)) M rv cv { x with ended := b } se := h.put rfl fun _ m => m.setEnded b
theorem Run.setR (h : Run w M rv cv x se) (k : Nat) (hk : k < 10) (n : Int) : Run (w.setCell ⟨M, 7 + k, none⟩ (.int .i64 n)) M rv cv { x with r := setN x.r k n } se := h.put rfl fun _ m => m.setR k hk n
theorem Run.setWd (h : Run w M rv cv x se) (k : Nat) (hk : k < 384) (n : Int) : Run (w.setCell ⟨M, 17 + k, none⟩ (.int .i64 n)) M rv cv { x with wd := setN x.wd k n } se := h.put rfl fun _ m => m.setWd k hk n

theorem Run.fin (h : Run w M rv cv x se) : Wr w M 2 (.int .i64 x.fin) := by obtain ⟨sv, m, _⟩ := h.out; exact m.fin
theorem Run.val (h : Run w M rv cv x se) : Wr w M 3 (.int .i64 x.val) := by obtain ⟨sv, m, _⟩ := h.out; exact m.val
theorem Run.steps (h : Run w M rv cv x se) : Wr w M 4 (.int .i64 x.steps) := by obtain ⟨sv, m, _⟩ := h.out; exact m.steps
theorem Run.p0 (h : Run w M rv cv x se) : Wr w M 0 rv := by obtain ⟨sv, m, _⟩ := h.out; exact m.p0
theorem Run.p1 (h : Run w M rv cv x se) : Wr w M 1 cv := by obtain ⟨sv, m, _⟩ := h.out; exact m.p1
theorem Run.next (h : Run w M rv cv x se) : Wr w M 401 (.int .i64 x.next) := by obtain ⟨sv, m, _⟩ := h.out; exact m.next
theorem Run.fuel (h : Run w M rv cv x se) : Wr w M 402 (.int .i64 x.fuel) := by obtain ⟨sv, m, _⟩ := h.out; exact m.fuel
theorem Run.ended (h : Run w M rv cv x se) : Wr w M 403 (.bool x.ended) := by obtain ⟨sv, m, _⟩ := h.out; exact m.ended
theorem Run.r (h : Run w M rv cv x se) (j : Nat) (hj : j < 10) : Wr w M (7 + j) (.int .i64 (x.r j)) := by obtain ⟨sv, m, _⟩ := h.out; exact m.r j hj
theorem Run.wd (h : Run w M rv cv x se) (j : Nat) (hj : j < 384) : Wr w M (17 + j) (.int .i64 (x.wd j)) := by obtain ⟨sv, m, _⟩ := h.out; exact m.wd j hj
theorem Run.tlw (h : Run w M rv cv x se) (j : Nat) (hj : 411 ≤ j) (v : Value) (hv : x.tl j = some v) : Wr w M j v := by obtain ⟨sv, m, _⟩ := h.out; exact m.tlw j hj v hv
theorem Run.setTl (h : Run w M rv cv x se) (j : Nat) (v u : Value) (tl : Nat → Option Value) (hj : 411 ≤ j) (hu : x.tl j = some u) (htl : ∀ i, 411 ≤ i → tl i = if i = j then some v else x.tl i) : Run (w.setCell ⟨M, j, none⟩ v) M rv cv { x with tl := tl } se := h.put rfl fun _ m => m.setTl j v u tl hj hu htl
theorem Run.st (h : Run w M rv cv x se) (j : Nat) (hj : j < 7) : Wr w M (404 + j) (.int .i64 (x.st j)) := by obtain ⟨sv, m, _⟩ := h.out; exact m.st j hj
end

theorem MAt.mos {w : World} {M : Nat} {rv cv : Value} {x : Ms} (h : MAt w M rv cv x) (l : List (Nat × Obj)) : MAt w M rv cv { x with mo := l } := by
  obtain ⟨c, hh, hc⟩ := h.out
  exact ⟨c, hh, hc.big, hc.at_, hc.tail⟩
/-- What is left alone, is as it was. -/
theorem Run.left {w : World} {M : Nat} {rv cv : Value} {x : Ms} {se : List Se} (h : Run w M rv cv x se) {q : Nat × Obj} (hq : q ∈ x.mo) : w.heap[q.1]? = some q.2 := by obtain ⟨sv, _, _, h3⟩ := h.out; exact (h3 q hq).2.2
/-- A new block is one that is left alone. -/
theorem Run.beside {w : World} {M : Nat} {rv cv : Value} {x : Ms} {se : List Se} (h : Run w M rv cv x se) (o : Obj) : Run (w.alloc o) M rv cv { x with mo := (w.heap.size, o) :: x.mo } se := by
  have h0 := h.alloc o
  obtain ⟨sv, h1, h2, h3⟩ := h.out
  refine ⟨sv, (h1.alloc o).mos _, h2.kept (World.grownBy_alloc w o none) (fun b hb => by cases hb), fun q hq => ?_⟩
  rcases List.mem_cons.1 hq with rfl | hq
  · refine ⟨h.lt, fun e => ?_, heap_alloc_last w o⟩
    have := (World.ownsRow.lt h2 _ e.symm).2
    dsimp only at this
    omega
  · refine ⟨(h3 q hq).1, (h3 q hq).2.1, ?_⟩
    rw [(World.grownBy_alloc w o none).block q.1 (heap_some_lt (h3 q hq).2.2) (by simp)]
    exact (h3 q hq).2.2
/-- Fewer are left alone. -/
theorem Run.fewer {w : World} {M : Nat} {rv cv : Value} {x : Ms} {se : List Se} (h : Run w M rv cv x se) (l : List (Nat × Obj)) (hl : ∀ q ∈ l, q ∈ x.mo) : Run w M rv cv { x with mo := l } se := by
  obtain ⟨sv, h1, h2, h3⟩ := h.out
  exact ⟨sv, h1.mos _, h2, fun q hq => h3 q (hl q hq)⟩
end
end Go.Proofs.Ytapagihngaiebaa
