/-
  The texts Mem, Shown, Plain, Sem, StepEq, SemSpec, Copy, Own, PAt, Mach, Ord, Inv, Meth, Reach, one behind the other.
-/
import Derived.WalkKit
import Derived.Deep.WholeRow
import Derived.RowKit
import Derived.Laws.BitsAllLaws
import Derived.Test.YtbfhchhggkpbdaaRows
import Derived.Deep.LoopGhost
import Derived.Deep.AppendLies
import Derived.OwnWalk
import Derived.Laws.OwnMore
import Derived.Deep.RegionHeld3
import Derived.Deep.OwnRows

/-
  Plain facts: programs as data, which of them may be, and how they lie in memory; worlds that have grown. No Go text in sight.
-/
namespace Go.Proofs.Ytbfhchhggkpbdaa
open Go.RowKit

/-! ### A world with new blocks: what was there is as it was -/
def More (w w' : World) : Prop := Below w.heap.size w w'

theorem More.refl (w : World) : More w w := Below.refl _ _
theorem More.size {w w' : World} (h : More w w') : w.heap.size ≤ w'.heap.size := Below.size h
theorem More.block {w w' : World} (h : More w w') (i : Nat) (hi : i < w.heap.size) : w'.heap[i]? = w.heap[i]? := Below.block h i hi
theorem More.trans {a b c : World} (h : More a b) (k : More b c) : More a c := Below.trans h (Below.mono k h.size)
theorem More.alloc {w w' : World} (h : More w w') (c : Array Value) (t : TypeId) : More w (w'.alloc (.cells c t)) := Below.alloc h h.size _
theorem More.setCell {w w' : World} (h : More w w') {a : Addr} (ha : w.heap.size ≤ a.block) (v : Value) : More w (w'.setCell a v) := Below.setCell h ha v
theorem More.drew {w w' : World} (h : More w w') : More w w'.drew := Below.drew h
theorem More.grownBy {w w1 w2 : World} {row : Option Nat} (h : More w w1) (hg : w1.grownBy w2 row) (hr : ∀ k, row = some k → w.heap.size ≤ k) : More w w2 := Below.grown h hg h.size hr
theorem cell_block {w : World} {a : Addr} {v : Value} (h : w.cell? a = some v) : a.block < w.heap.size := by
  rcases Nat.lt_or_ge a.block w.heap.size with h' | h'
  · exact h'
  · have e : w.heap[a.block]? = none := by simp [h']
    unfold World.cell? at h
    simp [e] at h
theorem More.cell {w w' : World} (h : More w w') {a : Addr} {v : Value} (hc : w.cell? a = some v) : w'.cell? a = some v := by
  rw [Below.cell h (cell_block hc)]; exact hc

/-! ### What a call tells that answers a bool -/
def Says (P : Prop) (w : World) (e : Ending) (w' : World) : Prop := ∃ r : Bool, e = .returned (.bool r) ∧ (r = true ↔ P) ∧ More w w'

theorem Says.yes {P : Prop} {w w' : World} (h : P) (m : More w w') : Says P w (.returned (.bool true)) w' := ⟨true, rfl, by simp [h], m⟩
theorem Says.no {P : Prop} {w w' : World} (h : ¬ P) (m : More w w') : Says P w (.returned (.bool false)) w' := ⟨false, rfl, by simp [h], m⟩

/-! ### Programs as data -/
structure Ins where
  op : Int
  a : Int
  b : Int
  c : Int
  n : Int

/-- Regions, by their Log and whether they are secret; instructions. -/
structure Prg where
  rl : Nat
  log : Nat → Int
  sec : Nat → Bool
  cl : Nat
  ins : Nat → Ins

def RegionsOk (rl : Nat) (log : Nat → Int) : Prop := rl ≤ 6 ∧ ∀ i, i < rl → 0 ≤ log i ∧ log i ≤ 6

/-- A register. -/
def Reg (regs x : Int) : Prop := 0 ≤ x ∧ x < regs
/-- The number of a region. -/
def Rgn (rl : Nat) (x : Int) : Prop := 0 ≤ x ∧ x < rl
/-- The number of an instruction. -/
def Plc (cl : Nat) (x : Int) : Prop := 0 ≤ x ∧ x < cl
/-- The number of a word of region x. -/
def Wrd (log : Nat → Int) (c n : Int) : Prop := 0 ≤ n ∧ n < 2 ^ (log c.toNat).toNat

/-- B1: an instruction of a program with so many regions, instructions, registers. -/
def InsOk (rl : Nat) (log : Nat → Int) (cl : Nat) (regs : Int) (i : Ins) : Prop :=
  if i.op = 1 then Reg regs i.a ∧ i.b = 0 ∧ i.c = 0
  else if i.op = 2 then Reg regs i.a ∧ Reg regs i.b ∧ i.c = 0 ∧ i.n = 0
  else if i.op = 3 then Reg regs i.a ∧ Reg regs i.b ∧ Rgn rl i.c
  else if i.op = 4 then Reg regs i.a ∧ Reg regs i.b ∧ Rgn rl i.c
  else if i.op = 5 then Reg regs i.a ∧ i.b = 0 ∧ Rgn rl i.c ∧ Wrd log i.c i.n
  else if i.op = 6 then Reg regs i.a ∧ i.b = 0 ∧ Rgn rl i.c ∧ Wrd log i.c i.n
  else if i.op = 7 then i.a = 0 ∧ i.b = 0 ∧ i.c = 0 ∧ Plc cl i.n
  else if i.op = 8 then Reg regs i.a ∧ Reg regs i.b ∧ (1 ≤ i.c ∧ i.c ≤ 4) ∧ Plc cl i.n
  else if i.op = 9 then Reg regs i.a ∧ i.b = 0 ∧ i.c = 0 ∧ i.n = 0
  else if i.op = 10 then Reg regs i.a ∧ Reg regs i.b ∧ i.c = 0
  else if i.op = 11 then Reg regs i.a ∧ i.b = 0 ∧ i.c = 0 ∧ 1 ≤ i.n ∧ i.n ≤ 64
  else if i.op = 12 then i.a = 0 ∧ i.b = 0 ∧ i.c = 0 ∧ i.n = 0
  else (21 ≤ i.op ∧ i.op ≤ 30) ∧ Reg regs i.a ∧ Reg regs i.b ∧ Reg regs i.c ∧ i.n = 0

def CodeOk (rl : Nat) (log : Nat → Int) (cl : Nat) (ins : Nat → Ins) (most : Nat) (regs : Int) : Prop :=
  1 ≤ cl ∧ cl ≤ most ∧ ∀ i, i < cl → InsOk rl log cl regs (ins i)

/-- B1, with so many instructions and registers at most. -/
def Prg.Ok (p : Prg) (most : Nat) (regs : Int) : Prop := RegionsOk p.rl p.log ∧ CodeOk p.rl p.log p.cl p.ins most regs

theorem InsOk.more {rl : Nat} {log : Nat → Int} {cl : Nat} {r r' : Int} (h : r ≤ r') {i : Ins} (k : InsOk rl log cl r i) : InsOk rl log cl r' i := by
  have up : ∀ x, Reg r x → Reg r' x := fun x hx => ⟨hx.1, Int.lt_of_lt_of_le hx.2 h⟩
  unfold InsOk at k ⊢
  by_cases h1 : i.op = 1
  · rw [if_pos h1] at k ⊢; exact ⟨up _ k.1, k.2⟩
  rw [if_neg h1] at k ⊢
  by_cases h2 : i.op = 2
  · rw [if_pos h2] at k ⊢; exact ⟨up _ k.1, up _ k.2.1, k.2.2⟩
  rw [if_neg h2] at k ⊢
  by_cases h3 : i.op = 3
  · rw [if_pos h3] at k ⊢; exact ⟨up _ k.1, up _ k.2.1, k.2.2⟩
  rw [if_neg h3] at k ⊢
  by_cases h4 : i.op = 4
  · rw [if_pos h4] at k ⊢; exact ⟨up _ k.1, up _ k.2.1, k.2.2⟩
  rw [if_neg h4] at k ⊢
  by_cases h5 : i.op = 5
  · rw [if_pos h5] at k ⊢; exact ⟨up _ k.1, k.2⟩
  rw [if_neg h5] at k ⊢
  by_cases h6 : i.op = 6
  · rw [if_pos h6] at k ⊢; exact ⟨up _ k.1, k.2⟩
  rw [if_neg h6] at k ⊢
  by_cases h7 : i.op = 7
  · rw [if_pos h7] at k ⊢; exact k
  rw [if_neg h7] at k ⊢
  by_cases h8 : i.op = 8
  · rw [if_pos h8] at k ⊢; exact ⟨up _ k.1, up _ k.2.1, k.2.2⟩
  rw [if_neg h8] at k ⊢
  by_cases h9 : i.op = 9
  · rw [if_pos h9] at k ⊢; exact ⟨up _ k.1, k.2⟩
  rw [if_neg h9] at k ⊢
  by_cases h10 : i.op = 10
  · rw [if_pos h10] at k ⊢; exact ⟨up _ k.1, up _ k.2.1, k.2.2⟩
  rw [if_neg h10] at k ⊢
  by_cases h11 : i.op = 11
  · rw [if_pos h11] at k ⊢; exact ⟨up _ k.1, k.2⟩
  rw [if_neg h11] at k ⊢
  by_cases h12 : i.op = 12
  · rw [if_pos h12] at k ⊢; exact k
  rw [if_neg h12] at k ⊢
  exact ⟨k.1, up _ k.2.1, up _ k.2.2.1, up _ k.2.2.2.1, k.2.2.2.2⟩

/-- Each program that may be is hard. -/
theorem Prg.Ok.hard {p : Prg} (h : p.Ok 200 8) : p.Ok 8000 10 :=
  ⟨h.1, h.2.1, by have := h.2.2.1; omega, fun i hi => (h.2.2.2 i hi).more (by decide)⟩

/-! ### Programs in memory -/
def RegsAt (w : World) (b o rl : Nat) (log : Nat → Int) (sec : Nat → Bool) : Prop :=
  ∀ i, i < rl → w.cell? ⟨b, o + i * 2, none⟩ = some (.int .i64 (log i)) ∧ w.cell? ⟨b, o + i * 2 + 1, none⟩ = some (.bool (sec i))
def CodeAt (w : World) (b o cl : Nat) (ins : Nat → Ins) : Prop :=
  ∀ i, i < cl → w.cell? ⟨b, o + i * 5, none⟩ = some (.int .i64 (ins i).op) ∧ w.cell? ⟨b, o + i * 5 + 1, none⟩ = some (.int .i64 (ins i).a) ∧ w.cell? ⟨b, o + i * 5 + 2, none⟩ = some (.int .i64 (ins i).b) ∧
    w.cell? ⟨b, o + i * 5 + 3, none⟩ = some (.int .i64 (ins i).c) ∧ w.cell? ⟨b, o + i * 5 + 4, none⟩ = some (.int .i64 (ins i).n)

theorem RegsAt.more {w w' : World} (m : More w w') {b o rl : Nat} {log : Nat → Int} {sec : Nat → Bool} (h : RegsAt w b o rl log sec) : RegsAt w' b o rl log sec :=
  fun i hi => ⟨m.cell (h i hi).1, m.cell (h i hi).2⟩
theorem CodeAt.more {w w' : World} (m : More w w') {b o cl : Nat} {ins : Nat → Ins} (h : CodeAt w b o cl ins) : CodeAt w' b o cl ins :=
  fun i hi => ⟨m.cell (h i hi).1, m.cell (h i hi).2.1, m.cell (h i hi).2.2.1, m.cell (h i hi).2.2.2.1, m.cell (h i hi).2.2.2.2⟩

/-- Where a program lies: the two slices' addresses (also as numbers, where there is an element) and capacities. -/
structure Loc where
  ra : Option Addr
  rb : Nat
  ro : Nat
  rc : Nat
  ca : Option Addr
  cb : Nat
  co : Nat
  cc : Nat

structure PIn (w : World) (p : Prg) (l : Loc) : Prop where
  hr : 0 < p.rl → l.ra = some ⟨l.rb, l.ro, none⟩
  hc : 0 < p.cl → l.ca = some ⟨l.cb, l.co, none⟩
  regs : RegsAt w l.rb l.ro p.rl p.log p.sec
  code : CodeAt w l.cb l.co p.cl p.ins

theorem PIn.more {w w' : World} (m : More w w') {p : Prg} {l : Loc} (h : PIn w p l) : PIn w' p l := ⟨h.hr, h.hc, h.regs.more m, h.code.more m⟩

def Blw (n e : Int) : Prop := 0 ≤ n ∧ n < e
def Btw (a b c : Int) : Prop := a ≤ c ∧ c ≤ b

/-- How many words a region has. -/
def wordsI (l : Int) : Int := 2 ^ l.toNat

theorem two_pow_le {k : Nat} (h : k ≤ 6) : (1 : Int) ≤ 2 ^ k ∧ (2 : Int) ^ k ≤ 64 := by
  have : k = 0 ∨ k = 1 ∨ k = 2 ∨ k = 3 ∨ k = 4 ∨ k = 5 ∨ k = 6 := by omega
  rcases this with rfl | rfl | rfl | rfl | rfl | rfl | rfl <;> decide

theorem Says.is_yes {P : Prop} (h : P) {w : World} {e : Ending} {w' : World} (s : Says P w e w') : e = .returned (.bool true) ∧ More w w' := by
  obtain ⟨r, rfl, hr, m⟩ := s
  cases r
  · simpa using hr.2 h
  · exact ⟨rfl, m⟩
theorem Says.is_no {P : Prop} (h : ¬ P) {w : World} {e : Ending} {w' : World} (s : Says P w e w') : e = .returned (.bool false) ∧ More w w' := by
  obtain ⟨r, rfl, hr, m⟩ := s
  cases r
  · exact ⟨rfl, m⟩
  · exact absurd (hr.1 rfl) h

/-- A memory: lists, by where they lie and how long they are. -/
def ListsAt (w : World) (b o ml : Nat) (A : Nat → Option Addr) (L C : Nat → Nat) : Prop := ∀ i, i < ml → w.cell? ⟨b, o + i, none⟩ = some (.slice (A i) (L i) (C i))
theorem ListsAt.more {w w' : World} (m : More w w') {b o ml : Nat} {A : Nat → Option Addr} {L C : Nat → Nat} (h : ListsAt w b o ml A L C) : ListsAt w' b o ml A L C := fun i hi => m.cell (h i hi)

/-- B2. -/
def FitsOk (rl : Nat) (log : Nat → Int) (ml : Nat) (L : Nat → Nat) : Prop := RegionsOk rl log ∧ ml = rl ∧ ∀ i, i < rl → (L i : Int) = wordsI (log i)

end Go.Proofs.Ytbfhchhggkpbdaa

/-
  What is shown, and memories, as data; and how they lie in memory. No Go text in sight.
-/
namespace Go.Proofs.Ytbfhchhggkpbdaa
open Go.RowKit

/-- Something that can be watched. -/
structure Se where
  kind : Int
  a : Int
  b : Int

def SeesAt (w : World) (b o : Nat) (l : List Se) : Prop :=
  ∀ i s, l[i]? = some s → w.cell? ⟨b, o + i * 3, none⟩ = some (.int .i64 s.kind) ∧ w.cell? ⟨b, o + i * 3 + 1, none⟩ = some (.int .i64 s.a) ∧ w.cell? ⟨b, o + i * 3 + 2, none⟩ = some (.int .i64 s.b)
theorem SeesAt.more {w w' : World} (m : More w w') {b o : Nat} {l : List Se} (h : SeesAt w b o l) : SeesAt w' b o l :=
  fun i s hs => ⟨m.cell (h i s hs).1, m.cell (h i s hs).2.1, m.cell (h i s hs).2.2⟩

/-- A slice of what was shown. -/
def SeenAt (w : World) (v : Value) (l : List Se) : Prop :=
  ∃ (a : Option Addr) (b o c : Nat), v = .slice a l.length c ∧ (0 < l.length → a = some ⟨b, o, none⟩) ∧ SeesAt w b o l ∧ l.length < 4611686018427387904
theorem SeenAt.more {w w' : World} (m : More w w') {v : Value} {l : List Se} (h : SeenAt w v l) : SeenAt w' v l := by
  obtain ⟨a, b, o, c, e, h1, h2, h3⟩ := h
  exact ⟨a, b, o, c, e, h1, h2.more m, h3⟩

/-- A memory: so many lists, so long, of these words. -/
structure Mem where
  ml : Nat
  len : Nat → Nat
  wd : Nat → Nat → Int
/-- Where a memory lies. -/
structure MLoc where
  ma : Option Addr
  mb : Nat
  mo : Nat
  mc : Nat
  A : Nat → Option Addr
  C : Nat → Nat
  gb : Nat → Nat
  go : Nat → Nat

structure MIn (w : World) (m : Mem) (l : MLoc) : Prop where
  hm : 0 < m.ml → l.ma = some ⟨l.mb, l.mo, none⟩
  lists : ListsAt w l.mb l.mo m.ml l.A m.len l.C
  hg : ∀ i, i < m.ml → 0 < m.len i → l.A i = some ⟨l.gb i, l.go i, none⟩
  words : ∀ i, i < m.ml → ∀ j, j < m.len i → w.cell? ⟨l.gb i, l.go i + j, none⟩ = some (.int .i64 (m.wd i j))
  fitl : m.ml < 4611686018427387904
  fitw : ∀ i, i < m.ml → m.len i < 4611686018427387904
theorem MIn.more {w w' : World} (m : More w w') {x : Mem} {l : MLoc} (h : MIn w x l) : MIn w' x l :=
  ⟨h.hm, h.lists.more m, h.hg, fun i hi j hj => m.cell (h.words i hi j hj), h.fitl, h.fitw⟩

/-- The same words. -/
structure Mem.Like (x y : Mem) : Prop where
  ml : x.ml = y.ml
  len : ∀ i, i < x.ml → x.len i = y.len i
  wd : ∀ i, i < x.ml → ∀ j, j < x.len i → x.wd i j = y.wd i j

/-- What a run shows. -/
structure Sh where
  fin : Int
  val : Int
  steps : Int
  seen : List Se
  mem : Mem

def ShownAt (w : World) (v : Value) (x : Sh) : Prop :=
  ∃ (sv : Value) (l : MLoc), v = .agg #[.int .i64 x.fin, .int .i64 x.val, .int .i64 x.steps, sv, .slice l.ma x.mem.ml l.mc] ∧ SeenAt w sv x.seen ∧ MIn w x.mem l
theorem ShownAt.more {w w' : World} (m : More w w') {v : Value} {x : Sh} (h : ShownAt w v x) : ShownAt w' v x := by
  obtain ⟨sv, l, e, h1, h2⟩ := h
  exact ⟨sv, l, e, h1.more m, h2.more m⟩

end Go.Proofs.Ytbfhchhggkpbdaa

/-
  Plain arithmetic, no Go in sight: what the ten operations and the four conditions of package num come to, as functions of whole numbers, and the laws on them that the three statements want.
-/
namespace Go.Proofs.Ytbfhchhggkpbdaa
open Go.RowKit

/-- A number of 64 bits, taken from 0 on. -/
def toU (a : Int) : Nat := (a % 18446744073709551616).toNat

theorem toU_cast (a : Int) : ((toU a : Nat) : Int) = a % 18446744073709551616 := by unfold toU; omega
theorem toU_lt (a : Int) : toU a < 18446744073709551616 := by unfold toU; omega

/-- What an operation makes of two numbers. -/
def opI (op a b : Int) : Int :=
  if op = 1 then wrap64 (a + b)
  else if op = 2 then wrap64 (a - b)
  else if op = 3 then wrap64 (a * b)
  else if op = 4 then wrap64 ((toU a &&& toU b : Nat) : Int)
  else if op = 5 then wrap64 ((toU a ||| toU b : Nat) : Int)
  else if op = 6 then wrap64 ((toU a ^^^ toU b : Nat) : Int)
  else if op = 7 then wrap64 ((toU a * 2 ^ (toU b % 64) : Nat) : Int)
  else if op = 8 then wrap64 ((toU a / 2 ^ (toU b % 64) : Nat) : Int)
  else if op = 9 then wrap64 ((toU a / toU b : Nat) : Int)
  else if op = 10 then wrap64 ((toU a % toU b : Nat) : Int)
  else 0

/-- Whether two numbers are as a condition says. -/
def holdsI (c a b : Int) : Bool :=
  if c = 1 then toU a == toU b
  else if c = 2 then toU a != toU b
  else if c = 3 then decide (toU a < toU b)
  else if c = 4 then decide (toU b ≤ toU a)
  else false

theorem uwrap (a : Int) : IntKind.u64.wrap a = ((toU a : Nat) : Int) := by rw [IntKind.wrap_u64, toU_cast]

theorem wrap_uwrap (n : Int) : wrap64 (IntKind.u64.wrap n) = wrap64 n := by
  rw [IntKind.wrap_u64]; unfold wrap64; omega

theorem wrap_add (a b : Int) : wrap64 (IntKind.u64.wrap (IntKind.u64.wrap a + IntKind.u64.wrap b)) = wrap64 (a + b) := by
  rw [wrap_uwrap]; simp only [IntKind.wrap_u64]; unfold wrap64; omega
theorem wrap_sub (a b : Int) : wrap64 (IntKind.u64.wrap (IntKind.u64.wrap a - IntKind.u64.wrap b)) = wrap64 (a - b) := by
  rw [wrap_uwrap]; simp only [IntKind.wrap_u64]; unfold wrap64; omega
theorem wrap_mul (a b : Int) : wrap64 (IntKind.u64.wrap (IntKind.u64.wrap a * IntKind.u64.wrap b)) = wrap64 (a * b) := by
  have h : (a % 18446744073709551616 * (b % 18446744073709551616)) % 18446744073709551616 = (a * b) % 18446744073709551616 := by
    rw [← Int.mul_emod]
  rw [wrap_uwrap]; simp only [IntKind.wrap_u64]; unfold wrap64; omega
theorem wrap_and (a b : Int) : wrap64 (bits .and .u64 (IntKind.u64.wrap a) (IntKind.u64.wrap b)) = wrap64 ((toU a &&& toU b : Nat) : Int) := by
  rw [uwrap, uwrap, u64_and_nat _ _ (toU_lt a) (toU_lt b)]
theorem wrap_or (a b : Int) : wrap64 (bits .or .u64 (IntKind.u64.wrap a) (IntKind.u64.wrap b)) = wrap64 ((toU a ||| toU b : Nat) : Int) := by
  rw [uwrap, uwrap, u64_or_nat _ _ (toU_lt a) (toU_lt b)]
theorem wrap_xor (a b : Int) : wrap64 (bits .xor .u64 (IntKind.u64.wrap a) (IntKind.u64.wrap b)) = wrap64 ((toU a ^^^ toU b : Nat) : Int) := by
  rw [uwrap, uwrap, u64_xor_nat _ _ (toU_lt a) (toU_lt b)]
theorem and63 (y : Int) : bits BinOp.and IntKind.u64 (IntKind.u64.wrap y) 63 = ((toU y % 64 : Nat) : Int) := by
  have h := u64_and_nat (toU y) 63 (toU_lt y) (by decide)
  rw [uwrap]
  exact h.trans (by rw [nat_mask6])
theorem wrap_shl (a : Int) (k : Nat) : wrap64 (IntKind.u64.wrap (IntKind.u64.wrap a * 2 ^ k)) = wrap64 ((toU a * 2 ^ k : Nat) : Int) := by
  rw [wrap_uwrap, uwrap]; push_cast; rfl
theorem wrap_shr (a : Int) (k : Nat) : wrap64 (IntKind.u64.wrap a / 2 ^ k) = wrap64 ((toU a / 2 ^ k : Nat) : Int) := by
  rw [uwrap]; push_cast; rfl
theorem wrap_quo (a b : Int) : wrap64 (IntKind.u64.wrap ((IntKind.u64.wrap a).tdiv (IntKind.u64.wrap b))) = wrap64 ((toU a / toU b : Nat) : Int) := by
  rw [wrap_uwrap, uwrap, uwrap, Int.ofNat_tdiv]
theorem wrap_rem (a b : Int) : wrap64 ((IntKind.u64.wrap a).tmod (IntKind.u64.wrap b)) = wrap64 ((toU a % toU b : Nat) : Int) := by
  rw [uwrap, uwrap, Int.ofNat_tmod]
theorem quo_zero (a b : Int) (h : toU b = 0) : (0 : Int) = wrap64 ((toU a / toU b : Nat) : Int) := by
  rw [h, Nat.div_zero]; unfold wrap64; omega
theorem rem_zero (a b : Int) (h : toU b = 0) : wrap64 (IntKind.u64.wrap a) = wrap64 ((toU a % toU b : Nat) : Int) := by
  rw [h, Nat.mod_zero, uwrap]

theorem holdsI_1 (a b : Int) : holdsI 1 a b = (IntKind.u64.wrap a == IntKind.u64.wrap b) := by
  have h := toU_cast a; have h' := toU_cast b
  simp only [holdsI, IntKind.wrap_u64]
  rw [Bool.eq_iff_iff]; simp; omega
theorem holdsI_2 (a b : Int) : holdsI 2 a b = (IntKind.u64.wrap a != IntKind.u64.wrap b) := by
  have h := toU_cast a; have h' := toU_cast b
  simp only [holdsI, IntKind.wrap_u64]
  rw [Bool.eq_iff_iff]; simp; omega
theorem holdsI_3 (a b : Int) : holdsI 3 a b = decide (IntKind.u64.wrap a < IntKind.u64.wrap b) := by
  have h := toU_cast a; have h' := toU_cast b
  simp only [holdsI, IntKind.wrap_u64]
  rw [Bool.eq_iff_iff]; simp; omega
theorem holdsI_4 (a b : Int) : holdsI 4 a b = decide (IntKind.u64.wrap b ≤ IntKind.u64.wrap a) := by
  have h := toU_cast a; have h' := toU_cast b
  simp only [holdsI, IntKind.wrap_u64]
  rw [Bool.eq_iff_iff]; simp; omega

theorem opI_1 (a b : Int) : opI 1 a b = wrap64 (a + b) := by simp [opI]
theorem opI_2 (a b : Int) : opI 2 a b = wrap64 (a - b) := by simp [opI]
theorem opI_3 (a b : Int) : opI 3 a b = wrap64 (a * b) := by simp [opI]
theorem opI_4 (a b : Int) : opI 4 a b = wrap64 ((toU a &&& toU b : Nat) : Int) := by simp [opI]
theorem opI_5 (a b : Int) : opI 5 a b = wrap64 ((toU a ||| toU b : Nat) : Int) := by simp [opI]
theorem opI_6 (a b : Int) : opI 6 a b = wrap64 ((toU a ^^^ toU b : Nat) : Int) := by simp [opI]
theorem opI_7 (a b : Int) : opI 7 a b = wrap64 ((toU a * 2 ^ (toU b % 64) : Nat) : Int) := by simp [opI]
theorem opI_8 (a b : Int) : opI 8 a b = wrap64 ((toU a / 2 ^ (toU b % 64) : Nat) : Int) := by simp [opI]
theorem opI_9 (a b : Int) : opI 9 a b = wrap64 ((toU a / toU b : Nat) : Int) := by simp [opI]
theorem opI_10 (a b : Int) : opI 10 a b = wrap64 ((toU a % toU b : Nat) : Int) := by simp [opI]

end Go.Proofs.Ytbfhchhggkpbdaa

/-
  What chapter 3 says of a run, on plain data: a step, and so many of them. No Go text in sight.
-/
namespace Go.Proofs.Ytbfhchhggkpbdaa
open Go.RowKit

def B64 (x : Int) : Prop := -9223372036854775808 ≤ x ∧ x ≤ 9223372036854775807
theorem B64_wrap (x : Int) : B64 (wrap64 x) := by unfold B64 wrap64; omega
theorem B64_zero : B64 0 := by unfold B64; omega

def setR (r : Nat → Int) (a v : Int) : Nat → Int := fun j => if j = a.toNat then v else r j
def setW (m : Mem) (c i : Nat) (v : Int) : Mem := ⟨m.ml, m.len, fun x y => if x = c ∧ y = i then v else m.wd x y⟩

/-- How many words the regions ahead of one have. -/
def baseI (log : Nat → Int) : Nat → Int
  | 0 => 0
  | k + 1 => baseI log k + wordsI (log k)

/-- An instruction of registers alone: the registers behind it, and what it shows beside its step. -/
def regsI (r : Nat → Int) (i : Ins) : (Nat → Int) × List Se :=
  if i.op = 1 then (setR r i.a i.n, [])
  else if i.op = 2 then (setR r i.a (r i.b.toNat), [])
  else if i.op = 10 then (setR r i.a (wrap64 (r i.b.toNat + i.n)), [])
  else if i.op = 11 then (if r i.a.toNat < 0 ∨ i.n ≤ r i.a.toNat then setR r i.a 0 else r, [])
  else if i.op = 12 then (r, [])
  else (setR r i.a (opI (i.op - 20) (r i.b.toNat) (r i.c.toNat)), if i.op = 29 ∨ i.op = 30 then [⟨3, r i.b.toNat, r i.c.toNat⟩] else [])

def putI (i : Ins) : Int := if i.op = 3 ∨ i.op = 5 then 0 else if i.op = 4 ∨ i.op = 6 then 1 else -1
def idxI (r : Nat → Int) (i : Ins) : Int := if i.op = 5 ∨ i.op = 6 then i.n else wrap64 (r i.b.toNat + i.n)

/-- Where a run stands. -/
structure St where
  at_ : Nat
  r : Nat → Int
  m : Mem
  seen : List Se

/-- One step of an instruction that is there: the state behind it; how the run ends with it, if it does, and its value. -/
def stepI (p : Prg) (s : St) : St × Option (Int × Int) :=
  if (p.ins s.at_).op = 7 then (⟨(p.ins s.at_).n.toNat, s.r, s.m, s.seen ++ [⟨1, s.at_, 0⟩]⟩, none)
  else if (p.ins s.at_).op = 8 then
    (⟨if holdsI (p.ins s.at_).c (s.r (p.ins s.at_).a.toNat) (s.r (p.ins s.at_).b.toNat) = true then (p.ins s.at_).n.toNat else s.at_ + 1, s.r, s.m, s.seen ++ [⟨1, s.at_, 0⟩]⟩, none)
  else if (p.ins s.at_).op = 9 then (⟨s.at_ + 1, s.r, s.m, s.seen ++ [⟨1, s.at_, 0⟩]⟩, some (1, s.r (p.ins s.at_).a.toNat))
  else if 0 ≤ putI (p.ins s.at_) then
    if idxI s.r (p.ins s.at_) < 0 ∨ (s.m.len (p.ins s.at_).c.toNat : Int) ≤ idxI s.r (p.ins s.at_) then (⟨s.at_ + 1, s.r, s.m, s.seen ++ [⟨1, s.at_, 0⟩]⟩, some (2, 0))
    else if putI (p.ins s.at_) = 1 then
      (⟨s.at_ + 1, s.r, setW s.m (p.ins s.at_).c.toNat (idxI s.r (p.ins s.at_)).toNat (s.r (p.ins s.at_).a.toNat),
        s.seen ++ [⟨1, s.at_, 0⟩] ++ [⟨2, baseI p.log (p.ins s.at_).c.toNat + idxI s.r (p.ins s.at_), 1⟩]⟩, none)
    else
      (⟨s.at_ + 1, setR s.r (p.ins s.at_).a (s.m.wd (p.ins s.at_).c.toNat (idxI s.r (p.ins s.at_)).toNat), s.m,
        s.seen ++ [⟨1, s.at_, 0⟩] ++ [⟨2, baseI p.log (p.ins s.at_).c.toNat + idxI s.r (p.ins s.at_), 0⟩]⟩, none)
  else (⟨s.at_ + 1, (regsI s.r (p.ins s.at_)).1, s.m, s.seen ++ [⟨1, s.at_, 0⟩] ++ (regsI s.r (p.ins s.at_)).2⟩, none)

/-- So many steps more, behind k of them. -/
def runI (p : Prg) : Nat → Nat → St → Sh
  | 0, k, s => ⟨0, 0, k, s.seen, s.m⟩
  | f + 1, k, s =>
    if p.cl ≤ s.at_ then ⟨2, 0, k, s.seen, s.m⟩
    else match (stepI p s).2 with
      | some e => ⟨e.1, e.2, (k : Int) + 1, (stepI p s).1.seen, (stepI p s).1.m⟩
      | none => runI p f (k + 1) (stepI p s).1

/-- The run, from the first instruction on. -/
def playI (p : Prg) (m : Mem) (fuel : Nat) : Sh := runI p fuel 0 ⟨0, fun _ => 0, m, []⟩

/-! ### Registers in memory -/
def RegsR (w : World) (g : Nat) (r : Nat → Int) : Prop := ∀ j, j < 10 → w.cell? ⟨g, j, none⟩ = some (.int .i64 (r j)) ∧ w.frozen? ⟨g, j, none⟩ = false

theorem frozen_kept {w w' : World} {row : Option Nat} (hg : w.grownBy w' row) {a : Addr} {v : Value} (h : w.cell? a = some v) (hne : some a.block ≠ row) : w'.frozen? a = w.frozen? a :=
  World.frozen?_of_block (hg.block a.block (cell_block h) hne)
theorem RegsR.kept {w w' : World} {row : Option Nat} (hg : w.grownBy w' row) {g : Nat} {r : Nat → Int} (h : RegsR w g r) (hne : some g ≠ row) : RegsR w' g r :=
  fun j hj => ⟨hg.cell (h j hj).1 hne, (frozen_kept hg (h j hj).1 hne).trans (h j hj).2⟩
theorem grown_drew (w : World) (row : Option Nat) : w.grownBy w.drew row := ⟨rfl, rfl, rfl, Nat.le_refl _, fun _ _ _ => rfl⟩
theorem grown_refl (w : World) (row : Option Nat) : w.grownBy w row := ⟨rfl, rfl, rfl, Nat.le_refl _, fun _ _ _ => rfl⟩
theorem grown_set (w : World) (g o : Nat) (v : Value) : w.grownBy (w.setCell ⟨g, o, none⟩ v) (some g) :=
  ⟨rfl, rfl, rfl, by simp [World.setCell], fun k _ hne => Below.heap_setCell _ _ _ _ (by simpa using hne)⟩
theorem grown_trans {a b c : World} {row : Option Nat} (h : a.grownBy b row) (k : b.grownBy c row) : a.grownBy c row :=
  ⟨k.os.trans h.os, k.tape.trans h.tape, k.output.trans h.output, Nat.le_trans h.size k.size, fun i hi hne => (k.block i (Nat.lt_of_lt_of_le hi h.size) hne).trans (h.block i hi hne)⟩
theorem More.grow {w w' : World} (h : More w w') (row : Option Nat) : w.grownBy w' row := ⟨Below.os h, Below.tape h, Below.output h, Below.size h, fun k hk _ => Below.block h k hk⟩

theorem RegsR.set {w : World} {g : Nat} {r : Nat → Int} (h : RegsR w g r) (a v : Int) : RegsR (w.setCell ⟨g, a.toNat, none⟩ (.int .i64 v)) g (setR r a v) := by
  intro j hj
  refine ⟨?_, by rw [World.frozen?_setCell]; exact (h j hj).2⟩
  unfold setR
  by_cases e : j = a.toNat
  · subst e
    rw [if_pos rfl]
    exact World.cell?_setCell_same _ _ _ (h _ hj).1
  · rw [if_neg e, World.cell?_setCell_other _ _ _ _ (by simp <;> omega)]
    exact (h j hj).1

theorem RegsR.alloc {w : World} {g : Nat} {r : Nat → Int} (h : RegsR w g r) (c : Array Value) (t : TypeId) : RegsR (w.alloc (.cells c t)) g r := h.kept (World.grownBy_alloc w _ none) (by simp)
theorem RegsR.drew {w : World} {g : Nat} {r : Nat → Int} (h : RegsR w g r) : RegsR w.drew g r := h
theorem RegsR.more {w w' : World} (m : More w w') {g : Nat} {r : Nat → Int} (h : RegsR w g r) : RegsR w' g r := h.kept (m.grow none) (by simp)
theorem gr_alloc {w w1 : World} {row : Option Nat} (h : w.grownBy w1 row) (o : Obj) : w.grownBy (w1.alloc o) row := grown_trans h (World.grownBy_alloc w1 o row)
theorem gr_drew {w w1 : World} {row : Option Nat} (h : w.grownBy w1 row) : w.grownBy w1.drew row := grown_trans h (grown_drew w1 row)
theorem gr_set {w w1 : World} {g : Nat} (h : w.grownBy w1 (some g)) (o : Nat) (v : Value) : w.grownBy (w1.setCell ⟨g, o, none⟩ v) (some g) := grown_trans h (grown_set w1 g o v)
theorem gr_more {w w1 w2 : World} {row : Option Nat} (h : w.grownBy w1 row) (m : More w1 w2) : w.grownBy w2 row := grown_trans h (m.grow row)
theorem wrapEq (x : Int) : IntKind.i64.wrap x = wrap64 x := by rw [IntKind.wrap_i64]; unfold wrap64; omega

end Go.Proofs.Ytbfhchhggkpbdaa

/-
  What a step comes to, kind by kind, and a run behind it. No Go text in sight.
-/
namespace Go.Proofs.Ytbfhchhggkpbdaa
open Go.RowKit
set_option linter.unusedVariables false

theorem putI_load {i : Ins} (h : i.op = 3 ∨ i.op = 5) : putI i = 0 := by unfold putI; rw [if_pos h]
theorem putI_put {i : Ins} (h : i.op = 4 ∨ i.op = 6) : putI i = 1 := by unfold putI; rw [if_neg (by omega), if_pos h]
theorem putI_no {i : Ins} (h3 : ¬ i.op = 3) (h4 : ¬ i.op = 4) (h5 : ¬ i.op = 5) (h6 : ¬ i.op = 6) : putI i = -1 := by unfold putI; rw [if_neg (by omega), if_neg (by omega)]

theorem step_out {p : Prg} {s : St} {i : Ins} (hI : p.ins s.at_ = i) (hop : i.op = 3 ∨ i.op = 4 ∨ i.op = 5 ∨ i.op = 6) (hx : idxI s.r i < 0 ∨ (s.m.len i.c.toNat : Int) ≤ idxI s.r i) :
    stepI p s = (⟨s.at_ + 1, s.r, s.m, s.seen ++ [⟨1, s.at_, 0⟩]⟩, some (2, 0)) := by
  subst hI
  have hp : 0 ≤ putI (p.ins s.at_) := by
    rcases hop with h | h | h | h
    · rw [putI_load (.inl h)]; decide
    · rw [putI_put (.inl h)]; decide
    · rw [putI_load (.inr h)]; decide
    · rw [putI_put (.inr h)]; decide
  unfold stepI
  rw [if_neg (by omega), if_neg (by omega), if_neg (by omega), if_pos hp, if_pos hx]

theorem step_put {p : Prg} {s : St} {i : Ins} (hI : p.ins s.at_ = i) (hop : i.op = 4 ∨ i.op = 6) (hx : ¬ (idxI s.r i < 0 ∨ (s.m.len i.c.toNat : Int) ≤ idxI s.r i)) :
    stepI p s = (⟨s.at_ + 1, s.r, setW s.m i.c.toNat (idxI s.r i).toNat (s.r i.a.toNat), s.seen ++ [⟨1, s.at_, 0⟩] ++ [⟨2, baseI p.log i.c.toNat + idxI s.r i, 1⟩]⟩, none) := by
  subst hI
  have hp := putI_put hop
  unfold stepI
  rw [if_neg (by omega), if_neg (by omega), if_neg (by omega), if_pos (by rw [hp]; decide), if_neg hx, if_pos hp]

theorem step_load {p : Prg} {s : St} {i : Ins} (hI : p.ins s.at_ = i) (hop : i.op = 3 ∨ i.op = 5) (hx : ¬ (idxI s.r i < 0 ∨ (s.m.len i.c.toNat : Int) ≤ idxI s.r i)) :
    stepI p s = (⟨s.at_ + 1, setR s.r i.a (s.m.wd i.c.toNat (idxI s.r i).toNat), s.m, s.seen ++ [⟨1, s.at_, 0⟩] ++ [⟨2, baseI p.log i.c.toNat + idxI s.r i, 0⟩]⟩, none) := by
  subst hI
  have hp := putI_load hop
  unfold stepI
  rw [if_neg (by omega), if_neg (by omega), if_neg (by omega), if_pos (by rw [hp]; decide), if_neg hx, if_neg (by rw [hp]; decide)]

theorem step_regs {p : Prg} {s : St} {i : Ins} (hI : p.ins s.at_ = i) (h3 : ¬ i.op = 3) (h4 : ¬ i.op = 4) (h5 : ¬ i.op = 5) (h6 : ¬ i.op = 6) (h7 : ¬ i.op = 7) (h8 : ¬ i.op = 8) (h9 : ¬ i.op = 9) :
    stepI p s = (⟨s.at_ + 1, (regsI s.r i).1, s.m, s.seen ++ [⟨1, s.at_, 0⟩] ++ (regsI s.r i).2⟩, none) := by
  subst hI
  have hp := putI_no h3 h4 h5 h6
  unfold stepI
  rw [if_neg h7, if_neg h8, if_neg h9, if_neg (by rw [hp]; decide)]

theorem run_next {p : Prg} {g k : Nat} {s s' : St} {R : Sh} (h : runI p (g + 1) k s = R) (hat : s.at_ < p.cl) (e : stepI p s = (s', none)) : runI p g (k + 1) s' = R := by
  rw [runI, if_neg (by omega), e] at h
  exact h
theorem run_stop {p : Prg} {g k : Nat} {s s' : St} {R : Sh} {f v : Int} (h : runI p (g + 1) k s = R) (hat : s.at_ < p.cl) (e : stepI p s = (s', some (f, v))) : R = ⟨f, v, (k : Int) + 1, s'.seen, s'.m⟩ := by
  rw [runI, if_neg (by omega), e] at h
  exact h.symm

end Go.Proofs.Ytbfhchhggkpbdaa

/-
  What chapter 4 says of a run with steps ahead of time, on plain data: a step, and so many of them; words by their number among all regions'. No Go text in sight.
-/
namespace Go.Proofs.Ytbfhchhggkpbdaa
open Go.RowKit
set_option linter.unusedVariables false

/-- A place: the next instruction, registers, words, what each was (the eldest first). -/
structure Pl where
  at_ : Nat
  r : Nat → Int
  wd : Nat → Int
  past : Nat → List Int

/-- Where a run stands: the place, the one to come back to (where it is ahead of time), the steps since the choice, the choices that are left, what was shown. -/
structure Sp where
  pl : Pl
  ahead : Bool
  since : Int
  back : Pl
  script : List Int
  seen : List Se

def setF {α : Type} (f : Nat → α) (k : Nat) (v : α) : Nat → α := fun j => if j = k then v else f j
def Sp.choice (s : Sp) : Int := s.script.headD 0
/-- D3: where the run is now is the place to come back to. -/
def Sp.leave (s : Sp) : Sp := if s.ahead = true then s else { s with ahead := true, since := -1, back := s.pl }
/-- D4: it is taken back. -/
def Sp.returns (s : Sp) : Sp := { s with seen := s.seen ++ [⟨4, 0, 0⟩], ahead := false, pl := s.back }
/-- How many words a program's regions have in all. -/
def allI (p : Prg) : Int := baseI p.log p.rl

def Sp.see (s : Sp) (x : Se) : Sp := { s with seen := s.seen ++ [x] }
def Sp.go (s : Sp) (n : Nat) : Sp := { s with pl := { s.pl with at_ := n } }
def Sp.reg (s : Sp) (a v : Int) : Sp := { s with pl := { s.pl with r := setR s.pl.r a v } }

/-- A word is taken or put, whose number is n. -/
def wordS (p : Prg) (s : Sp) (i : Ins) (n : Int) : Sp :=
  if n < 0 ∨ allI p ≤ n then (if putI i = 0 then s.reg i.a 0 else s)
  else if putI i = 1 then { s with pl := { s.pl with past := setF s.pl.past n.toNat (s.pl.past n.toNat ++ [s.pl.wd n.toNat]), wd := setF s.pl.wd n.toNat (s.pl.r i.a.toNat) } }
  else
    if 0 < s.choice ∧ s.choice ≤ ((s.pl.past n.toNat).length : Int) then
      (({ s with script := s.script.tail }.reg i.a (s.pl.wd n.toNat)).leave).reg i.a ((s.pl.past n.toNat).getD ((s.pl.past n.toNat).length - s.choice.toNat) 0)
    else { s with script := s.script.tail }.reg i.a (s.pl.wd n.toNat)

/-- An instruction: the state behind it, whether it is taken back at once if it is ahead of time, how the run ends with it, if it does. -/
def stepS (p : Prg) (s : Sp) : Sp × Bool × Option (Int × Int) :=
  if (p.ins s.pl.at_).op = 7 then (((s.see ⟨1, s.pl.at_, 0⟩).go (p.ins s.pl.at_).n.toNat), false, none)
  else if (p.ins s.pl.at_).op = 8 then
    (if holdsI (p.ins s.pl.at_).c (s.pl.r (p.ins s.pl.at_).a.toNat) (s.pl.r (p.ins s.pl.at_).b.toNat) = true then
      (if s.choice = 0 then { (s.see ⟨1, s.pl.at_, 0⟩).go (p.ins s.pl.at_).n.toNat with script := s.script.tail } else ({ (s.see ⟨1, s.pl.at_, 0⟩).go (p.ins s.pl.at_).n.toNat with script := s.script.tail }.leave).go (s.pl.at_ + 1), false, none)
    else
      (if s.choice = 0 then { (s.see ⟨1, s.pl.at_, 0⟩).go (s.pl.at_ + 1) with script := s.script.tail } else ({ (s.see ⟨1, s.pl.at_, 0⟩).go (s.pl.at_ + 1) with script := s.script.tail }.leave).go (p.ins s.pl.at_).n.toNat, false, none))
  else if (p.ins s.pl.at_).op = 9 ∧ s.ahead = false then (s.see ⟨1, s.pl.at_, 0⟩, false, some (1, s.pl.r (p.ins s.pl.at_).a.toNat))
  else if (p.ins s.pl.at_).op = 9 ∨ (p.ins s.pl.at_).op = 12 then ((s.see ⟨1, s.pl.at_, 0⟩).go (s.pl.at_ + 1), true, none)
  else if 0 ≤ putI (p.ins s.pl.at_) then
    if s.ahead = false ∧ (idxI s.pl.r (p.ins s.pl.at_) < 0 ∨ wordsI (p.log (p.ins s.pl.at_).c.toNat) ≤ idxI s.pl.r (p.ins s.pl.at_)) then (s.see ⟨1, s.pl.at_, 0⟩, false, some (2, 0))
    else (wordS p (((s.see ⟨1, s.pl.at_, 0⟩).see ⟨2, wrap64 (baseI p.log (p.ins s.pl.at_).c.toNat + idxI s.pl.r (p.ins s.pl.at_)), putI (p.ins s.pl.at_)⟩).go (s.pl.at_ + 1)) (p.ins s.pl.at_) (wrap64 (baseI p.log (p.ins s.pl.at_).c.toNat + idxI s.pl.r (p.ins s.pl.at_))), false, none)
  else ({ (s.see ⟨1, s.pl.at_, 0⟩).go (s.pl.at_ + 1) with pl := ⟨s.pl.at_ + 1, (regsI s.pl.r (p.ins s.pl.at_)).1, s.pl.wd, s.pl.past⟩, seen := s.seen ++ [⟨1, s.pl.at_, 0⟩] ++ (regsI s.pl.r (p.ins s.pl.at_)).2 }, false, none)

/-- Behind a step: one more since the choice, and taken back if it is time (D4). -/
def Sp.after (s : Sp) (over : Bool) : Sp :=
  if s.ahead = true then (if over = true ∨ s.since + 1 = 12 then ({ s with since := s.since + 1 }).returns else { s with since := s.since + 1 }) else s

/-- What a run tells: how it ends, its value, its steps, what was shown, and the words. -/
structure ShF where
  fin : Int
  val : Int
  steps : Int
  seen : List Se
  wd : Nat → Int

/-- Where no instruction is left, ahead of time, it is taken back. -/
def Sp.noneLeft (s : Sp) (cl : Nat) : Sp := if cl ≤ s.pl.at_ ∧ s.ahead = true then s.returns else s
def Sp.real (s : Sp) : Pl := if s.ahead = true then s.back else s.pl

/-- So many steps more, behind k of them. -/
def runS (p : Prg) : Nat → Nat → Sp → ShF
  | 0, k, s => ⟨0, 0, k, s.seen, s.real.wd⟩
  | f + 1, k, s =>
    if p.cl ≤ (s.noneLeft p.cl).pl.at_ then ⟨2, 0, k, (s.noneLeft p.cl).seen, (s.noneLeft p.cl).real.wd⟩
    else match (stepS p (s.noneLeft p.cl)).2.2 with
      | some e => ⟨e.1, e.2, (k : Int) + 1, (stepS p (s.noneLeft p.cl)).1.seen, (stepS p (s.noneLeft p.cl)).1.real.wd⟩
      | none => runS p f (k + 1) ((stepS p (s.noneLeft p.cl)).1.after (stepS p (s.noneLeft p.cl)).2.1)

/-- The run, from the first instruction on. -/
def playS (p : Prg) (wd : Nat → Int) (script : List Int) (fuel : Nat) : ShF := runS p fuel 0 ⟨⟨0, fun _ => 0, wd, fun _ => []⟩, false, 0, ⟨0, fun _ => 0, wd, fun _ => []⟩, script, []⟩

end Go.Proofs.Ytbfhchhggkpbdaa

/-
  What the reference's Copy comes to: the same words, in rows of their own.
-/
namespace Go.Proofs.Ytbfhchhggkpbdaa
open Go.RowKit
set_option linter.unusedVariables false

theorem info2 : (Try.prog.info? 2).map (fun i => (i.zero, i.size, i.bytes)) = some (some (.int .i64 0), 1, 8) := by kernel_rfl
theorem info43 : (Try.prog.info? 67).map (fun i => (i.zero, i.size, i.bytes)) = some (some (.slice none 0 0), 1, 24) := by kernel_rfl

/-- The words of a list, as cells. -/
def wordsL (m : Mem) (j : Nat) : List Value := (List.range (m.len j)).map fun i => .int .i64 (m.wd j i)
theorem wordsL_length (m : Mem) (j : Nat) : (wordsL m j).length = m.len j := by simp [wordsL]
theorem wordsL_one (m : Mem) (j : Nat) : ∀ u ∈ wordsL m j, u.oneCell' = true := by
  intro u hu
  simp only [wordsL, List.mem_map] at hu
  obtain ⟨i, _, rfl⟩ := hu
  rfl
theorem wordsL_at (m : Mem) (j i : Nat) (h : i < m.len j) : (wordsL m j)[i]? = some (.int .i64 (m.wd j i)) := by simp [wordsL, h]

/-- So many lists have been copied. -/
structure CpAt (w : World) (base : Nat) (m : Mem) (k : Nat) (v : Value) (G C : Nat → Nat) : Prop where
  own : w.ownsRow base 67 1 v k ((List.range k).map fun j => .slice (some ⟨G j, 0, none⟩) (m.len j) (C j))
  row : ∀ j, j < k → w.ownsRow base 2 1 (.slice (some ⟨G j, 0, none⟩) (m.len j) (C j)) (m.len j) (wordsL m j)
  apart : ∀ j, j < k → v.ownBlock ≠ some (G j)
  apart2 : ∀ j j', j < k → j' < k → j ≠ j' → G j ≠ G j'

theorem CpAt.start (w : World) (base : Nat) (m : Mem) : CpAt w base m 0 (.slice none 0 0) (fun _ => 0) (fun _ => 0) :=
  ⟨World.ownsRow_nil _ _ _ _, fun j hj => absurd hj (Nat.not_lt_zero _), fun j hj => absurd hj (Nat.not_lt_zero _), fun j j' hj => absurd hj (Nat.not_lt_zero _)⟩

theorem CpAt.lt {w : World} {base : Nat} {m : Mem} {k : Nat} {v : Value} {G C : Nat → Nat} (c : CpAt w base m k v G C) (j : Nat) (hj : j < k) : G j < w.heap.size := ((c.row j hj).lt _ rfl).2

theorem CpAt.own3 {wr w2 : World} {base : Nat} {m : Mem} {k : Nat} {v : Value} {G C : Nat → Nat} (c : CpAt wr base m k v G C) (o o3 : Obj) (gr2 : (wr.alloc o).grownBy w2 (some wr.heap.size)) :
    (w2.alloc o3).ownsRow base 67 1 v k ((List.range k).map fun j => .slice (some ⟨G j, 0, none⟩) (m.len j) (C j)) :=
  ((c.own.alloc o).kept gr2 (by
    cases hb : v.ownBlock with
    | none => left; rfl
    | some b => right; have := (c.own.lt b hb).2; simp; omega)).alloc o3

theorem CpAt.step {wr w2 w4 : World} {base : Nat} {m : Mem} {k : Nat} {v : Value} {G C : Nat → Nat} (c : CpAt wr base m k v G C) (o o3 : Obj) (g cap g2 cap2 : Nat)
    (own2 : w2.ownsRow base 2 1 (.slice (some ⟨g, 0, none⟩) (m.len k) cap) (m.len k) (wordsL m k)) (gr2 : (wr.alloc o).grownBy w2 (some wr.heap.size)) (hg : wr.heap.size ≤ g)
    (own4 : w4.ownsRow base 67 1 (.slice (some ⟨g2, 0, none⟩) (k + 1) cap2) (k + 1) (((List.range k).map fun j => .slice (some ⟨G j, 0, none⟩) (m.len j) (C j)) ++ [.slice (some ⟨g, 0, none⟩) (m.len k) cap]))
    (gr4 : (w2.alloc o3).grownBy w4 v.ownBlock) (hat : v.ownBlock = some g2 ∨ g2 = w2.heap.size + 1) :
    CpAt w4 base m (k + 1) (.slice (some ⟨g2, 0, none⟩) (k + 1) cap2) (fun j => if j = k then g else G j) (fun j => if j = k then cap else C j) := by
  have hs1 : wr.heap.size + 1 ≤ w2.heap.size := by have := gr2.size; simpa using this
  have hgl : g < w2.heap.size := ((own2.lt _ rfl).2)
  have hvl : ∀ b, v.ownBlock = some b → b < wr.heap.size := fun b hb => ((c.own.lt b hb).2)
  refine ⟨?_, fun j hj => ?_, fun j hj => ?_, fun j j' hj hj' hne => ?_⟩
  · have e : ((List.range (k + 1)).map fun j => (Value.slice (some ⟨(if j = k then g else G j), 0, none⟩) (m.len j) (if j = k then cap else C j)))
        = ((List.range k).map fun j => (Value.slice (some ⟨G j, 0, none⟩) (m.len j) (C j))) ++ [.slice (some ⟨g, 0, none⟩) (m.len k) cap] := by
      rw [List.range_succ, List.map_append]
      congr 1
      · refine List.map_congr_left fun j hj => ?_
        have : j ≠ k := by have := List.mem_range.1 hj; omega
        simp [this]
      · simp
    rw [e]
    exact own4
  · by_cases e : j = k
    · subst e
      simp only [if_true]
      exact (own2.alloc o3).kept gr4 (by
        cases hb : v.ownBlock with
        | none => right; simp [Value.ownBlock]
        | some b => right; have := hvl b hb; simp [Value.ownBlock]; omega)
    · simp only [e, if_false]
      have hj' : j < k := by omega
      have hl := c.lt j hj'
      refine ((((c.row j hj').alloc o).kept gr2 (by right; simp [Value.ownBlock]; omega)).alloc o3).kept gr4 (by right; simp only [Value.ownBlock]; exact fun h => c.apart j hj' h.symm)
  · simp only [Value.ownBlock]
    intro h
    simp only [Option.some.injEq] at h
    by_cases e : j = k
    · simp only [e, if_true] at h
      rcases hat with h1 | h1
      · have := hvl g2 h1; omega
      · omega
    · simp only [e, if_false] at h
      have hj' : j < k := by omega
      rcases hat with h1 | h1
      · exact c.apart j hj' (by rw [h1, h])
      · have := c.lt j hj'; omega
  · by_cases e : j = k
    · by_cases e' : j' = k
      · omega
      · simp only [e, e', if_true, if_false]
        have := c.lt j' (by omega)
        omega
    · by_cases e' : j' = k
      · simp only [e, e', if_true, if_false]
        have := c.lt j (by omega)
        omega
      · simp only [e, e', if_false]
        exact c.apart2 j j' (by omega) (by omega) hne

set_option maxHeartbeats 1000000 in
theorem ref_copy (m : Mem) (l : MLoc) (w : World) (h : MIn w m l) (hl : m.ml ≤ 6) (hw : ∀ i, i < m.ml → 0 < m.len i ∧ m.len i ≤ 64) :
    Calls Try.prog 51 #[.slice l.ma m.ml l.mc] w fun e w' => ∃ (v : Value) (G C : Nat → Nat), e = .returned v ∧ CpAt w' w.heap.size m m.ml v G C ∧ More w w' := by
  obtain ⟨ma, mb, mo, mc, A, C0, gb, go⟩ := l
  obtain ⟨i0, hi, hz0, hz1, hz2⟩ := info_parts info2
  obtain ⟨i1, hi', hz0', hz1', hz2'⟩ := info_parts info43
  have H : Hid (MIn w m ⟨ma, mb, mo, mc, A, C0, gb, go⟩ ∧ m.ml ≤ 6 ∧ ∀ i, i < m.ml → 0 < m.len i ∧ m.len i ≤ 64) := ⟨h, hl, hw⟩
  have Hi : Hid (Try.prog.info? 2 = some i0 ∧ i0.zero = some (.int .i64 0) ∧ i0.size = 1 ∧ i0.bytes = 8) := ⟨hi, hz0, hz1, hz2⟩
  have Hi' : Hid (Try.prog.info? 67 = some i1 ∧ i1.zero = some (.slice none 0 0) ∧ i1.size = 1 ∧ i1.bytes = 24) := ⟨hi', hz0', hz1', hz2'⟩
  clear h hl hw hi hz0 hz1 hz2 hi' hz0' hz1' hz2'
  obtain ⟨n, hn⟩ : ∃ n, m.ml = n := ⟨_, rfl⟩
  dsimp only
  rw [hn]
  have Hn : Hid (m.ml = n) := hn
  clear hn
  go_enter Try.func51, Try.ntmps51
  go_wp2
  go_loopg [3, 4] n (fun q v i wr => ∃ (k : Nat) (G C : Nat → Nat), k + q = n ∧ i = .int .i64 k ∧ CpAt wr w.heap.size m k v G C ∧ More w wr)
  case atStart => exact ⟨0, _, _, by omega, rfl, CpAt.start _ _ _, More.refl _⟩
  case round =>
    obtain ⟨k, G, C, hkg, rfl, hc, mm⟩ := hrel
    have Hm : Hid (CpAt wr w.heap.size m k u3 G C ∧ More w wr) := ⟨hc, mm⟩
    clear hc mm
    cases gk with
    | zero =>
      obtain rfl : k = n := by omega
      go_wp2
      go_ret
      exact ⟨_, G, C, rfl, Hm.out.1, Hm.out.2⟩
    | succ q =>
      have hk : k < n := by omega
      have hk' : (k : Int) < (n : Int) := by omega
      have hk0 : (0 : Int) ≤ (k : Int) := by omega
      have Hk : Hid (k < m.ml) := by rw [show Hid (k < m.ml) = (k < m.ml) from rfl, Hn.out]; exact hk
      obtain rfl : ma = some ⟨mb, mo, none⟩ := H.out.1.hm (by have := Hk.out; omega)
      have q1 := (H.out.1.lists.more Hm.out.2) k Hk.out
      dsimp only at q1
      rw [show A k = some ⟨gb k, go k, none⟩ from H.out.1.hg k Hk.out (H.out.2.2 k Hk.out).1] at q1
      have q2 : (wr.alloc (.cells #[] 2)).cell? ⟨mb, mo + k, none⟩ = some (.slice (some ⟨gb k, go k, none⟩) (m.len k) (C0 k)) := ((More.refl _).alloc _ _).cell q1
      clear q1
      have Hl : Hid (0 < m.len k ∧ m.len k ≤ 64) := H.out.2.2 k Hk.out
      have Hown1 : Hid ((wr.alloc (.cells #[] 2)).ownsRow w.heap.size 2 1 (.slice (some ⟨wr.heap.size, 0, none⟩) 0 0) 0 []) := World.ownsRow_made _ #[] 0 Hm.out.2.size (by unfold maxLen; omega) rfl
      have Hnews : Hid (∀ j u, (wordsL m k)[j]? = some u → (wr.alloc (.cells #[] 2)).cell? ((⟨gb k, go k, none⟩ : Addr).add j) = some u) := by
        intro j u hu
        have hj : j < m.len k := by have := (List.getElem?_eq_some_iff.1 hu).1; rw [wordsL_length] at this; exact this
        rw [wordsL_at m k j hj] at hu
        rw [Go.WideShapes.add_plain, ← Option.some.inj hu]
        exact (Hm.out.2.trans ((More.refl _).alloc _ _)).cell (H.out.1.words k Hk.out j hj)
      obtain ⟨r, hr⟩ : ∃ r, m.len k = r := ⟨_, rfl⟩
      rw [hr] at q2 Hl
      have Hr : Hid (m.len k = r) := hr
      clear hr
      go_wp2_with (first
        | (at_builtin; refine wpList_append_lies _ rfl (.tmp 12) (.tmp 16) 67 rfl w.heap.size 2 i0 (.int .i64 0) 1 8 Try.underlying67 Hi.out.1 Hi.out.2.1 Hi.out.2.2.1 Hi.out.2.2.2 rfl (by decide) (.slice (some ⟨wr.heap.size, 0, none⟩) 0 0) 0 [] rfl Hown1.out ⟨gb k, go k, none⟩ r (C0 k) (wordsL m k) rfl (by rw [wordsL_length, Hr.out, Nat.mul_one]) Hnews.out (wordsL_one m k) Hl.out.1 (by have := Hl.out.2; unfold maxLen; omega) (by have := Hl.out.2; omega) (by have := Hm.out.2.size; simp; omega) (wr.heap.size + 1) (by simp) ?_; intro g cap w2 own2 gr2 hat2 hlt2)
        | (at_builtin; refine wpList_append_lies _ rfl (.tmp 11) (.tmp 18) 30 rfl w.heap.size 67 i1 (.slice none 0 0) 1 24 Try.underlying30 Hi'.out.1 Hi'.out.2.1 Hi'.out.2.2.1 Hi'.out.2.2.2 rfl (by decide) u3 k ((List.range k).map fun j => .slice (some ⟨G j, 0, none⟩) (m.len j) (C j)) rfl (Hm.out.1.own3 _ _ gr2) ⟨w2.heap.size, 0, none⟩ 1 1 [.slice (some ⟨g, 0, none⟩) r cap] rfl rfl (cell_one_new _ _ _) (fun x hx => by simp at hx; subst hx; rfl) (by decide) (by have := H.out.2.1; have := Hk.out; unfold maxLen; omega) (by have := H.out.2.1; have := Hk.out; omega) (by have := Hm.out.2.size; have := gr2.size; simp at this ⊢; omega) (w2.heap.size + 1) (by simp) ?_; intro g2 cap2 w4 own4 gr4 hat4 hlt4))
      go_roundg q
      case measure => omega
      case rel =>
        have hgg : wr.heap.size ≤ g := by
          rcases hat2 with h1 | h1
          · simp [Value.ownBlock] at h1; omega
          · omega
        have hs2 : wr.heap.size + 1 ≤ w2.heap.size := by have := gr2.size; simpa using this
        have hw := Hm.out.2.size
        refine ⟨k + 1, _, _, by omega, by first | rfl | (simp; unfold wrap64; have := H.out.2.1; have := Hk.out; omega), Hm.out.1.step (.cells #[] 2) (.cells #[.slice (some ⟨g, 0, none⟩) r cap] 67) g cap g2 cap2 ?_ gr2 hgg ?_ gr4 hat4, ?_⟩
        · rw [Hr.out]
          simpa using own2
        · rw [Hr.out]
          exact own4
        · have m2 : More w w2 := (Hm.out.2.trans ((More.refl _).alloc #[] 2)).grownBy gr2 (fun b hb => by have h9 : wr.heap.size = b := (by simpa [Value.ownBlock] using hb); omega)
          refine (m2.alloc _ _).grownBy gr4 (fun b hb => ?_)
          exact (Hm.out.1.own.lt b hb).1

end Go.Proofs.Ytbfhchhggkpbdaa

/-
  What a run owns in memory: what it has shown, the words, as rows of its own; and how they stay under stores elsewhere. No Go text in sight.
-/
namespace Go.Proofs.Ytbfhchhggkpbdaa
open Go.RowKit
set_option linter.unusedVariables false

/-! ### What was shown -/
def flatS : List Se → List Value
  | [] => []
  | s :: l => .int .i64 s.kind :: .int .i64 s.a :: .int .i64 s.b :: flatS l
theorem flatS_length : ∀ l : List Se, (flatS l).length = l.length * 3
  | [] => rfl
  | s :: l => by simp [flatS, flatS_length l]; omega
theorem flatS_append : ∀ l l' : List Se, flatS (l ++ l') = flatS l ++ flatS l'
  | [], _ => rfl
  | s :: l, l' => by simp [flatS, flatS_append l l']
theorem flatS_at : ∀ (l : List Se) (i : Nat) (s : Se), l[i]? = some s → (flatS l)[i * 3]? = some (.int .i64 s.kind) ∧ (flatS l)[i * 3 + 1]? = some (.int .i64 s.a) ∧ (flatS l)[i * 3 + 2]? = some (.int .i64 s.b)
  | [], i, s, h => by simp at h
  | x :: l, 0, s, h => by simp at h; subst h; simp [flatS]
  | x :: l, i + 1, s, h => by
    have := flatS_at l i s (by simpa using h)
    rw [show (i + 1) * 3 = i * 3 + 1 + 1 + 1 by omega, flatS]
    simpa using this

/-- What was shown, in a row of the run's own. -/
def SeenOwn (w : World) (base : Nat) (v : Value) (l : List Se) : Prop := w.ownsRow base 85 3 v l.length (flatS l)

theorem SeenOwn.at_ {w : World} {base : Nat} {v : Value} {l : List Se} (h : SeenOwn w base v l) (hb : l.length < 4611686018427387904) : SeenAt w v l := by
  by_cases h0 : l.length = 0
  · rcases h.2 with ⟨rfl, _⟩ | ⟨g, cap, cur, rfl, _⟩
    · have : l = [] := List.eq_nil_of_length_eq_zero h0
      subst this
      exact ⟨none, 0, 0, 0, rfl, fun h => absurd h (Nat.not_lt_zero _), fun i s h => by simp at h, by simp⟩
    · have : l = [] := List.eq_nil_of_length_eq_zero h0
      subst this
      exact ⟨_, 0, 0, cap, rfl, fun h => absurd h (Nat.not_lt_zero _), fun i s h => by simp at h, by simp⟩
  · obtain ⟨g, cap, rfl, _, _⟩ := World.ownsRow.form h (by omega)
    refine ⟨_, g, 0, cap, rfl, fun _ => rfl, fun i s hs => ?_, hb⟩
    have hi : i < l.length := (List.getElem?_eq_some_iff.1 hs).1
    obtain ⟨f0, f1, f2⟩ := flatS_at l i s hs
    simp only [Nat.zero_add]
    exact ⟨by rw [World.ownsRow.cellAt h _ (by omega)]; exact f0, by rw [World.ownsRow.cellAt h _ (by omega)]; exact f1, by rw [World.ownsRow.cellAt h _ (by omega)]; exact f2⟩

theorem SeenOwn.kept {w w' : World} {base : Nat} {v : Value} {l : List Se} (h : SeenOwn w base v l) {row : Option Nat} (hg : w.grownBy w' row) (hr : ∀ b, row = some b → b < base) : SeenOwn w' base v l := by
  refine World.ownsRow.kept h hg ?_
  cases hv : v.ownBlock with
  | none => left; rfl
  | some b =>
    right
    intro e
    have h1 := (World.ownsRow.lt h b hv).1
    have h2 := hr b e.symm
    omega

/-! ### The words -/
structure MemOwn (w : World) (lo hi : Nat) (m : Mem) (mv : Value) (mb mc : Nat) (G C : Nat → Nat) : Prop where
  val : 0 < m.ml → mv = .slice (some ⟨mb, 0, none⟩) m.ml mc ∧ lo ≤ mb ∧ mb < hi
  nil : m.ml = 0 → ∃ a c, mv = .slice a 0 c
  rows : ∀ j, j < m.ml → w.cell? ⟨mb, j, none⟩ = some (.slice (some ⟨G j, 0, none⟩) (m.len j) (C j))
  words : ∀ j, j < m.ml → ∀ i, i < m.len j → w.cell? ⟨G j, i, none⟩ = some (.int .i64 (m.wd j i)) ∧ w.frozen? ⟨G j, i, none⟩ = false
  at_ : ∀ j, j < m.ml → lo ≤ G j ∧ G j < hi ∧ G j ≠ mb
  apart : ∀ j j', j < m.ml → j' < m.ml → j ≠ j' → G j ≠ G j'

theorem CpAt.own_ {w : World} {base : Nat} {m : Mem} {v : Value} {G C : Nat → Nat} (c : CpAt w base m m.ml v G C) : ∃ mb mc, MemOwn w base w.heap.size m v mb mc G C := by
  by_cases h0 : m.ml = 0
  · have hv : ∃ a cap, v = .slice a 0 cap := by
      rcases c.own.2 with ⟨h, _⟩ | ⟨g, cap, cur, h, _⟩
      · exact ⟨_, _, h⟩
      · exact ⟨_, cap, by rw [h, h0]⟩
    exact ⟨0, 0, fun h => by omega, fun _ => hv, fun j hj => by omega, fun j hj => by omega, fun j hj => by omega, fun j j' hj => by omega⟩
  · obtain ⟨g, cap, rfl, hb, hl⟩ := World.ownsRow.form c.own (by omega)
    refine ⟨g, cap, fun _ => ⟨rfl, hb, hl⟩, fun h => absurd h h0, fun j hj => ?_, fun j hj i hi => ⟨?_, World.ownsRow.frozenAt (c.row j hj) i⟩, fun j hj => ⟨((c.row j hj).lt _ rfl).1, ((c.row j hj).lt _ rfl).2, fun e => c.apart j hj (by rw [e]; rfl)⟩, c.apart2⟩
    · rw [World.ownsRow.cellAt c.own j (by omega)]
      simp [hj]
    · rw [World.ownsRow.cellAt (c.row j hj) i (by omega)]
      exact wordsL_at m j i hi

theorem MemOwn.kept {w w' : World} {lo hi : Nat} {m : Mem} {mv : Value} {mb mc : Nat} {G C : Nat → Nat} (h : MemOwn w lo hi m mv mb mc G C) {row : Option Nat} (hg : w.grownBy w' row) (hr : ∀ b, row = some b → b < lo ∨ hi ≤ b) :
    MemOwn w' lo hi m mv mb mc G C := by
  refine ⟨h.val, h.nil, fun j hj => ?_, fun j hj i hi' => ?_, h.at_, h.apart⟩
  · exact hg.cell (h.rows j hj) (fun e => by have := hr mb e.symm; have := h.val (by omega); omega)
  · have hne : some (G j) ≠ row := fun e => by have := hr (G j) e.symm; have := h.at_ j hj; omega
    exact ⟨hg.cell (h.words j hj i hi').1 hne, (frozen_kept hg (h.words j hj i hi').1 hne).trans (h.words j hj i hi').2⟩

theorem MemOwn.set {w : World} {lo hi : Nat} {m : Mem} {mv : Value} {mb mc : Nat} {G C : Nat → Nat} (h : MemOwn w lo hi m mv mb mc G C) (c i : Nat) (hc : c < m.ml) (hi' : i < m.len c) (v : Int) :
    MemOwn (w.setCell ⟨G c, i, none⟩ (.int .i64 v)) lo hi (setW m c i v) mv mb mc G C := by
  refine ⟨h.val, h.nil, fun j hj => ?_, fun j hj x hx => ?_, h.at_, h.apart⟩
  · rw [World.cell?_setCell_other _ _ _ _ (by intro e; simp only [Addr.mk.injEq] at e; exact (h.at_ c hc).2.2 e.1)]
    exact h.rows j hj
  · have hw := h.words j hj x hx
    refine ⟨?_, by rw [World.frozen?_setCell]; exact hw.2⟩
    unfold setW
    dsimp only
    by_cases e : j = c ∧ x = i
    · obtain ⟨rfl, rfl⟩ := e
      rw [if_pos ⟨rfl, rfl⟩]
      exact World.cell?_setCell_same _ _ _ hw.1
    · rw [if_neg e, World.cell?_setCell_other]
      · exact hw.1
      · intro e'
        simp only [Addr.mk.injEq] at e'
        by_cases ej : j = c
        · exact e ⟨ej, by subst ej; exact e'.2.1.symm⟩
        · exact h.apart j c hj hc ej e'.1.symm

theorem MemOwn.in_ {w : World} {lo hi : Nat} {m : Mem} {mv : Value} {mb mc : Nat} {G C : Nat → Nat} (h : MemOwn w lo hi m mv mb mc G C) (f1 : m.ml < 4611686018427387904) (f2 : ∀ i, i < m.ml → m.len i < 4611686018427387904) :
    ∃ l : MLoc, mv = .slice l.ma m.ml l.mc ∧ MIn w m l := by
  by_cases h0 : m.ml = 0
  · obtain ⟨a, c, hv⟩ := h.nil h0
    refine ⟨⟨a, 0, 0, c, fun _ => none, fun _ => 0, fun _ => 0, fun _ => 0⟩, by rw [hv, h0], fun h => by omega, fun j hj => by omega, fun j hj => by omega, fun j hj => by omega, f1, f2⟩
  · refine ⟨⟨some ⟨mb, 0, none⟩, mb, 0, mc, fun j => some ⟨G j, 0, none⟩, C, G, fun _ => 0⟩, (h.val (by omega)).1, fun _ => rfl, fun j hj => ?_, fun j hj _ => rfl, fun j hj i hi => ?_, f1, f2⟩
    · simpa using h.rows j hj
    · simpa using (h.words j hj i hi).1

end Go.Proofs.Ytbfhchhggkpbdaa

/-
  Where a run of the reference's Play stands in memory, and how it stays so under what a step does. No Go text in sight.
-/
namespace Go.Proofs.Ytbfhchhggkpbdaa
open Go.RowKit
set_option linter.unusedVariables false

/-- A cell that may be written. -/
def Wr (w : World) (b o : Nat) (v : Value) : Prop := w.cell? ⟨b, o, none⟩ = some v ∧ w.frozen? ⟨b, o, none⟩ = false
theorem Wr.kept {w w' : World} {row : Option Nat} (hg : w.grownBy w' row) {b o : Nat} {v : Value} (h : Wr w b o v) (hne : some b ≠ row) : Wr w' b o v :=
  ⟨hg.cell h.1 hne, (frozen_kept hg h.1 hne).trans h.2⟩
theorem Wr.same {w : World} {b o : Nat} {v : Value} (h : Wr w b o v) (u : Value) : Wr (w.setCell ⟨b, o, none⟩ u) b o u :=
  ⟨World.cell?_setCell_same _ _ _ h.1, by rw [World.frozen?_setCell]; exact h.2⟩
theorem Wr.other {w : World} {b o : Nat} {v : Value} (h : Wr w b o v) (b' o' : Nat) (u : Value) (hne : b' ≠ b ∨ o' ≠ o) : Wr (w.setCell ⟨b', o', none⟩ u) b o v :=
  ⟨by rw [World.cell?_setCell_other _ _ _ _ (by intro e; simp only [Addr.mk.injEq] at e; omega)]; exact h.1, by rw [World.frozen?_setCell]; exact h.2⟩

/-- N: the box of the program; N + 1: the result; B: what is shown; B + 1: the registers; behind them what was seen; between N + 1 and B the words. -/
structure PAt (w wr : World) (rv cv : Value) (B : Nat) (s : St) (k : Nat) (sv mv : Value) (mb mc : Nat) (G C : Nat → Nat) : Prop where
  more : More w wr
  size : B + 1 < wr.heap.size
  low : w.heap.size + 2 ≤ B
  b0 : Wr wr w.heap.size 0 rv
  b1 : Wr wr w.heap.size 1 cv
  o0 : Wr wr (w.heap.size + 1) 0 (.int .i64 0)
  o1 : Wr wr (w.heap.size + 1) 1 (.int .i64 0)
  o2 : Wr wr (w.heap.size + 1) 2 (.int .i64 0)
  o3 : Wr wr (w.heap.size + 1) 3 (.slice none 0 0)
  o4 : Wr wr (w.heap.size + 1) 4 (.slice none 0 0)
  s0 : Wr wr B 0 (.int .i64 0)
  s1 : Wr wr B 1 (.int .i64 0)
  s2 : Wr wr B 2 (.int .i64 k)
  s3 : Wr wr B 3 sv
  s4 : Wr wr B 4 mv
  regs : RegsR wr (B + 1) s.r
  seen : SeenOwn wr (B + 2) sv s.seen
  mem : MemOwn wr (w.heap.size + 2) B s.m mv mb mc G C

section
variable {w wr w' : World} {rv cv : Value} {B : Nat} {s : St} {k : Nat} {sv mv : Value} {mb mc : Nat} {G C : Nat → Nat}

theorem PAt.grown (h : PAt w wr rv cv B s k sv mv mb mc G C) (hg : wr.grownBy w' none) : PAt w w' rv cv B s k sv mv mb mc G C :=
  ⟨h.more.grownBy hg (fun b hb => by cases hb), Nat.lt_of_lt_of_le h.size hg.size, h.low, h.b0.kept hg (by simp), h.b1.kept hg (by simp), h.o0.kept hg (by simp), h.o1.kept hg (by simp), h.o2.kept hg (by simp), h.o3.kept hg (by simp), h.o4.kept hg (by simp),
    h.s0.kept hg (by simp), h.s1.kept hg (by simp), h.s2.kept hg (by simp), h.s3.kept hg (by simp), h.s4.kept hg (by simp), h.regs.kept hg (by simp), h.seen.kept hg (fun b hb => by cases hb), h.mem.kept hg (fun b hb => by cases hb)⟩
theorem PAt.alloc (h : PAt w wr rv cv B s k sv mv mb mc G C) (o : Obj) : PAt w (wr.alloc o) rv cv B s k sv mv mb mc G C := h.grown (World.grownBy_alloc _ _ _)
theorem PAt.drew (h : PAt w wr rv cv B s k sv mv mb mc G C) : PAt w wr.drew rv cv B s k sv mv mb mc G C := h.grown (grown_drew _ _)
theorem PAt.on (h : PAt w wr rv cv B s k sv mv mb mc G C) (m : More wr w') : PAt w w' rv cv B s k sv mv mb mc G C := h.grown (m.grow _)

/-- One step more. -/
theorem PAt.steps (h : PAt w wr rv cv B s k sv mv mb mc G C) (k' : Nat) (n : Int) (hn : n = k') : PAt w (wr.setCell ⟨B, 2, none⟩ (.int .i64 n)) rv cv B s k' sv mv mb mc G C := by
  subst hn
  have hl := h.low
  have hg := grown_set wr B 2 (.int .i64 (k' : Int))
  exact ⟨h.more.grownBy hg (fun b hb => by have := Option.some.inj hb; omega), Nat.lt_of_lt_of_le h.size hg.size, h.low, h.b0.other _ _ _ (by omega), h.b1.other _ _ _ (by omega), h.o0.other _ _ _ (by omega), h.o1.other _ _ _ (by omega), h.o2.other _ _ _ (by omega), h.o3.other _ _ _ (by omega), h.o4.other _ _ _ (by omega),
    h.s0.other _ _ _ (by omega), h.s1.other _ _ _ (by omega), h.s2.same _, h.s3.other _ _ _ (by omega), h.s4.other _ _ _ (by omega), h.regs.kept hg (by simp), h.seen.kept hg (fun b hb => by have := Option.some.inj hb; omega), h.mem.kept hg (fun b hb => by have := Option.some.inj hb; omega)⟩

/-- Something more was shown: the row has grown, and its place is stored. -/
theorem PAt.shown (h : PAt w wr rv cv B s k sv mv mb mc G C) (l : List Se) (sv' : Value) (own : SeenOwn w' (B + 2) sv' l) (gr : wr.grownBy w' sv.ownBlock) :
    PAt w (w'.setCell ⟨B, 3, none⟩ sv') rv cv B ⟨s.at_, s.r, s.m, l⟩ k sv' mv mb mc G C := by
  have hl := h.low
  have hrow : ∀ b, sv.ownBlock = some b → B + 2 ≤ b := fun b hb => (World.ownsRow.lt h.seen b hb).1
  have hne : ∀ b, b < B + 2 → some b ≠ sv.ownBlock := fun b hb e => by have := hrow b e.symm; omega
  have hg := grown_set w' B 3 sv'
  have hm : More w w' := h.more.grownBy gr (fun b hb => by have := hrow b hb; omega)
  have q0 := h.size
  exact ⟨hm.grownBy hg (fun b hb => by have := Option.some.inj hb; omega), Nat.lt_of_lt_of_le (Nat.lt_of_lt_of_le h.size gr.size) hg.size, h.low,
    (h.b0.kept gr (hne _ (by omega))).other _ _ _ (by omega), (h.b1.kept gr (hne _ (by omega))).other _ _ _ (by omega), (h.o0.kept gr (hne _ (by omega))).other _ _ _ (by omega), (h.o1.kept gr (hne _ (by omega))).other _ _ _ (by omega),
    (h.o2.kept gr (hne _ (by omega))).other _ _ _ (by omega), (h.o3.kept gr (hne _ (by omega))).other _ _ _ (by omega), (h.o4.kept gr (hne _ (by omega))).other _ _ _ (by omega),
    (h.s0.kept gr (hne _ (by omega))).other _ _ _ (by omega), (h.s1.kept gr (hne _ (by omega))).other _ _ _ (by omega), (h.s2.kept gr (hne _ (by omega))).other _ _ _ (by omega), (h.s3.kept gr (hne _ (by omega))).same _, (h.s4.kept gr (hne _ (by omega))).other _ _ _ (by omega),
    (h.regs.kept gr (hne _ (by omega))).kept hg (by simp), own.kept hg (fun b hb => by have := Option.some.inj hb; omega),
    (h.mem.kept gr (fun b hb => by have := hrow b hb; omega)).kept hg (fun b hb => by have := Option.some.inj hb; omega)⟩

/-- The registers have changed, and nothing else. -/
theorem PAt.regd (h : PAt w wr rv cv B s k sv mv mb mc G C) (r : Nat → Int) (hr : RegsR w' (B + 1) r) (gr : wr.grownBy w' (some (B + 1))) : PAt w w' rv cv B ⟨s.at_, r, s.m, s.seen⟩ k sv mv mb mc G C := by
  have hl := h.low
  have hne : ∀ b, b < B + 1 → some b ≠ some (B + 1) := fun b hb e => by have := Option.some.inj e; omega
  exact ⟨h.more.grownBy gr (fun b hb => by have := Option.some.inj hb; omega), Nat.lt_of_lt_of_le h.size gr.size, h.low, h.b0.kept gr (hne _ (by omega)), h.b1.kept gr (hne _ (by omega)), h.o0.kept gr (hne _ (by omega)), h.o1.kept gr (hne _ (by omega)), h.o2.kept gr (hne _ (by omega)), h.o3.kept gr (hne _ (by omega)), h.o4.kept gr (hne _ (by omega)),
    h.s0.kept gr (hne _ (by omega)), h.s1.kept gr (hne _ (by omega)), h.s2.kept gr (hne _ (by omega)), h.s3.kept gr (hne _ (by omega)), h.s4.kept gr (hne _ (by omega)), hr, h.seen.kept gr (fun b hb => by have := Option.some.inj hb; omega), h.mem.kept gr (fun b hb => by have := Option.some.inj hb; omega)⟩

/-- A word has been put. -/
theorem PAt.worded (h : PAt w wr rv cv B s k sv mv mb mc G C) (c i : Nat) (hc : c < s.m.ml) (hi : i < s.m.len c) (v : Int) :
    PAt w (wr.setCell ⟨G c, i, none⟩ (.int .i64 v)) rv cv B ⟨s.at_, s.r, setW s.m c i v, s.seen⟩ k sv mv mb mc G C := by
  have hl := h.low
  obtain ⟨g0, g1, _⟩ := h.mem.at_ c hc
  have hg := grown_set wr (G c) i (.int .i64 v)
  exact ⟨h.more.grownBy hg (fun b hb => by have := Option.some.inj hb; omega), Nat.lt_of_lt_of_le h.size hg.size, h.low, h.b0.other _ _ _ (by omega), h.b1.other _ _ _ (by omega), h.o0.other _ _ _ (by omega), h.o1.other _ _ _ (by omega), h.o2.other _ _ _ (by omega), h.o3.other _ _ _ (by omega), h.o4.other _ _ _ (by omega),
    h.s0.other _ _ _ (by omega), h.s1.other _ _ _ (by omega), h.s2.other _ _ _ (by omega), h.s3.other _ _ _ (by omega), h.s4.other _ _ _ (by omega), h.regs.kept hg (by simp; omega), h.seen.kept hg (fun b hb => by have := Option.some.inj hb; omega), h.mem.set c i hc hi v⟩

end
end Go.Proofs.Ytbfhchhggkpbdaa

/-
  A machine of package seq as data, and how it lies in memory, one row of cells; and how it stays so under stores. No Go text in sight.
-/
namespace Go.Proofs.Ytbfhchhggkpbdaa
open Go.RowKit
set_option linter.unusedVariables false

structure Ms where
  fin : Int
  val : Int
  steps : Int
  sv : Value
  mv : Value
  r : Nat → Int
  wd : Nat → Int
  next : Int
  fuel : Int
  ended : Bool
  st : Nat → Int
  T : TypeId
  tl : Nat → Option Value
  mo : List (Nat × Obj)

/-- What its cells are. -/
def cellF (rv cv : Value) (x : Ms) (j : Nat) : Value :=
  if j = 0 then rv else if j = 1 then cv else if j = 2 then .int .i64 x.fin else if j = 3 then .int .i64 x.val else if j = 4 then .int .i64 x.steps
  else if j = 5 then x.sv else if j = 6 then x.mv else if j < 17 then .int .i64 (x.r (j - 7)) else if j < 401 then .int .i64 (x.wd (j - 17))
  else if j = 401 then .int .i64 x.next else if j = 402 then .int .i64 x.fuel else if j = 403 then .bool x.ended else .int .i64 (x.st (j - 404))

theorem cellF_r (rv cv : Value) (x : Ms) (j : Nat) (hj : j < 10) : cellF rv cv x (7 + j) = .int .i64 (x.r j) := by
  unfold cellF
  rw [if_neg (by omega), if_neg (by omega), if_neg (by omega), if_neg (by omega), if_neg (by omega), if_neg (by omega), if_neg (by omega), if_pos (by omega), show 7 + j - 7 = j by omega]
theorem cellF_wd (rv cv : Value) (x : Ms) (j : Nat) (hj : j < 384) : cellF rv cv x (17 + j) = .int .i64 (x.wd j) := by
  unfold cellF
  rw [if_neg (by omega), if_neg (by omega), if_neg (by omega), if_neg (by omega), if_neg (by omega), if_neg (by omega), if_neg (by omega), if_neg (by omega), if_pos (by omega), show 17 + j - 17 = j by omega]
theorem cellF_st (rv cv : Value) (x : Ms) (j : Nat) (hj : j < 7) : cellF rv cv x (404 + j) = .int .i64 (x.st j) := by
  unfold cellF
  rw [if_neg (by omega), if_neg (by omega), if_neg (by omega), if_neg (by omega), if_neg (by omega), if_neg (by omega), if_neg (by omega), if_neg (by omega), if_neg (by omega), if_neg (by omega), if_neg (by omega), if_neg (by omega), show 404 + j - 404 = j by omega]

/-- The first 411 cells are the machine's; what lies behind them (of a value that begins with a machine) is tl. -/
structure MC (c : Array Value) (rv cv : Value) (x : Ms) : Prop where
  big : 411 ≤ c.size
  at_ : ∀ j, j < 411 → c[j]? = some (cellF rv cv x j)
  tail : ∀ j, 411 ≤ j → c[j]? = x.tl j

theorem MC.size {c : Array Value} {rv cv : Value} {x : Ms} (h : MC c rv cv x) (ht : x.tl 411 = none) : c.size = 411 := by
  have h1 := h.tail 411 (Nat.le_refl _)
  rw [ht, Array.getElem?_eq_none_iff] at h1
  have := h.big
  omega

structure MAt (w : World) (M : Nat) (rv cv : Value) (x : Ms) : Prop where
  out : ∃ c, w.heap[M]? = some (.cells c x.T (0, 0)) ∧ MC c rv cv x

def setN (r : Nat → Int) (k : Nat) (v : Int) : Nat → Int := fun j => if j = k then v else r j

section
variable {w w' : World} {M : Nat} {rv cv : Value} {x : Ms}

theorem MAt.wr (h : MAt w M rv cv x) (j : Nat) (hj : j < 411) : Wr w M j (cellF rv cv x j) := by
  obtain ⟨c, hh, hc⟩ := h.out
  exact ⟨by rw [cell_of_row w M j c x.T (0, 0) hh]; exact hc.at_ j hj, by simp [World.frozen?, hh]⟩
theorem MAt.lt (h : MAt w M rv cv x) : M < w.heap.size := cell_block (h.wr 0 (by omega)).1

theorem MAt.p0 (h : MAt w M rv cv x) : Wr w M 0 rv := h.wr 0 (by omega)
theorem MAt.p1 (h : MAt w M rv cv x) : Wr w M 1 cv := h.wr 1 (by omega)
theorem MAt.fin (h : MAt w M rv cv x) : Wr w M 2 (.int .i64 x.fin) := h.wr 2 (by omega)
theorem MAt.val (h : MAt w M rv cv x) : Wr w M 3 (.int .i64 x.val) := h.wr 3 (by omega)
theorem MAt.steps (h : MAt w M rv cv x) : Wr w M 4 (.int .i64 x.steps) := h.wr 4 (by omega)
theorem MAt.sv (h : MAt w M rv cv x) : Wr w M 5 x.sv := h.wr 5 (by omega)
theorem MAt.mv (h : MAt w M rv cv x) : Wr w M 6 x.mv := h.wr 6 (by omega)
theorem MAt.next (h : MAt w M rv cv x) : Wr w M 401 (.int .i64 x.next) := h.wr 401 (by omega)
theorem MAt.fuel (h : MAt w M rv cv x) : Wr w M 402 (.int .i64 x.fuel) := h.wr 402 (by omega)
theorem MAt.ended (h : MAt w M rv cv x) : Wr w M 403 (.bool x.ended) := h.wr 403 (by omega)
theorem MAt.r (h : MAt w M rv cv x) (j : Nat) (hj : j < 10) : Wr w M (7 + j) (.int .i64 (x.r j)) := by
  have := h.wr (7 + j) (by omega)
  rw [cellF_r rv cv x j hj] at this
  exact this
theorem MAt.wd (h : MAt w M rv cv x) (j : Nat) (hj : j < 384) : Wr w M (17 + j) (.int .i64 (x.wd j)) := by
  have := h.wr (17 + j) (by omega)
  rw [cellF_wd rv cv x j hj] at this
  exact this
theorem MAt.st (h : MAt w M rv cv x) (j : Nat) (hj : j < 7) : Wr w M (404 + j) (.int .i64 (x.st j)) := by
  have := h.wr (404 + j) (by omega)
  rw [cellF_st rv cv x j hj] at this
  exact this

theorem MAt.kept (h : MAt w M rv cv x) {row : Option Nat} (hg : w.grownBy w' row) (hne : some M ≠ row) : MAt w' M rv cv x := by
  obtain ⟨c, hh, hc⟩ := h.out
  exact ⟨c, by rw [hg.block M h.lt hne]; exact hh, hc⟩
theorem MAt.alloc (h : MAt w M rv cv x) (o : Obj) : MAt (w.alloc o) M rv cv x := h.kept (World.grownBy_alloc w o none) (by simp)
theorem MAt.drew (h : MAt w M rv cv x) : MAt w.drew M rv cv x := h.kept (grown_drew w none) (by simp)
theorem MAt.more (h : MAt w M rv cv x) (m : More w w') : MAt w' M rv cv x := h.kept (m.grow none) (by simp)

theorem MAt.set (h : MAt w M rv cv x) (j : Nat) (v : Value) (x' : Ms) (hj : j < 411) (hT : x'.T = x.T) (htl : x'.tl = x.tl) (hx : ∀ i, i < 411 → cellF rv cv x' i = if i = j then v else cellF rv cv x i) : MAt (w.setCell ⟨M, j, none⟩ v) M rv cv x' := by
  obtain ⟨c, hh, hc⟩ := h.out
  refine ⟨c.setIfInBounds j v, ?_, by simp [hc.big], fun i hi => ?_, fun i hi => ?_⟩
  · rw [setCell_eq_setRow w M j c x.T (0, 0) v hh, hT]
    exact setRow_heap w M c _ x.T _ hh
  · rw [hx i hi, Array.getElem?_setIfInBounds]
    by_cases e : i = j
    · subst e
      rw [if_pos rfl, if_pos rfl, if_pos (by have := hc.big; omega)]
    · rw [if_neg (fun h => e h.symm), if_neg e]
      exact hc.at_ i hi
  · rw [Array.getElem?_setIfInBounds, if_neg (by omega), htl]
    exact hc.tail i hi

/-- A store behind the machine's own cells. -/
theorem MAt.setTl (h : MAt w M rv cv x) (j : Nat) (v u : Value) (tl : Nat → Option Value) (hj : 411 ≤ j) (hu : x.tl j = some u) (htl : ∀ i, 411 ≤ i → tl i = if i = j then some v else x.tl i) : MAt (w.setCell ⟨M, j, none⟩ v) M rv cv { x with tl := tl } := by
  obtain ⟨c, hh, hc⟩ := h.out
  have hlt : j < c.size := by
    have h1 := hc.tail j hj
    rw [hu] at h1
    exact (Array.getElem?_eq_some_iff.1 h1).1
  refine ⟨c.setIfInBounds j v, ?_, by simp [hc.big], fun i hi => ?_, fun i hi => ?_⟩
  · rw [setCell_eq_setRow w M j c x.T (0, 0) v hh]
    exact setRow_heap w M c _ x.T _ hh
  · rw [Array.getElem?_setIfInBounds, if_neg (by omega)]
    exact hc.at_ i hi
  · show _ = tl i
    rw [Array.getElem?_setIfInBounds, htl i hi]
    by_cases e : i = j
    · subst e
      rw [if_pos rfl, if_pos rfl, if_pos hlt]
    · rw [if_neg (fun h => e h.symm), if_neg e]
      exact hc.tail i hi
theorem MAt.tlw (h : MAt w M rv cv x) (j : Nat) (hj : 411 ≤ j) (v : Value) (hv : x.tl j = some v) : Wr w M j v := by
  obtain ⟨c, hh, hc⟩ := h.out
  exact ⟨by rw [cell_of_row w M j c x.T (0, 0) hh, hc.tail j hj]; exact hv, by simp [World.frozen?, hh]⟩

theorem MAt.setFin (h : MAt w M rv cv x) (n : Int) : MAt (w.setCell ⟨M, 2, none⟩ (.int .i64 n)) M rv cv { x with fin := n } :=
  h.set 2 _ _ (by omega) rfl rfl fun i hi => by unfold cellF; by_cases e : i = 2 <;> simp [e]
theorem MAt.setVal (h : MAt w M rv cv x) (n : Int) : MAt (w.setCell ⟨M, 3, none⟩ (.int .i64 n)) M rv cv { x with val := n } :=
  h.set 3 _ _ (by omega) rfl rfl fun i hi => by unfold cellF; by_cases e : i = 3 <;> simp [e]
theorem MAt.setSteps (h : MAt w M rv cv x) (n : Int) : MAt (w.setCell ⟨M, 4, none⟩ (.int .i64 n)) M rv cv { x with steps := n } :=
  h.set 4 _ _ (by omega) rfl rfl fun i hi => by unfold cellF; by_cases e : i = 4 <;> simp [e]
theorem MAt.setSv (h : MAt w M rv cv x) (v : Value) : MAt (w.setCell ⟨M, 5, none⟩ v) M rv cv { x with sv := v } :=
  h.set 5 _ _ (by omega) rfl rfl fun i hi => by unfold cellF; by_cases e : i = 5 <;> simp [e]
theorem MAt.setMv (h : MAt w M rv cv x) (v : Value) : MAt (w.setCell ⟨M, 6, none⟩ v) M rv cv { x with mv := v } :=
  h.set 6 _ _ (by omega) rfl rfl fun i hi => by unfold cellF; by_cases e : i = 6 <;> simp [e]
theorem MAt.setNext (h : MAt w M rv cv x) (n : Int) : MAt (w.setCell ⟨M, 401, none⟩ (.int .i64 n)) M rv cv { x with next := n } :=
  h.set 401 _ _ (by omega) rfl rfl fun i hi => by unfold cellF; by_cases e : i = 401 <;> simp [e]
theorem MAt.setEnded (h : MAt w M rv cv x) (b : Bool) : MAt (w.setCell ⟨M, 403, none⟩ (.bool b)) M rv cv { x with ended := b } :=
  h.set 403 _ _ (by omega) rfl rfl fun i hi => by unfold cellF; by_cases e : i = 403 <;> simp [e]
theorem MAt.setR (h : MAt w M rv cv x) (k : Nat) (hk : k < 10) (n : Int) : MAt (w.setCell ⟨M, 7 + k, none⟩ (.int .i64 n)) M rv cv { x with r := setN x.r k n } :=
  h.set (7 + k) _ _ (by omega) rfl rfl fun i hi => by
    by_cases e : i = 7 + k
    · subst e; rw [if_pos rfl, cellF_r _ _ _ k hk]; simp [setN]
    · rw [if_neg e]
      unfold cellF setN
      by_cases e1 : i < 7
      · have : i = 0 ∨ i = 1 ∨ i = 2 ∨ i = 3 ∨ i = 4 ∨ i = 5 ∨ i = 6 := by omega
        rcases this with rfl | rfl | rfl | rfl | rfl | rfl | rfl <;> simp
      · have e2 : ¬ i - 7 = k := by omega
        simp [e2]
theorem MAt.setWd (h : MAt w M rv cv x) (k : Nat) (hk : k < 384) (n : Int) : MAt (w.setCell ⟨M, 17 + k, none⟩ (.int .i64 n)) M rv cv { x with wd := setN x.wd k n } :=
  h.set (17 + k) _ _ (by omega) rfl rfl fun i hi => by
    by_cases e : i = 17 + k
    · subst e; rw [if_pos rfl, cellF_wd _ _ _ k hk]; simp [setN]
    · rw [if_neg e]
      unfold cellF setN
      by_cases e1 : i < 17
      · simp [e1]
      · have e2 : ¬ i - 17 = k := by omega
        simp [e2]
theorem MAt.setSt (h : MAt w M rv cv x) (k : Nat) (hk : k < 7) (n : Int) : MAt (w.setCell ⟨M, 404 + k, none⟩ (.int .i64 n)) M rv cv { x with st := setN x.st k n } :=
  h.set (404 + k) _ _ (by omega) rfl rfl fun i hi => by
    by_cases e : i = 404 + k
    · subst e; rw [if_pos rfl, cellF_st _ _ _ k hk]; simp [setN]
    · rw [if_neg e]
      unfold cellF setN
      by_cases e1 : i < 404
      · have : i < 401 ∨ i = 401 ∨ i = 402 ∨ i = 403 := by omega
        rcases this with h1 | rfl | rfl | rfl
        · simp [h1]
        · simp
        · simp
        · simp
      · have e2 : ¬ i - 404 = k := by omega
        simp [e2]
end

/-- A machine, and what it has shown so far, in a row of its own behind it (the field sv says nothing here); and blocks behind it that it leaves alone (mo). -/
structure Run (w : World) (M : Nat) (rv cv : Value) (x : Ms) (se : List Se) : Prop where
  out : ∃ sv, MAt w M rv cv { x with sv := sv } ∧ SeenOwn w (M + 1) sv se ∧ ∀ q ∈ x.mo, M < q.1 ∧ some q.1 ≠ sv.ownBlock ∧ w.heap[q.1]? = some q.2

section
variable {w w' : World} {M : Nat} {rv cv : Value} {x x' : Ms} {se : List Se}
theorem Run.lt (h : Run w M rv cv x se) : M < w.heap.size := by
  obtain ⟨sv, hm, _⟩ := h.out
  exact hm.lt
theorem heap_some_lt {w : World} {b : Nat} {o : Obj} (h : w.heap[b]? = some o) : b < w.heap.size := (Array.getElem?_eq_some_iff.1 h).1
theorem Run.kept (h : Run w M rv cv x se) {row : Option Nat} (hg : w.grownBy w' row) (hr : ∀ b, row = some b → b < M) : Run w' M rv cv x se := by
  obtain ⟨sv, hm, ho, hq⟩ := h.out
  exact ⟨sv, hm.kept hg (fun e => by have := hr M e.symm; omega), ho.kept hg (fun b hb => by have := hr b hb; omega), fun q e => ⟨(hq q e).1, (hq q e).2.1, by rw [hg.block q.1 (heap_some_lt (hq q e).2.2) (fun e' => by have := hr q.1 e'.symm; have := (hq q e).1; omega)]; exact (hq q e).2.2⟩⟩
theorem Run.more (h : Run w M rv cv x se) (m : More w w') : Run w' M rv cv x se := h.kept (m.grow none) (fun b hb => by cases hb)
theorem Run.alloc (h : Run w M rv cv x se) (o : Obj) : Run (w.alloc o) M rv cv x se := h.kept (World.grownBy_alloc w o none) (fun b hb => by cases hb)
theorem Run.drew (h : Run w M rv cv x se) : Run w.drew M rv cv x se := h.kept (grown_drew w none) (fun b hb => by cases hb)
/-- A store into the machine itself. -/
theorem Run.put (h : Run w M rv cv x se) {j : Nat} {v : Value} (hmo : x'.mo = x.mo) (hm : ∀ sv, MAt w M rv cv { x with sv := sv } → MAt (w.setCell ⟨M, j, none⟩ v) M rv cv { x' with sv := sv }) : Run (w.setCell ⟨M, j, none⟩ v) M rv cv x' se := by
  obtain ⟨sv, h1, ho, hq⟩ := h.out
  exact ⟨sv, hm sv h1, ho.kept (grown_set w M j v) (fun b hb => by have := Option.some.inj hb; omega), fun q e => by
    rw [hmo] at e
    exact ⟨(hq q e).1, (hq q e).2.1, by rw [(grown_set w M j v).block q.1 (heap_some_lt (hq q e).2.2) (fun e' => by have := Option.some.inj e'; have := (hq q e).1; omega)]; exact (hq q e).2.2⟩⟩
theorem Run.setFin (h : Run w M rv cv x se) (n : Int) : Run (w.setCell ⟨M, 2, none⟩ (.int .i64 n)) M rv cv { x with fin := n } se := h.put rfl fun _ m => m.setFin n
theorem Run.setVal (h : Run w M rv cv x se) (n : Int) : Run (w.setCell ⟨M, 3, none⟩ (.int .i64 n)) M rv cv { x with val := n } se := h.put rfl fun _ m => m.setVal n
theorem Run.setSteps (h : Run w M rv cv x se) (n : Int) : Run (w.setCell ⟨M, 4, none⟩ (.int .i64 n)) M rv cv { x with steps := n } se := h.put rfl fun _ m => m.setSteps n
theorem Run.setNext (h : Run w M rv cv x se) (n : Int) : Run (w.setCell ⟨M, 401, none⟩ (.int .i64 n)) M rv cv { x with next := n } se := h.put rfl fun _ m => m.setNext n
theorem Run.setEnded (h : Run w M rv cv x se) (b : Bool) : Run (w.setCell ⟨M, 403, none⟩ (.bool b)) M rv cv { x with ended := b } se := h.put rfl fun _ m => m.setEnded b
theorem Run.setR (h : Run w M rv cv x se) (k : Nat) (hk : k < 10) (n : Int) : Run (w.setCell ⟨M, 7 + k, none⟩ (.int .i64 n)) M rv cv { x with r := setN x.r k n } se := h.put rfl fun _ m => m.setR k hk n
theorem Run.setWd (h : Run w M rv cv x se) (k : Nat) (hk : k < 384) (n : Int) : Run (w.setCell ⟨M, 17 + k, none⟩ (.int .i64 n)) M rv cv { x with wd := setN x.wd k n } se := h.put rfl fun _ m => m.setWd k hk n

theorem Run.fin (h : Run w M rv cv x se) : Wr w M 2 (.int .i64 x.fin) := by obtain ⟨sv, m, _⟩ := h.out; exact m.fin
theorem Run.val (h : Run w M rv cv x se) : Wr w M 3 (.int .i64 x.val) := by obtain ⟨sv, m, _⟩ := h.out; exact m.val
theorem Run.steps (h : Run w M rv cv x se) : Wr w M 4 (.int .i64 x.steps) := by obtain ⟨sv, m, _⟩ := h.out; exact m.steps
theorem Run.p0 (h : Run w M rv cv x se) : Wr w M 0 rv := by obtain ⟨sv, m, _⟩ := h.out; exact m.p0
theorem Run.p1 (h : Run w M rv cv x se) : Wr w M 1 cv := by obtain ⟨sv, m, _⟩ := h.out; exact m.p1
theorem Run.mv (h : Run w M rv cv x se) : Wr w M 6 x.mv := by obtain ⟨sv, m, _⟩ := h.out; exact m.mv
theorem Run.next (h : Run w M rv cv x se) : Wr w M 401 (.int .i64 x.next) := by obtain ⟨sv, m, _⟩ := h.out; exact m.next
theorem Run.fuel (h : Run w M rv cv x se) : Wr w M 402 (.int .i64 x.fuel) := by obtain ⟨sv, m, _⟩ := h.out; exact m.fuel
theorem Run.ended (h : Run w M rv cv x se) : Wr w M 403 (.bool x.ended) := by obtain ⟨sv, m, _⟩ := h.out; exact m.ended
theorem Run.r (h : Run w M rv cv x se) (j : Nat) (hj : j < 10) : Wr w M (7 + j) (.int .i64 (x.r j)) := by obtain ⟨sv, m, _⟩ := h.out; exact m.r j hj
theorem Run.wd (h : Run w M rv cv x se) (j : Nat) (hj : j < 384) : Wr w M (17 + j) (.int .i64 (x.wd j)) := by obtain ⟨sv, m, _⟩ := h.out; exact m.wd j hj
theorem Run.tlw (h : Run w M rv cv x se) (j : Nat) (hj : 411 ≤ j) (v : Value) (hv : x.tl j = some v) : Wr w M j v := by obtain ⟨sv, m, _⟩ := h.out; exact m.tlw j hj v hv
theorem Run.setTl (h : Run w M rv cv x se) (j : Nat) (v u : Value) (tl : Nat → Option Value) (hj : 411 ≤ j) (hu : x.tl j = some u) (htl : ∀ i, 411 ≤ i → tl i = if i = j then some v else x.tl i) : Run (w.setCell ⟨M, j, none⟩ v) M rv cv { x with tl := tl } se := h.put rfl fun _ m => m.setTl j v u tl hj hu htl
theorem Run.st (h : Run w M rv cv x se) (j : Nat) (hj : j < 7) : Wr w M (404 + j) (.int .i64 (x.st j)) := by obtain ⟨sv, m, _⟩ := h.out; exact m.st j hj
end

theorem MAt.mos {w : World} {M : Nat} {rv cv : Value} {x : Ms} (h : MAt w M rv cv x) (l : List (Nat × Obj)) : MAt w M rv cv { x with mo := l } := by
  obtain ⟨c, hh, hc⟩ := h.out
  exact ⟨c, hh, hc.big, hc.at_, hc.tail⟩
/-- What is left alone, is as it was. -/
theorem Run.left {w : World} {M : Nat} {rv cv : Value} {x : Ms} {se : List Se} (h : Run w M rv cv x se) {q : Nat × Obj} (hq : q ∈ x.mo) : w.heap[q.1]? = some q.2 := by obtain ⟨sv, _, _, h3⟩ := h.out; exact (h3 q hq).2.2
/-- A new block is one that is left alone. -/
theorem Run.beside {w : World} {M : Nat} {rv cv : Value} {x : Ms} {se : List Se} (h : Run w M rv cv x se) (o : Obj) : Run (w.alloc o) M rv cv { x with mo := (w.heap.size, o) :: x.mo } se := by
  have h0 := h.alloc o
  obtain ⟨sv, h1, h2, h3⟩ := h.out
  refine ⟨sv, (h1.alloc o).mos _, h2.kept (World.grownBy_alloc w o none) (fun b hb => by cases hb), fun q hq => ?_⟩
  rcases List.mem_cons.1 hq with rfl | hq
  · refine ⟨h.lt, fun e => ?_, heap_alloc_last w o⟩
    have := (World.ownsRow.lt h2 _ e.symm).2
    dsimp only at this
    omega
  · refine ⟨(h3 q hq).1, (h3 q hq).2.1, ?_⟩
    rw [(World.grownBy_alloc w o none).block q.1 (heap_some_lt (h3 q hq).2.2) (by simp)]
    exact (h3 q hq).2.2
/-- Fewer are left alone. -/
theorem Run.fewer {w : World} {M : Nat} {rv cv : Value} {x : Ms} {se : List Se} (h : Run w M rv cv x se) (l : List (Nat × Obj)) (hl : ∀ q ∈ l, q ∈ x.mo) : Run w M rv cv { x with mo := l } se := by
  obtain ⟨sv, h1, h2, h3⟩ := h.out
  exact ⟨sv, h1.mos _, h2, fun q hq => h3 q (hl q hq)⟩

theorem below_put {w w' : World} {M : Nat} (h : Below M w w') (j : Nat) (v : Value) : Below M w (w'.setCell ⟨M, j, none⟩ v) := Below.setCell h (Nat.le_refl _) v
theorem below_alloc {w w' : World} {M : Nat} (h : Below M w w') (hM : M ≤ w'.heap.size) (o : Obj) : Below M w (w'.alloc o) := Below.alloc h hM o
theorem below_drew {w w' : World} {M : Nat} (h : Below M w w') : Below M w w'.drew := Below.drew h
theorem below_more {w w' w'' : World} {M : Nat} (h : Below M w w') (hM : M ≤ w'.heap.size) (m : More w' w'') : Below M w w'' := Below.trans h (Below.mono m hM)

end Go.Proofs.Ytbfhchhggkpbdaa

/-
  A statement whose order of evaluation is left open: one walk, in an order that is named, serves every order: what only reads is taken first; what calls or makes memory is met when nothing else can come up. No Go text in sight.
-/
namespace Go.Proofs.Ytbfhchhggkpbdaa
open Go

section
variable {P : Program} {ops : Array Oper} {Q : Exit → Act → World → Prop} {md : Region.Mode} {S : World → Prop}

/-- The named order: an operation's number, and whether it is taken first (true) or is the only one that may come up (false). -/
def ordB (md : Region.Mode) (ops : Array Oper) : List (Nat × Bool) → Array Bool → Bool
  | [], listed => (Region.ready md ops listed).isEmpty
  | (i, t) :: rest, listed =>
    (ops[i]?).isSome && (if t then Region.free md ops listed i && (Region.ready md ops listed).contains i else Region.ready md ops listed == [i]) &&
      ordB md ops rest (listed.setIfInBounds i true)

/-- An operation that reads alone: one value in every world that meets S. -/
def OrdTake (P : Program) (ops : Array Oper) (S : World → Prop) (o : Oper) (a : Act) (w : World) (K : Act → World → Prop) : Prop :=
  if Region.wanted o (yielded ops a.tmps) = true then ∃ v, (∀ i : { w' // S w' }, (execOp a.eval o).run P i.val = .ok (.value v) i.val) ∧ K (a.put o.dst v) w
  else K (a.put o.dst undef) w

/-- One that calls or makes memory: behind it S holds anew. -/
def OrdBusy (P : Program) (ops : Array Oper) (Q : Exit → Act → World → Prop) (o : Oper) (a : Act) (w : World) (K : Act → World → Prop) : Prop :=
  if Region.wanted o (yielded ops a.tmps) = true then Oper.wp P o a w K Q else K (a.put o.dst undef) w

def wpOrd (P : Program) (ops : Array Oper) (Q : Exit → Act → World → Prop) (S : World → Prop) : List (Nat × Bool) → Act → World → Prop
  | [], a, w => Q .normal a w
  | (i, t) :: rest, a, w =>
    match ops[i]? with
    | none => False
    | some o => if t then OrdTake P ops S o a w (fun a' w' => wpOrd P ops Q S rest a' w') else OrdBusy P ops Q o a w (fun a' w' => S w' ∧ wpOrd P ops Q S rest a' w')

theorem wpOrd_held (hs : Region.noSelect ops = true) (hQ : ∀ c (a : Act) d v w, Q (.panic c) (a.put d v) w → Q (.panic c) a w) :
    ∀ (l : List (Nat × Bool)) (listed : Array Bool) (a : Act) (w : World), ordB md ops l listed = true → S w → wpOrd P ops Q S l a w → wpAnyH P md ops Q S l.length listed a w
  | [], listed, a, w, hB, _, h => ⟨by simpa [ordB] using hB, h⟩
  | (i, t) :: rest, listed, a, w, hB, hS, h => by
    simp only [ordB, Bool.and_eq_true] at hB
    obtain ⟨⟨ho, hc⟩, hB'⟩ := hB
    obtain ⟨o, ho⟩ := Option.isSome_iff_exists.1 ho
    simp only [wpOrd, ho] at h
    cases t with
    | true =>
      simp only [if_true, Bool.and_eq_true] at hc h
      unfold OrdTake at h
      by_cases hw : Region.wanted o (yielded ops a.tmps) = true
      · rw [if_pos hw] at h
        obtain ⟨v, hv, hk⟩ := h
        exact wpAnyH_take ho hs hc.1 hc.2 (fun c a w => hQ c a _ _ w) (.inl ⟨hw, fun w' hw' => hv ⟨w', hw'⟩⟩) hS (wpOrd_held hs hQ rest _ _ _ hB' hS hk)
      · rw [if_neg hw] at h
        exact wpAnyH_take ho hs hc.1 hc.2 (fun c a w => hQ c a _ _ w) (.inr ⟨by simpa using hw, rfl⟩) hS (wpOrd_held hs hQ rest _ _ _ hB' hS h)
    | false =>
      simp only [Bool.false_eq_true, if_false, beq_iff_eq] at hc h
      refine wpAnyH_all hc (by simp) (fun j hj => ?_)
      obtain rfl : j = i := by simpa using hj
      unfold OrdBusy at h
      unfold wpOp
      rw [ho]
      show if Region.wanted o (yielded ops a.tmps) = true then _ else _
      by_cases hw : Region.wanted o (yielded ops a.tmps) = true
      · rw [if_pos hw] at h ⊢
        exact .inl (Oper.wp_mono (fun a' w' h' => ⟨h'.1, wpOrd_held hs hQ rest _ _ _ hB' h'.1 h'.2⟩) h)
      · rw [if_neg hw] at h ⊢
        exact ⟨hS, wpOrd_held hs hQ rest _ _ _ hB' h.1 h.2⟩

/-- The walk as a structure, so that nothing looks into it unasked. -/
structure Ord (P : Program) (ops : Array Oper) (Q : Exit → Act → World → Prop) (S : World → Prop) (l : List (Nat × Bool)) (a : Act) (w : World) : Prop where
  out : wpOrd P ops Q S l a w

/-- A region that asks the tape, by a named order. -/
theorem wp_region_ord {id : Nat} {a : Act} {w : World} (l : List (Nat × Bool)) (hm : P.follows .mixedOrders = true) (hs : Region.noSelect ops = true)
    (hB : (ordB .any ops l (Array.replicate ops.size false) && l.length == ops.size) = true) (hS : S w.drew) (h : Ord P ops (NoPanic Q) S l a w.drew) : (Code.region id ops true).wp P Q a w := by
  rw [Bool.and_eq_true] at hB
  have hl : l.length = ops.size := by simpa using hB.2
  refine wp_region_noPanic (wp_region_held_drew (S := S) hm hS (fun _ => ?_))
  rw [← hl]
  have := wpOrd_held (P := P) (md := .any) (S := S) (Q := NoPanic Q) hs (fun _ _ _ _ _ h => h) l (Array.replicate ops.size false) a w.drew hB.1 hS h.out
  rwa [← hl] at this

/-! One operation at a time, what follows behind a variable. -/
def nth {α : Type} : List α → Nat → Option α
  | [], _ => none
  | x :: _, 0 => some x
  | _ :: l, n + 1 => nth l n
theorem nth_at {α : Type} : ∀ (l : List α) (n : Nat), nth l n = l[n]?
  | [], _ => rfl
  | _ :: _, 0 => rfl
  | _ :: l, n + 1 => by rw [nth, nth_at l n]; rfl
theorem nth_arr {α : Type} {l : List α} {n : Nat} {x : α} (h : nth l n = some x) : l.toArray[n]? = some x := by rw [List.getElem?_toArray, ← nth_at]; exact h

theorem wpOrd_take {ls : List Oper} {i : Nat} {o : Oper} {rest : List (Nat × Bool)} {a : Act} {w : World} (ho' : nth ls i = some o) (hw : Region.wanted o (yielded ls.toArray a.tmps) = true)
    (h : ∀ K : Act → World → Prop, (∀ a w, Ord P ls.toArray Q S rest a w → K a w) → ∃ v, (∀ i : { w' // S w' }, (execOp a.eval o).run P i.val = .ok (.value v) i.val) ∧ K (a.put o.dst v) w) :
    Ord P ls.toArray Q S ((i, true) :: rest) a w := by
  have ho := nth_arr ho'
  refine ⟨?_⟩
  simp only [wpOrd, ho]
  unfold OrdTake
  simp only [if_true]
  rw [if_pos hw]
  exact h _ (fun _ _ h => h.out)
theorem wpOrd_busy {ls : List Oper} {i : Nat} {o : Oper} {rest : List (Nat × Bool)} {a : Act} {w : World} (ho' : nth ls i = some o) (hw : Region.wanted o (yielded ls.toArray a.tmps) = true)
    (h : ∀ K : Act → World → Prop, (∀ a w, S w → Ord P ls.toArray Q S rest a w → K a w) → Oper.wp P o a w K Q) : Ord P ls.toArray Q S ((i, false) :: rest) a w := by
  have ho := nth_arr ho'
  refine ⟨?_⟩
  simp only [wpOrd, ho, Bool.false_eq_true, if_false]
  unfold OrdBusy
  rw [if_pos hw]
  exact h _ (fun _ _ hs h => ⟨hs, h.out⟩)
/-- A move, an assignment. -/
theorem wpOrd_move {ls : List Oper} {i : Nat} {o : Oper} {x : Operand} {rest : List (Nat × Bool)} {a : Act} {w : World} (ho' : nth ls i = some o) (hop : o.op = .move x)
    (hw : Region.wanted o (yielded ls.toArray a.tmps) = true)
    (h : ∀ K : Act → World → Prop, (∀ a w, Ord P ls.toArray Q S rest a w → K a w) → K (a.put o.dst (a.eval x)) w) : Ord P ls.toArray Q S ((i, true) :: rest) a w := by
  refine wpOrd_take ho' hw (fun K hK => ⟨a.eval x, fun i => ?_, h K hK⟩)
  unfold execOp
  rw [hop]
  rfl
theorem wpOrd_assign {ls : List Oper} {i : Nat} {o : Oper} {x : Operand} {rest : List (Nat × Bool)} {a : Act} {w : World} (ho' : nth ls i = some o) (hop : o.op = .assign x)
    (hw : Region.wanted o (yielded ls.toArray a.tmps) = true)
    (h : ∀ K : Act → World → Prop, (∀ a w, Ord P ls.toArray Q S rest a w → K a w) → K (a.put o.dst (a.eval x)) w) : Ord P ls.toArray Q S ((i, true) :: rest) a w := by
  refine wpOrd_take ho' hw (fun K hK => ⟨a.eval x, fun i => ?_, h K hK⟩)
  unfold execOp
  rw [hop]
  rfl

/-- A pick whose test is false, or true. -/
theorem wpOrd_pickF {ls : List Oper} {i : Nat} {o : Oper} {c x y : Operand} {rest : List (Nat × Bool)} {a : Act} {w : World} (ho' : nth ls i = some o) (hop : o.op = .pick c x y)
    (hw : Region.wanted o (yielded ls.toArray a.tmps) = true) (hc : a.eval c = .bool false)
    (h : ∀ K : Act → World → Prop, (∀ a w, Ord P ls.toArray Q S rest a w → K a w) → K (a.put o.dst (a.eval y)) w) : Ord P ls.toArray Q S ((i, true) :: rest) a w := by
  have ho := nth_arr ho'
  refine ⟨?_⟩
  simp only [wpOrd, ho]
  unfold OrdTake
  simp only [if_true]
  rw [if_pos hw]
  refine ⟨a.eval y, fun i => ?_, h _ (fun _ _ h => h.out)⟩
  unfold execOp
  rw [hop]
  dsimp only
  rw [hc]
  rfl
theorem wpOrd_pickT {ls : List Oper} {i : Nat} {o : Oper} {c x y : Operand} {rest : List (Nat × Bool)} {a : Act} {w : World} (ho' : nth ls i = some o) (hop : o.op = .pick c x y)
    (hw : Region.wanted o (yielded ls.toArray a.tmps) = true) (hc : a.eval c = .bool true)
    (h : ∀ K : Act → World → Prop, (∀ a w, Ord P ls.toArray Q S rest a w → K a w) → K (a.put o.dst (a.eval x)) w) : Ord P ls.toArray Q S ((i, true) :: rest) a w := by
  have ho := nth_arr ho'
  refine ⟨?_⟩
  simp only [wpOrd, ho]
  unfold OrdTake
  simp only [if_true]
  rw [if_pos hw]
  refine ⟨a.eval x, fun i => ?_, h _ (fun _ _ h => h.out)⟩
  unfold execOp
  rw [hop]
  dsimp only
  rw [hc]
  rfl

/-- One that its guard passes over (its slot is as it was). -/
theorem wpOrd_skip {ls : List Oper} {i : Nat} {o : Oper} {t : Bool} {rest : List (Nat × Bool)} {a : Act} {w : World} (ho' : nth ls i = some o) (hS : S w)
    (hw : Region.wanted o (yielded ls.toArray a.tmps) = false) (hp : a.put o.dst undef = a) (h : Ord P ls.toArray Q S rest a w) : Ord P ls.toArray Q S ((i, t) :: rest) a w := by
  have ho := nth_arr ho'
  refine ⟨?_⟩
  simp only [wpOrd, ho]
  unfold OrdTake OrdBusy
  rw [hw, hp]
  cases t
  · simp only [Bool.false_eq_true, if_false]; exact ⟨hS, h.out⟩
  · simp only [Bool.false_eq_true, if_false, if_true]; exact h.out
/-- One that its guard passes over, whatever its slot held. -/
theorem wpOrd_pass {ls : List Oper} {i : Nat} {o : Oper} {t : Bool} {rest : List (Nat × Bool)} {a : Act} {w : World} (ho' : nth ls i = some o) (hS : S w)
    (hw : Region.wanted o (yielded ls.toArray a.tmps) = false)
    (h : ∀ K : Act → World → Prop, (∀ a w, Ord P ls.toArray Q S rest a w → K a w) → K (a.put o.dst undef) w) : Ord P ls.toArray Q S ((i, t) :: rest) a w := by
  have ho := nth_arr ho'
  refine ⟨?_⟩
  have hk := h (fun a w => wpOrd P ls.toArray Q S rest a w) (fun _ _ h => h.out)
  simp only [wpOrd, ho]
  unfold OrdTake OrdBusy
  rw [hw]
  cases t
  · simp only [Bool.false_eq_true, if_false]; exact ⟨hS, hk⟩
  · simp only [Bool.false_eq_true, if_false, if_true]; exact hk
theorem wpOrd_done {a : Act} {w : World} (h : Q .normal a w) : Ord P ops (NoPanic Q) S [] a w := ⟨h⟩

end
end Go.Proofs.Ytbfhchhggkpbdaa

/-
  What holds of every state that a run comes to; and the form of a slice that a run owns. No Go text in sight.
-/
namespace Go.Proofs.Ytbfhchhggkpbdaa
open Go.RowKit
set_option linter.unusedVariables false
set_option linter.unusedSimpArgs false

/-- What holds of every state that a run comes to. -/
structure Inv (p : Prg) (m : Mem) (k : Nat) (s : St) : Prop where
  at_ : s.at_ ≤ p.cl
  r : ∀ j, j < 10 → B64 (s.r j)
  ml : s.m.ml = m.ml
  len : ∀ j, s.m.len j = m.len j
  wd : ∀ j, j < m.ml → ∀ i, i < m.len j → B64 (s.m.wd j i)
  seen : s.seen.length ≤ 2 * k

theorem own_form {w : World} {base : Nat} {e : TypeId} {size : Nat} {v : Value} {n : Nat} {xs : List Value} (h : w.ownsRow base e size v n xs) : ∃ a c, v = .slice a n c := by
  rcases h.2 with ⟨h, h0⟩ | ⟨g, cap, cur, h, _⟩
  · exact ⟨none, 0, by rw [h, h0]⟩
  · exact ⟨_, cap, h⟩

end Go.Proofs.Ytbfhchhggkpbdaa

/-
  What the small methods of package seq's machine come to.
-/
namespace Go.Proofs.Ytbfhchhggkpbdaa
open Go.RowKit
set_option linter.unusedVariables false
set_option linter.unusedSimpArgs false

theorem seq_hasFuel (w : World) (M : Nat) (a b : Int) (s4 : w.cell? ⟨M, 4, none⟩ = some (.int .i64 a)) (s402 : w.cell? ⟨M, 402, none⟩ = some (.int .i64 b)) :
    Calls Try.prog 69 #[.pointer (some ⟨M, 0, none⟩)] w fun e w' => e = .returned (.bool (decide (a < b))) ∧ More w w' := by
  go_enter Try.func69, Try.ntmps69
  go_wp2
  go_region
  go_wp2
  go_ret
  exact ⟨rfl, (More.refl _).drew⟩

theorem seq_hasNext (w : World) (M : Nat) (a : Int) (ca : Option Addr) (cl cc : Nat) (s : w.cell? ⟨M, 401, none⟩ = some (.int .i64 a)) (s1 : w.cell? ⟨M, 1, none⟩ = some (.slice ca cl cc)) :
    Calls Try.prog 71 #[.pointer (some ⟨M, 0, none⟩)] w fun e w' => e = .returned (.bool (decide (a < (cl : Int)))) ∧ More w w' := by
  go_enter Try.func71, Try.ntmps71
  go_wp2
  go_region
  go_wp2
  go_ret
  exact ⟨rfl, (More.refl _).drew⟩

theorem seq_finish (w : World) (M : Nat) (rv cv : Value) (x : Ms) (se : List Se) (n : Int) (h : Run w M rv cv x se) :
    Calls Try.prog 70 #[.pointer (some ⟨M, 0, none⟩), .int .i64 n] w fun e w' => e = .returned (.tuple #[]) ∧ Run w' M rv cv { x with fin := n, ended := true } se ∧ Below M w w' := by
  obtain ⟨c0, f0⟩ := h.fin
  obtain ⟨c1, f1⟩ := h.ended
  have H : Hid (Run w M rv cv x se) := h
  clear h
  go_enter Try.func70, Try.ntmps70
  go_wp2
  go_end0
  exact ⟨rfl, (H.out.setFin n).setEnded true, below_put (below_put (Below.refl _ _) _ _) _ _⟩

theorem info79 : (Try.prog.info? 85).map (fun i => (i.zero, i.size, i.bytes)) = some (some (.agg #[.int .i64 0, .int .i64 0, .int .i64 0]), 3, 24) := by kernel_rfl
theorem cell_three_new' (w : World) (x y z : Value) (t : TypeId) : ∀ j u, [x, y, z][j]? = some u → (w.alloc (.cells #[x, y, z] t)).cell? ((⟨w.heap.size, 0, none⟩ : Addr).add j) = some u := by
  intro j u h
  rw [Go.WideShapes.add_plain]
  have hj : j = 0 ∨ j = 1 ∨ j = 2 := by have := (List.getElem?_eq_some_iff.1 h).1; simp at this; omega
  rcases hj with rfl | rfl | rfl <;> (simp at h; subst h; go_simp)

/-- A block that what was shown doesn't lie in. -/
def OwnNot (w : World) (M B : Nat) : Prop := ∀ sv, w.cell? ⟨M, 5, none⟩ = some sv → some B ≠ sv.ownBlock
theorem Run.notOwn {w : World} {M : Nat} {rv cv : Value} {x : Ms} {se : List Se} (h : Run w M rv cv x se) (B : Nat) (hB : w.heap.size ≤ B) : OwnNot w M B := by
  intro sv hc e
  obtain ⟨sv', hm, ho, _⟩ := h.out
  have h5 := hm.sv.1
  dsimp only at h5
  rw [hc] at h5
  obtain rfl := Option.some.inj h5
  have := (World.ownsRow.lt ho B e.symm).2
  omega

theorem OwnNot.of {w w' : World} {M B : Nat} (h : OwnNot w M B) (e : w'.cell? ⟨M, 5, none⟩ = w.cell? ⟨M, 5, none⟩) : OwnNot w' M B := fun sv hc => h sv (by rw [← e]; exact hc)
/-- A machine, and a block beside it. -/
structure RunA (w : World) (M : Nat) (rv cv : Value) (x : Ms) (se : List Se) (R : Nat) : Prop where
  run : Run w M rv cv x se
  own : OwnNot w M R
  ne : R ≠ M
  mo : ∀ q ∈ x.mo, q.1 ≠ R
theorem Run.moLt {w : World} {M : Nat} {rv cv : Value} {x : Ms} {se : List Se} (h : Run w M rv cv x se) : ∀ q ∈ x.mo, q.1 ≠ w.heap.size := by
  intro q e
  obtain ⟨sv, _, _, hq⟩ := h.out
  have := heap_some_lt (hq q e).2.2
  omega
theorem RunA.set {w : World} {M : Nat} {rv cv : Value} {x : Ms} {se : List Se} {R : Nat} (h : RunA w M rv cv x se R) (j : Nat) (v : Value) : RunA (w.setCell ⟨R, j, none⟩ v) M rv cv x se R := by
  obtain ⟨sv, hm, ho, hq⟩ := h.run.out
  have hne : some M ≠ some R := fun e => h.ne (Option.some.inj e).symm
  refine ⟨⟨sv, hm.kept (grown_set w R j v) hne, World.ownsRow.kept ho (grown_set w R j v) (.inr fun e => h.own sv hm.sv.1 e.symm), fun q e => ⟨(hq q e).1, (hq q e).2.1, by rw [(grown_set w R j v).block q.1 (heap_some_lt (hq q e).2.2) (fun e' => h.mo q e (Option.some.inj e'))]; exact (hq q e).2.2⟩⟩, h.own.of (World.cell?_setCell_other _ _ _ _ ?_), h.ne, h.mo⟩
  intro e
  simp only [Addr.mk.injEq] at e
  exact h.ne e.1

set_option maxHeartbeats 400000 in
theorem seq_show (w : World) (M : Nat) (rv cv : Value) (x : Ms) (se : List Se) (k a b : Int) (hl : se.length ≤ 200000) (h : Run w M rv cv x se) :
    Calls Try.prog 75 #[.pointer (some ⟨M, 0, none⟩), .int .i64 k, .int .i64 a, .int .i64 b] w fun e w' => e = .returned (.tuple #[]) ∧ Run w' M rv cv x (se ++ [⟨k, a, b⟩]) ∧ Below M w w' ∧ ∀ B, B < w.heap.size → B ≠ M → OwnNot w M B → w'.heap[B]? = w.heap[B]? ∧ OwnNot w' M B := by
  obtain ⟨sv, hm, ho, hq⟩ := h.out
  obtain ⟨sa, sc, rfl⟩ := own_form ho
  obtain ⟨c5, f5⟩ := hm.sv
  dsimp only at c5
  have hlt := hm.lt
  obtain ⟨i2, hi2, hz0, hz1, hz2⟩ := info_parts info79
  have Hi : Hid (Try.prog.info? 85 = some i2 ∧ i2.zero = some (.agg #[.int .i64 0, .int .i64 0, .int .i64 0]) ∧ i2.size = 3 ∧ i2.bytes = 24) := ⟨hi2, hz0, hz1, hz2⟩
  clear hi2 hz0 hz1 hz2
  have H : Hid (MAt w M rv cv { x with sv := .slice sa se.length sc } ∧ SeenOwn w (M + 1) (.slice sa se.length sc) se ∧ se.length ≤ 200000 ∧ M < w.heap.size) := ⟨hm, ho, hl, hlt⟩
  have Hrow : Hid (some M ≠ (Value.slice sa se.length sc).ownBlock) := fun e => by have := (World.ownsRow.lt ho M e.symm).1; omega
  have Hown : Hid (SeenOwn (w.alloc (.cells #[.int .i64 k, .int .i64 a, .int .i64 b] 85)) (M + 1) (.slice sa se.length sc) se) := ho.kept (World.grownBy_alloc w _ none) (fun b hb => by cases hb)
  have HQ : Hid (∀ q ∈ x.mo, M < q.1 ∧ some q.1 ≠ (Value.slice sa se.length sc).ownBlock ∧ w.heap[q.1]? = some q.2) := hq
  clear hm ho hl h hlt hq
  go_enter Try.func75, Try.ntmps75
  go_wp2_with (at_builtin; refine wpList_append_lies _ rfl (.tmp 13) (.tmp 18) 35 rfl (M + 1) 85 i2 (.agg #[.int .i64 0, .int .i64 0, .int .i64 0]) 3 24 Try.underlying35 Hi.out.1 Hi.out.2.1 Hi.out.2.2.1 Hi.out.2.2.2 rfl (by decide) (.slice sa se.length sc) se.length (flatS se) rfl Hown.out ⟨w.heap.size, 0, none⟩ 1 1 [.int .i64 k, .int .i64 a, .int .i64 b] rfl rfl (by simpa using cell_three_new' w (.int .i64 k) (.int .i64 a) (.int .i64 b) 85) (fun x hx => by simp at hx; rcases hx with rfl | rfl | rfl <;> rfl) (by decide) (by have := H.out.2.2.1; unfold maxLen; omega) (by have := H.out.2.2.1; omega) (by have := H.out.2.2.2; simp; omega) (w.heap.size + 1) (by simp) ?_; intro g_ cap w2 own2 gr2 hat2 hlt2; obtain ⟨t5c, t5f⟩ := (H.out.1.sv.kept (World.grownBy_alloc w (.cells #[.int .i64 k, .int .i64 a, .int .i64 b] 85) none) (by simp)).kept gr2 Hrow.out)
  go_end0
  have kp : ∀ B, B < w.heap.size → B ≠ M → some B ≠ (Value.slice sa se.length sc).ownBlock → (w2.setCell ⟨M, 5, none⟩ (.slice (some ⟨g_, 0, none⟩) (se.length + 1) cap)).heap[B]? = w.heap[B]? ∧ B ≠ g_ := by
    intro B hB hM hO
    refine ⟨by rw [Below.heap_setCell _ _ _ _ (by simpa using hM), gr2.block B (by simp; omega) hO, (World.grownBy_alloc w _ none).block B hB (by simp)], fun e => ?_⟩
    subst e
    rcases hat2 with h1 | h1
    · exact hO h1.symm
    · omega
  refine ⟨rfl, ⟨.slice (some ⟨g_, 0, none⟩) (se.length + 1) cap, ((H.out.1.alloc _).kept gr2 Hrow.out).setSv _, ?_, fun q e => ?_⟩, below_put (Below.grown (below_alloc (Below.refl _ _) (by have := H.out.2.2.2; omega) _) gr2 ?_ ?_) _ _, ?_⟩
  · refine SeenOwn.kept ?_ (grown_set _ _ _ _) (fun b hb => by have := Option.some.inj hb; omega)
    unfold SeenOwn; rw [flatS_append, List.length_append]; exact own2
  · obtain ⟨q1, q2, q3⟩ := HQ.out q e
    have h1 := kp q.1 (heap_some_lt q3) (by omega) q2
    refine ⟨q1, fun e' => h1.2 ?_, by rw [h1.1]; exact q3⟩
    simpa [Value.ownBlock] using e'
  · have := H.out.2.2.2; simp; omega
  · intro b hb; have := (World.ownsRow.lt H.out.2.1 b hb).1; omega
  · intro B hB hM hO
    have h1 := kp B hB hM (hO _ H.out.1.sv.1)
    refine ⟨h1.1, fun sv hc e => ?_⟩
    rw [World.cell?_setCell_same _ _ _ t5c] at hc
    obtain rfl := Option.some.inj hc
    exact h1.2 (by simpa [Value.ownBlock] using e)
end Go.Proofs.Ytbfhchhggkpbdaa

/-
  What the machine's Number and reach come to.
-/
namespace Go.Proofs.Ytbfhchhggkpbdaa
open Go.RowKit
set_option linter.unusedVariables false
set_option linter.unusedSimpArgs false

set_option maxHeartbeats 400000 in
theorem seq_number_r (op a b c n s t x i : Int) (w : World) (M : Nat) (hop : op = 3 ∨ op = 4) (b0 : 0 ≤ b) (b1 : b < 10) (c0 : 0 ≤ c) (c1 : c < 6) (hi : wrap64 (n + x) = i)
    (hs : w.cell? ⟨M, 404 + c.toNat, none⟩ = some (.int .i64 s)) (ht : w.cell? ⟨M, 404 + (c + 1).toNat, none⟩ = some (.int .i64 t)) (hx : w.cell? ⟨M, 7 + b.toNat, none⟩ = some (.int .i64 x)) (hM : M < w.heap.size) :
    Calls Try.prog 92 #[.pointer (some ⟨M, 0, none⟩), .agg #[.int .i64 op, .int .i64 a, .int .i64 b, .int .i64 c, .int .i64 n]] w fun e w' =>
      e = .returned (.tuple #[.int .i64 (wrap64 (i + s)), .bool (decide (0 ≤ i) && decide (i < wrap64 (t - s)))]) ∧ More w w' := by
  have hn : ¬ M = w.heap.size := by omega
  have hn' : ¬ w.heap.size = M := by omega
  have hc1 : wrap64 (c + 1) = c + 1 := by unfold wrap64; omega
  have c2 : c + 1 < 7 := by omega
  have c3 : 0 ≤ c + 1 := by omega
  have c4 : c < 7 := by omega
  have hwr := wrapEq
  by_cases h0 : 0 ≤ i
  · rcases hop with rfl | rfl
    all_goals
      go_enter Try.func92, Try.ntmps92
      go_wp2
      go_region
      go_wp2
      go_region
      go_wp2
      go_ret2
      refine ⟨by simp [h0, hi], ?_⟩
      exact ((More.refl _).alloc _ _).drew.drew
  · rcases hop with rfl | rfl
    all_goals
      go_enter Try.func92, Try.ntmps92
      go_wp2
      go_region
      go_wp2
      go_region
      go_wp2
      go_ret2
      refine ⟨by simp [hi]; omega, ?_⟩
      exact ((More.refl _).alloc _ _).drew.drew

set_option maxHeartbeats 400000 in
theorem seq_number_k (op a b c i s t : Int) (w : World) (M : Nat) (hop : op = 5 ∨ op = 6) (c0 : 0 ≤ c) (c1 : c < 6)
    (hs : w.cell? ⟨M, 404 + c.toNat, none⟩ = some (.int .i64 s)) (ht : w.cell? ⟨M, 404 + (c + 1).toNat, none⟩ = some (.int .i64 t)) (hM : M < w.heap.size) :
    Calls Try.prog 92 #[.pointer (some ⟨M, 0, none⟩), .agg #[.int .i64 op, .int .i64 a, .int .i64 b, .int .i64 c, .int .i64 i]] w fun e w' =>
      e = .returned (.tuple #[.int .i64 (wrap64 (i + s)), .bool (decide (0 ≤ i) && decide (i < wrap64 (t - s)))]) ∧ More w w' := by
  have hn : ¬ M = w.heap.size := by omega
  have hn' : ¬ w.heap.size = M := by omega
  have hc1 : wrap64 (c + 1) = c + 1 := by unfold wrap64; omega
  have c2 : c + 1 < 7 := by omega
  have c3 : 0 ≤ c + 1 := by omega
  have c4 : c < 7 := by omega
  have hwr := wrapEq
  by_cases h0 : 0 ≤ i
  · rcases hop with rfl | rfl
    all_goals
      go_enter Try.func92, Try.ntmps92
      go_wp2
      go_region
      go_wp2
      go_ret2
      refine ⟨by simp [h0], ?_⟩
      exact ((More.refl _).alloc _ _).drew
  · rcases hop with rfl | rfl
    all_goals
      go_enter Try.func92, Try.ntmps92
      go_wp2
      go_region
      go_wp2
      go_ret2
      refine ⟨by simp; omega, ?_⟩
      exact ((More.refl _).alloc _ _).drew

/-- Number, whichever of the four it is. -/
theorem seq_number (i : Ins) (w : World) (M : Nat) (rv cv : Value) (x : Ms) (se : List Se) (h : Run w M rv cv x se) (hop : i.op = 3 ∨ i.op = 4 ∨ i.op = 5 ∨ i.op = 6) (b0 : 0 ≤ i.b) (b1 : i.b < 10) (c0 : 0 ≤ i.c) (c1 : i.c < 6)
    (s0 : 0 ≤ x.st i.c.toNat) (s1 : x.st i.c.toNat ≤ x.st (i.c.toNat + 1)) (s2 : x.st (i.c.toNat + 1) ≤ 384) :
    Calls Try.prog 92 #[.pointer (some ⟨M, 0, none⟩), .agg #[.int .i64 i.op, .int .i64 i.a, .int .i64 i.b, .int .i64 i.c, .int .i64 i.n]] w fun e w' =>
      ∃ (k : Int) (b : Bool), e = .returned (.tuple #[.int .i64 k, .bool b]) ∧ (b = true ↔ 0 ≤ idxI x.r i ∧ idxI x.r i < x.st (i.c.toNat + 1) - x.st i.c.toNat) ∧ (b = true → k = x.st i.c.toNat + idxI x.r i) ∧ More w w' := by
  have ws : wrap64 (x.st (i.c.toNat + 1) - x.st i.c.toNat) = x.st (i.c.toNat + 1) - x.st i.c.toNat := by unfold wrap64; omega
  have hs := (h.st i.c.toNat (by omega)).1
  have ht := (h.st (i.c.toNat + 1) (by omega)).1
  rw [show i.c.toNat + 1 = (i.c + 1).toNat by omega] at ht
  have fin : ∀ (e : Ending) (w' : World), (e = .returned (.tuple #[.int .i64 (wrap64 (idxI x.r i + x.st i.c.toNat)), .bool (decide (0 ≤ idxI x.r i) && decide (idxI x.r i < wrap64 (x.st (i.c.toNat + 1) - x.st i.c.toNat)))]) ∧ More w w') →
      ∃ (k : Int) (b : Bool), e = .returned (.tuple #[.int .i64 k, .bool b]) ∧ (b = true ↔ 0 ≤ idxI x.r i ∧ idxI x.r i < x.st (i.c.toNat + 1) - x.st i.c.toNat) ∧ (b = true → k = x.st i.c.toNat + idxI x.r i) ∧ More w w' := by
    rintro e w' ⟨rfl, m⟩
    rw [ws]
    refine ⟨_, _, rfl, by simp, fun hb => ?_, m⟩
    simp at hb
    unfold wrap64
    omega
  by_cases h34 : i.op = 3 ∨ i.op = 4
  · have hx := (h.r i.b.toNat (by omega)).1
    have e : idxI x.r i = wrap64 (i.n + x.r i.b.toNat) := by unfold idxI; rw [if_neg (by omega), Int.add_comm]
    rw [show (i.c.toNat + 1) = (i.c + 1).toNat by omega] at fin ⊢
    exact (seq_number_r i.op i.a i.b i.c i.n _ _ _ _ w M h34 b0 b1 c0 c1 e.symm hs ht hx h.lt).mono fin
  · have e : idxI x.r i = i.n := by unfold idxI; rw [if_pos (by omega)]
    rw [show (i.c.toNat + 1) = (i.c + 1).toNat by omega] at fin ⊢
    rw [e] at fin ⊢
    exact (seq_number_k i.op i.a i.b i.c i.n _ _ w M (by omega) c0 c1 hs ht h.lt).mono fin

theorem seq_reach_there (i : Ins) (how : Int) (w : World) (M : Nat) (rv cv : Value) (x : Ms) (se : List Se) (h : Run w M rv cv x se) (hl : se.length ≤ 200000) (hop : i.op = 3 ∨ i.op = 4 ∨ i.op = 5 ∨ i.op = 6) (b0 : 0 ≤ i.b) (b1 : i.b < 10) (c0 : 0 ≤ i.c) (c1 : i.c < 6)
    (s0 : 0 ≤ x.st i.c.toNat) (s1 : x.st i.c.toNat ≤ x.st (i.c.toNat + 1)) (s2 : x.st (i.c.toNat + 1) ≤ 384) (hin : 0 ≤ idxI x.r i ∧ idxI x.r i < x.st (i.c.toNat + 1) - x.st i.c.toNat) :
    Calls Try.prog 72 #[.pointer (some ⟨M, 0, none⟩), .agg #[.int .i64 i.op, .int .i64 i.a, .int .i64 i.b, .int .i64 i.c, .int .i64 i.n], .int .i64 how] w fun e w' =>
      e = .returned (.tuple #[.int .i64 (x.st i.c.toNat + idxI x.r i), .bool true]) ∧ Run w' M rv cv x (se ++ [⟨2, x.st i.c.toNat + idxI x.r i, how⟩]) ∧ Below M w w' := by
  have hN := fun w1 (m : More w w1) => seq_number i w1 M rv cv x se (h.more m) hop b0 b1 c0 c1 s0 s1 s2
  obtain ⟨op, a, b, c, n⟩ := i
  dsimp only at *
  have HN : Hid (∀ w1, More w w1 → Calls Try.prog 92 #[.pointer (some ⟨M, 0, none⟩), .agg #[.int .i64 op, .int .i64 a, .int .i64 b, .int .i64 c, .int .i64 n]] w1 fun e w' => e = .returned (.tuple #[.int .i64 (x.st c.toNat + idxI x.r ⟨op, a, b, c, n⟩), .bool true]) ∧ More w1 w') := by
    intro w1 m
    refine (hN w1 m).mono ?_
    rintro e w2 ⟨k, b, rfl, h1, h2, m2⟩
    obtain rfl : b = true := h1.2 hin
    rw [h2 rfl]
    exact ⟨rfl, m2⟩
  have H : Hid (Run w M rv cv x se ∧ se.length ≤ 200000) := ⟨h, hl⟩
  obtain ⟨k, hk⟩ : ∃ k, x.st c.toNat + idxI x.r ⟨op, a, b, c, n⟩ = k := ⟨_, rfl⟩
  rw [hk] at HN ⊢
  clear hN h hl hin hk s0 s1 s2
  go_enter Try.func72, Try.ntmps72
  go_wp2_with (fail)
  refine (HN.out _ ((More.refl _).alloc _ _)).mono ?_
  rintro e w1 ⟨rfl, m1⟩
  have Hm : Hid (More w w1) := ((More.refl _).alloc _ _).trans m1
  clear m1
  go_wp2_with (fail)
  refine (seq_show _ M rv cv x se 2 k how H.out.2 (H.out.1.more Hm.out)).mono ?_
  rintro e w2 ⟨rfl, r2, b2, _⟩
  have H2 : Hid (Run w2 M rv cv x (se ++ [⟨2, k, how⟩]) ∧ Below M w1 w2) := ⟨r2, b2⟩
  clear r2 b2
  go_wp2
  go_ret2
  exact ⟨rfl, H2.out.1, Below.trans (Below.mono Hm.out (Nat.le_of_lt H.out.1.lt)) H2.out.2⟩

theorem seq_reach_not (i : Ins) (how : Int) (w : World) (M : Nat) (rv cv : Value) (x : Ms) (se : List Se) (h : Run w M rv cv x se) (hop : i.op = 3 ∨ i.op = 4 ∨ i.op = 5 ∨ i.op = 6) (b0 : 0 ≤ i.b) (b1 : i.b < 10) (c0 : 0 ≤ i.c) (c1 : i.c < 6)
    (s0 : 0 ≤ x.st i.c.toNat) (s1 : x.st i.c.toNat ≤ x.st (i.c.toNat + 1)) (s2 : x.st (i.c.toNat + 1) ≤ 384) (hin : ¬ (0 ≤ idxI x.r i ∧ idxI x.r i < x.st (i.c.toNat + 1) - x.st i.c.toNat)) :
    Calls Try.prog 72 #[.pointer (some ⟨M, 0, none⟩), .agg #[.int .i64 i.op, .int .i64 i.a, .int .i64 i.b, .int .i64 i.c, .int .i64 i.n], .int .i64 how] w fun e w' =>
      e = .returned (.tuple #[.int .i64 0, .bool false]) ∧ Run w' M rv cv { x with fin := 2, ended := true } se ∧ Below M w w' := by
  have hN := fun w1 (m : More w w1) => seq_number i w1 M rv cv x se (h.more m) hop b0 b1 c0 c1 s0 s1 s2
  obtain ⟨op, a, b, c, n⟩ := i
  dsimp only at *
  have HN : Hid (∀ w1, More w w1 → Calls Try.prog 92 #[.pointer (some ⟨M, 0, none⟩), .agg #[.int .i64 op, .int .i64 a, .int .i64 b, .int .i64 c, .int .i64 n]] w1 fun e w' => (∃ k, e = .returned (.tuple #[.int .i64 k, .bool false])) ∧ More w1 w') := by
    intro w1 m
    refine (hN w1 m).mono ?_
    rintro e w2 ⟨k, b, rfl, h1, h2, m2⟩
    cases b with
    | true => exact absurd (h1.1 rfl) hin
    | false => exact ⟨⟨k, rfl⟩, m2⟩
  have H : Hid (Run w M rv cv x se) := h
  clear hN h hin s0 s1 s2
  go_enter Try.func72, Try.ntmps72
  go_wp2_with (fail)
  refine (HN.out _ ((More.refl _).alloc _ _)).mono ?_
  rintro e w1 ⟨⟨k, rfl⟩, m1⟩
  have Hm : Hid (More w w1) := ((More.refl _).alloc _ _).trans m1
  clear m1
  go_wp2_with (fail)
  refine (seq_finish _ M rv cv x se 2 (H.out.more Hm.out)).mono ?_
  rintro e w2 ⟨rfl, r2, b2⟩
  have H2 : Hid (Run w2 M rv cv { x with fin := 2, ended := true } se ∧ Below M w1 w2) := ⟨r2, b2⟩
  clear r2 b2
  go_wp2
  go_ret2
  exact ⟨rfl, H2.out.1, Below.trans (Below.mono Hm.out (Nat.le_of_lt H.out.lt)) H2.out.2⟩
end Go.Proofs.Ytbfhchhggkpbdaa
