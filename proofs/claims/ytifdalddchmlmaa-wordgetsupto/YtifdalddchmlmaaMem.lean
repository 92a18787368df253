/-
  Plain facts: programs as data, which of them may be, and how they lie in memory; worlds that have grown. No Go text in sight.
-/
import Derived.WalkKit
import Derived.Deep.WholeRow
namespace Go.Proofs.Ytifdalddchmlmaa
open Go.RowKit

/-! ### A world with new blocks: what was there is as it was -/
def More (w w' : World) : Prop := Below w.heap.size w w'

theorem More.refl (w : World) : More w w := Below.refl _ _
theorem More.size {w w' : World} (h : More w w') : w.heap.size ≤ w'.heap.size := Below.size h
theorem More.block {w w' : World} (h : More w w') (i : Nat) (hi : i < w.heap.size) : w'.heap[i]? = w.heap[i]? := Below.block h i hi
theorem More.trans {a b c : World} (h : More a b) (k : More b c) : More a c := Below.trans h (Below.mono k h.size)
theorem More.alloc {w w' : World} (h : More w w') (c : Array Value) (t : TypeId) : More w (w'.alloc (.cells c t)) := Below.alloc h h.size _
theorem More.setCell {w w' : World} (h : More w w') {a : Addr} (ha : w.heap.size ≤ a.block) (v : Value) : More w (w'.setCell a v) := Below.setCell h ha v
theorem More.drew {w w' : World} (h : More w w') : More w w'.drew := Below.drew h
theorem More.grownBy {w w1 w2 : World} {row : Option Nat} (h : More w w1) (hg : w1.grownBy w2 row) (hr : ∀ k, row = some k → w.heap.size ≤ k) : More w w2 := Below.grown h hg h.size hr
theorem cell_block {w : World} {a : Addr} {v : Value} (h : w.cell? a = some v) : a.block < w.heap.size := by
  rcases Nat.lt_or_ge a.block w.heap.size with h' | h'
  · exact h'
  · have e : w.heap[a.block]? = none := by simp [h']
    unfold World.cell? at h
    simp [e] at h
theorem More.cell {w w' : World} (h : More w w') {a : Addr} {v : Value} (hc : w.cell? a = some v) : w'.cell? a = some v := by
  rw [Below.cell h (cell_block hc)]; exact hc

/-! ### What a call tells that answers a bool -/
def Says (P : Prop) (w : World) (e : Ending) (w' : World) : Prop := ∃ r : Bool, e = .returned (.bool r) ∧ (r = true ↔ P) ∧ More w w'

theorem Says.yes {P : Prop} {w w' : World} (h : P) (m : More w w') : Says P w (.returned (.bool true)) w' := ⟨true, rfl, by simp [h], m⟩
theorem Says.no {P : Prop} {w w' : World} (h : ¬ P) (m : More w w') : Says P w (.returned (.bool false)) w' := ⟨false, rfl, by simp [h], m⟩

/-! ### Programs as data -/
structure Ins where
  op : Int
  a : Int
  b : Int
  c : Int
  n : Int

/-- Regions, by their Log and whether they are secret; instructions. -/
structure Prg where
  rl : Nat
  log : Nat → Int
  sec : Nat → Bool
  cl : Nat
  ins : Nat → Ins

def RegionsOk (rl : Nat) (log : Nat → Int) : Prop := rl ≤ 6 ∧ ∀ i, i < rl → 0 ≤ log i ∧ log i ≤ 6

/-- A register. -/
def Reg (regs x : Int) : Prop := 0 ≤ x ∧ x < regs
/-- The number of a region. -/
def Rgn (rl : Nat) (x : Int) : Prop := 0 ≤ x ∧ x < rl
/-- The number of an instruction. -/
def Plc (cl : Nat) (x : Int) : Prop := 0 ≤ x ∧ x < cl
/-- The number of a word of region x. -/
def Wrd (log : Nat → Int) (c n : Int) : Prop := 0 ≤ n ∧ n < 2 ^ (log c.toNat).toNat

/-- B1: an instruction of a program with so many regions, instructions, registers. -/
def InsOk (rl : Nat) (log : Nat → Int) (cl : Nat) (regs : Int) (i : Ins) : Prop :=
  if i.op = 1 then Reg regs i.a ∧ i.b = 0 ∧ i.c = 0
  else if i.op = 2 then Reg regs i.a ∧ Reg regs i.b ∧ i.c = 0 ∧ i.n = 0
  else if i.op = 3 then Reg regs i.a ∧ Reg regs i.b ∧ Rgn rl i.c
  else if i.op = 4 then Reg regs i.a ∧ Reg regs i.b ∧ Rgn rl i.c
  else if i.op = 5 then Reg regs i.a ∧ i.b = 0 ∧ Rgn rl i.c ∧ Wrd log i.c i.n
  else if i.op = 6 then Reg regs i.a ∧ i.b = 0 ∧ Rgn rl i.c ∧ Wrd log i.c i.n
  else if i.op = 7 then i.a = 0 ∧ i.b = 0 ∧ i.c = 0 ∧ Plc cl i.n
  else if i.op = 8 then Reg regs i.a ∧ Reg regs i.b ∧ (1 ≤ i.c ∧ i.c ≤ 4) ∧ Plc cl i.n
  else if i.op = 9 then Reg regs i.a ∧ i.b = 0 ∧ i.c = 0 ∧ i.n = 0
  else if i.op = 10 then Reg regs i.a ∧ Reg regs i.b ∧ i.c = 0
  else if i.op = 11 then Reg regs i.a ∧ i.b = 0 ∧ i.c = 0 ∧ 1 ≤ i.n ∧ i.n ≤ 64
  else if i.op = 12 then i.a = 0 ∧ i.b = 0 ∧ i.c = 0 ∧ i.n = 0
  else (21 ≤ i.op ∧ i.op ≤ 30) ∧ Reg regs i.a ∧ Reg regs i.b ∧ Reg regs i.c ∧ i.n = 0

def CodeOk (rl : Nat) (log : Nat → Int) (cl : Nat) (ins : Nat → Ins) (most : Nat) (regs : Int) : Prop :=
  1 ≤ cl ∧ cl ≤ most ∧ ∀ i, i < cl → InsOk rl log cl regs (ins i)

/-- B1, with so many instructions and registers at most. -/
def Prg.Ok (p : Prg) (most : Nat) (regs : Int) : Prop := RegionsOk p.rl p.log ∧ CodeOk p.rl p.log p.cl p.ins most regs

theorem InsOk.more {rl : Nat} {log : Nat → Int} {cl : Nat} {r r' : Int} (h : r ≤ r') {i : Ins} (k : InsOk rl log cl r i) : InsOk rl log cl r' i := by
  have up : ∀ x, Reg r x → Reg r' x := fun x hx => ⟨hx.1, Int.lt_of_lt_of_le hx.2 h⟩
  unfold InsOk at k ⊢
  by_cases h1 : i.op = 1
  · rw [if_pos h1] at k ⊢; exact ⟨up _ k.1, k.2⟩
  rw [if_neg h1] at k ⊢
  by_cases h2 : i.op = 2
  · rw [if_pos h2] at k ⊢; exact ⟨up _ k.1, up _ k.2.1, k.2.2⟩
  rw [if_neg h2] at k ⊢
  by_cases h3 : i.op = 3
  · rw [if_pos h3] at k ⊢; exact ⟨up _ k.1, up _ k.2.1, k.2.2⟩
  rw [if_neg h3] at k ⊢
  by_cases h4 : i.op = 4
  · rw [if_pos h4] at k ⊢; exact ⟨up _ k.1, up _ k.2.1, k.2.2⟩
  rw [if_neg h4] at k ⊢
  by_cases h5 : i.op = 5
  · rw [if_pos h5] at k ⊢; exact ⟨up _ k.1, k.2⟩
  rw [if_neg h5] at k ⊢
  by_cases h6 : i.op = 6
  · rw [if_pos h6] at k ⊢; exact ⟨up _ k.1, k.2⟩
  rw [if_neg h6] at k ⊢
  by_cases h7 : i.op = 7
  · rw [if_pos h7] at k ⊢; exact k
  rw [if_neg h7] at k ⊢
  by_cases h8 : i.op = 8
  · rw [if_pos h8] at k ⊢; exact ⟨up _ k.1, up _ k.2.1, k.2.2⟩
  rw [if_neg h8] at k ⊢
  by_cases h9 : i.op = 9
  · rw [if_pos h9] at k ⊢; exact ⟨up _ k.1, k.2⟩
  rw [if_neg h9] at k ⊢
  by_cases h10 : i.op = 10
  · rw [if_pos h10] at k ⊢; exact ⟨up _ k.1, up _ k.2.1, k.2.2⟩
  rw [if_neg h10] at k ⊢
  by_cases h11 : i.op = 11
  · rw [if_pos h11] at k ⊢; exact ⟨up _ k.1, k.2⟩
  rw [if_neg h11] at k ⊢
  by_cases h12 : i.op = 12
  · rw [if_pos h12] at k ⊢; exact k
  rw [if_neg h12] at k ⊢
  exact ⟨k.1, up _ k.2.1, up _ k.2.2.1, up _ k.2.2.2.1, k.2.2.2.2⟩

/-- Each program that may be is hard. -/
theorem Prg.Ok.hard {p : Prg} (h : p.Ok 200 8) : p.Ok 8000 10 :=
  ⟨h.1, h.2.1, by have := h.2.2.1; omega, fun i hi => (h.2.2.2 i hi).more (by decide)⟩

/-! ### Programs in memory -/
def RegsAt (w : World) (b o rl : Nat) (log : Nat → Int) (sec : Nat → Bool) : Prop :=
  ∀ i, i < rl → w.cell? ⟨b, o + i * 2, none⟩ = some (.int .i64 (log i)) ∧ w.cell? ⟨b, o + i * 2 + 1, none⟩ = some (.bool (sec i))
def CodeAt (w : World) (b o cl : Nat) (ins : Nat → Ins) : Prop :=
  ∀ i, i < cl → w.cell? ⟨b, o + i * 5, none⟩ = some (.int .i64 (ins i).op) ∧ w.cell? ⟨b, o + i * 5 + 1, none⟩ = some (.int .i64 (ins i).a) ∧ w.cell? ⟨b, o + i * 5 + 2, none⟩ = some (.int .i64 (ins i).b) ∧
    w.cell? ⟨b, o + i * 5 + 3, none⟩ = some (.int .i64 (ins i).c) ∧ w.cell? ⟨b, o + i * 5 + 4, none⟩ = some (.int .i64 (ins i).n)

theorem RegsAt.more {w w' : World} (m : More w w') {b o rl : Nat} {log : Nat → Int} {sec : Nat → Bool} (h : RegsAt w b o rl log sec) : RegsAt w' b o rl log sec :=
  fun i hi => ⟨m.cell (h i hi).1, m.cell (h i hi).2⟩
theorem CodeAt.more {w w' : World} (m : More w w') {b o cl : Nat} {ins : Nat → Ins} (h : CodeAt w b o cl ins) : CodeAt w' b o cl ins :=
  fun i hi => ⟨m.cell (h i hi).1, m.cell (h i hi).2.1, m.cell (h i hi).2.2.1, m.cell (h i hi).2.2.2.1, m.cell (h i hi).2.2.2.2⟩

/-- Where a program lies: the two slices' addresses (also as numbers, where there is an element) and capacities. -/
structure Loc where
  ra : Option Addr
  rb : Nat
  ro : Nat
  rc : Nat
  ca : Option Addr
  cb : Nat
  co : Nat
  cc : Nat

structure PIn (w : World) (p : Prg) (l : Loc) : Prop where
  hr : 0 < p.rl → l.ra = some ⟨l.rb, l.ro, none⟩
  hc : 0 < p.cl → l.ca = some ⟨l.cb, l.co, none⟩
  regs : RegsAt w l.rb l.ro p.rl p.log p.sec
  code : CodeAt w l.cb l.co p.cl p.ins

theorem PIn.more {w w' : World} (m : More w w') {p : Prg} {l : Loc} (h : PIn w p l) : PIn w' p l := ⟨h.hr, h.hc, h.regs.more m, h.code.more m⟩

def Blw (n e : Int) : Prop := 0 ≤ n ∧ n < e
def Btw (a b c : Int) : Prop := a ≤ c ∧ c ≤ b

/-- How many words a region has. -/
def wordsI (l : Int) : Int := 2 ^ l.toNat

theorem two_pow_le {k : Nat} (h : k ≤ 6) : (1 : Int) ≤ 2 ^ k ∧ (2 : Int) ^ k ≤ 64 := by
  have : k = 0 ∨ k = 1 ∨ k = 2 ∨ k = 3 ∨ k = 4 ∨ k = 5 ∨ k = 6 := by omega
  rcases this with rfl | rfl | rfl | rfl | rfl | rfl | rfl <;> decide

theorem Says.is_yes {P : Prop} (h : P) {w : World} {e : Ending} {w' : World} (s : Says P w e w') : e = .returned (.bool true) ∧ More w w' := by
  obtain ⟨r, rfl, hr, m⟩ := s
  cases r
  · simpa using hr.2 h
  · exact ⟨rfl, m⟩
theorem Says.is_no {P : Prop} (h : ¬ P) {w : World} {e : Ending} {w' : World} (s : Says P w e w') : e = .returned (.bool false) ∧ More w w' := by
  obtain ⟨r, rfl, hr, m⟩ := s
  cases r
  · exact ⟨rfl, m⟩
  · exact absurd (hr.1 rfl) h

/-- A memory: lists, by where they lie and how long they are. -/
def ListsAt (w : World) (b o ml : Nat) (A : Nat → Option Addr) (L C : Nat → Nat) : Prop := ∀ i, i < ml → w.cell? ⟨b, o + i, none⟩ = some (.slice (A i) (L i) (C i))
theorem ListsAt.more {w w' : World} (m : More w w') {b o ml : Nat} {A : Nat → Option Addr} {L C : Nat → Nat} (h : ListsAt w b o ml A L C) : ListsAt w' b o ml A L C := fun i hi => m.cell (h i hi)

/-- B2. -/
def FitsOk (rl : Nat) (log : Nat → Int) (ml : Nat) (L : Nat → Nat) : Prop := RegionsOk rl log ∧ ml = rl ∧ ∀ i, i < rl → (L i : Int) = wordsI (log i)

end Go.Proofs.Ytifdalddchmlmaa
