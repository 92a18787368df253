/-
  The texts Mem, TxPlain, BlkM, Shown, Plain, Sem, TxDig, TxWord, TxLine, TxNum, TxCanon, TxSplit, TxOp, TxRead, TxBack, one behind the other, with what is used of them.
-/
import Derived.WalkKit
import Derived.Deep.WholeRow
import Derived.Laws.Concat
import Derived.Deep.AppendLies
import Derived.OwnWalk
import Derived.Laws.OwnMore
import Derived.Laws.IdiomCopy
import Derived.RowKit
import Derived.Laws.BitsAllLaws
import Derived.Test.YtoedgnedallhnaaDoorProg
import Derived.Deep.LoopGhost
import Derived.Laws.BytesString
import Derived.Deep.OwnRows
namespace Go.Proofs.YtoedgnedallhnaaDoor
section
open Go.RowKit
def More (w w' : World) : Prop := Below w.heap.size w w'

theorem More.refl (w : World) : More w w := Below.refl _ _
theorem More.size {w w' : World} (h : More w w') : w.heap.size ≤ w'.heap.size := Below.size h
theorem More.block {w w' : World} (h : More w w') (i : Nat) (hi : i < w.heap.size) : w'.heap[i]? = w.heap[i]? := Below.block h i hi
theorem More.trans {a b c : World} (h : More a b) (k : More b c) : More a c := Below.trans h (Below.mono k h.size)
theorem More.alloc {w w' : World} (h : More w w') (c : Array Value) (t : TypeId) : More w (w'.alloc (.cells c t)) := Below.alloc h h.size _
theorem More.setCell {w w' : World} (h : More w w') {a : Addr} (ha : w.heap.size ≤ a.block) (v : Value) : More w (w'.setCell a v) := Below.setCell h ha v
theorem More.drew {w w' : World} (h : More w w') : More w w'.drew := Below.drew h
theorem More.grownBy {w w1 w2 : World} {row : Option Nat} (h : More w w1) (hg : w1.grownBy w2 row) (hr : ∀ k, row = some k → w.heap.size ≤ k) : More w w2 := Below.grown h hg h.size hr
theorem cell_block {w : World} {a : Addr} {v : Value} (h : w.cell? a = some v) : a.block < w.heap.size := by
  rcases Nat.lt_or_ge a.block w.heap.size with h' | h'
  · exact h'
  · have e : w.heap[a.block]? = none := by simp [h']
    unfold World.cell? at h
    simp [e] at h
theorem More.cell {w w' : World} (h : More w w') {a : Addr} {v : Value} (hc : w.cell? a = some v) : w'.cell? a = some v := by
  rw [Below.cell h (cell_block hc)]; exact hc

def Says (P : Prop) (w : World) (e : Ending) (w' : World) : Prop := ∃ r : Bool, e = .returned (.bool r) ∧ (r = true ↔ P) ∧ More w w'

theorem Says.yes {P : Prop} {w w' : World} (h : P) (m : More w w') : Says P w (.returned (.bool true)) w' := ⟨true, rfl, by simp [h], m⟩
theorem Says.no {P : Prop} {w w' : World} (h : ¬ P) (m : More w w') : Says P w (.returned (.bool false)) w' := ⟨false, rfl, by simp [h], m⟩

structure Ins where
  op : Int
  a : Int
  b : Int
  c : Int
  n : Int

/-- Regions, by their Log and whether they are secret; instructions. -/
structure Prg where
  rl : Nat
  log : Nat → Int
  sec : Nat → Bool
  cl : Nat
  ins : Nat → Ins

def RegionsOk (rl : Nat) (log : Nat → Int) : Prop := rl ≤ 6 ∧ ∀ i, i < rl → 0 ≤ log i ∧ log i ≤ 6

/-- A register. -/
def Reg (regs x : Int) : Prop := 0 ≤ x ∧ x < regs
/-- The number of a region. -/
def Rgn (rl : Nat) (x : Int) : Prop := 0 ≤ x ∧ x < rl
/-- The number of an instruction. -/
def Plc (cl : Nat) (x : Int) : Prop := 0 ≤ x ∧ x < cl
/-- The number of a word of region x. -/
def Wrd (log : Nat → Int) (c n : Int) : Prop := 0 ≤ n ∧ n < 2 ^ (log c.toNat).toNat

/-- B1: an instruction of a program with so many regions, instructions, registers. -/
def InsOk (rl : Nat) (log : Nat → Int) (cl : Nat) (regs : Int) (i : Ins) : Prop :=
  if i.op = 1 then Reg regs i.a ∧ i.b = 0 ∧ i.c = 0
  else if i.op = 2 then Reg regs i.a ∧ Reg regs i.b ∧ i.c = 0 ∧ i.n = 0
  else if i.op = 3 then Reg regs i.a ∧ Reg regs i.b ∧ Rgn rl i.c
  else if i.op = 4 then Reg regs i.a ∧ Reg regs i.b ∧ Rgn rl i.c
  else if i.op = 5 then Reg regs i.a ∧ i.b = 0 ∧ Rgn rl i.c ∧ Wrd log i.c i.n
  else if i.op = 6 then Reg regs i.a ∧ i.b = 0 ∧ Rgn rl i.c ∧ Wrd log i.c i.n
  else if i.op = 7 then i.a = 0 ∧ i.b = 0 ∧ i.c = 0 ∧ Plc cl i.n
  else if i.op = 8 then Reg regs i.a ∧ Reg regs i.b ∧ (1 ≤ i.c ∧ i.c ≤ 4) ∧ Plc cl i.n
  else if i.op = 9 then Reg regs i.a ∧ i.b = 0 ∧ i.c = 0 ∧ i.n = 0
  else if i.op = 10 then Reg regs i.a ∧ Reg regs i.b ∧ i.c = 0
  else if i.op = 11 then Reg regs i.a ∧ i.b = 0 ∧ i.c = 0 ∧ 1 ≤ i.n ∧ i.n ≤ 64
  else if i.op = 12 then i.a = 0 ∧ i.b = 0 ∧ i.c = 0 ∧ i.n = 0
  else (21 ≤ i.op ∧ i.op ≤ 30) ∧ Reg regs i.a ∧ Reg regs i.b ∧ Reg regs i.c ∧ i.n = 0

def CodeOk (rl : Nat) (log : Nat → Int) (cl : Nat) (ins : Nat → Ins) (most : Nat) (regs : Int) : Prop :=
  1 ≤ cl ∧ cl ≤ most ∧ ∀ i, i < cl → InsOk rl log cl regs (ins i)

/-- B1, with so many instructions and registers at most. -/
def Prg.Ok (p : Prg) (most : Nat) (regs : Int) : Prop := RegionsOk p.rl p.log ∧ CodeOk p.rl p.log p.cl p.ins most regs

def RegsAt (w : World) (b o rl : Nat) (log : Nat → Int) (sec : Nat → Bool) : Prop :=
  ∀ i, i < rl → w.cell? ⟨b, o + i * 2, none⟩ = some (.int .i64 (log i)) ∧ w.cell? ⟨b, o + i * 2 + 1, none⟩ = some (.bool (sec i))
def CodeAt (w : World) (b o cl : Nat) (ins : Nat → Ins) : Prop :=
  ∀ i, i < cl → w.cell? ⟨b, o + i * 5, none⟩ = some (.int .i64 (ins i).op) ∧ w.cell? ⟨b, o + i * 5 + 1, none⟩ = some (.int .i64 (ins i).a) ∧ w.cell? ⟨b, o + i * 5 + 2, none⟩ = some (.int .i64 (ins i).b) ∧
    w.cell? ⟨b, o + i * 5 + 3, none⟩ = some (.int .i64 (ins i).c) ∧ w.cell? ⟨b, o + i * 5 + 4, none⟩ = some (.int .i64 (ins i).n)

theorem RegsAt.more {w w' : World} (m : More w w') {b o rl : Nat} {log : Nat → Int} {sec : Nat → Bool} (h : RegsAt w b o rl log sec) : RegsAt w' b o rl log sec :=
  fun i hi => ⟨m.cell (h i hi).1, m.cell (h i hi).2⟩
theorem CodeAt.more {w w' : World} (m : More w w') {b o cl : Nat} {ins : Nat → Ins} (h : CodeAt w b o cl ins) : CodeAt w' b o cl ins :=
  fun i hi => ⟨m.cell (h i hi).1, m.cell (h i hi).2.1, m.cell (h i hi).2.2.1, m.cell (h i hi).2.2.2.1, m.cell (h i hi).2.2.2.2⟩

/-- Where a program lies: the two slices' addresses (also as numbers, where there is an element) and capacities. -/
structure Loc where
  ra : Option Addr
  rb : Nat
  ro : Nat
  rc : Nat
  ca : Option Addr
  cb : Nat
  co : Nat
  cc : Nat

structure PIn (w : World) (p : Prg) (l : Loc) : Prop where
  hr : 0 < p.rl → l.ra = some ⟨l.rb, l.ro, none⟩
  hc : 0 < p.cl → l.ca = some ⟨l.cb, l.co, none⟩
  regs : RegsAt w l.rb l.ro p.rl p.log p.sec
  code : CodeAt w l.cb l.co p.cl p.ins

theorem PIn.more {w w' : World} (m : More w w') {p : Prg} {l : Loc} (h : PIn w p l) : PIn w' p l := ⟨h.hr, h.hc, h.regs.more m, h.code.more m⟩

def Blw (n e : Int) : Prop := 0 ≤ n ∧ n < e
def Btw (a b c : Int) : Prop := a ≤ c ∧ c ≤ b

/-- How many words a region has. -/
def wordsI (l : Int) : Int := 2 ^ l.toNat

theorem two_pow_le {k : Nat} (h : k ≤ 6) : (1 : Int) ≤ 2 ^ k ∧ (2 : Int) ^ k ≤ 64 := by
  have : k = 0 ∨ k = 1 ∨ k = 2 ∨ k = 3 ∨ k = 4 ∨ k = 5 ∨ k = 6 := by omega
  rcases this with rfl | rfl | rfl | rfl | rfl | rfl | rfl <;> decide

theorem Says.is_yes {P : Prop} (h : P) {w : World} {e : Ending} {w' : World} (s : Says P w e w') : e = .returned (.bool true) ∧ More w w' := by
  obtain ⟨r, rfl, hr, m⟩ := s
  cases r
  · simpa using hr.2 h
  · exact ⟨rfl, m⟩
theorem Says.is_no {P : Prop} (h : ¬ P) {w : World} {e : Ending} {w' : World} (s : Says P w e w') : e = .returned (.bool false) ∧ More w w' := by
  obtain ⟨r, rfl, hr, m⟩ := s
  cases r
  · exact ⟨rfl, m⟩
  · exact absurd (hr.1 rfl) h
end
section
open Go.RowKit
set_option linter.unusedSimpArgs false
set_option linter.unusedVariables false
/-- A text as a value. -/
abbrev txt (l : List UInt8) : ByteArray := ⟨l.toArray⟩
theorem txt_app (x y : List UInt8) : txt x ++ txt y = txt (x ++ y) := ByteArray.mk_append_mk x y
theorem txt_size (x : List UInt8) : (txt x).size = x.length := by show x.toArray.size = _; simp

/-- The digits of a number from 0 on, of so many at most. -/
def dig : Nat → Nat → List UInt8
  | 0, _ => []
  | f + 1, k => (if k / 10 = 0 then [] else dig f (k / 10)) ++ [UInt8.ofNat (48 + k % 10)]
theorem dig_length : ∀ f k, (dig f k).length ≤ f
  | 0, _ => Nat.le_refl _
  | f + 1, k => by
    rw [dig, List.length_append]
    split
    · simp
    · have := dig_length f (k / 10); simp; omega
/-- A number's. -/
def digI (n : Int) : List UInt8 := (if n < 0 then [45] else []) ++ dig 20 n.natAbs
theorem digI_length (n : Int) : (digI n).length ≤ 21 := by
  unfold digI
  have := dig_length 20 n.natAbs
  rw [List.length_append]
  split <;> simp <;> omega
/-- An instruction's word. -/
def wordL (op c : Int) : List UInt8 :=
  if op = 21 then [97, 100, 100] else
  if op = 22 then [115, 117, 98] else
  if op = 23 then [109, 117, 108] else
  if op = 24 then [97, 110, 100] else
  if op = 25 then [111, 114] else
  if op = 26 then [120, 111, 114] else
  if op = 27 then [115, 104, 108] else
  if op = 28 then [115, 104, 114] else
  if op = 29 then [100, 105, 118] else
  if op = 30 then [109, 111, 100] else
  if op = 8 ∧ c = 1 then [115, 97, 109, 101] else
  if op = 8 ∧ c = 2 then [111, 116, 104, 101, 114] else
  if op = 8 ∧ c = 3 then [108, 101, 115, 115] else
  if op = 8 ∧ c = 4 then [109, 111, 115, 116] else
  if op = 1 then [115, 101, 116] else
  if op = 2 then [109, 111, 118, 101] else
  if op = 3 then [108, 111, 97, 100] else
  if op = 4 then [112, 117, 116] else
  if op = 5 then [108, 111, 97, 100, 107] else
  if op = 6 then [112, 117, 116, 107] else
  if op = 7 then [106, 117, 109, 112] else
  if op = 9 then [104, 97, 108, 116] else
  if op = 10 then [112, 108, 117, 115] else
  if op = 11 then [109, 97, 115, 107] else
  if op = 12 then [102, 101, 110, 99, 101] else
  []
/-- What follows it, by letters. -/
def folL (op : Int) : List UInt8 :=
  if 20 < op then [65, 66, 67] else
  if op = 1 ∨ op = 11 then [65, 78] else
  if op = 2 then [65, 66] else
  if op = 10 ∨ op = 8 then [65, 66, 78] else
  if op = 3 ∨ op = 4 then [65, 68, 66, 78] else
  if op = 5 ∨ op = 6 then [65, 68, 78] else
  if op = 7 then [78] else
  if op = 9 then [65] else []
/-- What has a word. -/
def HasW (op c : Int) : Prop := (21 ≤ op ∧ op ≤ 30) ∨ (op = 8 ∧ 1 ≤ c ∧ c ≤ 4) ∨ (0 ≤ op ∧ op ≤ 12 ∧ ¬ op = 8)
/-- What a letter stands for. -/
def pieceF (i : Ins) (f : UInt8) : List UInt8 :=
  if f = 65 then [32, 114] ++ digI i.a else if f = 66 then [32, 114] ++ digI i.b else if f = 67 then [32, 114] ++ digI i.c else if f = 68 then [32, 103] ++ digI i.c else [32] ++ digI i.n
theorem pieceF_length (i : Ins) (f : UInt8) : (pieceF i f).length ≤ 23 := by
  unfold pieceF
  have h1 := digI_length i.a
  have h2 := digI_length i.b
  have h3 := digI_length i.c
  have h4 := digI_length i.n
  repeat' split
  all_goals simp; omega
def piecesF (i : Ins) (F : List UInt8) : Nat → List UInt8
  | 0 => []
  | k + 1 => piecesF i F k ++ (match F[k]? with | some f => pieceF i f | none => [])
theorem piecesF_length (i : Ins) (F : List UInt8) : ∀ k, (piecesF i F k).length ≤ 23 * k
  | 0 => Nat.le_refl _
  | k + 1 => by
    rw [piecesF, List.length_append]
    have := piecesF_length i F k
    cases F[k]? with
    | none => simp; omega
    | some f => have := pieceF_length i f; dsimp only; omega
theorem ite_len {c : Prop} [Decidable c] {x y : List UInt8} {n : Nat} (hx : x.length ≤ n) (hy : y.length ≤ n) : (if c then x else y).length ≤ n := by split <;> assumption
theorem wordL_length (op c : Int) : (wordL op c).length ≤ 5 := by
  unfold wordL
  iterate 25 refine ite_len (by decide) ?_
  decide
theorem folL_length (op : Int) : (folL op).length ≤ 4 := by
  unfold folL
  iterate 8 refine ite_len (by decide) ?_
  decide
/-- An instruction's line. -/
def lineL (i : Ins) : List UInt8 := wordL i.op i.c ++ piecesF i (folL i.op) (folL i.op).length ++ [10]
theorem lineL_length (i : Ins) : (lineL i).length ≤ 100 := by
  unfold lineL
  have h1 := wordL_length i.op i.c
  have h2 := folL_length i.op
  have h3 := piecesF_length i (folL i.op) (folL i.op).length
  simp only [List.length_append, List.length_cons, List.length_nil]
  omega
/-- A region's line. -/
def regL (log : Int) (sec : Bool) : List UInt8 := [114, 101, 103, 105, 111, 110, 32] ++ digI log ++ (if sec then [32, 115, 101, 99, 114, 101, 116, 10] else [32, 112, 117, 98, 108, 105, 99, 10])
theorem regL_length (log : Int) (sec : Bool) : (regL log sec).length ≤ 36 := by
  unfold regL
  have := digI_length log
  cases sec <;> simp <;> omega
def regsL (p : Prg) : Nat → List UInt8
  | 0 => []
  | k + 1 => regsL p k ++ regL (p.log k) (p.sec k)
def insL_ (p : Prg) : Nat → List UInt8
  | 0 => []
  | k + 1 => insL_ p k ++ lineL (p.ins k)
theorem regsL_length (p : Prg) : ∀ k, (regsL p k).length ≤ 36 * k
  | 0 => Nat.le_refl _
  | k + 1 => by
    rw [regsL, List.length_append]
    have := regsL_length p k
    have := regL_length (p.log k) (p.sec k)
    omega
theorem insL_length (p : Prg) : ∀ k, (insL_ p k).length ≤ 100 * k
  | 0 => Nat.le_refl _
  | k + 1 => by
    rw [insL_, List.length_append]
    have := insL_length p k
    have := lineL_length (p.ins k)
    omega
/-- A program's text. -/
def textL (p : Prg) : List UInt8 := regsL p p.rl ++ insL_ p p.cl
theorem insOk_has {rl : Nat} {log : Nat → Int} {cl : Nat} {r : Int} {i : Ins} (h : InsOk rl log cl r i) : HasW i.op i.c := by
  unfold InsOk at h
  unfold HasW
  by_cases a1 : i.op = 1; · omega
  by_cases a2 : i.op = 2; · omega
  by_cases a3 : i.op = 3; · omega
  by_cases a4 : i.op = 4; · omega
  by_cases a5 : i.op = 5; · omega
  by_cases a6 : i.op = 6; · omega
  by_cases a7 : i.op = 7; · omega
  by_cases a8 : i.op = 8
  · simp [a8] at h
    omega
  by_cases a9 : i.op = 9; · omega
  by_cases a10 : i.op = 10; · omega
  by_cases a11 : i.op = 11; · omega
  by_cases a12 : i.op = 12; · omega
  simp [a1, a2, a3, a4, a5, a6, a7, a8, a9, a10, a11, a12] at h
  omega
/-- A block that holds just this, and may be written. -/
def Blk (w : World) (n : Nat) (cs : Array Value) (T : TypeId) : Prop := w.heap[n]? = some (.cells cs T (0, 0))
theorem Blk.lt {w : World} {n : Nat} {cs : Array Value} {T : TypeId} (h : Blk w n cs T) : n < w.heap.size := by
  rcases Nat.lt_or_ge n w.heap.size with q | q
  · exact q
  · unfold Blk at h; simp [q] at h
theorem Blk.more {w w' : World} {n : Nat} {cs : Array Value} {T : TypeId} (m : More w w') (h : Blk w n cs T) : Blk w' n cs T := (m.block n h.lt).trans h
theorem Blk.cell {w : World} {n : Nat} {cs : Array Value} {T : TypeId} (h : Blk w n cs T) {j : Nat} {v : Value} (e : cs[j]? = some v) : w.cell? ⟨n, j, none⟩ = some v := by rw [cell_of_row _ _ _ _ _ _ h]; exact e
theorem Blk.frozen {w : World} {n : Nat} {cs : Array Value} {T : TypeId} (h : Blk w n cs T) (j : Nat) : w.frozen? ⟨n, j, none⟩ = false := frozen_of_row _ _ _ _ _ h
theorem Blk.last (w : World) (cs : Array Value) (T : TypeId) : Blk (w.alloc (.cells cs T)) w.heap.size cs T := heap_alloc_last _ _
theorem Blk.other {w : World} {n : Nat} {cs : Array Value} {T : TypeId} (h : Blk w n cs T) {b : Nat} (hb : b ≠ n) (o : Nat) (v : Value) : Blk (w.setCell ⟨b, o, none⟩ v) n cs T := (Below.heap_setCell _ _ _ _ (fun e => hb e.symm)).trans h
theorem Blk.drew {w : World} {n : Nat} {c : Array Value} {T : TypeId} (h : Blk w n c T) : Blk w.drew n c T := h
theorem Blk.alloc {w : World} {n : Nat} {c : Array Value} {T : TypeId} (h : Blk w n c T) (d : Array Value) (U : TypeId) : Blk (w.alloc (.cells d U)) n c T := h.more ((More.refl _).alloc _ _)
theorem Blk.put {w : World} {n : Nat} {cs : Array Value} {T : TypeId} (h : Blk w n cs T) (j : Nat) (v : Value) : Blk (w.setCell ⟨n, j, none⟩ v) n (cs.setIfInBounds j v) T := by
  unfold Blk at h ⊢
  unfold World.setCell
  simp [Array.getElem?_modify, h]
end
section
open Go.RowKit
def B64 (x : Int) : Prop := -9223372036854775808 ≤ x ∧ x ≤ 9223372036854775807
theorem B64_zero : B64 0 := by unfold B64; omega

theorem grown_set (w : World) (g o : Nat) (v : Value) : w.grownBy (w.setCell ⟨g, o, none⟩ v) (some g) :=
  ⟨rfl, rfl, rfl, by simp [World.setCell], fun k _ hne => Below.heap_setCell _ _ _ _ (by simpa using hne)⟩
theorem grown_trans {a b c : World} {row : Option Nat} (h : a.grownBy b row) (k : b.grownBy c row) : a.grownBy c row :=
  ⟨k.os.trans h.os, k.tape.trans h.tape, k.output.trans h.output, Nat.le_trans h.size k.size, fun i hi hne => (k.block i (Nat.lt_of_lt_of_le hi h.size) hne).trans (h.block i hi hne)⟩
theorem More.grow {w w' : World} (h : More w w') (row : Option Nat) : w.grownBy w' row := ⟨Below.os h, Below.tape h, Below.output h, Below.size h, fun k hk _ => Below.block h k hk⟩
end
section
open Go.RowKit
set_option linter.unusedSimpArgs false
set_option linter.unusedVariables false
set_option maxRecDepth 8000
/-- A byte as a text. -/
theorem byte_text (v : Int) (w : World) : (convert 38 9 (.slice (some ⟨w.heap.size, 0, none⟩) 1 1)).run Tryd.prog (w.alloc (.cells #[.int .u8 v] 5)) = .ok (.string (txt [UInt8.ofNat v.toNat])) (w.alloc (.cells #[.int .u8 v] 5)) := by
  rw [run_convert_bytes_string _ _ _ 5 _ _ _ Tryd.underlying38 Tryd.underlying5 Tryd.underlying9]
  have h := (Blk.last w #[.int .u8 v] 5).cell (j := 0) rfl
  rw [run_bytesToString _ _ 1 1 [v] (by simp [go_sem, loadCells, h])]
  rfl

theorem hid_of0 {P : Prop} (h : P) : Hid P := h
set_option maxHeartbeats 1000000 in
theorem digits_calls (n : Int) (w : World) (hn : B64 n) : Calls Tryd.prog 19 #[.int .i64 n] w fun e w' => e = .returned (.string (txt (digI n))) ∧ More w w' := by
  suffices hP : ∀ P : Ending → World → Prop, (∀ w', More w w' → P (.returned (.string (txt (digI n)))) w') → Calls Tryd.prog 19 #[.int .i64 n] w P from hP _ (fun w' m => ⟨rfl, m⟩)
  intro P hP0
  have HP : Hid (∀ w', More w w' → P (.returned (.string (txt (digI n)))) w') := hP0
  have HB : Hid (B64 n) := hn
  clear hP0 hn
  go_enter Tryd.func19, Tryd.ntmps19
  go_wp2_with (fail)
  go_loopg [3, 4] 20 (fun g sv lv wr => ∃ (l : List UInt8) (x : Int) (a : ByteArray), sv = .string a ∧ lv = .int .i64 x ∧ Hid (a = txt l ∧ dig 20 n.natAbs = dig g x.natAbs ++ l ∧ l.length + g ≤ 20 ∧ x.natAbs < 10 ^ g ∧ (g = 20 ∨ ¬ x = 0) ∧ B64 x ∧ More w wr))
  case atStart =>
    refine ⟨[], n, _, rfl, rfl, rfl, by simp, by simp, ?_, .inl rfl, HB.out, More.refl _⟩
    have := HB.out
    unfold B64 at this
    omega
  case round =>
    obtain ⟨l, x, a, rfl, rfl, Hr⟩ := hrel
    obtain ⟨hl, hd, hlen, hx, h0, hb, hm⟩ := Hr.out
    cases gk with
    | zero => exfalso; simp at hx; rcases h0 with h0 | h0 <;> omega
    | succ g =>
      unfold B64 at hb
      have Hq : Hid (a = txt l ∧ dig 20 n.natAbs = dig (g + 1) x.natAbs ++ l ∧ l.length + (g + 1) ≤ 20 ∧ x.natAbs < 10 ^ (g + 1) ∧ B64 x ∧ More w wr) := ⟨hl, hd, hlen, hx, hb, hm⟩
      have hsz : a.size ≤ 20 := by rw [hl, txt_size]; omega
      clear hd hlen h0 hl hx hm
      -- what the round makes of it
      have key : ∀ (q : Int) (c : ByteArray), q.natAbs = x.natAbs / 10 → B64 q → c = txt [UInt8.ofNat (48 + x.natAbs % 10)] → ∀ w', More wr w' →
          (q = 0 → (n < 0 → P (.returned (.string (txt [45] ++ (c ++ a)))) w') ∧ (¬ n < 0 → P (.returned (.string (c ++ a))) w')) ∧
          (¬ q = 0 → ∃ (l : List UInt8) (x : Int) (a' : ByteArray), Value.string (c ++ a) = .string a' ∧ Value.int .i64 q = .int .i64 x ∧ Hid (a' = txt l ∧ dig 20 n.natAbs = dig g x.natAbs ++ l ∧ l.length + g ≤ 20 ∧ x.natAbs < 10 ^ g ∧ (g = 20 ∨ ¬ x = 0) ∧ B64 x ∧ More w w')) := by
        intro q c hq hqb hc w' mm
        obtain ⟨h1, h2, h3, h4, h5, h6⟩ := Hq.out
        rw [show dig (g + 1) x.natAbs = (if x.natAbs / 10 = 0 then [] else dig g (x.natAbs / 10)) ++ [UInt8.ofNat (48 + x.natAbs % 10)] from rfl] at h2
        refine ⟨fun q0 => ?_, fun q0 => ?_⟩
        · have := HP.out w' (h6.trans mm)
          have e : x.natAbs / 10 = 0 := by omega
          rw [if_pos e, List.nil_append] at h2
          rw [hc, h1, txt_app]
          unfold digI at this
          rw [h2] at this
          refine ⟨fun hn0 => ?_, fun hn0 => ?_⟩
          · rw [if_pos hn0] at this; rw [txt_app]; exact this
          · rw [if_neg hn0, List.nil_append] at this; exact this
        · have e : ¬ x.natAbs / 10 = 0 := by omega
          rw [if_neg e, List.append_assoc] at h2
          refine ⟨[UInt8.ofNat (48 + x.natAbs % 10)] ++ l, q, _, rfl, rfl, by rw [hc, h1, txt_app], by rw [hq]; exact h2, by simp; omega, ?_, .inr q0, hqb, h6.trans mm⟩
          rw [hq]
          rw [Nat.pow_succ] at h4
          omega
      have Hkey := hid_of0 key
      clear key
      by_cases hx0 : 0 ≤ x
      · have hcv := byte_text (48 + x % 10) wr
        have hk := Hkey.out (x / 10) (txt [UInt8.ofNat (48 + x % 10).toNat]) (by omega) (by unfold B64; omega) (by rw [show (48 + x % 10).toNat = 48 + x.natAbs % 10 by omega]) (wr.alloc (.cells #[.int .u8 (48 + x % 10)] 5)) ((More.refl _).alloc _ _)
        obtain ⟨c, hc⟩ : ∃ c, txt [UInt8.ofNat (48 + x % 10).toNat] = c := ⟨_, rfl⟩
        have hcs : c.size = 1 := by rw [← hc, txt_size]; rfl
        rw [hc] at hcv hk
        have HK := hid_of0 hk
        clear hk hc
        by_cases hq0 : x / 10 = 0
        · have HE := hid_of0 (HK.out.1 hq0)
          clear HK
          by_cases hn0 : n < 0
          · have HF := hid_of0 (HE.out.1 hn0)
            clear HE
            go_wp2
            exact HF.out
          · have HF := hid_of0 (HE.out.2 hn0)
            clear HE
            go_wp2
            exact HF.out
        · have HE := hid_of0 (HK.out.2 hq0)
          clear HK
          go_wp2
          go_roundg g
          case measure => omega
          case rel => exact HE.out
      · have ht : x.tmod 10 = -((-x) % 10) := by rw [tmod_eq_if, if_neg hx0]
        have hu : x.tdiv 10 = -((-x) / 10) := by
          have h1 := Int.mul_tdiv_add_tmod x 10
          omega
        obtain ⟨r, hr⟩ : ∃ r, x.tmod 10 = r := ⟨_, rfl⟩
        obtain ⟨q, hq⟩ : ∃ q, x.tdiv 10 = q := ⟨_, rfl⟩
        have hr1 : (x.natAbs % 10 : Nat) = (-r).toNat ∧ -9 ≤ r ∧ r ≤ 0 := by omega
        have hqn : q.natAbs = x.natAbs / 10 ∧ B64 q ∧ -922337203685477581 ≤ q ∧ q ≤ 0 := by unfold B64; omega
        clear ht hu
        obtain ⟨d, hd⟩ : ∃ d : Int, d = -r := ⟨_, rfl⟩
        have hk := Hkey.out q (txt [UInt8.ofNat (48 + d).toNat]) hqn.1 hqn.2.1 (by rw [show (48 + d).toNat = 48 + x.natAbs % 10 by omega])
        have hcv := byte_text (48 + d) wr
        obtain ⟨c, hc⟩ : ∃ c, txt [UInt8.ofNat (48 + d).toNat] = c := ⟨_, rfl⟩
        have hcs : c.size = 1 := by rw [← hc, txt_size]; rfl
        rw [hc] at hcv hk
        have HK := hid_of0 (hk (wr.alloc (.cells #[.int .u8 (48 + d)] 5)) ((More.refl _).alloc _ _))
        clear hk hc
        have w1 : wrap64 q = q := by unfold wrap64; omega
        by_cases hr0 : r < 0
        · have w2 : wrap64 (-r) = d := by unfold wrap64; omega
          have w3 : wrap64 (48 + d) = 48 + d := by unfold wrap64; omega
          have w4 : (48 + d) % 256 = 48 + d := by omega
          clear hr1 hqn hd
          by_cases hq0 : q = 0
          · have HE := hid_of0 (HK.out.1 hq0)
            clear HK
            by_cases hn0 : n < 0
            · have HF := hid_of0 (HE.out.1 hn0)
              clear HE
              go_wp2
              exact HF.out
            · have HF := hid_of0 (HE.out.2 hn0)
              clear HE
              go_wp2
              exact HF.out
          · have HE := hid_of0 (HK.out.2 hq0)
            have hqb : (q == 0) = false := by simp [hq0]
            clear HK
            go_wp2
            go_roundg g
            case measure => omega
            case rel => exact HE.out
        · obtain rfl : r = 0 := by omega
          obtain rfl : d = 0 := by omega
          have w3 : wrap64 48 = 48 := by unfold wrap64; omega
          simp only [Int.add_zero] at hcv
          clear hr1 hqn hd
          by_cases hq0 : q = 0
          · have HE := hid_of0 (HK.out.1 hq0)
            clear HK
            by_cases hn0 : n < 0
            · have HF := hid_of0 (HE.out.1 hn0)
              clear HE
              go_wp2
              exact HF.out
            · have HF := hid_of0 (HE.out.2 hn0)
              clear HE
              go_wp2
              exact HF.out
          · have HE := hid_of0 (HK.out.2 hq0)
            have hqb : (q == 0) = false := by simp [hq0]
            clear HK
            go_wp2
            go_roundg g
            case measure => omega
            case rel => exact HE.out
set_option maxHeartbeats 2000000 in
theorem word_calls (op c : Int) (w : World) (h : HasW op c) : Calls Tryd.prog 34 #[.int .i64 op, .int .i64 c] w fun e w' => e = .returned (.string (txt (wordL op c))) ∧ More w w' := by
  rcases h with h | ⟨rfl, h⟩ | h
  · have : op = 21 ∨ op = 22 ∨ op = 23 ∨ op = 24 ∨ op = 25 ∨ op = 26 ∨ op = 27 ∨ op = 28 ∨ op = 29 ∨ op = 30 := by omega
    clear h
    rcases this with rfl | rfl | rfl | rfl | rfl | rfl | rfl | rfl | rfl | rfl
    all_goals
      go_enter Tryd.func34, Tryd.ntmps34
      go_wp2
      go_ret
      exact ⟨rfl, (More.refl _).alloc _ _⟩
  · have : c = 1 ∨ c = 2 ∨ c = 3 ∨ c = 4 := by omega
    clear h
    rcases this with rfl | rfl | rfl | rfl
    all_goals
      go_enter Tryd.func34, Tryd.ntmps34
      go_wp2
      go_ret
      exact ⟨rfl, (More.refl _).alloc _ _⟩
  · have : op = 0 ∨ op = 1 ∨ op = 2 ∨ op = 3 ∨ op = 4 ∨ op = 5 ∨ op = 6 ∨ op = 7 ∨ op = 9 ∨ op = 10 ∨ op = 11 ∨ op = 12 := by omega
    clear h
    rcases this with rfl | rfl | rfl | rfl | rfl | rfl | rfl | rfl | rfl | rfl | rfl | rfl
    all_goals
      go_enter Tryd.func34, Tryd.ntmps34
      go_wp2
      go_ret
      exact ⟨rfl, (More.refl _).alloc _ _⟩

set_option maxHeartbeats 2000000 in
theorem follows_calls (op : Int) (w : World) : Calls Tryd.prog 35 #[.int .i64 op] w fun e w' => e = .returned (.string (txt (folL op))) ∧ More w w' := by
  have fin : ∀ l, folL op = l → (∀ P : Ending → World → Prop, P (.returned (.string (txt l))) w → Calls Tryd.prog 35 #[.int .i64 op] w P) → Calls Tryd.prog 35 #[.int .i64 op] w fun e w' => e = .returned (.string (txt (folL op))) ∧ More w w' := fun l e h => by
    rw [e]; exact h _ ⟨rfl, More.refl _⟩
  by_cases h20 : 20 < op
  · refine fin _ (by unfold folL; rw [if_pos h20]) (fun P hP => ?_)
    go_enter Tryd.func35, Tryd.ntmps35
    go_wp2
    exact hP
  have cases_ : op = 1 ∨ op = 11 ∨ op = 2 ∨ op = 10 ∨ op = 8 ∨ op = 3 ∨ op = 4 ∨ op = 5 ∨ op = 6 ∨ op = 7 ∨ op = 9 ∨ (¬ op = 1 ∧ ¬ op = 11 ∧ ¬ op = 2 ∧ ¬ op = 10 ∧ ¬ op = 8 ∧ ¬ op = 3 ∧ ¬ op = 4 ∧ ¬ op = 5 ∧ ¬ op = 6 ∧ ¬ op = 7 ∧ ¬ op = 9) := by omega
  rcases cases_ with rfl | rfl | rfl | rfl | rfl | rfl | rfl | rfl | rfl | rfl | rfl | ⟨a1, a2, a3, a4, a5, a6, a7, a8, a9, a10, a11⟩
  iterate 11
    · refine fin _ rfl (fun P hP => ?_)
      go_enter Tryd.func35, Tryd.ntmps35
      go_wp2
      exact hP
  · refine fin [] (by unfold folL; simp [h20, a1, a2, a3, a4, a5, a6, a7, a8, a9, a10, a11]) (fun P hP => ?_)
    go_enter Tryd.func35, Tryd.ntmps35
    go_wp2
    exact hP
theorem txt_get {F : List UInt8} {k : Nat} {b : UInt8} (h : F[k]? = some b) (hk : k < (txt F).size) : (txt F)[k]'hk = b := by
  have : F[k]'(by rw [txt_size] at hk; exact hk) = b := by
    rw [List.getElem?_eq_getElem (by rw [txt_size] at hk; exact hk)] at h
    exact Option.some.inj h
  rw [← this]
  show (F.toArray)[k] = _
  simp

set_option maxHeartbeats 4000000 in
theorem line_calls (i : Ins) (w : World) (hW : HasW i.op i.c) (hf : B64 i.a ∧ B64 i.b ∧ B64 i.c ∧ B64 i.n) :
    Calls Tryd.prog 20 #[.agg #[.int .i64 i.op, .int .i64 i.a, .int .i64 i.b, .int .i64 i.c, .int .i64 i.n]] w fun e w' => e = .returned (.string (txt (lineL i))) ∧ More w w' := by
  suffices hP : ∀ P : Ending → World → Prop, (∀ w', More w w' → P (.returned (.string (txt (lineL i)))) w') → Calls Tryd.prog 20 #[.agg #[.int .i64 i.op, .int .i64 i.a, .int .i64 i.b, .int .i64 i.c, .int .i64 i.n]] w P from hP _ (fun w' m => ⟨rfl, m⟩)
  intro P hP0
  have HP : Hid (∀ w', More w w' → P (.returned (.string (txt (lineL i)))) w') := hP0
  have CW : Hid (∀ w1, Calls Tryd.prog 34 #[.int .i64 i.op, .int .i64 i.c] w1 fun e w' => e = .returned (.string (txt (wordL i.op i.c))) ∧ More w1 w') := fun w1 => word_calls i.op i.c w1 hW
  have CL : Hid (∀ w1, Calls Tryd.prog 35 #[.int .i64 i.op] w1 fun e w' => e = .returned (.string (txt (folL i.op))) ∧ More w1 w') := fun w1 => follows_calls i.op w1
  have CD : Hid (∀ x, (x = i.a ∨ x = i.b ∨ x = i.c ∨ x = i.n) → ∀ w1, Calls Tryd.prog 19 #[.int .i64 x] w1 fun e w' => ∃ d : ByteArray, e = .returned (.string d) ∧ d = txt (digI x) ∧ d.size ≤ 21 ∧ More w1 w') := fun x hx w1 => by
    refine (digits_calls x w1 (by rcases hx with rfl | rfl | rfl | rfl; exact hf.1; exact hf.2.1; exact hf.2.2.1; exact hf.2.2.2)).mono ?_
    rintro e w' ⟨rfl, mm⟩
    exact ⟨_, rfl, rfl, by rw [txt_size]; exact digI_length x, mm⟩
  have HL : Hid (lineL i = wordL i.op i.c ++ piecesF i (folL i.op) (folL i.op).length ++ [10] ∧ (wordL i.op i.c).length ≤ 5 ∧ (folL i.op).length ≤ 4 ∧ ∀ k, (piecesF i (folL i.op) k).length ≤ 23 * k) := ⟨rfl, wordL_length _ _, folL_length _, piecesF_length i _⟩
  obtain ⟨W, HW⟩ : ∃ x, Hid (wordL i.op i.c = x) := ⟨_, rfl⟩
  obtain ⟨F, HF⟩ : ∃ x, Hid (folL i.op = x) := ⟨_, rfl⟩
  rw [HW.out] at CW
  rw [HF.out] at CL
  rw [HW.out, HF.out] at HL
  have HPC : Hid (∀ k f, F[k]? = some f → piecesF i F (k + 1) = piecesF i F k ++ pieceF i f) := fun k f h => by rw [piecesF, h]
  have HPF : Hid (∀ f : UInt8, pieceF i f = if f = 65 then [32, 114] ++ digI i.a else if f = 66 then [32, 114] ++ digI i.b else if f = 67 then [32, 114] ++ digI i.c else if f = 68 then [32, 103] ++ digI i.c else [32] ++ digI i.n) := fun f => rfl
  clear hP0 hW hf
  obtain ⟨op, a, b, c, n⟩ := i
  dsimp only at CW CL CD HPF ⊢
  obtain ⟨B, HB⟩ : ∃ w_ : World, Hid (w_ = w.alloc (.cells #[.int .i64 op, .int .i64 a, .int .i64 b, .int .i64 c, .int .i64 n] 49)) := ⟨_, rfl⟩
  have HBk : Hid (Blk B w.heap.size #[.int .i64 op, .int .i64 a, .int .i64 b, .int .i64 c, .int .i64 n] 49) := HB.out ▸ Blk.last _ _ _
  have HBm : Hid (More w B) := HB.out ▸ (More.refl _).alloc _ _
  go_enter Tryd.func20, Tryd.ntmps20
  go_wp2_with (fail)
  rw [← HB.out]
  refine (CW.out B).mono ?_
  rintro e w1 ⟨rfl, m1⟩
  have Hm1 : Hid (More B w1) := m1
  have c0 : w1.cell? ⟨w.heap.size, 0, none⟩ = some (.int .i64 op) := (HBk.out.more m1).cell rfl
  clear m1 CW
  go_wp2_with (fail)
  refine (CL.out w1).mono ?_
  rintro e w2 ⟨rfl, m2⟩
  have Hm2 : Hid (More B w2) := Hm1.out.trans m2
  clear m2 CL c0
  obtain ⟨fs, Hfs⟩ : ∃ x, Hid (txt F = x) := ⟨_, rfl⟩
  obtain ⟨ws, Hws⟩ : ∃ x, Hid (txt W = x) := ⟨_, rfl⟩
  rw [Hfs.out, Hws.out]
  have hfz : fs.size = F.length := by rw [← Hfs.out, txt_size]
  obtain ⟨fn, Hfn⟩ : ∃ x, Hid (F.length = x) := ⟨_, rfl⟩
  rw [Hfn.out] at hfz HL
  go_wp2_with (fail)
  go_loopg [3, 5] fn (fun g sv kv wr => ∃ (k : Nat) (s : ByteArray), k + g = fn ∧ sv = .string s ∧ kv = .int .i64 k ∧ Hid (s = txt (W ++ piecesF ⟨op, a, b, c, n⟩ F k) ∧ More B wr))
  case atStart => exact ⟨0, ws, by omega, rfl, rfl, by rw [← Hws.out]; simp [piecesF], Hm2.out⟩
  case round =>
    obtain ⟨k, s, hkg, rfl, rfl, Hr⟩ := hrel
    have hsz : s.size ≤ 5 + 23 * k := by rw [Hr.out.1, txt_size, List.length_append]; have := HL.out.2.1; have := HL.out.2.2.2 k; omega
    have hfn4 := HL.out.2.2.1
    cases gk with
    | zero =>
      obtain rfl : k = fn := by omega
      have Hend : Hid (P (.returned (.string (s ++ txt [10]))) wr) := by
        have := HP.out wr (HBm.out.trans Hr.out.2)
        rw [HL.out.1, ← txt_app, ← Hr.out.1] at this
        exact this
      clear HP
      go_wp2
      exact Hend.out
    | succ g =>
      have hk : k < fn := by omega
      obtain ⟨f, Hf⟩ : ∃ f, Hid (F[k]? = some f) := ⟨_, List.getElem?_eq_getElem (by rw [Hfn.out]; exact hk)⟩
      have hki : (k : Int) < (fs.size : Int) := by omega
      have hlt : k < fs.size := by omega
      have hget : fs[k]'hlt = f := by
        have := txt_get Hf.out (by rw [Hfs.out]; exact hlt)
        simpa [Hfs.out] using this
      have hk63 : wrap64 ((k : Int) + 1) = (k : Int) + 1 := by unfold wrap64; omega
      have Hnx : Hid (∀ x pre (d : ByteArray) w', pieceF ⟨op, a, b, c, n⟩ f = pre ++ digI x → d = txt (digI x) → More B w' → ∃ (k' : Nat) (s' : ByteArray), k' + g = fn ∧ Value.string (s ++ txt pre ++ d) = .string s' ∧ Value.int .i64 ((k : Int) + 1) = .int .i64 k' ∧ Hid (s' = txt (W ++ piecesF ⟨op, a, b, c, n⟩ F k') ∧ More B w')) := fun x pre d w' hp hd mm => by
        refine ⟨k + 1, _, by omega, rfl, by simp, ?_, mm⟩
        rw [HPC.out k f Hf.out, hp, hd, Hr.out.1, txt_app, txt_app]
        simp [List.append_assoc]
      have cc0 : ∀ j v, (#[.int .i64 op, .int .i64 a, .int .i64 b, .int .i64 c, .int .i64 n] : Array Value)[j]? = some v → wr.cell? ⟨w.heap.size, j, none⟩ = some v := fun j v h => (HBk.out.more Hr.out.2).cell h
      have c1 := cc0 1 _ rfl
      have c2 := cc0 2 _ rfl
      have c3 := cc0 3 _ rfl
      have c4 := cc0 4 _ rfl
      have Hpf := HPF.out f
      have hpz : (txt [32, 114]).size = 2 := rfl
      have hpy : (txt [32, 103]).size = 2 := rfl
      have hpx : (txt [32]).size = 1 := rfl
      clear cc0
      obtain ⟨v, hv⟩ : ∃ v : Int, (f.toNat : Int) = v := ⟨_, rfl⟩
      have hfv : ∀ (q : UInt8), v = q.toNat → f = q := fun q hq => UInt8.toNat_inj.1 (by omega)
      by_cases h65 : v = 65
      · obtain rfl : f = 65 := hfv 65 (by rw [h65]; rfl)
        have CX : Hid (∀ w1, Calls Tryd.prog 19 #[.int .i64 a] w1 fun e w' => ∃ d : ByteArray, e = .returned (.string d) ∧ d = txt (digI a) ∧ d.size ≤ 21 ∧ More w1 w') := CD.out a (by simp)
        have HN0 := hid_of0 (Hnx.out a [32, 114])
        have hpf : pieceF ⟨op, a, b, c, n⟩ 65 = [32, 114] ++ digI a := by rw [Hpf]; simp
        have HN1 := hid_of0 (fun d w' => HN0.out d w' hpf)
        clear Hnx HN0 hpf Hpf HPF CD HP hv hfv
        go_wp2_with (fail)
        refine (CX.out wr).mono ?_
        rintro e w3 ⟨d, rfl, hd, hdz, m3⟩
        have HN := hid_of0 (HN1.out d w3 hd (Hr.out.2.trans m3))
        clear m3 hd HN1 CX
        go_wp2
        go_roundg g
        case measure => omega
        case rel => exact HN.out
      by_cases h66 : v = 66
      · obtain rfl : f = 66 := hfv 66 (by rw [h66]; rfl)
        have CX : Hid (∀ w1, Calls Tryd.prog 19 #[.int .i64 b] w1 fun e w' => ∃ d : ByteArray, e = .returned (.string d) ∧ d = txt (digI b) ∧ d.size ≤ 21 ∧ More w1 w') := CD.out b (by simp)
        have HN0 := hid_of0 (Hnx.out b [32, 114])
        have hpf : pieceF ⟨op, a, b, c, n⟩ 66 = [32, 114] ++ digI b := by rw [Hpf]; simp
        have HN1 := hid_of0 (fun d w' => HN0.out d w' hpf)
        clear Hnx HN0 hpf Hpf HPF CD HP hv hfv
        go_wp2_with (fail)
        refine (CX.out wr).mono ?_
        rintro e w3 ⟨d, rfl, hd, hdz, m3⟩
        have HN := hid_of0 (HN1.out d w3 hd (Hr.out.2.trans m3))
        clear m3 hd HN1 CX
        go_wp2
        go_roundg g
        case measure => omega
        case rel => exact HN.out
      by_cases h67 : v = 67
      · obtain rfl : f = 67 := hfv 67 (by rw [h67]; rfl)
        have CX : Hid (∀ w1, Calls Tryd.prog 19 #[.int .i64 c] w1 fun e w' => ∃ d : ByteArray, e = .returned (.string d) ∧ d = txt (digI c) ∧ d.size ≤ 21 ∧ More w1 w') := CD.out c (by simp)
        have HN0 := hid_of0 (Hnx.out c [32, 114])
        have hpf : pieceF ⟨op, a, b, c, n⟩ 67 = [32, 114] ++ digI c := by rw [Hpf]; simp
        have HN1 := hid_of0 (fun d w' => HN0.out d w' hpf)
        clear Hnx HN0 hpf Hpf HPF CD HP hv hfv
        go_wp2_with (fail)
        refine (CX.out wr).mono ?_
        rintro e w3 ⟨d, rfl, hd, hdz, m3⟩
        have HN := hid_of0 (HN1.out d w3 hd (Hr.out.2.trans m3))
        clear m3 hd HN1 CX
        go_wp2
        go_roundg g
        case measure => omega
        case rel => exact HN.out
      by_cases h68 : v = 68
      · obtain rfl : f = 68 := hfv 68 (by rw [h68]; rfl)
        have CX : Hid (∀ w1, Calls Tryd.prog 19 #[.int .i64 c] w1 fun e w' => ∃ d : ByteArray, e = .returned (.string d) ∧ d = txt (digI c) ∧ d.size ≤ 21 ∧ More w1 w') := CD.out c (by simp)
        have HN0 := hid_of0 (Hnx.out c [32, 103])
        have hpf : pieceF ⟨op, a, b, c, n⟩ 68 = [32, 103] ++ digI c := by rw [Hpf]; simp
        have HN1 := hid_of0 (fun d w' => HN0.out d w' hpf)
        clear Hnx HN0 hpf Hpf HPF CD HP hv hfv
        go_wp2_with (fail)
        refine (CX.out wr).mono ?_
        rintro e w3 ⟨d, rfl, hd, hdz, m3⟩
        have HN := hid_of0 (HN1.out d w3 hd (Hr.out.2.trans m3))
        clear m3 hd HN1 CX
        go_wp2
        go_roundg g
        case measure => omega
        case rel => exact HN.out
      have n5 : (v == 65) = false := by simp [h65]
      have n6 : (v == 66) = false := by simp [h66]
      have n7 : (v == 67) = false := by simp [h67]
      have n8 : (v == 68) = false := by simp [h68]
      have CX : Hid (∀ w1, Calls Tryd.prog 19 #[.int .i64 n] w1 fun e w' => ∃ d : ByteArray, e = .returned (.string d) ∧ d = txt (digI n) ∧ d.size ≤ 21 ∧ More w1 w') := CD.out n (by simp)
      have HN0 := hid_of0 (Hnx.out n [32])
      have hpf : pieceF ⟨op, a, b, c, n⟩ f = [32] ++ digI n := by
        have e : ∀ q : UInt8, ¬ v = q.toNat → ¬ f = q := fun q hq e => hq (by rw [← hv, e])
        rw [Hpf, if_neg (e 65 h65), if_neg (e 66 h66), if_neg (e 67 h67), if_neg (e 68 h68)]
      have HN1 := hid_of0 (fun d w' => HN0.out d w' hpf)
      clear Hnx HN0 hpf Hpf HPF CD HP hfv
      go_wp2_with (fail)
      refine (CX.out wr).mono ?_
      rintro e w3 ⟨d, rfl, hd, hdz, m3⟩
      have HN := hid_of0 (HN1.out d w3 hd (Hr.out.2.trans m3))
      clear m3 hd HN1 CX
      go_wp2
      go_roundg g
      case measure => omega
      case rel => exact HN.out
/-- What the first k digits come to. -/
def valK (d : List UInt8) : Nat → Nat
  | 0 => 0
  | k + 1 => 10 * valK d k + ((d.getD k 0).toNat - 48)
theorem valK_up (d : List UInt8) : ∀ m k, k ≤ m → valK d k ≤ valK d m
  | 0, k, h => by obtain rfl : k = 0 := by omega
                  exact Nat.le_refl _
  | m + 1, k, h => by
    by_cases c : k = m + 1
    · subst c; exact Nat.le_refl _
    · have := valK_up d m k (by omega)
      rw [valK]; omega
/-- The digits of a number, of so many at most. -/
structure DigOk (below : Bool) (d : List UInt8) (most : Int) : Prop where
  pos : 1 ≤ d.length
  most : (d.length : Int) ≤ most
  lead : ¬ (d.getD 0 0 = 48 ∧ (1 < d.length ∨ below = true))
  digs : ∀ k, k < d.length → 48 ≤ (d.getD k 0).toNat ∧ (d.getD k 0).toNat ≤ 57
  fits : valK d d.length ≤ (if below then 9223372036854775808 else 9223372036854775807)
/-- Whether it is below 0, and its digits. -/
def Signed (l : List UInt8) (below : Bool) (d : List UInt8) : Prop := (below = true ∧ l = 45 :: d) ∨ (below = false ∧ l = d ∧ ∀ r, ¬ l = 45 :: r)
theorem signed_one {l : List UInt8} {b b' : Bool} {d d' : List UInt8} (h : Signed l b d) (k : Signed l b' d') : b = b' ∧ d = d' := by
  rcases h with ⟨rfl, rfl⟩ | ⟨rfl, rfl, n⟩ <;> rcases k with ⟨rfl, e⟩ | ⟨rfl, e, n'⟩
  · exact ⟨rfl, (List.cons.inj e).2⟩
  · exact absurd rfl (n' d)
  · exact absurd e (n _)
  · exact ⟨rfl, e⟩
/-- The number that a text is. -/
def NumIs (most : Int) (l : List UInt8) (v : Int) : Prop := ∃ b d, Signed l b d ∧ DigOk b d most ∧ v = if b then -(valK d d.length : Int) else (valK d d.length : Int)
theorem numIs_one {most : Int} {l : List UInt8} {v v' : Int} (h : NumIs most l v) (k : NumIs most l v') : v = v' := by
  obtain ⟨b, d, h1, _, rfl⟩ := h
  obtain ⟨b', d', k1, _, rfl⟩ := k
  obtain ⟨rfl, rfl⟩ := signed_one h1 k1
  rfl
/-- What number tells. -/
def NumAns (most : Int) (l : List UInt8) (v : Int) (ok : Bool) : Prop := (ok = true ∧ NumIs most l v) ∨ (ok = false ∧ ∀ v', ¬ NumIs most l v')
theorem num_not {most : Int} {l : List UInt8} {b : Bool} {d : List UInt8} (h : Signed l b d) (n : ¬ DigOk b d most) : ∀ v', ¬ NumIs most l v' := by
  rintro v' ⟨b', d', k1, k2, _⟩
  obtain ⟨rfl, rfl⟩ := signed_one h k1
  exact n k2

set_option maxHeartbeats 4000000 in
theorem number_calls12 (l : List UInt8) (most : Int) (w : World) (hl : l.length < 4611686018427387904) :
    Calls Tryd.prog 24 #[.string (txt l), .int .i64 most] w fun e w' => ∃ v ok, e = .returned (.tuple #[.int .i64 v, .bool ok]) ∧ NumAns most l v ok ∧ w' = w := by
  suffices hP : ∀ P : Ending → World → Prop, (∀ v ok, NumAns most l v ok → P (.returned (.tuple #[.int .i64 v, .bool ok])) w) → Calls Tryd.prog 24 #[.string (txt l), .int .i64 most] w P from hP _ (fun v ok h => ⟨v, ok, rfl, h, rfl⟩)
  intro P hP0
  obtain ⟨b, d, hs⟩ : ∃ b d, Signed l b d := by
    cases l with
    | nil => exact ⟨false, [], .inr ⟨rfl, rfl, fun r h => by cases h⟩⟩
    | cons x r =>
      by_cases c : x = 45
      · subst c; exact ⟨true, r, .inl ⟨rfl, rfl⟩⟩
      · exact ⟨false, x :: r, .inr ⟨rfl, rfl, fun r' h => c (List.cons.inj h).1⟩⟩
  have HP : Hid (∀ v ok, NumAns most l v ok → P (.returned (.tuple #[.int .i64 v, .bool ok])) w) := hP0
  have Hno : Hid (¬ DigOk b d most → ∀ v, P (.returned (.tuple #[.int .i64 v, .bool false])) w) := fun n v => HP.out v false (.inr ⟨rfl, num_not hs n⟩)
  have Hyes : Hid (DigOk b d most → P (.returned (.tuple #[.int .i64 (if b then -(valK d d.length : Int) else (valK d d.length : Int)), .bool true])) w) := fun n => HP.out _ true (.inl ⟨rfl, b, d, hs, n, rfl⟩)
  have hdl : d.length ≤ l.length := by rcases hs with ⟨_, rfl⟩ | ⟨_, rfl, _⟩ <;> simp
  clear hP0 HP
  obtain ⟨ds, Hds⟩ : ∃ x, Hid (txt d = x) := ⟨_, rfl⟩
  obtain ⟨dn, Hdn⟩ : ∃ x, Hid (d.length = x) := ⟨_, rfl⟩
  have hdz : ds.size = dn := by rw [← Hds.out, txt_size, Hdn.out]
  have Hget : Hid (∀ k (hk : k < ds.size), ds[k]'hk = d.getD k 0) := fun k hk => by
    have h1 : k < d.length := by rw [Hdn.out, ← hdz]; exact hk
    have h2 : d[k]? = some (d.getD k 0) := by rw [List.getD_eq_getElem?_getD, List.getElem?_eq_getElem h1]; rfl
    have := txt_get h2 (by rw [Hds.out]; exact hk)
    simpa [Hds.out] using this
  -- the two ways to the digits
  have pre : (b = true ∧ ∃ ss : ByteArray, txt l = ss ∧ ∃ ln : Nat, ss.size = ln ∧ 0 < ln ∧ (∀ h : 0 < ss.size, ss[0]'h = 45) ∧ ss.extract 1 ln = ds) ∨ (b = false ∧ txt l = ds ∧ (dn = 0 ∨ (0 < dn ∧ ¬ (d.getD 0 0).toNat = 45))) := by
    rcases hs with ⟨rfl, rfl⟩ | ⟨rfl, rfl, hno⟩
    · refine .inl ⟨rfl, _, rfl, d.length + 1, by rw [txt_size]; rfl, by omega, fun h => txt_get (F := 45 :: d) rfl h, ?_⟩
      rw [← Hds.out]
      show (ByteArray.mk (45 :: d).toArray).extract 1 (d.length + 1) = _
      rw [ByteArray.extract_mk]
      simp
    · refine .inr ⟨rfl, Hds.out, ?_⟩
      cases l with
      | nil => left; rw [← Hdn.out]; rfl
      | cons x r =>
        right
        refine ⟨by rw [← Hdn.out]; simp, fun h => hno r ?_⟩
        have : x = 45 := UInt8.toNat_inj.1 h
        rw [this]
  clear hs
  have hdn : dn < 4611686018427387904 := by rw [← Hdn.out]; omega
  -- what is no number by its length or its first digit
  by_cases bad : dn < 1 ∨ most < dn ∨ ((d.getD 0 0).toNat = 48 ∧ (1 < dn ∨ b = true))
  · have HE := Hno.out (fun k => by
      have h1 := k.pos
      have h2 := k.most
      have h3 := k.lead
      rw [Hdn.out] at h1 h2 h3
      rcases bad with c | c | c
      · omega
      · omega
      · exact h3 ⟨UInt8.toNat_inj.1 c.1, c.2⟩)
    have HE0 := hid_of0 (HE 0)
    clear HE Hno Hyes
    have hc : decide ((dn : Int) < 1) = true ∨ (decide ((dn : Int) < 1) = false ∧ decide (most < (dn : Int)) = true) ∨ (decide ((dn : Int) < 1) = false ∧ decide (most < (dn : Int)) = false ∧ ((d.getD 0 0).toNat : Int) = 48 ∧ (decide (1 < (dn : Int)) = true ∨ (decide (1 < (dn : Int)) = false ∧ b = true))) := by
      by_cases c1 : dn < 1
      · left; simp; omega
      · right
        by_cases c2 : most < dn
        · left; simp; omega
        · right
          rcases bad with c | c | c
          · omega
          · omega
          · refine ⟨by simp; omega, by simp; omega, by omega, ?_⟩
            by_cases c3 : 1 < dn
            · left; simp; omega
            · right; refine ⟨by simp; omega, ?_⟩; rcases c.2 with c | c; omega; exact c
    clear bad
    have hg0 : ∀ h : 0 < ds.size, ds[0]'h = d.getD 0 0 := fun h => Hget.out 0 h
    clear Hget
    obtain ⟨d0, Hd0⟩ : ∃ x, Hid (d.getD 0 0 = x) := ⟨_, rfl⟩
    rw [Hd0.out] at hg0 hc pre
    rcases pre with ⟨rfl, ss, hss, ln, hsz, hl0, hs0, hex⟩ | ⟨rfl, hss, hcase⟩
    · rw [hss]
      have hl0i : (0 : Int) < (ln : Int) := by omega
      rcases hc with c1 | ⟨c1, c2⟩ | ⟨c1, c2, c3, c4 | ⟨c4, _⟩⟩
      all_goals
        try have hds0 : 0 < ds.size := by simp at c1; omega
        try have hg := hg0 hds0
        try have hdi : (0 : Int) < (dn : Int) := by simp at c1; omega
        have hsp : 0 < ss.size := by omega
        have hgs := hs0 hsp
        clear hg0 hs0
        go_enter Tryd.func24, Tryd.ntmps24
        go_wp2
        exact HE0.out
    · rw [hss]
      rcases hcase with h0 | ⟨h0, h45⟩
      · subst h0
        go_enter Tryd.func24, Tryd.ntmps24
        go_wp2
        exact HE0.out
      · have hds0 : 0 < ds.size := by omega
        have hg := hg0 hds0
        have hdi : (0 : Int) < (dn : Int) := by omega
        have e45 : ((d0.toNat : Int) == 45) = false := by simp; omega
        clear hg0
        rcases hc with c1 | ⟨c1, c2⟩ | ⟨c1, c2, c3, c4 | ⟨c4, c5⟩⟩
        · simp at c1; omega
        · go_enter Tryd.func24, Tryd.ntmps24
          go_wp2
          exact HE0.out
        · go_enter Tryd.func24, Tryd.ntmps24
          go_wp2
          exact HE0.out
        · cases c5
  · have H1 : Hid (1 ≤ dn ∧ (dn : Int) ≤ most ∧ ¬ ((d.getD 0 0).toNat = 48 ∧ (1 < dn ∨ b = true))) := ⟨by omega, by omega, fun h => bad (.inr (.inr h))⟩
    have c1 : decide ((dn : Int) < 1) = false := by simp; omega
    have c2 : decide (most < (dn : Int)) = false := by simp; omega
    have hc : ((((d.getD 0 0).toNat : Int) == 48) = false) ∨ ((((d.getD 0 0).toNat : Int) == 48) = true ∧ decide (1 < (dn : Int)) = false ∧ b = false) := by
      have h3 := H1.out.2.2
      obtain ⟨n0, hn0⟩ : ∃ x, (d.getD 0 0).toNat = x := ⟨_, rfl⟩
      rw [hn0] at h3 ⊢
      by_cases c : n0 = 48
      · right
        refine ⟨by simp; omega, by simp; omega, ?_⟩
        cases hb : b with
        | false => rfl
        | true => exact absurd ⟨c, .inr hb⟩ h3
      · left; simp; omega
    have hds0 : 0 < ds.size := by omega
    have hg0 := Hget.out 0 hds0
    have hdi : (0 : Int) < (dn : Int) := by omega
    obtain ⟨d0, Hd0⟩ : ∃ x, Hid (d.getD 0 0 = x) := ⟨_, rfl⟩
    rw [Hd0.out] at hg0 hc pre
    -- what the loop comes to
    obtain ⟨top, Htop⟩ : ∃ x : Nat, Hid ((if b then 9223372036854775808 else 9223372036854775807) = x) := ⟨_, rfl⟩
    have htop : top ≤ 9223372036854775808 ∧ (b = true → top = 9223372036854775808) ∧ (b = false → top = 9223372036854775807) := by
      rw [← Htop.out]; cases b <;> simp
    have HN : Hid (∀ k, k < dn → (¬ (48 ≤ (d.getD k 0).toNat ∧ (d.getD k 0).toNat ≤ 57) ∨ top < valK d (k + 1)) → P (.returned (.tuple #[.int .i64 0, .bool false])) w) := fun k hk h => Hno.out (fun o => by
      rcases h with h | h
      · exact h (o.digs k (by rw [Hdn.out]; exact hk))
      · have h1 := o.fits
        rw [Htop.out, Hdn.out] at h1
        have := valK_up d dn (k + 1) hk
        omega) 0
    have HY : Hid ((∀ k, k < dn → 48 ≤ (d.getD k 0).toNat ∧ (d.getD k 0).toNat ≤ 57) → valK d dn ≤ top → P (.returned (.tuple #[.int .i64 (if b then -(valK d dn : Int) else (valK d dn : Int)), .bool true])) w) := fun h1 h2 => by
      have h := Hyes.out ⟨by rw [Hdn.out]; exact H1.out.1, by rw [Hdn.out]; exact H1.out.2.1, fun h => H1.out.2.2 ⟨by rw [h.1]; rfl, by rw [← Hdn.out]; exact h.2⟩, fun k hk => h1 k (by rw [← Hdn.out]; exact hk), by rw [Htop.out, Hdn.out]; exact h2⟩
      rw [Hdn.out] at h
      exact h
    clear Hno Hyes bad H1
    have hstep : ∀ k, valK d (k + 1) = 10 * valK d k + ((d.getD k 0).toNat - 48) := fun k => rfl
    have Hst := hid_of0 hstep
    clear hstep
    rcases pre with ⟨rfl, ss, hss, ln, hsz, hl0, hs0, hex⟩ | ⟨rfl, hss, hcase⟩
    · have htp := htop.2.1 rfl
      subst htp
      rcases hc with c3 | ⟨_, _, c5⟩
      · rw [hss]
        have hl0i : (0 : Int) < (ln : Int) := by omega
        have hsp : 0 < ss.size := by omega
        have hgs := hs0 hsp
        clear hs0 htop
        go_enter Tryd.func24, Tryd.ntmps24
        go_wp2_with (fail)
        go_loopg [7, 8] dn (fun g nv kv wr => ∃ (k : Nat) (nn : Int), k + g = dn ∧ nv = .int .i64 nn ∧ kv = .int .i64 k ∧ Hid (wr = w ∧ nn = -(valK d k : Int) ∧ valK d k ≤ 9223372036854775808 ∧ ∀ j, j < k → 48 ≤ (d.getD j 0).toNat ∧ (d.getD j 0).toNat ≤ 57))
        case atStart => exact ⟨0, 0, by omega, rfl, rfl, rfl, rfl, Nat.zero_le _, fun j hj => absurd hj (Nat.not_lt_zero _)⟩
        case round =>
          obtain ⟨k, nn, hkg, rfl, rfl, Hr⟩ := hrel
          obtain ⟨hwr, hnn, hV, hdg⟩ := Hr.out
          subst hwr
          cases gk with
          | zero =>
            obtain rfl : k = dn := by omega
            have t := HY.out hdg hV
            have hv : -(valK d k : Int) = nn := hnn.symm
            simp only [reduceIte, hv] at t
            have HE := hid_of0 t
            clear HY HN hdg t hv hnn hV
            go_wp2
            exact HE.out
          | succ g =>
            have hk : k < dn := by omega
            have hki : (k : Int) < (dn : Int) := by omega
            have hks : k < ds.size := by omega
            have hgk := Hget.out k hks
            have hk63 : wrap64 ((k : Int) + 1) = (k : Int) + 1 := by unfold wrap64; omega
            have hNk := HN.out k hk
            have hSt := Hst.out k
            obtain ⟨bk, Hbk⟩ : ∃ x, Hid (d.getD k 0 = x) := ⟨_, rfl⟩
            rw [Hbk.out] at hgk hNk hSt
            obtain ⟨nb, Hnb⟩ : ∃ x, Hid (bk.toNat = x) := ⟨_, rfl⟩
            have hgx : (bk.toNat : Int) = nb := by rw [Hnb.out]
            rw [Hnb.out] at hNk hSt
            obtain ⟨V, HV⟩ : ∃ x, Hid (valK d k = x) := ⟨_, rfl⟩
            obtain ⟨V', HV'⟩ : ∃ x, Hid (valK d (k + 1) = x) := ⟨_, rfl⟩
            rw [HV.out] at hV hnn hSt
            rw [HV'.out] at hNk hSt
            have Hdg := hid_of0 hdg
            clear hdg
            by_cases d1 : nb < 48
            · have HE := hid_of0 (hNk (.inl (by omega)))
              have e1 : decide ((nb : Int) < 48) = true := by simp; omega
              clear hNk HY HN
              go_wp2
              exact HE.out
            by_cases d2 : 57 < nb
            · have HE := hid_of0 (hNk (.inl (by omega)))
              have e1 : decide ((nb : Int) < 48) = false := by simp; omega
              have e2 : decide (57 < (nb : Int)) = true := by simp; omega
              clear hNk HY HN
              go_wp2
              exact HE.out
            have e1 : decide ((nb : Int) < 48) = false := by simp; omega
            have e2 : decide (57 < (nb : Int)) = false := by simp; omega
            obtain ⟨y, hy⟩ : ∃ y : Int, ((nb : Int) - 48) % 256 = y := ⟨_, rfl⟩
            have hy0 : y = (nb : Int) - 48 ∧ 0 ≤ y ∧ y ≤ 9 := by omega
            have w1 : wrap64 y = y := by unfold wrap64; omega
            obtain ⟨z, hz⟩ : ∃ z : Int, -9223372036854775807 + y = z := ⟨_, rfl⟩
            have w2 : wrap64 z = z := by unfold wrap64; omega
            obtain ⟨q, hq⟩ : ∃ q : Int, z.tdiv 10 = q := ⟨_, rfl⟩
            have hq0 : q = -((-z) / 10) := by
              have h1 := Int.mul_tdiv_add_tmod z 10
              have h2 : z.tmod 10 = -((-z) % 10) := by rw [tmod_eq_if, if_neg (by omega)]
              omega
            have w3 : wrap64 q = q := by unfold wrap64; omega
            have hnext : V' ≤ 9223372036854775808 → ∃ (k' : Nat) (nn' : Int), k' + g = dn ∧ Value.int .i64 (-(V' : Int)) = .int .i64 nn' ∧ Value.int .i64 ((k : Int) + 1) = .int .i64 k' ∧ Hid (wr = wr ∧ nn' = -(valK d k' : Int) ∧ valK d k' ≤ 9223372036854775808 ∧ ∀ j, j < k' → 48 ≤ (d.getD j 0).toNat ∧ (d.getD j 0).toNat ≤ 57) := fun hV' => by
              refine ⟨k + 1, _, by omega, rfl, by simp, rfl, by rw [HV'.out], by rw [HV'.out]; exact hV', fun j hj => ?_⟩
              by_cases c : j = k
              · subst c; rw [Hbk.out, Hnb.out]; omega
              · exact Hdg.out j (by omega)
            have Hnext := hid_of0 hnext
            clear hnext
            obtain ⟨tt, htt⟩ : ∃ t : Int, 10 * nn = t := ⟨_, rfl⟩
            by_cases ov : nn < q
            · have e3 : decide (nn < q) = true := by simp [ov]
              by_cases ex : nn = -922337203685477580 ∧ y = 8
              · have hle : V' ≤ 9223372036854775808 := by omega
                have w4 : wrap64 tt = tt := by unfold wrap64; omega
                have w5 : wrap64 (tt - y) = -(V' : Int) := by unfold wrap64; omega
                have f1 : (nn != -922337203685477580) = false := by simp [ex.1]
                have f2 : (y != 8) = false := by simp [ex.2]
                have HX := hid_of0 (Hnext.out hle)
                clear hNk HY HN Hnext hSt hq0 hy0 hnn hV d1 d2 ov hle ex
                go_wp2
                go_roundg g
                case measure => omega
                case rel => obtain ⟨k', nn', a1, a2, a3, a4⟩ := HX.out; exact ⟨k', nn', a1, a2, a3, rfl, a4.out.2⟩
              · have HE := hid_of0 (hNk (.inr (by omega)))
                have f12 : (nn != -922337203685477580) = true ∨ ((nn != -922337203685477580) = false ∧ (y != 8) = true) := by
                  by_cases c : nn = -922337203685477580
                  · right; exact ⟨by simp [c], by simp; exact fun h => ex ⟨c, h⟩⟩
                  · left; simp [c]
                clear hNk HY HN Hnext hSt hq0 hy0 hnn hV d1 d2 ov ex
                rcases f12 with f1 | ⟨f1, f2⟩
                all_goals
                  go_wp2
                  exact HE.out
            · have e3 : decide (nn < q) = false := by simp; omega
              have hle : V' ≤ 9223372036854775808 := by omega
              have w4 : wrap64 tt = tt := by unfold wrap64; omega
              have w5 : wrap64 (tt - y) = -(V' : Int) := by unfold wrap64; omega
              have HX := hid_of0 (Hnext.out hle)
              clear hNk HY HN Hnext hSt hq0 hy0 hnn hV d1 d2 ov hle
              go_wp2
              go_roundg g
              case measure => omega
              case rel => obtain ⟨k', nn', a1, a2, a3, a4⟩ := HX.out; exact ⟨k', nn', a1, a2, a3, rfl, a4.out.2⟩
      · cases c5
    · have htp := htop.2.2 rfl
      subst htp
      obtain ⟨_, h45⟩ : 0 < dn ∧ ¬ d0.toNat = 45 := by
        rcases hcase with h | h
        · omega
        · exact h
      have e45 : ((d0.toNat : Int) == 45) = false := by simp; omega
      rw [hss]
      clear htop hcase
      rcases hc with c3 | ⟨c3, c4, _⟩
      all_goals
        go_enter Tryd.func24, Tryd.ntmps24
        go_wp2_with (fail)
        go_loopg [7, 8] dn (fun g nv kv wr => ∃ (k : Nat) (nn : Int), k + g = dn ∧ nv = .int .i64 nn ∧ kv = .int .i64 k ∧ Hid (wr = w ∧ nn = -(valK d k : Int) ∧ valK d k ≤ 9223372036854775807 ∧ ∀ j, j < k → 48 ≤ (d.getD j 0).toNat ∧ (d.getD j 0).toNat ≤ 57))
        case atStart => exact ⟨0, 0, by omega, rfl, rfl, rfl, rfl, Nat.zero_le _, fun j hj => absurd hj (Nat.not_lt_zero _)⟩
        case round =>
          obtain ⟨k, nn, hkg, rfl, rfl, Hr⟩ := hrel
          obtain ⟨hwr, hnn, hV, hdg⟩ := Hr.out
          subst hwr
          cases gk with
          | zero =>
            obtain rfl : k = dn := by omega
            have t := HY.out hdg hV
            simp only [reduceIte, Bool.false_eq_true] at t
            have HE := hid_of0 t
            clear HY HN hdg t
            obtain ⟨V, HV⟩ : ∃ x, Hid (valK d k = x) := ⟨_, rfl⟩
            rw [HV.out] at HE hV hnn
            have w1 : wrap64 (-nn) = (V : Int) := by unfold wrap64; omega
            have w2 : wrap64 (0 - nn) = (V : Int) := by unfold wrap64; omega
            have f1 : (nn != -9223372036854775808) = true := by simp; omega
            clear hnn hV
            go_wp2
            exact HE.out
          | succ g =>
            have hk : k < dn := by omega
            have hki : (k : Int) < (dn : Int) := by omega
            have hks : k < ds.size := by omega
            have hgk := Hget.out k hks
            have hk63 : wrap64 ((k : Int) + 1) = (k : Int) + 1 := by unfold wrap64; omega
            have hNk := HN.out k hk
            have hSt := Hst.out k
            obtain ⟨bk, Hbk⟩ : ∃ x, Hid (d.getD k 0 = x) := ⟨_, rfl⟩
            rw [Hbk.out] at hgk hNk hSt
            obtain ⟨nb, Hnb⟩ : ∃ x, Hid (bk.toNat = x) := ⟨_, rfl⟩
            have hgx : (bk.toNat : Int) = nb := by rw [Hnb.out]
            rw [Hnb.out] at hNk hSt
            obtain ⟨V, HV⟩ : ∃ x, Hid (valK d k = x) := ⟨_, rfl⟩
            obtain ⟨V', HV'⟩ : ∃ x, Hid (valK d (k + 1) = x) := ⟨_, rfl⟩
            rw [HV.out] at hV hnn hSt
            rw [HV'.out] at hNk hSt
            have Hdg := hid_of0 hdg
            clear hdg
            by_cases d1 : nb < 48
            · have HE := hid_of0 (hNk (.inl (by omega)))
              have e1 : decide ((nb : Int) < 48) = true := by simp; omega
              clear hNk HY HN
              go_wp2
              exact HE.out
            by_cases d2 : 57 < nb
            · have HE := hid_of0 (hNk (.inl (by omega)))
              have e1 : decide ((nb : Int) < 48) = false := by simp; omega
              have e2 : decide (57 < (nb : Int)) = true := by simp; omega
              clear hNk HY HN
              go_wp2
              exact HE.out
            have e1 : decide ((nb : Int) < 48) = false := by simp; omega
            have e2 : decide (57 < (nb : Int)) = false := by simp; omega
            obtain ⟨y, hy⟩ : ∃ y : Int, ((nb : Int) - 48) % 256 = y := ⟨_, rfl⟩
            have hy0 : y = (nb : Int) - 48 ∧ 0 ≤ y ∧ y ≤ 9 := by omega
            have w1 : wrap64 y = y := by unfold wrap64; omega
            obtain ⟨z, hz⟩ : ∃ z : Int, -9223372036854775807 + y = z := ⟨_, rfl⟩
            have w2 : wrap64 z = z := by unfold wrap64; omega
            obtain ⟨q, hq⟩ : ∃ q : Int, z.tdiv 10 = q := ⟨_, rfl⟩
            have hq0 : q = -((-z) / 10) := by
              have h1 := Int.mul_tdiv_add_tmod z 10
              have h2 : z.tmod 10 = -((-z) % 10) := by rw [tmod_eq_if, if_neg (by omega)]
              omega
            have w3 : wrap64 q = q := by unfold wrap64; omega
            have hnext : V' ≤ 9223372036854775807 → ∃ (k' : Nat) (nn' : Int), k' + g = dn ∧ Value.int .i64 (-(V' : Int)) = .int .i64 nn' ∧ Value.int .i64 ((k : Int) + 1) = .int .i64 k' ∧ Hid (wr = wr ∧ nn' = -(valK d k' : Int) ∧ valK d k' ≤ 9223372036854775807 ∧ ∀ j, j < k' → 48 ≤ (d.getD j 0).toNat ∧ (d.getD j 0).toNat ≤ 57) := fun hV' => by
              refine ⟨k + 1, _, by omega, rfl, by simp, rfl, by rw [HV'.out], by rw [HV'.out]; exact hV', fun j hj => ?_⟩
              by_cases c : j = k
              · subst c; rw [Hbk.out, Hnb.out]; omega
              · exact Hdg.out j (by omega)
            have Hnext := hid_of0 hnext
            clear hnext
            obtain ⟨tt, htt⟩ : ∃ t : Int, 10 * nn = t := ⟨_, rfl⟩
            by_cases ov : nn < q
            · have e3 : decide (nn < q) = true := by simp [ov]
              have HE := hid_of0 (hNk (.inr (by omega)))
              clear hNk HY HN Hnext hSt hq0 hy0 hnn hV d1 d2 ov
              go_wp2
              exact HE.out
            · have e3 : decide (nn < q) = false := by simp; omega
              have hle : V' ≤ 9223372036854775807 := by omega
              have w4 : wrap64 tt = tt := by unfold wrap64; omega
              have w5 : wrap64 (tt - y) = -(V' : Int) := by unfold wrap64; omega
              have HX := hid_of0 (Hnext.out hle)
              clear hNk HY HN Hnext hSt hq0 hy0 hnn hV d1 d2 ov hle
              go_wp2
              go_roundg g
              case measure => omega
              case rel => obtain ⟨k', nn', a1, a2, a3, a4⟩ := HX.out; exact ⟨k', nn', a1, a2, a3, rfl, a4.out.2⟩
end
section
open Go.RowKit
set_option linter.unusedSimpArgs false
set_option linter.unusedVariables false
theorem valK_left (x y : List UInt8) : ∀ k, k ≤ x.length → valK (x ++ y) k = valK x k
  | 0, _ => rfl
  | k + 1, h => by
    rw [valK, valK, valK_left x y k (by omega)]
    congr 2
    rw [List.getD_eq_getElem?_getD, List.getD_eq_getElem?_getD, List.getElem?_append_left (by omega)]
theorem valK_snoc (x : List UInt8) (c : UInt8) : valK (x ++ [c]) (x ++ [c]).length = 10 * valK x x.length + (c.toNat - 48) := by
  rw [List.length_append]
  show valK (x ++ [c]) (x.length + 1) = _
  rw [valK, valK_left x [c] x.length (Nat.le_refl _), List.getD_eq_getElem?_getD, List.getElem?_append_right (Nat.le_refl _)]
  simp
theorem snoc_of (d : List UInt8) (h : 1 ≤ d.length) : ∃ x c, d = x ++ [c] := by
  refine ⟨d.dropLast, d.getLast (by intro e; rw [e] at h; simp at h), ?_⟩
  exact (List.dropLast_concat_getLast _).symm
/-- All digits, and no 0 ahead of others. -/
def Dec (d : List UInt8) : Prop := 1 ≤ d.length ∧ (∀ b ∈ d, 48 ≤ b.toNat ∧ b.toNat ≤ 57) ∧ (1 < d.length → ¬ d.getD 0 0 = 48)
theorem ofNat_digit (n : Nat) (h : n < 10) : (UInt8.ofNat (48 + n)).toNat = 48 + n := by
  show (48 + n) % 256 = 48 + n
  omega
theorem dig_dec : ∀ f k, k < 10 ^ f → 1 ≤ f → Dec (dig f k) ∧ valK (dig f k) (dig f k).length = k ∧ (0 < k → ¬ (dig f k).getD 0 0 = 48)
  | 0, k, h, h1 => by omega
  | f + 1, k, h, _ => by
    have hm : k % 10 < 10 := Nat.mod_lt _ (by decide)
    have hd := ofNat_digit (k % 10) hm
    rw [dig]
    by_cases c : k / 10 = 0
    · rw [if_pos c, List.nil_append]
      refine ⟨⟨by simp, fun b hb => ?_, fun h => by simp at h⟩, ?_, fun hk e => ?_⟩
      · have hb := List.mem_singleton.1 hb; rw [hb, hd]; omega
      · show 10 * 0 + ((UInt8.ofNat (48 + k % 10)).toNat - 48) = k
        rw [hd]; omega
      · have e2 : UInt8.ofNat (48 + k % 10) = 48 := by simpa using e
        have : (UInt8.ofNat (48 + k % 10)).toNat = 48 := by rw [e2]; rfl
        rw [hd] at this; omega
    · rw [if_neg c]
      have hf : 1 ≤ f := by
        rcases Nat.eq_zero_or_pos f with q | q
        · subst q; simp at h; omega
        · exact q
      have hk : k / 10 < 10 ^ f := by rw [Nat.pow_succ] at h; omega
      obtain ⟨⟨i1, i2, i3⟩, i4, i5⟩ := dig_dec f (k / 10) hk hf
      have hg : (dig f (k / 10) ++ [UInt8.ofNat (48 + k % 10)]).getD 0 0 = (dig f (k / 10)).getD 0 0 := by
        rw [List.getD_eq_getElem?_getD, List.getD_eq_getElem?_getD, List.getElem?_append_left (by omega)]
      refine ⟨⟨by simp, fun b hb => ?_, fun _ => by rw [hg]; exact i5 (by omega)⟩, ?_, fun _ => by rw [hg]; exact i5 (by omega)⟩
      · rcases List.mem_append.1 hb with hb | hb
        · exact i2 b hb
        · have hb := List.mem_singleton.1 hb; rw [hb, hd]; omega
      · rw [valK_snoc, i4, hd]; omega
/-- What is read as a number are its digits. -/
theorem dec_dig : ∀ (f : Nat) (d : List UInt8), d.length ≤ f → Dec d → dig f (valK d d.length) = d ∧ (¬ d.getD 0 0 = 48 → 0 < valK d d.length)
  | 0, d, h, k => by have := k.1; omega
  | f + 1, d, h, ⟨k1, k2, k3⟩ => by
    obtain ⟨x, c, rfl⟩ := snoc_of d k1
    have hc := k2 c (by simp)
    rw [valK_snoc]
    have hcc : UInt8.ofNat (48 + (c.toNat - 48)) = c := by
      rw [show 48 + (c.toNat - 48) = c.toNat by omega]
      simp
    by_cases hx : x.length = 0
    · obtain rfl : x = [] := List.length_eq_zero_iff.1 hx
      refine ⟨?_, fun h0 => ?_⟩
      · show dig (f + 1) (10 * 0 + (c.toNat - 48)) = [c]
        rw [dig, if_pos (by omega), show 48 + (10 * 0 + (c.toNat - 48)) % 10 = 48 + (c.toNat - 48) by omega, hcc]
        rfl
      · have h1 : ¬ c = 48 := by simpa using h0
        have h2 : ¬ c.toNat = 48 := fun e => h1 (UInt8.toNat_inj.1 e)
        show 0 < 10 * 0 + (c.toNat - 48)
        omega
    · have hg : (x ++ [c]).getD 0 0 = x.getD 0 0 := by
        rw [List.getD_eq_getElem?_getD, List.getD_eq_getElem?_getD, List.getElem?_append_left (by omega)]
      have h48 : ¬ x.getD 0 0 = 48 := by rw [← hg]; exact k3 (by simp; omega)
      obtain ⟨i1, i2⟩ := dec_dig f x (by simp at h; omega) ⟨by omega, fun b hb => k2 b (by simp [hb]), fun _ => h48⟩
      have hp := i2 h48
      refine ⟨?_, fun _ => by omega⟩
      rw [dig, if_neg (by omega), show (10 * valK x x.length + (c.toNat - 48)) / 10 = valK x x.length by omega, i1, show 48 + (10 * valK x x.length + (c.toNat - 48)) % 10 = 48 + (c.toNat - 48) by omega, hcc]
theorem dec_of_ok {b : Bool} {d : List UInt8} {most : Int} (h : DigOk b d most) : Dec d := by
  refine ⟨h.pos, fun x hx => ?_, fun h1 e => h.lead ⟨e, .inl h1⟩⟩
  obtain ⟨i, hi, rfl⟩ := List.getElem_of_mem hx
  have := h.digs i hi
  rw [List.getD_eq_getElem?_getD, List.getElem?_eq_getElem hi] at this
  exact this
theorem dig_more (k : Nat) (f : Nat) (h : k < 10 ^ f) (h1 : 1 ≤ f) (hf : f ≤ 20) : dig f k = dig 20 k := by
  obtain ⟨d1, v1, _⟩ := dig_dec f k h h1
  have hl := dig_length f k
  have := (dec_dig 20 (dig f k) (by omega) d1).1
  rw [v1] at this
  exact this.symm
/-- What is read as a number is its text. -/
theorem numIs_dig {most : Int} {l : List UInt8} {v : Int} (h : NumIs most l v) (hm : most ≤ 20) : l = digI v := by
  obtain ⟨b, d, hs, ok, rfl⟩ := h
  have hd := dec_of_ok ok
  have hl : d.length ≤ 20 := by have := ok.most; omega
  obtain ⟨e, _⟩ := dec_dig 20 d hl hd
  unfold digI
  rcases hs with ⟨rfl, rfl⟩ | ⟨rfl, rfl, _⟩
  · have h48 : ¬ d.getD 0 0 = 48 := fun q => ok.lead ⟨q, .inr rfl⟩
    have hp := (dec_dig 20 d hl hd).2 h48
    simp only [reduceIte]
    rw [if_pos (by omega), show (-(valK d d.length : Int)).natAbs = valK d d.length by omega, e]
    rfl
  · simp only [Bool.false_eq_true, reduceIte]
    rw [if_neg (by omega), show ((valK l l.length : Nat) : Int).natAbs = valK l l.length by omega, e]
    rfl
/-- A number's text is read as it. -/
theorem dig_numIs {most : Int} {v : Int} (hb : B64 v) (f : Nat) (hf : v.natAbs < 10 ^ f) (h1 : 1 ≤ f) (h20 : f ≤ 20) (hm : (f : Int) ≤ most) : NumIs most (digI v) v := by
  unfold B64 at hb
  obtain ⟨⟨d1, d2, d3⟩, hv, h0⟩ := dig_dec f v.natAbs hf h1
  have hlen := dig_length f v.natAbs
  have e20 := dig_more v.natAbs f hf h1 h20
  rw [e20] at d1 d2 d3 hv h0 hlen
  have digs : ∀ k, k < (dig 20 v.natAbs).length → 48 ≤ ((dig 20 v.natAbs).getD k 0).toNat ∧ ((dig 20 v.natAbs).getD k 0).toNat ≤ 57 := fun k hk => by
    rw [List.getD_eq_getElem?_getD, List.getElem?_eq_getElem hk]
    exact d2 _ (List.getElem_mem hk)
  unfold digI
  by_cases n : v < 0
  · rw [if_pos n]
    refine ⟨true, dig 20 v.natAbs, .inl ⟨rfl, rfl⟩, ⟨d1, by omega, fun q => h0 (by omega) q.1, digs, ?_⟩, ?_⟩
    · simp only [reduceIte]; rw [hv]; omega
    · simp only [reduceIte]; rw [hv]; omega
  · rw [if_neg n, List.nil_append]
    refine ⟨false, dig 20 v.natAbs, .inr ⟨rfl, rfl, fun r e => ?_⟩, ⟨d1, by omega, fun q => ?_, digs, ?_⟩, ?_⟩
    · have := d2 45 (by rw [e]; simp)
      exact absurd this.1 (by decide)
    · rcases q.2 with c | c
      · exact d3 c q.1
      · cases c
    · simp only [Bool.false_eq_true, reduceIte]; rw [hv]; omega
    · simp only [Bool.false_eq_true, reduceIte]; rw [hv]; omega
end
section
open Go.RowKit
set_option linter.unusedSimpArgs false
set_option linter.unusedVariables false
set_option maxRecDepth 8000
def splitL (b : UInt8) : List UInt8 → List (List UInt8)
  | [] => [[]]
  | x :: l => if x = b then [] :: splitL b l else match splitL b l with | p :: r => (x :: p) :: r | [] => [[x]]
theorem splitL_hit (b : UInt8) : ∀ (n : Nat) (x : List UInt8), (∀ j, j < n → ¬ x[j]? = some b) → x[n]? = some b → splitL b x = x.take n :: splitL b (x.drop (n + 1))
  | _, [], _, h => by simp at h
  | 0, y :: l, _, h => by
    have : y = b := by simpa using h
    simp [splitL, this]
  | n + 1, y :: l, hn, h => by
    have h0 : ¬ y = b := fun e => hn 0 (by omega) (by simp [e])
    have ih := splitL_hit b n l (fun j hj => by have := hn (j + 1) (by omega); simpa using this) (by simpa using h)
    rw [splitL, if_neg h0, ih]
    simp
theorem splitL_end (b : UInt8) : ∀ (x : List UInt8), (∀ j, j < x.length → ¬ x[j]? = some b) → splitL b x = [x]
  | [], _ => rfl
  | y :: l, hn => by
    have h0 : ¬ y = b := fun e => hn 0 (by simp) (by simp [e])
    have ih := splitL_end b l (fun j hj => by have := hn (j + 1) (by simp; omega); simpa using this)
    rw [splitL, if_neg h0, ih]
theorem splitL_length (b : UInt8) : ∀ x : List UInt8, 1 ≤ (splitL b x).length ∧ (splitL b x).length ≤ x.length + 1
  | [] => by simp [splitL]
  | y :: l => by
    have := splitL_length b l
    rw [splitL]
    split
    · simp; omega
    · cases h : splitL b l with
      | nil => rw [h] at this; simp at this
      | cons p r => rw [h] at this; simp at this ⊢; omega
/-- Texts as cells. -/
def strC (L : List (List UInt8)) : List Value := L.map fun s => .string (txt s)
theorem strC_app (L L' : List (List UInt8)) : strC (L ++ L') = strC L ++ strC L' := by simp [strC]
theorem info9s : (Tryd.prog.info? 9).map (fun i => (i.zero, i.size, i.bytes)) = some (some (.string ⟨#[]⟩), 1, 16) := by kernel_rfl

set_option maxHeartbeats 4000000 in
theorem split_calls (l : List UInt8) (b : UInt8) (w : World) (hl : l.length ≤ 1099511627776) :
    Calls Tryd.prog 23 #[.string (txt l), .int .u8 b.toNat] w fun e w' => ∃ g cap, e = .returned (.slice (some ⟨g, 0, none⟩) (splitL b l).length cap) ∧ w.heap.size ≤ g ∧ (∀ i s, (splitL b l)[i]? = some s → w'.cell? ⟨g, i, none⟩ = some (.string (txt s))) ∧ More w w' := by
  suffices hP : ∀ P : Ending → World → Prop, (∀ g cap w', w'.ownsRow w.heap.size 9 1 (.slice (some ⟨g, 0, none⟩) (splitL b l).length cap) (splitL b l).length (strC (splitL b l)) → More w w' → P (.returned (.slice (some ⟨g, 0, none⟩) (splitL b l).length cap)) w') → Calls Tryd.prog 23 #[.string (txt l), .int .u8 b.toNat] w P from hP _ (fun g cap w' own m => ⟨g, cap, rfl, (own.lt g rfl).1, fun i s hs => by
    have hi : i < (splitL b l).length := (List.getElem?_eq_some_iff.1 hs).1
    rw [World.ownsRow.cellAt own i (by omega)]
    simp [strC, hs], m⟩)
  intro P hP0
  have HP : Hid (∀ g cap w', w'.ownsRow w.heap.size 9 1 (.slice (some ⟨g, 0, none⟩) (splitL b l).length cap) (splitL b l).length (strC (splitL b l)) → More w w' → P (.returned (.slice (some ⟨g, 0, none⟩) (splitL b l).length cap)) w') := hP0
  obtain ⟨i0, hi, hz0, hz1, hz2⟩ := info_parts info9s
  have Hi : Hid (Tryd.prog.info? 9 = some i0 ∧ i0.zero = some (.string ⟨#[]⟩) ∧ i0.size = 1 ∧ i0.bytes = 16) := ⟨hi, hz0, hz1, hz2⟩
  clear hP0 hi hz0 hz1 hz2
  obtain ⟨ss, Hss⟩ : ∃ x, Hid (txt l = x) := ⟨_, rfl⟩
  obtain ⟨ln, Hln⟩ : ∃ x, Hid (l.length = x) := ⟨_, rfl⟩
  rw [Hss.out]
  have hsz : ss.size = ln := by rw [← Hss.out, txt_size, Hln.out]
  rw [Hln.out] at hl
  have Hget : Hid (∀ k (hk : k < ss.size), l[k]? = some (ss[k]'hk)) := fun k hk => by
    have h1 : k < l.length := by rw [Hln.out, ← hsz]; exact hk
    have := txt_get (List.getElem?_eq_getElem h1) (by rw [Hss.out]; exact hk)
    have h2 : ss[k]'hk = l[k] := by simpa [Hss.out] using this
    rw [h2, List.getElem?_eq_getElem h1]
  have Hpart : Hid (∀ f i, ss.extract f i = txt ((l.drop f).take (i - f))) := fun f i => by rw [← Hss.out]; exact ByteArray.extract_mk l f i
  go_enter Tryd.func23, Tryd.ntmps23
  go_wp2_with (fail)
  go_loopg [5, 6, 7] (ln + 1) (fun g lv fv iv wr => ∃ (i f : Nat) (L : List (List UInt8)) (va : Option Addr) (n vc : Nat), i + g = ln + 1 ∧ lv = .slice va n vc ∧ fv = .int .i64 f ∧ iv = .int .i64 i ∧ f ≤ i ∧
    Hid (n = L.length ∧ n ≤ f ∧ wr.ownsRow w.heap.size 9 1 (.slice va n vc) n (strC L) ∧ More w wr ∧ ((i ≤ ln ∧ splitL b l = L ++ splitL b (l.drop f) ∧ ∀ j, f ≤ j → j < i → ¬ l[j]? = some b) ∨ (i = ln + 1 ∧ splitL b l = L))))
  case atStart => exact ⟨0, 0, [], none, 0, 0, by omega, rfl, rfl, rfl, Nat.le_refl _, rfl, Nat.le_refl _, World.ownsRow_nil _ _ _ _, More.refl _, .inl ⟨Nat.zero_le _, by simp, fun j _ h => absurd h (Nat.not_lt_zero _)⟩⟩
  case round =>
    obtain ⟨i, f, L, va, n, vc, hig, rfl, rfl, rfl, hfi, Hr⟩ := hrel
    cases gk with
    | zero =>
      obtain rfl : i = ln + 1 := by omega
      obtain ⟨h1, h2, h3, h4, h5⟩ := Hr.out
      obtain ⟨_, h6⟩ : ln + 1 = ln + 1 ∧ splitL b l = L := by
        rcases h5 with h5 | h5
        · omega
        · exact h5
      have d0 : decide ((ln : Int) + 1 ≤ (ln : Int)) = false := decide_eq_false (by omega)
      have hn1 : 0 < n := by rw [h1, ← h6]; exact (splitL_length b l).1
      obtain ⟨g, cap, hv, _, _⟩ := h3.form hn1
      have hv0 := hv
      cases hv
      have HE : Hid (P (.returned (.slice (some ⟨g, 0, none⟩) n vc)) wr) := by
        have := HP.out g vc wr
        rw [h6, ← h1] at this
        exact this h3 h4
      clear HP h1 h2 h3 h4 h5 h6 hn1
      go_wp2
      exact HE.out
    | succ g =>
      have hi : i ≤ ln := by omega
      have hii : (i : Int) ≤ (ln : Int) := by omega
      have hfii : (f : Int) ≤ (i : Int) := by omega
      have d0 : decide ((i : Int) ≤ (ln : Int)) = true := decide_eq_true hii
      have hi63 : wrap64 ((i : Int) + 1) = (i : Int) + 1 := by unfold wrap64; omega
      obtain ⟨h6, h7⟩ : splitL b l = L ++ splitL b (l.drop f) ∧ ∀ j, f ≤ j → j < i → ¬ l[j]? = some b := by
        rcases Hr.out.2.2.2.2 with h | h
        · exact ⟨h.2.1, h.2.2⟩
        · omega
      obtain ⟨pt, hpt⟩ : ∃ x, ss.extract f i = x := ⟨_, rfl⟩
      have Hpt : Hid (pt = txt ((l.drop f).take (i - f))) := by rw [← hpt]; exact Hpart.out f i
      have hno : ∀ j, j < i - f → ¬ (l.drop f)[j]? = some b := fun j hj => by
        rw [List.getElem?_drop]; exact h7 (f + j) (by omega) (by omega)
      -- behind an append
      have nxt : (i = ln ∨ (i < ln ∧ l[i]? = some b)) → ∀ g3 cap3 w3, w3.ownsRow w.heap.size 9 1 (.slice (some ⟨g3, 0, none⟩) (n + 1) cap3) (n + 1) (strC L ++ [Value.string pt]) → More w w3 →
          ∃ (i' f' : Nat) (L' : List (List UInt8)) (va' : Option Addr) (n' vc' : Nat), i' + g = ln + 1 ∧ Value.slice (some ⟨g3, 0, none⟩) (n + 1) cap3 = .slice va' n' vc' ∧ Value.int .i64 ((i : Int) + 1) = .int .i64 f' ∧ Value.int .i64 ((i : Int) + 1) = .int .i64 i' ∧ f' ≤ i' ∧
            Hid (n' = L'.length ∧ n' ≤ f' ∧ w3.ownsRow w.heap.size 9 1 (.slice va' n' vc') n' (strC L') ∧ More w w3 ∧ ((i' ≤ ln ∧ splitL b l = L' ++ splitL b (l.drop f') ∧ ∀ j, f' ≤ j → j < i' → ¬ l[j]? = some b) ∨ (i' = ln + 1 ∧ splitL b l = L'))) := by
        intro hc g3 cap3 w3 own m3
        refine ⟨i + 1, i + 1, L ++ [(l.drop f).take (i - f)], _, _, _, by omega, rfl, by simp, by simp, Nat.le_refl _, by simp [Hr.out.1], by have := Hr.out.2.1; omega, ?_, m3, ?_⟩
        · rw [strC_app]; rw [Hpt.out] at own; exact own
        · rcases hc with rfl | ⟨hc, hb⟩
          · right
            refine ⟨rfl, ?_⟩
            have hlen : (l.drop f).length = i - f := by rw [List.length_drop, Hln.out]
            rw [h6, splitL_end b (l.drop f) (fun j hj => hno j (by omega)), List.take_of_length_le (by omega)]
          · left
            refine ⟨by omega, ?_, fun j h1 h2 => by omega⟩
            rw [h6, splitL_hit b (i - f) (l.drop f) hno (by rw [List.getElem?_drop, show f + (i - f) = i by omega]; exact hb), List.drop_drop, show f + (i - f + 1) = i + 1 by omega, List.append_assoc]
            rfl
      have Hnxt := hid_of0 nxt
      have hpass : i < ln → ¬ l[i]? = some b → ∃ (i' f' : Nat) (L' : List (List UInt8)) (va' : Option Addr) (n' vc' : Nat), i' + g = ln + 1 ∧ Value.slice va n vc = .slice va' n' vc' ∧ Value.int .i64 (f : Int) = .int .i64 f' ∧ Value.int .i64 ((i : Int) + 1) = .int .i64 i' ∧ f' ≤ i' ∧
            Hid (n' = L'.length ∧ n' ≤ f' ∧ wr.ownsRow w.heap.size 9 1 (.slice va' n' vc') n' (strC L') ∧ More w wr ∧ ((i' ≤ ln ∧ splitL b l = L' ++ splitL b (l.drop f') ∧ ∀ j, f' ≤ j → j < i' → ¬ l[j]? = some b) ∨ (i' = ln + 1 ∧ splitL b l = L'))) := fun h1 h2 => by
        refine ⟨i + 1, f, L, va, n, vc, by omega, rfl, rfl, by simp, by omega, Hr.out.1, Hr.out.2.1, Hr.out.2.2.1, Hr.out.2.2.2.1, .inl ⟨by omega, h6, fun j a c => ?_⟩⟩
        by_cases e : j = i
        · subst e; exact h2
        · exact h7 j a (by omega)
      have Hpass := hid_of0 hpass
      clear nxt hpass hno h6 h7
      by_cases hil : i = ln
      · have Hn3 := hid_of0 (Hnxt.out (.inl hil))
        have e0 : ((i : Int) == (ln : Int)) = true := by simp [hil]
        clear Hnxt Hpass hil
        obtain ⟨W, HW⟩ : ∃ w_ : World, Hid (w_ = wr.alloc (.cells #[.string pt] 9)) := ⟨_, rfl⟩
        have HmW : Hid (More wr W) := HW.out ▸ (More.refl _).alloc _ _
        have HbW : Hid (Blk W wr.heap.size #[.string pt] 9) := HW.out ▸ Blk.last _ _ _
        have HO : Hid (W.ownsRow w.heap.size 9 1 (.slice va n vc) n (strC L)) := World.ownsRow.kept Hr.out.2.2.1 (HmW.out.grow none) (by cases (Value.slice va n vc).ownBlock <;> simp)
        have Hnews : Hid (∀ j u, [Value.string pt][j]? = some u → W.cell? ((⟨wr.heap.size, 0, none⟩ : Addr).add j) = some u) := World.news_of_block HbW.out
        have Hlo : Hid (w.heap.size ≤ W.heap.size) := Nat.le_trans Hr.out.2.2.2.1.size HmW.out.size
        have hnf : n ≤ f := Hr.out.2.1
        have HMw : Hid (More w W) := Hr.out.2.2.2.1.trans HmW.out
        have HbL : Hid (∀ k, (Value.slice va n vc).ownBlock = some k → w.heap.size ≤ k) := fun k hk => (HO.out.lt k hk).1
        clear HP
        go_wp2_with (at_builtin; rw [← HW.out]; refine wpList_append_lies _ rfl (.tmp 25) (.tmp 30) 58 rfl w.heap.size 9 i0 (.string ⟨#[]⟩) 1 16 Tryd.underlying58 Hi.out.1 Hi.out.2.1 Hi.out.2.2.1 Hi.out.2.2.2 rfl (by decide) (.slice va n vc) n (strC L) rfl HO.out ⟨wr.heap.size, 0, none⟩ 1 1 [.string pt] rfl rfl Hnews.out (by intro u hu; simp at hu; subst hu; rfl) (by omega) (by unfold maxLen; omega) (by omega) Hlo.out W.heap.size rfl ?_; intro g3 cap3 w3 own3 gr3 hat3 hlt3; have HX := hid_of0 (Hn3.out g3 cap3 w3 own3 (HMw.out.grownBy gr3 HbL.out)); clear own3 gr3 hat3 hlt3)
        go_roundg g
        case measure => omega
        case rel => exact HX.out
      · have hlt : i < ln := by omega
        have e0 : ((i : Int) == (ln : Int)) = false := by simp; omega
        have hltz : i < ss.size := by omega
        have hlti : (i : Int) < (ln : Int) := by omega
        have hg := Hget.out i hltz
        obtain ⟨x, hx⟩ : ∃ x, ss[i]'hltz = x := ⟨_, rfl⟩
        rw [hx] at hg
        by_cases hxb : x = b
        · subst hxb
          have Hn3 := hid_of0 (Hnxt.out (.inr ⟨hlt, hg⟩))
          clear Hnxt Hpass hg
          obtain ⟨W, HW⟩ : ∃ w_ : World, Hid (w_ = wr.alloc (.cells #[.string pt] 9)) := ⟨_, rfl⟩
          have HmW : Hid (More wr W) := HW.out ▸ (More.refl _).alloc _ _
          have HbW : Hid (Blk W wr.heap.size #[.string pt] 9) := HW.out ▸ Blk.last _ _ _
          have HO : Hid (W.ownsRow w.heap.size 9 1 (.slice va n vc) n (strC L)) := World.ownsRow.kept Hr.out.2.2.1 (HmW.out.grow none) (by cases (Value.slice va n vc).ownBlock <;> simp)
          have Hnews : Hid (∀ j u, [Value.string pt][j]? = some u → W.cell? ((⟨wr.heap.size, 0, none⟩ : Addr).add j) = some u) := World.news_of_block HbW.out
          have Hlo : Hid (w.heap.size ≤ W.heap.size) := Nat.le_trans Hr.out.2.2.2.1.size HmW.out.size
          have hnf : n ≤ f := Hr.out.2.1
          have HMw : Hid (More w W) := Hr.out.2.2.2.1.trans HmW.out
          have HbL : Hid (∀ k, (Value.slice va n vc).ownBlock = some k → w.heap.size ≤ k) := fun k hk => (HO.out.lt k hk).1
          clear HP
          go_wp2_with (at_builtin; rw [← HW.out]; refine wpList_append_lies _ rfl (.tmp 25) (.tmp 30) 58 rfl w.heap.size 9 i0 (.string ⟨#[]⟩) 1 16 Tryd.underlying58 Hi.out.1 Hi.out.2.1 Hi.out.2.2.1 Hi.out.2.2.2 rfl (by decide) (.slice va n vc) n (strC L) rfl HO.out ⟨wr.heap.size, 0, none⟩ 1 1 [.string pt] rfl rfl Hnews.out (by intro u hu; simp at hu; subst hu; rfl) (by omega) (by unfold maxLen; omega) (by omega) Hlo.out W.heap.size rfl ?_; intro g3 cap3 w3 own3 gr3 hat3 hlt3; have HX := hid_of0 (Hn3.out g3 cap3 w3 own3 (HMw.out.grownBy gr3 HbL.out)); clear own3 gr3 hat3 hlt3)
          go_roundg g
          case measure => omega
          case rel => exact HX.out
        · have Hn3 := hid_of0 (Hpass.out hlt (by rw [hg]; simp [hxb]))
          have e1 : ((x.toNat : Int) == (b.toNat : Int)) = false := by
            simp only [beq_eq_false_iff_ne]
            intro e
            exact hxb (UInt8.toNat_inj.1 (by omega))
          clear Hnxt Hpass hg HP
          go_wp2
          go_roundg g
          case measure => omega
          case rel => exact Hn3.out
/-- An instruction that has a word of its own. -/
def Real (o c : Int) : Prop := (1 ≤ o ∧ o ≤ 12 ∧ ¬ o = 8 ∧ c = 0) ∨ (o = 8 ∧ 1 ≤ c ∧ c ≤ 4) ∨ (21 ≤ o ∧ o ≤ 30 ∧ c = 0)
theorem Real.has {o c : Int} (h : Real o c) : HasW o c := by
  unfold Real at h
  unfold HasW
  omega
/-- Which one a word is. -/
def opOf (s : List UInt8) : Option (Int × Int) :=
  if s = [97, 100, 100] then some (21, 0) else
  if s = [115, 117, 98] then some (22, 0) else
  if s = [109, 117, 108] then some (23, 0) else
  if s = [97, 110, 100] then some (24, 0) else
  if s = [111, 114] then some (25, 0) else
  if s = [120, 111, 114] then some (26, 0) else
  if s = [115, 104, 108] then some (27, 0) else
  if s = [115, 104, 114] then some (28, 0) else
  if s = [100, 105, 118] then some (29, 0) else
  if s = [109, 111, 100] then some (30, 0) else
  if s = [115, 97, 109, 101] then some (8, 1) else
  if s = [111, 116, 104, 101, 114] then some (8, 2) else
  if s = [108, 101, 115, 115] then some (8, 3) else
  if s = [109, 111, 115, 116] then some (8, 4) else
  if s = [115, 101, 116] then some (1, 0) else
  if s = [109, 111, 118, 101] then some (2, 0) else
  if s = [108, 111, 97, 100] then some (3, 0) else
  if s = [112, 117, 116] then some (4, 0) else
  if s = [108, 111, 97, 100, 107] then some (5, 0) else
  if s = [112, 117, 116, 107] then some (6, 0) else
  if s = [106, 117, 109, 112] then some (7, 0) else
  if s = [104, 97, 108, 116] then some (9, 0) else
  if s = [112, 108, 117, 115] then some (10, 0) else
  if s = [109, 97, 115, 107] then some (11, 0) else
  if s = [102, 101, 110, 99, 101] then some (12, 0) else
  none
theorem opOf_word {o c : Int} (h : Real o c) : opOf (wordL o c) = some (o, c) := by
  rcases h with ⟨h1, h2, h3, rfl⟩ | ⟨rfl, h1, h2⟩ | ⟨h1, h2, rfl⟩
  · have : o = 1 ∨ o = 2 ∨ o = 3 ∨ o = 4 ∨ o = 5 ∨ o = 6 ∨ o = 7 ∨ o = 9 ∨ o = 10 ∨ o = 11 ∨ o = 12 := by omega
    rcases this with rfl | rfl | rfl | rfl | rfl | rfl | rfl | rfl | rfl | rfl | rfl <;> rfl
  · have : c = 1 ∨ c = 2 ∨ c = 3 ∨ c = 4 := by omega
    rcases this with rfl | rfl | rfl | rfl <;> rfl
  · have : o = 21 ∨ o = 22 ∨ o = 23 ∨ o = 24 ∨ o = 25 ∨ o = 26 ∨ o = 27 ∨ o = 28 ∨ o = 29 ∨ o = 30 := by omega
    rcases this with rfl | rfl | rfl | rfl | rfl | rfl | rfl | rfl | rfl | rfl <;> rfl
/-- What op tells. -/
def OpAns (s : List UInt8) (o c : Int) : Prop := (o = -1 ∧ c = 0 ∧ ∀ o' c', Real o' c' → ¬ wordL o' c' = s) ∨ (Real o c ∧ wordL o c = s)
theorem opAns_one {s : List UInt8} {o c o' c' : Int} (h : OpAns s o c) (k : OpAns s o' c') : o = o' ∧ c = c' := by
  rcases h with ⟨rfl, rfl, n⟩ | ⟨r, e⟩ <;> rcases k with ⟨rfl, rfl, n'⟩ | ⟨r', e'⟩
  · exact ⟨rfl, rfl⟩
  · exact absurd e' (n _ _ r')
  · exact absurd e (n' _ _ r)
  · have h1 := opOf_word r
    have h2 := opOf_word r'
    rw [e] at h1
    rw [e', h1] at h2
    have := Option.some.inj h2
    exact ⟨congrArg Prod.fst this, congrArg Prod.snd this⟩

theorem txt_beq (x y : List UInt8) : ((txt x).toList == (txt y).toList) = decide (x = y) := by
  rw [ByteArray.toList_mk, ByteArray.toList_mk]
  by_cases h : x = y
  · simp [h]
  · simp [h]

set_option maxHeartbeats 4000000 in
theorem op12_calls (s : List UInt8) (w : World) : Calls Tryd.prog 40 #[.string (txt s)] w fun e w' => ∃ o c, e = .returned (.tuple #[.int .i64 o, .int .i64 c]) ∧ OpAns s o c ∧ More w w' := by
  suffices hP : ∀ P : Ending → World → Prop, (∀ o c w', OpAns s o c → More w w' → P (.returned (.tuple #[.int .i64 o, .int .i64 c])) w') → Calls Tryd.prog 40 #[.string (txt s)] w P from hP _ (fun o c w' h m => ⟨o, c, rfl, h, m⟩)
  intro P hP0
  have HP : Hid (∀ o c w', OpAns s o c → More w w' → P (.returned (.tuple #[.int .i64 o, .int .i64 c])) w') := hP0
  have CW : Hid (∀ o c, Real o c → ∀ w1, Calls Tryd.prog 34 #[.int .i64 o, .int .i64 c] w1 fun e w' => ∃ d : ByteArray, e = .returned (.string d) ∧ d = txt (wordL o c) ∧ More w1 w') := fun o c h w1 => (word_calls o c w1 h.has).mono (fun e w' h => ⟨_, h.1, rfl, h.2⟩)
  obtain ⟨ss, Hss⟩ : ∃ x, Hid (txt s = x) := ⟨_, rfl⟩
  rw [Hss.out]
  clear hP0
  go_enter Tryd.func40, Tryd.ntmps40
  go_wp2_with (fail)
  go_loopg [4] 30 (fun g ov wr => ∃ o : Nat, o + g = 31 ∧ 1 ≤ o ∧ ov = .int .i64 o ∧ Hid (More w wr ∧ ∀ o' c', Real o' c' → o' < o → ¬ wordL o' c' = s))
  case atStart => exact ⟨1, by omega, by omega, rfl, More.refl _, fun o' c' h1 h2 => by unfold Real at h1; omega⟩
  case round =>
    obtain ⟨o, hog, ho1, rfl, Hr⟩ := hrel
    have ho63 : wrap64 ((o : Int) + 1) = (o : Int) + 1 := by unfold wrap64; omega
    cases gk with
    | zero =>
      obtain rfl : o = 31 := by omega
      have HE : Hid (P (.returned (.tuple #[.int .i64 (-1), .int .i64 0])) wr) := HP.out (-1) 0 wr (.inl ⟨rfl, rfl, fun o' c' h => Hr.out.2 o' c' h (by unfold Real at h; omega)⟩) Hr.out.1
      clear HP CW
      go_wp2
      exact HE.out
    | succ g =>
      have d0 : decide ((o : Int) ≤ 30) = true := decide_eq_true (by omega)
      have Hnx : Hid (∀ w', More w w' → (∀ c', Real o c' → ¬ wordL o c' = s) → ∃ o2 : Nat, o2 + g = 31 ∧ 1 ≤ o2 ∧ Value.int .i64 ((o : Int) + 1) = .int .i64 o2 ∧ Hid (More w w' ∧ ∀ o' c', Real o' c' → o' < o2 → ¬ wordL o' c' = s)) := fun w' mm hn => by
        refine ⟨o + 1, by omega, by omega, by simp, mm, fun o' c' h1 h2 => ?_⟩
        by_cases e : o' = o
        · subst e; exact hn c' h1
        · exact Hr.out.2 o' c' h1 (by omega)
      by_cases h8 : o = 8
      · subst h8
        have HC : Hid (∀ w' c, Real 8 c → More w w' → wordL 8 c = s → P (.returned (.tuple #[.int .i64 8, .int .i64 c])) w') := fun w' c R mm e => HP.out 8 c w' (.inr ⟨R, e⟩) mm
        have Hw0 : Hid (More w wr) := Hr.out.1
        obtain ⟨wm, Hwm⟩ : ∃ wm, Hid (wm = wr) := ⟨_, rfl⟩
        clear HP
        go_wp2_with (fail)
        go_loopg [5] 4 (fun g2 cv w2 => ∃ c : Nat, c + g2 = 5 ∧ 1 ≤ c ∧ cv = .int .i64 c ∧ Hid (More w w2 ∧ ∀ c' : Int, Real 8 c' → c' < c → ¬ wordL 8 c' = s))
        case atStart => exact ⟨1, by omega, by omega, rfl, Hw0.out, fun c' h1 h2 => by unfold Real at h1; omega⟩
        case round =>
          obtain ⟨c, hcg, hc1, rfl, Hc⟩ := hrel
          have hc63 : wrap64 ((c : Int) + 1) = (c : Int) + 1 := by unfold wrap64; omega
          cases gk with
          | zero =>
            obtain rfl : c = 5 := by omega
            have HX := hid_of0 (Hnx.out _ Hc.out.1 (fun c' h => Hc.out.2 c' h (by unfold Real at h; omega)))
            clear HC CW Hnx
            go_wp2
            go_roundg g
            case measure => omega
            case rel => exact HX.out
          | succ g2 =>
            have d4 : decide ((c : Int) ≤ 4) = true := decide_eq_true (by omega)
            have R : Real 8 c := by unfold Real; omega
            have C1 := hid_of0 (CW.out 8 c R)
            have HR := hid_of0 R
            clear CW R
            go_wp2_with (fail)
            refine (C1.out _).mono ?_
            rintro e w3 ⟨d, rfl, hd, m3⟩
            have hbq : (d.toList == ss.toList) = decide (wordL 8 c = s) := by rw [hd, ← Hss.out]; exact txt_beq _ _
            have Hm3 : Hid (More w w3) := Hc.out.1.trans m3
            clear m3 hd
            by_cases hw : wordL 8 c = s
            · have HE := hid_of0 (HC.out w3 c HR.out Hm3.out hw)
              rw [decide_eq_true hw] at hbq
              clear HC Hnx C1 hw
              go_wp2
              exact HE.out
            · have HX : Hid (∃ c2 : Nat, c2 + g2 = 5 ∧ 1 ≤ c2 ∧ Value.int .i64 ((c : Int) + 1) = .int .i64 c2 ∧ Hid (More w w3 ∧ ∀ c' : Int, Real 8 c' → c' < c2 → ¬ wordL 8 c' = s)) := ⟨c + 1, by omega, by omega, by simp, Hm3.out, fun c' h1 h2 => by
                by_cases e : c' = c
                · subst e; exact hw
                · exact Hc.out.2 c' h1 (by omega)⟩
              rw [decide_eq_false hw] at hbq
              clear HC Hnx C1 hw
              go_wp2
              go_roundg g2
              case measure => omega
              case rel => exact HX.out
      · have e8 : ((o : Int) == 8) = false := by simp; omega
        by_cases hr : o ≤ 12 ∨ 20 < o
        · have R : Real o 0 := by unfold Real; omega
          have C1 := hid_of0 (CW.out o 0 R)
          have hc : decide ((o : Int) ≤ 12) = true ∨ (decide ((o : Int) ≤ 12) = false ∧ decide (20 < (o : Int)) = true) := by
            by_cases c : o ≤ 12
            · left; exact decide_eq_true (by omega)
            · right; exact ⟨decide_eq_false (by omega), decide_eq_true (by omega)⟩
          have Hfin : Hid (∀ w', More w w' → wordL o 0 = s → P (.returned (.tuple #[.int .i64 (o : Int), .int .i64 0])) w') := fun w' mm e => HP.out o 0 w' (.inr ⟨R, e⟩) mm
          have Hon : Hid (∀ c', Real o c' → c' = 0) := fun c' h => by unfold Real at h; omega
          clear HP CW R
          rcases hc with d1 | ⟨d1, d2⟩
          all_goals
            go_wp2_with (fail)
            refine (C1.out wr).mono ?_
            rintro e w3 ⟨d, rfl, hd, m3⟩
            have hbq : (d.toList == ss.toList) = decide (wordL o 0 = s) := by rw [hd, ← Hss.out]; exact txt_beq _ _
            have Hm3 : Hid (More w w3) := Hr.out.1.trans m3
            clear m3 hd
            by_cases hw : wordL o 0 = s
            · have HE := hid_of0 (Hfin.out w3 Hm3.out hw)
              rw [decide_eq_true hw] at hbq
              clear Hfin Hnx C1 hw
              go_wp2
              exact HE.out
            · have HX := hid_of0 (Hnx.out w3 Hm3.out (fun c' h e => hw (by rw [Hon.out c' h] at e; exact e)))
              rw [decide_eq_false hw] at hbq
              clear Hfin Hnx C1 hw
              go_wp2
              go_roundg g
              case measure => omega
              case rel => exact HX.out
        · have d1 : decide ((o : Int) ≤ 12) = false := decide_eq_false (by omega)
          have d2 : decide (20 < (o : Int)) = false := decide_eq_false (by omega)
          have HX := hid_of0 (Hnx.out wr Hr.out.1 (fun c' h => by unfold Real at h; omega))
          clear HP CW Hnx
          go_wp2
          go_roundg g
          case measure => omega
          case rel => exact HX.out
/-- What a letter's word is. -/
def NumF (f : UInt8) (t : List UInt8) (v : Int) : Prop := if f = 78 then NumIs 19 t v else ∃ r, t = (if f = 68 then 103 else 114) :: r ∧ NumIs 18 r v
def setF (i : Ins) (f : UInt8) (v : Int) : Ins := if f = 65 then { i with a := v } else if f = 66 then { i with b := v } else if f = 67 ∨ f = 68 then { i with c := v } else { i with n := v }
theorem numF_one {f : UInt8} {t : List UInt8} {v v' : Int} (h : NumF f t v) (k : NumF f t v') : v = v' := by
  unfold NumF at h k
  by_cases c : f = 78
  · rw [if_pos c] at h k; exact numIs_one h k
  · rw [if_neg c] at h k
    obtain ⟨r, e, h⟩ := h
    obtain ⟨r', e', k⟩ := k
    rw [e] at e'
    rw [(List.cons.inj e').2] at h
    exact numIs_one h k
/-- So many words are read. -/
def ReadK (F : List UInt8) (ws : List (List UInt8)) (i : Ins) : Nat → Ins → Prop
  | 0, j => j = i
  | k + 1, j => ∃ i' v f t, ReadK F ws i k i' ∧ F[k]? = some f ∧ ws[k + 1]? = some t ∧ NumF f t v ∧ j = setF i' f v
theorem readK_one {F : List UInt8} {ws : List (List UInt8)} {i : Ins} : ∀ {k : Nat} {j j' : Ins}, ReadK F ws i k j → ReadK F ws i k j' → j = j'
  | 0, j, j', h, h' => by
    have h : j = i := h
    have h' : j' = i := h'
    rw [h, h']
  | k + 1, j, j', h, h' => by
    obtain ⟨i1, v, f, t, a, b, c, d, rfl⟩ := h
    obtain ⟨i2, v', f', t', a', b', c', d', rfl⟩ := h'
    obtain rfl := readK_one a a'
    rw [b] at b'
    rw [c] at c'
    obtain rfl := Option.some.inj b'
    obtain rfl := Option.some.inj c'
    rw [numF_one d d']
theorem readK_down {F : List UInt8} {ws : List (List UInt8)} {i : Ins} : ∀ {m : Nat} {j : Ins}, ReadK F ws i m j → ∀ k, k ≤ m → ∃ j', ReadK F ws i k j'
  | 0, j, h, k, hk => by obtain rfl : k = 0 := by omega
                         exact ⟨j, h⟩
  | m + 1, j, h, k, hk => by
    by_cases e : k = m + 1
    · subst e; exact ⟨j, h⟩
    · obtain ⟨i1, _, _, _, a, _⟩ := h
      exact readK_down a k (by omega)
/-- The instruction that a line's words are. -/
def LineIs (ws : List (List UInt8)) (j : Ins) : Prop := ∃ o c, Real o c ∧ ws[0]? = some (wordL o c) ∧ ws.length = (folL o).length + 1 ∧ ReadK (folL o) ws ⟨o, 0, 0, c, 0⟩ (folL o).length j
theorem lineIs_head {ws : List (List UInt8)} {o c o' c' : Int} (r : Real o c) (e : ws[0]? = some (wordL o c)) (r' : Real o' c') (e' : ws[0]? = some (wordL o' c')) : o = o' ∧ c = c' := by
  rw [e] at e'
  exact opAns_one (.inr ⟨r, rfl⟩) (.inr ⟨r', (Option.some.inj e').symm⟩)
theorem lineIs_one {ws : List (List UInt8)} {j j' : Ins} (h : LineIs ws j) (k : LineIs ws j') : j = j' := by
  obtain ⟨o, c, r, e, _, f⟩ := h
  obtain ⟨o', c', r', e', _, f'⟩ := k
  obtain ⟨rfl, rfl⟩ := lineIs_head r e r' e'
  exact readK_one f f'
/-- What read tells. -/
def ReadAns (ws : List (List UInt8)) (j : Ins) (ok : Bool) : Prop := (ok = true ∧ LineIs ws j ∧ B64 j.op ∧ B64 j.a ∧ B64 j.b ∧ B64 j.c ∧ B64 j.n) ∨ (ok = false ∧ ∀ j', ¬ LineIs ws j')
theorem numIs_b64 {most : Int} {l : List UInt8} {v : Int} (h : NumIs most l v) : B64 v := by
  obtain ⟨b, d, _, k, rfl⟩ := h
  have := k.fits
  unfold B64
  cases b with
  | true => simp only [reduceIte] at this ⊢; omega
  | false => simp only [Bool.false_eq_true, reduceIte] at this ⊢; omega
theorem numF_b64 {f : UInt8} {t : List UInt8} {v : Int} (h : NumF f t v) : B64 v := by
  unfold NumF at h
  by_cases c : f = 78
  · rw [if_pos c] at h; exact numIs_b64 h
  · rw [if_neg c] at h; obtain ⟨r, _, k⟩ := h; exact numIs_b64 k

theorem wordL_ne {o c : Int} (h : Real o c) : ¬ wordL o c = [] := by
  intro e
  have := opOf_word h
  rw [e, show opOf [] = none from rfl] at this
  cases this
theorem fol_letters (o : Int) : ∀ f ∈ folL o, f = 65 ∨ f = 66 ∨ f = 67 ∨ f = 68 ∨ f = 78 := by
  have key : ∀ (c : Prop) [Decidable c] (x y : List UInt8), (∀ f ∈ x, f = 65 ∨ f = 66 ∨ f = 67 ∨ f = 68 ∨ f = 78) → (∀ f ∈ y, f = 65 ∨ f = 66 ∨ f = 67 ∨ f = 68 ∨ f = 78) → ∀ f ∈ (if c then x else y), f = 65 ∨ f = 66 ∨ f = 67 ∨ f = 68 ∨ f = 78 := fun c _ x y hx hy f hf => by
    split at hf
    · exact hx f hf
    · exact hy f hf
  unfold folL
  iterate 8 refine key _ _ _ (by decide) ?_
  decide
/-- Some words are no number: it is no line. -/
theorem not_line {ws : List (List UInt8)} {o c : Int} {k : Nat} {f : UInt8} {t : List UInt8} (r : Real o c) (e : ws[0]? = some (wordL o c)) (hk : k < (folL o).length) (hf : (folL o)[k]? = some f) (ht : ws[k + 1]? = some t) (no : ∀ v, ¬ NumF f t v) : ∀ j', ¬ LineIs ws j' := by
  rintro j' ⟨o', c', r', e', _, k'⟩
  obtain ⟨rfl, rfl⟩ := lineIs_head r e r' e'
  obtain ⟨j2, i', v, f', t', _, h1, h2, h3, _⟩ := readK_down k' (k + 1) hk
  rw [hf] at h1
  rw [ht] at h2
  obtain rfl := Option.some.inj h1
  obtain rfl := Option.some.inj h2
  exact no v h3

set_option maxHeartbeats 4000000 in
theorem read_calls12 (ws : List (List UInt8)) (g n cap : Nat) (w : World) (hn : ws.length = n) (h1 : 1 ≤ n) (h2 : n < 4611686018427387904) (hc : ∀ i s, ws[i]? = some s → w.cell? ⟨g, i, none⟩ = some (.string (txt s)) ∧ s.length < 4611686018427387904) :
    Calls Tryd.prog 25 #[.slice (some ⟨g, 0, none⟩) n cap] w fun e w' => ∃ j ok, e = .returned (.tuple #[.agg #[.int .i64 j.op, .int .i64 j.a, .int .i64 j.b, .int .i64 j.c, .int .i64 j.n], .bool ok]) ∧ ReadAns ws j ok ∧ More w w' := by
  suffices hP : ∀ P : Ending → World → Prop, (∀ j ok w', ReadAns ws j ok → More w w' → P (.returned (.tuple #[.agg #[.int .i64 j.op, .int .i64 j.a, .int .i64 j.b, .int .i64 j.c, .int .i64 j.n], .bool ok])) w') → Calls Tryd.prog 25 #[.slice (some ⟨g, 0, none⟩) n cap] w P from hP _ (fun j ok w' h m => ⟨j, ok, rfl, h, m⟩)
  intro P hP0
  have Hfin : Hid (∀ (i : Ins) (ok : Bool) (wr : World), More w wr → ReadAns ws i ok → P (.returned (.tuple #[.agg #[.int .i64 i.op, .int .i64 i.a, .int .i64 i.b, .int .i64 i.c, .int .i64 i.n], .bool ok])) (((((wr.setCell ⟨w.heap.size, 0, none⟩ (.int .i64 i.op)).setCell ⟨w.heap.size, 1, none⟩ (.int .i64 i.a)).setCell ⟨w.heap.size, 2, none⟩ (.int .i64 i.b)).setCell ⟨w.heap.size, 3, none⟩ (.int .i64 i.c)).setCell ⟨w.heap.size, 4, none⟩ (.int .i64 i.n))) := fun i ok wr m h =>
    hP0 i ok _ h (((((m.setCell (Nat.le_refl _) _).setCell (Nat.le_refl _) _).setCell (Nat.le_refl _) _).setCell (Nat.le_refl _) _).setCell (Nat.le_refl _) _)
  have HC : Hid (∀ i s, ws[i]? = some s → w.cell? ⟨g, i, none⟩ = some (.string (txt s)) ∧ s.length < 4611686018427387904) := hc
  clear hP0 hc
  obtain ⟨s0, Hs0⟩ : ∃ x, Hid (ws[0]? = some x) := ⟨ws[0]'(by omega), by show _ = _; exact List.getElem?_eq_getElem _⟩
  have hgw : g < w.heap.size := cell_block (HC.out 0 s0 Hs0.out).1
  obtain ⟨W, HW⟩ : ∃ w_ : World, Hid (w_ = (w.alloc (.cells #[.int .i64 0, .int .i64 0, .int .i64 0, .int .i64 0, .int .i64 0] 49)).alloc (.cells #[.int .i64 0, .int .i64 0, .int .i64 0, .int .i64 0, .int .i64 0] 49)) := ⟨_, rfl⟩
  have HmW : Hid (More w W) := HW.out ▸ ((More.refl _).alloc _ _).alloc _ _
  have HbR : Hid (Blk W w.heap.size #[.int .i64 0, .int .i64 0, .int .i64 0, .int .i64 0, .int .i64 0] 49) := HW.out ▸ (Blk.last _ _ _).alloc _ _
  have HbL : Hid (Blk W (w.heap.size + 1) #[.int .i64 0, .int .i64 0, .int .i64 0, .int .i64 0, .int .i64 0] 49) := by rw [HW.out]; show Blk _ _ _ _; simpa using Blk.last (w.alloc (.cells #[.int .i64 0, .int .i64 0, .int .i64 0, .int .i64 0, .int .i64 0] 49)) #[.int .i64 0, .int .i64 0, .int .i64 0, .int .i64 0, .int .i64 0] 49
  have c0 : w.cell? ⟨g, 0, none⟩ = some (.string (txt s0)) := (HC.out 0 s0 Hs0.out).1
  have CO := hid_of0 (fun w1 => op12_calls s0 w1)
  obtain ⟨ts, Hts⟩ : ∃ x, Hid (txt s0 = x) := ⟨_, rfl⟩
  rw [Hts.out] at c0 CO
  go_enter Tryd.func25, Tryd.ntmps25
  go_wp2_with (fail)
  rw [← HW.out]
  refine (CO.out W).mono ?_
  rintro e w1 ⟨o, c, rfl, ho, m1⟩
  have Hm1 : Hid (More W w1) := m1
  have HO := hid_of0 ho
  clear m1 ho CO c0
  have r0 := (HbR.out.more Hm1.out).cell (j := 0) rfl
  have r1 := (HbR.out.more Hm1.out).cell (j := 1) rfl
  have r2 := (HbR.out.more Hm1.out).cell (j := 2) rfl
  have r3 := (HbR.out.more Hm1.out).cell (j := 3) rfl
  have r4 := (HbR.out.more Hm1.out).cell (j := 4) rfl
  have rf := (HbR.out.more Hm1.out).frozen
  have l0 := (HbL.out.more Hm1.out).cell (j := 0) rfl
  have l1 := (HbL.out.more Hm1.out).cell (j := 1) rfl
  have l2 := (HbL.out.more Hm1.out).cell (j := 2) rfl
  have l3 := (HbL.out.more Hm1.out).cell (j := 3) rfl
  have l4 := (HbL.out.more Hm1.out).cell (j := 4) rfl
  have lf := (HbL.out.more Hm1.out).frozen
  rcases HO.out with ⟨rfl, rfl, hno⟩ | ⟨hR, hwd⟩
  · have HE := hid_of0 (Hfin.out ⟨0, 0, 0, 0, 0⟩ false w1 (HmW.out.trans Hm1.out) (.inr ⟨rfl, fun j' => by
      rintro ⟨o', c', r', e', _⟩
      rw [Hs0.out] at e'
      exact hno o' c' r' (Option.some.inj e').symm⟩))
    clear Hfin hno HO
    dsimp only at HE
    go_wp2
    refine bodyPost_ret (v := .tuple #[.agg #[.int .i64 0, .int .i64 0, .int .i64 0, .int .i64 0, .int .i64 0], .bool false]) (by simp [results, Tryd.results25, go_sem, *]) rfl ?_
    exact HE.out
  · have Hhd : Hid (Real o c ∧ ws[0]? = some (wordL o c)) := ⟨hR, by rw [Hs0.out, hwd]⟩
    have ho0 : decide (o < 0) = false := decide_eq_false (by unfold Real at hR; omega)
    have hbe : (ts.toList == (ByteArray.mk #[]).toList) = false := by
      rw [← Hts.out]
      have := txt_beq s0 []
      rw [decide_eq_false (fun e => wordL_ne hR (hwd.trans e))] at this
      exact this
    have hbe2 : (ts.toList == []) = false := by
      rw [← Hts.out, ByteArray.toList_mk]
      cases hs : s0 with
      | nil => exact absurd (hwd.trans hs) (wordL_ne hR)
      | cons a b => rfl
    have tc : w1.cell? ⟨g, 0, none⟩ = some (.string ts) := by rw [← Hts.out]; exact (HmW.out.trans Hm1.out).cell (HC.out 0 s0 Hs0.out).1
    obtain ⟨w2, Hw2⟩ : ∃ w_ : World, Hid (w_ = (w1.setCell ⟨w.heap.size + 1, 0, none⟩ (.int .i64 o)).setCell ⟨w.heap.size + 1, 3, none⟩ (.int .i64 c)) := ⟨_, rfl⟩
    have Hb2 : Hid (Blk w2 (w.heap.size + 1) #[.int .i64 o, .int .i64 0, .int .i64 0, .int .i64 c, .int .i64 0] 49) := by
      have := ((HbL.out.more Hm1.out).put 0 (.int .i64 o)).put 3 (.int .i64 c)
      rw [Hw2.out]
      show Blk _ _ _ _
      simpa using this
    have Hr2 : Hid (Blk w2 w.heap.size #[.int .i64 0, .int .i64 0, .int .i64 0, .int .i64 0, .int .i64 0] 49) := by
      rw [Hw2.out]
      exact ((HbR.out.more Hm1.out).other (by omega) _ _).other (by omega) _ _
    have Hm2 : Hid (More w w2) := by
      rw [Hw2.out]
      exact ((HmW.out.trans Hm1.out).setCell (by show w.heap.size ≤ _; simp) _).setCell (by show w.heap.size ≤ _; simp) _
    have CF := hid_of0 (fun w1 => follows_calls o w1)
    clear HO hR hwd
    go_wp2_with (fail)
    rw [← Hw2.out]
    refine (CF.out w2).mono ?_
    rintro e w3 ⟨rfl, m3⟩
    have Hm3 : Hid (More w2 w3) := m3
    clear m3 CF r0 r1 r2 r3 r4 rf l0 l1 l2 l3 l4 lf tc hbe hbe2 ho0
    obtain ⟨F, HF⟩ : ∃ x, Hid (folL o = x) := ⟨_, rfl⟩
    obtain ⟨fs, Hfs⟩ : ∃ x, Hid (txt (folL o) = x) := ⟨_, rfl⟩
    rw [Hfs.out]
    obtain ⟨fn, Hfn⟩ : ∃ x, Hid (F.length = x) := ⟨_, rfl⟩
    have hfz : fs.size = fn := by rw [← Hfs.out, txt_size, HF.out, Hfn.out]
    have hfn4 : fn ≤ 4 := by rw [← Hfn.out, ← HF.out]; exact folL_length o
    have hw1 : wrap64 ((n : Int) - 1) = (n : Int) - 1 := by unfold wrap64; omega
    by_cases hnf : n = fn + 1
    · have e1 : (((n : Int) - 1) != (fn : Int)) = false := by simp; omega
      go_wp2_with (fail)
      go_loopg [8] fn (fun g0 kv wr => ∃ (k : Nat) (ja jb jc jn : Int), k + g0 = fn ∧ kv = .int .i64 k ∧ Hid (More w wr ∧ ReadK F ws ⟨o, 0, 0, c, 0⟩ k ⟨o, ja, jb, jc, jn⟩ ∧ (B64 ja ∧ B64 jb ∧ B64 jc ∧ B64 jn) ∧ Blk wr w.heap.size #[.int .i64 0, .int .i64 0, .int .i64 0, .int .i64 0, .int .i64 0] 49 ∧ Blk wr (w.heap.size + 1) #[.int .i64 o, .int .i64 ja, .int .i64 jb, .int .i64 jc, .int .i64 jn] 49))
      case atStart => exact ⟨0, 0, 0, c, 0, by omega, rfl, Hm2.out.trans Hm3.out, rfl, ⟨B64_zero, B64_zero, by have := Hhd.out.1; unfold Real at this; unfold B64; omega, B64_zero⟩, Hr2.out.more Hm3.out, Hb2.out.more Hm3.out⟩
      case round =>
        obtain ⟨k, ja, jb, jc, jn, hkg, rfl, Hr⟩ := hrel
        cases gk with
        | zero =>
          obtain rfl : k = fn := by omega
          have HE := hid_of0 (Hfin.out ⟨o, ja, jb, jc, jn⟩ true wr Hr.out.1 (.inl ⟨rfl, ⟨o, c, Hhd.out.1, Hhd.out.2, by rw [HF.out, Hfn.out, hn]; exact hnf, by rw [HF.out, Hfn.out]; exact Hr.out.2.1⟩, (by show B64 o; have := Hhd.out.1; unfold Real at this; unfold B64; omega), Hr.out.2.2.1⟩))
          dsimp only at HE
          clear Hfin
          have r0 := (Hr.out.2.2.2.1).cell (j := 0) rfl
          have r1 := (Hr.out.2.2.2.1).cell (j := 1) rfl
          have r2 := (Hr.out.2.2.2.1).cell (j := 2) rfl
          have r3 := (Hr.out.2.2.2.1).cell (j := 3) rfl
          have r4 := (Hr.out.2.2.2.1).cell (j := 4) rfl
          have rf := (Hr.out.2.2.2.1).frozen
          have l0 := (Hr.out.2.2.2.2).cell (j := 0) rfl
          have l1 := (Hr.out.2.2.2.2).cell (j := 1) rfl
          have l2 := (Hr.out.2.2.2.2).cell (j := 2) rfl
          have l3 := (Hr.out.2.2.2.2).cell (j := 3) rfl
          have l4 := (Hr.out.2.2.2.2).cell (j := 4) rfl
          have lf := (Hr.out.2.2.2.2).frozen
          go_wp2
          refine bodyPost_ret (v := .tuple #[.agg #[.int .i64 o, .int .i64 ja, .int .i64 jb, .int .i64 jc, .int .i64 jn], .bool true]) (by simp [results, Tryd.results25, go_sem, *]) rfl ?_
          exact HE.out
        | succ g0 =>
          have hk : k < fn := by omega
          have hki : (k : Int) < (fn : Int) := by omega
          have hks : k < fs.size := by omega
          have hk1 : k + 1 < n := by omega
          have hki1 : (k : Int) + 1 < (n : Int) := by omega
          have hk63 : wrap64 ((k : Int) + 1) = (k : Int) + 1 := by unfold wrap64; omega
          have hkt : ((k : Int) + 1).toNat = k + 1 := by omega
          obtain ⟨f, Hf⟩ : ∃ f, Hid (F[k]? = some f) := ⟨F[k]'(by rw [Hfn.out]; exact hk), by show _ = _; exact List.getElem?_eq_getElem _⟩
          obtain ⟨t, Ht⟩ : ∃ t, Hid (ws[k + 1]? = some t) := ⟨ws[k + 1]'(by omega), by show _ = _; exact List.getElem?_eq_getElem _⟩
          have hfg : fs[k]'hks = f := by
            have := txt_get (F := folL o) (k := k) (b := f) (by rw [HF.out]; exact Hf.out) (by rw [Hfs.out]; exact hks)
            simpa [Hfs.out] using this
          have Htl : Hid (t.length < 4611686018427387904) := (HC.out (k + 1) t Ht.out).2
          have tcell : wr.cell? ⟨g, k + 1, none⟩ = some (.string (txt t)) := Hr.out.1.cell (HC.out (k + 1) t Ht.out).1
          obtain ⟨tb, Hty⟩ : ∃ x, Hid (txt t = x) := ⟨_, rfl⟩
          rw [Hty.out] at tcell
          have gz : g < wr.heap.size := cell_block tcell
          have nb : ¬ g = w.heap.size := by omega
          have nb1 : ¬ g = w.heap.size + 1 := by omega
          have Hlet := fol_letters o f (by rw [HF.out]; exact List.mem_of_getElem? Hf.out)
          have r0 := (Hr.out.2.2.2.1).cell (j := 0) rfl
          have r1 := (Hr.out.2.2.2.1).cell (j := 1) rfl
          have r2 := (Hr.out.2.2.2.1).cell (j := 2) rfl
          have r3 := (Hr.out.2.2.2.1).cell (j := 3) rfl
          have r4 := (Hr.out.2.2.2.1).cell (j := 4) rfl
          have rf := (Hr.out.2.2.2.1).frozen
          have l0 := (Hr.out.2.2.2.2).cell (j := 0) rfl
          have l1 := (Hr.out.2.2.2.2).cell (j := 1) rfl
          have l2 := (Hr.out.2.2.2.2).cell (j := 2) rfl
          have l3 := (Hr.out.2.2.2.2).cell (j := 3) rfl
          have l4 := (Hr.out.2.2.2.2).cell (j := 4) rfl
          have lf := (Hr.out.2.2.2.2).frozen
          have Hnx : Hid (∀ v (j' : Ins), NumF f t v → setF ⟨o, ja, jb, jc, jn⟩ f v = j' → j'.op = o → ∃ (k' : Nat) (ja' jb' jc' jn' : Int), k' + g0 = fn ∧ Value.int .i64 ((k : Int) + 1) = .int .i64 k' ∧ Hid (More w (wr.setCell ⟨w.heap.size + 1, (if f = 65 then 1 else if f = 66 then 2 else if f = 67 ∨ f = 68 then 3 else 4), none⟩ (.int .i64 v)) ∧ ReadK F ws ⟨o, 0, 0, c, 0⟩ k' ⟨o, ja', jb', jc', jn'⟩ ∧ (B64 ja' ∧ B64 jb' ∧ B64 jc' ∧ B64 jn') ∧ Blk (wr.setCell ⟨w.heap.size + 1, (if f = 65 then 1 else if f = 66 then 2 else if f = 67 ∨ f = 68 then 3 else 4), none⟩ (.int .i64 v)) w.heap.size #[.int .i64 0, .int .i64 0, .int .i64 0, .int .i64 0, .int .i64 0] 49 ∧ Blk (wr.setCell ⟨w.heap.size + 1, (if f = 65 then 1 else if f = 66 then 2 else if f = 67 ∨ f = 68 then 3 else 4), none⟩ (.int .i64 v)) (w.heap.size + 1) #[.int .i64 o, .int .i64 ja', .int .i64 jb', .int .i64 jc', .int .i64 jn'] 49)) := fun v j' hN hS hop => by
            obtain ⟨o2, a2, b2, c2, n2⟩ := j'
            obtain rfl : o2 = o := hop
            have hb := numF_b64 hN
            obtain ⟨q1, q2, ⟨q3, q4, q5, q6⟩, q7, q8⟩ := Hr.out
            refine ⟨k + 1, a2, b2, c2, n2, by omega, by simp, q1.setCell (by show w.heap.size ≤ _; simp) _, ⟨_, v, f, t, q2, Hf.out, Ht.out, hN, hS.symm⟩, ?_, q7.other (by omega) _ _, ?_⟩
            · unfold setF at hS
              rcases Hlet with rfl | rfl | rfl | rfl | rfl <;> (simp at hS; obtain ⟨rfl, rfl, rfl, rfl⟩ := hS; exact ⟨by assumption, by assumption, by assumption, by assumption⟩)
            · unfold setF at hS
              rcases Hlet with rfl | rfl | rfl | rfl | rfl <;> (simp at hS; obtain ⟨rfl, rfl, rfl, rfl⟩ := hS; first | simpa [List.set] using q8.put 1 (.int .i64 v) | simpa [List.set] using q8.put 2 (.int .i64 v) | simpa [List.set] using q8.put 3 (.int .i64 v) | simpa [List.set] using q8.put 4 (.int .i64 v))
          rcases Hlet with rfl | rfl | rfl | rfl | rfl
          · cases ht : t with
            | nil =>
              have tz : tb.size = 0 := by rw [← Hty.out, ht]; rfl
              have HE := hid_of0 (Hfin.out ⟨o, ja, jb, jc, jn⟩ false wr Hr.out.1 (.inr ⟨rfl, not_line Hhd.out.1 Hhd.out.2 (by rw [HF.out, Hfn.out]; exact hk) (by rw [HF.out]; exact Hf.out) Ht.out (fun v h => by unfold NumF at h; rw [if_neg (by decide)] at h; obtain ⟨r, e, _⟩ := h; rw [ht] at e; cases e)⟩))
              dsimp only at HE
              clear Hfin Hnx
              go_wp2
              refine bodyPost_ret (v := .tuple #[.agg #[.int .i64 o, .int .i64 ja, .int .i64 jb, .int .i64 jc, .int .i64 jn], .bool false]) (by simp [results, Tryd.results25, go_sem, *]) rfl ?_
              exact HE.out
            | cons x rs =>
              have tz : tb.size = rs.length + 1 := by rw [← Hty.out, txt_size, ht]; rfl
              have tzp : 0 < tb.size := by omega
              have tzi : decide (((rs.length : Int) + 1) < 1) = false := decide_eq_false (by omega)
              have tg : tb[0]'tzp = x := by
                have := txt_get (F := t) (k := 0) (b := x) (by rw [ht]; rfl) (by rw [Hty.out]; exact tzp)
                simpa [Hty.out] using this
              have tx : tb.extract 1 (rs.length + 1) = txt rs := by
                rw [← Hty.out, ht]
                show (ByteArray.mk (x :: rs).toArray).extract 1 (rs.length + 1) = _
                rw [ByteArray.extract_mk]
                simp
              have hrl : rs.length < 4611686018427387904 := by have := Htl.out; rw [ht] at this; simp at this; omega
              obtain ⟨xn, hxn⟩ : ∃ y : Int, (x.toNat : Int) = y := ⟨_, rfl⟩
              by_cases hx : xn = 114
              · have hx8 : x = 114 := UInt8.toNat_inj.1 (by have : ((114 : UInt8).toNat : Int) = 114 := rfl; omega)
                have CN := hid_of0 (fun w1 => number_calls12 rs 18 w1 hrl)
                obtain ⟨rb, Hrb⟩ : ∃ y, Hid (txt rs = y) := ⟨_, rfl⟩
                rw [Hrb.out] at CN tx
                have hxb : (xn != 114) = false := by simp [hx]
                clear hx
                go_wp2_with (fail)
                refine (CN.out wr).mono ?_
                rintro e w4 ⟨v, ok, rfl, hv, hw4⟩
                have hw4' := hw4.symm
                subst hw4'
                cases ok with
                | false =>
                  have hno : ∀ v', ¬ NumIs 18 rs v' := by
                    rcases hv with ⟨h, _⟩ | ⟨_, h⟩
                    · cases h
                    · exact h
                  have HE := hid_of0 (Hfin.out ⟨o, ja, jb, jc, jn⟩ false wr Hr.out.1 (.inr ⟨rfl, not_line Hhd.out.1 Hhd.out.2 (by rw [HF.out, Hfn.out]; exact hk) (by rw [HF.out]; exact Hf.out) Ht.out (fun v h => by unfold NumF at h; rw [if_neg (by decide)] at h; obtain ⟨r, e, h⟩ := h; rw [ht] at e; rw [(List.cons.inj e).2] at hno; exact hno v h)⟩))
                  dsimp only at HE
                  clear Hfin Hnx
                  go_wp2
                  refine bodyPost_ret (v := .tuple #[.agg #[.int .i64 o, .int .i64 ja, .int .i64 jb, .int .i64 jc, .int .i64 jn], .bool false]) (by simp [results, Tryd.results25, go_sem, *]) rfl ?_
                  exact HE.out
                | true =>
                  have hnum : NumIs 18 rs v := by
                    rcases hv with ⟨_, h⟩ | ⟨h, _⟩
                    · exact h
                    · cases h
                  have HX := hid_of0 (Hnx.out v ⟨o, v, jb, jc, jn⟩ (by unfold NumF; rw [if_neg (by decide)]; exact ⟨rs, by rw [ht, hx8]; rfl, hnum⟩) (by unfold setF; simp) (by simp))
                  clear hv hnum Hfin Hnx CN
                  go_wp2
                  go_roundg g0
                  case measure => omega
                  case rel => exact HX.out
              · have hxb : (xn != 114) = true := by simp [hx]
                have hx8 : ¬ x = 114 := fun e => hx (by rw [← hxn, e]; rfl)
                have HE := hid_of0 (Hfin.out ⟨o, ja, jb, jc, jn⟩ false wr Hr.out.1 (.inr ⟨rfl, not_line Hhd.out.1 Hhd.out.2 (by rw [HF.out, Hfn.out]; exact hk) (by rw [HF.out]; exact Hf.out) Ht.out (fun v h => by unfold NumF at h; rw [if_neg (by decide)] at h; obtain ⟨r, e, _⟩ := h; rw [ht] at e; exact hx8 (by have := (List.cons.inj e).1; rw [this]; rfl))⟩))
                dsimp only at HE
                clear Hfin Hnx
                go_wp2
                refine bodyPost_ret (v := .tuple #[.agg #[.int .i64 o, .int .i64 ja, .int .i64 jb, .int .i64 jc, .int .i64 jn], .bool false]) (by simp [results, Tryd.results25, go_sem, *]) rfl ?_
                exact HE.out
          · cases ht : t with
            | nil =>
              have tz : tb.size = 0 := by rw [← Hty.out, ht]; rfl
              have HE := hid_of0 (Hfin.out ⟨o, ja, jb, jc, jn⟩ false wr Hr.out.1 (.inr ⟨rfl, not_line Hhd.out.1 Hhd.out.2 (by rw [HF.out, Hfn.out]; exact hk) (by rw [HF.out]; exact Hf.out) Ht.out (fun v h => by unfold NumF at h; rw [if_neg (by decide)] at h; obtain ⟨r, e, _⟩ := h; rw [ht] at e; cases e)⟩))
              dsimp only at HE
              clear Hfin Hnx
              go_wp2
              refine bodyPost_ret (v := .tuple #[.agg #[.int .i64 o, .int .i64 ja, .int .i64 jb, .int .i64 jc, .int .i64 jn], .bool false]) (by simp [results, Tryd.results25, go_sem, *]) rfl ?_
              exact HE.out
            | cons x rs =>
              have tz : tb.size = rs.length + 1 := by rw [← Hty.out, txt_size, ht]; rfl
              have tzp : 0 < tb.size := by omega
              have tzi : decide (((rs.length : Int) + 1) < 1) = false := decide_eq_false (by omega)
              have tg : tb[0]'tzp = x := by
                have := txt_get (F := t) (k := 0) (b := x) (by rw [ht]; rfl) (by rw [Hty.out]; exact tzp)
                simpa [Hty.out] using this
              have tx : tb.extract 1 (rs.length + 1) = txt rs := by
                rw [← Hty.out, ht]
                show (ByteArray.mk (x :: rs).toArray).extract 1 (rs.length + 1) = _
                rw [ByteArray.extract_mk]
                simp
              have hrl : rs.length < 4611686018427387904 := by have := Htl.out; rw [ht] at this; simp at this; omega
              obtain ⟨xn, hxn⟩ : ∃ y : Int, (x.toNat : Int) = y := ⟨_, rfl⟩
              by_cases hx : xn = 114
              · have hx8 : x = 114 := UInt8.toNat_inj.1 (by have : ((114 : UInt8).toNat : Int) = 114 := rfl; omega)
                have CN := hid_of0 (fun w1 => number_calls12 rs 18 w1 hrl)
                obtain ⟨rb, Hrb⟩ : ∃ y, Hid (txt rs = y) := ⟨_, rfl⟩
                rw [Hrb.out] at CN tx
                have hxb : (xn != 114) = false := by simp [hx]
                clear hx
                go_wp2_with (fail)
                refine (CN.out wr).mono ?_
                rintro e w4 ⟨v, ok, rfl, hv, hw4⟩
                have hw4' := hw4.symm
                subst hw4'
                cases ok with
                | false =>
                  have hno : ∀ v', ¬ NumIs 18 rs v' := by
                    rcases hv with ⟨h, _⟩ | ⟨_, h⟩
                    · cases h
                    · exact h
                  have HE := hid_of0 (Hfin.out ⟨o, ja, jb, jc, jn⟩ false wr Hr.out.1 (.inr ⟨rfl, not_line Hhd.out.1 Hhd.out.2 (by rw [HF.out, Hfn.out]; exact hk) (by rw [HF.out]; exact Hf.out) Ht.out (fun v h => by unfold NumF at h; rw [if_neg (by decide)] at h; obtain ⟨r, e, h⟩ := h; rw [ht] at e; rw [(List.cons.inj e).2] at hno; exact hno v h)⟩))
                  dsimp only at HE
                  clear Hfin Hnx
                  go_wp2
                  refine bodyPost_ret (v := .tuple #[.agg #[.int .i64 o, .int .i64 ja, .int .i64 jb, .int .i64 jc, .int .i64 jn], .bool false]) (by simp [results, Tryd.results25, go_sem, *]) rfl ?_
                  exact HE.out
                | true =>
                  have hnum : NumIs 18 rs v := by
                    rcases hv with ⟨_, h⟩ | ⟨h, _⟩
                    · exact h
                    · cases h
                  have HX := hid_of0 (Hnx.out v ⟨o, ja, v, jc, jn⟩ (by unfold NumF; rw [if_neg (by decide)]; exact ⟨rs, by rw [ht, hx8]; rfl, hnum⟩) (by unfold setF; simp) (by simp))
                  clear hv hnum Hfin Hnx CN
                  go_wp2
                  go_roundg g0
                  case measure => omega
                  case rel => exact HX.out
              · have hxb : (xn != 114) = true := by simp [hx]
                have hx8 : ¬ x = 114 := fun e => hx (by rw [← hxn, e]; rfl)
                have HE := hid_of0 (Hfin.out ⟨o, ja, jb, jc, jn⟩ false wr Hr.out.1 (.inr ⟨rfl, not_line Hhd.out.1 Hhd.out.2 (by rw [HF.out, Hfn.out]; exact hk) (by rw [HF.out]; exact Hf.out) Ht.out (fun v h => by unfold NumF at h; rw [if_neg (by decide)] at h; obtain ⟨r, e, _⟩ := h; rw [ht] at e; exact hx8 (by have := (List.cons.inj e).1; rw [this]; rfl))⟩))
                dsimp only at HE
                clear Hfin Hnx
                go_wp2
                refine bodyPost_ret (v := .tuple #[.agg #[.int .i64 o, .int .i64 ja, .int .i64 jb, .int .i64 jc, .int .i64 jn], .bool false]) (by simp [results, Tryd.results25, go_sem, *]) rfl ?_
                exact HE.out
          · cases ht : t with
            | nil =>
              have tz : tb.size = 0 := by rw [← Hty.out, ht]; rfl
              have HE := hid_of0 (Hfin.out ⟨o, ja, jb, jc, jn⟩ false wr Hr.out.1 (.inr ⟨rfl, not_line Hhd.out.1 Hhd.out.2 (by rw [HF.out, Hfn.out]; exact hk) (by rw [HF.out]; exact Hf.out) Ht.out (fun v h => by unfold NumF at h; rw [if_neg (by decide)] at h; obtain ⟨r, e, _⟩ := h; rw [ht] at e; cases e)⟩))
              dsimp only at HE
              clear Hfin Hnx
              go_wp2
              refine bodyPost_ret (v := .tuple #[.agg #[.int .i64 o, .int .i64 ja, .int .i64 jb, .int .i64 jc, .int .i64 jn], .bool false]) (by simp [results, Tryd.results25, go_sem, *]) rfl ?_
              exact HE.out
            | cons x rs =>
              have tz : tb.size = rs.length + 1 := by rw [← Hty.out, txt_size, ht]; rfl
              have tzp : 0 < tb.size := by omega
              have tzi : decide (((rs.length : Int) + 1) < 1) = false := decide_eq_false (by omega)
              have tg : tb[0]'tzp = x := by
                have := txt_get (F := t) (k := 0) (b := x) (by rw [ht]; rfl) (by rw [Hty.out]; exact tzp)
                simpa [Hty.out] using this
              have tx : tb.extract 1 (rs.length + 1) = txt rs := by
                rw [← Hty.out, ht]
                show (ByteArray.mk (x :: rs).toArray).extract 1 (rs.length + 1) = _
                rw [ByteArray.extract_mk]
                simp
              have hrl : rs.length < 4611686018427387904 := by have := Htl.out; rw [ht] at this; simp at this; omega
              obtain ⟨xn, hxn⟩ : ∃ y : Int, (x.toNat : Int) = y := ⟨_, rfl⟩
              by_cases hx : xn = 114
              · have hx8 : x = 114 := UInt8.toNat_inj.1 (by have : ((114 : UInt8).toNat : Int) = 114 := rfl; omega)
                have CN := hid_of0 (fun w1 => number_calls12 rs 18 w1 hrl)
                obtain ⟨rb, Hrb⟩ : ∃ y, Hid (txt rs = y) := ⟨_, rfl⟩
                rw [Hrb.out] at CN tx
                have hxb : (xn != 114) = false := by simp [hx]
                clear hx
                go_wp2_with (fail)
                refine (CN.out wr).mono ?_
                rintro e w4 ⟨v, ok, rfl, hv, hw4⟩
                have hw4' := hw4.symm
                subst hw4'
                cases ok with
                | false =>
                  have hno : ∀ v', ¬ NumIs 18 rs v' := by
                    rcases hv with ⟨h, _⟩ | ⟨_, h⟩
                    · cases h
                    · exact h
                  have HE := hid_of0 (Hfin.out ⟨o, ja, jb, jc, jn⟩ false wr Hr.out.1 (.inr ⟨rfl, not_line Hhd.out.1 Hhd.out.2 (by rw [HF.out, Hfn.out]; exact hk) (by rw [HF.out]; exact Hf.out) Ht.out (fun v h => by unfold NumF at h; rw [if_neg (by decide)] at h; obtain ⟨r, e, h⟩ := h; rw [ht] at e; rw [(List.cons.inj e).2] at hno; exact hno v h)⟩))
                  dsimp only at HE
                  clear Hfin Hnx
                  go_wp2
                  refine bodyPost_ret (v := .tuple #[.agg #[.int .i64 o, .int .i64 ja, .int .i64 jb, .int .i64 jc, .int .i64 jn], .bool false]) (by simp [results, Tryd.results25, go_sem, *]) rfl ?_
                  exact HE.out
                | true =>
                  have hnum : NumIs 18 rs v := by
                    rcases hv with ⟨_, h⟩ | ⟨h, _⟩
                    · exact h
                    · cases h
                  have HX := hid_of0 (Hnx.out v ⟨o, ja, jb, v, jn⟩ (by unfold NumF; rw [if_neg (by decide)]; exact ⟨rs, by rw [ht, hx8]; rfl, hnum⟩) (by unfold setF; simp) (by simp))
                  clear hv hnum Hfin Hnx CN
                  go_wp2
                  go_roundg g0
                  case measure => omega
                  case rel => exact HX.out
              · have hxb : (xn != 114) = true := by simp [hx]
                have hx8 : ¬ x = 114 := fun e => hx (by rw [← hxn, e]; rfl)
                have HE := hid_of0 (Hfin.out ⟨o, ja, jb, jc, jn⟩ false wr Hr.out.1 (.inr ⟨rfl, not_line Hhd.out.1 Hhd.out.2 (by rw [HF.out, Hfn.out]; exact hk) (by rw [HF.out]; exact Hf.out) Ht.out (fun v h => by unfold NumF at h; rw [if_neg (by decide)] at h; obtain ⟨r, e, _⟩ := h; rw [ht] at e; exact hx8 (by have := (List.cons.inj e).1; rw [this]; rfl))⟩))
                dsimp only at HE
                clear Hfin Hnx
                go_wp2
                refine bodyPost_ret (v := .tuple #[.agg #[.int .i64 o, .int .i64 ja, .int .i64 jb, .int .i64 jc, .int .i64 jn], .bool false]) (by simp [results, Tryd.results25, go_sem, *]) rfl ?_
                exact HE.out
          · cases ht : t with
            | nil =>
              have tz : tb.size = 0 := by rw [← Hty.out, ht]; rfl
              have HE := hid_of0 (Hfin.out ⟨o, ja, jb, jc, jn⟩ false wr Hr.out.1 (.inr ⟨rfl, not_line Hhd.out.1 Hhd.out.2 (by rw [HF.out, Hfn.out]; exact hk) (by rw [HF.out]; exact Hf.out) Ht.out (fun v h => by unfold NumF at h; rw [if_neg (by decide)] at h; obtain ⟨r, e, _⟩ := h; rw [ht] at e; cases e)⟩))
              dsimp only at HE
              clear Hfin Hnx
              go_wp2
              refine bodyPost_ret (v := .tuple #[.agg #[.int .i64 o, .int .i64 ja, .int .i64 jb, .int .i64 jc, .int .i64 jn], .bool false]) (by simp [results, Tryd.results25, go_sem, *]) rfl ?_
              exact HE.out
            | cons x rs =>
              have tz : tb.size = rs.length + 1 := by rw [← Hty.out, txt_size, ht]; rfl
              have tzp : 0 < tb.size := by omega
              have tzi : decide (((rs.length : Int) + 1) < 1) = false := decide_eq_false (by omega)
              have tg : tb[0]'tzp = x := by
                have := txt_get (F := t) (k := 0) (b := x) (by rw [ht]; rfl) (by rw [Hty.out]; exact tzp)
                simpa [Hty.out] using this
              have tx : tb.extract 1 (rs.length + 1) = txt rs := by
                rw [← Hty.out, ht]
                show (ByteArray.mk (x :: rs).toArray).extract 1 (rs.length + 1) = _
                rw [ByteArray.extract_mk]
                simp
              have hrl : rs.length < 4611686018427387904 := by have := Htl.out; rw [ht] at this; simp at this; omega
              obtain ⟨xn, hxn⟩ : ∃ y : Int, (x.toNat : Int) = y := ⟨_, rfl⟩
              by_cases hx : xn = 103
              · have hx8 : x = 103 := UInt8.toNat_inj.1 (by have : ((103 : UInt8).toNat : Int) = 103 := rfl; omega)
                have CN := hid_of0 (fun w1 => number_calls12 rs 18 w1 hrl)
                obtain ⟨rb, Hrb⟩ : ∃ y, Hid (txt rs = y) := ⟨_, rfl⟩
                rw [Hrb.out] at CN tx
                have hxb : (xn != 103) = false := by simp [hx]
                clear hx
                go_wp2_with (fail)
                refine (CN.out wr).mono ?_
                rintro e w4 ⟨v, ok, rfl, hv, hw4⟩
                have hw4' := hw4.symm
                subst hw4'
                cases ok with
                | false =>
                  have hno : ∀ v', ¬ NumIs 18 rs v' := by
                    rcases hv with ⟨h, _⟩ | ⟨_, h⟩
                    · cases h
                    · exact h
                  have HE := hid_of0 (Hfin.out ⟨o, ja, jb, jc, jn⟩ false wr Hr.out.1 (.inr ⟨rfl, not_line Hhd.out.1 Hhd.out.2 (by rw [HF.out, Hfn.out]; exact hk) (by rw [HF.out]; exact Hf.out) Ht.out (fun v h => by unfold NumF at h; rw [if_neg (by decide)] at h; obtain ⟨r, e, h⟩ := h; rw [ht] at e; rw [(List.cons.inj e).2] at hno; exact hno v h)⟩))
                  dsimp only at HE
                  clear Hfin Hnx
                  go_wp2
                  refine bodyPost_ret (v := .tuple #[.agg #[.int .i64 o, .int .i64 ja, .int .i64 jb, .int .i64 jc, .int .i64 jn], .bool false]) (by simp [results, Tryd.results25, go_sem, *]) rfl ?_
                  exact HE.out
                | true =>
                  have hnum : NumIs 18 rs v := by
                    rcases hv with ⟨_, h⟩ | ⟨h, _⟩
                    · exact h
                    · cases h
                  have HX := hid_of0 (Hnx.out v ⟨o, ja, jb, v, jn⟩ (by unfold NumF; rw [if_neg (by decide)]; exact ⟨rs, by rw [ht, hx8]; rfl, hnum⟩) (by unfold setF; simp) (by simp))
                  clear hv hnum Hfin Hnx CN
                  go_wp2
                  go_roundg g0
                  case measure => omega
                  case rel => exact HX.out
              · have hxb : (xn != 103) = true := by simp [hx]
                have hx8 : ¬ x = 103 := fun e => hx (by rw [← hxn, e]; rfl)
                have HE := hid_of0 (Hfin.out ⟨o, ja, jb, jc, jn⟩ false wr Hr.out.1 (.inr ⟨rfl, not_line Hhd.out.1 Hhd.out.2 (by rw [HF.out, Hfn.out]; exact hk) (by rw [HF.out]; exact Hf.out) Ht.out (fun v h => by unfold NumF at h; rw [if_neg (by decide)] at h; obtain ⟨r, e, _⟩ := h; rw [ht] at e; exact hx8 (by have := (List.cons.inj e).1; rw [this]; rfl))⟩))
                dsimp only at HE
                clear Hfin Hnx
                go_wp2
                refine bodyPost_ret (v := .tuple #[.agg #[.int .i64 o, .int .i64 ja, .int .i64 jb, .int .i64 jc, .int .i64 jn], .bool false]) (by simp [results, Tryd.results25, go_sem, *]) rfl ?_
                exact HE.out
          · have CN := hid_of0 (fun w1 => number_calls12 t 19 w1 Htl.out)
            rw [Hty.out] at CN
            go_wp2_with (fail)
            refine (CN.out wr).mono ?_
            rintro e w4 ⟨v, ok, rfl, hv, hw4⟩
            have hw4' := hw4.symm
            subst hw4'
            cases ok with
            | false =>
              have hno : ∀ v', ¬ NumIs 19 t v' := by
                rcases hv with ⟨h, _⟩ | ⟨_, h⟩
                · cases h
                · exact h
              have HE := hid_of0 (Hfin.out ⟨o, ja, jb, jc, jn⟩ false wr Hr.out.1 (.inr ⟨rfl, not_line Hhd.out.1 Hhd.out.2 (by rw [HF.out, Hfn.out]; exact hk) (by rw [HF.out]; exact Hf.out) Ht.out (fun v h => hno v (by unfold NumF at h; rw [if_pos rfl] at h; exact h))⟩))
              dsimp only at HE
              clear Hfin Hnx
              go_wp2
              refine bodyPost_ret (v := .tuple #[.agg #[.int .i64 o, .int .i64 ja, .int .i64 jb, .int .i64 jc, .int .i64 jn], .bool false]) (by simp [results, Tryd.results25, go_sem, *]) rfl ?_
              exact HE.out
            | true =>
              have hnum : NumIs 19 t v := by
                rcases hv with ⟨_, h⟩ | ⟨h, _⟩
                · exact h
                · cases h
              have HX := hid_of0 (Hnx.out v ⟨o, ja, jb, jc, v⟩ (by unfold NumF; rw [if_pos rfl]; exact hnum) (by unfold setF; simp) (by simp))
              clear hv hnum Hfin Hnx CN
              go_wp2
              go_roundg g0
              case measure => omega
              case rel => exact HX.out
    · have e1 : (((n : Int) - 1) != (fn : Int)) = true := by simp; omega
      have HE := hid_of0 (Hfin.out ⟨o, 0, 0, c, 0⟩ false w3 (Hm2.out.trans Hm3.out) (.inr ⟨rfl, fun j' => by
        rintro ⟨o', c', r', e', hl, _⟩
        obtain ⟨rfl, rfl⟩ := lineIs_head Hhd.out.1 Hhd.out.2 r' e'
        rw [HF.out, Hfn.out, hn] at hl
        exact hnf hl⟩))
      dsimp only at HE
      clear Hfin hnf
      have r0 := (Hr2.out.more Hm3.out).cell (j := 0) rfl
      have r1 := (Hr2.out.more Hm3.out).cell (j := 1) rfl
      have r2 := (Hr2.out.more Hm3.out).cell (j := 2) rfl
      have r3 := (Hr2.out.more Hm3.out).cell (j := 3) rfl
      have r4 := (Hr2.out.more Hm3.out).cell (j := 4) rfl
      have rf := (Hr2.out.more Hm3.out).frozen
      have l0 := (Hb2.out.more Hm3.out).cell (j := 0) rfl
      have l1 := (Hb2.out.more Hm3.out).cell (j := 1) rfl
      have l2 := (Hb2.out.more Hm3.out).cell (j := 2) rfl
      have l3 := (Hb2.out.more Hm3.out).cell (j := 3) rfl
      have l4 := (Hb2.out.more Hm3.out).cell (j := 4) rfl
      go_wp2
      refine bodyPost_ret (v := .tuple #[.agg #[.int .i64 o, .int .i64 0, .int .i64 0, .int .i64 c, .int .i64 0], .bool false]) (by simp [results, Tryd.results25, go_sem, *]) rfl ?_
      exact HE.out
end
section
open Go.RowKit
set_option linter.unusedSimpArgs false
set_option linter.unusedVariables false
theorem splitL_app (b : UInt8) (y : List UInt8) : ∀ x : List UInt8, ¬ b ∈ x → splitL b (x ++ b :: y) = x :: splitL b y
  | [], _ => by simp [splitL]
  | c :: x, h => by
    have h0 : ¬ c = b := fun e => h (by simp [e])
    have ih := splitL_app b y x (fun e => h (by simp [e]))
    rw [List.cons_append, splitL, if_neg h0, ih]
theorem splitL_none (b : UInt8) (x : List UInt8) (h : ¬ b ∈ x) : splitL b x = [x] :=
  splitL_end b x (fun j hj e => h (List.mem_of_getElem? e))
/-- Words behind a first one, and a space ahead of each. -/
theorem split_flat (b : UInt8) : ∀ (ws : List (List UInt8)) (x : List UInt8), ¬ b ∈ x → (∀ y ∈ ws, ¬ b ∈ y) → splitL b (x ++ ws.flatMap (fun y => b :: y)) = x :: ws
  | [], x, h, _ => by simp [splitL_none b x h]
  | y :: ws, x, h, hw => by
    have ih := split_flat b ws y (hw y (by simp)) (fun z hz => hw z (by simp [hz]))
    rw [List.flatMap_cons, List.cons_append, splitL_app b _ x h, ih]
theorem flat_split (b : UInt8) : ∀ l : List UInt8, ∃ x ws, splitL b l = x :: ws ∧ l = x ++ ws.flatMap (fun y => b :: y) ∧ ¬ b ∈ x ∧ ∀ y ∈ ws, ¬ b ∈ y
  | [] => ⟨[], [], rfl, rfl, by simp, by simp⟩
  | c :: l => by
    obtain ⟨x, ws, h1, h2, h3, h4⟩ := flat_split b l
    rw [splitL]
    by_cases hc : c = b
    · rw [if_pos hc]
      refine ⟨[], x :: ws, by rw [h1], ?_, by simp, ?_⟩
      · rw [List.flatMap_cons, List.nil_append, List.cons_append, ← h2, hc]
      · intro y hy
        rcases List.mem_cons.1 hy with rfl | hy
        · exact h3
        · exact h4 y hy
    · rw [if_neg hc, h1]
      refine ⟨c :: x, ws, rfl, by rw [List.cons_append, ← h2], ?_, h4⟩
      intro e
      rcases List.mem_cons.1 e with e | e
      · exact hc e.symm
      · exact h3 e
/-- Lines, each with its end. -/
theorem split_lines (b : UInt8) : ∀ (L : List (List UInt8)), (∀ y ∈ L, ¬ b ∈ y) → splitL b (L.flatMap (fun y => y ++ [b])) = L ++ [[]]
  | [], _ => rfl
  | x :: L, h => by
    have ih := split_lines b L (fun y hy => h y (by simp [hy]))
    rw [List.flatMap_cons, List.append_assoc, List.singleton_append, splitL_app b _ x (h x (by simp)), ih]
    rfl
theorem flat_lines (b : UInt8) : ∀ (ws : List (List UInt8)) (x : List UInt8), (x :: ws).getLast? = some [] → x ++ ws.flatMap (fun y => b :: y) = ((x :: ws).dropLast).flatMap (fun y => y ++ [b])
  | [], x, h => by
    have : x = [] := by simpa using h
    simp [this]
  | y :: ws, x, h => by
    have ih := flat_lines b ws y (by simpa using h)
    rw [List.flatMap_cons, List.cons_append, ih, List.dropLast_cons_cons, List.flatMap_cons]
    simp
/-- What is split, and ends so, are its lines. -/
theorem lines_of (b : UInt8) (l : List UInt8) (h : (splitL b l).getLast? = some []) : l = ((splitL b l).dropLast).flatMap (fun y => y ++ [b]) := by
  obtain ⟨x, ws, h1, h2, _, _⟩ := flat_split b l
  rw [h1] at h ⊢
  rw [← flat_lines b ws x h]
  exact h2

/-- A letter's word. -/
def wf (f : UInt8) (v : Int) : List UInt8 := if f = 78 then digI v else (if f = 68 then 103 else 114) :: digI v
def getF (i : Ins) (f : UInt8) : Int := if f = 65 then i.a else if f = 66 then i.b else if f = 67 ∨ f = 68 then i.c else i.n
theorem numF_wf {f : UInt8} {t : List UInt8} {v : Int} (h : NumF f t v) : t = wf f v := by
  unfold NumF at h
  unfold wf
  by_cases c : f = 78
  · rw [if_pos c] at h ⊢; exact numIs_dig h (by decide)
  · rw [if_neg c] at h ⊢
    obtain ⟨r, rfl, h⟩ := h
    rw [numIs_dig h (by decide)]
theorem wf_numF {f : UInt8} {v : Int} (hb : B64 v) (h : ¬ f = 78 → v.natAbs < 10 ^ 18) : NumF f (wf f v) v := by
  unfold NumF wf
  by_cases c : f = 78
  · rw [if_pos c, if_pos c]
    exact dig_numIs hb 19 (by unfold B64 at hb; omega) (by decide) (by decide) (by decide)
  · rw [if_neg c, if_neg c]
    exact ⟨_, rfl, dig_numIs hb 18 (h c) (by decide) (by decide) (by decide)⟩
theorem piece_wf {i : Ins} {f : UInt8} (h : f = 65 ∨ f = 66 ∨ f = 67 ∨ f = 68 ∨ f = 78) : pieceF i f = 32 :: wf f (getF i f) := by
  rcases h with rfl | rfl | rfl | rfl | rfl <;> rfl
theorem pieces_take (i : Ins) (F : List UInt8) : ∀ k, piecesF i F k = (F.take k).flatMap (pieceF i)
  | 0 => by simp [piecesF]
  | k + 1 => by
    rw [piecesF, pieces_take i F k, List.take_add_one, List.flatMap_append]
    cases F[k]? with
    | none => simp
    | some f => simp
/-- The words of an instruction's line. -/
def lineW (i : Ins) : List (List UInt8) := (folL i.op).map (fun f => wf f (getF i f))
theorem flat_words (i : Ins) : ∀ F : List UInt8, (∀ f ∈ F, f = 65 ∨ f = 66 ∨ f = 67 ∨ f = 68 ∨ f = 78) → F.flatMap (pieceF i) = (F.map (fun f => wf f (getF i f))).flatMap (fun y => 32 :: y)
  | [], _ => rfl
  | f :: F, h => by
    rw [List.flatMap_cons, List.map_cons, List.flatMap_cons, flat_words i F (fun g hg => h g (by simp [hg])), piece_wf (h f (by simp))]
theorem line_words (i : Ins) : lineL i = wordL i.op i.c ++ (lineW i).flatMap (fun y => 32 :: y) ++ [10] := by
  unfold lineL lineW
  rw [pieces_take, List.take_length, flat_words i _ (fol_letters i.op)]
/-- No line's end and no space in a word. -/
theorem dig_clean (v : Int) : ∀ b ∈ digI v, 45 ≤ b.toNat := by
  intro b hb
  unfold digI at hb
  rcases List.mem_append.1 hb with hb | hb
  · split at hb
    · have := List.mem_singleton.1 hb; rw [this]; decide
    · cases hb
  · have key : ∀ f k, ∀ b ∈ dig f k, 45 ≤ b.toNat := by
      intro f
      induction f with
      | zero => intro k b hb; cases hb
      | succ f ih =>
        intro k b hb
        rw [dig] at hb
        rcases List.mem_append.1 hb with hb | hb
        · split at hb
          · cases hb
          · exact ih _ b hb
        · have e := List.mem_singleton.1 hb
          rw [e, ofNat_digit _ (Nat.mod_lt _ (by decide))]
          omega
    exact key 20 _ b hb
theorem wf_clean (f : UInt8) (v : Int) : ∀ b ∈ wf f v, 45 ≤ b.toNat := by
  intro b hb
  unfold wf at hb
  split at hb
  · exact dig_clean v b hb
  · rcases List.mem_cons.1 hb with e | e
    · rw [e]; split <;> decide
    · exact dig_clean v b e
theorem word_clean (o c : Int) : ∀ b ∈ wordL o c, 45 ≤ b.toNat := by
  have key : ∀ (c : Prop) [Decidable c] (x y : List UInt8), (∀ f ∈ x, 45 ≤ f.toNat) → (∀ f ∈ y, 45 ≤ f.toNat) → ∀ f ∈ (if c then x else y), 45 ≤ f.toNat := fun c _ x y hx hy f hf => by
    split at hf
    · exact hx f hf
    · exact hy f hf
  unfold wordL
  iterate 25 refine key _ _ _ (by decide) ?_
  decide
theorem clean_not {l : List UInt8} (h : ∀ b ∈ l, 45 ≤ b.toNat) (b : UInt8) (hb : b.toNat < 45) : ¬ b ∈ l := fun e => by have := h b e; omega
/-- An instruction's line is split into its words. -/
theorem split_line (i : Ins) : splitL 32 (wordL i.op i.c ++ (lineW i).flatMap (fun y => 32 :: y)) = wordL i.op i.c :: lineW i := by
  refine split_flat 32 _ _ (clean_not (word_clean _ _) 32 (by decide)) (fun y hy => ?_)
  obtain ⟨f, _, rfl⟩ := List.mem_map.1 hy
  exact clean_not (wf_clean _ _) 32 (by decide)
end
end Go.Proofs.YtoedgnedallhnaaDoor
