/-
  What chapter 3 says of a run, on plain data: a step, and so many of them. No Go text in sight.
-/
import Derived.Test.YtdlhlhbbhjbkpaaShown
import Derived.Test.YtdlhlhbbhjbkpaaPlain
namespace Go.Proofs.Ytdlhlhbbhjbkpaa
open Go.RowKit

def B64 (x : Int) : Prop := -9223372036854775808 ≤ x ∧ x ≤ 9223372036854775807
theorem B64_wrap (x : Int) : B64 (wrap64 x) := by unfold B64 wrap64; omega
theorem B64_zero : B64 0 := by unfold B64; omega

def setR (r : Nat → Int) (a v : Int) : Nat → Int := fun j => if j = a.toNat then v else r j
def setW (m : Mem) (c i : Nat) (v : Int) : Mem := ⟨m.ml, m.len, fun x y => if x = c ∧ y = i then v else m.wd x y⟩

/-- How many words the regions ahead of one have. -/
def baseI (log : Nat → Int) : Nat → Int
  | 0 => 0
  | k + 1 => baseI log k + wordsI (log k)

/-- An instruction of registers alone: the registers behind it, and what it shows beside its step. -/
def regsI (r : Nat → Int) (i : Ins) : (Nat → Int) × List Se :=
  if i.op = 1 then (setR r i.a i.n, [])
  else if i.op = 2 then (setR r i.a (r i.b.toNat), [])
  else if i.op = 10 then (setR r i.a (wrap64 (r i.b.toNat + i.n)), [])
  else if i.op = 11 then (if r i.a.toNat < 0 ∨ i.n ≤ r i.a.toNat then setR r i.a 0 else r, [])
  else if i.op = 12 then (r, [])
  else (setR r i.a (opI (i.op - 20) (r i.b.toNat) (r i.c.toNat)), if i.op = 29 ∨ i.op = 30 then [⟨3, r i.b.toNat, r i.c.toNat⟩] else [])

def putI (i : Ins) : Int := if i.op = 3 ∨ i.op = 5 then 0 else if i.op = 4 ∨ i.op = 6 then 1 else -1
def idxI (r : Nat → Int) (i : Ins) : Int := if i.op = 5 ∨ i.op = 6 then i.n else wrap64 (r i.b.toNat + i.n)

/-- Where a run stands. -/
structure St where
  at_ : Nat
  r : Nat → Int
  m : Mem
  seen : List Se

/-- One step of an instruction that is there: the state behind it; how the run ends with it, if it does, and its value. -/
def stepI (p : Prg) (s : St) : St × Option (Int × Int) :=
  if (p.ins s.at_).op = 7 then (⟨(p.ins s.at_).n.toNat, s.r, s.m, s.seen ++ [⟨1, s.at_, 0⟩]⟩, none)
  else if (p.ins s.at_).op = 8 then
    (⟨if holdsI (p.ins s.at_).c (s.r (p.ins s.at_).a.toNat) (s.r (p.ins s.at_).b.toNat) = true then (p.ins s.at_).n.toNat else s.at_ + 1, s.r, s.m, s.seen ++ [⟨1, s.at_, 0⟩]⟩, none)
  else if (p.ins s.at_).op = 9 then (⟨s.at_ + 1, s.r, s.m, s.seen ++ [⟨1, s.at_, 0⟩]⟩, some (1, s.r (p.ins s.at_).a.toNat))
  else if 0 ≤ putI (p.ins s.at_) then
    if idxI s.r (p.ins s.at_) < 0 ∨ (s.m.len (p.ins s.at_).c.toNat : Int) ≤ idxI s.r (p.ins s.at_) then (⟨s.at_ + 1, s.r, s.m, s.seen ++ [⟨1, s.at_, 0⟩]⟩, some (2, 0))
    else if putI (p.ins s.at_) = 1 then
      (⟨s.at_ + 1, s.r, setW s.m (p.ins s.at_).c.toNat (idxI s.r (p.ins s.at_)).toNat (s.r (p.ins s.at_).a.toNat),
        s.seen ++ [⟨1, s.at_, 0⟩] ++ [⟨2, baseI p.log (p.ins s.at_).c.toNat + idxI s.r (p.ins s.at_), 1⟩]⟩, none)
    else
      (⟨s.at_ + 1, setR s.r (p.ins s.at_).a (s.m.wd (p.ins s.at_).c.toNat (idxI s.r (p.ins s.at_)).toNat), s.m,
        s.seen ++ [⟨1, s.at_, 0⟩] ++ [⟨2, baseI p.log (p.ins s.at_).c.toNat + idxI s.r (p.ins s.at_), 0⟩]⟩, none)
  else (⟨s.at_ + 1, (regsI s.r (p.ins s.at_)).1, s.m, s.seen ++ [⟨1, s.at_, 0⟩] ++ (regsI s.r (p.ins s.at_)).2⟩, none)

/-- So many steps more, behind k of them. -/
def runI (p : Prg) : Nat → Nat → St → Sh
  | 0, k, s => ⟨0, 0, k, s.seen, s.m⟩
  | f + 1, k, s =>
    if p.cl ≤ s.at_ then ⟨2, 0, k, s.seen, s.m⟩
    else match (stepI p s).2 with
      | some e => ⟨e.1, e.2, (k : Int) + 1, (stepI p s).1.seen, (stepI p s).1.m⟩
      | none => runI p f (k + 1) (stepI p s).1

/-- The run, from the first instruction on. -/
def playI (p : Prg) (m : Mem) (fuel : Nat) : Sh := runI p fuel 0 ⟨0, fun _ => 0, m, []⟩

/-! ### Registers in memory -/
def RegsR (w : World) (g : Nat) (r : Nat → Int) : Prop := ∀ j, j < 10 → w.cell? ⟨g, j, none⟩ = some (.int .i64 (r j)) ∧ w.frozen? ⟨g, j, none⟩ = false

theorem frozen_kept {w w' : World} {row : Option Nat} (hg : w.grownBy w' row) {a : Addr} {v : Value} (h : w.cell? a = some v) (hne : some a.block ≠ row) : w'.frozen? a = w.frozen? a :=
  World.frozen?_of_block (hg.block a.block (cell_block h) hne)
theorem RegsR.kept {w w' : World} {row : Option Nat} (hg : w.grownBy w' row) {g : Nat} {r : Nat → Int} (h : RegsR w g r) (hne : some g ≠ row) : RegsR w' g r :=
  fun j hj => ⟨hg.cell (h j hj).1 hne, (frozen_kept hg (h j hj).1 hne).trans (h j hj).2⟩
theorem grown_drew (w : World) (row : Option Nat) : w.grownBy w.drew row := ⟨rfl, rfl, rfl, Nat.le_refl _, fun _ _ _ => rfl⟩
theorem grown_refl (w : World) (row : Option Nat) : w.grownBy w row := ⟨rfl, rfl, rfl, Nat.le_refl _, fun _ _ _ => rfl⟩
theorem grown_set (w : World) (g o : Nat) (v : Value) : w.grownBy (w.setCell ⟨g, o, none⟩ v) (some g) :=
  ⟨rfl, rfl, rfl, by simp [World.setCell], fun k _ hne => Below.heap_setCell _ _ _ _ (by simpa using hne)⟩
theorem grown_trans {a b c : World} {row : Option Nat} (h : a.grownBy b row) (k : b.grownBy c row) : a.grownBy c row :=
  ⟨k.os.trans h.os, k.tape.trans h.tape, k.output.trans h.output, Nat.le_trans h.size k.size, fun i hi hne => (k.block i (Nat.lt_of_lt_of_le hi h.size) hne).trans (h.block i hi hne)⟩
theorem More.grow {w w' : World} (h : More w w') (row : Option Nat) : w.grownBy w' row := ⟨Below.os h, Below.tape h, Below.output h, Below.size h, fun k hk _ => Below.block h k hk⟩

theorem RegsR.set {w : World} {g : Nat} {r : Nat → Int} (h : RegsR w g r) (a v : Int) : RegsR (w.setCell ⟨g, a.toNat, none⟩ (.int .i64 v)) g (setR r a v) := by
  intro j hj
  refine ⟨?_, by rw [World.frozen?_setCell]; exact (h j hj).2⟩
  unfold setR
  by_cases e : j = a.toNat
  · subst e
    rw [if_pos rfl]
    exact World.cell?_setCell_same _ _ _ (h _ hj).1
  · rw [if_neg e, World.cell?_setCell_other _ _ _ _ (by simp <;> omega)]
    exact (h j hj).1

theorem RegsR.alloc {w : World} {g : Nat} {r : Nat → Int} (h : RegsR w g r) (c : Array Value) (t : TypeId) : RegsR (w.alloc (.cells c t)) g r := h.kept (World.grownBy_alloc w _ none) (by simp)
theorem RegsR.drew {w : World} {g : Nat} {r : Nat → Int} (h : RegsR w g r) : RegsR w.drew g r := h
theorem RegsR.more {w w' : World} (m : More w w') {g : Nat} {r : Nat → Int} (h : RegsR w g r) : RegsR w' g r := h.kept (m.grow none) (by simp)
theorem gr_alloc {w w1 : World} {row : Option Nat} (h : w.grownBy w1 row) (o : Obj) : w.grownBy (w1.alloc o) row := grown_trans h (World.grownBy_alloc w1 o row)
theorem gr_drew {w w1 : World} {row : Option Nat} (h : w.grownBy w1 row) : w.grownBy w1.drew row := grown_trans h (grown_drew w1 row)
theorem gr_set {w w1 : World} {g : Nat} (h : w.grownBy w1 (some g)) (o : Nat) (v : Value) : w.grownBy (w1.setCell ⟨g, o, none⟩ v) (some g) := grown_trans h (grown_set w1 g o v)
theorem gr_more {w w1 w2 : World} {row : Option Nat} (h : w.grownBy w1 row) (m : More w1 w2) : w.grownBy w2 row := grown_trans h (m.grow row)
theorem wrapEq (x : Int) : IntKind.i64.wrap x = wrap64 x := by rw [IntKind.wrap_i64]; unfold wrap64; omega

end Go.Proofs.Ytdlhlhbbhjbkpaa
