/-
  Where a run of the reference's Play stands in memory, and how it stays so under what a step does. No Go text in sight.
-/
import Derived.Test.YtdlhlhbbhjbkpaaOwn
namespace Go.Proofs.Ytdlhlhbbhjbkpaa
open Go.RowKit
set_option linter.unusedVariables false

/-- A cell that may be written. -/
def Wr (w : World) (b o : Nat) (v : Value) : Prop := w.cell? ⟨b, o, none⟩ = some v ∧ w.frozen? ⟨b, o, none⟩ = false
theorem Wr.kept {w w' : World} {row : Option Nat} (hg : w.grownBy w' row) {b o : Nat} {v : Value} (h : Wr w b o v) (hne : some b ≠ row) : Wr w' b o v :=
  ⟨hg.cell h.1 hne, (frozen_kept hg h.1 hne).trans h.2⟩
theorem Wr.same {w : World} {b o : Nat} {v : Value} (h : Wr w b o v) (u : Value) : Wr (w.setCell ⟨b, o, none⟩ u) b o u :=
  ⟨World.cell?_setCell_same _ _ _ h.1, by rw [World.frozen?_setCell]; exact h.2⟩
theorem Wr.other {w : World} {b o : Nat} {v : Value} (h : Wr w b o v) (b' o' : Nat) (u : Value) (hne : b' ≠ b ∨ o' ≠ o) : Wr (w.setCell ⟨b', o', none⟩ u) b o v :=
  ⟨by rw [World.cell?_setCell_other _ _ _ _ (by intro e; simp only [Addr.mk.injEq] at e; omega)]; exact h.1, by rw [World.frozen?_setCell]; exact h.2⟩

/-- N: the box of the program; N + 1: the result; B: what is shown; B + 1: the registers; behind them what was seen; between N + 1 and B the words. -/
structure PAt (w wr : World) (rv cv : Value) (B : Nat) (s : St) (k : Nat) (sv mv : Value) (mb mc : Nat) (G C : Nat → Nat) : Prop where
  more : More w wr
  size : B + 1 < wr.heap.size
  low : w.heap.size + 2 ≤ B
  b0 : Wr wr w.heap.size 0 rv
  b1 : Wr wr w.heap.size 1 cv
  o0 : Wr wr (w.heap.size + 1) 0 (.int .i64 0)
  o1 : Wr wr (w.heap.size + 1) 1 (.int .i64 0)
  o2 : Wr wr (w.heap.size + 1) 2 (.int .i64 0)
  o3 : Wr wr (w.heap.size + 1) 3 (.slice none 0 0)
  o4 : Wr wr (w.heap.size + 1) 4 (.slice none 0 0)
  s0 : Wr wr B 0 (.int .i64 0)
  s1 : Wr wr B 1 (.int .i64 0)
  s2 : Wr wr B 2 (.int .i64 k)
  s3 : Wr wr B 3 sv
  s4 : Wr wr B 4 mv
  regs : RegsR wr (B + 1) s.r
  seen : SeenOwn wr (B + 2) sv s.seen
  mem : MemOwn wr (w.heap.size + 2) B s.m mv mb mc G C

section
variable {w wr w' : World} {rv cv : Value} {B : Nat} {s : St} {k : Nat} {sv mv : Value} {mb mc : Nat} {G C : Nat → Nat}

theorem PAt.grown (h : PAt w wr rv cv B s k sv mv mb mc G C) (hg : wr.grownBy w' none) : PAt w w' rv cv B s k sv mv mb mc G C :=
  ⟨h.more.grownBy hg (fun b hb => by cases hb), Nat.lt_of_lt_of_le h.size hg.size, h.low, h.b0.kept hg (by simp), h.b1.kept hg (by simp), h.o0.kept hg (by simp), h.o1.kept hg (by simp), h.o2.kept hg (by simp), h.o3.kept hg (by simp), h.o4.kept hg (by simp),
    h.s0.kept hg (by simp), h.s1.kept hg (by simp), h.s2.kept hg (by simp), h.s3.kept hg (by simp), h.s4.kept hg (by simp), h.regs.kept hg (by simp), h.seen.kept hg (fun b hb => by cases hb), h.mem.kept hg (fun b hb => by cases hb)⟩
theorem PAt.alloc (h : PAt w wr rv cv B s k sv mv mb mc G C) (o : Obj) : PAt w (wr.alloc o) rv cv B s k sv mv mb mc G C := h.grown (World.grownBy_alloc _ _ _)
theorem PAt.drew (h : PAt w wr rv cv B s k sv mv mb mc G C) : PAt w wr.drew rv cv B s k sv mv mb mc G C := h.grown (grown_drew _ _)
theorem PAt.on (h : PAt w wr rv cv B s k sv mv mb mc G C) (m : More wr w') : PAt w w' rv cv B s k sv mv mb mc G C := h.grown (m.grow _)

/-- One step more. -/
theorem PAt.steps (h : PAt w wr rv cv B s k sv mv mb mc G C) (k' : Nat) (n : Int) (hn : n = k') : PAt w (wr.setCell ⟨B, 2, none⟩ (.int .i64 n)) rv cv B s k' sv mv mb mc G C := by
  subst hn
  have hl := h.low
  have hg := grown_set wr B 2 (.int .i64 (k' : Int))
  exact ⟨h.more.grownBy hg (fun b hb => by have := Option.some.inj hb; omega), Nat.lt_of_lt_of_le h.size hg.size, h.low, h.b0.other _ _ _ (by omega), h.b1.other _ _ _ (by omega), h.o0.other _ _ _ (by omega), h.o1.other _ _ _ (by omega), h.o2.other _ _ _ (by omega), h.o3.other _ _ _ (by omega), h.o4.other _ _ _ (by omega),
    h.s0.other _ _ _ (by omega), h.s1.other _ _ _ (by omega), h.s2.same _, h.s3.other _ _ _ (by omega), h.s4.other _ _ _ (by omega), h.regs.kept hg (by simp), h.seen.kept hg (fun b hb => by have := Option.some.inj hb; omega), h.mem.kept hg (fun b hb => by have := Option.some.inj hb; omega)⟩

/-- Something more was shown: the row has grown, and its place is stored. -/
theorem PAt.shown (h : PAt w wr rv cv B s k sv mv mb mc G C) (l : List Se) (sv' : Value) (own : SeenOwn w' (B + 2) sv' l) (gr : wr.grownBy w' sv.ownBlock) :
    PAt w (w'.setCell ⟨B, 3, none⟩ sv') rv cv B ⟨s.at_, s.r, s.m, l⟩ k sv' mv mb mc G C := by
  have hl := h.low
  have hrow : ∀ b, sv.ownBlock = some b → B + 2 ≤ b := fun b hb => (World.ownsRow.lt h.seen b hb).1
  have hne : ∀ b, b < B + 2 → some b ≠ sv.ownBlock := fun b hb e => by have := hrow b e.symm; omega
  have hg := grown_set w' B 3 sv'
  have hm : More w w' := h.more.grownBy gr (fun b hb => by have := hrow b hb; omega)
  have q0 := h.size
  exact ⟨hm.grownBy hg (fun b hb => by have := Option.some.inj hb; omega), Nat.lt_of_lt_of_le (Nat.lt_of_lt_of_le h.size gr.size) hg.size, h.low,
    (h.b0.kept gr (hne _ (by omega))).other _ _ _ (by omega), (h.b1.kept gr (hne _ (by omega))).other _ _ _ (by omega), (h.o0.kept gr (hne _ (by omega))).other _ _ _ (by omega), (h.o1.kept gr (hne _ (by omega))).other _ _ _ (by omega),
    (h.o2.kept gr (hne _ (by omega))).other _ _ _ (by omega), (h.o3.kept gr (hne _ (by omega))).other _ _ _ (by omega), (h.o4.kept gr (hne _ (by omega))).other _ _ _ (by omega),
    (h.s0.kept gr (hne _ (by omega))).other _ _ _ (by omega), (h.s1.kept gr (hne _ (by omega))).other _ _ _ (by omega), (h.s2.kept gr (hne _ (by omega))).other _ _ _ (by omega), (h.s3.kept gr (hne _ (by omega))).same _, (h.s4.kept gr (hne _ (by omega))).other _ _ _ (by omega),
    (h.regs.kept gr (hne _ (by omega))).kept hg (by simp), own.kept hg (fun b hb => by have := Option.some.inj hb; omega),
    (h.mem.kept gr (fun b hb => by have := hrow b hb; omega)).kept hg (fun b hb => by have := Option.some.inj hb; omega)⟩

/-- The registers have changed, and nothing else. -/
theorem PAt.regd (h : PAt w wr rv cv B s k sv mv mb mc G C) (r : Nat → Int) (hr : RegsR w' (B + 1) r) (gr : wr.grownBy w' (some (B + 1))) : PAt w w' rv cv B ⟨s.at_, r, s.m, s.seen⟩ k sv mv mb mc G C := by
  have hl := h.low
  have hne : ∀ b, b < B + 1 → some b ≠ some (B + 1) := fun b hb e => by have := Option.some.inj e; omega
  exact ⟨h.more.grownBy gr (fun b hb => by have := Option.some.inj hb; omega), Nat.lt_of_lt_of_le h.size gr.size, h.low, h.b0.kept gr (hne _ (by omega)), h.b1.kept gr (hne _ (by omega)), h.o0.kept gr (hne _ (by omega)), h.o1.kept gr (hne _ (by omega)), h.o2.kept gr (hne _ (by omega)), h.o3.kept gr (hne _ (by omega)), h.o4.kept gr (hne _ (by omega)),
    h.s0.kept gr (hne _ (by omega)), h.s1.kept gr (hne _ (by omega)), h.s2.kept gr (hne _ (by omega)), h.s3.kept gr (hne _ (by omega)), h.s4.kept gr (hne _ (by omega)), hr, h.seen.kept gr (fun b hb => by have := Option.some.inj hb; omega), h.mem.kept gr (fun b hb => by have := Option.some.inj hb; omega)⟩

/-- A word has been put. -/
theorem PAt.worded (h : PAt w wr rv cv B s k sv mv mb mc G C) (c i : Nat) (hc : c < s.m.ml) (hi : i < s.m.len c) (v : Int) :
    PAt w (wr.setCell ⟨G c, i, none⟩ (.int .i64 v)) rv cv B ⟨s.at_, s.r, setW s.m c i v, s.seen⟩ k sv mv mb mc G C := by
  have hl := h.low
  obtain ⟨g0, g1, _⟩ := h.mem.at_ c hc
  have hg := grown_set wr (G c) i (.int .i64 v)
  exact ⟨h.more.grownBy hg (fun b hb => by have := Option.some.inj hb; omega), Nat.lt_of_lt_of_le h.size hg.size, h.low, h.b0.other _ _ _ (by omega), h.b1.other _ _ _ (by omega), h.o0.other _ _ _ (by omega), h.o1.other _ _ _ (by omega), h.o2.other _ _ _ (by omega), h.o3.other _ _ _ (by omega), h.o4.other _ _ _ (by omega),
    h.s0.other _ _ _ (by omega), h.s1.other _ _ _ (by omega), h.s2.other _ _ _ (by omega), h.s3.other _ _ _ (by omega), h.s4.other _ _ _ (by omega), h.regs.kept hg (by simp; omega), h.seen.kept hg (fun b hb => by have := Option.some.inj hb; omega), h.mem.set c i hc hi v⟩

end
end Go.Proofs.Ytdlhlhbbhjbkpaa
