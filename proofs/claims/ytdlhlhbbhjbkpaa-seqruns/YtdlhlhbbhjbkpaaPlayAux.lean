/-
  What the reference's Play comes to: the run that chapter 3 says.
-/
import Derived.Test.YtdlhlhbbhjbkpaaRefMore
import Derived.Test.YtdlhlhbbhjbkpaaInv
import Derived.Test.YtdlhlhbbhjbkpaaPAt
import Derived.Test.YtdlhlhbbhjbkpaaOpen
import Derived.Deep.OwnRows
namespace Go.Proofs.Ytdlhlhbbhjbkpaa
open Go.RowKit
set_option linter.unusedVariables false
set_option linter.unusedSimpArgs false

theorem made_at (j : Nat) (h : j < 10) : (madeCells #[.int .i64 0] 10)[j]? = some (.int .i64 0) := by
  unfold madeCells
  simp [h, Nat.mod_one]

theorem play_start {w w1 : World} {rv cv : Value} {m : Mem} {va : Option Addr} {vc mb mc : Nat} {G C : Nat → Nat} {t u : TypeId}
    (m1 : More ((w.alloc (.cells #[rv, cv] t)).alloc (.cells #[.int .i64 0, .int .i64 0, .int .i64 0, .slice none 0 0, .slice none 0 0] u)) w1) (hs : w.heap.size + 2 ≤ w1.heap.size)
    (hm : MemOwn w1 (w.heap.size + 2) w1.heap.size m (.slice va m.ml vc) mb mc G C) :
    PAt w ((w1.alloc (.cells #[.int .i64 0, .int .i64 0, .int .i64 0, .slice none 0 0, .slice va m.ml vc] 37)).alloc (.cells (madeCells #[.int .i64 0] 10) 2)) rv cv w1.heap.size ⟨0, fun _ => 0, m, []⟩ 0 (.slice none 0 0) (.slice va m.ml vc) mb mc G C := by
  have mw : More w w1 := (((More.refl _).alloc _ _).alloc _ _).trans m1
  have m2 : More w1 ((w1.alloc (.cells #[.int .i64 0, .int .i64 0, .int .i64 0, .slice none 0 0, .slice va m.ml vc] 37)).alloc (.cells (madeCells #[.int .i64 0] 10) 2)) := ((More.refl _).alloc _ _).alloc _ _
  have old : ∀ b o v, Wr ((w.alloc (.cells #[rv, cv] t)).alloc (.cells #[.int .i64 0, .int .i64 0, .int .i64 0, .slice none 0 0, .slice none 0 0] u)) b o v →
      Wr ((w1.alloc (.cells #[.int .i64 0, .int .i64 0, .int .i64 0, .slice none 0 0, .slice va m.ml vc] 37)).alloc (.cells (madeCells #[.int .i64 0] 10) 2)) b o v :=
    fun b o v h => (h.kept (m1.grow none) (by simp)).kept (m2.grow none) (by simp)
  refine ⟨mw.trans m2, by simp, hs, old _ _ _ ⟨by go_simp, by go_simp⟩, old _ _ _ ⟨by go_simp, by go_simp⟩, old _ _ _ ⟨by go_simp, by go_simp⟩, old _ _ _ ⟨by go_simp, by go_simp⟩, old _ _ _ ⟨by go_simp, by go_simp⟩, old _ _ _ ⟨by go_simp, by go_simp⟩, old _ _ _ ⟨by go_simp, by go_simp⟩,
    ⟨by go_simp, by go_simp⟩, ⟨by go_simp, by go_simp⟩, ⟨by go_simp, by go_simp⟩, ⟨by go_simp, by go_simp⟩, ⟨by go_simp, by go_simp⟩, fun j hj => ?_, World.ownsRow_nil _ _ _ _, hm.kept (m2.grow none) (fun b hb => by cases hb)⟩
  have hj2 := made_at j hj
  exact ⟨by go_simp, by go_simp⟩

/-- The result is laid. -/
theorem PAt.ends {w wr : World} {rv cv : Value} {B : Nat} {s : St} {k : Nat} {sv : Value} {va : Option Addr} {n vc : Nat} {mb mc : Nat} {G C : Nat → Nat} (h : PAt w wr rv cv B s k sv (.slice va n vc) mb mc G C) (hb : s.seen.length < 4611686018427387904) (f1 : s.m.ml < 4611686018427387904) (f2 : ∀ i, i < s.m.ml → s.m.len i < 4611686018427387904)
    (hn : n = s.m.ml) {w0 w' : World} (hg0 : wr.grownBy w0 (some B)) (hg : w0.grownBy w' (some (w.heap.size + 1))) (f v t : Int) : ShownAt w' (.agg #[.int .i64 f, .int .i64 v, .int .i64 t, sv, .slice va n vc]) ⟨f, v, t, s.seen, s.m⟩ ∧ More w w' := by
  subst hn
  have hl := h.low
  obtain ⟨l, hv, hi⟩ := ((h.mem.kept hg0 (fun b hb => by have := Option.some.inj hb; omega)).kept hg (fun b hb => by have := Option.some.inj hb; omega)).in_ f1 f2
  exact ⟨⟨sv, l, by dsimp only; rw [hv], ((h.seen.kept hg0 (fun b hb => by have := Option.some.inj hb; omega)).kept hg (fun b hb => by have := Option.some.inj hb; omega)).at_ hb, hi⟩, (h.more.grownBy hg0 (fun b hb => by have := Option.some.inj hb; omega)).grownBy hg (fun b hb => by have := Option.some.inj hb; omega)⟩

theorem PAt.cells {w wr : World} {rv cv : Value} {B : Nat} {s : St} {k : Nat} {sv mv : Value} {mb mc : Nat} {G C : Nat → Nat} (h : PAt w wr rv cv B s k sv mv mb mc G C) :
    wr.cell? ⟨w.heap.size, 0, none⟩ = some rv ∧ wr.cell? ⟨w.heap.size, 1, none⟩ = some cv ∧
    (wr.cell? ⟨w.heap.size + 1, 0, none⟩ = some (.int .i64 0) ∧ wr.frozen? ⟨w.heap.size + 1, 0, none⟩ = false) ∧ (wr.cell? ⟨w.heap.size + 1, 1, none⟩ = some (.int .i64 0) ∧ wr.frozen? ⟨w.heap.size + 1, 1, none⟩ = false) ∧
    (wr.cell? ⟨w.heap.size + 1, 2, none⟩ = some (.int .i64 0) ∧ wr.frozen? ⟨w.heap.size + 1, 2, none⟩ = false) ∧ (wr.cell? ⟨w.heap.size + 1, 3, none⟩ = some (.slice none 0 0) ∧ wr.frozen? ⟨w.heap.size + 1, 3, none⟩ = false) ∧
    (wr.cell? ⟨w.heap.size + 1, 4, none⟩ = some (.slice none 0 0) ∧ wr.frozen? ⟨w.heap.size + 1, 4, none⟩ = false) ∧
    (wr.cell? ⟨B, 0, none⟩ = some (.int .i64 0) ∧ wr.frozen? ⟨B, 0, none⟩ = false) ∧ (wr.cell? ⟨B, 1, none⟩ = some (.int .i64 0) ∧ wr.frozen? ⟨B, 1, none⟩ = false) ∧ (wr.cell? ⟨B, 2, none⟩ = some (.int .i64 k) ∧ wr.frozen? ⟨B, 2, none⟩ = false) ∧
    (wr.cell? ⟨B, 3, none⟩ = some sv ∧ wr.frozen? ⟨B, 3, none⟩ = false) ∧ (wr.cell? ⟨B, 4, none⟩ = some mv ∧ wr.frozen? ⟨B, 4, none⟩ = false) :=
  ⟨h.b0.1, h.b1.1, h.o0, h.o1, h.o2, h.o3, h.o4, h.s0, h.s1, h.s2, h.s3, h.s4⟩

end Go.Proofs.Ytdlhlhbbhjbkpaa
