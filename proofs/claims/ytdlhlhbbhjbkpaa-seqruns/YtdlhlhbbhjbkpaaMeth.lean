/-
  What the small methods of package seq's machine come to.
-/
import Derived.Test.YtdlhlhbbhjbkpaaRows
import Derived.WalkKit
import Derived.Deep.LoopGhost
import Derived.Deep.OwnRows
import Derived.Test.YtdlhlhbbhjbkpaaMach
import Derived.Test.YtdlhlhbbhjbkpaaOrd
import Derived.Test.YtdlhlhbbhjbkpaaInv
namespace Go.Proofs.Ytdlhlhbbhjbkpaa
open Go.RowKit
set_option linter.unusedVariables false
set_option linter.unusedSimpArgs false

theorem seq_hasFuel (w : World) (M : Nat) (a b : Int) (s4 : w.cell? ⟨M, 4, none⟩ = some (.int .i64 a)) (s402 : w.cell? ⟨M, 402, none⟩ = some (.int .i64 b)) :
    Calls Try.prog 56 #[.pointer (some ⟨M, 0, none⟩)] w fun e w' => e = .returned (.bool (decide (a < b))) ∧ More w w' := by
  go_enter Try.func56, Try.ntmps56
  go_wp2
  go_region
  go_wp2
  go_ret
  exact ⟨rfl, (More.refl _).drew⟩

theorem seq_hasNext (w : World) (M : Nat) (a : Int) (ca : Option Addr) (cl cc : Nat) (s : w.cell? ⟨M, 401, none⟩ = some (.int .i64 a)) (s1 : w.cell? ⟨M, 1, none⟩ = some (.slice ca cl cc)) :
    Calls Try.prog 58 #[.pointer (some ⟨M, 0, none⟩)] w fun e w' => e = .returned (.bool (decide (a < (cl : Int)))) ∧ More w w' := by
  go_enter Try.func58, Try.ntmps58
  go_wp2
  go_region
  go_wp2
  go_ret
  exact ⟨rfl, (More.refl _).drew⟩

theorem seq_finish (w : World) (M : Nat) (rv cv : Value) (x : Ms) (se : List Se) (n : Int) (h : Run w M rv cv x se) :
    Calls Try.prog 57 #[.pointer (some ⟨M, 0, none⟩), .int .i64 n] w fun e w' => e = .returned (.tuple #[]) ∧ Run w' M rv cv { x with fin := n, ended := true } se ∧ Below M w w' := by
  obtain ⟨c0, f0⟩ := h.fin
  obtain ⟨c1, f1⟩ := h.ended
  have H : Hid (Run w M rv cv x se) := h
  clear h
  go_enter Try.func57, Try.ntmps57
  go_wp2
  go_end0
  exact ⟨rfl, (H.out.setFin n).setEnded true, below_put (below_put (Below.refl _ _) _ _) _ _⟩

theorem info79 : (Try.prog.info? 79).map (fun i => (i.zero, i.size, i.bytes)) = some (some (.agg #[.int .i64 0, .int .i64 0, .int .i64 0]), 3, 24) := by kernel_rfl
theorem cell_three_new' (w : World) (x y z : Value) (t : TypeId) : ∀ j u, [x, y, z][j]? = some u → (w.alloc (.cells #[x, y, z] t)).cell? ((⟨w.heap.size, 0, none⟩ : Addr).add j) = some u := by
  intro j u h
  rw [Go.WideShapes.add_plain]
  have hj : j = 0 ∨ j = 1 ∨ j = 2 := by have := (List.getElem?_eq_some_iff.1 h).1; simp at this; omega
  rcases hj with rfl | rfl | rfl <;> (simp at h; subst h; go_simp)

/-- A block that what was shown doesn't lie in. -/
def OwnNot (w : World) (M B : Nat) : Prop := ∀ sv, w.cell? ⟨M, 5, none⟩ = some sv → some B ≠ sv.ownBlock
theorem Run.notOwn {w : World} {M : Nat} {rv cv : Value} {x : Ms} {se : List Se} (h : Run w M rv cv x se) (B : Nat) (hB : w.heap.size ≤ B) : OwnNot w M B := by
  intro sv hc e
  obtain ⟨sv', hm, ho⟩ := h.out
  have h5 := hm.sv.1
  dsimp only at h5
  rw [hc] at h5
  obtain rfl := Option.some.inj h5
  have := (World.ownsRow.lt ho B e.symm).2
  omega

theorem OwnNot.of {w w' : World} {M B : Nat} (h : OwnNot w M B) (e : w'.cell? ⟨M, 5, none⟩ = w.cell? ⟨M, 5, none⟩) : OwnNot w' M B := fun sv hc => h sv (by rw [← e]; exact hc)
/-- A machine, and a block beside it. -/
structure RunA (w : World) (M : Nat) (rv cv : Value) (x : Ms) (se : List Se) (R : Nat) : Prop where
  run : Run w M rv cv x se
  own : OwnNot w M R
  ne : R ≠ M
theorem RunA.set {w : World} {M : Nat} {rv cv : Value} {x : Ms} {se : List Se} {R : Nat} (h : RunA w M rv cv x se R) (j : Nat) (v : Value) : RunA (w.setCell ⟨R, j, none⟩ v) M rv cv x se R := by
  obtain ⟨sv, hm, ho⟩ := h.run.out
  have hne : some M ≠ some R := fun e => h.ne (Option.some.inj e).symm
  refine ⟨⟨sv, hm.kept (grown_set w R j v) hne, World.ownsRow.kept ho (grown_set w R j v) (.inr fun e => h.own sv hm.sv.1 e.symm)⟩, h.own.of (World.cell?_setCell_other _ _ _ _ ?_), h.ne⟩
  intro e
  simp only [Addr.mk.injEq] at e
  exact h.ne e.1

set_option maxHeartbeats 400000 in
theorem seq_show (w : World) (M : Nat) (rv cv : Value) (x : Ms) (se : List Se) (k a b : Int) (hl : se.length ≤ 200000) (h : Run w M rv cv x se) :
    Calls Try.prog 62 #[.pointer (some ⟨M, 0, none⟩), .int .i64 k, .int .i64 a, .int .i64 b] w fun e w' => e = .returned (.tuple #[]) ∧ Run w' M rv cv x (se ++ [⟨k, a, b⟩]) ∧ Below M w w' ∧ ∀ B, B < w.heap.size → B ≠ M → OwnNot w M B → w'.heap[B]? = w.heap[B]? ∧ OwnNot w' M B := by
  obtain ⟨sv, hm, ho⟩ := h.out
  obtain ⟨sa, sc, rfl⟩ := own_form ho
  obtain ⟨c5, f5⟩ := hm.sv
  dsimp only at c5
  have hlt := hm.lt
  obtain ⟨i2, hi2, hz0, hz1, hz2⟩ := info_parts info79
  have Hi : Hid (Try.prog.info? 79 = some i2 ∧ i2.zero = some (.agg #[.int .i64 0, .int .i64 0, .int .i64 0]) ∧ i2.size = 3 ∧ i2.bytes = 24) := ⟨hi2, hz0, hz1, hz2⟩
  clear hi2 hz0 hz1 hz2
  have H : Hid (MAt w M rv cv { x with sv := .slice sa se.length sc } ∧ SeenOwn w (M + 1) (.slice sa se.length sc) se ∧ se.length ≤ 200000 ∧ M < w.heap.size) := ⟨hm, ho, hl, hlt⟩
  have Hrow : Hid (some M ≠ (Value.slice sa se.length sc).ownBlock) := fun e => by have := (World.ownsRow.lt ho M e.symm).1; omega
  have Hown : Hid (SeenOwn (w.alloc (.cells #[.int .i64 k, .int .i64 a, .int .i64 b] 79)) (M + 1) (.slice sa se.length sc) se) := ho.kept (World.grownBy_alloc w _ none) (fun b hb => by cases hb)
  clear hm ho hl h hlt
  go_enter Try.func62, Try.ntmps62
  go_wp2_with (at_builtin; refine wpList_append_lies _ rfl (.tmp 13) (.tmp 18) 35 rfl (M + 1) 79 i2 (.agg #[.int .i64 0, .int .i64 0, .int .i64 0]) 3 24 Try.underlying35 Hi.out.1 Hi.out.2.1 Hi.out.2.2.1 Hi.out.2.2.2 rfl (by decide) (.slice sa se.length sc) se.length (flatS se) rfl Hown.out ⟨w.heap.size, 0, none⟩ 1 1 [.int .i64 k, .int .i64 a, .int .i64 b] rfl rfl (by simpa using cell_three_new' w (.int .i64 k) (.int .i64 a) (.int .i64 b) 79) (fun x hx => by simp at hx; rcases hx with rfl | rfl | rfl <;> rfl) (by decide) (by have := H.out.2.2.1; unfold maxLen; omega) (by have := H.out.2.2.1; omega) (by have := H.out.2.2.2; simp; omega) (w.heap.size + 1) (by simp) ?_; intro g_ cap w2 own2 gr2 hat2 hlt2; obtain ⟨t5c, t5f⟩ := (H.out.1.sv.kept (World.grownBy_alloc w (.cells #[.int .i64 k, .int .i64 a, .int .i64 b] 79) none) (by simp)).kept gr2 Hrow.out)
  go_end0
  refine ⟨rfl, ⟨.slice (some ⟨g_, 0, none⟩) (se.length + 1) cap, ((H.out.1.alloc _).kept gr2 Hrow.out).setSv _, ?_⟩, below_put (Below.grown (below_alloc (Below.refl _ _) (by have := H.out.2.2.2; omega) _) gr2 ?_ ?_) _ _, ?_⟩
  · refine SeenOwn.kept ?_ (grown_set _ _ _ _) (fun b hb => by have := Option.some.inj hb; omega)
    unfold SeenOwn; rw [flatS_append, List.length_append]; exact own2
  · have := H.out.2.2.2; simp; omega
  · intro b hb; have := (World.ownsRow.lt H.out.2.1 b hb).1; omega
  · intro B hB hM hO
    refine ⟨by rw [Below.heap_setCell _ _ _ _ (by simpa using hM), gr2.block B (by simp; omega) (hO _ H.out.1.sv.1), (World.grownBy_alloc w _ none).block B hB (by simp)], fun sv hc e => ?_⟩
    rw [World.cell?_setCell_same _ _ _ t5c] at hc
    obtain rfl := Option.some.inj hc
    obtain rfl : B = g_ := by simpa [Value.ownBlock] using e
    rcases hat2 with h1 | h1
    · exact hO _ H.out.1.sv.1 h1.symm
    · omega
end Go.Proofs.Ytdlhlhbbhjbkpaa
