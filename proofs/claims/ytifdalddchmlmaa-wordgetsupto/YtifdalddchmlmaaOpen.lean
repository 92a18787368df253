/-
  What a program and a memory that were handed in lie like: read off the data that the statement speaks of.
-/
import Derived.Test.YtifdalddchmlmaaRows
import Derived.ProofKit
import Derived.OpenShut
import Derived.Deep.Slices
import Derived.Deep.SlicePairs
import Derived.Deep.Matrix
import Derived.Lib.SmallJoins
import Derived.Test.YtifdalddchmlmaaMem
namespace Go.Proofs.Ytifdalddchmlmaa
open Go.ChangeShapes Go.WideShapes Go.ChangeAt Go.RowKit Go.Deep Go.Joins
set_option maxRecDepth 8000

theorem cells47 : Try.prog.cellsOf 45 = 2 := by kernel_rfl
theorem cells34 : Try.prog.cellsOf 39 = 5 := by kernel_rfl
theorem cells29 : Try.prog.cellsOf 25 = 2 := by kernel_rfl
theorem cells2 : Try.prog.cellsOf 2 = 1 := by kernel_rfl
theorem cells3 : Try.prog.cellsOf 3 = 1 := by kernel_rfl
theorem cells4 : Try.prog.cellsOf 4 = 1 := by kernel_rfl

def I64 (x : Int) : Prop := -9223372036854775808 ≤ x ∧ x ≤ 9223372036854775807
def Ins.fits (i : Ins) : Prop := I64 i.op ∧ I64 i.a ∧ I64 i.b ∧ I64 i.c ∧ I64 i.n

/-- What holds of every program that is handed in: the lengths and numbers are such as Go has. -/
structure Prg.Fit (p : Prg) : Prop where
  rl : p.rl ≤ maxLen
  cl : p.cl ≤ maxLen
  log : ∀ i, i < p.rl → I64 (p.log i)
  ins : ∀ i, i < p.cl → (p.ins i).fits

section
variable {H : Type} {enc : TypeId × Value → H} {W : World} {base : Nat} {held : Bool}

theorem plain_addr {a : Addr} {v : Value} (h : W.cell? a = some v) : a = ⟨a.block, a.off, none⟩ := by
  have := World.cell?_spot h
  cases a
  simp_all

theorem open_regs {fuel : Nat} {cs : List Value} {x : DataW H × List MemPlace} (h : DataW.trod enc Try.prog W base (fun _ => true) held fuel 22 cs = some x) :
    ∃ (ra : Option Addr) (rb ro rl rc : Nat) (log : Nat → Int) (sec : Nat → Bool), cs = [.slice ra rl rc] ∧ (0 < rl → ra = some ⟨rb, ro, none⟩) ∧ RegsAt W rb ro rl log sec ∧ rl ≤ rc ∧ rc ≤ maxLen ∧ ∀ i, i < rl → I64 (log i) := by
  rcases open_slice Try.underlying22 h with ⟨rfl, _⟩ | ⟨a, len, cap, m, n, D, Pl, rfl, hb, hl, hm, hmm, rfl, hx⟩
  · exact ⟨none, 0, 0, 0, 0, fun _ => 0, fun _ => false, rfl, fun h => by omega, fun i hi => by omega, Nat.le_refl _, Nat.zero_le _, fun i hi => by omega⟩
  have hlm : len ≤ m := by rw [hmm]; simpa using hl
  have each : ∀ i, i < len → ∃ q : Int × Bool, W.cell? (a.add (i * 2)) = some (.int .i64 q.1) ∧ W.cell? (a.add (i * 2 + 1)) = some (.bool q.2) ∧ I64 q.1 := by
    intro i hi
    obtain ⟨cs', h1, h2⟩ := hx i (by omega)
    rw [cells47] at h1
    obtain ⟨_, hlen, hcell⟩ := World.cells?_some h1
    obtain ⟨xs, k, hk, hxy, _, hxl, hf⟩ := DataW.trod_struct Try.underlying45 h2
    match cs', hlen with
    | [v0, v1], _ =>
      have g0 := hf 0 _ rfl
      have g1 := hf 1 _ rfl
      have e0 := hcell 0 (by omega)
      have e1 := hcell 1 (by omega)
      rw [add_add] at e0 e1
      simp [cells3, cells4] at g0 g1
      match xs, hxl with
      | [y0, y1], _ =>
        simp at g0 g1
        obtain ⟨z, hz, _, wz⟩ := DataW.trod_int Try.underlying3 g0
        obtain ⟨s, hs, _⟩ := DataW.trod_bool Try.underlying4 g1
        simp at hz hs e0 e1
        subst hz hs
        exact ⟨(z, s), e0, e1, bounds_i64 wz⟩
  obtain ⟨q, hq⟩ := choose_lt each
  refine ⟨some a, a.block, a.off, len, cap, fun i => (q i).1, fun i => (q i).2, rfl, fun h0 => ?_, fun i hi => ?_, hl, hm, fun i hi => (hq i hi).2.2⟩
  · have h1 := (hq 0 h0).1
    simp [Addr.add] at h1
    rw [← plain_addr h1]
  · have h1 := (hq 0 (by omega)).1
    simp [Addr.add] at h1
    have ha := plain_addr h1
    obtain ⟨b, o, s⟩ := a
    simp at ha
    subst ha
    have := hq i hi
    rw [add_plain, add_plain] at this
    exact ⟨by simpa using this.1, by have := this.2.1; simpa [Nat.add_assoc] using this⟩

theorem open_code {fuel : Nat} {cs : List Value} {x : DataW H × List MemPlace} (h : DataW.trod enc Try.prog W base (fun _ => true) held fuel 23 cs = some x) :
    ∃ (ca : Option Addr) (cb co cl cc : Nat) (ins : Nat → Ins), cs = [.slice ca cl cc] ∧ (0 < cl → ca = some ⟨cb, co, none⟩) ∧ CodeAt W cb co cl ins ∧ cl ≤ cc ∧ cc ≤ maxLen ∧ ∀ i, i < cl → (ins i).fits := by
  rcases open_slice Try.underlying23 h with ⟨rfl, _⟩ | ⟨a, len, cap, m, n, D, Pl, rfl, hb, hl, hm, hmm, rfl, hx⟩
  · exact ⟨none, 0, 0, 0, 0, fun _ => ⟨0, 0, 0, 0, 0⟩, rfl, fun h => by omega, fun i hi => by omega, Nat.le_refl _, Nat.zero_le _, fun i hi => by omega⟩
  have hlm : len ≤ m := by rw [hmm]; simpa using hl
  have each : ∀ i, i < len → ∃ q : Int × Int × Int × Int × Int, W.cell? (a.add (i * 5)) = some (.int .i64 q.1) ∧ W.cell? (a.add (i * 5 + 1)) = some (.int .i64 q.2.1) ∧ W.cell? (a.add (i * 5 + 2)) = some (.int .i64 q.2.2.1) ∧
      W.cell? (a.add (i * 5 + 3)) = some (.int .i64 q.2.2.2.1) ∧ W.cell? (a.add (i * 5 + 4)) = some (.int .i64 q.2.2.2.2) ∧ I64 q.1 ∧ I64 q.2.1 ∧ I64 q.2.2.1 ∧ I64 q.2.2.2.1 ∧ I64 q.2.2.2.2 := by
    intro i hi
    obtain ⟨cs', h1, h2⟩ := hx i (by omega)
    rw [cells34] at h1
    obtain ⟨_, hlen, hcell⟩ := World.cells?_some h1
    obtain ⟨xs, k, hk, hxy, _, hxl, hf⟩ := DataW.trod_struct Try.underlying39 h2
    match cs', hlen with
    | [v0, v1, v2, v3, v4], _ =>
      have g0 := hf 0 _ rfl
      have g1 := hf 1 _ rfl
      have g2 := hf 2 _ rfl
      have g3 := hf 3 _ rfl
      have g4 := hf 4 _ rfl
      have e0 := hcell 0 (by omega)
      have e1 := hcell 1 (by omega)
      have e2 := hcell 2 (by omega)
      have e3 := hcell 3 (by omega)
      have e4 := hcell 4 (by omega)
      rw [add_add] at e0 e1 e2 e3 e4
      simp [cells3, cells2] at g0 g1 g2 g3 g4
      match xs, hxl with
      | [y0, y1, y2, y3, y4], _ =>
        simp at g0 g1 g2 g3 g4
        obtain ⟨z0, hz0, _, wz0⟩ := DataW.trod_int Try.underlying3 g0
        obtain ⟨z1, hz1, _, wz1⟩ := DataW.trod_int Try.underlying3 g1
        obtain ⟨z2, hz2, _, wz2⟩ := DataW.trod_int Try.underlying3 g2
        obtain ⟨z3, hz3, _, wz3⟩ := DataW.trod_int Try.underlying3 g3
        obtain ⟨z4, hz4, _, wz4⟩ := DataW.trod_int Try.underlying2 g4
        simp at hz0 hz1 hz2 hz3 hz4 e0 e1 e2 e3 e4
        subst hz0 hz1 hz2 hz3 hz4
        exact ⟨(z0, z1, z2, z3, z4), e0, e1, e2, e3, e4, bounds_i64 wz0, bounds_i64 wz1, bounds_i64 wz2, bounds_i64 wz3, bounds_i64 wz4⟩
  obtain ⟨q, hq⟩ := choose_lt each
  refine ⟨some a, a.block, a.off, len, cap, fun i => ⟨(q i).1, (q i).2.1, (q i).2.2.1, (q i).2.2.2.1, (q i).2.2.2.2⟩, rfl, fun h0 => ?_, fun i hi => ?_, hl, hm, fun i hi => (hq i hi).2.2.2.2.2⟩
  · have h1 := (hq 0 h0).1
    simp [Addr.add] at h1
    rw [← plain_addr h1]
  · have h1 := (hq 0 (by omega)).1
    simp [Addr.add] at h1
    have ha := plain_addr h1
    obtain ⟨b, o, s⟩ := a
    simp at ha
    subst ha
    have := hq i hi
    rw [add_plain, add_plain, add_plain, add_plain, add_plain] at this
    obtain ⟨t0, t1, t2, t3, t4, _⟩ := this
    exact ⟨by simpa using t0, by simpa [Nat.add_assoc] using t1, by simpa [Nat.add_assoc] using t2, by simpa [Nat.add_assoc] using t3, by simpa [Nat.add_assoc] using t4⟩

theorem open_prog {v : Value} {d : DataW H} {ps : List MemPlace} {r : Reach} {b0 : Nat} (hv : Value.okWide Try.prog W r b0 25 v) (h : DataW.Trod enc Try.prog W base (fun _ => true) held 25 v d ps) :
    ∃ (p : Prg) (l : Loc), v = .agg #[.slice l.ra p.rl l.rc, .slice l.ca p.cl l.cc] ∧ PIn W p l ∧ p.Fit := by
  obtain ⟨v0, v1, y0, y1, n, rfl, rfl, rfl, h0, h1⟩ := open_agg2 Try.underlying25 (by kernel_rfl) cells29 hv h
  obtain ⟨ra, rb, ro, rl, rc, log, sec, e0, hra, hr, hrc, hrm, hlog⟩ := open_regs h0
  obtain ⟨ca, cb, co, cl, cc, ins, e1, hca, hc, hcc, hcm, hins⟩ := open_code h1
  simp at e0 e1
  subst e0 e1
  exact ⟨⟨rl, log, sec, cl, ins⟩, ⟨ra, rb, ro, rc, ca, cb, co, cc⟩, rfl, ⟨hra, hca, hr, hc⟩, ⟨Nat.le_trans hrc hrm, Nat.le_trans hcc hcm, hlog, hins⟩⟩

end
end Go.Proofs.Ytifdalddchmlmaa
