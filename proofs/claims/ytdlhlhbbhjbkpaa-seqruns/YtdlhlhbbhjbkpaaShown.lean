/-
  What is shown, and memories, as data; and how they lie in memory. No Go text in sight.
-/
import Derived.WalkKit
import Derived.Test.YtdlhlhbbhjbkpaaMem
namespace Go.Proofs.Ytdlhlhbbhjbkpaa
open Go.RowKit

/-- Something that can be watched. -/
structure Se where
  kind : Int
  a : Int
  b : Int

def SeesAt (w : World) (b o : Nat) (l : List Se) : Prop :=
  ∀ i s, l[i]? = some s → w.cell? ⟨b, o + i * 3, none⟩ = some (.int .i64 s.kind) ∧ w.cell? ⟨b, o + i * 3 + 1, none⟩ = some (.int .i64 s.a) ∧ w.cell? ⟨b, o + i * 3 + 2, none⟩ = some (.int .i64 s.b)
theorem SeesAt.more {w w' : World} (m : More w w') {b o : Nat} {l : List Se} (h : SeesAt w b o l) : SeesAt w' b o l :=
  fun i s hs => ⟨m.cell (h i s hs).1, m.cell (h i s hs).2.1, m.cell (h i s hs).2.2⟩

/-- A slice of what was shown. -/
def SeenAt (w : World) (v : Value) (l : List Se) : Prop :=
  ∃ (a : Option Addr) (b o c : Nat), v = .slice a l.length c ∧ (0 < l.length → a = some ⟨b, o, none⟩) ∧ SeesAt w b o l ∧ l.length < 4611686018427387904
theorem SeenAt.more {w w' : World} (m : More w w') {v : Value} {l : List Se} (h : SeenAt w v l) : SeenAt w' v l := by
  obtain ⟨a, b, o, c, e, h1, h2, h3⟩ := h
  exact ⟨a, b, o, c, e, h1, h2.more m, h3⟩

/-- A memory: so many lists, so long, of these words. -/
structure Mem where
  ml : Nat
  len : Nat → Nat
  wd : Nat → Nat → Int
/-- Where a memory lies. -/
structure MLoc where
  ma : Option Addr
  mb : Nat
  mo : Nat
  mc : Nat
  A : Nat → Option Addr
  C : Nat → Nat
  gb : Nat → Nat
  go : Nat → Nat

structure MIn (w : World) (m : Mem) (l : MLoc) : Prop where
  hm : 0 < m.ml → l.ma = some ⟨l.mb, l.mo, none⟩
  lists : ListsAt w l.mb l.mo m.ml l.A m.len l.C
  hg : ∀ i, i < m.ml → 0 < m.len i → l.A i = some ⟨l.gb i, l.go i, none⟩
  words : ∀ i, i < m.ml → ∀ j, j < m.len i → w.cell? ⟨l.gb i, l.go i + j, none⟩ = some (.int .i64 (m.wd i j))
  fitl : m.ml < 4611686018427387904
  fitw : ∀ i, i < m.ml → m.len i < 4611686018427387904
theorem MIn.more {w w' : World} (m : More w w') {x : Mem} {l : MLoc} (h : MIn w x l) : MIn w' x l :=
  ⟨h.hm, h.lists.more m, h.hg, fun i hi j hj => m.cell (h.words i hi j hj), h.fitl, h.fitw⟩

/-- The same words. -/
structure Mem.Like (x y : Mem) : Prop where
  ml : x.ml = y.ml
  len : ∀ i, i < x.ml → x.len i = y.len i
  wd : ∀ i, i < x.ml → ∀ j, j < x.len i → x.wd i j = y.wd i j

/-- What a run shows. -/
structure Sh where
  fin : Int
  val : Int
  steps : Int
  seen : List Se
  mem : Mem

def ShownAt (w : World) (v : Value) (x : Sh) : Prop :=
  ∃ (sv : Value) (l : MLoc), v = .agg #[.int .i64 x.fin, .int .i64 x.val, .int .i64 x.steps, sv, .slice l.ma x.mem.ml l.mc] ∧ SeenAt w sv x.seen ∧ MIn w x.mem l
theorem ShownAt.more {w w' : World} (m : More w w') {v : Value} {x : Sh} (h : ShownAt w v x) : ShownAt w' v x := by
  obtain ⟨sv, l, e, h1, h2⟩ := h
  exact ⟨sv, l, e, h1.more m, h2.more m⟩

end Go.Proofs.Ytdlhlhbbhjbkpaa
