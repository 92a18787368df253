/-
  What the reference's Copy comes to: the same words, in rows of their own.
-/
import Derived.Test.YtdlhlhbbhjbkpaaRows
import Derived.WalkKit
import Derived.Deep.LoopGhost
import Derived.Deep.AppendLies
import Derived.OwnWalk
import Derived.Laws.OwnMore
import Derived.Test.YtdlhlhbbhjbkpaaSem
namespace Go.Proofs.Ytdlhlhbbhjbkpaa
open Go.RowKit
set_option linter.unusedVariables false

theorem info2 : (Try.prog.info? 2).map (fun i => (i.zero, i.size, i.bytes)) = some (some (.int .i64 0), 1, 8) := by kernel_rfl
theorem info43 : (Try.prog.info? 60).map (fun i => (i.zero, i.size, i.bytes)) = some (some (.slice none 0 0), 1, 24) := by kernel_rfl

/-- The words of a list, as cells. -/
def wordsL (m : Mem) (j : Nat) : List Value := (List.range (m.len j)).map fun i => .int .i64 (m.wd j i)
theorem wordsL_length (m : Mem) (j : Nat) : (wordsL m j).length = m.len j := by simp [wordsL]
theorem wordsL_one (m : Mem) (j : Nat) : ∀ u ∈ wordsL m j, u.oneCell' = true := by
  intro u hu
  simp only [wordsL, List.mem_map] at hu
  obtain ⟨i, _, rfl⟩ := hu
  rfl
theorem wordsL_at (m : Mem) (j i : Nat) (h : i < m.len j) : (wordsL m j)[i]? = some (.int .i64 (m.wd j i)) := by simp [wordsL, h]

/-- So many lists have been copied. -/
structure CpAt (w : World) (base : Nat) (m : Mem) (k : Nat) (v : Value) (G C : Nat → Nat) : Prop where
  own : w.ownsRow base 60 1 v k ((List.range k).map fun j => .slice (some ⟨G j, 0, none⟩) (m.len j) (C j))
  row : ∀ j, j < k → w.ownsRow base 2 1 (.slice (some ⟨G j, 0, none⟩) (m.len j) (C j)) (m.len j) (wordsL m j)
  apart : ∀ j, j < k → v.ownBlock ≠ some (G j)
  apart2 : ∀ j j', j < k → j' < k → j ≠ j' → G j ≠ G j'

theorem CpAt.start (w : World) (base : Nat) (m : Mem) : CpAt w base m 0 (.slice none 0 0) (fun _ => 0) (fun _ => 0) :=
  ⟨World.ownsRow_nil _ _ _ _, fun j hj => absurd hj (Nat.not_lt_zero _), fun j hj => absurd hj (Nat.not_lt_zero _), fun j j' hj => absurd hj (Nat.not_lt_zero _)⟩

theorem CpAt.lt {w : World} {base : Nat} {m : Mem} {k : Nat} {v : Value} {G C : Nat → Nat} (c : CpAt w base m k v G C) (j : Nat) (hj : j < k) : G j < w.heap.size := ((c.row j hj).lt _ rfl).2

theorem CpAt.own3 {wr w2 : World} {base : Nat} {m : Mem} {k : Nat} {v : Value} {G C : Nat → Nat} (c : CpAt wr base m k v G C) (o o3 : Obj) (gr2 : (wr.alloc o).grownBy w2 (some wr.heap.size)) :
    (w2.alloc o3).ownsRow base 60 1 v k ((List.range k).map fun j => .slice (some ⟨G j, 0, none⟩) (m.len j) (C j)) :=
  ((c.own.alloc o).kept gr2 (by
    cases hb : v.ownBlock with
    | none => left; rfl
    | some b => right; have := (c.own.lt b hb).2; simp; omega)).alloc o3

theorem CpAt.step {wr w2 w4 : World} {base : Nat} {m : Mem} {k : Nat} {v : Value} {G C : Nat → Nat} (c : CpAt wr base m k v G C) (o o3 : Obj) (g cap g2 cap2 : Nat)
    (own2 : w2.ownsRow base 2 1 (.slice (some ⟨g, 0, none⟩) (m.len k) cap) (m.len k) (wordsL m k)) (gr2 : (wr.alloc o).grownBy w2 (some wr.heap.size)) (hg : wr.heap.size ≤ g)
    (own4 : w4.ownsRow base 60 1 (.slice (some ⟨g2, 0, none⟩) (k + 1) cap2) (k + 1) (((List.range k).map fun j => .slice (some ⟨G j, 0, none⟩) (m.len j) (C j)) ++ [.slice (some ⟨g, 0, none⟩) (m.len k) cap]))
    (gr4 : (w2.alloc o3).grownBy w4 v.ownBlock) (hat : v.ownBlock = some g2 ∨ g2 = w2.heap.size + 1) :
    CpAt w4 base m (k + 1) (.slice (some ⟨g2, 0, none⟩) (k + 1) cap2) (fun j => if j = k then g else G j) (fun j => if j = k then cap else C j) := by
  have hs1 : wr.heap.size + 1 ≤ w2.heap.size := by have := gr2.size; simpa using this
  have hgl : g < w2.heap.size := ((own2.lt _ rfl).2)
  have hvl : ∀ b, v.ownBlock = some b → b < wr.heap.size := fun b hb => ((c.own.lt b hb).2)
  refine ⟨?_, fun j hj => ?_, fun j hj => ?_, fun j j' hj hj' hne => ?_⟩
  · have e : ((List.range (k + 1)).map fun j => (Value.slice (some ⟨(if j = k then g else G j), 0, none⟩) (m.len j) (if j = k then cap else C j)))
        = ((List.range k).map fun j => (Value.slice (some ⟨G j, 0, none⟩) (m.len j) (C j))) ++ [.slice (some ⟨g, 0, none⟩) (m.len k) cap] := by
      rw [List.range_succ, List.map_append]
      congr 1
      · refine List.map_congr_left fun j hj => ?_
        have : j ≠ k := by have := List.mem_range.1 hj; omega
        simp [this]
      · simp
    rw [e]
    exact own4
  · by_cases e : j = k
    · subst e
      simp only [if_true]
      exact (own2.alloc o3).kept gr4 (by
        cases hb : v.ownBlock with
        | none => right; simp [Value.ownBlock]
        | some b => right; have := hvl b hb; simp [Value.ownBlock]; omega)
    · simp only [e, if_false]
      have hj' : j < k := by omega
      have hl := c.lt j hj'
      refine ((((c.row j hj').alloc o).kept gr2 (by right; simp [Value.ownBlock]; omega)).alloc o3).kept gr4 (by right; simp only [Value.ownBlock]; exact fun h => c.apart j hj' h.symm)
  · simp only [Value.ownBlock]
    intro h
    simp only [Option.some.injEq] at h
    by_cases e : j = k
    · simp only [e, if_true] at h
      rcases hat with h1 | h1
      · have := hvl g2 h1; omega
      · omega
    · simp only [e, if_false] at h
      have hj' : j < k := by omega
      rcases hat with h1 | h1
      · exact c.apart j hj' (by rw [h1, h])
      · have := c.lt j hj'; omega
  · by_cases e : j = k
    · by_cases e' : j' = k
      · omega
      · simp only [e, e', if_true, if_false]
        have := c.lt j' (by omega)
        omega
    · by_cases e' : j' = k
      · simp only [e, e', if_true, if_false]
        have := c.lt j (by omega)
        omega
      · simp only [e, e', if_false]
        exact c.apart2 j j' (by omega) (by omega) hne

set_option maxHeartbeats 1000000 in
theorem ref_copy (m : Mem) (l : MLoc) (w : World) (h : MIn w m l) (hl : m.ml ≤ 6) (hw : ∀ i, i < m.ml → 0 < m.len i ∧ m.len i ≤ 64) :
    Calls Try.prog 45 #[.slice l.ma m.ml l.mc] w fun e w' => ∃ (v : Value) (G C : Nat → Nat), e = .returned v ∧ CpAt w' w.heap.size m m.ml v G C ∧ More w w' := by
  obtain ⟨ma, mb, mo, mc, A, C0, gb, go⟩ := l
  obtain ⟨i0, hi, hz0, hz1, hz2⟩ := info_parts info2
  obtain ⟨i1, hi', hz0', hz1', hz2'⟩ := info_parts info43
  have H : Hid (MIn w m ⟨ma, mb, mo, mc, A, C0, gb, go⟩ ∧ m.ml ≤ 6 ∧ ∀ i, i < m.ml → 0 < m.len i ∧ m.len i ≤ 64) := ⟨h, hl, hw⟩
  have Hi : Hid (Try.prog.info? 2 = some i0 ∧ i0.zero = some (.int .i64 0) ∧ i0.size = 1 ∧ i0.bytes = 8) := ⟨hi, hz0, hz1, hz2⟩
  have Hi' : Hid (Try.prog.info? 60 = some i1 ∧ i1.zero = some (.slice none 0 0) ∧ i1.size = 1 ∧ i1.bytes = 24) := ⟨hi', hz0', hz1', hz2'⟩
  clear h hl hw hi hz0 hz1 hz2 hi' hz0' hz1' hz2'
  obtain ⟨n, hn⟩ : ∃ n, m.ml = n := ⟨_, rfl⟩
  dsimp only
  rw [hn]
  have Hn : Hid (m.ml = n) := hn
  clear hn
  go_enter Try.func45, Try.ntmps45
  go_wp2
  go_loopg [3, 4] n (fun q v i wr => ∃ (k : Nat) (G C : Nat → Nat), k + q = n ∧ i = .int .i64 k ∧ CpAt wr w.heap.size m k v G C ∧ More w wr)
  case atStart => exact ⟨0, _, _, by omega, rfl, CpAt.start _ _ _, More.refl _⟩
  case round =>
    obtain ⟨k, G, C, hkg, rfl, hc, mm⟩ := hrel
    have Hm : Hid (CpAt wr w.heap.size m k u3 G C ∧ More w wr) := ⟨hc, mm⟩
    clear hc mm
    cases gk with
    | zero =>
      obtain rfl : k = n := by omega
      go_wp2
      go_ret
      exact ⟨_, G, C, rfl, Hm.out.1, Hm.out.2⟩
    | succ q =>
      have hk : k < n := by omega
      have hk' : (k : Int) < (n : Int) := by omega
      have hk0 : (0 : Int) ≤ (k : Int) := by omega
      have Hk : Hid (k < m.ml) := by rw [show Hid (k < m.ml) = (k < m.ml) from rfl, Hn.out]; exact hk
      obtain rfl : ma = some ⟨mb, mo, none⟩ := H.out.1.hm (by have := Hk.out; omega)
      have q1 := (H.out.1.lists.more Hm.out.2) k Hk.out
      dsimp only at q1
      rw [show A k = some ⟨gb k, go k, none⟩ from H.out.1.hg k Hk.out (H.out.2.2 k Hk.out).1] at q1
      have q2 : (wr.alloc (.cells #[] 2)).cell? ⟨mb, mo + k, none⟩ = some (.slice (some ⟨gb k, go k, none⟩) (m.len k) (C0 k)) := ((More.refl _).alloc _ _).cell q1
      clear q1
      have Hl : Hid (0 < m.len k ∧ m.len k ≤ 64) := H.out.2.2 k Hk.out
      have Hown1 : Hid ((wr.alloc (.cells #[] 2)).ownsRow w.heap.size 2 1 (.slice (some ⟨wr.heap.size, 0, none⟩) 0 0) 0 []) := World.ownsRow_made _ #[] 0 Hm.out.2.size (by unfold maxLen; omega) rfl
      have Hnews : Hid (∀ j u, (wordsL m k)[j]? = some u → (wr.alloc (.cells #[] 2)).cell? ((⟨gb k, go k, none⟩ : Addr).add j) = some u) := by
        intro j u hu
        have hj : j < m.len k := by have := (List.getElem?_eq_some_iff.1 hu).1; rw [wordsL_length] at this; exact this
        rw [wordsL_at m k j hj] at hu
        rw [Go.WideShapes.add_plain, ← Option.some.inj hu]
        exact (Hm.out.2.trans ((More.refl _).alloc _ _)).cell (H.out.1.words k Hk.out j hj)
      obtain ⟨r, hr⟩ : ∃ r, m.len k = r := ⟨_, rfl⟩
      rw [hr] at q2 Hl
      have Hr : Hid (m.len k = r) := hr
      clear hr
      go_wp2_with (first
        | (at_builtin; refine wpList_append_lies _ rfl (.tmp 12) (.tmp 16) 60 rfl w.heap.size 2 i0 (.int .i64 0) 1 8 Try.underlying60 Hi.out.1 Hi.out.2.1 Hi.out.2.2.1 Hi.out.2.2.2 rfl (by decide) (.slice (some ⟨wr.heap.size, 0, none⟩) 0 0) 0 [] rfl Hown1.out ⟨gb k, go k, none⟩ r (C0 k) (wordsL m k) rfl (by rw [wordsL_length, Hr.out, Nat.mul_one]) Hnews.out (wordsL_one m k) Hl.out.1 (by have := Hl.out.2; unfold maxLen; omega) (by have := Hl.out.2; omega) (by have := Hm.out.2.size; simp; omega) (wr.heap.size + 1) (by simp) ?_; intro g cap w2 own2 gr2 hat2 hlt2)
        | (at_builtin; refine wpList_append_lies _ rfl (.tmp 11) (.tmp 18) 30 rfl w.heap.size 60 i1 (.slice none 0 0) 1 24 Try.underlying30 Hi'.out.1 Hi'.out.2.1 Hi'.out.2.2.1 Hi'.out.2.2.2 rfl (by decide) u3 k ((List.range k).map fun j => .slice (some ⟨G j, 0, none⟩) (m.len j) (C j)) rfl (Hm.out.1.own3 _ _ gr2) ⟨w2.heap.size, 0, none⟩ 1 1 [.slice (some ⟨g, 0, none⟩) r cap] rfl rfl (cell_one_new _ _ _) (fun x hx => by simp at hx; subst hx; rfl) (by decide) (by have := H.out.2.1; have := Hk.out; unfold maxLen; omega) (by have := H.out.2.1; have := Hk.out; omega) (by have := Hm.out.2.size; have := gr2.size; simp at this ⊢; omega) (w2.heap.size + 1) (by simp) ?_; intro g2 cap2 w4 own4 gr4 hat4 hlt4))
      go_roundg q
      case measure => omega
      case rel =>
        have hgg : wr.heap.size ≤ g := by
          rcases hat2 with h1 | h1
          · simp [Value.ownBlock] at h1; omega
          · omega
        have hs2 : wr.heap.size + 1 ≤ w2.heap.size := by have := gr2.size; simpa using this
        have hw := Hm.out.2.size
        refine ⟨k + 1, _, _, by omega, by first | rfl | (simp; unfold wrap64; have := H.out.2.1; have := Hk.out; omega), Hm.out.1.step (.cells #[] 2) (.cells #[.slice (some ⟨g, 0, none⟩) r cap] 60) g cap g2 cap2 ?_ gr2 hgg ?_ gr4 hat4, ?_⟩
        · rw [Hr.out]
          simpa using own2
        · rw [Hr.out]
          exact own4
        · have m2 : More w w2 := (Hm.out.2.trans ((More.refl _).alloc #[] 2)).grownBy gr2 (fun b hb => by have h9 : wr.heap.size = b := (by simpa [Value.ownBlock] using hb); omega)
          refine (m2.alloc _ _).grownBy gr4 (fun b hb => ?_)
          exact (Hm.out.1.own.lt b hb).1

end Go.Proofs.Ytdlhlhbbhjbkpaa
