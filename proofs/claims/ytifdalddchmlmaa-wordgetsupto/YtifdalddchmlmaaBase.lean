/-
  Plain facts on memory, gathered: blocks, cells, rows of one's own. No Go text in sight.
-/
import Derived.Test.YtifdalddchmlmaaMem
import Derived.WalkKit
import Derived.Deep.AppendLies
import Derived.OwnWalk
import Derived.Laws.OwnMore
import Derived.Laws.AppendOwnNone
import Derived.Deep.OwnRows
import Derived.Deep.LoopGhost
namespace Go.Proofs.Ytifdalddchmlmaa
open Go.RowKit
set_option linter.unusedVariables false
set_option linter.unusedSimpArgs false

theorem frozen_kept {w w' : World} {row : Option Nat} (hg : w.grownBy w' row) {a : Addr} {v : Value} (h : w.cell? a = some v) (hne : some a.block ≠ row) : w'.frozen? a = w.frozen? a :=
  World.frozen?_of_block (hg.block a.block (cell_block h) hne)
theorem grown_drew (w : World) (row : Option Nat) : w.grownBy w.drew row := ⟨rfl, rfl, rfl, Nat.le_refl _, fun _ _ _ => rfl⟩
theorem grown_refl (w : World) (row : Option Nat) : w.grownBy w row := ⟨rfl, rfl, rfl, Nat.le_refl _, fun _ _ _ => rfl⟩
theorem grown_set (w : World) (g o : Nat) (v : Value) : w.grownBy (w.setCell ⟨g, o, none⟩ v) (some g) :=
  ⟨rfl, rfl, rfl, by simp [World.setCell], fun k _ hne => Below.heap_setCell _ _ _ _ (by simpa using hne)⟩
theorem grown_trans {a b c : World} {row : Option Nat} (h : a.grownBy b row) (k : b.grownBy c row) : a.grownBy c row :=
  ⟨k.os.trans h.os, k.tape.trans h.tape, k.output.trans h.output, Nat.le_trans h.size k.size, fun i hi hne => (k.block i (Nat.lt_of_lt_of_le hi h.size) hne).trans (h.block i hi hne)⟩
theorem More.grow {w w' : World} (h : More w w') (row : Option Nat) : w.grownBy w' row := ⟨Below.os h, Below.tape h, Below.output h, Below.size h, fun k hk _ => Below.block h k hk⟩
theorem gr_alloc {w w1 : World} {row : Option Nat} (h : w.grownBy w1 row) (o : Obj) : w.grownBy (w1.alloc o) row := grown_trans h (World.grownBy_alloc w1 o row)
theorem gr_drew {w w1 : World} {row : Option Nat} (h : w.grownBy w1 row) : w.grownBy w1.drew row := grown_trans h (grown_drew w1 row)
theorem gr_set {w w1 : World} {g : Nat} (h : w.grownBy w1 (some g)) (o : Nat) (v : Value) : w.grownBy (w1.setCell ⟨g, o, none⟩ v) (some g) := grown_trans h (grown_set w1 g o v)
theorem gr_more {w w1 w2 : World} {row : Option Nat} (h : w.grownBy w1 row) (m : More w1 w2) : w.grownBy w2 row := grown_trans h (m.grow row)
theorem wrapEq (x : Int) : IntKind.i64.wrap x = wrap64 x := by rw [IntKind.wrap_i64]; unfold wrap64; omega
theorem own_form {w : World} {base : Nat} {e : TypeId} {size : Nat} {v : Value} {n : Nat} {xs : List Value} (h : w.ownsRow base e size v n xs) : ∃ a c, v = .slice a n c := by
  rcases h.2 with ⟨h, h0⟩ | ⟨g, cap, cur, h, _⟩
  · exact ⟨none, 0, by rw [h, h0]⟩
  · exact ⟨_, cap, h⟩
/-- A cell that may be written. -/
def Wr (w : World) (b o : Nat) (v : Value) : Prop := w.cell? ⟨b, o, none⟩ = some v ∧ w.frozen? ⟨b, o, none⟩ = false
theorem Wr.kept {w w' : World} {row : Option Nat} (hg : w.grownBy w' row) {b o : Nat} {v : Value} (h : Wr w b o v) (hne : some b ≠ row) : Wr w' b o v :=
  ⟨hg.cell h.1 hne, (frozen_kept hg h.1 hne).trans h.2⟩
theorem Wr.same {w : World} {b o : Nat} {v : Value} (h : Wr w b o v) (u : Value) : Wr (w.setCell ⟨b, o, none⟩ u) b o u :=
  ⟨World.cell?_setCell_same _ _ _ h.1, by rw [World.frozen?_setCell]; exact h.2⟩
theorem Wr.other {w : World} {b o : Nat} {v : Value} (h : Wr w b o v) (b' o' : Nat) (u : Value) (hne : b' ≠ b ∨ o' ≠ o) : Wr (w.setCell ⟨b', o', none⟩ u) b o v :=
  ⟨by rw [World.cell?_setCell_other _ _ _ _ (by intro e; simp only [Addr.mk.injEq] at e; omega)]; exact h.1, by rw [World.frozen?_setCell]; exact h.2⟩
/-- A block that holds just this, and may be written. -/
def Blk (w : World) (n : Nat) (cs : Array Value) (T : TypeId) : Prop := w.heap[n]? = some (.cells cs T (0, 0))
theorem Blk.lt {w : World} {n : Nat} {cs : Array Value} {T : TypeId} (h : Blk w n cs T) : n < w.heap.size := by
  rcases Nat.lt_or_ge n w.heap.size with q | q
  · exact q
  · unfold Blk at h; simp [q] at h
theorem Blk.more {w w' : World} {n : Nat} {cs : Array Value} {T : TypeId} (m : More w w') (h : Blk w n cs T) : Blk w' n cs T := (m.block n h.lt).trans h
theorem Blk.cell {w : World} {n : Nat} {cs : Array Value} {T : TypeId} (h : Blk w n cs T) {j : Nat} {v : Value} (e : cs[j]? = some v) : w.cell? ⟨n, j, none⟩ = some v := by rw [cell_of_row _ _ _ _ _ _ h]; exact e
theorem Blk.frozen {w : World} {n : Nat} {cs : Array Value} {T : TypeId} (h : Blk w n cs T) (j : Nat) : w.frozen? ⟨n, j, none⟩ = false := frozen_of_row _ _ _ _ _ h
theorem Blk.last (w : World) (cs : Array Value) (T : TypeId) : Blk (w.alloc (.cells cs T)) w.heap.size cs T := heap_alloc_last _ _
theorem Blk.other {w : World} {n : Nat} {cs : Array Value} {T : TypeId} (h : Blk w n cs T) {b : Nat} (hb : b ≠ n) (o : Nat) (v : Value) : Blk (w.setCell ⟨b, o, none⟩ v) n cs T := (Below.heap_setCell _ _ _ _ (fun e => hb e.symm)).trans h
theorem run_append_owned_empty {P : Program} {w : World} (base : Nat) (t ty e : TypeId) (i : TypeInfo) (size : Nat) (ht : P.underlying t = some (.slice e)) (hi : P.info? e = some i)
    (v : Value) (n : Nat) (xs : List Value) (hown : w.ownsRow base e size v n xs) (ad : Option Addr) (c : Nat) :
    (Builtin.append_ #[t, t] ty #[v, .slice ad 0 c]).run P w = .ok v w := by
  have hl : ∀ a : Addr, (loadCells a 0).run P w = .ok #[] w := fun a => rfl
  rcases hown.2 with ⟨rfl, rfl⟩ | ⟨g, cap, cur, rfl, _, _, hnc, _⟩
  · cases ad <;> simp [Builtin.append_, run_underlying ht, sizeOf, typeInfo, hi, Builtin.lenOf, Builtin.firstCells, hl]
  · cases ad <;> simp [Builtin.append_, run_underlying ht, sizeOf, typeInfo, hi, Builtin.lenOf, Builtin.firstCells, hnc, storeCells, hl]
/-- What is appended lies anywhere, or there is nothing of it. -/
theorem wp_append_any {P : Program} {o : Oper} {a : Act} (w : World) {K : Act → World → Prop} {Q : Exit → Act → World → Prop} (s x : Operand) (t : TypeId)
    (ho : o.op = .call { callee := .builtin .append, args := #[s, x], argTypes := #[t, t] })
    (base : Nat) (e : TypeId) (i : TypeInfo) (z : Value) (size bytes : Nat) (ht : P.underlying t = some (.slice e)) (hi : P.info? e = some i) (hz : i.zero = some z)
    (hsize : i.size = size) (hby : i.bytes = bytes) (hzs : z.cells.size = size) (hsz : 0 < size)
    (v : Value) (n : Nat) (xs : List Value) (hs : a.eval s = v) (hown : w.ownsRow base e size v n xs)
    (ad : Option Addr) (m c : Nat) (news : List Value) (hx : a.eval x = .slice ad m c) (hl : news.length = m * size) (hnews : 0 < m → ∃ ad', ad = some ad' ∧ ∀ j u, news[j]? = some u → w.cell? (ad'.add j) = some u) (h1 : ∀ u ∈ news, u.oneCell' = true)
    (h63 : n + m ≤ maxLen) (hbytes : (n + m) * bytes ≤ 140737488355328) (hbase : base ≤ w.heap.size)
    (h : ∀ va cap w', w'.ownsRow base e size (.slice va (n + m) cap) (n + m) (xs ++ news) → w.grownBy w' v.ownBlock → (∀ b, (Value.slice va (n + m) cap).ownBlock = some b → v.ownBlock = some b ∨ b = w.heap.size) → (v.ownBlock ≠ none → va ≠ none) → K (a.put o.dst (.slice va (n + m) cap)) w') : o.wp P a w K Q := by
  by_cases hm : 0 < m
  · obtain ⟨ad', rfl, hn2⟩ := hnews hm
    refine wp_append_lies w s x t ho base e i z size bytes ht hi hz hsize hby hzs hsz v n xs hs hown ad' m c news hx hl hn2 h1 hm h63 hbytes hbase w.heap.size rfl (fun g cap w' h2 h3 h4 h5 => h _ _ _ h2 h3 (fun b hb => ?_) (fun _ => by simp))
    have : b = g := by simpa [Value.ownBlock] using hb.symm
    subst this
    exact h4
  · obtain rfl : m = 0 := by omega
    have hnl : news = [] := List.eq_nil_of_length_eq_zero (by rw [hl]; omega)
    subst hnl
    have hrun := run_append_owned_empty (P := P) (w := w) base t o.type e i size ht hi v n xs hown ad c
    obtain ⟨va, cap, rfl⟩ := own_form hown
    unfold Oper.wp
    simp [execOp, ho, resolve, invoke, builtin, hs, hx, hrun, Result.andThen]
    exact h va cap w (by simpa using hown) (grown_refl _ _) (fun b hb => .inl hb) (fun h1 h2 => h1 (by rw [h2]; rfl))
theorem wpList_append_any {P : Program} {ops : Array Oper} {rest : List Oper} {o : Oper} {a : Act} (w : World) {Q : Exit → Act → World → Prop} (hgd : o.guard = none) (s x : Operand) (t : TypeId)
    (ho : o.op = .call { callee := .builtin .append, args := #[s, x], argTypes := #[t, t] })
    (base : Nat) (e : TypeId) (i : TypeInfo) (z : Value) (size bytes : Nat) (ht : P.underlying t = some (.slice e)) (hi : P.info? e = some i) (hz : i.zero = some z)
    (hsize : i.size = size) (hby : i.bytes = bytes) (hzs : z.cells.size = size) (hsz : 0 < size)
    (v : Value) (n : Nat) (xs : List Value) (hs : a.eval s = v) (hown : w.ownsRow base e size v n xs)
    (ad : Option Addr) (m c : Nat) (news : List Value) (hx : a.eval x = .slice ad m c) (hl : news.length = m * size) (hnews : 0 < m → ∃ ad', ad = some ad' ∧ ∀ j u, news[j]? = some u → w.cell? (ad'.add j) = some u) (h1 : ∀ u ∈ news, u.oneCell' = true)
    (h63 : n + m ≤ maxLen) (hbytes : (n + m) * bytes ≤ 140737488355328) (hbase : base ≤ w.heap.size)
    (h : ∀ va cap w', w'.ownsRow base e size (.slice va (n + m) cap) (n + m) (xs ++ news) → w.grownBy w' v.ownBlock → (∀ b, (Value.slice va (n + m) cap).ownBlock = some b → v.ownBlock = some b ∨ b = w.heap.size) → (v.ownBlock ≠ none → va ≠ none) → wpList P ops Q rest (a.put o.dst (.slice va (n + m) cap)) w') : wpList P ops Q (o :: rest) a w :=
  wpList_plain hgd fun _ hK => wp_append_any w s x t ho base e i z size bytes ht hi hz hsize hby hzs hsz v n xs hs hown ad m c news hx hl hnews h1 h63 hbytes hbase fun va cap w' h2 h3 h4 h5 => hK _ _ (h va cap w' h2 h3 h4 h5)
def flatI : List Ins → List Value
  | [] => []
  | i :: l => .int .i64 i.op :: .int .i64 i.a :: .int .i64 i.b :: .int .i64 i.c :: .int .i64 i.n :: flatI l
theorem flatI_length : ∀ l : List Ins, (flatI l).length = l.length * 5
  | [] => rfl
  | s :: l => by simp [flatI, flatI_length l]; omega
theorem flatI_append : ∀ l l' : List Ins, flatI (l ++ l') = flatI l ++ flatI l'
  | [], _ => rfl
  | s :: l, l' => by simp [flatI, flatI_append l l']
theorem flatI_at : ∀ (l : List Ins) (i : Nat) (s : Ins), l[i]? = some s → (flatI l)[i * 5]? = some (.int .i64 s.op) ∧ (flatI l)[i * 5 + 1]? = some (.int .i64 s.a) ∧ (flatI l)[i * 5 + 2]? = some (.int .i64 s.b) ∧ (flatI l)[i * 5 + 3]? = some (.int .i64 s.c) ∧ (flatI l)[i * 5 + 4]? = some (.int .i64 s.n)
  | [], i, s, h => by simp at h
  | x :: l, 0, s, h => by simp at h; subst h; simp [flatI]
  | x :: l, i + 1, s, h => by
    have := flatI_at l i s (by simpa using h)
    rw [show (i + 1) * 5 = i * 5 + 1 + 1 + 1 + 1 + 1 by omega, flatI]
    simpa using this
theorem flatI_one : ∀ (l : List Ins), ∀ u ∈ flatI l, u.oneCell' = true
  | [], u, h => by simp [flatI] at h
  | i :: l, u, h => by
    simp only [flatI, List.mem_cons] at h
    rcases h with rfl | rfl | rfl | rfl | rfl | h
    · rfl
    · rfl
    · rfl
    · rfl
    · rfl
    · exact flatI_one l u h
theorem Blk.alloc {w : World} {n : Nat} {c : Array Value} {T : TypeId} (h : Blk w n c T) (d : Array Value) (U : TypeId) : Blk (w.alloc (.cells d U)) n c T := h.more ((More.refl _).alloc _ _)
theorem RegsAt.other {w : World} {b o rl : Nat} {log : Nat → Int} {sec : Nat → Bool} (h : RegsAt w b o rl log sec) {b' : Nat} (hb : b' ≠ b) (o' : Nat) (v : Value) : RegsAt (w.setCell ⟨b', o', none⟩ v) b o rl log sec := fun i hi =>
  ⟨by rw [World.cell?_setCell_other _ _ _ _ (by intro e; simp only [Addr.mk.injEq] at e; exact hb e.1)]; exact (h i hi).1, by rw [World.cell?_setCell_other _ _ _ _ (by intro e; simp only [Addr.mk.injEq] at e; exact hb e.1)]; exact (h i hi).2⟩
theorem CodeAt.other {w : World} {b o cl : Nat} {ins : Nat → Ins} (h : CodeAt w b o cl ins) {b' : Nat} (hb : b' ≠ b) (o' : Nat) (v : Value) : CodeAt (w.setCell ⟨b', o', none⟩ v) b o cl ins := fun i hi => by
  have k : ∀ x, (w.setCell ⟨b', o', none⟩ v).cell? ⟨b, x, none⟩ = w.cell? ⟨b, x, none⟩ := fun x => World.cell?_setCell_other _ _ _ _ (by intro e; simp only [Addr.mk.injEq] at e; exact hb e.1)
  rw [k, k, k, k, k]
  exact h i hi
theorem made1_at (x : Value) (n j : Nat) (h : j < n) : (madeCells #[x] n)[j]? = some x := by unfold madeCells; simp [h, Nat.mod_one]
structure InsWr (w : World) (g j : Nat) (i : Ins) : Prop where
  op : Wr w g (j * 5) (.int .i64 i.op)
  a : Wr w g (j * 5 + 1) (.int .i64 i.a)
  b : Wr w g (j * 5 + 2) (.int .i64 i.b)
  c : Wr w g (j * 5 + 3) (.int .i64 i.c)
  n : Wr w g (j * 5 + 4) (.int .i64 i.n)
theorem InsWr.more {w w' : World} {g j : Nat} {i : Ins} (m : More w w') (h : InsWr w g j i) : InsWr w' g j i :=
  ⟨h.op.kept (m.grow none) (by simp), h.a.kept (m.grow none) (by simp), h.b.kept (m.grow none) (by simp), h.c.kept (m.grow none) (by simp), h.n.kept (m.grow none) (by simp)⟩
theorem getD_at {L : List Ins} {j : Nat} (hj : j < L.length) (d : Ins) : L[j]? = some (L.getD j d) := by
  rw [List.getD_eq_getElem?_getD]
  rw [List.getElem?_eq_getElem hj]
  rfl
/-- Instructions that lie at the beginning of a block. -/
def NewsAt (w : World) (g : Nat) (L : List Ins) : Prop := ∀ j u, (flatI L)[j]? = some u → w.cell? ((⟨g, 0, none⟩ : Addr).add j) = some u
theorem NewsAt.of {w : World} {g : Nat} {L : List Ins} {cs : Array Value} {T : TypeId} (h : Blk w g cs T) (e : cs.toList = flatI L) : NewsAt w g L := fun j u hu => by
  rw [← e] at hu
  exact World.news_of_block h j u hu
theorem by_key {G : Prop} {A : Prop} (h1 : A → G) (h2 : A) : G := h1 h2

end Go.Proofs.Ytifdalddchmlmaa
