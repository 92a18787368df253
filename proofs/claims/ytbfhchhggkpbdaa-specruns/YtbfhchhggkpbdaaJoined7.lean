/-
  The texts RPlace, Last, RCopy, RRun, RRun2, RMeth, Shape, one behind the other.
-/
import Derived.Test.YtbfhchhggkpbdaaJoined0
import Derived.Deep.AppendLies
import Derived.Laws.AppendOwnNone
import Derived.Test.YtbfhchhggkpbdaaJoined4
import Derived.Test.YtbfhchhggkpbdaaJoined3
import Derived.Test.YtbfhchhggkpbdaaRows
import Derived.WalkKit
import Derived.Deep.LoopGhost

/-
  Where a place of the reference's run with steps ahead of time lies in memory, each block with a label of its own; and how it stays so under stores. And appending to a row of one's own. No Go text in sight.
-/
namespace Go.Proofs.Ytbfhchhggkpbdaa
open Go.RowKit
set_option linter.unusedVariables false
set_option linter.unusedSimpArgs false

theorem run_append_owned_empty {P : Program} {w : World} (base : Nat) (t ty e : TypeId) (i : TypeInfo) (size : Nat) (ht : P.underlying t = some (.slice e)) (hi : P.info? e = some i)
    (v : Value) (n : Nat) (xs : List Value) (hown : w.ownsRow base e size v n xs) (ad : Option Addr) (c : Nat) :
    (Builtin.append_ #[t, t] ty #[v, .slice ad 0 c]).run P w = .ok v w := by
  have hl : ∀ a : Addr, (loadCells a 0).run P w = .ok #[] w := fun a => rfl
  rcases hown.2 with ⟨rfl, rfl⟩ | ⟨g, cap, cur, rfl, _, _, hnc, _⟩
  · cases ad <;> simp [Builtin.append_, run_underlying ht, sizeOf, typeInfo, hi, Builtin.lenOf, Builtin.firstCells, hl]
  · cases ad <;> simp [Builtin.append_, run_underlying ht, sizeOf, typeInfo, hi, Builtin.lenOf, Builtin.firstCells, hnc, storeCells, hl]

/-- What is appended lies anywhere, or there is nothing of it. -/
theorem wp_append_any {P : Program} {o : Oper} {a : Act} (w : World) {K : Act → World → Prop} {Q : Exit → Act → World → Prop} (s x : Operand) (t : TypeId)
    (ho : o.op = .call { callee := .builtin .append, args := #[s, x], argTypes := #[t, t] })
    (base : Nat) (e : TypeId) (i : TypeInfo) (z : Value) (size bytes : Nat) (ht : P.underlying t = some (.slice e)) (hi : P.info? e = some i) (hz : i.zero = some z)
    (hsize : i.size = size) (hby : i.bytes = bytes) (hzs : z.cells.size = size) (hsz : 0 < size)
    (v : Value) (n : Nat) (xs : List Value) (hs : a.eval s = v) (hown : w.ownsRow base e size v n xs)
    (ad : Option Addr) (m c : Nat) (news : List Value) (hx : a.eval x = .slice ad m c) (hl : news.length = m * size) (hnews : 0 < m → ∃ ad', ad = some ad' ∧ ∀ j u, news[j]? = some u → w.cell? (ad'.add j) = some u) (h1 : ∀ u ∈ news, u.oneCell' = true)
    (h63 : n + m ≤ maxLen) (hbytes : (n + m) * bytes ≤ 140737488355328) (hbase : base ≤ w.heap.size)
    (h : ∀ va cap w', w'.ownsRow base e size (.slice va (n + m) cap) (n + m) (xs ++ news) → w.grownBy w' v.ownBlock → (∀ b, (Value.slice va (n + m) cap).ownBlock = some b → v.ownBlock = some b ∨ b = w.heap.size) → (v.ownBlock ≠ none → va ≠ none) → K (a.put o.dst (.slice va (n + m) cap)) w') : o.wp P a w K Q := by
  by_cases hm : 0 < m
  · obtain ⟨ad', rfl, hn2⟩ := hnews hm
    refine wp_append_lies w s x t ho base e i z size bytes ht hi hz hsize hby hzs hsz v n xs hs hown ad' m c news hx hl hn2 h1 hm h63 hbytes hbase w.heap.size rfl (fun g cap w' h2 h3 h4 h5 => h _ _ _ h2 h3 (fun b hb => ?_) (fun _ => by simp))
    have : b = g := by simpa [Value.ownBlock] using hb.symm
    subst this
    exact h4
  · obtain rfl : m = 0 := by omega
    have hnl : news = [] := List.eq_nil_of_length_eq_zero (by rw [hl]; omega)
    subst hnl
    have hrun := run_append_owned_empty (P := P) (w := w) base t o.type e i size ht hi v n xs hown ad c
    obtain ⟨va, cap, rfl⟩ := own_form hown
    unfold Oper.wp
    simp [execOp, ho, resolve, invoke, builtin, hs, hx, hrun, Result.andThen]
    exact h va cap w (by simpa using hown) (grown_refl _ _) (fun b hb => .inl hb) (fun h1 h2 => h1 (by rw [h2]; rfl))
theorem wpList_append_any {P : Program} {ops : Array Oper} {rest : List Oper} {o : Oper} {a : Act} (w : World) {Q : Exit → Act → World → Prop} (hgd : o.guard = none) (s x : Operand) (t : TypeId)
    (ho : o.op = .call { callee := .builtin .append, args := #[s, x], argTypes := #[t, t] })
    (base : Nat) (e : TypeId) (i : TypeInfo) (z : Value) (size bytes : Nat) (ht : P.underlying t = some (.slice e)) (hi : P.info? e = some i) (hz : i.zero = some z)
    (hsize : i.size = size) (hby : i.bytes = bytes) (hzs : z.cells.size = size) (hsz : 0 < size)
    (v : Value) (n : Nat) (xs : List Value) (hs : a.eval s = v) (hown : w.ownsRow base e size v n xs)
    (ad : Option Addr) (m c : Nat) (news : List Value) (hx : a.eval x = .slice ad m c) (hl : news.length = m * size) (hnews : 0 < m → ∃ ad', ad = some ad' ∧ ∀ j u, news[j]? = some u → w.cell? (ad'.add j) = some u) (h1 : ∀ u ∈ news, u.oneCell' = true)
    (h63 : n + m ≤ maxLen) (hbytes : (n + m) * bytes ≤ 140737488355328) (hbase : base ≤ w.heap.size)
    (h : ∀ va cap w', w'.ownsRow base e size (.slice va (n + m) cap) (n + m) (xs ++ news) → w.grownBy w' v.ownBlock → (∀ b, (Value.slice va (n + m) cap).ownBlock = some b → v.ownBlock = some b ∨ b = w.heap.size) → (v.ownBlock ≠ none → va ≠ none) → wpList P ops Q rest (a.put o.dst (.slice va (n + m) cap)) w') : wpList P ops Q (o :: rest) a w :=
  wpList_plain hgd fun _ hK => wp_append_any w s x t ho base e i z size bytes ht hi hz hsize hby hzs hsz v n xs hs hown ad m c news hx hl hnews h1 h63 hbytes hbase fun va cap w' h2 h3 h4 h5 => hK _ _ (h va cap w' h2 h3 h4 h5)

def ints (l : List Int) : List Value := l.map fun x => .int .i64 x
theorem ints_length (l : List Int) : (ints l).length = l.length := by simp [ints]
theorem ints_one (l : List Int) : ∀ u ∈ ints l, u.oneCell' = true := by
  intro u hu
  simp only [ints, List.mem_map] at hu
  obtain ⟨i, _, rfl⟩ := hu
  rfl

/-- The blocks of a place, and its slices. -/
structure PV where
  rg : Nat
  rc : Nat
  wg : Nat
  wa : Option Addr
  wc : Nat
  pg : Nat
  pa : Option Addr
  pc : Nat
  P : Nat → Value
def PV.regs (a : PV) : Value := .slice (some ⟨a.rg, 0, none⟩) 10 a.rc
def PV.words (a : PV) (N : Nat) : Value := .slice a.wa N a.wc
def PV.past (a : PV) (N : Nat) : Value := .slice a.pa N a.pc

/-- Labels of a place's blocks. -/
def InR (K l : Nat) : Prop := K < l ∧ l < K + 1000

structure PlL (w : World) (lo N K : Nat) (lab : Nat → Nat) (q : Pl) (a : PV) : Prop where
  lr : lab a.rg = K + 1
  regs : RegsR w a.rg q.r
  lw : 0 < N → lab a.wg = K + 2
  wa : 0 < N → a.wa = some ⟨a.wg, 0, none⟩
  words : ∀ j, j < N → Wr w a.wg j (.int .i64 (q.wd j))
  lp : 0 < N → lab a.pg = K + 3
  pa : 0 < N → a.pa = some ⟨a.pg, 0, none⟩
  past : ∀ j, j < N → Wr w a.pg j (a.P j)
  rows : ∀ j, j < N → w.ownsRow lo 2 1 (a.P j) (q.past j).length (ints (q.past j))
  lrow : ∀ j, j < N → ∀ b, (a.P j).ownBlock = some b → lab b = K + 10 + j
  cap : N ≤ a.wc

section
variable {w w' : World} {lo N K : Nat} {lab lab' : Nat → Nat} {q : Pl} {a : PV}

theorem PlL.labs (h : PlL w lo N K lab q a) (hl : ∀ b, lab b ≠ 0 → lab' b = lab b) : PlL w lo N K lab' q a :=
  ⟨by rw [hl _ (by rw [h.lr]; omega)]; exact h.lr, h.regs, fun hN => by rw [hl _ (by rw [h.lw hN]; omega)]; exact h.lw hN, h.wa, h.words, fun hN => by rw [hl _ (by rw [h.lp hN]; omega)]; exact h.lp hN, h.pa, h.past, h.rows, fun j hj b hb => by rw [hl _ (by rw [h.lrow j hj b hb]; omega)]; exact h.lrow j hj b hb, h.cap⟩
theorem PlL.kept (h : PlL w lo N K lab q a) (hN : N ≤ 384) {row : Option Nat} (hg : w.grownBy w' row) (hr : ∀ b, row = some b → ¬ InR K (lab b)) : PlL w' lo N K lab q a := by
  have ne : ∀ b, InR K (lab b) → some b ≠ row := fun b hb e => hr b e.symm hb
  refine ⟨h.lr, h.regs.kept hg (ne _ (by rw [h.lr]; unfold InR; omega)), h.lw, h.wa, fun j hj => (h.words j hj).kept hg (ne _ (by rw [h.lw (by omega)]; unfold InR; omega)), h.lp, h.pa, fun j hj => (h.past j hj).kept hg (ne _ (by rw [h.lp (by omega)]; unfold InR; omega)), fun j hj => ?_, h.lrow, h.cap⟩
  refine World.ownsRow.kept (h.rows j hj) hg ?_
  cases hv : (a.P j).ownBlock with
  | none => left; rfl
  | some b => right; exact ne b (by rw [h.lrow j hj b hv]; unfold InR; omega)
theorem PlL.more (h : PlL w lo N K lab q a) (hN : N ≤ 384) (m : More w w') : PlL w' lo N K lab q a := h.kept hN (m.grow none) (fun b hb => by cases hb)
theorem PlL.go (h : PlL w lo N K lab q a) (n : Nat) : PlL w lo N K lab { q with at_ := n } a := ⟨h.lr, h.regs, h.lw, h.wa, h.words, h.lp, h.pa, h.past, h.rows, h.lrow, h.cap⟩
theorem PlL.base (h : PlL w lo N K lab q a) {lo' : Nat} (hl : lo' ≤ lo) : PlL w lo' N K lab q a :=
  ⟨h.lr, h.regs, h.lw, h.wa, h.words, h.lp, h.pa, h.past, fun j hj => ⟨(h.rows j hj).1, by
    rcases (h.rows j hj).2 with h1 | ⟨g, cap, cur, h1, h2, h3⟩
    · exact .inl h1
    · exact .inr ⟨g, cap, cur, h1, by omega, h3⟩⟩, h.lrow, h.cap⟩
/-- The registers have changed, in their own block alone. -/
theorem PlL.regd (h : PlL w lo N K lab q a) (hN : N ≤ 384) (r : Nat → Int) (hg : w.grownBy w' (some a.rg)) (hr : RegsR w' a.rg r) : PlL w' lo N K lab { q with r := r } a := by
  have ne : ∀ b, lab b ≠ K + 1 → some b ≠ some a.rg := fun b hb e => hb (by rw [Option.some.inj e]; exact h.lr)
  refine ⟨h.lr, hr, h.lw, h.wa, fun j hj => (h.words j hj).kept hg (ne _ (by rw [h.lw (by omega)]; omega)), h.lp, h.pa, fun j hj => (h.past j hj).kept hg (ne _ (by rw [h.lp (by omega)]; omega)), fun j hj => ?_, h.lrow, h.cap⟩
  refine World.ownsRow.kept (h.rows j hj) hg ?_
  cases hv : (a.P j).ownBlock with
  | none => left; rfl
  | some b => right; exact ne b (by rw [h.lrow j hj b hv]; omega)
theorem PlL.reg (h : PlL w lo N K lab q a) (hN : N ≤ 384) (k v : Int) : PlL (w.setCell ⟨a.rg, k.toNat, none⟩ (.int .i64 v)) lo N K lab { q with r := setR q.r k v } a :=
  h.regd hN _ (grown_set w a.rg _ _) (h.regs.set k v)
/-- A word has been put. -/
theorem PlL.word (h : PlL w lo N K lab q a) (hN : N ≤ 384) (n : Nat) (hn : n < N) (v : Int) : PlL (w.setCell ⟨a.wg, n, none⟩ (.int .i64 v)) lo N K lab { q with wd := setF q.wd n v } a := by
  have hg := grown_set w a.wg n (.int .i64 v)
  have ne : ∀ b, lab b ≠ K + 2 → some b ≠ some a.wg := fun b hb e => hb (by rw [Option.some.inj e]; exact h.lw (by omega))
  refine ⟨h.lr, h.regs.kept hg (ne _ (by rw [h.lr]; omega)), h.lw, h.wa, fun j hj => ?_, h.lp, h.pa, fun j hj => (h.past j hj).kept hg (ne _ (by rw [h.lp (by omega)]; omega)), fun j hj => ?_, h.lrow, h.cap⟩
  · dsimp only [setF]
    by_cases e : j = n
    · subst e; rw [if_pos rfl]; exact (h.words j hj).same _
    · rw [if_neg e]; exact (h.words j hj).other _ _ _ (by omega)
  · refine World.ownsRow.kept (h.rows j hj) hg ?_
    cases hv : (a.P j).ownBlock with
    | none => left; rfl
    | some b => right; exact ne b (by rw [h.lrow j hj b hv]; omega)
/-- What a word was has grown by one: its row has grown, and its place is stored; its label is kept, or is that of the new block. -/
theorem PlL.push (h : PlL w lo N K lab q a) (hN : N ≤ 384) (n : Nat) (hn : n < N) (x : Int) (v : Value) (hg : w.grownBy w' (a.P n).ownBlock) (own : w'.ownsRow lo 2 1 v ((q.past n).length + 1) (ints (q.past n) ++ [.int .i64 x]))
    (hl : ∀ b, lab b ≠ 0 → lab' b = lab b) (hv : ∀ b, v.ownBlock = some b → lab' b = K + 10 + n) :
    PlL (w'.setCell ⟨a.pg, n, none⟩ v) lo N K lab' { q with past := setF q.past n (q.past n ++ [x]) } { a with P := setF a.P n v } := by
  have h' := h.labs hl
  have ne : ∀ b, lab b ≠ K + 10 + n → some b ≠ (a.P n).ownBlock := fun b hb e => hb (h.lrow n hn b e.symm)
  have hg2 := grown_set w' a.pg n v
  have lp := h'.lp (by omega)
  have lw := h.lw (by omega)
  have lpo := h.lp (by omega)
  have ne2 : ∀ b, lab' b ≠ K + 3 → some b ≠ some a.pg := fun b hb e => hb (by rw [Option.some.inj e]; exact lp)
  refine ⟨h'.lr, (h.regs.kept hg (ne _ (by rw [h.lr]; omega))).kept hg2 (ne2 _ (by rw [h'.lr]; omega)), h'.lw, h.wa, fun j hj => ((h.words j hj).kept hg (ne _ (by rw [lw]; omega))).kept hg2 (ne2 _ (by rw [h'.lw (by omega)]; omega)), h'.lp, h.pa, fun j hj => ?_, fun j hj => ?_, fun j hj b hb => ?_, h.cap⟩
  · dsimp only [setF]
    by_cases e : j = n
    · subst e; rw [if_pos rfl]; exact ((h.past j hj).kept hg (ne _ (by rw [lpo]; omega))).same _
    · rw [if_neg e]; exact ((h.past j hj).kept hg (ne _ (by rw [lpo]; omega))).other _ _ _ (by omega)
  · dsimp only [setF]
    by_cases e : j = n
    · subst e
      rw [if_pos rfl, if_pos rfl, List.length_append]
      have e1 : ints (q.past j ++ [x]) = ints (q.past j) ++ [.int .i64 x] := by simp [ints]
      rw [e1]
      refine World.ownsRow.kept own hg2 ?_
      cases hvb : v.ownBlock with
      | none => left; rfl
      | some b => right; exact ne2 b (by rw [hv b hvb]; omega)
    · rw [if_neg e, if_neg e]
      refine World.ownsRow.kept (World.ownsRow.kept (h.rows j hj) hg ?_) hg2 ?_
      · cases hb : (a.P j).ownBlock with
        | none => left; rfl
        | some b => right; exact ne b (by rw [h.lrow j hj b hb]; omega)
      · cases hb : (a.P j).ownBlock with
        | none => left; rfl
        | some b => right; exact ne2 b (by rw [h'.lrow j hj b hb]; omega)
  · dsimp only [setF] at hb
    by_cases e : j = n
    · subst e; rw [if_pos rfl] at hb; exact hv b hb
    · rw [if_neg e] at hb; exact h'.lrow j hj b hb
end
end Go.Proofs.Ytbfhchhggkpbdaa

/-
  A statement whose order is left open and that ends in a store which waits for all the rest: the class of worlds in which the rest reads need not hold behind that store. No Go text in sight.
-/
namespace Go.Proofs.Ytbfhchhggkpbdaa
open Go

section
variable {P : Program} {ops : Array Oper} {Q : Exit → Act → World → Prop} {md : Region.Mode} {S : World → Prop}

/-- Does operation j wait for every other one? -/
def waitsB (md : Region.Mode) (ops : Array Oper) (j : Nat) : Bool :=
  match ops[j]? with
  | none => false
  | some o => (List.range ops.size).all fun i => i == j || o.after.any fun e => Region.binds md e && e.on == i

/-- Whatever comes up: behind it S holds, unless it waited for all. -/
def AnyL (P : Program) (md : Region.Mode) (ops : Array Oper) (Q : Exit → Act → World → Prop) (S : World → Prop) : Nat → Array Bool → Act → World → Prop
  | 0, l, a, w => Region.ready md ops l = [] ∧ Q .normal a w
  | n + 1, l, a, w => (Region.ready md ops l = [] → Q .normal a w) ∧ ∀ i ∈ Region.ready md ops l, wpOp P ops Q i (fun a' w' => (waitsB md ops i = false → S w') ∧ AnyL P md ops Q S n (l.setIfInBounds i true) a' w') a w

theorem AnyL.any : ∀ (n : Nat) (l : Array Bool) (a : Act) (w : World), AnyL P md ops Q S n l a w → wpAny P md ops Q n l a w
  | 0, _, _, _, h => h
  | n + 1, _, _, _, h => ⟨h.1, fun i hi => wpOp_mono (fun a' w' h' => AnyL.any n _ a' w' h'.2) (h.2 i hi)⟩

/-- One that may come up while another is unlisted does not wait for that one. -/
theorem waits_no {i j : Nat} {l : Array Bool} (hi : i ∈ Region.ready md ops l) (hj : j ∈ Region.ready md ops l) (hne : j ≠ i) : waitsB md ops j = false := by
  cases hb : waitsB md ops j with
  | false => rfl
  | true =>
    exfalso
    obtain ⟨_, oj, hoj, hall⟩ := mem_ready.1 hj
    obtain ⟨hun, oi, hoi, _⟩ := mem_ready.1 hi
    unfold waitsB at hb
    rw [hoj] at hb
    dsimp only at hb
    rw [List.all_eq_true] at hb
    have h1 := hb i (List.mem_range.2 (Array.getElem?_eq_some_iff.1 hoi).1)
    rw [Bool.or_eq_true] at h1
    rcases h1 with h1 | h1
    · exact hne (by simpa using h1 : i = j).symm
    · obtain ⟨e, he, hbe⟩ := Array.any_eq_true'.1 h1
      rw [Bool.and_eq_true, beq_iff_eq] at hbe
      have h2 := hall e he hbe.1
      rw [hbe.2] at h2
      rcases Nat.lt_or_ge i l.size with h' | h'
      · simp [h'] at hun h2; rw [hun] at h2; cases h2
      · simp [Array.getElem?_eq_none h'] at h2

theorem AnyL.take {i : Nat} {oi : Oper} {v : Value} (hi : ops[i]? = some oi) (hs : Region.noSelect ops = true) (hQ : ∀ c a w, Q (.panic c) (a.put oi.dst v) w → Q (.panic c) a w) :
    ∀ (n : Nat) (l : Array Bool) (a : Act) (w : World), (∀ j oj, ops[j]? = some oj → j ≠ i → l.getD j true = false → (∀ e ∈ oj.after, Region.binds md e = true → e.on ≠ i) → oi.apart ops oj = true) →
      i ∈ Region.ready md ops l → YieldsIf P ops S oi v a → S w → AnyL P md ops Q S n (l.setIfInBounds i true) (a.put oi.dst v) w → AnyL P md ops Q S (n + 1) l a w
  | n, l, a, w, hf, hr, hy, hS, H => by
    refine ⟨fun h => absurd hr (by rw [h]; simp), fun j hj => ?_⟩
    by_cases hji : j = i
    · subst hji
      exact hy.wpOp hi hS ⟨fun _ => hS, H⟩
    have hjm := ready_mono hj hji
    cases n with
    | zero => rw [H.1] at hjm; cases hjm
    | succ n =>
      obtain ⟨hjun, oj, hoj, hall⟩ := mem_ready.1 hj
      have hno : ∀ e ∈ oj.after, Region.binds md e = true → e.on ≠ i := fun e he hb hei => by
        have h1 := hall e he hb
        have h0 := (mem_ready.1 hr).1
        rw [hei] at h1
        rcases Nat.lt_or_ge i l.size with h' | h'
        · simp [h'] at h0 h1; rw [h0] at h1; cases h1
        · simp [Array.getElem?_eq_none h'] at h1
      have h2 := wpOp_putIf hoj (hf j oj hoj hji hjun hno) (fun cs b => Region.noSelect_spec hs i oi cs b hi) (fun cs b => Region.noSelect_spec hs j oj cs b hoj) hQ hy (H.2 j hjm)
      have hw := waits_no hr hj hji
      refine wpOp_mono (fun a' w' h3 => ?_) h2
      have hS' := h3.2.1 hw
      refine ⟨fun _ => hS', AnyL.take hi hs hQ n (l.setIfInBounds j true) a' w' (fun k ok hk hki hun hno' => hf k ok hk hki ?_ hno') (ready_mono hr (Ne.symm hji)) h3.1 hS' ?_⟩
      · by_cases e : j = k
        · subst e; exact hjun
        · rw [getD_set_ne true e] at hun; exact hun
      · rw [Array.setIfInBounds_comm _ _ hji]
        exact h3.2.2

/-- The walk by a named order. -/
def wpOrdL (P : Program) (ops : Array Oper) (Q : Exit → Act → World → Prop) (S : World → Prop) : List (Nat × Bool) → Act → World → Prop
  | [], a, w => Q .normal a w
  | (i, t) :: rest, a, w =>
    match ops[i]? with
    | none => False
    | some o => if t then OrdTake P ops S o a w (fun a' w' => wpOrdL P ops Q S rest a' w') else OrdBusy P ops Q o a w (fun a' w' => (waitsB .any ops i = false → S w') ∧ (rest ≠ [] → S w') ∧ wpOrdL P ops Q S rest a' w')

theorem wpOrdL_any (hs : Region.noSelect ops = true) (hQ : ∀ c (a : Act) d v w, Q (.panic c) (a.put d v) w → Q (.panic c) a w) :
    ∀ (l : List (Nat × Bool)) (listed : Array Bool) (a : Act) (w : World), ordB .any ops l listed = true → (l ≠ [] → S w) → wpOrdL P ops Q S l a w → AnyL P .any ops Q S l.length listed a w
  | [], listed, a, w, hB, _, h => ⟨by simpa [ordB] using hB, h⟩
  | (i, t) :: rest, listed, a, w, hB, hS, h => by
    replace hS : S w := hS (by simp)
    simp only [ordB, Bool.and_eq_true] at hB
    obtain ⟨⟨ho, hc⟩, hB'⟩ := hB
    obtain ⟨o, ho⟩ := Option.isSome_iff_exists.1 ho
    simp only [wpOrdL, ho] at h
    cases t with
    | true =>
      simp only [if_true, Bool.and_eq_true] at hc h
      unfold OrdTake at h
      have hr : i ∈ Region.ready .any ops listed := by simpa using hc.2
      by_cases hw : Region.wanted o (yielded ops a.tmps) = true
      · rw [if_pos hw] at h
        obtain ⟨v, hv, hk⟩ := h
        exact AnyL.take ho hs (fun c a w => hQ c a _ _ w) _ _ _ _ (Region.free_spec ho hc.1) hr (.inl ⟨hw, fun w' hw' => hv ⟨w', hw'⟩⟩) hS (wpOrdL_any hs hQ rest _ _ _ hB' (fun _ => hS) hk)
      · rw [if_neg hw] at h
        exact AnyL.take ho hs (fun c a w => hQ c a _ _ w) _ _ _ _ (Region.free_spec ho hc.1) hr (.inr ⟨by simpa using hw, rfl⟩) hS (wpOrdL_any hs hQ rest _ _ _ hB' (fun _ => hS) h)
    | false =>
      simp only [Bool.false_eq_true, if_false, beq_iff_eq] at hc h
      refine ⟨fun h0 => absurd (hc.symm.trans h0) (by simp), fun j hj => ?_⟩
      obtain rfl : j = i := by rw [hc] at hj; simpa using hj
      unfold OrdBusy at h
      unfold wpOp
      rw [ho]
      show if Region.wanted o (yielded ops a.tmps) = true then _ else _
      by_cases hw : Region.wanted o (yielded ops a.tmps) = true
      · rw [if_pos hw] at h ⊢
        exact .inl (Oper.wp_mono (fun a' w' h' => ⟨h'.1, wpOrdL_any hs hQ rest _ _ _ hB' h'.2.1 h'.2.2⟩) h)
      · rw [if_neg hw] at h ⊢
        exact ⟨h.1, wpOrdL_any hs hQ rest _ _ _ hB' h.2.1 h.2.2⟩

structure OrdL (P : Program) (ops : Array Oper) (Q : Exit → Act → World → Prop) (S : World → Prop) (l : List (Nat × Bool)) (a : Act) (w : World) : Prop where
  out : wpOrdL P ops Q S l a w

theorem wp_region_last {id : Nat} {a : Act} {w : World} (l : List (Nat × Bool)) (hm : P.follows .mixedOrders = true) (hs : Region.noSelect ops = true)
    (hB : (ordB .any ops l (Array.replicate ops.size false) && l.length == ops.size) = true) (hS : S w.drew) (h : OrdL P ops (NoPanic Q) S l a w.drew) : (Code.region id ops true).wp P Q a w := by
  rw [Bool.and_eq_true] at hB
  have hl : l.length = ops.size := by simpa using hB.2
  refine wp_region_noPanic (wp_region_any hm ?_)
  rw [← hl]
  have := wpOrdL_any (P := P) (S := S) (Q := NoPanic Q) hs (fun _ _ _ _ _ h => h) l (Array.replicate ops.size false) a w.drew hB.1 (fun _ => hS) h.out
  have := this.any
  rwa [← hl] at this

theorem wpOrdL_take {ls : List Oper} {i : Nat} {o : Oper} {rest : List (Nat × Bool)} {a : Act} {w : World} (ho' : nth ls i = some o) (hw : Region.wanted o (yielded ls.toArray a.tmps) = true)
    (h : ∀ K : Act → World → Prop, (∀ a w, OrdL P ls.toArray Q S rest a w → K a w) → ∃ v, (∀ i : { w' // S w' }, (execOp a.eval o).run P i.val = .ok (.value v) i.val) ∧ K (a.put o.dst v) w) :
    OrdL P ls.toArray Q S ((i, true) :: rest) a w := by
  have ho := nth_arr ho'
  refine ⟨?_⟩
  simp only [wpOrdL, ho]
  unfold OrdTake
  simp only [if_true]
  rw [if_pos hw]
  exact h _ (fun _ _ h => h.out)
theorem wpOrdL_busy {ls : List Oper} {i : Nat} {o : Oper} {rest : List (Nat × Bool)} {a : Act} {w : World} (ho' : nth ls i = some o) (hw : Region.wanted o (yielded ls.toArray a.tmps) = true)
    (h : ∀ K : Act → World → Prop, (∀ a w, S w → OrdL P ls.toArray Q S rest a w → K a w) → Oper.wp P o a w K Q) : OrdL P ls.toArray Q S ((i, false) :: rest) a w := by
  have ho := nth_arr ho'
  refine ⟨?_⟩
  simp only [wpOrdL, ho, Bool.false_eq_true, if_false]
  unfold OrdBusy
  rw [if_pos hw]
  exact h _ (fun _ _ hs h => ⟨fun _ => hs, fun _ => hs, h.out⟩)
/-- The last one, which waits for all. -/
theorem wpOrdL_last {ls : List Oper} {i : Nat} {o : Oper} {a : Act} {w : World} (ho' : nth ls i = some o) (hw : Region.wanted o (yielded ls.toArray a.tmps) = true) (hl : waitsB .any ls.toArray i = true)
    (h : ∀ K : Act → World → Prop, (∀ a w, Q .normal a w → K a w) → Oper.wp P o a w K Q) : OrdL P ls.toArray Q S [(i, false)] a w := by
  have ho := nth_arr ho'
  refine ⟨?_⟩
  simp only [wpOrdL, ho, Bool.false_eq_true, if_false]
  unfold OrdBusy
  rw [if_pos hw]
  exact h _ (fun _ _ h => ⟨fun e => absurd (hl.symm.trans e) (by simp), fun e => absurd rfl e, h⟩)
end
end Go.Proofs.Ytbfhchhggkpbdaa

/-
  What reference 4's Copy comes to: the same place, in blocks of its own.
-/
namespace Go.Proofs.Ytbfhchhggkpbdaa
open Go.RowKit
set_option linter.unusedVariables false
set_option linter.unusedSimpArgs false
set_option maxRecDepth 8000

/-- What the words were, as lists of a memory. -/
def pastM (q : Pl) (N : Nat) : Mem := ⟨N, fun j => (q.past j).length, fun j i => (q.past j).getD i 0⟩
theorem pastM_words (q : Pl) (N j : Nat) : wordsL (pastM q N) j = ints (q.past j) := by
  apply List.ext_getElem?
  intro i
  by_cases hi : i < (q.past j).length
  · rw [wordsL_at (pastM q N) j i hi]
    simp [ints, pastM, hi]
  · simp only [wordsL, ints, pastM, List.getElem?_map]
    rw [List.getElem?_eq_none (by simp; omega), List.getElem?_eq_none (by omega)]
    rfl

/-- The row's number, and one, or 0. -/
def rowNo (R : Nat → Nat) (c : Nat) : Nat → Nat
  | 0 => 0
  | n + 1 => if R n = c then n + 1 else rowNo R c n
theorem rowNo_some (R : Nat → Nat) (c : Nat) : ∀ n, rowNo R c n ≠ 0 → ∃ j, j < n ∧ R j = c ∧ rowNo R c n = j + 1
  | 0, h => absurd rfl h
  | n + 1, h => by
    unfold rowNo at h ⊢
    by_cases e : R n = c
    · rw [if_pos e]; exact ⟨n, by omega, e, rfl⟩
    · rw [if_neg e] at h ⊢
      obtain ⟨j, h1, h2, h3⟩ := rowNo_some R c n h
      exact ⟨j, by omega, h2, h3⟩
theorem rowNo_at (R : Nat → Nat) (c : Nat) : ∀ n j, j < n → R j = c → rowNo R c n ≠ 0
  | 0, j, h, _ => absurd h (Nat.not_lt_zero _)
  | n + 1, j, h, e => by
    unfold rowNo
    by_cases e' : R n = c
    · rw [if_pos e']; omega
    · rw [if_neg e']
      have : j ≠ n := by rintro rfl; exact e' e
      exact rowNo_at R c n j (by omega) e

/-- Labels for blocks that are apart. -/
def labOf (K N : Nat) (g1 g2 g3 : Nat) (R : Nat → Nat) : Nat → Nat := fun c =>
  if c = g1 then K + 1 else if 0 < N ∧ c = g2 then K + 2 else if 0 < N ∧ c = g3 then K + 3 else if rowNo R c N ≠ 0 then K + 9 + rowNo R c N else 0
theorem labOf_ne {K N g1 g2 g3 : Nat} {R : Nat → Nat} {c : Nat} (h : labOf K N g1 g2 g3 R c ≠ 0) : c = g1 ∨ (0 < N ∧ c = g2) ∨ (0 < N ∧ c = g3) ∨ ∃ j, j < N ∧ R j = c := by
  unfold labOf at h
  split at h
  · left; assumption
  · split at h
    · right; left; assumption
    · split at h
      · right; right; left; assumption
      · split at h
        · rename_i h0
          obtain ⟨j, h1, h2, _⟩ := rowNo_some R c N h0
          exact .inr (.inr (.inr ⟨j, h1, h2⟩))
        · exact absurd rfl h
theorem labOf_row {K N g1 g2 g3 : Nat} {R : Nat → Nat} (j : Nat) (hj : j < N) (h1 : R j ≠ g1) (h2 : R j ≠ g2) (h3 : R j ≠ g3) (ap : ∀ i j, i < N → j < N → i ≠ j → R i ≠ R j) : labOf K N g1 g2 g3 R (R j) = K + 10 + j := by
  unfold labOf
  have h0 := rowNo_at R (R j) N j hj rfl
  rw [if_neg h1, if_neg (fun h => h2 h.2), if_neg (fun h => h3 h.2), if_pos h0]
  obtain ⟨i, k1, k2, k3⟩ := rowNo_some R (R j) N h0
  have e : i = j := by
    rcases Nat.decEq i j with e | e
    · exact absurd k2 (ap _ _ k1 hj e)
    · exact e
  rw [k3, e]; omega

/-- A copied place. -/
theorem pl_copied {w : World} {lo N : Nat} {q : Pl} {g1 rc : Nat} {wa : Option Addr} {wc : Nat} {v : Value} {G C : Nat → Nat} {s0 : Nat} (h1 : lo ≤ g1) (h1' : g1 < s0) (hs : s0 ≤ w.heap.size) (hr : RegsR w g1 q.r)
    (hw : w.ownsRow lo 2 1 (.slice wa N wc) N ((List.range N).map fun j => .int .i64 (q.wd j))) (hwb : ∀ b, (Value.slice wa N wc).ownBlock = some b → b < s0 ∧ b ≠ g1) (hc : CpAt w s0 (pastM q N) N v G C) (hlo : lo ≤ s0) (K : Nat) :
    ∃ pa pc a' lab', v = .slice pa N pc ∧ a'.rg = g1 ∧ a'.regs = .slice (some ⟨g1, 0, none⟩) 10 rc ∧ a'.words N = .slice wa N wc ∧ a'.past N = v ∧ (∀ c, lab' c ≠ 0 → lo ≤ c ∧ c < w.heap.size) ∧ PlL w lo N K lab' q a' := by
  obtain ⟨pa, pc, rfl⟩ := own_form hc.own
  by_cases hN : 0 < N
  · obtain ⟨g2, c2, e2, l2, l2'⟩ := World.ownsRow.form hw hN
    obtain ⟨g3, c3, e3, l3, l3'⟩ := World.ownsRow.form hc.own hN
    have b2 := hwb g2 (by rw [e2]; rfl)
    have hcap : N ≤ wc := by
      rcases hw.2 with ⟨h, _⟩ | ⟨_, cap', _, h, _, _, hn, _⟩
      · rw [e2] at h; cases h
      · injection h with _ _ h3; omega
    rw [e2] at hw
    injection e2 with e2a _ _
    injection e3 with e3a _ e3c
    subst e2a e3a e3c
    have gl : ∀ j, j < N → s0 ≤ G j ∧ G j < w.heap.size ∧ G j ≠ g3 := fun j hj => ⟨((hc.row j hj).lt _ rfl).1, ((hc.row j hj).lt _ rfl).2, fun e => hc.apart j hj (by rw [e]; rfl)⟩
    have ap : ∀ i j, i < N → j < N → i ≠ j → G i ≠ G j := hc.apart2
    refine ⟨_, _, ⟨g1, rc, g2, some ⟨g2, 0, none⟩, wc, g3, some ⟨g3, 0, none⟩, pc, fun j => .slice (some ⟨G j, 0, none⟩) ((pastM q N).len j) (C j)⟩, labOf K N g1 g2 g3 G, rfl, rfl, rfl, rfl, rfl, fun c hc' => ?_, ?_⟩
    · rcases labOf_ne hc' with rfl | ⟨_, rfl⟩ | ⟨_, rfl⟩ | ⟨j, hj, rfl⟩
      · omega
      · omega
      · omega
      · have := gl j hj; omega
    · refine ⟨?_, hr, fun _ => ?_, fun _ => rfl, fun j hj => ⟨?_, World.ownsRow.frozenAt hw j⟩, fun _ => ?_, fun _ => rfl, fun j hj => ⟨?_, World.ownsRow.frozenAt hc.own j⟩, fun j hj => ?_, fun j hj b hb => ?_, hcap⟩
      · unfold labOf; rw [if_pos rfl]
      · unfold labOf; rw [if_neg b2.2, if_pos ⟨hN, rfl⟩]
      · rw [World.ownsRow.cellAt hw j (by omega)]; simp [hj]
      · unfold labOf; rw [if_neg (by dsimp only; omega), if_neg (by dsimp only; omega), if_pos ⟨hN, rfl⟩]
      · rw [World.ownsRow.cellAt hc.own j (by omega)]; simp [hj]
      · have := hc.row j hj
        rw [pastM_words] at this
        refine ⟨this.1, ?_⟩
        rcases this.2 with h | ⟨g, cap, cur, h, hb, hh⟩
        · exact .inl h
        · exact .inr ⟨g, cap, cur, h, by omega, hh⟩
      · have hb' : b = G j := by simpa [Value.ownBlock] using hb.symm
        have := gl j hj
        rw [hb']
        exact labOf_row j hj (by omega) (by omega) this.2.2 ap
  · obtain rfl : N = 0 := by omega
    refine ⟨_, _, ⟨g1, rc, 0, wa, wc, 0, pa, pc, fun _ => .slice none 0 0⟩, labOf K 0 g1 0 0 G, rfl, rfl, rfl, rfl, rfl, fun c hc' => ?_, ?_⟩
    · rcases labOf_ne hc' with rfl | ⟨h, _⟩ | ⟨h, _⟩ | ⟨j, hj, _⟩
      · omega
      · omega
      · omega
      · omega
    · exact ⟨by unfold labOf; rw [if_pos rfl], hr, fun h => absurd h (by omega), fun h => absurd h (by omega), fun j hj => absurd hj (by omega), fun h => absurd h (by omega), fun h => absurd h (by omega), fun j hj => absurd hj (by omega), fun j hj => absurd hj (by omega), fun j hj => absurd hj (by omega), Nat.zero_le _⟩

theorem regs_news {w : World} {g : Nat} {r : Nat → Int} (h : RegsR w g r) : ∀ j u, ((List.range 10).map fun j => (Value.int .i64 (r j)))[j]? = some u → w.cell? ((⟨g, 0, none⟩ : Addr).add j) = some u := by
  intro j u hu
  have hj : j < 10 := by have := (List.getElem?_eq_some_iff.1 hu).1; simpa using this
  rw [Go.WideShapes.add_plain, Nat.zero_add]
  simp [hj] at hu
  rw [← hu]
  exact (h j hj).1
theorem map_one (n : Nat) (f : Nat → Int) : ∀ u ∈ (List.range n).map fun j => (Value.int .i64 (f j)), u.oneCell' = true := by
  intro u hu
  simp only [List.mem_map] at hu
  obtain ⟨i, _, rfl⟩ := hu
  rfl
theorem regs_of_own {w : World} {lo : Nat} {g : Nat} {c : Nat} {r : Nat → Int} (h : w.ownsRow lo 2 1 (.slice (some ⟨g, 0, none⟩) 10 c) 10 ((List.range 10).map fun j => .int .i64 (r j))) : RegsR w g r := fun j hj =>
  ⟨by rw [World.ownsRow.cellAt h j (by omega)]; simp [hj], World.ownsRow.frozenAt h j⟩

theorem grown_but {a c : World} (h : a.grownBy c none) (row : Option Nat) : a.grownBy c row := ⟨h.os, h.tape, h.output, h.size, fun i hi _ => h.block i hi (by simp)⟩
theorem grown_then {a b c : World} {row row' : Option Nat} (h : a.grownBy b row) (k : b.grownBy c row') (hr : ∀ j, row' = some j → a.heap.size ≤ j) : a.grownBy c row :=
  ⟨k.os.trans h.os, k.tape.trans h.tape, k.output.trans h.output, Nat.le_trans h.size k.size, fun i hi hne => (k.block i (Nat.lt_of_lt_of_le hi h.size) (fun e => by have := hr i e.symm; omega)).trans (h.block i hi hne)⟩
theorem words_news {w : World} {g N : Nat} {f : Nat → Int} (h : ∀ j, j < N → Wr w g j (.int .i64 (f j))) : ∀ j u, ((List.range N).map fun j => (Value.int .i64 (f j)))[j]? = some u → w.cell? ((⟨g, 0, none⟩ : Addr).add j) = some u := by
  intro j u hu
  have hj : j < N := by have := (List.getElem?_eq_some_iff.1 hu).1; simpa using this
  rw [Go.WideShapes.add_plain, Nat.zero_add]
  simp [hj] at hu
  rw [← hu]
  exact (h j hj).1
theorem row_news {w : World} {lo : Nat} {pv : Option Addr} {c : Nat} {l : List Int} (h : w.ownsRow lo 2 1 (.slice pv l.length c) l.length (ints l)) (h0 : 0 < l.length) : ∃ g, pv = some ⟨g, 0, none⟩ ∧ g < w.heap.size ∧ ∀ j u, (ints l)[j]? = some u → w.cell? ⟨g, j, none⟩ = some u := by
  obtain ⟨g, cap, e, _, hl⟩ := World.ownsRow.form h h0
  injection e with e1 _ e3
  subst e1 e3
  refine ⟨g, rfl, hl, fun j u hu => ?_⟩
  have hj : j < l.length := by have := (List.getElem?_eq_some_iff.1 hu).1; rw [ints_length] at this; exact this
  rw [World.ownsRow.cellAt h j (by omega)]
  exact hu
theorem CpAt.drew {w : World} {base : Nat} {m : Mem} {k : Nat} {v : Value} {G C : Nat → Nat} (h : CpAt w base m k v G C) : CpAt w.drew base m k v G C := ⟨h.own, h.row, h.apart, h.apart2⟩
theorem CpAt.kept {w w' : World} {base : Nat} {m : Mem} {k : Nat} {v : Value} {G C : Nat → Nat} (h : CpAt w base m k v G C) {b : Nat} (hg : w.grownBy w' (some b)) (hb : b < base) : CpAt w' base m k v G C :=
  ⟨World.ownsRow.kept h.own hg (by
    cases hv : v.ownBlock with
    | none => left; rfl
    | some c => right; intro e; have := (h.own.lt c hv).1; have := Option.some.inj e; omega), fun j hj => World.ownsRow.kept (h.row j hj) hg (by right; intro e; have := ((h.row j hj).lt _ rfl).1; have := Option.some.inj e; omega), h.apart, h.apart2⟩

set_option maxHeartbeats 2000000 in
theorem ref4_copy (w : World) (lo N K0 : Nat) (lab : Nat → Nat) (q : Pl) (a : PV) (h : PlL w lo N K0 lab q a) (hN : N ≤ 384) (hp : ∀ j, j < N → (q.past j).length ≤ 100000) (K : Nat) :
    Calls Try.prog 99 #[.agg #[a.regs, a.words N, a.past N, .int .i64 q.at_]] w fun e w' => ∃ a' lab', e = .returned (.agg #[a'.regs, a'.words N, a'.past N, .int .i64 q.at_]) ∧ More w w' ∧ (∀ c, lab' c ≠ 0 → w.heap.size ≤ c ∧ c < w'.heap.size) ∧ PlL w' w.heap.size N K lab' q a' := by
  obtain ⟨i0, hi, hz0, hz1, hz2⟩ := info_parts info2
  obtain ⟨i1, hi', hz0', hz1', hz2'⟩ := info_parts info43
  have Hi : Hid (Try.prog.info? 2 = some i0 ∧ i0.zero = some (.int .i64 0) ∧ i0.size = 1 ∧ i0.bytes = 8) := ⟨hi, hz0, hz1, hz2⟩
  have Hi' : Hid (Try.prog.info? 67 = some i1 ∧ i1.zero = some (.slice none 0 0) ∧ i1.size = 1 ∧ i1.bytes = 24) := ⟨hi', hz0', hz1', hz2'⟩
  have H : Hid (PlL w lo N K0 lab q a ∧ N ≤ 384 ∧ ∀ j, j < N → (q.past j).length ≤ 100000) := ⟨h, hN, hp⟩
  clear h hN hp hi hz0 hz1 hz2 hi' hz0' hz1' hz2'
  obtain ⟨rg, rc, wg, wa, wc, pg, pa, pc, P⟩ := a
  dsimp only [PV.regs, PV.words, PV.past]
  obtain ⟨at_, hat⟩ : ∃ n : Int, (q.at_ : Int) = n := ⟨_, rfl⟩
  rw [hat]
  clear hat
  have hrl : rg < w.heap.size := cell_block (H.out.1.regs 0 (by omega)).1
  have Hr : Hid (RegsR w rg q.r) := H.out.1.regs
  obtain ⟨W, HW⟩ : ∃ W : World, Hid (((w.alloc (.cells #[.slice (some ⟨rg, 0, none⟩) 10 rc, .slice wa N wc, .slice pa N pc, .int .i64 at_] 99)).alloc (.cells #[.slice none 0 0, .slice none 0 0, .slice none 0 0, .int .i64 0] 99)).alloc (.cells #[.slice none 0 0, .slice none 0 0, .slice none 0 0, .int .i64 at_] 99) = W) := ⟨_, rfl⟩
  have HM : Hid (More w W ∧ W.heap.size = w.heap.size + 3) := by rw [← HW.out]; exact ⟨(((More.refl _).alloc _ _).alloc _ _).alloc _ _, by simp⟩
  have HC : Hid ((Wr W w.heap.size 1 (.slice wa N wc) ∧ Wr W w.heap.size 2 (.slice pa N pc)) ∧ (Wr W (w.heap.size + 1) 0 (.slice none 0 0) ∧ Wr W (w.heap.size + 1) 1 (.slice none 0 0) ∧ Wr W (w.heap.size + 1) 2 (.slice none 0 0) ∧ Wr W (w.heap.size + 1) 3 (.int .i64 0)) ∧
      (Wr W (w.heap.size + 2) 0 (.slice none 0 0) ∧ Wr W (w.heap.size + 2) 1 (.slice none 0 0) ∧ Wr W (w.heap.size + 2) 2 (.slice none 0 0) ∧ Wr W (w.heap.size + 2) 3 (.int .i64 at_))) := by
    rw [← HW.out]
    exact ⟨⟨⟨by go_simp, by go_simp⟩, ⟨by go_simp, by go_simp⟩⟩, ⟨⟨by go_simp, by go_simp⟩, ⟨by go_simp, by go_simp⟩, ⟨by go_simp, by go_simp⟩, ⟨by go_simp, by go_simp⟩⟩, ⟨⟨by go_simp, by go_simp⟩, ⟨by go_simp, by go_simp⟩, ⟨by go_simp, by go_simp⟩, ⟨by go_simp, by go_simp⟩⟩⟩
  go_enter Try.func99, Try.ntmps99
  go_wp2_with (first
    | (at_builtin; refine wpList_append_any _ rfl (.tmp 9) (.tmp 11) 67 rfl w.heap.size 2 i0 (.int .i64 0) 1 8 Try.underlying67 Hi.out.1 Hi.out.2.1 Hi.out.2.2.1 Hi.out.2.2.2 rfl (by decide) (.slice none 0 0) 0 [] rfl (World.ownsRow_nil _ _ _ _) (some ⟨rg, 0, none⟩) 10 rc ((List.range 10).map fun j => .int .i64 (q.r j)) rfl (by simp) (fun _ => ⟨_, rfl, regs_news (by repeat (first | exact Hr.out | apply RegsR.alloc))⟩) (map_one _ _) (by unfold maxLen; omega) (by omega) (by simp; omega) ?_; rw [HW.out]; intro va1 c1 w2 own1 gr1 at1 nn1; obtain ⟨⟨⟨x1, _⟩, _⟩, _, ⟨y0, y0'⟩, ⟨y1, y1'⟩, _⟩ := HC.out; replace x1 := gr1.cell x1 (by simp [Value.ownBlock]); replace y0 := (Wr.kept gr1 ⟨y0, y0'⟩ (by simp [Value.ownBlock])); obtain ⟨y0, y0'⟩ := y0; replace y1 := (Wr.kept gr1 ⟨y1, y1'⟩ (by simp [Value.ownBlock])); obtain ⟨y1, y1'⟩ := y1; have H1 := hid_of' (And.intro own1 (And.intro gr1 at1)); clear own1 gr1 at1 nn1)
    | (at_builtin; go_loud (refine wpList_append_any _ rfl (.tmp 15) (.tmp 17) 67 rfl w.heap.size 2 i0 (.int .i64 0) 1 8 Try.underlying67 Hi.out.1 Hi.out.2.1 Hi.out.2.2.1 Hi.out.2.2.2 rfl (by decide) (.slice none 0 0) 0 [] rfl (World.ownsRow_nil _ _ _ _) wa N wc ((List.range N).map fun j => .int .i64 (q.wd j)) rfl (by simp) (fun h0 => ⟨⟨wg, 0, none⟩, H.out.1.wa h0, words_news (fun j hj => (((H.out.1.words j hj).kept (HM.out.1.grow none) (by simp)).kept H1.out.2.1 (by simp [Value.ownBlock])).other (w.heap.size + 1 + 1) 0 _ (.inl (by have := cell_block (H.out.1.words j hj).1; dsimp only at this ⊢; omega)))⟩) (map_one _ _) (by have := H.out.2.1; unfold maxLen; omega) (by have := H.out.2.1; omega) (by have h1 := H1.out.2.1.size; have h2 := HM.out.2; simp; omega) ?_; intro va2 c2 w3 own2 gr2 at2 nn2; have z1 := Wr.kept gr2 (Wr.other ⟨y1, y1'⟩ (w.heap.size + 2) 0 (.slice va1 10 c1) (by omega)) (by simp [Value.ownBlock]); obtain ⟨z1, z1'⟩ := z1; have H2 := hid_of' (And.intro own2 (And.intro gr2 at2)); clear own2 gr2 at2 nn2)))
  obtain ⟨WL, hWL⟩ : ∃ WL, w3.setCell ⟨w.heap.size + 1 + 1, 1, none⟩ (.slice va2 N c2) = WL := ⟨_, rfl⟩
  rw [hWL]
  have HL : Hid ((W.grownBy WL (some (w.heap.size + 2)) ∧ w.heap.size + 3 ≤ WL.heap.size) ∧ (Wr WL (w.heap.size + 2) 0 (.slice va1 10 c1) ∧ Wr WL (w.heap.size + 2) 1 (.slice va2 N c2) ∧ Wr WL (w.heap.size + 2) 2 (.slice none 0 0) ∧ Wr WL (w.heap.size + 2) 3 (.int .i64 at_)) ∧
      WL.ownsRow w.heap.size 2 1 (.slice va1 10 c1) 10 ((List.range 10).map fun j => .int .i64 (q.r j)) ∧ WL.ownsRow w.heap.size 2 1 (.slice va2 N c2) N ((List.range N).map fun j => .int .i64 (q.wd j)) ∧
      (∀ b, (Value.slice va1 10 c1).ownBlock = some b → b = w.heap.size + 3 ∧ b < WL.heap.size) ∧ (∀ b, (Value.slice va2 N c2).ownBlock = some b → w.heap.size + 3 < b ∧ b < WL.heap.size)) := by
    obtain ⟨own1, gr1, at1⟩ := H1.out
    obtain ⟨own2, gr2, at2⟩ := H2.out
    obtain ⟨hm, hs⟩ := HM.out
    simp only [Nat.zero_add, List.nil_append] at own1 own2 at1 at2 gr1 gr2
    have g1 : W.grownBy w2 (some (w.heap.size + 2)) := grown_but gr1 _
    have g2 := grown_set w2 (w.heap.size + 1 + 1) 0 (.slice va1 10 c1)
    have g3 := grown_but gr2 (some (w.heap.size + 2))
    have g4 := grown_set w3 (w.heap.size + 1 + 1) 1 (.slice va2 N c2)
    rw [hWL] at g4
    have hs1 := gr1.size
    have hs2 := g2.size
    have hs3 := gr2.size
    have hs4 := g4.size
    have hgb : WL.heap.size = w3.heap.size := by rw [← hWL]; simp
    have b1 : ∀ b, (Value.slice va1 10 c1).ownBlock = some b → b = w.heap.size + 3 := fun b hb => by
      rcases at1 b hb with h | h
      · simp [Value.ownBlock] at h
      · omega
    have l1 : ∀ b, (Value.slice va1 10 c1).ownBlock = some b → b < w2.heap.size := fun b hb => (World.ownsRow.lt own1 b hb).2
    have b2 : ∀ b, (Value.slice va2 N c2).ownBlock = some b → b = w2.heap.size := fun b hb => by
      rcases at2 b hb with h | h
      · simp [Value.ownBlock] at h
      · simpa using h
    have l2 : ∀ b, (Value.slice va2 N c2).ownBlock = some b → b < w3.heap.size := fun b hb => (World.ownsRow.lt own2 b hb).2
    obtain ⟨gg1, cc1, e1, _⟩ := World.ownsRow.form own1 (by omega)
    have e1' := b1 gg1 (by rw [e1]; rfl)
    have e1'' := l1 gg1 (by rw [e1]; rfl)
    obtain ⟨y0, y1, y2, y3⟩ := HC.out.2.2
    have k : ∀ o v, Wr W (w.heap.size + 2) o v → Wr w2 (w.heap.size + 2) o v := fun o v h => h.kept gr1 (by simp [Value.ownBlock])
    have k3 : ∀ o v, Wr (w2.setCell ⟨w.heap.size + 1 + 1, 0, none⟩ (.slice va1 10 c1)) (w.heap.size + 2) o v → Wr w3 (w.heap.size + 2) o v := fun o v h => h.kept gr2 (by simp [Value.ownBlock])
    refine ⟨⟨grown_trans (grown_trans (grown_trans g1 g2) g3) g4, by omega⟩, ⟨?_, ?_, ?_, ?_⟩, ?_, ?_, fun b hb => ⟨b1 b hb, by have := l1 b hb; omega⟩, fun b hb => ⟨by have := b2 b hb; omega, by have := l2 b hb; omega⟩⟩
    · rw [← hWL]; exact (k3 _ _ ((k _ _ y0).same _)).other _ _ _ (by omega)
    · rw [← hWL]; exact (k3 _ _ ((k _ _ y1).other _ _ _ (by omega))).same _
    · rw [← hWL]; exact (k3 _ _ ((k _ _ y2).other _ _ _ (by omega))).other _ _ _ (by omega)
    · rw [← hWL]; exact (k3 _ _ ((k _ _ y3).other _ _ _ (by omega))).other _ _ _ (by omega)
    · refine World.ownsRow.kept (World.ownsRow.kept (World.ownsRow.kept own1 g2 ?_) gr2 ?_) g4 ?_
      · right; rw [e1]; simp [Value.ownBlock]; omega
      · right; rw [e1]; simp [Value.ownBlock]
      · right; rw [e1]; simp [Value.ownBlock]; omega
    · refine World.ownsRow.kept own2 g4 ?_
      cases hv : (Value.slice va2 N c2).ownBlock with
      | none => left; rfl
      | some b => right; have := b2 b hv; simp; omega
  clear hWL H1 H2 x1 y0 y0' y1 y1' z1 z1'
  go_wp2
  go_loopg [4] N (fun g i wr => ∃ (k : Nat) (v : Value) (G C : Nat → Nat), k + g = N ∧ i = .int .i64 k ∧ CpAt wr WL.heap.size (pastM q N) k v G C ∧ WL.grownBy wr (some (w.heap.size + 2)) ∧ Wr wr (w.heap.size + 2) 0 (.slice va1 10 c1) ∧ Wr wr (w.heap.size + 2) 1 (.slice va2 N c2) ∧ Wr wr (w.heap.size + 2) 2 v ∧ Wr wr (w.heap.size + 2) 3 (.int .i64 at_))
  case atStart => exact ⟨0, _, _, _, by omega, rfl, CpAt.start _ _ _, grown_refl _ _, HL.out.2.1⟩
  case round =>
    obtain ⟨k, v, G, C, hkg, rfl, hc, hg, hw0, hw1, hw2, hw3⟩ := hrel
    obtain ⟨xa, xc, rfl⟩ := own_form hc.own
    have Hm := hid_of' (And.intro hc (And.intro hg (And.intro hw0 (And.intro hw1 (And.intro hw2 hw3)))))
    clear hc hg hw0 hw1 hw2 hw3
    have xp : wr.cell? ⟨w.heap.size, 2, none⟩ = some (.slice pa N pc) := Hm.out.2.1.cell (HL.out.1.1.cell HC.out.1.2.1 (by simp)) (by simp)
    cases gk with
    | zero =>
      obtain rfl : k = N := by omega
      obtain ⟨_, _, ⟨q0, _⟩, ⟨q1, _⟩, ⟨q2, _⟩, ⟨q3, _⟩⟩ := Hm.out
      have KR : ∀ o u, Wr W (w.heap.size + 1) o u → Wr wr (w.heap.size + 1) o u := fun o u h => (h.kept HL.out.1.1 (by simp)).kept Hm.out.2.1 (by simp)
      obtain ⟨⟨r0, r0'⟩, ⟨r1, r1'⟩, ⟨r2, r2'⟩, ⟨r3, r3'⟩⟩ : Wr wr (w.heap.size + 1) 0 _ ∧ Wr wr (w.heap.size + 1) 1 _ ∧ Wr wr (w.heap.size + 1) 2 _ ∧ Wr wr (w.heap.size + 1) 3 _ := ⟨KR _ _ HC.out.2.1.1, KR _ _ HC.out.2.1.2.1, KR _ _ HC.out.2.1.2.2.1, KR _ _ HC.out.2.1.2.2.2⟩
      clear KR
      go_wp2
      try simp only [Exit.inBlock, Exit.then]
      refine bodyPost_ret (v := .agg #[.slice va1 10 c1, .slice va2 k c2, .slice xa k xc, .int .i64 at_]) (by simp [results, Try.results99, go_sem, *]) rfl ?_
      have hgf := gr_set (gr_set (gr_set (gr_set (grown_refl wr (some (w.heap.size + 1))) 0 (.slice va1 10 c1)) 1 (.slice va2 k c2)) 2 (.slice xa k xc)) 3 (.int .i64 at_)
      obtain ⟨hc, hg, _⟩ := Hm.out
      obtain ⟨⟨gw, hs⟩, _, o1, o2, b1, b2⟩ := HL.out
      obtain ⟨g1, cc1, e1, _⟩ := World.ownsRow.form o1 (by omega)
      injection e1 with e1a _ e1c
      subst e1a e1c
      have hb1 := b1 g1 rfl
      have o1' := World.ownsRow.kept (World.ownsRow.kept o1 hg (.inr (by simp [Value.ownBlock]; omega))) hgf (.inr (by simp [Value.ownBlock]; omega))
      have o2' := World.ownsRow.kept (World.ownsRow.kept o2 hg (by
        cases hv : (Value.slice va2 k c2).ownBlock with
        | none => left; rfl
        | some b => right; have := b2 b hv; simp; omega)) hgf (by
        cases hv : (Value.slice va2 k c2).ownBlock with
        | none => left; rfl
        | some b => right; have := b2 b hv; simp; omega)
      have hm : More w wr := (HM.out.1.grownBy gw (fun b hb => by have := Option.some.inj hb; omega)).grownBy hg (fun b hb => by have := Option.some.inj hb; omega)
      have hm' := hm.grownBy hgf (fun b hb => by have := Option.some.inj hb; omega)
      obtain ⟨pa', pc', a', lab', _, _, e2, e3, e4, hl, hpl⟩ := pl_copied (rc := c1) (s0 := WL.heap.size) (by omega) hb1.2 (Nat.le_trans hg.size hgf.size) (regs_of_own o1') o2' (fun b hb => ⟨(b2 b hb).2, by have := (b2 b hb).1; omega⟩) (hc.kept hgf (by omega)) (by omega) K
      exact ⟨a', lab', by rw [show Value.slice (some ⟨a'.rg, 0, none⟩) 10 a'.rc = a'.regs from rfl, e2, show Value.slice a'.wa k a'.wc = a'.words k from rfl, e3, show Value.slice a'.pa k a'.pc = a'.past k from rfl, e4], hm', hl, hpl⟩
    | succ g =>
      have hk : k < N := by omega
      have hk' : (k : Int) < (N : Int) := by omega
      have hk0 : (0 : Int) ≤ (k : Int) := by omega
      have h0 : 0 < N := by omega
      have hpa : pa = some ⟨pg, 0, none⟩ := H.out.1.pa h0
      subst hpa
      have hpg : pg < w.heap.size := cell_block (H.out.1.past k hk).1
      obtain ⟨pv, pcap, hP⟩ := own_form (H.out.1.rows k hk)
      have xr : wr.cell? ⟨pg, k, none⟩ = some (.slice pv (q.past k).length pcap) := by
        rw [← hP]
        exact Hm.out.2.1.cell (HL.out.1.1.cell (HM.out.1.cell (H.out.1.past k hk).1) (by simp; omega)) (by simp; omega)
      have xv : wr.cell? ⟨w.heap.size + 2, 2, none⟩ = some (.slice xa k xc) := Hm.out.2.2.2.2.1.1
      obtain ⟨S, HS⟩ : ∃ S : World → Prop, Hid (∀ w', S w' ↔ (w'.cell? ⟨w.heap.size, 2, none⟩ = some (.slice (some ⟨pg, 0, none⟩) N pc) ∧ w'.cell? ⟨pg, k, none⟩ = some (.slice pv (q.past k).length pcap) ∧ w'.cell? ⟨w.heap.size + 2, 2, none⟩ = some (.slice xa k xc))) := ⟨_, fun _ => Iff.rfl⟩
      have j1 : ∀ i : { w' // S w' }, i.val.cell? ⟨w.heap.size, 2, none⟩ = some (.slice (some ⟨pg, 0, none⟩) N pc) := fun i => ((HS.out _).1 i.property).1
      have j2 : ∀ i : { w' // S w' }, i.val.cell? ⟨pg, k, none⟩ = some (.slice pv (q.past k).length pcap) := fun i => ((HS.out _).1 i.property).2.1
      have j3 : ∀ i : { w' // S w' }, i.val.cell? ⟨w.heap.size + 2, 2, none⟩ = some (.slice xa k xc) := fun i => ((HS.out _).1 i.property).2.2
      have hS : S wr.drew := (HS.out _).2 ⟨xp, xr, xv⟩
      have hne : Nonempty { w' // S w' } := ⟨⟨_, hS⟩⟩
      go_wp2_with (fail)
      refine wp_region_last (S := S) [(0, true), (1, true), (3, true), (4, true), (5, true), (6, true), (7, true), (2, false), (8, false), (9, false), (10, false), (11, true), (12, false)] (by kernel_rfl) (by kernel_rfl) (by kernel_rfl) hS ?_
      iterate 7 (refine wpOrdL_take rfl (by kernel_rfl) (fun K hK => ?_); go_simp; refine hK _ _ ?_; clear hK K)
      clear j1 j2 j3
      have HX := hid_of' (And.intro hS (And.intro xp (And.intro xr xv)))
      have Hk := hid_of' hk
      have Hpg := hid_of' (And.intro hpg hP)
      obtain ⟨ln, hln⟩ : ∃ n, (q.past k).length = n := ⟨_, rfl⟩
      have Hln : Hid ((q.past k).length = ln ∧ ln ≤ 100000) := ⟨hln, by rw [← hln]; exact H.out.2.2 k hk⟩
      rw [hln]
      rw [hln] at xr
      have hwsz : WL.heap.size ≤ wr.heap.size := Hm.out.2.1.size
      have hsz := HL.out.1.2
      have Hown1 : Hid ((wr.alloc (.cells #[] 2)).drew.ownsRow WL.heap.size 2 1 (.slice (some ⟨wr.heap.size, 0, none⟩) 0 0) 0 []) := World.ownsRow_made wr #[] 0 hwsz (by unfold maxLen; omega) rfl
      have Hnews : Hid (0 < ln → ∃ ad', pv = some ad' ∧ ∀ j u, (ints (q.past k))[j]? = some u → (wr.alloc (.cells #[] 2)).drew.cell? (ad'.add j) = some u) := by
        intro h0
        have hrow := H.out.1.rows k hk
        rw [show (PV.P _ k) = _ from hP] at hrow
        obtain ⟨g', hpv, hgl, hcs⟩ := row_news hrow (by rw [hln]; exact h0)
        refine ⟨_, hpv, fun j u hu => ?_⟩
        rw [Go.WideShapes.add_plain, Nat.zero_add]
        exact ((More.refl wr).alloc _ _).drew.cell (Hm.out.2.1.cell (HL.out.1.1.cell (HM.out.1.cell (hcs j u hu)) (by simp; omega)) (by simp; omega))
      clear hS xp xr xv hP hln
      refine wpOrdL_busy rfl (by kernel_rfl) (fun K hK => ?_)
      go_simp
      refine hK _ _ ((HS.out _).2 ?_) ?_
      · obtain ⟨_, x1, x2, x3⟩ := HX.out
        exact ⟨((More.refl wr).alloc _ _).drew.cell x1, ((More.refl wr).alloc _ _).drew.cell x2, ((More.refl wr).alloc _ _).drew.cell x3⟩
      clear hK K
      refine wpOrdL_busy rfl (by kernel_rfl) (fun K hK => ?_)
      refine wp_append_any _ (.tmp 29) (.tmp 34) 67 rfl WL.heap.size 2 i0 (.int .i64 0) 1 8 Try.underlying67 Hi.out.1 Hi.out.2.1 Hi.out.2.2.1 Hi.out.2.2.2 rfl (by decide) (.slice (some ⟨wr.heap.size, 0, none⟩) 0 0) 0 [] rfl Hown1.out pv ln pcap (ints (q.past k)) rfl (by rw [ints_length, Hln.out.1, Nat.mul_one]) Hnews.out (ints_one _) (by have := Hln.out.2; unfold maxLen; omega) (by have := Hln.out.2; omega) (by simp; omega) ?_
      intro vb cb w4 own4 gr4 at4 nn4
      obtain ⟨ga, rfl⟩ : ∃ ga, vb = some ga := Option.ne_none_iff_exists'.1 (nn4 (by simp [Value.ownBlock]))
      have gad : ga = ⟨ga.block, 0, none⟩ := by
        rcases own4.2 with ⟨h, _⟩ | ⟨g', _, _, h, _⟩
        · cases h
        · injection h with h1 _ _
          rw [Option.some.inj h1]
      obtain ⟨gb, hgb⟩ : ∃ b, ga.block = b := ⟨_, rfl⟩
      rw [hgb] at gad
      subst gad
      clear hgb
      simp only [Nat.zero_add, List.nil_append] at own4 at4 ⊢
      have hgl : wr.heap.size ≤ gb := by
        rcases at4 gb rfl with h | h
        · have := Option.some.inj h; dsimp only at this; omega
        · rw [h]; simp
      have gr4' : (wr.alloc (.cells #[] 2)).grownBy w4 (some wr.heap.size) := ⟨gr4.os, gr4.tape, gr4.output, gr4.size, gr4.block⟩
      have hs4 : wr.heap.size + 1 ≤ w4.heap.size := by have := gr4'.size; simpa using this
      have H4 := hid_of' (And.intro own4 (And.intro gr4' (And.intro hgl hs4)))
      refine hK _ _ ((HS.out _).2 ?_) ?_
      · obtain ⟨_, x1, x2, x3⟩ := HX.out
        have lx1 := cell_block x1
        have lx2 := cell_block x2
        have lx3 := cell_block x3
        dsimp only at lx1 lx2 lx3
        exact ⟨gr4'.cell (((More.refl wr).alloc _ _).cell x1) (by simp; omega), gr4'.cell (((More.refl wr).alloc _ _).cell x2) (by simp; omega), gr4'.cell (((More.refl wr).alloc _ _).cell x3) (by simp; omega)⟩
      clear hK K own4 at4 gr4 gr4' nn4 hgl hs4
      refine wpOrdL_busy rfl (by kernel_rfl) (fun K hK => ?_)
      go_simp
      refine hK _ _ ((HS.out _).2 ?_) ?_
      · obtain ⟨_, x1, x2, x3⟩ := HX.out
        have lx1 := cell_block x1
        have lx2 := cell_block x2
        have lx3 := cell_block x3
        dsimp only at lx1 lx2 lx3
        have gr4' := H4.out.2.1
        exact ⟨((More.refl w4).alloc _ _).cell (gr4'.cell (((More.refl wr).alloc _ _).cell x1) (by simp; omega)), ((More.refl w4).alloc _ _).cell (gr4'.cell (((More.refl wr).alloc _ _).cell x2) (by simp; omega)), ((More.refl w4).alloc _ _).cell (gr4'.cell (((More.refl wr).alloc _ _).cell x3) (by simp; omega))⟩
      clear hK K
      have Hlen : Hid ((pastM q N).len k = ln) := Hln.out.1
      have Hs4 := hid_of' H4.out.2.2.2
      refine wpOrdL_busy rfl (by kernel_rfl) (fun K hK => ?_)
      refine wp_append_lies _ (.tmp 28) (.tmp 36) 30 rfl WL.heap.size 67 i1 (.slice none 0 0) 1 24 Try.underlying30 Hi'.out.1 Hi'.out.2.1 Hi'.out.2.2.1 Hi'.out.2.2.2 rfl (by decide) (.slice xa k xc) k ((List.range k).map fun j => .slice (some ⟨G j, 0, none⟩) ((pastM q N).len j) (C j)) rfl (Hm.out.1.own3 _ _ H4.out.2.1) ⟨w4.heap.size, 0, none⟩ 1 1 [.slice (some ⟨gb, 0, none⟩) ln cb] rfl rfl (cell_one_new _ _ _) (fun x hx => by simp at hx; subst hx; rfl) (by decide) (by have := H.out.2.1; have := Hk.out; unfold maxLen; omega) (by have := H.out.2.1; have := Hk.out; omega) (by have := Hs4.out; simp; omega) (w4.heap.size + 1) (by simp) ?_
      intro g2 cap2 w5 own5 gr5 at5 lt5
      have hc5 := Hm.out.1.step (.cells #[] 2) (.cells #[.slice (some ⟨gb, 0, none⟩) ln cb] 67) gb cb g2 cap2 (by rw [Hlen.out, pastM_words]; exact H4.out.1) H4.out.2.1 H4.out.2.2.1 (by rw [Hlen.out]; exact own5) gr5 at5
      have hvb : ∀ b, (Value.slice xa k xc).ownBlock = some b → WL.heap.size ≤ b := fun b hb => (Hm.out.1.own.lt b hb).1
      have kp5 : ∀ b, b < WL.heap.size → some b ≠ (Value.slice xa k xc).ownBlock := fun b hb e => by have := hvb b e.symm; omega
      have kw : ∀ o u, Wr wr (w.heap.size + 2) o u → Wr w5 (w.heap.size + 2) o u := fun o u h => ((h.kept (World.grownBy_alloc wr _ none) (by simp)).kept H4.out.2.1 (by simp; omega)).kept (World.grownBy_alloc w4 _ none) (by simp) |>.kept gr5 (kp5 _ (by omega))
      have g05 : WL.grownBy w5 (some (w.heap.size + 2)) := grown_then (grown_then (grown_then (grown_then Hm.out.2.1 (World.grownBy_alloc wr _ none) (fun j h => by cases h)) H4.out.2.1 (fun j h => by have := Option.some.inj h; omega)) (World.grownBy_alloc w4 _ none) (fun j h => by cases h)) gr5 hvb
      obtain ⟨_, _, m0, m1, m2, m3⟩ := Hm.out
      have H5 := hid_of' (And.intro hc5 (And.intro g05 (And.intro (kw _ _ m0) (And.intro (kw _ _ m1) (And.intro (kw _ _ m2) (kw _ _ m3))))))
      have c2' := (kw _ _ m2).1
      have f2' := (kw _ _ m2).2
      refine hK _ _ ((HS.out _).2 ?_) ?_
      · obtain ⟨_, x1, x2, x3⟩ := HX.out
        have lx1 := cell_block x1
        have lx2 := cell_block x2
        have lx3 := cell_block x3
        dsimp only at lx1 lx2 lx3
        have gr4' := H4.out.2.1
        exact ⟨gr5.cell (((More.refl w4).alloc _ _).cell (gr4'.cell (((More.refl wr).alloc _ _).cell x1) (by simp; omega))) (kp5 _ (by dsimp only; omega)), gr5.cell (((More.refl w4).alloc _ _).cell (gr4'.cell (((More.refl wr).alloc _ _).cell x2) (by simp; omega))) (kp5 _ (by have := Hpg.out.1; dsimp only; omega)), c2'⟩
      clear hK K own5 gr5 at5 lt5 hc5 hvb kp5 kw g05 m0 m1 m2 m3
      refine wpOrdL_take rfl (by kernel_rfl) (fun K hK => ?_); go_simp; refine hK _ _ ?_; clear hK K
      refine wpOrdL_last rfl (by kernel_rfl) (by kernel_rfl) (fun K hK => ?_)
      go_simp
      refine hK _ _ ?_
      clear hK K hne
      refine NoPanic.normal ?_
      have hk63 : wrap64 ((k : Int) + 1) = (k : Int) + 1 := by have := H.out.2.1; unfold wrap64; omega
      have hwr := wrapEq
      go_wp2
      go_roundg g
      case measure => omega
      case rel =>
        obtain ⟨hc5, g05, m0, m1, m2, m3⟩ := H5.out
        have hgs := grown_set w5 (w.heap.size + 2) 2 (.slice (some ⟨g2, 0, none⟩) (k + 1) cap2)
        exact ⟨k + 1, _, _, _, by omega, by first | rfl | (push_cast; rfl), hc5.kept hgs (by omega), grown_trans g05 hgs, m0.other _ _ _ (by omega), m1.other _ _ _ (by omega), m2.same _, m3.other _ _ _ (by omega)⟩
end Go.Proofs.Ytbfhchhggkpbdaa

/-
  Where a run of reference 4 lies in memory, and how it stays so under what its methods do. No Go text in sight.
-/
namespace Go.Proofs.Ytbfhchhggkpbdaa
open Go.RowKit
set_option linter.unusedVariables false
set_option linter.unusedSimpArgs false

/-- What a run has beside its state: the program's regions and code, the memory told, how it ended, the value, the steps. -/
structure Ys where
  rv : Value
  cv : Value
  mv : Value
  e : Int
  v : Int
  k : Int
/-- Where it lies: what was seen, the script, the place to come back to, the blocks of both places, labels. -/
structure Zs where
  sv : Value
  sc : Value
  b0 : Value
  b1 : Value
  b2 : Value
  b3 : Value
  a : PV
  b : PV
  lab : Nat → Nat

def gV (N : Nat) (y : Ys) (s : Sp) (z : Zs) : Nat → Value
  | 0 => z.a.regs
  | 1 => z.a.words N
  | 2 => z.a.past N
  | 3 => .int .i64 s.pl.at_
  | 4 => y.rv
  | 5 => y.cv
  | 6 => .int .i64 y.e
  | 7 => .int .i64 y.v
  | 8 => .int .i64 y.k
  | 9 => z.sv
  | 10 => y.mv
  | 11 => z.sc
  | 12 => .bool s.ahead
  | 13 => .int .i64 s.since
  | 14 => z.b0
  | 15 => z.b1
  | 16 => z.b2
  | _ => z.b3

/-- What lies behind the run's own block. -/
structure Rest (w : World) (G N : Nat) (s : Sp) (mo : List (Nat × Obj)) (z : Zs) : Prop where
  lt : G < w.heap.size
  lab : ∀ c, z.lab c ≠ 0 → G < c ∧ c < w.heap.size
  cur : PlL w (G + 1) N 0 z.lab s.pl z.a
  back : s.ahead = true → PlL w (G + 1) N 1000 z.lab s.back z.b ∧ z.b0 = z.b.regs ∧ z.b1 = z.b.words N ∧ z.b2 = z.b.past N ∧ z.b3 = .int .i64 s.back.at_
  seen : SeenOwn w (G + 1) z.sv s.seen
  lseen : ∀ b, z.sv.ownBlock = some b → z.lab b = 5000
  sc : ScAt w G z.sc s.script
  box : ∀ p ∈ mo, G < p.1 ∧ z.lab p.1 = 0 ∧ w.heap[p.1]? = some p.2
structure RS (w : World) (G N : Nat) (y : Ys) (s : Sp) (mo : List (Nat × Obj)) (z : Zs) : Prop where
  cells : ∀ j, j < 18 → Wr w G j (gV N y s z j)
  rest : Rest w G N s mo z
/-- A run of reference 4 at G. -/
structure R4 (w : World) (G N : Nat) (y : Ys) (s : Sp) (mo : List (Nat × Obj)) : Prop where
  out : N ≤ 384 ∧ ∃ z, RS w G N y s mo z

section
variable {w w' : World} {G N : Nat} {y : Ys} {s : Sp} {mo : List (Nat × Obj)} {z : Zs}

/-- What is written is no block of either place, nor what was seen: the rest stays. -/
theorem Rest.kept (h : Rest w G N s mo z) (hN : N ≤ 384) {row : Option Nat} (hg : w.grownBy w' row) (hr : ∀ b, row = some b → z.lab b = 0 ∧ G ≤ b ∧ ∀ p ∈ mo, p.1 ≠ b) : Rest w' G N s mo z := by
  have hz : ∀ K b, row = some b → ¬ InR K (z.lab b) := fun K b hb => by rw [(hr b hb).1]; unfold InR; omega
  refine ⟨Nat.lt_of_lt_of_le h.lt hg.size, fun c hc => ⟨(h.lab c hc).1, Nat.lt_of_lt_of_le (h.lab c hc).2 hg.size⟩, h.cur.kept hN hg (hz 0), fun ha => ⟨(h.back ha).1.kept hN hg (hz 1000), (h.back ha).2⟩, ?_, h.lseen, ?_, fun p hp => ?_⟩
  · refine World.ownsRow.kept h.seen hg ?_
    cases hv : z.sv.ownBlock with
    | none => left; rfl
    | some b => right; intro e; have := (hr b e.symm).1; have := h.lseen b hv; omega
  · refine h.sc.below (Below.grown (Below.refl _ _) hg (Nat.le_of_lt h.lt) (fun b hb => (hr b hb).2.1))
  · obtain ⟨h1, h2, h3⟩ := h.box p hp
    exact ⟨h1, h2, by rw [hg.block p.1 (heap_some_lt h3) (fun e => (hr p.1 e.symm).2.2 p hp rfl)]; exact h3⟩
theorem Rest.own (h : Rest w G N s mo z) (b : Nat) (hb : some G = some b) : z.lab b = 0 ∧ G ≤ b ∧ ∀ p ∈ mo, p.1 ≠ b := by
  obtain rfl := Option.some.inj hb
  refine ⟨?_, Nat.le_refl _, fun p hp e => ?_⟩
  · cases hc : z.lab G with
    | zero => rfl
    | succ n => have := (h.lab G (by rw [hc]; omega)).1; omega
  · have := (h.box p hp).1; omega
theorem RS.kept (h : RS w G N y s mo z) (hN : N ≤ 384) {row : Option Nat} (hg : w.grownBy w' row) (hr : ∀ b, row = some b → z.lab b = 0 ∧ G < b ∧ ∀ p ∈ mo, p.1 ≠ b) : RS w' G N y s mo z :=
  ⟨fun j hj => (h.cells j hj).kept hg (fun e => by have := (hr G e.symm).2.1; omega), h.rest.kept hN hg (fun b hb => ⟨(hr b hb).1, Nat.le_of_lt (hr b hb).2.1, (hr b hb).2.2⟩)⟩
/-- A store into the run's own block. -/
theorem RS.put (h : RS w G N y s mo z) (hN : N ≤ 384) (j : Nat) (v : Value) {y' : Ys} {s' : Sp} {z' : Zs} (hj : j < 18) (hc : ∀ i, i < 18 → gV N y' s' z' i = if i = j then v else gV N y s z i) (hr : ∀ w', Rest w' G N s mo z → Rest w' G N s' mo z') :
    RS (w.setCell ⟨G, j, none⟩ v) G N y' s' mo z' := by
  refine ⟨fun i hi => ?_, hr _ (h.rest.kept hN (grown_set w G j v) h.rest.own)⟩
  rw [hc i hi]
  by_cases e : i = j
  · subst e; rw [if_pos rfl]; exact (h.cells i hi).same _
  · rw [if_neg e]; exact (h.cells i hi).other _ _ _ (by omega)

theorem R4.lt (h : R4 w G N y s mo) : G < w.heap.size := by obtain ⟨_, z, hz⟩ := h.out; exact hz.rest.lt
theorem R4.more (h : R4 w G N y s mo) (m : More w w') : R4 w' G N y s mo := by
  obtain ⟨hN, z, hz⟩ := h.out
  exact ⟨hN, z, hz.kept hN (m.grow none) (fun b hb => by cases hb)⟩
theorem R4.drew (h : R4 w G N y s mo) : R4 w.drew G N y s mo := h.more (More.refl _).drew
theorem R4.fewer (h : R4 w G N y s mo) (l : List (Nat × Obj)) (hl : ∀ p ∈ l, p ∈ mo) : R4 w G N y s l := by
  obtain ⟨hN, z, hz⟩ := h.out
  exact ⟨hN, z, hz.cells, hz.rest.lt, hz.rest.lab, hz.rest.cur, hz.rest.back, hz.rest.seen, hz.rest.lseen, hz.rest.sc, fun p hp => hz.rest.box p (hl p hp)⟩
theorem R4.left (h : R4 w G N y s mo) {p : Nat × Obj} (hp : p ∈ mo) : w.heap[p.1]? = some p.2 := by obtain ⟨hN, z, hz⟩ := h.out; exact (hz.rest.box p hp).2.2
theorem R4.beside (h : R4 w G N y s mo) (o : Obj) : R4 (w.alloc o) G N y s ((w.heap.size, o) :: mo) := by
  obtain ⟨hN, z, hz⟩ := h.out
  have h1 := hz.kept hN (World.grownBy_alloc w o none) (fun b hb => by cases hb)
  refine ⟨hN, z, h1.cells, h1.rest.lt, h1.rest.lab, h1.rest.cur, h1.rest.back, h1.rest.seen, h1.rest.lseen, h1.rest.sc, fun p hp => ?_⟩
  rcases List.mem_cons.1 hp with rfl | hp
  · refine ⟨hz.rest.lt, ?_, heap_alloc_last w o⟩
    cases hc : z.lab w.heap.size with
    | zero => rfl
    | succ n => have := (hz.rest.lab w.heap.size (by rw [hc]; omega)).2; omega
  · exact h1.rest.box p hp

/-! Stores into single fields. -/
theorem lt18 {P : Nat → Prop} (h0 : P 0) (h1 : P 1) (h2 : P 2) (h3 : P 3) (h4 : P 4) (h5 : P 5) (h6 : P 6) (h7 : P 7) (h8 : P 8) (h9 : P 9) (h10 : P 10) (h11 : P 11) (h12 : P 12) (h13 : P 13) (h14 : P 14) (h15 : P 15) (h16 : P 16) (h17 : P 17) : ∀ i, i < 18 → P i := by
  intro i hi
  have hi' : i = 0 ∨ i = 1 ∨ i = 2 ∨ i = 3 ∨ i = 4 ∨ i = 5 ∨ i = 6 ∨ i = 7 ∨ i = 8 ∨ i = 9 ∨ i = 10 ∨ i = 11 ∨ i = 12 ∨ i = 13 ∨ i = 14 ∨ i = 15 ∨ i = 16 ∨ i = 17 := by omega
  rcases hi' with rfl | rfl | rfl | rfl | rfl | rfl | rfl | rfl | rfl | rfl | rfl | rfl | rfl | rfl | rfl | rfl | rfl | rfl
  · exact h0
  · exact h1
  · exact h2
  · exact h3
  · exact h4
  · exact h5
  · exact h6
  · exact h7
  · exact h8
  · exact h9
  · exact h10
  · exact h11
  · exact h12
  · exact h13
  · exact h14
  · exact h15
  · exact h16
  · exact h17

theorem RS.setAt (h : RS w G N y s mo z) (hN : N ≤ 384) (n : Nat) (m : Int) (hm : m = n) : RS (w.setCell ⟨G, 3, none⟩ (.int .i64 m)) G N y (s.go n) mo z := by
  subst hm
  exact h.put hN 3 _ (by omega) (by exact lt18 rfl rfl rfl rfl rfl rfl rfl rfl rfl rfl rfl rfl rfl rfl rfl rfl rfl rfl) (fun w' r => ⟨r.lt, r.lab, r.cur.go n, r.back, r.seen, r.lseen, r.sc, r.box⟩)
theorem RS.setE (h : RS w G N y s mo z) (hN : N ≤ 384) (n : Int) : RS (w.setCell ⟨G, 6, none⟩ (.int .i64 n)) G N { y with e := n } s mo z := h.put hN 6 _ (by omega) (by exact lt18 rfl rfl rfl rfl rfl rfl rfl rfl rfl rfl rfl rfl rfl rfl rfl rfl rfl rfl) (fun w' r => r)
theorem RS.setV (h : RS w G N y s mo z) (hN : N ≤ 384) (n : Int) : RS (w.setCell ⟨G, 7, none⟩ (.int .i64 n)) G N { y with v := n } s mo z := h.put hN 7 _ (by omega) (by exact lt18 rfl rfl rfl rfl rfl rfl rfl rfl rfl rfl rfl rfl rfl rfl rfl rfl rfl rfl) (fun w' r => r)
theorem RS.setK (h : RS w G N y s mo z) (hN : N ≤ 384) (n : Int) : RS (w.setCell ⟨G, 8, none⟩ (.int .i64 n)) G N { y with k := n } s mo z := h.put hN 8 _ (by omega) (by exact lt18 rfl rfl rfl rfl rfl rfl rfl rfl rfl rfl rfl rfl rfl rfl rfl rfl rfl rfl) (fun w' r => r)
theorem RS.setSc (h : RS w G N y s mo z) (hN : N ≤ 384) (v : Value) (l : List Int) (hl : ScAt w G v l) : RS (w.setCell ⟨G, 11, none⟩ v) G N y { s with script := l } mo { z with sc := v } := by
  have hl' : ScAt (w.setCell ⟨G, 11, none⟩ v) G v l := hl.below (below_put (Below.refl _ _) _ _)
  have h1 := h.rest.kept hN (grown_set w G 11 v) h.rest.own
  refine ⟨fun i hi => ?_, h1.lt, h1.lab, h1.cur, h1.back, h1.seen, h1.lseen, hl', h1.box⟩
  rw [show gV N y { s with script := l } { z with sc := v } i = if i = 11 then v else gV N y s z i from by revert i; exact lt18 rfl rfl rfl rfl rfl rfl rfl rfl rfl rfl rfl rfl rfl rfl rfl rfl rfl rfl]
  by_cases e : i = 11
  · subst e; rw [if_pos rfl]; exact (h.cells 11 hi).same _
  · rw [if_neg e]; exact (h.cells i hi).other _ _ _ (by omega)
theorem RS.setSince (h : RS w G N y s mo z) (hN : N ≤ 384) (n : Int) : RS (w.setCell ⟨G, 13, none⟩ (.int .i64 n)) G N y { s with since := n } mo z := h.put hN 13 _ (by omega) (by exact lt18 rfl rfl rfl rfl rfl rfl rfl rfl rfl rfl rfl rfl rfl rfl rfl rfl rfl rfl) (fun w' r => ⟨r.lt, r.lab, r.cur, r.back, r.seen, r.lseen, r.sc, r.box⟩)
theorem RS.setHere (h : RS w G N y s mo z) (hN : N ≤ 384) : RS (w.setCell ⟨G, 12, none⟩ (.bool false)) G N y { s with ahead := false } mo z := h.put hN 12 _ (by omega) (by exact lt18 rfl rfl rfl rfl rfl rfl rfl rfl rfl rfl rfl rfl rfl rfl rfl rfl rfl rfl) (fun w' r => ⟨r.lt, r.lab, r.cur, fun h => absurd h (by simp), r.seen, r.lseen, r.sc, r.box⟩)

theorem R4.setAt (h : R4 w G N y s mo) (n : Nat) (m : Int) (hm : m = n) : R4 (w.setCell ⟨G, 3, none⟩ (.int .i64 m)) G N y (s.go n) mo := by obtain ⟨hN, z, hz⟩ := h.out; exact ⟨hN, z, hz.setAt hN n m hm⟩
theorem R4.setE (h : R4 w G N y s mo) (n : Int) : R4 (w.setCell ⟨G, 6, none⟩ (.int .i64 n)) G N { y with e := n } s mo := by obtain ⟨hN, z, hz⟩ := h.out; exact ⟨hN, z, hz.setE hN n⟩
theorem R4.setV (h : R4 w G N y s mo) (n : Int) : R4 (w.setCell ⟨G, 7, none⟩ (.int .i64 n)) G N { y with v := n } s mo := by obtain ⟨hN, z, hz⟩ := h.out; exact ⟨hN, z, hz.setV hN n⟩
theorem R4.setK (h : R4 w G N y s mo) (n : Int) : R4 (w.setCell ⟨G, 8, none⟩ (.int .i64 n)) G N { y with k := n } s mo := by obtain ⟨hN, z, hz⟩ := h.out; exact ⟨hN, z, hz.setK hN n⟩
theorem R4.setSince (h : R4 w G N y s mo) (n : Int) : R4 (w.setCell ⟨G, 13, none⟩ (.int .i64 n)) G N y { s with since := n } mo := by obtain ⟨hN, z, hz⟩ := h.out; exact ⟨hN, z, hz.setSince hN n⟩

/-! Single fields. -/
theorem R4.at_ (h : R4 w G N y s mo) : Wr w G 3 (.int .i64 s.pl.at_) := by obtain ⟨hN, z, hz⟩ := h.out; exact hz.cells 3 (by omega)
theorem R4.rv (h : R4 w G N y s mo) : Wr w G 4 y.rv := by obtain ⟨hN, z, hz⟩ := h.out; exact hz.cells 4 (by omega)
theorem R4.cv (h : R4 w G N y s mo) : Wr w G 5 y.cv := by obtain ⟨hN, z, hz⟩ := h.out; exact hz.cells 5 (by omega)
theorem R4.e (h : R4 w G N y s mo) : Wr w G 6 (.int .i64 y.e) := by obtain ⟨hN, z, hz⟩ := h.out; exact hz.cells 6 (by omega)
theorem R4.v (h : R4 w G N y s mo) : Wr w G 7 (.int .i64 y.v) := by obtain ⟨hN, z, hz⟩ := h.out; exact hz.cells 7 (by omega)
theorem R4.k (h : R4 w G N y s mo) : Wr w G 8 (.int .i64 y.k) := by obtain ⟨hN, z, hz⟩ := h.out; exact hz.cells 8 (by omega)
theorem R4.mv (h : R4 w G N y s mo) : Wr w G 10 y.mv := by obtain ⟨hN, z, hz⟩ := h.out; exact hz.cells 10 (by omega)
theorem R4.ahead (h : R4 w G N y s mo) : Wr w G 12 (.bool s.ahead) := by obtain ⟨hN, z, hz⟩ := h.out; exact hz.cells 12 (by omega)
theorem R4.since (h : R4 w G N y s mo) : Wr w G 13 (.int .i64 s.since) := by obtain ⟨hN, z, hz⟩ := h.out; exact hz.cells 13 (by omega)
theorem R4.regs (h : R4 w G N y s mo) : ∃ g c, Wr w G 0 (.slice (some ⟨g, 0, none⟩) 10 c) ∧ RegsR w g s.pl.r ∧ G < g := by
  obtain ⟨hN, z, hz⟩ := h.out
  exact ⟨z.a.rg, z.a.rc, hz.cells 0 (by omega), hz.rest.cur.regs, (hz.rest.lab _ (by rw [hz.rest.cur.lr]; omega)).1⟩

/-- The registers have changed, in their own block alone. -/
theorem RS.regd (h : RS w G N y s mo z) (hN : N ≤ 384) (r : Nat → Int) (hg : w.grownBy w' (some z.a.rg)) (hr : RegsR w' z.a.rg r) : RS w' G N y { s with pl := { s.pl with r := r } } mo z := by
  have hl := h.rest.cur.lr
  have hG := (h.rest.lab _ (by rw [hl]; omega)).1
  have hb : ∀ K b, some z.a.rg = some b → K = 1000 → ¬ InR K (z.lab b) := fun K b hb hK => by rw [← Option.some.inj hb, hl]; unfold InR; omega
  refine ⟨fun j hj => ?_, Nat.lt_of_lt_of_le h.rest.lt hg.size, fun c hc => ⟨(h.rest.lab c hc).1, Nat.lt_of_lt_of_le (h.rest.lab c hc).2 hg.size⟩, h.rest.cur.regd hN r hg hr, fun ha => ⟨(h.rest.back ha).1.kept hN hg (fun b e => hb 1000 b e rfl), (h.rest.back ha).2⟩, ?_, h.rest.lseen, ?_, fun p hp => ?_⟩
  · have := (h.cells j hj).kept hg (by simp; omega)
    exact this
  · refine World.ownsRow.kept h.rest.seen hg ?_
    cases hv : z.sv.ownBlock with
    | none => left; rfl
    | some b => right; intro e; have := h.rest.lseen b hv; rw [Option.some.inj e] at this; omega
  · exact h.rest.sc.below (Below.grown (Below.refl _ _) hg (Nat.le_of_lt h.rest.lt) (fun b hb => by rw [← Option.some.inj hb]; omega))
  · obtain ⟨h1, h2, h3⟩ := h.rest.box p hp
    exact ⟨h1, h2, by rw [hg.block p.1 (heap_some_lt h3) (fun e => by rw [Option.some.inj e] at h2; omega)]; exact h3⟩
end
end Go.Proofs.Ytbfhchhggkpbdaa

/-
  How a run of reference 4 stays where it is: what it has shown grows, a word is put, a place is left and come back to. No Go text in sight.
-/
namespace Go.Proofs.Ytbfhchhggkpbdaa
open Go.RowKit
set_option linter.unusedVariables false
set_option linter.unusedSimpArgs false

/-- Other labels. -/
theorem PlL.anew {w : World} {lo N K K' : Nat} {lab lab' : Nat → Nat} {q : Pl} {a : PV} (h : PlL w lo N K lab q a) (hN : N ≤ 384) (hl : ∀ b, InR K (lab b) → lab' b + K = lab b + K') : PlL w lo N K' lab' q a :=
  ⟨by have := hl a.rg (by rw [h.lr]; unfold InR; omega); rw [h.lr] at this; omega, h.regs, fun h0 => by have := hl a.wg (by rw [h.lw h0]; unfold InR; omega); rw [h.lw h0] at this; omega, h.wa, h.words, fun h0 => by have := hl a.pg (by rw [h.lp h0]; unfold InR; omega); rw [h.lp h0] at this; omega, h.pa, h.past, h.rows,
    fun j hj b hb => by have := hl b (by rw [h.lrow j hj b hb]; unfold InR; omega); rw [h.lrow j hj b hb] at this; omega, h.cap⟩
theorem PlL.labs2 {w : World} {lo N K : Nat} {lab lab' : Nat → Nat} {q : Pl} {a : PV} (h : PlL w lo N K lab q a) (hN : N ≤ 384) (hl : ∀ b, InR K (lab b) → lab' b = lab b) : PlL w lo N K lab' q a := h.anew hN (fun b hb => by rw [hl b hb])

section
variable {w w' : World} {G N : Nat} {y : Ys} {s : Sp} {mo : List (Nat × Obj)} {z : Zs}

/-- More was shown: the row has grown, and its place is stored. -/
theorem RS.shown (h : RS w G N y s mo z) (hN : N ≤ 384) (l : List Se) (sv' : Value) (own : SeenOwn w' (G + 1) sv' l) (gr : w.grownBy w' z.sv.ownBlock) (hat : ∀ b, sv'.ownBlock = some b → z.sv.ownBlock = some b ∨ w.heap.size ≤ b) :
    RS (w'.setCell ⟨G, 9, none⟩ sv') G N y { s with seen := l } mo { z with sv := sv', lab := fun c => if sv'.ownBlock = some c then 5000 else z.lab c } := by
  have hG := h.rest.lt
  have hl : ∀ c, z.lab c ≠ 0 → z.lab c ≠ 5000 → sv'.ownBlock ≠ some c := fun c h0 h5 e => by
    rcases hat c e with h1 | h1
    · exact h5 (h.rest.lseen c h1)
    · have := (h.rest.lab c h0).2; omega
  have hsb : ∀ b, z.sv.ownBlock = some b → G < b := fun b hb => (World.ownsRow.lt h.rest.seen b hb).1
  have hg2 := grown_set w' G 9 sv'
  have kp : ∀ K lo q a, K + 1000 ≤ 5000 → PlL w lo N K z.lab q a → PlL (w'.setCell ⟨G, 9, none⟩ sv') lo N K (fun c => if sv'.ownBlock = some c then 5000 else z.lab c) q a := fun K lo q a hK hp => by
    refine PlL.labs2 ((hp.kept hN gr (fun b hb => by rw [h.rest.lseen b hb]; unfold InR; omega)).kept hN hg2 (fun b hb => by rw [(h.rest.own b hb).1]; unfold InR; omega)) hN (fun b hb => ?_)
    rw [if_neg (hl b (by unfold InR at hb; omega) (by unfold InR at hb; omega))]
  have own2 : SeenOwn (w'.setCell ⟨G, 9, none⟩ sv') (G + 1) sv' l := own.kept hg2 (fun b hb => by have := Option.some.inj hb; omega)
  refine ⟨fun j hj => ?_, Nat.lt_of_lt_of_le hG (Nat.le_trans gr.size hg2.size), fun c hc => ?_, kp 0 _ _ _ (by omega) h.rest.cur, fun ha => ⟨kp 1000 _ _ _ (by omega) (h.rest.back ha).1, (h.rest.back ha).2⟩, own2, fun b hb => by dsimp only at hb ⊢; rw [if_pos hb], ?_, fun p hp => ?_⟩
  · have hc : gV N y { s with seen := l } { z with sv := sv', lab := fun c => if sv'.ownBlock = some c then 5000 else z.lab c } j = if j = 9 then sv' else gV N y s z j := by revert j; exact lt18 rfl rfl rfl rfl rfl rfl rfl rfl rfl rfl rfl rfl rfl rfl rfl rfl rfl rfl
    rw [hc]
    have h1 := (h.cells j hj).kept gr (fun e => by have := hsb G e.symm; omega)
    by_cases e : j = 9
    · subst e; rw [if_pos rfl]; exact h1.same _
    · rw [if_neg e]; exact h1.other _ _ _ (by omega)
  · dsimp only at hc
    split at hc
    · rename_i e
      have := World.ownsRow.lt own2 c e
      omega
    · have := h.rest.lab c hc
      exact ⟨this.1, Nat.lt_of_lt_of_le this.2 (Nat.le_trans gr.size hg2.size)⟩
  · exact (h.rest.sc.below (Below.grown (Below.refl _ _) gr (Nat.le_of_lt hG) (fun b hb => Nat.le_of_lt (hsb b hb)))).below (below_put (Below.refl _ _) _ _)
  · obtain ⟨h1, h2, h3⟩ := h.rest.box p hp
    have hne : sv'.ownBlock ≠ some p.1 := fun e => by
      rcases hat _ e with h4 | h4
      · have := h.rest.lseen _ h4; omega
      · have := heap_some_lt h3; omega
    refine ⟨h1, by dsimp only; rw [if_neg hne]; exact h2, ?_⟩
    rw [hg2.block p.1 (Nat.lt_of_lt_of_le (heap_some_lt h3) gr.size) (fun e => by have := Option.some.inj e; omega), gr.block p.1 (heap_some_lt h3) (fun e => by have := h.rest.lseen _ e.symm; omega)]
    exact h3

/-- A part of the place has changed, in its own blocks. -/
theorem RS.part (h : RS w G N y s mo z) (hN : N ≤ 384) {row : Option Nat} (hg : w.grownBy w' row) (hr : ∀ b, row = some b → InR 0 (z.lab b)) (pl' : Pl) (a' : PV) (lab' : Nat → Nat) (hl : ∀ c, z.lab c ≠ 0 → lab' c = z.lab c) (hn : ∀ c, lab' c ≠ 0 → z.lab c ≠ 0 ∨ (w.heap.size ≤ c ∧ c < w'.heap.size))
    (hp : PlL w' (G + 1) N 0 lab' pl' a') (e1 : a'.regs = z.a.regs) (e2 : a'.words N = z.a.words N) (e3 : a'.past N = z.a.past N) (e4 : pl'.at_ = s.pl.at_) : RS w' G N y { s with pl := pl' } mo { z with a := a', lab := lab' } := by
  have hG : ∀ b, row = some b → G < b := fun b hb => (h.rest.lab b (by have := hr b hb; unfold InR at this; omega)).1
  have hlt := h.rest.lt
  refine ⟨fun j hj => ?_, Nat.lt_of_lt_of_le h.rest.lt hg.size, fun c hc => ?_, hp, fun ha => ⟨PlL.labs ((h.rest.back ha).1.kept hN hg (fun b hb => by have := hr b hb; unfold InR at *; omega)) hl, (h.rest.back ha).2⟩, ?_, fun b hb => ?_, ?_, fun p hp => ?_⟩
  · have hc : gV N y { s with pl := pl' } { z with a := a', lab := lab' } j = gV N y s z j := by revert j; exact lt18 e1 e2 e3 (congrArg (fun n : Nat => Value.int .i64 (n : Int)) e4) rfl rfl rfl rfl rfl rfl rfl rfl rfl rfl rfl rfl rfl rfl
    rw [hc]
    exact (h.cells j hj).kept hg (fun e => by have := hG G e.symm; omega)
  · rcases hn c hc with h1 | h1
    · have := h.rest.lab c h1
      exact ⟨this.1, Nat.lt_of_lt_of_le this.2 hg.size⟩
    · exact ⟨by omega, h1.2⟩
  · refine World.ownsRow.kept h.rest.seen hg ?_
    cases hv : z.sv.ownBlock with
    | none => left; rfl
    | some b => right; intro e; have := h.rest.lseen b hv; have := hr b e.symm; unfold InR at this; omega
  · have := h.rest.lseen b hb
    dsimp only
    rw [hl b (by omega)]; exact this
  · exact h.rest.sc.below (Below.grown (Below.refl _ _) hg (Nat.le_of_lt hlt) (fun b hb => Nat.le_of_lt (hG b hb)))
  · obtain ⟨h1, h2, h3⟩ := h.rest.box p hp
    refine ⟨h1, ?_, by rw [hg.block p.1 (heap_some_lt h3) (fun e => by have := hr p.1 e.symm; unfold InR at this; omega)]; exact h3⟩
    dsimp only
    cases hc : lab' p.1 with
    | zero => rfl
    | succ n =>
      rcases hn p.1 (by rw [hc]; omega) with h4 | h4
      · exact absurd h2 h4
      · have := heap_some_lt h3; omega

/-- A register is set. -/
theorem RS.setReg (h : RS w G N y s mo z) (hN : N ≤ 384) (k v : Int) : RS (w.setCell ⟨z.a.rg, k.toNat, none⟩ (.int .i64 v)) G N y (s.reg k v) mo z :=
  h.part hN (grown_set w _ _ _) (fun b hb => by rw [← Option.some.inj hb, h.rest.cur.lr]; unfold InR; omega) _ z.a z.lab (fun _ _ => rfl) (fun c hc => .inl hc) (h.rest.cur.reg hN k v) rfl rfl rfl rfl
/-- A word is put. -/
theorem RS.setWord (h : RS w G N y s mo z) (hN : N ≤ 384) (n : Nat) (hn : n < N) (v : Int) : RS (w.setCell ⟨z.a.wg, n, none⟩ (.int .i64 v)) G N y { s with pl := { s.pl with wd := setF s.pl.wd n v } } mo z :=
  h.part hN (grown_set w _ _ _) (fun b hb => by rw [← Option.some.inj hb, h.rest.cur.lw (by omega)]; unfold InR; omega) _ z.a z.lab (fun _ _ => rfl) (fun c hc => .inl hc) (h.rest.cur.word hN n hn v) rfl rfl rfl rfl
/-- What a word was, is kept. -/
theorem RS.pushed (h : RS w G N y s mo z) (hN : N ≤ 384) (n : Nat) (hn : n < N) (x : Int) (v : Value) (hg : w.grownBy w' (z.a.P n).ownBlock) (own : w'.ownsRow (G + 1) 2 1 v ((s.pl.past n).length + 1) (ints (s.pl.past n) ++ [.int .i64 x]))
    (hat : ∀ b, v.ownBlock = some b → (z.a.P n).ownBlock = some b ∨ w.heap.size ≤ b) :
    ∃ z', RS (w'.setCell ⟨z.a.pg, n, none⟩ v) G N y { s with pl := { s.pl with past := setF s.pl.past n (s.pl.past n ++ [x]) } } mo z' ∧ z'.a.rg = z.a.rg ∧ z'.a.wg = z.a.wg := by
  have lrow := h.rest.cur.lrow n hn
  have hg2 := grown_set w' z.a.pg n v
  have lp := h.rest.cur.lp (by omega)
  have hpg := h.rest.lab z.a.pg (by rw [lp]; omega)
  have hl : ∀ c, z.lab c ≠ 0 → (if v.ownBlock = some c then 10 + n else z.lab c) = z.lab c := fun c hc => by
    split
    · rename_i e
      rcases hat c e with h1 | h1
      · have := lrow c h1; omega
      · have := (h.rest.lab c hc).2; omega
    · rfl
  have hp := h.rest.cur.push hN n hn x v hg own (lab' := fun c => if v.ownBlock = some c then 10 + n else z.lab c) hl (fun b hb => by rw [if_pos hb]; try omega)
  have hn' : ∀ c, (if v.ownBlock = some c then 10 + n else z.lab c) ≠ 0 → z.lab c ≠ 0 ∨ (w.heap.size ≤ c ∧ c < (w'.setCell ⟨z.a.pg, n, none⟩ v).heap.size) := fun c hc => by
    split at hc
    · rename_i e
      rcases hat c e with h1 | h1
      · left; have := lrow c h1; omega
      · right; refine ⟨h1, Nat.lt_of_lt_of_le (World.ownsRow.lt own c e).2 hg2.size⟩
    · exact .inl hc
  refine ⟨{ z with a := { z.a with P := setF z.a.P n v }, lab := fun c => if v.ownBlock = some c then 10 + n else z.lab c }, ?_, rfl, rfl⟩
  have gg : ∀ b, b < w.heap.size → some b ≠ (z.a.P n).ownBlock → b ≠ z.a.pg → (w'.setCell ⟨z.a.pg, n, none⟩ v).heap[b]? = w.heap[b]? := fun b hb h1 h2 => by
    rw [hg2.block b (Nat.lt_of_lt_of_le hb hg.size) (fun e => h2 (Option.some.inj e)), hg.block b hb h1]
  have hrb : ∀ b, (z.a.P n).ownBlock = some b → G < b := fun b hb => (h.rest.lab b (by rw [lrow b hb]; omega)).1
  have kp : ∀ lo q a, PlL w lo N 1000 z.lab q a → PlL (w'.setCell ⟨z.a.pg, n, none⟩ v) lo N 1000 (fun c => if v.ownBlock = some c then 10 + n else z.lab c) q a := fun lo q a hp =>
    PlL.labs ((hp.kept hN hg (fun b hb => by rw [lrow b hb]; unfold InR; omega)).kept hN hg2 (fun b hb => by rw [← Option.some.inj hb, lp]; unfold InR; omega)) hl
  refine ⟨fun j hj => ?_, Nat.lt_of_lt_of_le h.rest.lt (Nat.le_trans hg.size hg2.size), fun c hc => ?_, hp, fun ha => ⟨kp _ _ _ (h.rest.back ha).1, (h.rest.back ha).2⟩, ?_, fun b hb => ?_, ?_, fun p hp => ?_⟩
  · have hc : ∀ j, j < 18 → gV N y { s with pl := { s.pl with past := setF s.pl.past n (s.pl.past n ++ [x]) } } { z with a := { z.a with P := setF z.a.P n v }, lab := fun c => if v.ownBlock = some c then 10 + n else z.lab c } j = gV N y s z j := by exact lt18 rfl rfl rfl rfl rfl rfl rfl rfl rfl rfl rfl rfl rfl rfl rfl rfl rfl rfl
    rw [hc j hj]
    exact ((h.cells j hj).kept hg (fun e => by have := hrb G e.symm; omega)).kept hg2 (fun e => by have := Option.some.inj e; omega)
  · rcases hn' c hc with h1 | h1
    · have := h.rest.lab c h1
      exact ⟨this.1, Nat.lt_of_lt_of_le this.2 (Nat.le_trans hg.size hg2.size)⟩
    · have := h.rest.lt
      exact ⟨by omega, h1.2⟩
  · refine World.ownsRow.kept (World.ownsRow.kept h.rest.seen hg ?_) hg2 ?_
    · cases hv : z.sv.ownBlock with
      | none => left; rfl
      | some b => right; intro e; have := h.rest.lseen b hv; have := lrow b e.symm; omega
    · cases hv : z.sv.ownBlock with
      | none => left; rfl
      | some b => right; intro e; have := h.rest.lseen b hv; rw [Option.some.inj e] at this; omega
  · have := h.rest.lseen b hb
    dsimp only
    rw [hl b (by omega)]; exact this
  · exact (h.rest.sc.below (Below.grown (Below.refl _ _) hg (Nat.le_of_lt h.rest.lt) (fun b hb => Nat.le_of_lt (hrb b hb)))).below (Below.grown (Below.refl _ _) hg2 (Nat.le_trans (Nat.le_of_lt h.rest.lt) hg.size) (fun b hb => by have := Option.some.inj hb; omega))
  · obtain ⟨h1, h2, h3⟩ := h.rest.box p hp
    refine ⟨h1, ?_, ?_⟩
    · dsimp only
      rw [if_neg (fun e => ?_)]
      · exact h2
      · rcases hat _ e with h4 | h4
        · have := lrow _ h4; omega
        · have := heap_some_lt h3; omega
    · rw [gg p.1 (heap_some_lt h3) (fun e => by have := lrow _ e.symm; omega) (fun e => by rw [e] at h2; omega)]
      exact h3

/-- Where the run is, is left: the copy lies in new blocks, and is stored. -/
theorem RS.left {w1 w2 : World} (h : RS w G N y s mo z) (hN : N ≤ 384) (ha : s.ahead = false) (h1 : w1 = (w.setCell ⟨G, 12, none⟩ (.bool true)).setCell ⟨G, 13, none⟩ (.int .i64 (-1))) (m : More w1 w2) (lab' : Nat → Nat) (a' : PV) (hl : ∀ c, lab' c ≠ 0 → w1.heap.size ≤ c ∧ c < w2.heap.size) (hp : PlL w2 w1.heap.size N 1000 lab' s.pl a') :
    ∃ z', RS ((((w2.setCell ⟨G, 14, none⟩ a'.regs).setCell ⟨G, 15, none⟩ (a'.words N)).setCell ⟨G, 16, none⟩ (a'.past N)).setCell ⟨G, 17, none⟩ (.int .i64 s.pl.at_)) G N y s.leave mo z' := by
  subst h1
  have e : s.leave = { s with ahead := true, since := -1, back := s.pl } := by unfold Sp.leave; rw [if_neg (by rw [ha]; decide)]
  rw [e]
  have hs0 : ((w.setCell ⟨G, 12, none⟩ (.bool true)).setCell ⟨G, 13, none⟩ (.int .i64 (-1))).heap.size = w.heap.size := by simp
  rw [hs0] at hl hp
  have hG := h.rest.lt
  have own0 := h.rest.own
  have r1 := (h.rest.kept hN (grown_set w G 12 (.bool true)) own0).kept hN (grown_set _ G 13 (.int .i64 (-1))) own0
  have r2 := r1.kept hN (m.grow none) (fun b hb => by cases hb)
  have g4 := gr_set (gr_set (gr_set (gr_set (grown_refl w2 (some G)) 14 a'.regs) 15 (a'.words N)) 16 (a'.past N)) 17 (.int .i64 s.pl.at_)
  have r3 := r2.kept hN g4 own0
  have hlG : lab' G = 0 := by
    cases hc : lab' G with
    | zero => rfl
    | succ n => have := (hl G (by rw [hc]; omega)).1; omega
  have p3 := hp.kept hN g4 (fun b hb => by rw [← Option.some.inj hb, hlG]; unfold InR; omega)
  have hz : ∀ c, z.lab c ≠ 0 → c < w.heap.size := fun c hc => (h.rest.lab c hc).2
  refine ⟨{ z with b0 := a'.regs, b1 := a'.words N, b2 := a'.past N, b3 := .int .i64 s.pl.at_, b := a', lab := fun c => if c < w.heap.size then z.lab c else lab' c }, fun j hj => ?_, r3.lt, fun c hc => ?_, ?_, fun _ => ⟨?_, rfl, rfl, rfl, rfl⟩, r3.seen, fun b hb => ?_, r3.sc, fun p hp => ?_⟩
  · have hk : ∀ j v, Wr w G j v → j ≠ 12 → j ≠ 13 → j < 14 → Wr ((((w2.setCell ⟨G, 14, none⟩ a'.regs).setCell ⟨G, 15, none⟩ (a'.words N)).setCell ⟨G, 16, none⟩ (a'.past N)).setCell ⟨G, 17, none⟩ (.int .i64 s.pl.at_)) G j v := fun j v hv n1 n2 n3 =>
      ((((((hv.other _ _ _ (by omega)).other _ _ _ (by omega)).kept (m.grow none) (by simp)).other _ _ _ (by omega)).other _ _ _ (by omega)).other _ _ _ (by omega)).other _ _ _ (by omega)
    have hb : ∀ j v, Wr w G j v → 14 ≤ j → Wr w2 G j v := fun j v hv n => (((hv.other _ _ _ (by omega)).other _ _ _ (by omega)).kept (m.grow none) (by simp))
    revert j
    refine lt18 ?_ ?_ ?_ ?_ ?_ ?_ ?_ ?_ ?_ ?_ ?_ ?_ ?_ ?_ ?_ ?_ ?_ ?_
    · exact hk 0 _ (h.cells 0 (by omega)) (by omega) (by omega) (by omega)
    · exact hk 1 _ (h.cells 1 (by omega)) (by omega) (by omega) (by omega)
    · exact hk 2 _ (h.cells 2 (by omega)) (by omega) (by omega) (by omega)
    · exact hk 3 _ (h.cells 3 (by omega)) (by omega) (by omega) (by omega)
    · exact hk 4 _ (h.cells 4 (by omega)) (by omega) (by omega) (by omega)
    · exact hk 5 _ (h.cells 5 (by omega)) (by omega) (by omega) (by omega)
    · exact hk 6 _ (h.cells 6 (by omega)) (by omega) (by omega) (by omega)
    · exact hk 7 _ (h.cells 7 (by omega)) (by omega) (by omega) (by omega)
    · exact hk 8 _ (h.cells 8 (by omega)) (by omega) (by omega) (by omega)
    · exact hk 9 _ (h.cells 9 (by omega)) (by omega) (by omega) (by omega)
    · exact hk 10 _ (h.cells 10 (by omega)) (by omega) (by omega) (by omega)
    · exact hk 11 _ (h.cells 11 (by omega)) (by omega) (by omega) (by omega)
    · exact (((((((h.cells 12 (by omega)).same _).other _ _ _ (by omega)).kept (m.grow none) (by simp)).other _ _ _ (by omega)).other _ _ _ (by omega)).other _ _ _ (by omega)).other _ _ _ (by omega)
    · exact (((((((h.cells 13 (by omega)).other _ _ _ (by omega)).same _).kept (m.grow none) (by simp)).other _ _ _ (by omega)).other _ _ _ (by omega)).other _ _ _ (by omega)).other _ _ _ (by omega)
    · exact ((((hb 14 _ (h.cells 14 (by omega)) (by omega)).same _).other _ _ _ (by omega)).other _ _ _ (by omega)).other _ _ _ (by omega)
    · exact ((((hb 15 _ (h.cells 15 (by omega)) (by omega)).other _ _ _ (by omega)).same _).other _ _ _ (by omega)).other _ _ _ (by omega)
    · exact ((((hb 16 _ (h.cells 16 (by omega)) (by omega)).other _ _ _ (by omega)).other _ _ _ (by omega)).same _).other _ _ _ (by omega)
    · exact ((((hb 17 _ (h.cells 17 (by omega)) (by omega)).other _ _ _ (by omega)).other _ _ _ (by omega)).other _ _ _ (by omega)).same _
  · dsimp only at hc
    split at hc
    · exact r3.lab c hc
    · have := hl c hc
      have h4 := g4.size
      exact ⟨by omega, by omega⟩
  · exact PlL.labs r3.cur (fun c hc => by dsimp only; rw [if_pos (hz c hc)])
  · exact PlL.base (PlL.labs p3 (fun c hc => by dsimp only; rw [if_neg (by have := (hl c hc).1; omega)])) (by omega)
  · have := h.rest.lseen b hb
    dsimp only
    rw [if_pos (hz b (by omega))]; exact this
  · have h3 := r3.box p hp
    refine ⟨h3.1, ?_, h3.2.2⟩
    dsimp only
    rw [if_pos (heap_some_lt (h.rest.box p hp).2.2)]
    exact h3.2.1

/-- The place to come back to is the place. -/
theorem RS.come (h : RS w G N y s mo z) (hN : N ≤ 384) (ha : s.ahead = true) :
    ∃ z', RS (((((w.setCell ⟨G, 12, none⟩ (.bool false)).setCell ⟨G, 0, none⟩ z.b0).setCell ⟨G, 1, none⟩ z.b1).setCell ⟨G, 2, none⟩ z.b2).setCell ⟨G, 3, none⟩ z.b3) G N y { s with ahead := false, pl := s.back } mo z' := by
  have own0 := h.rest.own
  obtain ⟨hb, e0, e1, e2, e3⟩ := h.rest.back ha
  have g5 := gr_set (gr_set (gr_set (gr_set (gr_set (grown_refl w (some G)) 12 (.bool false)) 0 z.b0) 1 z.b1) 2 z.b2) 3 z.b3
  have r := h.rest.kept hN g5 own0
  have hb' := (r.back ha).1
  refine ⟨{ z with a := z.b, lab := fun c => if z.lab c < 1000 then 0 else if z.lab c < 2000 then z.lab c - 1000 else z.lab c }, fun j hj => ?_, r.lt, fun c hc => r.lab c (fun e => hc (by dsimp only; rw [e]; rfl)), PlL.anew hb' hN (fun b hb => ?_), fun h => absurd h (by simp), r.seen, fun b hb => ?_, r.sc, fun p hp => ⟨(r.box p hp).1, by dsimp only; rw [(r.box p hp).2.1]; rfl, (r.box p hp).2.2⟩⟩
  · have hk : ∀ j v, Wr w G j v → j ≠ 12 → 4 ≤ j → Wr (((((w.setCell ⟨G, 12, none⟩ (.bool false)).setCell ⟨G, 0, none⟩ z.b0).setCell ⟨G, 1, none⟩ z.b1).setCell ⟨G, 2, none⟩ z.b2).setCell ⟨G, 3, none⟩ z.b3) G j v := fun j v hv n1 n2 =>
      ((((hv.other _ _ _ (by omega)).other _ _ _ (by omega)).other _ _ _ (by omega)).other _ _ _ (by omega)).other _ _ _ (by omega)
    revert j
    refine lt18 ?_ ?_ ?_ ?_ ?_ ?_ ?_ ?_ ?_ ?_ ?_ ?_ ?_ ?_ ?_ ?_ ?_ ?_
    · have := (((((h.cells 0 (by omega)).other G 12 (.bool false) (by omega)).same z.b0).other G 1 z.b1 (by omega)).other G 2 z.b2 (by omega)).other G 3 z.b3 (by omega)
      exact (congrArg _ e0).mp this
    · have := (((((h.cells 1 (by omega)).other G 12 (.bool false) (by omega)).other G 0 z.b0 (by omega)).same z.b1).other G 2 z.b2 (by omega)).other G 3 z.b3 (by omega)
      exact (congrArg _ e1).mp this
    · have := (((((h.cells 2 (by omega)).other G 12 (.bool false) (by omega)).other G 0 z.b0 (by omega)).other G 1 z.b1 (by omega)).same z.b2).other G 3 z.b3 (by omega)
      exact (congrArg _ e2).mp this
    · have := (((((h.cells 3 (by omega)).other G 12 (.bool false) (by omega)).other G 0 z.b0 (by omega)).other G 1 z.b1 (by omega)).other G 2 z.b2 (by omega)).same z.b3
      exact (congrArg _ e3).mp this
    · exact hk 4 _ (h.cells 4 (by omega)) (by omega) (by omega)
    · exact hk 5 _ (h.cells 5 (by omega)) (by omega) (by omega)
    · exact hk 6 _ (h.cells 6 (by omega)) (by omega) (by omega)
    · exact hk 7 _ (h.cells 7 (by omega)) (by omega) (by omega)
    · exact hk 8 _ (h.cells 8 (by omega)) (by omega) (by omega)
    · exact hk 9 _ (h.cells 9 (by omega)) (by omega) (by omega)
    · exact hk 10 _ (h.cells 10 (by omega)) (by omega) (by omega)
    · exact hk 11 _ (h.cells 11 (by omega)) (by omega) (by omega)
    · exact (((((h.cells 12 (by omega)).same (.bool false)).other G 0 z.b0 (by omega)).other G 1 z.b1 (by omega)).other G 2 z.b2 (by omega)).other G 3 z.b3 (by omega)
    · exact hk 13 _ (h.cells 13 (by omega)) (by omega) (by omega)
    · exact hk 14 _ (h.cells 14 (by omega)) (by omega) (by omega)
    · exact hk 15 _ (h.cells 15 (by omega)) (by omega) (by omega)
    · exact hk 16 _ (h.cells 16 (by omega)) (by omega) (by omega)
    · exact hk 17 _ (h.cells 17 (by omega)) (by omega) (by omega)
  · unfold InR at hb
    dsimp only
    rw [if_neg (by omega), if_pos (by omega)]
    omega
  · have := h.rest.lseen b hb
    dsimp only
    rw [this]; rfl
end
end Go.Proofs.Ytbfhchhggkpbdaa

/-
  What the small methods of reference 4's run come to: see, choice, leave, returns.
-/
namespace Go.Proofs.Ytbfhchhggkpbdaa
open Go.RowKit
set_option linter.unusedVariables false
set_option linter.unusedSimpArgs false
set_option maxRecDepth 8000

set_option maxHeartbeats 400000 in
theorem r4_see (w : World) (G N : Nat) (y : Ys) (s : Sp) (mo : List (Nat × Obj)) (k a b : Int) (hl : s.seen.length ≤ 200000) (h : R4 w G N y s mo) :
    Calls Try.prog 61 #[.pointer (some ⟨G, 0, none⟩), .int .i64 k, .int .i64 a, .int .i64 b] w fun e w' => e = .returned (.tuple #[]) ∧ R4 w' G N y (s.see ⟨k, a, b⟩) mo ∧ Below G w w' := by
  obtain ⟨hN, z, hz⟩ := h.out
  have ho := hz.rest.seen
  obtain ⟨sa, sc, hsv⟩ := own_form ho
  obtain ⟨c9, f9⟩ := hz.cells 9 (by omega)
  replace c9 : w.cell? ⟨G, 9, none⟩ = some (.slice sa s.seen.length sc) := by rw [← hsv]; exact c9
  obtain ⟨i2, hi2, hz0, hz1, hz2⟩ := info_parts info79
  have Hi : Hid (Try.prog.info? 85 = some i2 ∧ i2.zero = some (.agg #[.int .i64 0, .int .i64 0, .int .i64 0]) ∧ i2.size = 3 ∧ i2.bytes = 24) := ⟨hi2, hz0, hz1, hz2⟩
  have H : Hid (RS w G N y s mo z ∧ z.sv = .slice sa s.seen.length sc ∧ s.seen.length ≤ 200000 ∧ G < w.heap.size ∧ N ≤ 384) := ⟨hz, hsv, hl, hz.rest.lt, hN⟩
  have Hrow : Hid (∀ b, (Value.slice sa s.seen.length sc).ownBlock = some b → G < b) := fun b hb => (World.ownsRow.lt ho b (by rw [hsv]; exact hb)).1
  have Hown : Hid (SeenOwn (w.alloc (.cells #[.int .i64 k, .int .i64 a, .int .i64 b] 85)) (G + 1) (.slice sa s.seen.length sc) s.seen) := by rw [← hsv]; exact ho.kept (World.grownBy_alloc w _ none) (fun b hb => by cases hb)
  have Hc : Hid (Wr w G 9 (.slice sa s.seen.length sc)) := ⟨c9, f9⟩
  clear hi2 hz0 hz1 hz2 ho hz h hl hsv f9
  obtain ⟨se, hse⟩ : ∃ se, s.seen = se := ⟨_, rfl⟩
  rw [hse] at H Hrow Hown c9 Hc
  go_enter Try.func61, Try.ntmps61
  go_wp2_with (at_builtin; refine wpList_append_lies _ rfl (.tmp 13) (.tmp 18) 35 rfl (G + 1) 85 i2 (.agg #[.int .i64 0, .int .i64 0, .int .i64 0]) 3 24 Try.underlying35 Hi.out.1 Hi.out.2.1 Hi.out.2.2.1 Hi.out.2.2.2 rfl (by decide) (.slice sa se.length sc) se.length (flatS se) rfl Hown.out ⟨w.heap.size, 0, none⟩ 1 1 [.int .i64 k, .int .i64 a, .int .i64 b] rfl rfl (by simpa using cell_three_new' w (.int .i64 k) (.int .i64 a) (.int .i64 b) 85) (fun x hx => by simp at hx; rcases hx with rfl | rfl | rfl <;> rfl) (by decide) (by have := H.out.2.2.1; unfold maxLen; omega) (by have := H.out.2.2.1; omega) (by have := H.out.2.2.2.1; simp; omega) (w.heap.size + 1) (by simp) ?_; intro g_ cap w2 own2 gr2 hat2 hlt2; obtain ⟨t5c, t5f⟩ := (Hc.out.kept (World.grownBy_alloc w (.cells #[.int .i64 k, .int .i64 a, .int .i64 b] 85) none) (by simp)).kept gr2 (fun e => by have := Hrow.out G e.symm; omega))
  go_end0
  obtain ⟨hz, hsv, hl, hlt, hN⟩ := H.out
  have h1 := hz.kept hN (World.grownBy_alloc w (.cells #[.int .i64 k, .int .i64 a, .int .i64 b] 85) none) (fun b hb => by cases hb)
  have h2 := h1.shown (w' := w2) hN (se ++ [⟨k, a, b⟩]) (.slice (some ⟨g_, 0, none⟩) (se.length + 1) cap) (by unfold SeenOwn; rw [flatS_append, List.length_append]; exact own2) (by rw [hsv]; exact gr2) (fun b hb => by
    have hb' : g_ = b := by simpa [Value.ownBlock] using hb
    subst hb'
    rw [hsv]
    rcases hat2 with h | h
    · exact .inl h
    · right; simp; omega)
  have e : s.see ⟨k, a, b⟩ = { s with seen := se ++ [⟨k, a, b⟩] } := by unfold Sp.see; rw [hse]
  rw [e]
  exact ⟨rfl, ⟨hN, _, h2⟩, below_put (Below.grown (below_alloc (Below.refl _ _) (Nat.le_of_lt hlt) _) gr2 (by simp; omega) (fun b hb => Nat.le_of_lt (Hrow.out b hb))) _ _⟩

theorem r4_choice (w : World) (G N : Nat) (y : Ys) (s : Sp) (mo : List (Nat × Obj)) (h : R4 w G N y s mo) :
    Calls Try.prog 86 #[.pointer (some ⟨G, 0, none⟩)] w fun e w' => e = .returned (.int .i64 s.choice) ∧ R4 w' G N y { s with script := s.script.tail } mo ∧ Below G w w' := by
  obtain ⟨hN, z, hz⟩ := h.out
  obtain ⟨sa, cap, hsc, hcap, hl⟩ := hz.rest.sc.out
  obtain ⟨c11, f11⟩ := hz.cells 11 (by omega)
  replace c11 : w.cell? ⟨G, 11, none⟩ = some (.slice sa s.script.length cap) := by rw [← hsc]; exact c11
  have H : Hid (RS w G N y s mo z ∧ N ≤ 384) := ⟨hz, hN⟩
  unfold Sp.choice
  obtain ⟨pl, ahead, since, back, L, seen⟩ := s
  dsimp only at c11 hcap hl hsc ⊢
  cases L with
  | nil =>
    clear hz hl h hsc
    go_enter Try.func86, Try.ntmps86
    go_wp2
    go_ret
    exact ⟨rfl, ⟨H.out.2, z, H.out.1⟩, Below.refl _ _⟩
  | cons c L =>
    obtain ⟨sb, so, rfl, hsb, hcell⟩ := hl (by simp)
    have c0 := hcell 0 c (by simp)
    rw [Nat.add_zero] at c0
    have Hc : Hid (sb < G ∧ ∀ j c', (c :: L)[j]? = some c' → w.cell? ⟨sb, so + j, none⟩ = some (.int .i64 c')) := ⟨hsb, hcell⟩
    have hne : ¬ sb = G := by omega
    have hn1 : (1 : Int) ≤ ((c :: L).length : Int) := by simp; omega
    have hn2 : ((c :: L).length : Int) ≤ (cap : Int) := by omega
    obtain ⟨n, hn⟩ : ∃ n, (c :: L).length = n := ⟨_, rfl⟩
    have Hn : Hid ((c :: L).length = n) := hn
    rw [hn] at c11 hn1 hn2 hcap
    have hn0 : ¬ (n : Int) = 0 := by omega
    have hn3 : ¬ n = 0 := by omega
    have hz' : ((n : Int) == 0) = false := by simp; omega
    have hcap1 : 1 ≤ cap := by omega
    clear hz h hl hcell hn hsc
    by_cases e1 : cap = 1
    · subst e1
      go_enter Try.func86, Try.ntmps86
      go_wp2
      go_ret
      have hL : L = [] := by have := Hn.out; simp at this; cases L with | nil => rfl | cons a l => simp at this; omega
      subst hL
      exact ⟨rfl, ⟨H.out.2, _, H.out.1.setSc H.out.2 _ [] ⟨_, _, rfl, Nat.zero_le _, fun h => absurd rfl h⟩⟩, below_put (Below.refl _ _) _ _⟩
    · go_enter Try.func86, Try.ntmps86
      go_wp2
      go_ret
      have hL : n - 1 = L.length := by have := Hn.out; simp at this; omega
      refine ⟨rfl, ⟨H.out.2, _, H.out.1.setSc H.out.2 _ L ⟨some ⟨sb, so + 1, none⟩, cap - 1, by rw [← hL], by omega, fun h => ⟨sb, so + 1, rfl, Hc.out.1, fun j c' hc => ?_⟩⟩⟩, below_put (Below.refl _ _) _ _⟩
      rw [show so + 1 + j = so + (j + 1) by omega]
      exact Hc.out.2 (j + 1) c' (by simpa using hc)

set_option maxHeartbeats 400000 in
theorem r4_leave (w : World) (G N : Nat) (y : Ys) (s : Sp) (mo : List (Nat × Obj)) (hp : ∀ j, j < N → (s.pl.past j).length ≤ 100000) (h : R4 w G N y s mo) :
    Calls Try.prog 87 #[.pointer (some ⟨G, 0, none⟩)] w fun e w' => e = .returned (.tuple #[]) ∧ R4 w' G N y s.leave mo ∧ Below G w w' := by
  obtain ⟨hN, z, hz⟩ := h.out
  cases ha : s.ahead with
  | true =>
    have c12 := (hz.cells 12 (by omega)).1
    replace c12 : w.cell? ⟨G, 12, none⟩ = some (.bool true) := by rw [← ha]; exact c12
    have H : Hid (R4 w G N y s mo ∧ s.ahead = true) := ⟨h, ha⟩
    clear h hz hp ha
    go_enter Try.func87, Try.ntmps87
    go_wp2
    go_end0
    refine ⟨rfl, ?_, Below.refl _ _⟩
    unfold Sp.leave
    rw [if_pos H.out.2]
    exact H.out.1
  | false =>
    obtain ⟨c12, f12⟩ := hz.cells 12 (by omega)
    replace c12 : w.cell? ⟨G, 12, none⟩ = some (.bool false) := by rw [← ha]; exact c12
    obtain ⟨c13, f13⟩ := hz.cells 13 (by omega)
    obtain ⟨c0, _⟩ := hz.cells 0 (by omega)
    obtain ⟨c1, _⟩ := hz.cells 1 (by omega)
    obtain ⟨c2, _⟩ := hz.cells 2 (by omega)
    obtain ⟨c3, _⟩ := hz.cells 3 (by omega)
    dsimp only [gV] at c13 c0 c1 c2 c3
    obtain ⟨w1, hw1⟩ : ∃ w1, (w.setCell ⟨G, 12, none⟩ (.bool true)).setCell ⟨G, 13, none⟩ (.int .i64 (-1)) = w1 := ⟨_, rfl⟩
    have own0 := hz.rest.own
    have r1 := (hz.rest.kept hN (grown_set w G 12 (.bool true)) own0).kept hN (grown_set _ G 13 (.int .i64 (-1))) own0
    rw [hw1] at r1
    have HC := hid_of' (ref4_copy w1 _ N 0 z.lab s.pl z.a r1.cur hN hp 1000)
    have K14 : ∀ j, 14 ≤ j → j < 18 → ∃ v, Wr w1 G j v := fun j h1 h2 => ⟨_, by rw [← hw1]; exact ((hz.cells j h2).other _ _ _ (by omega)).other _ _ _ (by omega)⟩
    have H : Hid (RS w G N y s mo z ∧ N ≤ 384 ∧ s.ahead = false ∧ G < w.heap.size) := ⟨hz, hN, ha, hz.rest.lt⟩
    have HK := hid_of' K14
    have Hw1 := hid_of' hw1
    dsimp only [PV.regs, PV.words, PV.past] at HC c0 c1 c2
    clear h hz hp ha r1 own0 K14 hw1
    go_enter Try.func87, Try.ntmps87
    go_wp2_with (fail)
    rw [Hw1.out]
    refine HC.out.mono ?_
    rintro e w2 ⟨a', lab', rfl, m2, hl2, hp2⟩
    obtain ⟨v14, k14⟩ := HK.out 14 (by omega) (by omega)
    obtain ⟨v15, k15⟩ := HK.out 15 (by omega) (by omega)
    obtain ⟨v16, k16⟩ := HK.out 16 (by omega) (by omega)
    obtain ⟨v17, k17⟩ := HK.out 17 (by omega) (by omega)
    obtain ⟨q14, p14⟩ := k14.kept (m2.grow none) (by simp)
    obtain ⟨q15, p15⟩ := k15.kept (m2.grow none) (by simp)
    obtain ⟨q16, p16⟩ := k16.kept (m2.grow none) (by simp)
    obtain ⟨q17, p17⟩ := k17.kept (m2.grow none) (by simp)
    have H2 := hid_of' (And.intro m2 (And.intro hl2 hp2))
    clear k14 k15 k16 k17 m2 hl2 hp2 HC
    obtain ⟨rg, rc, wg, wa, wc, pg, pa, pc, P⟩ := a'
    dsimp only
    go_wp2
    go_end0
    obtain ⟨hz, hN, ha, hlt⟩ := H.out
    obtain ⟨m2, hl2, hp2⟩ := H2.out
    obtain ⟨z', hz'⟩ := hz.left hN ha Hw1.out.symm m2 lab' _ hl2 hp2
    refine ⟨rfl, ⟨hN, z', hz'⟩, ?_⟩
    refine below_put (below_put (below_put (below_put (below_more ?_ ?_ m2) _ _) _ _) _ _) _ _
    · rw [← Hw1.out]; exact below_put (below_put (Below.refl _ _) _ _) _ _
    · rw [← Hw1.out]; simp; omega

set_option maxHeartbeats 400000 in
theorem r4_returns (w : World) (G N : Nat) (y : Ys) (s : Sp) (mo : List (Nat × Obj)) (hl : s.seen.length ≤ 200000) (ha : s.ahead = true) (h : R4 w G N y s mo) :
    Calls Try.prog 60 #[.pointer (some ⟨G, 0, none⟩)] w fun e w' => e = .returned (.tuple #[]) ∧ R4 w' G N y s.returns mo ∧ Below G w w' := by
  have HS := hid_of' (r4_see w G N y s mo 4 0 0 hl h)
  have Ha := hid_of' ha
  clear h hl ha
  go_enter Try.func60, Try.ntmps60
  go_wp2_with (fail)
  refine HS.out.mono ?_
  rintro e w2 ⟨rfl, r2, b2⟩
  obtain ⟨hN, z, hz⟩ := r2.out
  obtain ⟨c12, f12⟩ := hz.cells 12 (by omega)
  obtain ⟨c0, f0⟩ := hz.cells 0 (by omega)
  obtain ⟨c1, f1⟩ := hz.cells 1 (by omega)
  obtain ⟨c2, f2⟩ := hz.cells 2 (by omega)
  obtain ⟨c3, f3⟩ := hz.cells 3 (by omega)
  obtain ⟨c14, _⟩ := hz.cells 14 (by omega)
  obtain ⟨c15, _⟩ := hz.cells 15 (by omega)
  obtain ⟨c16, _⟩ := hz.cells 16 (by omega)
  obtain ⟨c17, _⟩ := hz.cells 17 (by omega)
  obtain ⟨_, e0, e1, e2, e3⟩ := hz.rest.back Ha.out
  dsimp only [gV, PV.regs, PV.words, PV.past] at c12 c0 c1 c2 c3 c14 c15 c16 c17 e0 e1 e2 e3
  rw [e0] at c14
  rw [e1] at c15
  rw [e2] at c16
  rw [e3] at c17
  have H2 := hid_of' (And.intro hz (And.intro hN (And.intro b2 (And.intro e0 (And.intro e1 (And.intro e2 e3))))))
  clear r2 b2 hz hN HS e0 e1 e2 e3
  go_wp2
  go_end0
  obtain ⟨hz, hN, b2, e0, e1, e2, e3⟩ := H2.out
  obtain ⟨z', hz'⟩ := hz.come hN Ha.out
  rw [e0, e1, e2, e3] at hz'
  refine ⟨rfl, ⟨hN, z', hz'⟩, ?_⟩
  exact below_put (below_put (below_put (below_put (below_put b2 _ _) _ _) _ _) _ _) _ _
end Go.Proofs.Ytbfhchhggkpbdaa

/-
  What the reference's shape, Regions and Words come to, called in whatever memory.
-/
namespace Go.Proofs.Ytbfhchhggkpbdaa
open Go.RowKit

def tri (x y z : Int) (j : Nat) : Int := if j = 0 then x else if j = 1 then y else z
theorem tri_cells {w : World} {g : Nat} {x y z : Int} (h0 : w.cell? ⟨g, 0, none⟩ = some (.int .i64 x)) (h1 : w.cell? ⟨g, 1, none⟩ = some (.int .i64 y)) (h2 : w.cell? ⟨g, 2, none⟩ = some (.int .i64 z)) :
    ∀ j, j < 3 → w.cell? ⟨g, j, none⟩ = some (.int .i64 (tri x y z j)) := by
  intro j hj
  have : j = 0 ∨ j = 1 ∨ j = 2 := by omega
  rcases this with rfl | rfl | rfl
  · exact h0
  · exact h1
  · exact h2

/-- What a shape is told as. -/
def Shape (x y z : Int) (num : Bool) (w : World) (e : Ending) (w' : World) : Prop :=
  ∃ g : Nat, e = .returned (.tuple #[.slice (some ⟨g, 0, none⟩) 3 3, .bool num, .bool true]) ∧ (∀ j, j < 3 → w'.cell? ⟨g, j, none⟩ = some (.int .i64 (tri x y z j))) ∧ More w w'

theorem shape_1 (w : World) : Calls Try.prog 91 #[.int .i64 1] w (Shape 1 0 0 true w) := by
  go_enter Try.func91, Try.ntmps91
  go_wp2
  go_ret3
  exact ⟨w.heap.size, rfl, tri_cells (by go_simp) (by go_simp) (by go_simp), (More.refl _).alloc _ _⟩

theorem shape_2 (w : World) : Calls Try.prog 91 #[.int .i64 2] w (Shape 1 1 0 false w) := by
  go_enter Try.func91, Try.ntmps91
  go_wp2
  go_ret3
  exact ⟨w.heap.size, rfl, tri_cells (by go_simp) (by go_simp) (by go_simp), (More.refl _).alloc _ _⟩

theorem shape_3 (w : World) : Calls Try.prog 91 #[.int .i64 3] w (Shape 1 1 2 true w) := by
  go_enter Try.func91, Try.ntmps91
  go_wp2
  go_ret3
  exact ⟨w.heap.size, rfl, tri_cells (by go_simp) (by go_simp) (by go_simp), (More.refl _).alloc _ _⟩

theorem shape_4 (w : World) : Calls Try.prog 91 #[.int .i64 4] w (Shape 1 1 2 true w) := by
  go_enter Try.func91, Try.ntmps91
  go_wp2
  go_ret3
  exact ⟨w.heap.size, rfl, tri_cells (by go_simp) (by go_simp) (by go_simp), (More.refl _).alloc _ _⟩

theorem shape_5 (w : World) : Calls Try.prog 91 #[.int .i64 5] w (Shape 1 0 2 true w) := by
  go_enter Try.func91, Try.ntmps91
  go_wp2
  go_ret3
  exact ⟨w.heap.size, rfl, tri_cells (by go_simp) (by go_simp) (by go_simp), (More.refl _).alloc _ _⟩

theorem shape_6 (w : World) : Calls Try.prog 91 #[.int .i64 6] w (Shape 1 0 2 true w) := by
  go_enter Try.func91, Try.ntmps91
  go_wp2
  go_ret3
  exact ⟨w.heap.size, rfl, tri_cells (by go_simp) (by go_simp) (by go_simp), (More.refl _).alloc _ _⟩

theorem shape_7 (w : World) : Calls Try.prog 91 #[.int .i64 7] w (Shape 0 0 0 true w) := by
  go_enter Try.func91, Try.ntmps91
  go_wp2
  go_ret3
  exact ⟨w.heap.size, rfl, tri_cells (by go_simp) (by go_simp) (by go_simp), (More.refl _).alloc _ _⟩

theorem shape_8 (w : World) : Calls Try.prog 91 #[.int .i64 8] w (Shape 1 1 2 true w) := by
  go_enter Try.func91, Try.ntmps91
  go_wp2
  go_ret3
  exact ⟨w.heap.size, rfl, tri_cells (by go_simp) (by go_simp) (by go_simp), (More.refl _).alloc _ _⟩

theorem shape_9 (w : World) : Calls Try.prog 91 #[.int .i64 9] w (Shape 1 0 0 false w) := by
  go_enter Try.func91, Try.ntmps91
  go_wp2
  go_ret3
  exact ⟨w.heap.size, rfl, tri_cells (by go_simp) (by go_simp) (by go_simp), (More.refl _).alloc _ _⟩

theorem shape_10 (w : World) : Calls Try.prog 91 #[.int .i64 10] w (Shape 1 1 0 true w) := by
  go_enter Try.func91, Try.ntmps91
  go_wp2
  go_ret3
  exact ⟨w.heap.size, rfl, tri_cells (by go_simp) (by go_simp) (by go_simp), (More.refl _).alloc _ _⟩

theorem shape_11 (w : World) : Calls Try.prog 91 #[.int .i64 11] w (Shape 1 0 0 true w) := by
  go_enter Try.func91, Try.ntmps91
  go_wp2
  go_ret3
  exact ⟨w.heap.size, rfl, tri_cells (by go_simp) (by go_simp) (by go_simp), (More.refl _).alloc _ _⟩

theorem shape_12 (w : World) : Calls Try.prog 91 #[.int .i64 12] w (Shape 0 0 0 false w) := by
  go_enter Try.func91, Try.ntmps91
  go_wp2
  go_ret3
  exact ⟨w.heap.size, rfl, tri_cells (by go_simp) (by go_simp) (by go_simp), (More.refl _).alloc _ _⟩

theorem shape_op (op : Int) (h1 : 20 < op) (h2 : op ≤ 30) (w : World) : Calls Try.prog 91 #[.int .i64 op] w (Shape 1 1 1 false w) := by
  go_enter Try.func91, Try.ntmps91
  go_wp2
  go_ret3
  exact ⟨w.heap.size, rfl, tri_cells (by go_simp) (by go_simp) (by go_simp), (More.refl _).alloc _ _⟩

theorem shape_else (op : Int) (h1 : ¬ op = 1) (h2 : ¬ op = 2) (h3 : ¬ op = 3) (h4 : ¬ op = 4) (h5 : ¬ op = 5) (h6 : ¬ op = 6) (h7 : ¬ op = 7) (h8 : ¬ op = 8) (h9 : ¬ op = 9) (h10 : ¬ op = 10) (h11 : ¬ op = 11) (h12 : ¬ op = 12) (h : ¬ (20 < op ∧ op ≤ 30)) (w : World) : Calls Try.prog 91 #[.int .i64 op] w fun e w' => e = .returned (.tuple #[.slice none 0 0, .bool false, .bool false]) ∧ w' = w := by
  by_cases h20 : 20 < op
  · have h30 : ¬ op ≤ 30 := fun k => h ⟨h20, k⟩
    clear h
    go_enter Try.func91, Try.ntmps91
    go_wp2
    go_ret3
    exact ⟨rfl, rfl⟩
  · clear h
    go_enter Try.func91, Try.ntmps91
    go_wp2
    go_ret3
    exact ⟨rfl, rfl⟩

set_option maxHeartbeats 400000 in
theorem ref_regions (ra : Option Addr) (rl rc : Nat) (ca : Option Addr) (cl cc : Nat) (b o : Nat) (log : Nat → Int) (sec : Nat → Bool) (w : World)
    (hra : 0 < rl → ra = some ⟨b, o, none⟩) (hr : RegsAt w b o rl log sec) :
    Calls Try.prog 43 #[.agg #[.slice ra rl rc, .slice ca cl cc]] w (Says (RegionsOk rl log) w) := by
  by_cases h6 : 6 < rl
  · have Hr : Hid (RegsAt w b o rl log sec) := hr
    clear hr
    have h6' : (6 : Int) < (rl : Int) := by omega
    go_enter Try.func43, Try.ntmps43
    go_wp2
    go_ret
    exact Says.no (fun h => by have := h.1; omega) ((More.refl _).alloc _ _)
  · have h6' : ¬ (6 : Int) < (rl : Int) := by omega
    have Hr : Hid (RegsAt w b o rl log sec) := hr
    have Ha : Hid (0 < rl → ra = some ⟨b, o, none⟩) := hra
    clear hr hra
    go_enter Try.func43, Try.ntmps43
    go_wp2
    go_loopg [3] rl (fun g i wr => ∃ k : Nat, k + g = rl ∧ i = .int .i64 k ∧ (∀ j, j < k → 0 ≤ log j ∧ log j ≤ 6) ∧ wr = w.alloc (.cells #[.slice ra rl rc, .slice ca cl cc] 29))
    case atStart => exact ⟨0, by omega, rfl, fun j hj => by omega, rfl⟩
    case round =>
      obtain ⟨k, hkg, rfl, hok, rfl⟩ := hrel
      have Hok : Hid (∀ j, j < k → 0 ≤ log j ∧ log j ≤ 6) := hok
      clear hok
      cases gk with
      | zero =>
        obtain rfl : k = rl := by omega
        go_wp2
        go_ret
        exact Says.yes ⟨by omega, Hok.out⟩ ((More.refl _).alloc _ _)
      | succ g =>
        have hk : k < rl := by omega
        have hk' : (k : Int) < (rl : Int) := by omega
        obtain rfl := Ha.out (by omega)
        have hc0 := ((Hr.out.more ((More.refl _).alloc #[.slice (some ⟨b, o, none⟩) rl rc, .slice ca cl cc] 29)) k hk).1
        by_cases hlo : log k < 0
        · go_wp2
          go_ret
          exact Says.no (fun h => by have := (h.2 k hk).1; omega) ((More.refl _).alloc _ _)
        · by_cases hhi : 6 < log k
          · go_wp2
            go_ret
            exact Says.no (fun h => by have := (h.2 k hk).2; omega) ((More.refl _).alloc _ _)
          · go_wp2
            go_roundg g
            case measure => omega
            case rel =>
              refine ⟨k + 1, by omega, by first | rfl | simp, fun j hj => ?_, rfl⟩
              by_cases e : j = k
              · subst e; omega
              · exact Hok.out j (by omega)

theorem ref_words (l : Int) (h0 : 0 ≤ l) (h1 : l ≤ 6) (s : Bool) (w : World) :
    Calls Try.prog 44 #[.agg #[.int .i64 l, .bool s]] w fun e w' => e = .returned (.int .i64 (wordsI l)) ∧ More w w' := by
  obtain ⟨n, rfl⟩ : ∃ n : Nat, l = n := ⟨l.toNat, by omega⟩
  have hn : n ≤ 6 := by omega
  clear h0 h1
  obtain ⟨R, HR⟩ : ∃ R, Hid (wordsI (n : Int) = R) := ⟨_, rfl⟩
  rw [HR.out]
  go_enter Try.func44, Try.ntmps44
  go_wp2
  go_loopg [3, 4] n (fun g nv i wr => ∃ (k : Nat) (m : Int), k + g = n ∧ m = 2 ^ k ∧ nv = .int .i64 m ∧ i = .int .i64 k ∧ wr = w.alloc (.cells #[.int .i64 n, .bool s] 66))
  case atStart => exact ⟨0, 1, by omega, by decide, rfl, rfl, rfl⟩
  case round =>
    obtain ⟨k, m, hkg, hm, rfl, rfl, rfl⟩ := hrel
    have hb := two_pow_le (k := k) (by omega)
    rw [← hm] at hb
    have Hm : Hid (m = 2 ^ k) := hm
    clear hm
    obtain ⟨b0, b1⟩ := hb
    cases gk with
    | zero =>
      obtain rfl : k = n := by omega
      go_wp2
      go_ret
      refine ⟨?_, (More.refl _).alloc _ _⟩
      rw [Hm.out, ← HR.out]
      simp [wordsI]
    | succ g =>
      have hk' : (k : Int) < (n : Int) := by omega
      go_wp2
      go_roundg g
      case measure => omega
      case rel =>
        refine ⟨k + 1, m + m, by omega, by rw [Int.pow_succ, ← Hm.out]; omega, ?_, by first | rfl | simp, rfl⟩
        first | rfl | (simp; unfold wrap64; omega)

end Go.Proofs.Ytbfhchhggkpbdaa
