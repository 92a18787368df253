/-
  What word.Put comes to.
-/
import Derived.Test.YtifdalddchmlmaaWdWord
import Derived.Test.YtifdalddchmlmaaCode
namespace Go.Proofs.Ytifdalddchmlmaa
open Go.RowKit
set_option linter.unusedVariables false
set_option linter.unusedSimpArgs false
set_option maxRecDepth 8000

/-- What the row of words holds. -/
def wordsF (p : Prg) (k j : Nat) : Value := .int .u32 (if j < k then encW (p.ins j) else 0)

/-- Where the loop stands. -/
structure P7 (w : World) (p : Prg) (rv cv : Value) (g k : Nat) (wr : World) : Prop where
  box : Blk wr w.heap.size #[rv, cv] 25
  res : Blk wr (w.heap.size + 1) #[.int .i64 0, .int .i64 0] 29
  row : ∀ j, j < p.cl → Wr wr g j (wordsF p k j)
  lo : w.heap.size + 2 ≤ g
  hi : g < wr.heap.size
  ok : ∀ j, j < k → N14 (p.ins j).n
  more : More w wr

theorem P7.step {w : World} {p : Prg} {rv cv : Value} {g k : Nat} {wr w1 w2 : World} (h : P7 w p rv cv g k wr) (m1 : More wr w1) (hn : N14 (p.ins k).n) (e2 : w2 = w1.setCell ⟨g, k, none⟩ (.int .u32 (encW (p.ins k)))) : P7 w p rv cv g (k + 1) w2 := by
  have hlo := h.lo
  subst e2
  refine ⟨(h.box.more m1).other (by omega) _ _, (h.res.more m1).other (by omega) _ _, fun j hj => ?_, hlo, ?_, fun j hj => ?_, (h.more.trans m1).setCell (by show w.heap.size ≤ g; omega) _⟩
  · have h1 := (h.row j hj).kept (m1.grow none) (by simp)
    by_cases e : j = k
    · subst e
      have h2 := h1.same (.int .u32 (encW (p.ins j)))
      unfold wordsF
      rw [if_pos (by omega)]
      exact h2
    · have h2 := h1.other g k (.int .u32 (encW (p.ins k))) (.inr (fun q => e q.symm))
      have e2 : wordsF p (k + 1) j = wordsF p k j := by
        unfold wordsF
        by_cases q : j < k
        · rw [if_pos q, if_pos (by omega)]
        · rw [if_neg q, if_neg (by omega)]
      rw [e2]
      exact h2
  · have := m1.size; have := h.hi; simp; omega
  · by_cases e : j = k
    · subst e; exact hn
    · exact h.ok j (by omega)

set_option maxHeartbeats 2000000 in
theorem put_calls (p : Prg) (l : Loc) (w : World) (hp : PIn w p l) : Calls Try.prog 7 #[.agg #[.slice l.ra p.rl l.rc, .slice l.ca p.cl l.cc]] w (PutAns p w) := by
  have CH : Hid (∀ w1 : World, More w w1 → Calls Try.prog 13 #[.agg #[.slice l.ra p.rl l.rc, .slice l.ca p.cl l.cc]] w1 fun e w' => ∃ r : Bool, e = .returned (.bool r) ∧ (r = true ↔ p.Ok 8000 10) ∧ More w1 w') := fun w1 m1 => hard_calls p l w1 (hp.more m1)
  have Hp : Hid (PIn w p l) := hp
  clear hp
  obtain ⟨ra, Hra⟩ : ∃ x, Hid (l.ra = x) := ⟨_, rfl⟩
  obtain ⟨rl, Hrl⟩ : ∃ x, Hid (p.rl = x) := ⟨_, rfl⟩
  obtain ⟨rc, Hrc⟩ : ∃ x, Hid (l.rc = x) := ⟨_, rfl⟩
  obtain ⟨ca, Hca⟩ : ∃ x, Hid (l.ca = x) := ⟨_, rfl⟩
  obtain ⟨cl, Hcl⟩ : ∃ x, Hid (p.cl = x) := ⟨_, rfl⟩
  obtain ⟨cc, Hcc⟩ : ∃ x, Hid (l.cc = x) := ⟨_, rfl⟩
  rw [Hra.out, Hrl.out, Hrc.out, Hca.out, Hcl.out, Hcc.out] at CH ⊢
  obtain ⟨W0, HW0⟩ : ∃ W : World, Hid (W = (w.alloc (.cells #[.slice ra rl rc, .slice ca cl cc] 25)).alloc (.cells #[.int .i64 0, .int .i64 0] 29)) := ⟨_, rfl⟩
  have Hm0 : Hid (More w W0) := by rw [HW0.out]; exact ((More.refl _).alloc _ _).alloc _ _
  have B0 : Hid (Blk W0 w.heap.size #[.slice ra rl rc, .slice ca cl cc] 25) := by rw [HW0.out]; exact (Blk.last _ _ _).alloc _ _
  have B1 : Hid (Blk W0 (w.heap.size + 1) #[.int .i64 0, .int .i64 0] 29) := by rw [HW0.out]; show Blk _ _ _ _; simpa using Blk.last (w.alloc (.cells #[.slice ra rl rc, .slice ca cl cc] 25)) #[.int .i64 0, .int .i64 0] 29
  go_enter Try.func7, Try.ntmps7
  go_wp2_with (fail)
  rw [← HW0.out]
  have b0 : W0.cell? ⟨w.heap.size, 0, none⟩ = some (.slice ra rl rc) := B0.out.cell rfl
  have b1 : W0.cell? ⟨w.heap.size, 1, none⟩ = some (.slice ca cl cc) := B0.out.cell rfl
  go_wp2_with (fail)
  refine (CH.out W0 Hm0.out).mono ?_
  rintro e w1 ⟨r, rfl, hr, m1⟩
  have Hm1 : Hid (More W0 w1) := m1
  have D0 : Hid (Blk w1 w.heap.size #[.slice ra rl rc, .slice ca cl cc] 25) := B0.out.more m1
  have D1 : Hid (Blk w1 (w.heap.size + 1) #[.int .i64 0, .int .i64 0] 29) := B1.out.more m1
  clear m1 CH B0 B1 b0 b1
  have a2 : w1.cell? ⟨w.heap.size + 1, 0, none⟩ = some (.int .i64 0) := D1.out.cell rfl
  have a3 : w1.cell? ⟨w.heap.size + 1, 1, none⟩ = some (.int .i64 0) := D1.out.cell rfl
  have z2 := D1.out.frozen 0
  have z3 := D1.out.frozen 1
  cases r with
  | false =>
    have Hno : Hid (¬ p.Ok 8000 10) := fun h => by simpa using hr.2 h
    clear hr
    go_wp2
    refine bodyPost_ret (v := .tuple #[.slice none 0 0, .agg #[.int .i64 2, .int .i64 0]]) (by simp [results, Try.results7, go_sem, *]) rfl ?_
    refine ⟨(2, 0), .inl ⟨Hno.out, rfl⟩, ?_, .inr ⟨by decide, rfl⟩⟩
    exact ((Hm0.out.trans Hm1.out).setCell (by show w.heap.size ≤ _; simp) _).setCell (by show w.heap.size ≤ _; simp) _
  | true =>
    have Hok : Hid (p.Ok 8000 10) := hr.1 rfl
    clear hr a2 a3 z2 z3
    have hcl0 := Hok.out.2.1
    have hcl1 := Hok.out.2.2.1
    have hca := Hp.out.hc (by omega)
    rw [Hcl.out] at hcl0 hcl1
    obtain ⟨cb, Hcb⟩ : ∃ x, Hid (l.cb = x) := ⟨_, rfl⟩
    obtain ⟨co, Hco⟩ : ∃ x, Hid (l.co = x) := ⟨_, rfl⟩
    rw [Hca.out, Hcb.out, Hco.out] at hca
    subst hca
    have HC : Hid (∀ w1 : World, More w w1 → CodeAt w1 cb co cl p.ins) := fun w1 m1 => by
      have := Hp.out.code.more m1
      rw [Hcb.out, Hco.out, Hcl.out] at this
      exact this
    have b0 : w1.cell? ⟨w.heap.size, 0, none⟩ = some (.slice ra rl rc) := D0.out.cell rfl
    have b1 : w1.cell? ⟨w.heap.size, 1, none⟩ = some (.slice (some ⟨cb, co, none⟩) cl cc) := D0.out.cell rfl
    have hmk := run_make_row' (P := Try.prog) 26 40 (.int .u32 0) 4 Try.underlying26 info40 rfl .i64 .i64 cl (by omega) (by omega)
    obtain ⟨w2, Hw2⟩ : ∃ w_ : World, Hid (w_ = w1.alloc (.cells (madeCells #[.int .u32 0] cl) 40)) := ⟨_, rfl⟩
    obtain ⟨g0, Hg0⟩ : ∃ x, Hid (x = w1.heap.size) := ⟨_, rfl⟩
    have HS0 : Hid (P7 w p (.slice ra rl rc) (.slice (some ⟨cb, co, none⟩) cl cc) g0 0 w2) := by
      have hsz := D1.out.lt
      have e := Hg0.out
      rw [Hw2.out]
      refine ⟨D0.out.alloc _ _, D1.out.alloc _ _, fun j hj => ?_, by omega, by rw [e]; simp, fun j hj => absurd hj (Nat.not_lt_zero _), (Hm0.out.trans Hm1.out).alloc _ _⟩
      rw [Hcl.out] at hj
      have hb := Blk.last w1 (madeCells #[.int .u32 0] cl) 40
      rw [e]
      refine ⟨hb.cell ?_, hb.frozen _⟩
      rw [made1_at _ _ _ hj]
      rfl
    have zlt := D0.out.lt
    go_wp2_with (fail)
    rw [← Hw2.out, ← Hg0.out]
    clear hmk b0 b1 zlt
    go_loopg [18] cl (fun g iv wr => ∃ (k : Nat), k + g = cl ∧ iv = .int .i64 k ∧ Hid (P7 w p (.slice ra rl rc) (.slice (some ⟨cb, co, none⟩) cl cc) g0 k wr))
    case atStart => exact ⟨0, by omega, rfl, HS0.out⟩
    case round =>
      obtain ⟨k, hkg, rfl, Hr⟩ := hrel
      clear HS0
      have a2 : wr.cell? ⟨w.heap.size + 1, 0, none⟩ = some (.int .i64 0) := Hr.out.res.cell rfl
      have a3 : wr.cell? ⟨w.heap.size + 1, 1, none⟩ = some (.int .i64 0) := Hr.out.res.cell rfl
      have z0 := Hr.out.res.lt
      have z2 := Hr.out.res.frozen 0
      have z3 := Hr.out.res.frozen 1
      cases gk with
      | zero =>
        obtain rfl : k = cl := by omega
        go_wp2
        refine bodyPost_ret (v := .tuple #[.slice (some ⟨g0, 0, none⟩) k k, .agg #[.int .i64 0, .int .i64 0]]) (by simp [results, Try.results7, go_sem, *]) rfl ?_
        have hlo := Hr.out.lo
        refine ⟨(0, 0), .inr (.inr ⟨Hok.out, fun j hj => Hr.out.ok j (by rw [← Hcl.out]; exact hj), rfl⟩), ?_, .inl ⟨rfl, g0, k, by rw [Hcl.out], by omega, fun i hi => ?_⟩⟩
        · exact (Hr.out.more.setCell (by show w.heap.size ≤ _; simp) _).setCell (by show w.heap.size ≤ _; simp) _
        · have h1 := (((Hr.out.row i hi).other (w.heap.size + 1) 0 (.int .i64 0) (.inl (by omega))).other (w.heap.size + 1) 1 (.int .i64 0) (.inl (by omega))).1
          rw [Nat.zero_add, h1]
          rw [Hcl.out] at hi
          unfold wordsF
          rw [if_pos hi]
      | succ g =>
        have hk : k < cl := by omega
        have hki : (k : Int) < cl := by omega
        have hk63 : wrap64 ((k : Int) + 1) = (k : Int) + 1 := by unfold wrap64; omega
        obtain ⟨q0, q1, q2, q3, q4⟩ := HC.out wr Hr.out.more k hk
        have hsm : Small (p.ins k) := small_of Hok.out.1.1 (Hok.out.2.2.2 k (by rw [Hcl.out]; exact hk))
        have Hst : Hid (∀ (w1 w2 : World), More wr w1 → N14 (p.ins k).n → w2 = w1.setCell ⟨g0, k, none⟩ (.int .u32 (encW (p.ins k))) → P7 w p (.slice ra rl rc) (.slice (some ⟨cb, co, none⟩) cl cc) g0 (k + 1) w2) := fun w1 w2 m1 hn e => Hr.out.step m1 hn e
        have Hrow : Hid (∀ w1 : World, More wr w1 → Wr w1 g0 k (wordsF p k k)) := fun w1 m1 => (Hr.out.row k (by rw [Hcl.out]; exact hk)).kept (m1.grow none) (by simp)
        have Hbad : Hid (¬ N14 (p.ins k).n → PutR p (3, (k : Int))) := fun h => .inr (.inl ⟨Hok.out, k, by rw [Hcl.out]; exact hk, Hr.out.ok, h, rfl⟩)
        obtain ⟨⟨op, a, b, c, n⟩, HI⟩ : ∃ x, Hid (p.ins k = x) := ⟨_, rfl⟩
        rw [HI.out] at q0 q1 q2 q3 q4 hsm Hbad Hst
        dsimp only at q0 q1 q2 q3 q4 Hbad
        have Hsm : Hid (Small ⟨op, a, b, c, n⟩) := hsm
        clear hsm
        by_cases hn : N14 n
        · have hn' := hn
          obtain ⟨n0, n1⟩ := hn'
          have d1 : decide (n < -8192) = false := by simp; omega
          have d2 : decide (8191 < n) = false := by simp; omega
          have HN : Hid (N14 n) := hn
          clear hn Hbad n0 n1
          go_wp2_with (fail)
          refine (written_calls op a b c n _ Hsm.out HN.out).mono ?_
          rintro e w3 ⟨rfl, m3⟩
          have Hm3 : Hid (More wr w3) := ((More.refl _).alloc _ _).trans m3
          clear m3
          obtain ⟨x1, x2⟩ := Hrow.out w3 Hm3.out
          obtain ⟨u, Hu⟩ : ∃ x, Hid (encW ⟨op, a, b, c, n⟩ = x) := ⟨_, rfl⟩
          rw [Hu.out] at Hst ⊢
          have Hn3 : Hid (P7 w p (.slice ra rl rc) (.slice (some ⟨cb, co, none⟩) cl cc) g0 (k + 1) (w3.setCell ⟨g0, k, none⟩ (.int .u32 u))) := Hst.out w3 _ Hm3.out HN.out rfl
          clear Hst
          go_wp2
          go_roundg g
          case measure => omega
          case rel => exact ⟨k + 1, by omega, by first | rfl | simp, Hn3.out⟩
        · have HB : Hid (PutR p (3, (k : Int))) := Hbad.out hn
          have Hmr : Hid (More w wr) := Hr.out.more
          clear Hbad Hst Hrow
          have Hfin : Hid (∀ w' : World, w' = ((wr.setCell ⟨w.heap.size + 1, 0, none⟩ (.int .i64 3)).setCell ⟨w.heap.size + 1, 1, none⟩ (.int .i64 (k : Int))).alloc (.cells #[.int .i64 op, .int .i64 a, .int .i64 b, .int .i64 c, .int .i64 n] 39) → PutAns p w (.returned (.tuple #[.slice none 0 0, .agg #[.int .i64 3, .int .i64 (k : Int)]])) w') := fun w' e => by
            refine ⟨(3, (k : Int)), HB.out, ?_, .inr ⟨by show ¬ (3 : Int) = 0; decide, rfl⟩⟩
            rw [e]
            exact ((Hmr.out.setCell (by show w.heap.size ≤ _; simp) _).setCell (by show w.heap.size ≤ _; simp) _).alloc _ _
          by_cases h1 : n < -8192
          · have d1 : decide (n < -8192) = true := by simp [h1]
            clear hn
            go_wp2
            refine bodyPost_ret (v := .tuple #[.slice none 0 0, .agg #[.int .i64 3, .int .i64 (k : Int)]]) (by simp [results, Try.results7, go_sem, *]) rfl (Hfin.out _ rfl)
          · have d1 : decide (n < -8192) = false := by simp [h1]
            have d2 : decide (8191 < n) = true := by unfold N14 at hn; simp; omega
            clear hn h1
            go_wp2
            refine bodyPost_ret (v := .tuple #[.slice none 0 0, .agg #[.int .i64 3, .int .i64 (k : Int)]]) (by simp [results, Try.results7, go_sem, *]) rfl (Hfin.out _ rfl)

end Go.Proofs.Ytifdalddchmlmaa
