/-
  What evenkeelref8.Put comes to.
-/
import Derived.Test.YtifdalddchmlmaaWdPlain
import Derived.Test.YtifdalddchmlmaaBase
import Derived.Test.YtifdalddchmlmaaRefForm
namespace Go.Proofs.Ytifdalddchmlmaa
open Go.RowKit
set_option linter.unusedVariables false
set_option linter.unusedSimpArgs false
set_option maxRecDepth 8000

theorem info40 : (Try.prog.info? 40).map (fun i => (i.zero, i.size, i.bytes)) = some (some (.int .u32 0), 1, 4) := by kernel_rfl

/-- What Put answers. -/
def PutAns (p : Prg) (w : World) (e : Ending) (w' : World) : Prop :=
  ∃ f : Int × Int, PutR p f ∧ More w w' ∧
    ((f.1 = 0 ∧ ∃ g c, e = .returned (.tuple #[.slice (some ⟨g, 0, none⟩) p.cl c, .agg #[.int .i64 0, .int .i64 0]]) ∧ w.heap.size ≤ g ∧ WordsAt w' g 0 p.cl (fun j => encW (p.ins j))) ∨
     (¬ f.1 = 0 ∧ e = .returned (.tuple #[.slice none 0 0, .agg #[.int .i64 f.1, .int .i64 f.2]])))

/-- Where the loop stands. -/
structure P8 (w : World) (p : Prg) (rv cv : Value) (k : Nat) (lv : Value) (wr : World) : Prop where
  box : Blk wr w.heap.size #[rv, cv] 25
  res : Blk wr (w.heap.size + 1) #[.int .i64 0, .int .i64 0] 29
  own : wr.ownsRow (w.heap.size + 2) 40 1 lv k (wordsL (fun j => encW (p.ins j)) k)
  ok : ∀ j, j < k → N14 (p.ins j).n
  more : More w wr

theorem P8.step {w : World} {p : Prg} {rv cv : Value} {k : Nat} {lv : Value} {wr w1 w2 : World} (h : P8 w p rv cv k lv wr) (m1 : More wr w1) (g2 : w1.grownBy w2 lv.ownBlock) (hn : N14 (p.ins k).n) {lv' : Value}
    (own : w2.ownsRow (w.heap.size + 2) 40 1 lv' (k + 1) (wordsL (fun j => encW (p.ins j)) (k + 1))) : P8 w p rv cv (k + 1) lv' w2 := by
  have hb : ∀ b, lv.ownBlock = some b → w.heap.size + 2 ≤ b := fun b hb => (h.own.lt b hb).1
  have n3 : ∀ b, b < w.heap.size + 2 → some b ≠ lv.ownBlock := fun b hlt e => by have := hb b e.symm; omega
  refine ⟨?_, ?_, own, fun j hj => ?_, ?_⟩
  · have h2 := h.box.more m1
    exact (g2.block _ h2.lt (n3 _ (by omega))).trans h2
  · have h2 := h.res.more m1
    exact (g2.block _ h2.lt (n3 _ (by omega))).trans h2
  · by_cases e : j = k
    · subst e; exact hn
    · exact h.ok j (by omega)
  · exact (h.more.trans m1).grownBy g2 (fun b e => by have := hb b e; omega)

set_option maxHeartbeats 2000000 in
theorem ref8_put (p : Prg) (l : Loc) (w : World) (hp : PIn w p l) : Calls Try.prog 8 #[.agg #[.slice l.ra p.rl l.rc, .slice l.ca p.cl l.cc]] w (PutAns p w) := by
  have CH : Hid (∀ w1 : World, More w w1 → Calls Try.prog 15 #[.agg #[.slice l.ra p.rl l.rc, .slice l.ca p.cl l.cc]] w1 fun e w' => ∃ r : Bool, e = .returned (.bool r) ∧ (r = true ↔ p.Ok 8000 10) ∧ More w1 w') := fun w1 m1 => ref_hard p l w1 (hp.more m1)
  have Hp : Hid (PIn w p l) := hp
  clear hp
  obtain ⟨ra, Hra⟩ : ∃ x, Hid (l.ra = x) := ⟨_, rfl⟩
  obtain ⟨rl, Hrl⟩ : ∃ x, Hid (p.rl = x) := ⟨_, rfl⟩
  obtain ⟨rc, Hrc⟩ : ∃ x, Hid (l.rc = x) := ⟨_, rfl⟩
  obtain ⟨ca, Hca⟩ : ∃ x, Hid (l.ca = x) := ⟨_, rfl⟩
  obtain ⟨cl, Hcl⟩ : ∃ x, Hid (p.cl = x) := ⟨_, rfl⟩
  obtain ⟨cc, Hcc⟩ : ∃ x, Hid (l.cc = x) := ⟨_, rfl⟩
  rw [Hra.out, Hrl.out, Hrc.out, Hca.out, Hcl.out, Hcc.out] at CH ⊢
  obtain ⟨W0, HW0⟩ : ∃ W : World, Hid (W = (w.alloc (.cells #[.slice ra rl rc, .slice ca cl cc] 25)).alloc (.cells #[.int .i64 0, .int .i64 0] 29)) := ⟨_, rfl⟩
  have Hm0 : Hid (More w W0) := by rw [HW0.out]; exact ((More.refl _).alloc _ _).alloc _ _
  have B0 : Hid (Blk W0 w.heap.size #[.slice ra rl rc, .slice ca cl cc] 25) := by rw [HW0.out]; exact (Blk.last _ _ _).alloc _ _
  have B1 : Hid (Blk W0 (w.heap.size + 1) #[.int .i64 0, .int .i64 0] 29) := by rw [HW0.out]; show Blk _ _ _ _; simpa using Blk.last (w.alloc (.cells #[.slice ra rl rc, .slice ca cl cc] 25)) #[.int .i64 0, .int .i64 0] 29
  go_enter Try.func8, Try.ntmps8
  go_wp2_with (fail)
  rw [← HW0.out]
  refine (CH.out W0 Hm0.out).mono ?_
  rintro e w1 ⟨r, rfl, hr, m1⟩
  have Hm1 : Hid (More W0 w1) := m1
  have D0 : Hid (Blk w1 w.heap.size #[.slice ra rl rc, .slice ca cl cc] 25) := B0.out.more m1
  have D1 : Hid (Blk w1 (w.heap.size + 1) #[.int .i64 0, .int .i64 0] 29) := B1.out.more m1
  clear m1 CH B0 B1
  have a2 : w1.cell? ⟨w.heap.size + 1, 0, none⟩ = some (.int .i64 0) := D1.out.cell rfl
  have a3 : w1.cell? ⟨w.heap.size + 1, 1, none⟩ = some (.int .i64 0) := D1.out.cell rfl
  have z2 := D1.out.frozen 0
  have z3 := D1.out.frozen 1
  cases r with
  | false =>
    have Hno : Hid (¬ p.Ok 8000 10) := fun h => by simpa using hr.2 h
    clear hr
    go_wp2
    refine bodyPost_ret (v := .tuple #[.slice none 0 0, .agg #[.int .i64 2, .int .i64 0]]) (by simp [results, Try.results8, go_sem, *]) rfl ?_
    refine ⟨(2, 0), .inl ⟨Hno.out, rfl⟩, ?_, .inr ⟨by decide, rfl⟩⟩
    exact ((Hm0.out.trans Hm1.out).setCell (by show w.heap.size ≤ _; simp) _).setCell (by show w.heap.size ≤ _; simp) _
  | true =>
    have Hok : Hid (p.Ok 8000 10) := hr.1 rfl
    clear hr a2 a3 z2 z3
    have hcl0 := Hok.out.2.1
    have hcl1 := Hok.out.2.2.1
    have hca := Hp.out.hc (by omega)
    rw [Hcl.out] at hcl0 hcl1
    obtain ⟨cb, Hcb⟩ : ∃ x, Hid (l.cb = x) := ⟨_, rfl⟩
    obtain ⟨co, Hco⟩ : ∃ x, Hid (l.co = x) := ⟨_, rfl⟩
    rw [Hca.out, Hcb.out, Hco.out] at hca
    subst hca
    have HC : Hid (∀ w1 : World, More w w1 → CodeAt w1 cb co cl p.ins) := fun w1 m1 => by
      have := Hp.out.code.more m1
      rw [Hcb.out, Hco.out, Hcl.out] at this
      exact this
    have HS0 : Hid (P8 w p (.slice ra rl rc) (.slice (some ⟨cb, co, none⟩) cl cc) 0 (.slice none 0 0) w1) := ⟨D0.out, D1.out, World.ownsRow_nil _ _ _ _, fun j hj => absurd hj (Nat.not_lt_zero _), Hm0.out.trans Hm1.out⟩
    obtain ⟨i0, hi, hz0, hz1, hz2⟩ := info_parts info40
    have Hi : Hid (Try.prog.info? 40 = some i0 ∧ i0.zero = some (.int .u32 0) ∧ i0.size = 1 ∧ i0.bytes = 4) := ⟨hi, hz0, hz1, hz2⟩
    clear hi hz0 hz1 hz2
    go_wp2_with (fail)
    go_loopg [5, 4] cl (fun g iv lv wr => ∃ (k : Nat) (va : Option Addr) (vc : Nat), k + g = cl ∧ iv = .int .i64 k ∧ lv = .slice va k vc ∧ Hid (P8 w p (.slice ra rl rc) (.slice (some ⟨cb, co, none⟩) cl cc) k (.slice va k vc) wr))
    case atStart => exact ⟨0, none, 0, by omega, rfl, rfl, HS0.out⟩
    case round =>
      obtain ⟨k, va, vc, hkg, rfl, rfl, Hr⟩ := hrel
      have b0 : wr.cell? ⟨w.heap.size, 0, none⟩ = some (.slice ra rl rc) := Hr.out.box.cell rfl
      have b1 : wr.cell? ⟨w.heap.size, 1, none⟩ = some (.slice (some ⟨cb, co, none⟩) cl cc) := Hr.out.box.cell rfl
      have a2 : wr.cell? ⟨w.heap.size + 1, 0, none⟩ = some (.int .i64 0) := Hr.out.res.cell rfl
      have a3 : wr.cell? ⟨w.heap.size + 1, 1, none⟩ = some (.int .i64 0) := Hr.out.res.cell rfl
      have z0 := Hr.out.res.lt
      have z2 := Hr.out.res.frozen 0
      have z3 := Hr.out.res.frozen 1
      cases gk with
      | zero =>
        obtain rfl : k = cl := by omega
        obtain ⟨g, c, hv, hlo, _⟩ := Hr.out.own.form (by omega)
        cases hv
        go_wp2
        refine bodyPost_ret (v := .tuple #[.slice (some ⟨g, 0, none⟩) k vc, .agg #[.int .i64 0, .int .i64 0]]) (by simp [results, Try.results8, go_sem, *]) rfl ?_
        refine ⟨(0, 0), .inr (.inr ⟨Hok.out, fun j hj => Hr.out.ok j (by rw [← Hcl.out]; exact hj), rfl⟩), ?_, .inl ⟨rfl, g, vc, by rw [Hcl.out], by omega, fun i hi => ?_⟩⟩
        · exact (Hr.out.more.setCell (by show w.heap.size ≤ _; simp) _).setCell (by show w.heap.size ≤ _; simp) _
        · rw [Hcl.out] at hi
          rw [World.cell?_setCell_other _ _ _ _ (by intro e; simp only [Addr.mk.injEq] at e; omega), World.cell?_setCell_other _ _ _ _ (by intro e; simp only [Addr.mk.injEq] at e; omega), Nat.zero_add, World.ownsRow.cellAt Hr.out.own i (by omega)]
          exact wordsL_get _ _ _ hi
      | succ g =>
        have hk : k < cl := by omega
        have hki : (k : Int) < cl := by omega
        have hk63 : wrap64 ((k : Int) + 1) = (k : Int) + 1 := by unfold wrap64; omega
        obtain ⟨q0, q1, q2, q3, q4⟩ := HC.out wr Hr.out.more k hk
        have hsm : Small (p.ins k) := small_of Hok.out.1.1 (Hok.out.2.2.2 k (by rw [Hcl.out]; exact hk))
        have Hst : Hid (∀ (w1 w2 : World), More wr w1 → ∀ lv' : Value, w1.grownBy w2 (Value.slice va k vc).ownBlock → N14 (p.ins k).n → w2.ownsRow (w.heap.size + 2) 40 1 lv' (k + 1) (wordsL (fun j => encW (p.ins j)) (k + 1)) → P8 w p (.slice ra rl rc) (.slice (some ⟨cb, co, none⟩) cl cc) (k + 1) lv' w2) := fun w1 w2 m1 lv' g2 hn own => Hr.out.step m1 g2 hn own
        have Hbad : Hid (¬ N14 (p.ins k).n → PutR p (3, (k : Int))) := fun h => .inr (.inl ⟨Hok.out, k, by rw [Hcl.out]; exact hk, Hr.out.ok, h, rfl⟩)
        have HW : Hid (wordsL (fun j => encW (p.ins j)) (k + 1) = wordsL (fun j => encW (p.ins j)) k ++ [.int .u32 (encW (p.ins k))]) := wordsL_next _ _
        obtain ⟨⟨op, a, b, c, n⟩, HI⟩ : ∃ x, Hid (p.ins k = x) := ⟨_, rfl⟩
        rw [HI.out] at q0 q1 q2 q3 q4 hsm Hbad
        rw [HI.out] at HW
        dsimp only at q0 q1 q2 q3 q4 Hbad
        obtain ⟨⟨o0, o1⟩, ⟨a0, a1⟩, ⟨b0', b1'⟩, ⟨c0, c1⟩⟩ := hsm
        dsimp only at o0 o1 a0 a1 b0' b1' c0 c1
        by_cases hn : N14 n
        · have hn' := hn
          obtain ⟨n0, n1⟩ := hn'
          have d1 : decide (n < -8192) = false := by simp; omega
          have d2 : decide (8191 < n) = false := by simp; omega
          obtain ⟨x, hx⟩ : ∃ x, ((op * 16 + a) * 16 + b) * 16 + c = x := ⟨_, rfl⟩
          have hx0 : 0 ≤ x ∧ x < 262144 := by omega
          have w1' : wrap64 (op * 16) = op * 16 := by unfold wrap64; omega
          have w2' : wrap64 (op * 16 + a) = op * 16 + a := by unfold wrap64; omega
          have w3' : wrap64 ((op * 16 + a) * 16) = (op * 16 + a) * 16 := by unfold wrap64; omega
          have w4' : wrap64 ((op * 16 + a) * 16 + b) = (op * 16 + a) * 16 + b := by unfold wrap64; omega
          have w5' : wrap64 (((op * 16 + a) * 16 + b) * 16) = ((op * 16 + a) * 16 + b) * 16 := by unfold wrap64; omega
          have w6' : wrap64 (((op * 16 + a) * 16 + b) * 16 + c) = x := by rw [hx]; unfold wrap64; omega
          have w7' : wrap64 (x * 16384) = x * 16384 := by unfold wrap64; omega
          have He : Hid (encW ⟨op, a, b, c, n⟩ = x * 16384 + (if n < 0 then n + 16384 else n)) := by show _ = _; unfold encW; dsimp only; rw [hx]
          have Hn : Hid (N14 (p.ins k).n) := by show N14 _; rw [HI.out]; exact hn
          clear hn Hbad hx o0 o1 a0 a1 b0' b1' c0 c1
          obtain ⟨u, hu⟩ : ∃ x, encW ⟨op, a, b, c, n⟩ = x := ⟨_, rfl⟩
          have hu32 : x * 16384 + (if n < 0 then n + 16384 else n) = u := by rw [← hu, He.out]
          rw [hu] at HW
          have Hown : Hid (((wr.alloc (.cells #[.int .i64 op, .int .i64 a, .int .i64 b, .int .i64 c, .int .i64 n] 39)).alloc (.cells #[.int .u32 u] 40)).ownsRow (w.heap.size + 2) 40 1 (.slice va k vc) k (wordsL (fun j => encW (p.ins j)) k)) := by
            refine World.ownsRow.kept Hr.out.own (gr_alloc (gr_alloc (grown_refl _ none) _) _) ?_
            cases (Value.slice va k vc).ownBlock with
            | none => left; rfl
            | some b => right; simp
          have Hnews : Hid (∀ j v, ([.int .u32 u] : List Value)[j]? = some v → ((wr.alloc (.cells #[.int .i64 op, .int .i64 a, .int .i64 b, .int .i64 c, .int .i64 n] 39)).alloc (.cells #[.int .u32 u] 40)).cell? ((⟨wr.heap.size + 1, 0, none⟩ : Addr).add j) = some v) := by
            have hb : Blk ((wr.alloc (.cells #[.int .i64 op, .int .i64 a, .int .i64 b, .int .i64 c, .int .i64 n] 39)).alloc (.cells #[.int .u32 u] 40)) (wr.heap.size + 1) #[.int .u32 u] 40 := by
              simpa using Blk.last (wr.alloc (.cells #[.int .i64 op, .int .i64 a, .int .i64 b, .int .i64 c, .int .i64 n] 39)) #[.int .u32 u] 40
            exact fun j v hv => World.news_of_block hb j v hv
          have Hsz : Hid (w.heap.size + 2 ≤ ((wr.alloc (.cells #[.int .i64 op, .int .i64 a, .int .i64 b, .int .i64 c, .int .i64 n] 39)).alloc (.cells #[.int .u32 u] 40)).heap.size) := by show _ ≤ _; simp; omega
          clear hu
          by_cases hn0 : n < 0
          · have d3 : decide (n < 0) = true := by simp [hn0]
            have w8' : wrap64 (n + 16384) = n + 16384 := by unfold wrap64; omega
            have w9' : wrap64 (x * 16384 + (n + 16384)) = x * 16384 + (n + 16384) := by unfold wrap64; omega
            have hm : (x * 16384 + (n + 16384)) % 4294967296 = u := by rw [if_pos hn0] at hu32; omega
            clear He hn0 hu32
            go_wp2_with (at_builtin; refine wpList_append_lies _ rfl (.tmp 58) (.tmp 61) 26 rfl (w.heap.size + 2) 40 i0 (.int .u32 0) 1 4 Try.underlying26 Hi.out.1 Hi.out.2.1 Hi.out.2.2.1 Hi.out.2.2.2 rfl (by decide) (.slice va k vc) k (wordsL (fun j => encW (p.ins j)) k) rfl Hown.out ⟨wr.heap.size + 1, 0, none⟩ 1 1 [.int .u32 u] rfl rfl Hnews.out (by simp; rfl) (by decide) (by unfold maxLen; omega) (by omega) Hsz.out _ rfl ?_; intro g3 cap3 w3 own3 gr3 hat3 hlt3)
            have Hr3 : Hid (P8 w p (.slice ra rl rc) (.slice (some ⟨cb, co, none⟩) cl cc) (k + 1) (.slice (some ⟨g3, 0, none⟩) (k + 1) cap3) w3) := by
              rw [← HW.out] at own3
              exact Hst.out _ _ (((More.refl _).alloc _ _).alloc _ _) _ gr3 Hn.out own3
            clear own3 gr3 hat3 hlt3
            go_wp2
            go_roundg g
            case measure => omega
            case rel => exact ⟨k + 1, _, cap3, by omega, by first | rfl | simp, rfl, Hr3.out⟩
          · have d3 : decide (n < 0) = false := by simp; omega
            have w9' : wrap64 (x * 16384 + n) = x * 16384 + n := by unfold wrap64; omega
            have hm : (x * 16384 + n) % 4294967296 = u := by rw [if_neg hn0] at hu32; omega
            clear He hn0 hu32
            go_wp2_with (at_builtin; refine wpList_append_lies _ rfl (.tmp 58) (.tmp 61) 26 rfl (w.heap.size + 2) 40 i0 (.int .u32 0) 1 4 Try.underlying26 Hi.out.1 Hi.out.2.1 Hi.out.2.2.1 Hi.out.2.2.2 rfl (by decide) (.slice va k vc) k (wordsL (fun j => encW (p.ins j)) k) rfl Hown.out ⟨wr.heap.size + 1, 0, none⟩ 1 1 [.int .u32 u] rfl rfl Hnews.out (by simp; rfl) (by decide) (by unfold maxLen; omega) (by omega) Hsz.out _ rfl ?_; intro g3 cap3 w3 own3 gr3 hat3 hlt3)
            have Hr3 : Hid (P8 w p (.slice ra rl rc) (.slice (some ⟨cb, co, none⟩) cl cc) (k + 1) (.slice (some ⟨g3, 0, none⟩) (k + 1) cap3) w3) := by
              rw [← HW.out] at own3
              exact Hst.out _ _ (((More.refl _).alloc _ _).alloc _ _) _ gr3 Hn.out own3
            clear own3 gr3 hat3 hlt3
            go_wp2
            go_roundg g
            case measure => omega
            case rel => exact ⟨k + 1, _, cap3, by omega, by first | rfl | simp, rfl, Hr3.out⟩
        · have HB : Hid (PutR p (3, (k : Int))) := Hbad.out hn
          have Hmr : Hid (More w wr) := Hr.out.more
          clear Hbad Hst HW
          have Hfin : Hid (∀ w' : World, w' = ((wr.setCell ⟨w.heap.size + 1, 0, none⟩ (.int .i64 3)).setCell ⟨w.heap.size + 1, 1, none⟩ (.int .i64 (k : Int))).alloc (.cells #[.int .i64 op, .int .i64 a, .int .i64 b, .int .i64 c, .int .i64 n] 39) → PutAns p w (.returned (.tuple #[.slice none 0 0, .agg #[.int .i64 3, .int .i64 (k : Int)]])) w') := fun w' e => by
            refine ⟨(3, (k : Int)), HB.out, ?_, .inr ⟨by show ¬ (3 : Int) = 0; decide, rfl⟩⟩
            rw [e]
            exact ((Hmr.out.setCell (by show w.heap.size ≤ _; simp) _).setCell (by show w.heap.size ≤ _; simp) _).alloc _ _
          by_cases h1 : n < -8192
          · have d1 : decide (n < -8192) = true := by simp [h1]
            clear hn
            go_wp2
            refine bodyPost_ret (v := .tuple #[.slice none 0 0, .agg #[.int .i64 3, .int .i64 (k : Int)]]) (by simp [results, Try.results8, go_sem, *]) rfl (Hfin.out _ rfl)
          · have d1 : decide (n < -8192) = false := by simp [h1]
            have d2 : decide (8191 < n) = true := by unfold N14 at hn; simp; omega
            clear hn h1
            go_wp2
            refine bodyPost_ret (v := .tuple #[.slice none 0 0, .agg #[.int .i64 3, .int .i64 (k : Int)]]) (by simp [results, Try.results8, go_sem, *]) rfl (Hfin.out _ rfl)

end Go.Proofs.Ytifdalddchmlmaa
