/-
  The texts StepEq, Play, RefSame, one behind the other.
-/
import Derived.Test.YtbfhchhggkpbdaaJoined0
import Derived.Test.YtbfhchhggkpbdaaJoined5
import Derived.Test.YtbfhchhggkpbdaaJoined3
import Derived.Laws.AppendOwnNone
import Derived.Test.YtbfhchhggkpbdaaRows
import Derived.WalkKit
import Derived.Deep.LoopGhost

/-
  What a step comes to, kind by kind, and a run behind it. No Go text in sight.
-/
namespace Go.Proofs.Ytbfhchhggkpbdaa
open Go.RowKit
set_option linter.unusedVariables false

theorem putI_load {i : Ins} (h : i.op = 3 ∨ i.op = 5) : putI i = 0 := by unfold putI; rw [if_pos h]
theorem putI_put {i : Ins} (h : i.op = 4 ∨ i.op = 6) : putI i = 1 := by unfold putI; rw [if_neg (by omega), if_pos h]
theorem putI_no {i : Ins} (h3 : ¬ i.op = 3) (h4 : ¬ i.op = 4) (h5 : ¬ i.op = 5) (h6 : ¬ i.op = 6) : putI i = -1 := by unfold putI; rw [if_neg (by omega), if_neg (by omega)]

theorem step_out {p : Prg} {s : St} {i : Ins} (hI : p.ins s.at_ = i) (hop : i.op = 3 ∨ i.op = 4 ∨ i.op = 5 ∨ i.op = 6) (hx : idxI s.r i < 0 ∨ (s.m.len i.c.toNat : Int) ≤ idxI s.r i) :
    stepI p s = (⟨s.at_ + 1, s.r, s.m, s.seen ++ [⟨1, s.at_, 0⟩]⟩, some (2, 0)) := by
  subst hI
  have hp : 0 ≤ putI (p.ins s.at_) := by
    rcases hop with h | h | h | h
    · rw [putI_load (.inl h)]; decide
    · rw [putI_put (.inl h)]; decide
    · rw [putI_load (.inr h)]; decide
    · rw [putI_put (.inr h)]; decide
  unfold stepI
  rw [if_neg (by omega), if_neg (by omega), if_neg (by omega), if_pos hp, if_pos hx]

theorem step_put {p : Prg} {s : St} {i : Ins} (hI : p.ins s.at_ = i) (hop : i.op = 4 ∨ i.op = 6) (hx : ¬ (idxI s.r i < 0 ∨ (s.m.len i.c.toNat : Int) ≤ idxI s.r i)) :
    stepI p s = (⟨s.at_ + 1, s.r, setW s.m i.c.toNat (idxI s.r i).toNat (s.r i.a.toNat), s.seen ++ [⟨1, s.at_, 0⟩] ++ [⟨2, baseI p.log i.c.toNat + idxI s.r i, 1⟩]⟩, none) := by
  subst hI
  have hp := putI_put hop
  unfold stepI
  rw [if_neg (by omega), if_neg (by omega), if_neg (by omega), if_pos (by rw [hp]; decide), if_neg hx, if_pos hp]

theorem step_load {p : Prg} {s : St} {i : Ins} (hI : p.ins s.at_ = i) (hop : i.op = 3 ∨ i.op = 5) (hx : ¬ (idxI s.r i < 0 ∨ (s.m.len i.c.toNat : Int) ≤ idxI s.r i)) :
    stepI p s = (⟨s.at_ + 1, setR s.r i.a (s.m.wd i.c.toNat (idxI s.r i).toNat), s.m, s.seen ++ [⟨1, s.at_, 0⟩] ++ [⟨2, baseI p.log i.c.toNat + idxI s.r i, 0⟩]⟩, none) := by
  subst hI
  have hp := putI_load hop
  unfold stepI
  rw [if_neg (by omega), if_neg (by omega), if_neg (by omega), if_pos (by rw [hp]; decide), if_neg hx, if_neg (by rw [hp]; decide)]

theorem step_regs {p : Prg} {s : St} {i : Ins} (hI : p.ins s.at_ = i) (h3 : ¬ i.op = 3) (h4 : ¬ i.op = 4) (h5 : ¬ i.op = 5) (h6 : ¬ i.op = 6) (h7 : ¬ i.op = 7) (h8 : ¬ i.op = 8) (h9 : ¬ i.op = 9) :
    stepI p s = (⟨s.at_ + 1, (regsI s.r i).1, s.m, s.seen ++ [⟨1, s.at_, 0⟩] ++ (regsI s.r i).2⟩, none) := by
  subst hI
  have hp := putI_no h3 h4 h5 h6
  unfold stepI
  rw [if_neg h7, if_neg h8, if_neg h9, if_neg (by rw [hp]; decide)]

theorem run_next {p : Prg} {g k : Nat} {s s' : St} {R : Sh} (h : runI p (g + 1) k s = R) (hat : s.at_ < p.cl) (e : stepI p s = (s', none)) : runI p g (k + 1) s' = R := by
  rw [runI, if_neg (by omega), e] at h
  exact h
theorem run_stop {p : Prg} {g k : Nat} {s s' : St} {R : Sh} {f v : Int} (h : runI p (g + 1) k s = R) (hat : s.at_ < p.cl) (e : stepI p s = (s', some (f, v))) : R = ⟨f, v, (k : Int) + 1, s'.seen, s'.m⟩ := by
  rw [runI, if_neg (by omega), e] at h
  exact h.symm

end Go.Proofs.Ytbfhchhggkpbdaa

/-
  What the reference's Play comes to: the run that chapter 3 says.
-/
namespace Go.Proofs.Ytbfhchhggkpbdaa
open Go.RowKit
set_option linter.unusedVariables false
set_option linter.unusedSimpArgs false

theorem hid_ofP {P : Prop} (h : P) : Hid P := h
theorem info47 : (Try.prog.info? 85).map (fun i => (i.zero, i.size, i.bytes)) = some (some (.agg #[.int .i64 0, .int .i64 0, .int .i64 0]), 3, 24) := by kernel_rfl
theorem cell_three_new (w : World) (x y z : Value) (t : TypeId) : ∀ j u, [x, y, z][j]? = some u → (w.alloc (.cells #[x, y, z] t)).cell? ((⟨w.heap.size, 0, none⟩ : Addr).add j) = some u := by
  intro j u h
  rw [Go.WideShapes.add_plain]
  have hj : j = 0 ∨ j = 1 ∨ j = 2 := by have := (List.getElem?_eq_some_iff.1 h).1; simp at this; omega
  rcases hj with rfl | rfl | rfl <;> (simp at h; subst h; go_simp)

theorem PAt.jump {w wr : World} {rv cv : Value} {B : Nat} {s : St} {k : Nat} {sv mv : Value} {mb mc : Nat} {G C : Nat → Nat} (h : PAt w wr rv cv B s k sv mv mb mc G C) (n : Nat) : PAt w wr rv cv B ⟨n, s.r, s.m, s.seen⟩ k sv mv mb mc G C :=
  ⟨h.more, h.size, h.low, h.b0, h.b1, h.o0, h.o1, h.o2, h.o3, h.o4, h.s0, h.s1, h.s2, h.s3, h.s4, h.regs, h.seen, h.mem⟩

set_option maxHeartbeats 2000000 in
set_option maxRecDepth 8000 in
theorem ref_play (p : Prg) (l : Loc) (m : Mem) (ml : MLoc) (fuel : Nat) (w : World) (hp : PIn w p l) (hm : MIn w m ml) (hok : p.Ok 8000 10) (hfit : p.Fit) (hml : m.ml = p.rl) (hlen : ∀ i, i < m.ml → (m.len i : Int) = wordsI (p.log i))
    (hwd : ∀ j, j < m.ml → ∀ i, i < m.len j → B64 (m.wd j i)) (hfuel : fuel ≤ 40000) :
    Calls Try.prog 26 #[.agg #[.slice l.ra p.rl l.rc, .slice l.ca p.cl l.cc], .slice ml.ma m.ml ml.mc, .int .i64 fuel] w fun e w' => ∃ v, e = .returned v ∧ ShownAt w' v (playI p m fuel) ∧ More w w' := by
  obtain ⟨ra, rb, ro, rc, ca, cb, co, cc⟩ := l
  dsimp only
  have H : Hid (PIn w p ⟨ra, rb, ro, rc, ca, cb, co, cc⟩ ∧ MIn w m ml ∧ p.Ok 8000 10 ∧ p.Fit ∧ m.ml = p.rl ∧ (∀ i, i < m.ml → (m.len i : Int) = wordsI (p.log i)) ∧ (∀ j, j < m.ml → ∀ i, i < m.len j → B64 (m.wd j i)) ∧ fuel ≤ 40000) := ⟨hp, hm, hok, hfit, hml, hlen, hwd, hfuel⟩
  have Hlen : Hid (m.ml ≤ 6 ∧ ∀ i, i < m.ml → 0 < m.len i ∧ m.len i ≤ 64) := by
    refine ⟨by rw [hml]; exact hok.1.1, fun i hi => ?_⟩
    have h1 := hlen i hi
    have h2 := hok.1.2 i (by rw [← hml]; exact hi)
    have h3 := two_pow_le (k := (p.log i).toNat) (by omega)
    unfold wordsI at h1
    omega
  obtain ⟨i2, hi2, hz0, hz1, hz2⟩ := info_parts info47
  have Hi : Hid (Try.prog.info? 85 = some i2 ∧ i2.zero = some (.agg #[.int .i64 0, .int .i64 0, .int .i64 0]) ∧ i2.size = 3 ∧ i2.bytes = 24) := ⟨hi2, hz0, hz1, hz2⟩
  clear hi2 hz0 hz1 hz2
  obtain ⟨R, HR⟩ : ∃ R, Hid (playI p m fuel = R) := ⟨_, rfl⟩
  rw [HR.out]
  clear hp hm hok hfit hml hlen hwd hfuel
  go_enter Try.func26, Try.ntmps26
  go_wp2_with (fail)
  have m0 : More w ((w.alloc (.cells #[.slice ra p.rl rc, .slice ca p.cl cc] 29)).alloc (.cells #[.int .i64 0, .int .i64 0, .int .i64 0, .slice none 0 0, .slice none 0 0] 37)) := ((More.refl _).alloc _ _).alloc _ _
  refine (ref_copy m ml _ (H.out.2.1.more m0) Hlen.out.1 Hlen.out.2).mono ?_
  rintro e w1 ⟨mv, G, C, rfl, cp, m1⟩
  obtain ⟨va, vc, rfl⟩ := own_form cp.own
  have Hcp : Hid (CpAt w1 (w.heap.size + 2) m m.ml (.slice va m.ml vc) G C) := (by simpa using cp : CpAt w1 (w.heap.size + 2) m m.ml (.slice va m.ml vc) G C)
  have Hm1 : Hid (More ((w.alloc (.cells #[.slice ra p.rl rc, .slice ca p.cl cc] 29)).alloc (.cells #[.int .i64 0, .int .i64 0, .int .i64 0, .slice none 0 0, .slice none 0 0] 37)) w1) := m1
  clear cp m1 m0
  have hmk := run_make_row' (P := Try.prog) 67 2 (.int .i64 0) 8 Try.underlying67 info2 rfl .i64 .i64 10 (by decide) (by decide)
  push_cast at hmk
  go_wp2
  obtain ⟨mb, mc, hmo⟩ := Hcp.out.own_
  have hs1 : w.heap.size + 2 ≤ w1.heap.size := by have := Hm1.out.size; simpa using this
  have HP0 : Hid (PAt w ((w1.alloc (.cells #[.int .i64 0, .int .i64 0, .int .i64 0, .slice none 0 0, .slice va m.ml vc] 37)).alloc (.cells (madeCells #[.int .i64 0] 10) 2)) (.slice ra p.rl rc) (.slice ca p.cl cc) w1.heap.size ⟨0, fun _ => 0, m, []⟩ 0 (.slice none 0 0) (.slice va m.ml vc) mb mc G C) :=
    play_start Hm1.out hs1 hmo
  clear hmk hmo
  go_loopg [9] fuel (fun g i wr => ∃ (k : Nat) (s : St) (sv : Value), k + g = fuel ∧ i = .int .i64 s.at_ ∧ PAt w wr (.slice ra p.rl rc) (.slice ca p.cl cc) w1.heap.size s k sv (.slice va m.ml vc) mb mc G C ∧ Inv p m k s ∧ runI p g k s = R)
  case atStart => exact ⟨0, ⟨0, fun _ => 0, m, []⟩, .slice none 0 0, by omega, rfl, HP0.out, ⟨Nat.zero_le _, fun _ _ => B64_zero, rfl, fun _ => rfl, H.out.2.2.2.2.2.2.1, by simp⟩, HR.out⟩
  case round =>
    obtain ⟨k, s, sv, hkg, rfl, hP, hI, hrun⟩ := hrel
    obtain ⟨at_, r, mm, se⟩ := s
    obtain ⟨sa, sc, rfl⟩ := own_form hP.seen
    have HP : Hid (PAt w wr (.slice ra p.rl rc) (.slice ca p.cl cc) w1.heap.size ⟨at_, r, mm, se⟩ k (.slice sa se.length sc) (.slice va m.ml vc) mb mc G C) := hP
    have HI : Hid (Inv p m k ⟨at_, r, mm, se⟩) := hI
    have Hrun : Hid (runI p gk k ⟨at_, r, mm, se⟩ = R) := hrun
    clear hP hI hrun HP0 hs1
    obtain ⟨b0, b1, o0, o1, o2, o3, o4, s0, s1, s2, s3, s4⟩ := HP.out.cells
    have hlow := HP.out.low
    have n1 : ¬ w1.heap.size = w.heap.size + 1 := by omega
    have n2 : ¬ w.heap.size + 1 = w1.heap.size := by omega
    have n3 : ¬ w1.heap.size = w.heap.size := by omega
    have n4 : ¬ w.heap.size = w1.heap.size := by omega
    clear hlow
    cases gk with
    | zero =>
      obtain rfl : k = fuel := by omega
      go_wp2
      refine bodyPost_ret (v := .agg #[.int .i64 0, .int .i64 0, .int .i64 k, .slice sa se.length sc, .slice va m.ml vc]) (by simp [results, Try.results26, go_sem, *]) rfl ⟨_, rfl, ?_⟩
      rw [← Hrun.out]
      exact HP.out.ends (by have := HI.out.seen; have := H.out.2.2.2.2.2.2.2; dsimp only at *; omega) (by have := HI.out.ml; have := Hlen.out.1; dsimp only at *; omega) (fun i hi => by have := HI.out.len i; have := (Hlen.out.2 i (by have := HI.out.ml; dsimp only at *; omega)).2; dsimp only at *; omega) HI.out.ml.symm (w0 := wr) (grown_refl _ _) (gr_set (gr_set (gr_set (gr_set (gr_set (grown_refl _ _) _ _) _ _) _ _) _ _) _ _) 0 0 k
    | succ g =>
      have hk' : (k : Int) < (fuel : Int) := by omega
      have Hb1 : Hid (se.length < 4611686018427387904) := (by have := HI.out.seen; have := H.out.2.2.2.2.2.2.2; dsimp only at *; omega : se.length < 4611686018427387904)
      have Hb2 : Hid (mm.ml < 4611686018427387904) := (by have := HI.out.ml; have := Hlen.out.1; dsimp only at *; omega : mm.ml < 4611686018427387904)
      have Hb3 : Hid (∀ i, i < mm.ml → mm.len i < 4611686018427387904) := fun i hi => by have := HI.out.len i; have := (Hlen.out.2 i (by have := HI.out.ml; dsimp only at *; omega)).2; dsimp only at *; omega
      by_cases hat : p.cl ≤ at_
      · have hat' : (p.cl : Int) ≤ (at_ : Int) := by omega
        have HR2 : Hid (R = ⟨2, 0, k, se, mm⟩) := by rw [← Hrun.out, runI, if_pos hat]; rfl
        clear Hrun
        go_wp2
        refine bodyPost_ret (v := .agg #[.int .i64 2, .int .i64 0, .int .i64 k, .slice sa se.length sc, .slice va m.ml vc]) (by simp [results, Try.results26, go_sem, *]) rfl ⟨_, rfl, ?_⟩
        rw [HR2.out]
        exact HP.out.ends Hb1.out Hb2.out Hb3.out HI.out.ml.symm (w0 := wr.setCell ⟨w1.heap.size, 0, none⟩ (.int .i64 2)) (grown_set _ _ _ _) (gr_set (gr_set (gr_set (gr_set (gr_set (grown_refl _ _) _ _) _ _) _ _) _ _) _ _) 2 0 k
      · have hat' : (at_ : Int) < (p.cl : Int) := by omega
        have hat0 : (0 : Int) ≤ (at_ : Int) := by omega
        have Hat : Hid (at_ < p.cl) := (by omega : at_ < p.cl)
        obtain rfl : ca = some ⟨cb, co, none⟩ := H.out.1.hc (by omega)
        have hcell := (H.out.1.code.more HP.out.more) at_ Hat.out
        cases hI : p.ins at_ with
        | mk op a b c n =>
        rw [hI] at hcell
        have HIn : Hid (p.ins at_ = ⟨op, a, b, c, n⟩) := hI
        clear hI
        obtain ⟨q0, q1, q2, q3, q4⟩ := hcell
        dsimp only at q0 q1 q2 q3 q4
        have hwk : wrap64 ((k : Int) + 1) = (k : Int) + 1 := by unfold wrap64; have := H.out.2.2.2.2.2.2.2; omega
        have hB : w1.heap.size < wr.heap.size := by have := HP.out.size; omega
        have HPW : Hid (PAt w (((wr.setCell ⟨w1.heap.size, 2, none⟩ (.int .i64 ((k : Int) + 1))).alloc (.cells #[.int .i64 op, .int .i64 a, .int .i64 b, .int .i64 c, .int .i64 n] 34)).alloc (.cells #[.int .i64 1, .int .i64 at_, .int .i64 0] 85)) (.slice ra p.rl rc) (.slice (some ⟨cb, co, none⟩) p.cl cc) w1.heap.size ⟨at_, r, mm, se⟩ (k + 1) (.slice sa se.length sc) (.slice va m.ml vc) mb mc G C) :=
          ((HP.out.steps (k + 1) _ (by push_cast; rfl)).alloc _).alloc _
        have Hsl : Hid (se.length ≤ 2 * k) := HI.out.seen
        have Hrow : Hid (∀ b, b < w1.heap.size + 2 → some b ≠ (Value.slice sa se.length sc).ownBlock) := fun b hb e => by have := (World.ownsRow.lt HP.out.seen b e.symm).1; omega
        have Hnew : Hid (some wr.heap.size ≠ (Value.slice sa se.length sc).ownBlock) := fun e => by have := (World.ownsRow.lt HP.out.seen _ e.symm).2; omega
        have n5 : ¬ w1.heap.size = wr.heap.size := by omega
        have n6 : ¬ wr.heap.size = w1.heap.size := by omega
        have hwa : wrap64 ((at_ : Int) + 1) = (at_ : Int) + 1 := by unfold wrap64; have := H.out.2.2.1.2.2.1; omega
        clear o0 o1 o2 o3 o4
        go_wp2_with (at_builtin; refine wpList_append_lies _ rfl (.tmp 41) (.tmp 44) 35 rfl (w1.heap.size + 2) 85 i2 (.agg #[.int .i64 0, .int .i64 0, .int .i64 0]) 3 24 Try.underlying35 Hi.out.1 Hi.out.2.1 Hi.out.2.2.1 Hi.out.2.2.2 rfl (by decide) (.slice sa se.length sc) se.length (flatS se) rfl HPW.out.seen ⟨wr.heap.size + 1, 0, none⟩ 1 1 [.int .i64 1, .int .i64 at_, .int .i64 0] rfl rfl (by simpa using cell_three_new ((wr.setCell ⟨w1.heap.size, 2, none⟩ (.int .i64 ((k : Int) + 1))).alloc (.cells #[.int .i64 op, .int .i64 a, .int .i64 b, .int .i64 c, .int .i64 n] 34)) (.int .i64 1) (.int .i64 at_) (.int .i64 0) 85) (fun x hx => by simp at hx; rcases hx with rfl | rfl | rfl <;> rfl) (by decide) (by have := Hb1.out; unfold maxLen; omega) (by have := Hsl.out; have := H.out.2.2.2.2.2.2.2; omega) (by have := HPW.out.size; omega) (wr.heap.size + 2) (by simp) ?_; intro g_ cap w2 own2 gr2 hat2 hlt2; obtain ⟨t3c, t3f⟩ := HPW.out.s3.kept gr2 (Hrow.out _ (by omega)); have j0 : w2.cell? ⟨wr.heap.size, 0, none⟩ = some (.int .i64 op) := gr2.cell (by go_simp) Hnew.out; have j1 : w2.cell? ⟨wr.heap.size, 1, none⟩ = some (.int .i64 a) := gr2.cell (by go_simp) Hnew.out; have j2 : w2.cell? ⟨wr.heap.size, 2, none⟩ = some (.int .i64 b) := gr2.cell (by go_simp) Hnew.out; have j3 : w2.cell? ⟨wr.heap.size, 3, none⟩ = some (.int .i64 c) := gr2.cell (by go_simp) Hnew.out; have j4 : w2.cell? ⟨wr.heap.size, 4, none⟩ = some (.int .i64 n) := gr2.cell (by go_simp) Hnew.out)
        have HP3 : Hid (PAt w (w2.setCell ⟨w1.heap.size, 3, none⟩ (.slice (some ⟨g_, 0, none⟩) (se.length + 1) cap)) (.slice ra p.rl rc) (.slice (some ⟨cb, co, none⟩) p.cl cc) w1.heap.size ⟨at_, r, mm, se ++ [⟨1, at_, 0⟩]⟩ (k + 1) (.slice (some ⟨g_, 0, none⟩) (se.length + 1) cap) (.slice va m.ml vc) mb mc G C) :=
          HPW.out.shown _ _ (by unfold SeenOwn; rw [flatS_append, List.length_append]; exact own2) gr2
        have hg3 := grown_set w2 w1.heap.size 3 (.slice (some ⟨g_, 0, none⟩) (se.length + 1) cap)
        have Hg_ : Hid (¬ wr.heap.size = g_) := fun e => by
          rcases hat2 with h1 | h1
          · exact Hnew.out (by rw [h1, e])
          · omega
        replace j0 := hg3.cell j0 (by simp; omega)
        replace j1 := hg3.cell j1 (by simp; omega)
        replace j2 := hg3.cell j2 (by simp; omega)
        replace j3 := hg3.cell j3 (by simp; omega)
        replace j4 := hg3.cell j4 (by simp; omega)
        obtain ⟨w3, hw3⟩ : ∃ w3, w2.setCell ⟨w1.heap.size, 3, none⟩ (.slice (some ⟨g_, 0, none⟩) (se.length + 1) cap) = w3 := ⟨_, rfl⟩
        rw [hw3] at HP3 j0 j1 j2 j3 j4 ⊢
        clear hw3 hg3 own2 gr2 hat2 hlt2 t3c t3f b0 b1 s0 s1 s2 s3 s4 q0 q1 q2 q3 q4
        refine (ref_put op a b c n _).mono ?_
        rintro e w4 ⟨rfl, m4⟩
        replace j0 := m4.cell j0
        replace j1 := m4.cell j1
        replace j2 := m4.cell j2
        replace j3 := m4.cell j3
        replace j4 := m4.cell j4
        have HP4 : Hid (PAt w w4 (.slice ra p.rl rc) (.slice (some ⟨cb, co, none⟩) p.cl cc) w1.heap.size ⟨at_, r, mm, se ++ [⟨1, at_, 0⟩]⟩ (k + 1) (.slice (some ⟨g_, 0, none⟩) (se.length + 1) cap) (.slice va m.ml vc) mb mc G C) := HP3.out.on m4
        clear HP3 m4
        have Hin : Hid (InsOk p.rl p.log p.cl 10 ⟨op, a, b, c, n⟩) := by have := H.out.2.2.1.2.2.2 at_ Hat.out; rw [HIn.out] at this; exact this
        obtain ⟨pu, hpu⟩ : ∃ x, putI ⟨op, a, b, c, n⟩ = x := ⟨_, rfl⟩
        rw [hpu]
        have Hpu : Hid (putI ⟨op, a, b, c, n⟩ = pu) := hpu
        clear hpu
        by_cases h7 : op = 7
        · subst h7
          have Hn : Hid (0 ≤ n ∧ n < p.cl) := by have h := Hin.out; unfold InsOk at h; simp at h; exact h.2.2.2
          have HR2 : Hid (runI p g (k + 1) ⟨n.toNat, r, mm, se ++ [⟨1, at_, 0⟩]⟩ = R) := by
            show _ = _
            have e9 := Hrun.out
            rw [runI, if_neg (by have := Hat.out; first | omega | (dsimp only; omega))] at e9
            rw [← e9]
            simp [stepI, HIn.out]
          go_wp2
          go_roundg g
          case measure => omega
          case rel =>
            refine ⟨k + 1, _, _, by omega, ?_, HP4.out.jump n.toNat, ?_, HR2.out⟩
            · have := Hn.out.1; dsimp only; rw [show ((n.toNat : Nat) : Int) = n by omega]
            · exact ⟨by have := Hn.out; dsimp only; omega, HI.out.r, HI.out.ml, HI.out.len, HI.out.wd, by have := Hsl.out; dsimp only; simp; omega⟩
        by_cases h8 : op = 8
        · subst h8
          have Hi8 : Hid ((0 ≤ a ∧ a < 10) ∧ (0 ≤ b ∧ b < 10) ∧ (0 ≤ n ∧ n < p.cl)) := by have h := Hin.out; unfold InsOk at h; simp at h; exact ⟨h.1, h.2.1, h.2.2.2⟩
          obtain ⟨⟨a0, a1⟩, ⟨b0', b1'⟩, _, _⟩ := Hi8.out
          have ya := (HP4.out.regs a.toNat (by omega)).1
          have yb := (HP4.out.regs b.toNat (by omega)).1
          have ba := HI.out.r a.toNat (by omega)
          have bb := HI.out.r b.toNat (by omega)
          dsimp only at ya yb ba bb
          have Hh : Hid (∀ w : World, Calls Try.prog 16 #[.int .i64 c, .int .i64 (r a.toNat), .int .i64 (r b.toNat)] w fun e w' => e = .returned (.bool (holdsI c (r a.toNat) (r b.toNat))) ∧ More w w') := fun w => ref_holds _ _ _ ba.1 ba.2 bb.1 bb.2 w
          have HR2 : Hid (runI p g (k + 1) ⟨if holdsI c (r a.toNat) (r b.toNat) = true then n.toNat else at_ + 1, r, mm, se ++ [⟨1, at_, 0⟩]⟩ = R) := by
            show _ = _
            have e9 := Hrun.out
            rw [runI, if_neg (by have := Hat.out; first | omega | (dsimp only; omega))] at e9
            rw [← e9]
            simp [stepI, HIn.out]
          obtain ⟨h, hh⟩ : ∃ x, holdsI c (r a.toNat) (r b.toNat) = x := ⟨_, rfl⟩
          rw [hh] at Hh HR2
          clear hh ba bb
          obtain ⟨S, HS⟩ : ∃ S : World → Prop, Hid (∀ w', S w' ↔ More w4 w') := ⟨fun w' => More w4 w', fun _ => Iff.rfl⟩
          have k1 : ∀ i : { w' // S w' }, i.val.cell? ⟨wr.heap.size, 1, none⟩ = some (.int .i64 a) := fun i => ((HS.out _).1 i.property).cell j1
          have k2 : ∀ i : { w' // S w' }, i.val.cell? ⟨wr.heap.size, 2, none⟩ = some (.int .i64 b) := fun i => ((HS.out _).1 i.property).cell j2
          have k3 : ∀ i : { w' // S w' }, i.val.cell? ⟨wr.heap.size, 3, none⟩ = some (.int .i64 c) := fun i => ((HS.out _).1 i.property).cell j3
          have ka : ∀ i : { w' // S w' }, i.val.cell? ⟨w1.heap.size + 1, a.toNat, none⟩ = some (.int .i64 (r a.toNat)) := fun i => ((HS.out _).1 i.property).cell ya
          have kb : ∀ i : { w' // S w' }, i.val.cell? ⟨w1.heap.size + 1, b.toNat, none⟩ = some (.int .i64 (r b.toNat)) := fun i => ((HS.out _).1 i.property).cell yb
          have hne : Nonempty { w' // S w' } := ⟨⟨w4, (HS.out _).2 (More.refl _)⟩⟩
          go_wp2_with (fail)
          refine wp_region_ord (S := S) [(0, true), (1, true), (2, true), (3, true), (4, true), (5, true), (6, true), (7, true), (8, true), (9, true), (10, true), (11, true), (12, false)] (by kernel_rfl) (by kernel_rfl) (by kernel_rfl) ((HS.out _).2 (More.refl _).drew) ?_
          iterate 12 (refine wpOrd_take rfl (by kernel_rfl) (fun K hK => ?_); go_simp; refine hK _ _ ?_; clear hK K)
          refine wpOrd_busy rfl (by kernel_rfl) (fun K hK => ?_); go_simp
          refine (Hh.out _).mono ?_
          rintro e w5 ⟨rfl, m5⟩
          have Hm5 : Hid (More w4 w5) := (More.refl _).drew.trans m5
          clear m5
          go_simp
          refine hK _ _ ((HS.out _).2 Hm5.out) ?_; clear hK K
          refine wpOrd_done ?_
          clear k1 k2 k3 ka kb hne ya yb
          have j4' := Hm5.out.cell j4
          cases h with
          | true =>
            go_wp2
            go_roundg g
            case measure => omega
            case rel =>
              refine ⟨k + 1, _, _, by omega, ?_, (HP4.out.on Hm5.out).jump n.toNat, ?_, HR2.out⟩
              · have := Hi8.out.2.2.1; dsimp only; rw [show ((n.toNat : Nat) : Int) = n by omega]
              · exact ⟨by have := Hi8.out.2.2; dsimp only; omega, HI.out.r, HI.out.ml, HI.out.len, HI.out.wd, by have := Hsl.out; dsimp only; simp; omega⟩
          | false =>
            go_wp2
            go_roundg g
            case measure => omega
            case rel =>
              refine ⟨k + 1, _, _, by omega, ?_, (HP4.out.on Hm5.out).jump (at_ + 1), ?_, HR2.out⟩
              · dsimp only; first | rfl | (simp; exact hwa) | (rw [hwa]; push_cast; rfl)
              · exact ⟨by have := Hat.out; dsimp only; omega, HI.out.r, HI.out.ml, HI.out.len, HI.out.wd, by have := Hsl.out; dsimp only; simp; omega⟩
        by_cases h9 : op = 9
        · subst h9
          have Hi9 : Hid (0 ≤ a ∧ a < 10) := by have h := Hin.out; unfold InsOk at h; simp at h; exact h.1
          obtain ⟨a0, a1⟩ := Hi9.out
          have ya := (HP4.out.regs a.toNat (by omega)).1
          dsimp only at ya
          obtain ⟨b0, b1, o0, o1, o2, o3, o4, s0, s1, s2, s3, s4⟩ := HP4.out.cells
          push_cast at s2
          have HR2 : Hid (R = ⟨1, r a.toNat, (k : Int) + 1, se ++ [⟨1, at_, 0⟩], mm⟩) := by
            show _ = _
            have e9 := Hrun.out
            rw [runI, if_neg (by have := Hat.out; first | omega | (dsimp only; omega))] at e9
            rw [← e9]
            simp [stepI, HIn.out]
          clear Hrun
          obtain ⟨y, hy⟩ : ∃ y, r a.toNat = y := ⟨_, rfl⟩
          rw [hy] at ya HR2
          clear hy
          go_wp2
          refine bodyPost_ret (v := .agg #[.int .i64 1, .int .i64 y, .int .i64 ((k : Int) + 1), .slice (some ⟨g_, 0, none⟩) (se.length + 1) cap, .slice va m.ml vc]) (by simp [results, Try.results26, go_sem, *]) rfl ⟨_, rfl, ?_⟩
          rw [HR2.out]
          exact HP4.out.ends (by have := Hb1.out; have := Hsl.out; have := H.out.2.2.2.2.2.2.2; dsimp only; simp; omega) Hb2.out Hb3.out HI.out.ml.symm (w0 := (w4.setCell ⟨w1.heap.size, 0, none⟩ (.int .i64 1)).setCell ⟨w1.heap.size, 1, none⟩ (.int .i64 y)) (gr_set (grown_set _ _ _ _) _ _) (gr_set (gr_set (gr_set (gr_set (gr_set (grown_refl _ _) _ _) _ _) _ _) _ _) _ _) 1 y ((k : Int) + 1)
        have Hinv : Hid (∀ s', (stepI p ⟨at_, r, mm, se⟩).1 = s' → Inv p m (k + 1) s') := by
          intro s' e
          rw [← e]
          refine step_inv HI.out Hat.out ?_ ?_ H.out.2.2.2.2.1
          · show InsOk p.rl p.log p.cl 10 (p.ins at_)
            rw [HIn.out]; exact Hin.out
          · exact (H.out.2.2.2.1.ins at_ Hat.out).2.2.2.2
        by_cases hop : op = 3 ∨ op = 4 ∨ op = 5 ∨ op = 6
        · have Hw : Hid ((0 ≤ a ∧ a < 10) ∧ (0 ≤ b ∧ b < 10) ∧ (0 ≤ c ∧ c < p.rl)) := by
            have h := Hin.out
            unfold InsOk Reg Rgn at h
            dsimp only at h
            rcases hop with rfl | rfl | rfl | rfl <;> simp at h <;> exact ⟨by omega, by omega, by omega⟩
          have hpu0 : 0 ≤ pu := by
            rw [← Hpu.out]
            rcases hop with h | h | h | h
            · rw [putI_load (.inl h)]; decide
            · rw [putI_put (.inl h)]; decide
            · rw [putI_load (.inr h)]; decide
            · rw [putI_put (.inr h)]; decide
          obtain ⟨⟨a0, a1⟩, ⟨b0', b1'⟩, ⟨c0, c1⟩⟩ := Hw.out
          have Hcm : Hid (c.toNat < mm.ml ∧ mm.ml = m.ml) := ⟨by have h1 := HI.out.ml; have h2 := H.out.2.2.2.2.1; dsimp only at h1; omega, HI.out.ml⟩
          have hval := HP4.out.mem.val (by have := Hcm.out.1; dsimp only; omega)
          have hval' := hval.1
          simp only [Value.slice.injEq] at hval'
          obtain ⟨rfl, hmm_, rfl⟩ := hval'
          clear hval hmm_
          obtain ⟨ix, hix⟩ : ∃ ix, idxI r ⟨op, a, b, c, n⟩ = ix := ⟨_, rfl⟩
          have Hix : Hid (idxI r ⟨op, a, b, c, n⟩ = ix) := hix
          have Hidx : Hid (∀ w, RegsR w (w1.heap.size + 1) r → Calls Try.prog 53 #[.slice (some ⟨w1.heap.size + 1, 0, none⟩) 10 10, .agg #[.int .i64 op, .int .i64 a, .int .i64 b, .int .i64 c, .int .i64 n]] w fun e w' => e = .returned (.int .i64 ix) ∧ More w w') := by
            intro w hr
            have := ref_index ⟨op, a, b, c, n⟩ (w1.heap.size + 1) (gc := 10) r w hr b0' b1'
            rw [hix] at this
            exact this
          have Hop := hid_ofP hop
          clear hix hop
          go_wp2_with (fail)
          refine (Hidx.out _ HP4.out.regs).mono ?_
          rintro e w5 ⟨rfl, m5⟩
          replace j0 := m5.cell j0
          replace j1 := m5.cell j1
          replace j2 := m5.cell j2
          replace j3 := m5.cell j3
          replace j4 := m5.cell j4
          have HP5 : Hid (PAt w w5 (.slice ra p.rl rc) (.slice (some ⟨cb, co, none⟩) p.cl cc) w1.heap.size ⟨at_, r, mm, se ++ [⟨1, at_, 0⟩]⟩ (k + 1) (.slice (some ⟨g_, 0, none⟩) (se.length + 1) cap) (.slice (some ⟨mb, 0, none⟩) m.ml vc) mb vc G C) := HP4.out.on m5
          clear HP4 m5 Hidx
          obtain ⟨ln, hln⟩ : ∃ ln, mm.len c.toNat = ln := ⟨_, rfl⟩
          have Hln : Hid (mm.len c.toNat = ln) := hln
          have row5 := HP5.out.mem.rows c.toNat Hcm.out.1
          dsimp only at row5
          rw [hln] at row5
          clear hln
          have c1' : c < (m.ml : Int) := by have := H.out.2.2.2.2.1; omega
          obtain ⟨b0, b1, o0, o1, o2, o3, o4, s0, s1, s2, s3, s4⟩ := HP5.out.cells
          push_cast at s2
          by_cases hx : ix < 0 ∨ (ln : Int) ≤ ix
          · have HR2 : Hid (R = ⟨2, 0, (k : Int) + 1, se ++ [⟨1, at_, 0⟩], mm⟩) := run_stop Hrun.out Hat.out (step_out (s := ⟨at_, r, mm, se⟩) HIn.out Hop.out (by rw [Hix.out, Hln.out]; exact hx))
            clear Hrun
            by_cases hx0 : ix < 0
            · go_wp2
              refine bodyPost_ret (v := .agg #[.int .i64 2, .int .i64 0, .int .i64 ((k : Int) + 1), .slice (some ⟨g_, 0, none⟩) (se.length + 1) cap, .slice (some ⟨mb, 0, none⟩) m.ml vc]) (by simp [results, Try.results26, go_sem, *]) rfl ⟨_, rfl, ?_⟩
              rw [HR2.out]
              exact HP5.out.ends (by have := Hb1.out; have := Hsl.out; have := H.out.2.2.2.2.2.2.2; dsimp only; simp; omega) Hb2.out Hb3.out HI.out.ml.symm (w0 := w5.setCell ⟨w1.heap.size, 0, none⟩ (.int .i64 2)) (grown_set _ _ _ _) (gr_set (gr_set (gr_set (gr_set (gr_set (grown_refl _ _) _ _) _ _) _ _) _ _) _ _) 2 0 ((k : Int) + 1)
            · have hx1 : (ln : Int) ≤ ix := by omega
              have dx0 : decide (ix < 0) = false := by simp; omega
              go_wp2
              refine bodyPost_ret (v := .agg #[.int .i64 2, .int .i64 0, .int .i64 ((k : Int) + 1), .slice (some ⟨g_, 0, none⟩) (se.length + 1) cap, .slice (some ⟨mb, 0, none⟩) m.ml vc]) (by simp [results, Try.results26, go_sem, *]) rfl ⟨_, rfl, ?_⟩
              rw [HR2.out]
              exact HP5.out.ends (by have := Hb1.out; have := Hsl.out; have := H.out.2.2.2.2.2.2.2; dsimp only; simp; omega) Hb2.out Hb3.out HI.out.ml.symm (w0 := w5.setCell ⟨w1.heap.size, 0, none⟩ (.int .i64 2)) (grown_set _ _ _ _) (gr_set (gr_set (gr_set (gr_set (gr_set (grown_refl _ _) _ _) _ _) _ _) _ _) _ _) 2 0 ((k : Int) + 1)
          · have hx0 : ¬ ix < 0 := by omega
            have hx1 : ¬ (ln : Int) ≤ ix := by omega
            have dx0 : decide (ix < 0) = false := by simp; omega
            have dx1 : decide ((ln : Int) ≤ ix) = false := by simp; omega
            have Hx : Hid (0 ≤ ix ∧ ix < (ln : Int)) := ⟨by omega, by omega⟩
            clear s0 s1 s2 o0 o1 o2 o3 o4 hx
            go_wp2_with (fail)
            refine (ref_base ra p.rl rc (some ⟨cb, co, none⟩) p.cl cc c rb ro p.log p.sec _ c0 c1 H.out.1.hr (H.out.1.regs.more HP5.out.more) H.out.2.2.1.1).mono ?_
            rintro e w6 ⟨rfl, m6⟩
            obtain ⟨bs, hbs⟩ : ∃ bs, baseI p.log c.toNat = bs := ⟨_, rfl⟩
            rw [hbs]
            have Hbs : Hid (baseI p.log c.toNat = bs) := hbs
            clear hbs
            replace j0 := m6.cell j0
            replace j1 := m6.cell j1
            replace j2 := m6.cell j2
            replace j3 := m6.cell j3
            replace j4 := m6.cell j4
            have HP6 : Hid (PAt w w6 (.slice ra p.rl rc) (.slice (some ⟨cb, co, none⟩) p.cl cc) w1.heap.size ⟨at_, r, mm, se ++ [⟨1, at_, 0⟩]⟩ (k + 1) (.slice (some ⟨g_, 0, none⟩) (se.length + 1) cap) (.slice (some ⟨mb, 0, none⟩) m.ml vc) mb vc G C) := HP5.out.on m6
            clear HP5 m6 b0 b1 s3 s4 row5
            have hwb : wrap64 (bs + ix) = bs + ix := by
              have h1 := base_eq p m H.out.2.2.2.2.2.1 c.toNat (by have := Hcm.out; omega)
              have h2 := baseN_le m.len c.toNat (fun j hj => (Hlen.out.2 j (by have := Hcm.out; omega)).2)
              have h3 := Hbs.out
              have h4 := Hx.out
              have h5 := HI.out.len c.toNat
              have h6 := (Hlen.out.2 c.toNat (by have := Hcm.out; omega)).2
              have h7 := Hln.out
              have h8 := Hlen.out.1
              have h9 := Hcm.out
              dsimp only at h5
              unfold wrap64
              omega
            by_cases hopp : op = 4 ∨ op = 6
            · obtain rfl : pu = 1 := by rw [← Hpu.out]; exact putI_put hopp
              have HPW6 : Hid (PAt w (w6.alloc (.cells #[.int .i64 2, .int .i64 (bs + ix), .int .i64 1] 85)) (.slice ra p.rl rc) (.slice (some ⟨cb, co, none⟩) p.cl cc) w1.heap.size ⟨at_, r, mm, se ++ [⟨1, at_, 0⟩]⟩ (k + 1) (.slice (some ⟨g_, 0, none⟩) (se.length + 1) cap) (.slice (some ⟨mb, 0, none⟩) m.ml vc) mb vc G C) := HP6.out.alloc _
              have Hown6 : Hid ((w6.alloc (.cells #[.int .i64 2, .int .i64 (bs + ix), .int .i64 1] 85)).ownsRow (w1.heap.size + 2) 85 3 (.slice (some ⟨g_, 0, none⟩) (se.length + 1) cap) (se.length + 1) (flatS (se ++ [⟨1, at_, 0⟩]))) := by
                have := HPW6.out.seen
                unfold SeenOwn at this
                rw [List.length_append] at this
                exact this
              obtain ⟨s3c, s3f⟩ := HP6.out.s3
              have lt6 : w1.heap.size < w6.heap.size := by have := HP6.out.size; omega
              have lt6' : wr.heap.size < w6.heap.size := cell_block j0
              have Hgl : Hid (w1.heap.size + 2 ≤ g_) := (World.ownsRow.lt Hown6.out g_ rfl).1
              go_wp2_with (at_builtin; refine wpList_append_lies _ rfl (.tmp 123) (.tmp 129) 35 rfl (w1.heap.size + 2) 85 i2 (.agg #[.int .i64 0, .int .i64 0, .int .i64 0]) 3 24 Try.underlying35 Hi.out.1 Hi.out.2.1 Hi.out.2.2.1 Hi.out.2.2.2 rfl (by decide) (.slice (some ⟨g_, 0, none⟩) (se.length + 1) cap) (se.length + 1) (flatS (se ++ [⟨1, at_, 0⟩])) rfl Hown6.out ⟨w6.heap.size, 0, none⟩ 1 1 [.int .i64 2, .int .i64 (bs + ix), .int .i64 1] rfl rfl (by simpa using cell_three_new w6 (.int .i64 2) (.int .i64 (bs + ix)) (.int .i64 1) 85) (fun x hx => by simp at hx; rcases hx with rfl | rfl | rfl <;> rfl) (by decide) (by have := Hb1.out; have := Hsl.out; have := H.out.2.2.2.2.2.2.2; unfold maxLen; omega) (by have := Hsl.out; have := H.out.2.2.2.2.2.2.2; omega) (by have := HPW6.out.size; omega) (w6.heap.size + 1) (by simp) ?_; intro g2 cap2 w7 own7 gr7 hat7 hlt7; obtain ⟨t3c, t3f⟩ := HPW6.out.s3.kept gr7 (by have := Hgl.out; simp [Value.ownBlock]; omega))
              have HP8 : Hid (PAt w (w7.setCell ⟨w1.heap.size, 3, none⟩ (.slice (some ⟨g2, 0, none⟩) (se.length + 1 + 1) cap2)) (.slice ra p.rl rc) (.slice (some ⟨cb, co, none⟩) p.cl cc) w1.heap.size ⟨at_, r, mm, se ++ [⟨1, at_, 0⟩] ++ [⟨2, bs + ix, 1⟩]⟩ (k + 1) (.slice (some ⟨g2, 0, none⟩) (se.length + 1 + 1) cap2) (.slice (some ⟨mb, 0, none⟩) m.ml vc) mb vc G C) :=
                HPW6.out.shown _ _ (by unfold SeenOwn; rw [flatS_append, List.length_append, List.length_append]; exact own7) gr7
              have hnb : some wr.heap.size ≠ (Value.slice (some ⟨g_, 0, none⟩) (se.length + 1) cap).ownBlock := by have := Hg_.out; simp [Value.ownBlock]; exact this
              have hg8 := grown_set w7 w1.heap.size 3 (.slice (some ⟨g2, 0, none⟩) (se.length + 1 + 1) cap2)
              have hnB : some wr.heap.size ≠ some w1.heap.size := by simp; omega
              have al6 := World.grownBy_alloc w6 (.cells #[.int .i64 2, .int .i64 (bs + ix), .int .i64 1] 85) none
              replace j1 := hg8.cell (gr7.cell (al6.cell j1 (by simp)) hnb) hnB
              replace j3 := hg8.cell (gr7.cell (al6.cell j3 (by simp)) hnb) hnB
              obtain ⟨w8, hw8⟩ : ∃ w8, w7.setCell ⟨w1.heap.size, 3, none⟩ (.slice (some ⟨g2, 0, none⟩) (se.length + 1 + 1) cap2) = w8 := ⟨_, rfl⟩
              rw [hw8] at HP8 j1 j3 ⊢
              clear hw8 hg8 al6 hnb hnB own7 gr7 hat7 hlt7 t3c t3f s3c s3f j0 j2 j4 lt6 lt6' hwb
              have row8 := HP8.out.mem.rows c.toNat Hcm.out.1
              dsimp only at row8
              rw [Hln.out] at row8
              obtain ⟨yw, fw⟩ := HP8.out.mem.words c.toNat Hcm.out.1 ix.toNat (by have := Hx.out; have := Hln.out; dsimp only; omega)
              dsimp only at yw
              obtain ⟨ya, fa⟩ := HP8.out.regs a.toNat (by omega)
              dsimp only at ya
              have s4 := HP8.out.s4.1
              obtain ⟨x0, x1⟩ := Hx.out
              obtain ⟨y, hy⟩ : ∃ y, r a.toNat = y := ⟨_, rfl⟩
              rw [hy] at ya
              have HR2 : Hid (runI p g (k + 1) ⟨at_ + 1, r, setW mm c.toNat ix.toNat y, se ++ [⟨1, at_, 0⟩] ++ [⟨2, bs + ix, 1⟩]⟩ = R ∧ Inv p m (k + 1) ⟨at_ + 1, r, setW mm c.toNat ix.toNat y, se ++ [⟨1, at_, 0⟩] ++ [⟨2, bs + ix, 1⟩]⟩) := by
                have e := step_put (s := ⟨at_, r, mm, se⟩) HIn.out hopp (by rw [Hix.out]; dsimp only; rw [Hln.out]; omega)
                rw [Hix.out] at e
                dsimp only at e
                rw [Hbs.out, hy] at e
                exact ⟨run_next Hrun.out Hat.out e, Hinv.out _ (by rw [e])⟩
              clear hy Hrun
              go_wp2_with (fail)
              go_region
              go_wp2
              go_roundg g
              case measure => omega
              case rel =>
                have hPW := (HP8.out.worded c.toNat ix.toNat Hcm.out.1 (by have := Hx.out; have := Hln.out; dsimp only; omega) y).drew
                exact ⟨k + 1, _, _, by omega, by first | rfl | (push_cast; rfl), hPW.jump (at_ + 1), HR2.out.2, HR2.out.1⟩
            · have hoppl : op = 3 ∨ op = 5 := by have := Hop.out; omega
              obtain rfl : pu = 0 := by rw [← Hpu.out]; exact putI_load hoppl
              have HPW6 : Hid (PAt w (w6.alloc (.cells #[.int .i64 2, .int .i64 (bs + ix), .int .i64 0] 85)) (.slice ra p.rl rc) (.slice (some ⟨cb, co, none⟩) p.cl cc) w1.heap.size ⟨at_, r, mm, se ++ [⟨1, at_, 0⟩]⟩ (k + 1) (.slice (some ⟨g_, 0, none⟩) (se.length + 1) cap) (.slice (some ⟨mb, 0, none⟩) m.ml vc) mb vc G C) := HP6.out.alloc _
              have Hown6 : Hid ((w6.alloc (.cells #[.int .i64 2, .int .i64 (bs + ix), .int .i64 0] 85)).ownsRow (w1.heap.size + 2) 85 3 (.slice (some ⟨g_, 0, none⟩) (se.length + 1) cap) (se.length + 1) (flatS (se ++ [⟨1, at_, 0⟩]))) := by
                have := HPW6.out.seen
                unfold SeenOwn at this
                rw [List.length_append] at this
                exact this
              obtain ⟨s3c, s3f⟩ := HP6.out.s3
              have lt6 : w1.heap.size < w6.heap.size := by have := HP6.out.size; omega
              have lt6' : wr.heap.size < w6.heap.size := cell_block j0
              have Hgl : Hid (w1.heap.size + 2 ≤ g_) := (World.ownsRow.lt Hown6.out g_ rfl).1
              go_wp2_with (at_builtin; refine wpList_append_lies _ rfl (.tmp 123) (.tmp 129) 35 rfl (w1.heap.size + 2) 85 i2 (.agg #[.int .i64 0, .int .i64 0, .int .i64 0]) 3 24 Try.underlying35 Hi.out.1 Hi.out.2.1 Hi.out.2.2.1 Hi.out.2.2.2 rfl (by decide) (.slice (some ⟨g_, 0, none⟩) (se.length + 1) cap) (se.length + 1) (flatS (se ++ [⟨1, at_, 0⟩])) rfl Hown6.out ⟨w6.heap.size, 0, none⟩ 1 1 [.int .i64 2, .int .i64 (bs + ix), .int .i64 0] rfl rfl (by simpa using cell_three_new w6 (.int .i64 2) (.int .i64 (bs + ix)) (.int .i64 0) 85) (fun x hx => by simp at hx; rcases hx with rfl | rfl | rfl <;> rfl) (by decide) (by have := Hb1.out; have := Hsl.out; have := H.out.2.2.2.2.2.2.2; unfold maxLen; omega) (by have := Hsl.out; have := H.out.2.2.2.2.2.2.2; omega) (by have := HPW6.out.size; omega) (w6.heap.size + 1) (by simp) ?_; intro g2 cap2 w7 own7 gr7 hat7 hlt7; obtain ⟨t3c, t3f⟩ := HPW6.out.s3.kept gr7 (by have := Hgl.out; simp [Value.ownBlock]; omega))
              have HP8 : Hid (PAt w (w7.setCell ⟨w1.heap.size, 3, none⟩ (.slice (some ⟨g2, 0, none⟩) (se.length + 1 + 1) cap2)) (.slice ra p.rl rc) (.slice (some ⟨cb, co, none⟩) p.cl cc) w1.heap.size ⟨at_, r, mm, se ++ [⟨1, at_, 0⟩] ++ [⟨2, bs + ix, 0⟩]⟩ (k + 1) (.slice (some ⟨g2, 0, none⟩) (se.length + 1 + 1) cap2) (.slice (some ⟨mb, 0, none⟩) m.ml vc) mb vc G C) :=
                HPW6.out.shown _ _ (by unfold SeenOwn; rw [flatS_append, List.length_append, List.length_append]; exact own7) gr7
              have hnb : some wr.heap.size ≠ (Value.slice (some ⟨g_, 0, none⟩) (se.length + 1) cap).ownBlock := by have := Hg_.out; simp [Value.ownBlock]; exact this
              have hg8 := grown_set w7 w1.heap.size 3 (.slice (some ⟨g2, 0, none⟩) (se.length + 1 + 1) cap2)
              have hnB : some wr.heap.size ≠ some w1.heap.size := by simp; omega
              have al6 := World.grownBy_alloc w6 (.cells #[.int .i64 2, .int .i64 (bs + ix), .int .i64 0] 85) none
              replace j1 := hg8.cell (gr7.cell (al6.cell j1 (by simp)) hnb) hnB
              replace j3 := hg8.cell (gr7.cell (al6.cell j3 (by simp)) hnb) hnB
              obtain ⟨w8, hw8⟩ : ∃ w8, w7.setCell ⟨w1.heap.size, 3, none⟩ (.slice (some ⟨g2, 0, none⟩) (se.length + 1 + 1) cap2) = w8 := ⟨_, rfl⟩
              rw [hw8] at HP8 j1 j3 ⊢
              clear hw8 hg8 al6 hnb hnB own7 gr7 hat7 hlt7 t3c t3f s3c s3f j0 j2 j4 lt6 lt6' hwb
              have row8 := HP8.out.mem.rows c.toNat Hcm.out.1
              dsimp only at row8
              rw [Hln.out] at row8
              obtain ⟨yw, fw⟩ := HP8.out.mem.words c.toNat Hcm.out.1 ix.toNat (by have := Hx.out; have := Hln.out; dsimp only; omega)
              dsimp only at yw
              obtain ⟨ya, fa⟩ := HP8.out.regs a.toNat (by omega)
              dsimp only at ya
              have s4 := HP8.out.s4.1
              obtain ⟨x0, x1⟩ := Hx.out
              obtain ⟨y, hy⟩ : ∃ y, mm.wd c.toNat ix.toNat = y := ⟨_, rfl⟩
              rw [hy] at yw
              have HR2 : Hid (runI p g (k + 1) ⟨at_ + 1, setR r a y, mm, se ++ [⟨1, at_, 0⟩] ++ [⟨2, bs + ix, 0⟩]⟩ = R ∧ Inv p m (k + 1) ⟨at_ + 1, setR r a y, mm, se ++ [⟨1, at_, 0⟩] ++ [⟨2, bs + ix, 0⟩]⟩) := by
                have e := step_load (s := ⟨at_, r, mm, se⟩) HIn.out hoppl (by rw [Hix.out]; dsimp only; rw [Hln.out]; omega)
                rw [Hix.out] at e
                dsimp only at e
                rw [Hbs.out, hy] at e
                exact ⟨run_next Hrun.out Hat.out e, Hinv.out _ (by rw [e])⟩
              clear hy Hrun
              go_wp2_with (fail)
              go_region
              go_wp2
              go_roundg g
              case measure => omega
              case rel =>
                have hPW := (HP8.out.regd (setR r a y) (HP8.out.regs.set a y) (grown_set _ _ _ _)).drew
                exact ⟨k + 1, _, _, by omega, by first | rfl | (push_cast; rfl), hPW.jump (at_ + 1), HR2.out.2, HR2.out.1⟩
        have h3 : ¬ op = 3 := by omega
        have h4 : ¬ op = 4 := by omega
        have h5 : ¬ op = 5 := by omega
        have h6 : ¬ op = 6 := by omega
        obtain rfl : pu = -1 := by rw [← Hpu.out]; exact putI_no h3 h4 h5 h6
        have HG : Hid (∀ w', PAt w w' (.slice ra p.rl rc) (.slice (some ⟨cb, co, none⟩) p.cl cc) w1.heap.size ⟨at_, r, mm, se ++ [⟨1, at_, 0⟩]⟩ (k + 1) (.slice (some ⟨g_, 0, none⟩) (se.length + 1) cap) (.slice va m.ml vc) mb mc G C → Calls Try.prog 55 #[.slice (some ⟨w1.heap.size + 1, 0, none⟩) 10 10, .agg #[.int .i64 op, .int .i64 a, .int .i64 b, .int .i64 c, .int .i64 n]] w' fun e w'' =>
            ∃ sv, e = .returned sv ∧ (((regsI r ⟨op, a, b, c, n⟩).2 = [] ∧ sv = .slice none 0 0) ∨ ∃ t, (regsI r ⟨op, a, b, c, n⟩).2 = [t]) ∧ SeenAt w'' sv (regsI r ⟨op, a, b, c, n⟩).2 ∧ RegsR w'' (w1.heap.size + 1) (regsI r ⟨op, a, b, c, n⟩).1 ∧ w'.grownBy w'' (some (w1.heap.size + 1))) :=
          fun w' hp => ref_registers ⟨op, a, b, c, n⟩ (w1.heap.size + 1) r w' hp.regs HI.out.r Hin.out h3 h4 h5 h6 h7 h8 h9
        have HE : Hid (stepI p ⟨at_, r, mm, se⟩ = (⟨at_ + 1, (regsI r ⟨op, a, b, c, n⟩).1, mm, se ++ [⟨1, at_, 0⟩] ++ (regsI r ⟨op, a, b, c, n⟩).2⟩, none)) := step_regs (s := ⟨at_, r, mm, se⟩) HIn.out h3 h4 h5 h6 h7 h8 h9
        obtain ⟨r2, hr2⟩ : ∃ r2, (regsI r ⟨op, a, b, c, n⟩).1 = r2 := ⟨_, rfl⟩
        obtain ⟨l2, hl2⟩ : ∃ l2, (regsI r ⟨op, a, b, c, n⟩).2 = l2 := ⟨_, rfl⟩
        rw [hr2, hl2] at HG HE
        have HR2 : Hid (runI p g (k + 1) ⟨at_ + 1, r2, mm, se ++ [⟨1, at_, 0⟩] ++ l2⟩ = R ∧ Inv p m (k + 1) ⟨at_ + 1, r2, mm, se ++ [⟨1, at_, 0⟩] ++ l2⟩) := ⟨run_next Hrun.out Hat.out HE.out, Hinv.out _ (by rw [HE.out])⟩
        clear hr2 hl2 HE Hrun Hinv hop
        go_wp2_with (fail)
        refine (HG.out _ HP4.out).mono ?_
        rintro e w5 ⟨sv5, rfl, hsv, hse5, hr5, gr5⟩
        have HP5 : Hid (PAt w w5 (.slice ra p.rl rc) (.slice (some ⟨cb, co, none⟩) p.cl cc) w1.heap.size ⟨at_, r2, mm, se ++ [⟨1, at_, 0⟩]⟩ (k + 1) (.slice (some ⟨g_, 0, none⟩) (se.length + 1) cap) (.slice va m.ml vc) mb mc G C) := HP4.out.regd r2 hr5 gr5
        have Hown5 : Hid (w5.ownsRow (w1.heap.size + 2) 85 3 (.slice (some ⟨g_, 0, none⟩) (se.length + 1) cap) (se.length + 1) (flatS (se ++ [⟨1, at_, 0⟩]))) := by
          have := HP5.out.seen
          unfold SeenOwn at this
          rw [List.length_append] at this
          exact this
        obtain ⟨s3c, s3f⟩ := HP5.out.s3
        have Hgl : Hid (w1.heap.size + 2 ≤ g_) := (World.ownsRow.lt Hown5.out g_ rfl).1
        clear hr5 gr5 HG HP4 j0 j1 j2 j3 j4
        rcases hsv with ⟨rfl, rfl⟩ | ⟨t, rfl⟩
        · clear hse5
          go_wp2_with (at_builtin; refine wpList_append_own_none rfl (.tmp 55) (.tmp 56) 35 rfl (w1.heap.size + 2) 85 i2 3 Try.underlying35 Hi.out.1 (.slice (some ⟨g_, 0, none⟩) (se.length + 1) cap) (se.length + 1) (flatS (se ++ [⟨1, at_, 0⟩])) rfl Hown5.out rfl ?_)
          go_roundg g
          case measure => omega
          case rel =>
            have hPW := HP5.out.shown (se ++ [⟨1, at_, 0⟩]) (.slice (some ⟨g_, 0, none⟩) (se.length + 1) cap) HP5.out.seen (grown_refl _ _)
            have e2 := HR2.out
            rw [List.append_nil] at e2
            exact ⟨k + 1, _, _, by omega, by first | rfl | (push_cast; rfl), hPW.jump (at_ + 1), e2.2, e2.1⟩
        · obtain ⟨a5, b5, o5, c5, rfl, ha5, hs5, _⟩ := hse5
          obtain rfl := ha5 (by simp)
          have hnews : ∀ j u, [Value.int .i64 t.kind, .int .i64 t.a, .int .i64 t.b][j]? = some u → w5.cell? ((⟨b5, o5, none⟩ : Addr).add j) = some u := by
            intro j u hu
            rw [Go.WideShapes.add_plain]
            have q := hs5 0 t rfl
            simp only [Nat.zero_mul, Nat.add_zero] at q
            have hj : j = 0 ∨ j = 1 ∨ j = 2 := by have := (List.getElem?_eq_some_iff.1 hu).1; simp at this; omega
            rcases hj with rfl | rfl | rfl
            · simp at hu; subst hu; exact q.1
            · simp at hu; subst hu; exact q.2.1
            · simp at hu; subst hu; exact q.2.2
          have Hnews := hid_ofP hnews
          have lt5 : w1.heap.size + 1 < w5.heap.size := HP5.out.size
          clear hs5 ha5 hnews
          go_wp2_with (at_builtin; refine wpList_append_lies _ rfl (.tmp 55) (.tmp 56) 35 rfl (w1.heap.size + 2) 85 i2 (.agg #[.int .i64 0, .int .i64 0, .int .i64 0]) 3 24 Try.underlying35 Hi.out.1 Hi.out.2.1 Hi.out.2.2.1 Hi.out.2.2.2 rfl (by decide) (.slice (some ⟨g_, 0, none⟩) (se.length + 1) cap) (se.length + 1) (flatS (se ++ [⟨1, at_, 0⟩])) rfl Hown5.out ⟨b5, o5, none⟩ 1 c5 [.int .i64 t.kind, .int .i64 t.a, .int .i64 t.b] rfl rfl Hnews.out (fun x hx => by simp at hx; rcases hx with rfl | rfl | rfl <;> rfl) (by decide) (by have := Hb1.out; have := Hsl.out; have := H.out.2.2.2.2.2.2.2; unfold maxLen; omega) (by have := Hsl.out; have := H.out.2.2.2.2.2.2.2; omega) (by omega) w5.heap.size rfl ?_; intro g2 cap2 w7 own7 gr7 hat7 hlt7; obtain ⟨t3c, t3f⟩ := HP5.out.s3.kept gr7 (by have := Hgl.out; simp [Value.ownBlock]; omega))
          go_roundg g
          case measure => omega
          case rel =>
            have hPW := HP5.out.shown (se ++ [⟨1, at_, 0⟩] ++ [t]) (.slice (some ⟨g2, 0, none⟩) (se.length + 1 + 1) cap2) (by unfold SeenOwn; rw [flatS_append, List.length_append, List.length_append]; exact own7) gr7
            exact ⟨k + 1, _, _, by omega, by first | rfl | (push_cast; rfl), hPW.jump (at_ + 1), HR2.out.2, HR2.out.1⟩

end Go.Proofs.Ytbfhchhggkpbdaa

/-
  What the reference's Seen, Memories and Same come to where both sides hold the same.
-/
namespace Go.Proofs.Ytbfhchhggkpbdaa
open Go.RowKit

set_option maxHeartbeats 1000000 in
theorem ref_seen (u v : Value) (l : List Se) (w : World) (hu : SeenAt w u l) (hv : SeenAt w v l) :
    Calls Try.prog 50 #[u, v] w fun e w' => e = .returned (.bool true) ∧ More w w' := by
  obtain ⟨a, b, o, c, rfl, ha, h1, hb⟩ := hu
  obtain ⟨a', b', o', c', rfl, ha', h1', _⟩ := hv
  obtain ⟨n, hn⟩ : ∃ n, l.length = n := ⟨_, rfl⟩
  have H : Hid ((0 < n → a = some ⟨b, o, none⟩) ∧ SeesAt w b o l ∧ (0 < n → a' = some ⟨b', o', none⟩) ∧ SeesAt w b' o' l ∧ n < 4611686018427387904 ∧ l.length = n) := by
    subst hn; exact ⟨ha, h1, ha', h1', hb, rfl⟩
  rw [hn]
  clear ha h1 ha' h1' hb hn
  go_enter Try.func50, Try.ntmps50
  go_wp2
  go_loopg [5] n (fun q i wr => ∃ k : Nat, k + q = n ∧ i = .int .i64 k ∧ More w wr)
  case atStart => exact ⟨0, by omega, rfl, More.refl _⟩
  case round =>
    obtain ⟨k, hkg, rfl, m⟩ := hrel
    have Hm : Hid (More w wr) := m
    clear m
    cases gk with
    | zero =>
      obtain rfl : k = n := by omega
      go_wp2
      go_ret
      exact ⟨rfl, Hm.out⟩
    | succ q =>
      have hk : k < n := by omega
      have hk' : (k : Int) < (n : Int) := by omega
      have hk0 : (0 : Int) ≤ (k : Int) := by omega
      obtain rfl := H.out.1 (by omega)
      obtain rfl := H.out.2.2.1 (by omega)
      obtain ⟨s, Hs⟩ : ∃ s, Hid (l[k]? = some s) := ⟨_, List.getElem?_eq_getElem (by have := H.out.2.2.2.2.2; omega)⟩
      have q1 := (H.out.2.1.more Hm.out) k s Hs.out
      have q2 := (H.out.2.2.2.1.more Hm.out) k s Hs.out
      obtain ⟨x, y, z⟩ := s
      obtain ⟨S, HS⟩ : ∃ S : World → Prop, Hid (∀ w', S w' ↔ More wr w') := ⟨fun w' => More wr w', fun _ => Iff.rfl⟩
      have k0 : ∀ i : { w' // S w' }, i.val.cell? ⟨b, o + k * 3, none⟩ = some (.int .i64 x) := fun i => ((HS.out _).1 i.property).cell q1.1
      have k1 : ∀ i : { w' // S w' }, i.val.cell? ⟨b, o + k * 3 + 1, none⟩ = some (.int .i64 y) := fun i => ((HS.out _).1 i.property).cell q1.2.1
      have k2 : ∀ i : { w' // S w' }, i.val.cell? ⟨b, o + k * 3 + 2, none⟩ = some (.int .i64 z) := fun i => ((HS.out _).1 i.property).cell q1.2.2
      have d0 : ∀ i : { w' // S w' }, i.val.cell? ⟨b', o' + k * 3, none⟩ = some (.int .i64 x) := fun i => ((HS.out _).1 i.property).cell q2.1
      have d1 : ∀ i : { w' // S w' }, i.val.cell? ⟨b', o' + k * 3 + 1, none⟩ = some (.int .i64 y) := fun i => ((HS.out _).1 i.property).cell q2.2.1
      have d2 : ∀ i : { w' // S w' }, i.val.cell? ⟨b', o' + k * 3 + 2, none⟩ = some (.int .i64 z) := fun i => ((HS.out _).1 i.property).cell q2.2.2
      have hne : Nonempty { w' // S w' } := ⟨⟨wr, (HS.out _).2 (More.refl _)⟩⟩
      clear q1 q2
      go_wp2_with (fail)
      refine wp_region_ord (S := S) [(0, true), (1, true), (2, true), (3, true), (4, true), (5, true), (6, true), (7, true), (8, true)] (by kernel_rfl) (by kernel_rfl) (by kernel_rfl) ((HS.out _).2 (More.refl _).drew) ?_
      iterate 9 (refine wpOrd_take rfl (by kernel_rfl) (fun K hK => ?_); go_simp; refine hK _ _ ?_; clear hK K)
      refine wpOrd_done ?_
      clear k0 k1 k2 d0 d1 d2 hne
      go_wp2
      go_roundg q
      case measure => omega
      case rel => exact ⟨k + 1, by omega, by first | rfl | (simp; unfold wrap64; have := H.out.2.2.2.2.1; omega), Hm.out.drew⟩

set_option maxHeartbeats 1000000 in
theorem ref_memories (x y : Mem) (l l' : MLoc) (w : World) (hx : MIn w x l) (hy : MIn w y l') (hl : x.Like y) :
    Calls Try.prog 31 #[.slice l.ma x.ml l.mc, .slice l'.ma y.ml l'.mc] w fun e w' => e = .returned (.bool true) ∧ More w w' := by
  obtain ⟨ma, mb, mo, mc, A, C, gb, go⟩ := l
  obtain ⟨ma', mb', mo', mc', A', C', gb', go'⟩ := l'
  have H : Hid (MIn w x ⟨ma, mb, mo, mc, A, C, gb, go⟩ ∧ MIn w y ⟨ma', mb', mo', mc', A', C', gb', go'⟩ ∧ x.Like y) := ⟨hx, hy, hl⟩
  clear hx hy hl
  obtain ⟨n, hn⟩ : ∃ n, x.ml = n := ⟨_, rfl⟩
  have hn' : y.ml = n := by rw [← H.out.2.2.ml]; exact hn
  dsimp only
  rw [hn, hn']
  have Hn : Hid (x.ml = n ∧ y.ml = n) := ⟨hn, hn'⟩
  clear hn hn'
  go_enter Try.func31, Try.ntmps31
  go_wp2
  go_loopg [5] n (fun q i wr => ∃ k : Nat, k + q = n ∧ i = .int .i64 k ∧ More w wr)
  case atStart => exact ⟨0, by omega, rfl, More.refl _⟩
  case round =>
    obtain ⟨k, hkg, rfl, m⟩ := hrel
    have Hm : Hid (More w wr) := m
    clear m
    cases gk with
    | zero =>
      obtain rfl : k = n := by omega
      go_wp2
      go_ret
      exact ⟨rfl, Hm.out⟩
    | succ q =>
      have hk : k < n := by omega
      have hk' : (k : Int) < (n : Int) := by omega
      have hk0 : (0 : Int) ≤ (k : Int) := by omega
      have Hk : Hid (k < x.ml ∧ k < y.ml) := ⟨by rw [Hn.out.1]; exact hk, by rw [Hn.out.2]; exact hk⟩
      obtain rfl : ma = some ⟨mb, mo, none⟩ := H.out.1.hm (by have := Hk.out.1; omega)
      obtain rfl : ma' = some ⟨mb', mo', none⟩ := H.out.2.1.hm (by have := Hk.out.2; omega)
      have q1 := H.out.1.lists k Hk.out.1
      have q2 := H.out.2.1.lists k Hk.out.2
      dsimp only at q1 q2
      rw [← H.out.2.2.len k Hk.out.1] at q2
      obtain ⟨r, hr⟩ : ∃ r, x.len k = r := ⟨_, rfl⟩
      rw [hr] at q1 q2
      have HR : Hid (x.len k = r ∧ r < 4611686018427387904) := ⟨hr, by rw [← hr]; exact H.out.1.fitw k Hk.out.1⟩
      clear hr
      have Ha : Hid (0 < r → A k = some ⟨gb k, go k, none⟩) := fun h => H.out.1.hg k Hk.out.1 (by rw [HR.out.1]; exact h)
      have Ha' : Hid (0 < r → A' k = some ⟨gb' k, go' k, none⟩) := fun h => H.out.2.1.hg k Hk.out.2 (by rw [← H.out.2.2.len k Hk.out.1, HR.out.1]; exact h)
      obtain ⟨Ak, hA⟩ : ∃ z, A k = z := ⟨_, rfl⟩
      obtain ⟨Ak', hA'⟩ : ∃ z, A' k = z := ⟨_, rfl⟩
      rw [hA] at q1 Ha
      rw [hA'] at q2 Ha'
      clear hA hA'
      have Hq : Hid (w.cell? ⟨mb, mo + k, none⟩ = some (.slice Ak r (C k)) ∧ w.cell? ⟨mb', mo' + k, none⟩ = some (.slice Ak' r (C' k))) := ⟨q1, q2⟩
      obtain ⟨S, HS⟩ : ∃ S : World → Prop, Hid (∀ w', S w' ↔ More wr w') := ⟨fun w' => More wr w', fun _ => Iff.rfl⟩
      have k0 : ∀ i : { w' // S w' }, i.val.cell? ⟨mb, mo + k, none⟩ = some (.slice Ak r (C k)) := fun i => ((HS.out _).1 i.property).cell (Hm.out.cell q1)
      have k1 : ∀ i : { w' // S w' }, i.val.cell? ⟨mb', mo' + k, none⟩ = some (.slice Ak' r (C' k)) := fun i => ((HS.out _).1 i.property).cell (Hm.out.cell q2)
      have hne : Nonempty { w' // S w' } := ⟨⟨wr, (HS.out _).2 (More.refl _)⟩⟩
      clear q1 q2
      go_wp2_with (fail)
      refine wp_region_ord (S := S) [(0, true), (1, true), (2, true), (3, true), (4, true), (5, true), (6, true), (7, true), (8, true), (9, true), (10, true)] (by kernel_rfl) (by kernel_rfl) (by kernel_rfl) ((HS.out _).2 (More.refl _).drew) ?_
      iterate 11 (refine wpOrd_take rfl (by kernel_rfl) (fun K hK => ?_); go_simp; refine hK _ _ ?_; clear hK K)
      refine wpOrd_done ?_
      clear k0 k1 hne
      go_wp2
      go_loopg [6] r (fun g i wq => ∃ j : Nat, j + g = r ∧ i = .int .i64 j ∧ More w wq)
      case atStart => exact ⟨0, by omega, rfl, Hm.out.drew⟩
      case round =>
        obtain ⟨j, hjg, rfl, mq⟩ := hrel
        have q1 := mq.cell Hq.out.1
        have q2 := mq.cell Hq.out.2
        have Hmq : Hid (More w wr) := mq
        clear mq
        cases gk with
        | zero =>
          obtain rfl : j = r := by omega
          go_wp2
          go_roundg q
          case measure => omega
          case rel => exact ⟨k + 1, by omega, by first | rfl | (simp; unfold wrap64; have := H.out.1.fitl; have := Hn.out.1; omega), Hmq.out⟩
        | succ g =>
          have hj : j < r := by omega
          have hj' : (j : Int) < (r : Int) := by omega
          have hj0 : (0 : Int) ≤ (j : Int) := by omega
          obtain rfl := Ha.out (by omega)
          obtain rfl := Ha'.out (by omega)
          have p1 := Hmq.out.cell (H.out.1.words k Hk.out.1 j (by rw [HR.out.1]; exact hj))
          have p2 := Hmq.out.cell (H.out.2.1.words k Hk.out.2 j (by rw [← H.out.2.2.len k Hk.out.1, HR.out.1]; exact hj))
          rw [← H.out.2.2.wd k Hk.out.1 j (by rw [HR.out.1]; exact hj)] at p2
          dsimp only at p1 p2
          obtain ⟨z, hz⟩ : ∃ z, x.wd k j = z := ⟨_, rfl⟩
          rw [hz] at p1 p2
          clear hz
          obtain ⟨S, HS⟩ : ∃ S : World → Prop, Hid (∀ w', S w' ↔ More wr w') := ⟨fun w' => More wr w', fun _ => Iff.rfl⟩
          have k0 : ∀ i : { w' // S w' }, i.val.cell? ⟨mb, mo + k, none⟩ = some (.slice (some ⟨gb k, go k, none⟩) r (C k)) := fun i => ((HS.out _).1 i.property).cell q1
          have k1 : ∀ i : { w' // S w' }, i.val.cell? ⟨mb', mo' + k, none⟩ = some (.slice (some ⟨gb' k, go' k, none⟩) r (C' k)) := fun i => ((HS.out _).1 i.property).cell q2
          have k2 : ∀ i : { w' // S w' }, i.val.cell? ⟨gb k, go k + j, none⟩ = some (.int .i64 z) := fun i => ((HS.out _).1 i.property).cell p1
          have k3 : ∀ i : { w' // S w' }, i.val.cell? ⟨gb' k, go' k + j, none⟩ = some (.int .i64 z) := fun i => ((HS.out _).1 i.property).cell p2
          have hne : Nonempty { w' // S w' } := ⟨⟨wr, (HS.out _).2 (More.refl _)⟩⟩
          go_wp2_with (fail)
          refine wp_region_ord (S := S) [(0, true), (1, true), (2, true), (3, true), (4, true), (5, true), (6, true), (7, true), (8, true), (9, true), (10, true), (11, true), (12, true), (13, true), (14, true)] (by kernel_rfl) (by kernel_rfl) (by kernel_rfl) ((HS.out _).2 (More.refl _).drew) ?_
          iterate 15 (refine wpOrd_take rfl (by kernel_rfl) (fun K hK => ?_); go_simp; refine hK _ _ ?_; clear hK K)
          refine wpOrd_done ?_
          clear k0 k1 k2 k3 hne p1 p2 q1 q2
          go_wp2
          go_roundg g
          case measure => omega
          case rel => exact ⟨j + 1, by omega, by first | rfl | (simp; unfold wrap64; have := HR.out.2; omega), Hmq.out.drew⟩

set_option maxHeartbeats 1000000 in
theorem ref_same (u v : Value) (x y : Sh) (w : World) (hu : ShownAt w u x) (hv : ShownAt w v y) (h1 : x.fin = y.fin) (h2 : x.val = y.val) (h3 : x.steps = y.steps) (h4 : x.seen = y.seen) (h5 : x.mem.Like y.mem) :
    Calls Try.prog 25 #[u, v] w fun e w' => e = .returned (.bool true) ∧ More w w' := by
  obtain ⟨fx, vx, tx, sx, mx⟩ := x
  obtain ⟨fy, vy, ty, sy, my⟩ := y
  dsimp only at h1 h2 h3 h4 h5
  subst h1 h2 h3 h4
  obtain ⟨sv, l, rfl, hs, hm⟩ := hu
  obtain ⟨sv', l', rfl, hs', hm'⟩ := hv
  dsimp only at hs hs' hm hm' ⊢
  have H : Hid (SeenAt w sv sx ∧ SeenAt w sv' sx ∧ MIn w mx l ∧ MIn w my l' ∧ mx.Like my) := ⟨hs, hs', hm, hm', h5⟩
  clear hs hs' hm hm' h5
  go_enter Try.func25, Try.ntmps25
  go_wp2_with (fail)
  have m0 : More w ((w.alloc (.cells #[.int .i64 fx, .int .i64 vx, .int .i64 tx, sv, .slice l.ma mx.ml l.mc] 37)).alloc (.cells #[.int .i64 fx, .int .i64 vx, .int .i64 tx, sv', .slice l'.ma my.ml l'.mc] 37)) := ((More.refl _).alloc _ _).alloc _ _
  refine (ref_seen sv sv' sx _ (H.out.1.more m0) (H.out.2.1.more m0)).mono ?_
  rintro e w1 ⟨rfl, m1⟩
  have e0 : w1.cell? ⟨w.heap.size, 4, none⟩ = some (.slice l.ma mx.ml l.mc) := m1.cell (by go_simp)
  have e1 : w1.cell? ⟨w.heap.size + 1, 4, none⟩ = some (.slice l'.ma my.ml l'.mc) := m1.cell (by go_simp)
  have Hm1 : Hid (More w w1) := m0.trans m1
  clear m0 m1
  go_wp2_with (fail)
  refine (ref_memories mx my l l' _ (H.out.2.2.1.more Hm1.out) (H.out.2.2.2.1.more Hm1.out) H.out.2.2.2.2).mono ?_
  rintro e w2 ⟨rfl, m2⟩
  have Hm2 : Hid (More w w2) := Hm1.out.trans m2
  clear m2 e0 e1
  go_wp2
  go_ret
  exact ⟨rfl, Hm2.out⟩

end Go.Proofs.Ytbfhchhggkpbdaa
