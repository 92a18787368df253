/-
  The texts R8, HdLaw, HdSame, SemSpec, SpQuiet, CkQuiet, HdShape, HdPlain, RPlace, HdMask, HdCode, HdClone, HdDoes, HdLike, HdMake, HdDone, one behind the other, with what is used of them.
-/
import Derived.Test.YtnppcfkmiddaeabRows
import Derived.WalkKit
import Derived.Deep.LoopGhost
import Derived.Test.YtnppcfkmiddaeabJoined0
import Derived.Test.YtnppcfkmiddaeabJoined6
import Derived.Test.YtnppcfkmiddaeabJoined8
import Derived.Test.YtnppcfkmiddaeabJoined5
import Derived.Deep.AppendLies
import Derived.Laws.AppendOwnNone
import Derived.Test.YtnppcfkmiddaeabProg
import Derived.Deep.OwnRows
import Derived.Lib.SliceRun
namespace Go.Proofs.Ytnppcfkmiddaeab
section
open Go.RowKit
set_option linter.unusedSimpArgs false
set_option linter.unusedVariables false
set_option maxRecDepth 8000
/-- Two programs are one. -/
structure Prg.Eq8 (p q : Prg) : Prop where
  rl : p.rl = q.rl
  reg : ∀ i, i < p.rl → p.log i = q.log i ∧ p.sec i = q.sec i
  cl : p.cl = q.cl
  ins : ∀ i, i < p.cl → p.ins i = q.ins i

set_option maxHeartbeats 2000000 in
theorem same8_true (p q : Prg) (l l' : Loc) (w : World) (hp : PIn w p l) (hq : PIn w q l') (h : p.Eq8 q) (hrl : p.rl < 4611686018427387904) (hcl : p.cl < 4611686018427387904) :
    Calls Try.prog 22 #[.agg #[.slice l.ra p.rl l.rc, .slice l.ca p.cl l.cc], .agg #[.slice l'.ra q.rl l'.rc, .slice l'.ca q.cl l'.cc]] w fun e w' => e = .returned (.bool true) ∧ More w w' := by
  have H : Hid (PIn w p l ∧ PIn w q l' ∧ p.Eq8 q) := ⟨hp, hq, h⟩
  rw [← h.rl, ← h.cl]
  clear hp hq h
  obtain ⟨rl, Hrl⟩ : ∃ x, Hid (p.rl = x) := ⟨_, rfl⟩
  obtain ⟨cl, Hcl⟩ : ∃ x, Hid (p.cl = x) := ⟨_, rfl⟩
  obtain ⟨ra, rb, ro, rc, ca, cb, co, cc⟩ := l
  obtain ⟨ra', rb', ro', rc', ca', cb', co', cc'⟩ := l'
  dsimp only
  rw [Hrl.out] at hrl
  rw [Hcl.out] at hcl
  rw [Hrl.out, Hcl.out]
  obtain ⟨W, HW⟩ : ∃ W : World, Hid (W = (w.alloc (.cells #[.slice ra rl rc, .slice ca cl cc] 30)).alloc (.cells #[.slice ra' rl rc', .slice ca' cl cc'] 30)) := ⟨_, rfl⟩
  have HM : Hid (More w W) := by rw [HW.out]; exact ((More.refl _).alloc _ _).alloc _ _
  have b0 : W.cell? ⟨w.heap.size, 0, none⟩ = some (.slice ra rl rc) := by rw [HW.out]; go_simp
  have b1 : W.cell? ⟨w.heap.size, 1, none⟩ = some (.slice ca cl cc) := by rw [HW.out]; go_simp
  have b2 : W.cell? ⟨w.heap.size + 1, 0, none⟩ = some (.slice ra' rl rc') := by rw [HW.out]; go_simp
  have b3 : W.cell? ⟨w.heap.size + 1, 1, none⟩ = some (.slice ca' cl cc') := by rw [HW.out]; go_simp
  have HB : Hid (∀ w', More W w' → w'.cell? ⟨w.heap.size, 0, none⟩ = some (.slice ra rl rc) ∧ w'.cell? ⟨w.heap.size, 1, none⟩ = some (.slice ca cl cc) ∧ w'.cell? ⟨w.heap.size + 1, 0, none⟩ = some (.slice ra' rl rc') ∧ w'.cell? ⟨w.heap.size + 1, 1, none⟩ = some (.slice ca' cl cc')) := fun w' m => ⟨m.cell b0, m.cell b1, m.cell b2, m.cell b3⟩
  go_enter Try.func22, Try.ntmps22
  go_wp2_with (fail)
  rw [← HW.out]
  clear b0 b1 b2 b3
  go_loopg [5] rl (fun g iv wr => ∃ k : Nat, k + g = rl ∧ iv = .int .i64 k ∧ Hid (More W wr))
  case atStart => exact ⟨0, by omega, rfl, More.refl _⟩
  case round =>
    obtain ⟨k, hkg, rfl, Hr⟩ := hrel
    obtain ⟨b0, b1, b2, b3⟩ := HB.out wr Hr.out
    cases gk with
    | zero =>
      obtain rfl : k = rl := by omega
      go_wp2_with (fail)
      go_loopg [6] cl (fun g iv wr => ∃ k : Nat, k + g = cl ∧ iv = .int .i64 k ∧ Hid (More W wr))
      case atStart => exact ⟨0, by omega, rfl, Hr.out⟩
      case round =>
        clear b0 b1 b2 b3
        obtain ⟨j, hjg, rfl, Hs⟩ := hrel
        obtain ⟨b0, b1, b2, b3⟩ := HB.out wr Hs.out
        cases gk with
        | zero =>
          obtain rfl : j = cl := by omega
          go_wp2
          go_ret
          exact ⟨rfl, HM.out.trans Hs.out⟩
        | succ g =>
          have hj : j < cl := by omega
          have hji : (j : Int) < cl := by omega
          have hj63 : wrap64 ((j : Int) + 1) = (j : Int) + 1 := by unfold wrap64; omega
          have hjp : j < p.cl := by rw [Hcl.out]; exact hj
          have q1 := (H.out.1.code.more (HM.out.trans Hs.out)) j hjp
          have q2 := (H.out.2.1.code.more (HM.out.trans Hs.out)) j (by rw [← H.out.2.2.cl]; exact hjp)
          rw [← H.out.2.2.ins j hjp] at q2
          obtain rfl : ca = some ⟨cb, co, none⟩ := H.out.1.hc (by omega)
          obtain rfl : ca' = some ⟨cb', co', none⟩ := H.out.2.1.hc (by rw [← H.out.2.2.cl]; omega)
          dsimp only at q1 q2
          obtain ⟨i, hi⟩ : ∃ i, p.ins j = i := ⟨_, rfl⟩
          rw [hi] at q1 q2
          obtain ⟨op, a, b, c, n⟩ := i
          dsimp only at q1 q2
          obtain ⟨x0, x1, x2, x3, x4⟩ := q1
          obtain ⟨y0, y1, y2, y3, y4⟩ := q2
          clear hi hjp
          obtain ⟨S, HS⟩ : ∃ S : World → Prop, Hid (∀ w', S w' ↔ More wr w') := ⟨_, fun _ => Iff.rfl⟩
          have HS0 : S wr.drew := (HS.out _).2 (More.refl _).drew
          have hne : Nonempty { w' // S w' } := ⟨⟨_, HS0⟩⟩
          have k0 : ∀ i : { w' // S w' }, i.val.cell? ⟨w.heap.size, 1, none⟩ = some (.slice (some ⟨cb, co, none⟩) cl cc) := fun i => ((HS.out _).1 i.property).cell b1
          have k1 : ∀ i : { w' // S w' }, i.val.cell? ⟨w.heap.size + 1, 1, none⟩ = some (.slice (some ⟨cb', co', none⟩) cl cc') := fun i => ((HS.out _).1 i.property).cell b3
          have k2 : ∀ i : { w' // S w' }, i.val.cell? ⟨cb, co + j * 5, none⟩ = some (.int .i64 op) := fun i => ((HS.out _).1 i.property).cell x0
          have k3 : ∀ i : { w' // S w' }, i.val.cell? ⟨cb', co' + j * 5, none⟩ = some (.int .i64 op) := fun i => ((HS.out _).1 i.property).cell y0
          have k4 : ∀ i : { w' // S w' }, i.val.cell? ⟨cb, co + j * 5 + 1, none⟩ = some (.int .i64 a) := fun i => ((HS.out _).1 i.property).cell x1
          have k5 : ∀ i : { w' // S w' }, i.val.cell? ⟨cb', co' + j * 5 + 1, none⟩ = some (.int .i64 a) := fun i => ((HS.out _).1 i.property).cell y1
          have k6 : ∀ i : { w' // S w' }, i.val.cell? ⟨cb, co + j * 5 + 2, none⟩ = some (.int .i64 b) := fun i => ((HS.out _).1 i.property).cell x2
          have k7 : ∀ i : { w' // S w' }, i.val.cell? ⟨cb', co' + j * 5 + 2, none⟩ = some (.int .i64 b) := fun i => ((HS.out _).1 i.property).cell y2
          have k8 : ∀ i : { w' // S w' }, i.val.cell? ⟨cb, co + j * 5 + 3, none⟩ = some (.int .i64 c) := fun i => ((HS.out _).1 i.property).cell x3
          have k9 : ∀ i : { w' // S w' }, i.val.cell? ⟨cb', co' + j * 5 + 3, none⟩ = some (.int .i64 c) := fun i => ((HS.out _).1 i.property).cell y3
          have k10 : ∀ i : { w' // S w' }, i.val.cell? ⟨cb, co + j * 5 + 4, none⟩ = some (.int .i64 n) := fun i => ((HS.out _).1 i.property).cell x4
          have k11 : ∀ i : { w' // S w' }, i.val.cell? ⟨cb', co' + j * 5 + 4, none⟩ = some (.int .i64 n) := fun i => ((HS.out _).1 i.property).cell y4
          go_wp2_with (fail)
          refine wp_region_ord (S := S) [(0, true), (1, true), (2, true), (3, true), (4, true), (5, true), (6, true), (7, true), (8, true), (9, true), (10, true)] (by kernel_rfl) (by kernel_rfl) (by kernel_rfl) HS0 ?_
          iterate 11 (refine wpOrd_take rfl (by kernel_rfl) (fun K hK => ?_); go_simp; refine hK _ _ ?_; clear hK K)
          refine wpOrd_done ?_
          clear hne HS0 k0 k1 k2 k3 k4 k5 k6 k7 k8 k9 k10 k11
          go_wp2
          go_roundg g
          case measure => omega
          case rel => exact ⟨j + 1, by omega, by first | rfl | simp, Hs.out.trans (More.refl _).drew⟩
    | succ g =>
      have hk : k < rl := by omega
      have hki : (k : Int) < rl := by omega
      have hk63 : wrap64 ((k : Int) + 1) = (k : Int) + 1 := by unfold wrap64; omega
      have hkp : k < p.rl := by rw [Hrl.out]; exact hk
      have q1 := (H.out.1.regs.more (HM.out.trans Hr.out)) k hkp
      have q2 := (H.out.2.1.regs.more (HM.out.trans Hr.out)) k (by rw [← H.out.2.2.rl]; exact hkp)
      rw [← (H.out.2.2.reg k hkp).1, ← (H.out.2.2.reg k hkp).2] at q2
      obtain rfl : ra = some ⟨rb, ro, none⟩ := H.out.1.hr (by omega)
      obtain rfl : ra' = some ⟨rb', ro', none⟩ := H.out.2.1.hr (by rw [← H.out.2.2.rl]; omega)
      dsimp only at q1 q2
      obtain ⟨lg, hlg⟩ : ∃ i, p.log k = i := ⟨_, rfl⟩
      obtain ⟨sc, hsc⟩ : ∃ i, p.sec k = i := ⟨_, rfl⟩
      rw [hlg, hsc] at q1 q2
      obtain ⟨x0, x1⟩ := q1
      obtain ⟨y0, y1⟩ := q2
      clear hlg hsc hkp
      obtain ⟨S, HS⟩ : ∃ S : World → Prop, Hid (∀ w', S w' ↔ More wr w') := ⟨_, fun _ => Iff.rfl⟩
      have HS0 : S wr.drew := (HS.out _).2 (More.refl _).drew
      have hne : Nonempty { w' // S w' } := ⟨⟨_, HS0⟩⟩
      have k0 : ∀ i : { w' // S w' }, i.val.cell? ⟨w.heap.size, 0, none⟩ = some (.slice (some ⟨rb, ro, none⟩) rl rc) := fun i => ((HS.out _).1 i.property).cell b0
      have k1 : ∀ i : { w' // S w' }, i.val.cell? ⟨w.heap.size + 1, 0, none⟩ = some (.slice (some ⟨rb', ro', none⟩) rl rc') := fun i => ((HS.out _).1 i.property).cell b2
      have k2 : ∀ i : { w' // S w' }, i.val.cell? ⟨rb, ro + k * 2, none⟩ = some (.int .i64 lg) := fun i => ((HS.out _).1 i.property).cell x0
      have k3 : ∀ i : { w' // S w' }, i.val.cell? ⟨rb, ro + k * 2 + 1, none⟩ = some (.bool sc) := fun i => ((HS.out _).1 i.property).cell x1
      have k4 : ∀ i : { w' // S w' }, i.val.cell? ⟨rb', ro' + k * 2, none⟩ = some (.int .i64 lg) := fun i => ((HS.out _).1 i.property).cell y0
      have k5 : ∀ i : { w' // S w' }, i.val.cell? ⟨rb', ro' + k * 2 + 1, none⟩ = some (.bool sc) := fun i => ((HS.out _).1 i.property).cell y1
      go_wp2_with (fail)
      refine wp_region_ord (S := S) [(0, true), (1, true), (2, true), (3, true), (4, true), (5, true), (6, true), (7, true), (8, true), (9, true), (10, true)] (by kernel_rfl) (by kernel_rfl) (by kernel_rfl) HS0 ?_
      iterate 11 (refine wpOrd_take rfl (by kernel_rfl) (fun K hK => ?_); go_simp; refine hK _ _ ?_; clear hK K)
      refine wpOrd_done ?_
      clear hne HS0 k0 k1 k2 k3 k4 k5
      go_wp2
      go_roundg g
      case measure => omega
      case rel => exact ⟨k + 1, by omega, by first | rfl | simp, Hr.out.trans (More.refl _).drew⟩

/-- The regions of two programs are the same. -/
theorem regions_true (p q : Prg) (l l' : Loc) (w : World) (hp : PIn w p l) (hq : PIn w q l') (hrl : p.rl = q.rl) (hreg : ∀ i, i < p.rl → p.log i = q.log i ∧ p.sec i = q.sec i) (hb : p.rl < 4611686018427387904) :
    Calls Try.prog 24 #[.agg #[.slice l.ra p.rl l.rc, .slice l.ca p.cl l.cc], .agg #[.slice l'.ra q.rl l'.rc, .slice l'.ca q.cl l'.cc]] w fun e w' => e = .returned (.bool true) ∧ More w w' := by
  have C : Hid (∀ w1 : World, More w w1 → Calls Try.prog 22 #[.agg #[.slice l.ra p.rl l.rc, .slice none 0 0], .agg #[.slice l'.ra q.rl l'.rc, .slice none 0 0]] w1 fun e w' => e = .returned (.bool true) ∧ More w1 w') := fun w1 m1 =>
    same8_true ⟨p.rl, p.log, p.sec, 0, p.ins⟩ ⟨q.rl, q.log, q.sec, 0, q.ins⟩ ⟨l.ra, l.rb, l.ro, l.rc, none, 0, 0, 0⟩ ⟨l'.ra, l'.rb, l'.ro, l'.rc, none, 0, 0, 0⟩ w1
      ⟨hp.hr, fun h => absurd h (Nat.lt_irrefl _), hp.regs.more m1, fun i hi => absurd hi (Nat.not_lt_zero _)⟩ ⟨hq.hr, fun h => absurd h (Nat.lt_irrefl _), hq.regs.more m1, fun i hi => absurd hi (Nat.not_lt_zero _)⟩
      ⟨hrl, hreg, rfl, fun i hi => absurd hi (Nat.not_lt_zero _)⟩ hb (by simp)
  clear hp hq hrl hreg hb
  obtain ⟨a1, h1⟩ : ∃ x, Value.slice l.ra p.rl l.rc = x := ⟨_, rfl⟩
  obtain ⟨a2, n2, c2, h2⟩ : ∃ a n c, Value.slice l.ca p.cl l.cc = .slice a n c := ⟨_, _, _, rfl⟩
  obtain ⟨a4, n4, c4, h4⟩ : ∃ a n c, Value.slice l'.ca q.cl l'.cc = .slice a n c := ⟨_, _, _, rfl⟩
  obtain ⟨a5, n5, c5, h5⟩ : ∃ a n c, Value.slice l.ra p.rl l.rc = .slice a n c := ⟨_, _, _, rfl⟩
  obtain ⟨a6, n6, c6, h6⟩ : ∃ a n c, Value.slice l'.ra q.rl l'.rc = .slice a n c := ⟨_, _, _, rfl⟩
  rw [h5, h6] at C
  rw [h5, h6, h2, h4]
  clear h1 h2 h4 h5 h6
  go_enter Try.func24, Try.ntmps24
  go_wp2_with (fail)
  refine (C.out _ ((((More.refl _).alloc _ _).alloc _ _).alloc _ _ |>.alloc _ _)).mono ?_
  rintro e w1 ⟨rfl, m1⟩
  have Hm1 : Hid (More w w1) := ((((More.refl _).alloc _ _).alloc _ _).alloc _ _ |>.alloc _ _).trans m1
  clear m1
  go_wp2
  go_ret
  exact ⟨rfl, Hm1.out⟩
/-- evenkeelref6.Check, whatever the program. -/
theorem check6_told (p : Prg) (l : Loc) (w : World) (hp : PIn w p l) (hf : p.Fit) :
    Calls Try.prog 14 #[.agg #[.slice l.ra p.rl l.rc, .slice l.ca p.cl l.cc]] w fun e w' => ∃ f : Int × Int, Told p f ∧ e = .returned (.agg #[.int .i64 f.1, .int .i64 f.2]) ∧ More w w' := by
  by_cases hok : p.Ok 200 8
  · refine (check6_ok p l w hp hok (fun i hi => (hf.ins i hi).2.2.2.2) (fun w1 m1 => may_true p l w1 (hp.more m1) hok)).mono ?_
    rintro e w' ⟨l', h1, rfl, m⟩
    exact ⟨_, .inr ⟨hok, l', h1, rfl⟩, rfl, m⟩
  · refine (check6_form _ _ ⟨_, _, _, rfl⟩ ⟨_, _, _, rfl⟩ w (fun w2 m2 => ?_)).mono (fun e w' ⟨h1, h2⟩ => ⟨(2, 0), .inl ⟨hok, rfl⟩, h1, h2⟩)
    refine (ref_may p l _ (hp.more m2)).mono ?_
    rintro e w' ⟨r, rfl, hr, m⟩
    cases r with
    | false => exact ⟨rfl, m⟩
    | true => exact absurd (hr.1 rfl) hok
theorem hard_true (p : Prg) (l : Loc) (w : World) (hp : PIn w p l) (hok : p.Ok 8000 10) :
    Calls Try.prog 23 #[.agg #[.slice l.ra p.rl l.rc, .slice l.ca p.cl l.cc]] w fun e w' => e = .returned (.bool true) ∧ More w w' := by
  refine (ref_hard p l _ hp).mono ?_
  rintro e w' ⟨r, rfl, hr, m⟩
  cases r with
  | true => exact ⟨rfl, m⟩
  | false => exact absurd (hr.2 hok) (by simp)

set_option maxHeartbeats 2000000 in
/-- The law's same, where the one does what the other one does. -/
theorem same_of (x1 x2 x3 y1 y2 y3 : Int) (su sv mu mv : Value) (w : World) (hsu : ∃ a n c, su = .slice a n c) (hsv : ∃ a n c, sv = .slice a n c) (hmu : ∃ a n c, mu = .slice a n c) (hmv : ∃ a n c, mv = .slice a n c)
    (h : y1 = 0 ∨ (x1 = y1 ∧ x2 = y2 ∧ ∀ w1 : World, More w w1 → Calls Try.prog 49 #[mu, mv] w1 fun e w' => e = .returned (.bool true) ∧ More w1 w')) :
    Calls Try.prog 25 #[.agg #[.int .i64 x1, .int .i64 x2, .int .i64 x3, su, mu], .agg #[.int .i64 y1, .int .i64 y2, .int .i64 y3, sv, mv]] w fun e w' => e = .returned (.bool true) ∧ More w w' := by
  obtain ⟨a3, n3, cc3, rfl⟩ := hsu
  obtain ⟨a4, n4, cc4, rfl⟩ := hsv
  obtain ⟨a5, n5, cc5, rfl⟩ := hmu
  obtain ⟨a6, n6, cc6, rfl⟩ := hmv
  rcases h with rfl | ⟨rfl, rfl, h⟩
  · go_enter Try.func25, Try.ntmps25
    go_wp2
    go_ret
    exact ⟨rfl, ((More.refl _).alloc _ _).alloc _ _⟩
  · have C : Hid (∀ w1 : World, More w w1 → Calls Try.prog 49 #[.slice a5 n5 cc5, .slice a6 n6 cc6] w1 fun e w' => e = .returned (.bool true) ∧ More w1 w') := h
    clear h
    by_cases h0 : x1 = 0
    · subst h0
      go_enter Try.func25, Try.ntmps25
      go_wp2
      go_ret
      exact ⟨rfl, ((More.refl _).alloc _ _).alloc _ _⟩
    · have e0 : (x1 == 0) = false := by simp [h0]
      clear h0
      go_enter Try.func25, Try.ntmps25
      go_wp2_with (fail)
      refine (C.out _ (((More.refl _).alloc _ _).alloc _ _)).mono ?_
      rintro e w1 ⟨rfl, m1⟩
      have Hm : Hid (More w w1) := (((More.refl _).alloc _ _).alloc _ _).trans m1
      clear m1
      go_wp2
      go_ret
      exact ⟨rfl, Hm.out⟩

/-- What is made of a program without fault: another one, with something told of it. -/
def Makes (F : Nat) (p : Prg) (l : Loc) (Q : Prg → Prop) (w : World) : Prop :=
  Calls Try.prog F #[.agg #[.slice l.ra p.rl l.rc, .slice l.ca p.cl l.cc]] w fun e w' => ∃ (h : Prg) (lh : Loc), Q h ∧ PIn w' h lh ∧ e = .returned (.tuple #[.agg #[.slice lh.ra h.rl lh.rc, .slice lh.ca h.cl lh.cc], .agg #[.int .i64 0, .int .i64 0]]) ∧ More w w'
/-- Hard, and with the same regions. -/
structure Like8 (p h : Prg) : Prop where
  ok : h.Ok 8000 10
  fit : h.Fit
  rl : p.rl = h.rl
  reg : ∀ i, i < p.rl → p.log i = h.log i ∧ p.sec i = h.sec i
theorem Like8.fits {p h : Prg} (k : Like8 p h) {ml : Nat} {len : Nat → Nat} (hf : FitsOk p.rl p.log ml len) : FitsOk h.rl h.log ml len :=
  ⟨k.ok.1, hf.2.1.trans k.rl, fun i hi => by rw [hf.2.2 i (by rw [k.rl]; exact hi), (k.reg i (by rw [k.rl]; exact hi)).1]⟩
/-- One program does what another one does, if that ends, with so many times the steps. -/
def DoesSame (p h : Prg) (k top : Nat) : Prop := ∀ (m : Mem), FitsOk p.rl p.log m.ml m.len → (∀ j, j < m.ml → ∀ i, i < m.len j → B64 (m.wd j i)) → ∀ f : Nat, f ≤ top →
  (playI p m f).fin = 0 ∨ ((playI h m (k * f + k)).fin = (playI p m f).fin ∧ (playI h m (k * f + k)).val = (playI p m f).val ∧ (playI h m (k * f + k)).mem.Like (playI p m f).mem)

set_option maxHeartbeats 4000000 in
theorem harden_same_walk (p : Prg) (l : Loc) (m : Mem) (ml : MLoc) (fuel : Int) (w : World) (hp : PIn w p l) (hf : p.Fit) (hm : MRaw w m ml) (hwd : ∀ j, j < m.ml → ∀ i, i < m.len j → B64 (m.wd j i))
    (Q : Prg → Prop) (hQ : ∀ h, Q h → Like8 p h ∧ DoesSame p h 4 1000) (MK : p.Ok 200 8 → ∀ lk, Known p lk → (checkK p lk).1 = 0 → ∀ w1 : World, More w w1 → Makes 21 p l Q w1) :
    Calls Try.prog 8 #[.agg #[.slice l.ra p.rl l.rc, .slice l.ca p.cl l.cc], .slice ml.ma m.ml ml.mc, .int .i64 fuel] w fun e w' => e = .returned (.bool true) ∧ More w w' := by
  suffices hP : ∀ P : Ending → World → Prop, (∀ w', More w w' → P (.returned (.bool true)) w') → Calls Try.prog 8 #[.agg #[.slice l.ra p.rl l.rc, .slice l.ca p.cl l.cc], .slice ml.ma m.ml ml.mc, .int .i64 fuel] w P from hP _ (fun w' m => ⟨rfl, m⟩)
  intro P hP0
  have HP : Hid (∀ w', More w w' → P (.returned (.bool true)) w') := hP0
  have H : Hid (PIn w p l ∧ p.Fit ∧ MRaw w m ml ∧ (∀ j, j < m.ml → ∀ i, i < m.len j → B64 (m.wd j i)) ∧ ∀ h, Q h → Like8 p h ∧ DoesSame p h 4 1000) := ⟨hp, hf, hm, hwd, hQ⟩
  have CK : Hid (p.Ok 200 8 → ∀ lk, Known p lk → (checkK p lk).1 = 0 → ∀ w1 : World, More w w1 → Makes 21 p l Q w1) := MK
  clear hP0 hp hf hm hwd hQ MK
  have C1 : Hid (∀ w1 : World, More w w1 → Calls Try.prog 14 #[.agg #[.slice l.ra p.rl l.rc, .slice l.ca p.cl l.cc]] w1 fun e w' => ∃ f : Int × Int, Told p f ∧ e = .returned (.agg #[.int .i64 f.1, .int .i64 f.2]) ∧ More w1 w') := fun w1 m1 => check6_told p l w1 (H.out.1.more m1) H.out.2.1
  have CF : Hid (∀ r : Bool, (r = true ↔ FitsOk p.rl p.log m.ml m.len) → ∀ w1 : World, More w w1 → Calls Try.prog 17 #[.agg #[.slice l.ra p.rl l.rc, .slice l.ca p.cl l.cc], .slice ml.ma m.ml ml.mc] w1 fun e w' => e = .returned (.bool r) ∧ More w1 w') := fun r hr w1 m1 => fits_says p l m ml w1 (H.out.1.more m1) (H.out.2.2.1.more m1) r hr
  have CP : Hid (p.Ok 200 8 → FitsOk p.rl p.log m.ml m.len → fuel ≤ 1000 → ∀ w1 : World, More w w1 → Calls Try.prog 18 #[.agg #[.slice l.ra p.rl l.rc, .slice l.ca p.cl l.cc], .slice ml.ma m.ml ml.mc, .int .i64 fuel] w1 fun e w' => ∃ v, e = .returned v ∧ ShownAt w' v (playI p m fuel.toNat) ∧ More w1 w') := fun hok hfit hfu w1 m1 => by
    obtain ⟨f1, f2, f3, f4⟩ := fits_in hok hfit
    exact ref_play_int p l m ml fuel w1 (H.out.1.more m1) ((H.out.2.2.1.more m1).in_ f2 f4) hok.hard H.out.2.1 f1 f3 H.out.2.2.2.1 (by omega)
  have CH : Hid (∀ h lh, Q h → p.Ok 200 8 → FitsOk p.rl p.log m.ml m.len → 0 ≤ fuel → fuel ≤ 1000 → ∀ w1 : World, More w w1 → PIn w1 h lh →
      (Calls Try.prog 23 #[.agg #[.slice lh.ra h.rl lh.rc, .slice lh.ca h.cl lh.cc]] w1 fun e w' => e = .returned (.bool true) ∧ More w1 w') ∧
      (Calls Try.prog 24 #[.agg #[.slice l.ra p.rl l.rc, .slice l.ca p.cl l.cc], .agg #[.slice lh.ra h.rl lh.rc, .slice lh.ca h.cl lh.cc]] w1 fun e w' => e = .returned (.bool true) ∧ More w1 w') ∧
      (Calls Try.prog 18 #[.agg #[.slice lh.ra h.rl lh.rc, .slice lh.ca h.cl lh.cc], .slice ml.ma m.ml ml.mc, .int .i64 (4 * fuel + 4)] w1 fun e w' => ∃ v, e = .returned v ∧ ShownAt w' v (playI h m (4 * fuel.toNat + 4)) ∧ More w1 w')) := fun h lh q hok hfit f0 f1 w1 m1 hin => by
    obtain ⟨k, _⟩ := H.out.2.2.2.2 h q
    obtain ⟨g1, g2, g3, g4⟩ := fits_in hok hfit
    have hfit' := k.fits hfit
    refine ⟨hard_true h lh w1 hin k.ok, regions_true p h l lh w1 (H.out.1.more m1) hin k.rl k.reg (by have := hok.1.1; omega), ?_⟩
    have := ref_play_int h lh m ml (4 * fuel + 4) w1 hin ((H.out.2.2.1.more m1).in_ g2 g4) k.ok k.fit hfit'.2.1 (fun i hi => hfit'.2.2 i (by rw [← hfit'.2.1]; exact hi)) H.out.2.2.2.1 (by omega)
    rw [show (4 * fuel + 4).toNat = 4 * fuel.toNat + 4 by omega] at this
    exact this
  have HS : Hid (∀ h, Q h → FitsOk p.rl p.log m.ml m.len → fuel ≤ 1000 → ∀ u v w1, ShownAt w1 u (playI h m (4 * fuel.toNat + 4)) → ShownAt w1 v (playI p m fuel.toNat) →
      Calls Try.prog 25 #[u, v] w1 fun e w' => e = .returned (.bool true) ∧ More w1 w') := fun h q hfit hfu u v w1 hu hv => by
    obtain ⟨_, k⟩ := H.out.2.2.2.2 h q
    have kk := k m hfit H.out.2.2.2.1 fuel.toNat (by omega)
    obtain ⟨su, lu, rfl, hu1, hu2⟩ := hu
    obtain ⟨sv, lv, rfl, hv1, hv2⟩ := hv
    obtain ⟨a1, _, _, c1, rfl, _⟩ := hu1
    obtain ⟨a2, _, _, c2, rfl, _⟩ := hv1
    refine same_of _ _ _ _ _ _ _ _ _ _ w1 ⟨_, _, _, rfl⟩ ⟨_, _, _, rfl⟩ ⟨_, _, _, rfl⟩ ⟨_, _, _, rfl⟩ ?_
    rcases kk with kk | ⟨k1, k2, k3⟩
    · exact .inl kk
    · exact .inr ⟨k1, k2, fun w2 m2 => ref_memories _ _ _ _ w2 (hu2.more m2) (hv2.more m2) k3⟩
  clear H
  obtain ⟨ra, Hra⟩ : ∃ x, Hid (l.ra = x) := ⟨_, rfl⟩
  obtain ⟨rl, Hrl⟩ : ∃ x, Hid (p.rl = x) := ⟨_, rfl⟩
  obtain ⟨rc, Hrc⟩ : ∃ x, Hid (l.rc = x) := ⟨_, rfl⟩
  obtain ⟨ca, Hca⟩ : ∃ x, Hid (l.ca = x) := ⟨_, rfl⟩
  obtain ⟨cl, Hcl⟩ : ∃ x, Hid (p.cl = x) := ⟨_, rfl⟩
  obtain ⟨cc, Hcc⟩ : ∃ x, Hid (l.cc = x) := ⟨_, rfl⟩
  obtain ⟨mv, Hmv⟩ : ∃ x, Hid (Value.slice ml.ma m.ml ml.mc = x) := ⟨_, rfl⟩
  obtain ⟨FA, HFA⟩ : ∃ x : Prop, Hid (FitsOk p.rl p.log m.ml m.len = x) := ⟨_, rfl⟩
  unfold Makes at CK
  rw [HFA.out] at CF CP CH HS
  rw [Hmv.out] at CF CP CH
  rw [Hra.out, Hrl.out, Hrc.out, Hca.out, Hcl.out, Hcc.out] at C1 CF CP CK CH
  rw [Hra.out, Hrl.out, Hrc.out, Hca.out, Hcl.out, Hcc.out, Hmv.out]
  clear Hmv HFA Hra Hrl Hrc Hca Hcl Hcc
  go_enter Try.func8, Try.ntmps8
  go_wp2_with (fail)
  refine (C1.out _ ((More.refl _).alloc _ _)).mono ?_
  rintro e w1 ⟨⟨f1, f2⟩, hT, rfl, m1⟩
  dsimp only at hT ⊢
  have Hm1 : Hid (More w w1) := ((More.refl _).alloc _ _).trans m1
  have Hp1 : Hid (Blk w1 w.heap.size #[.slice ra rl rc, .slice ca cl cc] 30) := (Blk.last _ _ _).more m1
  have HT : Hid (Told p (f1, f2)) := hT
  clear m1 hT C1
  by_cases h0 : f1 = 0
  · subst h0
    obtain ⟨hok, lk, hk, hk0⟩ := HT.out.ok rfl
    have HO : Hid (p.Ok 200 8 ∧ Known p lk ∧ (checkK p lk).1 = 0) := ⟨hok, hk, hk0⟩
    clear hok hk hk0 HT
    have c0 : w1.cell? ⟨w.heap.size, 0, none⟩ = some (.slice ra rl rc) := Hp1.out.cell rfl
    have c1 : w1.cell? ⟨w.heap.size, 1, none⟩ = some (.slice ca cl cc) := Hp1.out.cell rfl
    have z1 := Hp1.out.lt
    by_cases hA : FA
    · have CF1 : Hid (∀ w1 : World, More w w1 → Calls Try.prog 17 #[.agg #[.slice ra rl rc, .slice ca cl cc], mv] w1 fun e w' => e = .returned (.bool true) ∧ More w1 w') := CF.out true ⟨fun _ => hA, fun _ => rfl⟩
      clear CF
      go_wp2_with (fail)
      refine (CF1.out _ (Hm1.out.alloc _ _)).mono ?_
      rintro e w2 ⟨rfl, m2⟩
      have Hm2 : Hid (More w w2) := (Hm1.out.alloc _ _).trans m2
      have Hp2 : Hid (Blk w2 w.heap.size #[.slice ra rl rc, .slice ca cl cc] 30) := (Hp1.out.alloc _ _).more m2
      clear m2 c0 c1 z1 CF1
      have c0 : w2.cell? ⟨w.heap.size, 0, none⟩ = some (.slice ra rl rc) := Hp2.out.cell rfl
      have c1 : w2.cell? ⟨w.heap.size, 1, none⟩ = some (.slice ca cl cc) := Hp2.out.cell rfl
      by_cases hf0 : fuel < 0
      · have d0 : decide (fuel < 0) = true := by simp [hf0]
        have Hend : Hid (P (.returned (.bool true)) w2) := HP.out _ Hm2.out
        clear CP CK CH HS HP
        go_wp2
        exact Hend.out
      have d0 : decide (fuel < 0) = false := by simp; omega
      by_cases hf1 : 1000 < fuel
      · have d1 : decide (1000 < fuel) = true := by simp [hf1]
        have Hend : Hid (P (.returned (.bool true)) w2) := HP.out _ Hm2.out
        clear CP CK CH HS HP
        go_wp2
        exact Hend.out
      have d1 : decide (1000 < fuel) = false := by simp; omega
      have hw1 : wrap64 (4 * fuel) = 4 * fuel := by unfold wrap64; omega
      have hw2 : wrap64 (4 * fuel + 4) = 4 * fuel + 4 := by unfold wrap64; omega
      have hv1 : IntKind.i64.wrap (4 * fuel) = 4 * fuel := by rw [IntKind.wrap_i64]; omega
      have hv2 : IntKind.i64.wrap (4 * fuel + 4) = 4 * fuel + 4 := by rw [IntKind.wrap_i64]; omega
      have CK1 := CK.out HO.out.1 lk HO.out.2.1 HO.out.2.2
      have CK2 : Hid (∀ w1 : World, More w w1 → Calls Try.prog 21 #[.agg #[.slice ra rl rc, .slice ca cl cc]] w1 fun e w' => ∃ (h : Prg) (lh : Loc), Q h ∧ PIn w' h lh ∧ e = .returned (.tuple #[.agg #[.slice lh.ra h.rl lh.rc, .slice lh.ca h.cl lh.cc], .agg #[.int .i64 0, .int .i64 0]]) ∧ More w1 w') := CK1
      clear CK CK1
      go_wp2_with (fail)
      refine (CK2.out _ Hm2.out).mono ?_
      rintro e w3 ⟨h, lh, hq, hin, rfl, m3⟩
      have CH1 : Hid (∀ w1 : World, More w w1 → PIn w1 h lh → _) := CH.out h lh hq HO.out.1 hA (by omega) (by omega)
      have HS1 := HS.out h hq hA (by omega)
      have HS2 : Hid (∀ u v w1, ShownAt w1 u (playI h m (4 * fuel.toNat + 4)) → ShownAt w1 v (playI p m fuel.toNat) → Calls Try.prog 25 #[u, v] w1 fun e w' => e = .returned (.bool true) ∧ More w1 w') := HS1
      have CP1 : Hid (∀ w1 : World, More w w1 → Calls Try.prog 18 #[.agg #[.slice ra rl rc, .slice ca cl cc], mv, .int .i64 fuel] w1 fun e w' => ∃ v, e = .returned v ∧ ShownAt w' v (playI p m fuel.toNat) ∧ More w1 w') := CP.out HO.out.1 hA (by omega)
      clear CH HS HS1 CP
      have Hm3 : Hid (More w w3) := Hm2.out.trans m3
      have Hp3 : Hid (Blk w3 w.heap.size #[.slice ra rl rc, .slice ca cl cc] 30) := Hp2.out.more m3
      have Hin3 : Hid (PIn w3 h lh) := hin
      obtain ⟨ra', Hra'⟩ : ∃ x, Hid (lh.ra = x) := ⟨_, rfl⟩
      obtain ⟨rl', Hrl'⟩ : ∃ x, Hid (h.rl = x) := ⟨_, rfl⟩
      obtain ⟨rc', Hrc'⟩ : ∃ x, Hid (lh.rc = x) := ⟨_, rfl⟩
      obtain ⟨ca', Hca'⟩ : ∃ x, Hid (lh.ca = x) := ⟨_, rfl⟩
      obtain ⟨cl', Hcl'⟩ : ∃ x, Hid (h.cl = x) := ⟨_, rfl⟩
      obtain ⟨cc', Hcc'⟩ : ∃ x, Hid (lh.cc = x) := ⟨_, rfl⟩
      rw [Hra'.out, Hrl'.out, Hrc'.out, Hca'.out, Hcl'.out, Hcc'.out] at CH1 ⊢
      clear hin hq m3 c0 c1 CK2
      have c0 : w3.cell? ⟨w.heap.size, 0, none⟩ = some (.slice ra rl rc) := Hp3.out.cell rfl
      have c1 : w3.cell? ⟨w.heap.size, 1, none⟩ = some (.slice ca cl cc) := Hp3.out.cell rfl
      have z3 := Hp3.out.lt
      obtain ⟨w4, Hw4⟩ : ∃ w_ : World, Hid (w_ = (w3.alloc (.cells #[.slice ra' rl' rc', .slice ca' cl' cc'] 30)).alloc (.cells #[.int .i64 0, .int .i64 0] 33)) := ⟨_, rfl⟩
      have Hm4 : Hid (More w3 w4) := by rw [Hw4.out]; exact ((More.refl _).alloc _ _).alloc _ _
      have Hb4 : Hid (Blk w4 w3.heap.size #[.slice ra' rl' rc', .slice ca' cl' cc'] 30) := by rw [Hw4.out]; exact (Blk.last _ _ _).alloc _ _
      go_wp2_with (fail)
      rw [← Hw4.out]
      refine (CH1.out w4 (Hm3.out.trans Hm4.out) (Hin3.out.more Hm4.out)).1.mono ?_
      rintro e w5 ⟨rfl, m5⟩
      have Hm5 : Hid (More w3 w5) := Hm4.out.trans m5
      have Hb5 : Hid (Blk w5 w3.heap.size #[.slice ra' rl' rc', .slice ca' cl' cc'] 30) := Hb4.out.more m5
      have Hp5 : Hid (Blk w5 w.heap.size #[.slice ra rl rc, .slice ca cl cc] 30) := Hp3.out.more Hm5.out
      clear m5 c0 c1 z3
      have c0 : w5.cell? ⟨w.heap.size, 0, none⟩ = some (.slice ra rl rc) := Hp5.out.cell rfl
      have c1 : w5.cell? ⟨w.heap.size, 1, none⟩ = some (.slice ca cl cc) := Hp5.out.cell rfl
      have b0 : w5.cell? ⟨w3.heap.size, 0, none⟩ = some (.slice ra' rl' rc') := Hb5.out.cell rfl
      have b1 : w5.cell? ⟨w3.heap.size, 1, none⟩ = some (.slice ca' cl' cc') := Hb5.out.cell rfl
      go_wp2_with (fail)
      refine (CH1.out w5 (Hm3.out.trans Hm5.out) (Hin3.out.more Hm5.out)).2.1.mono ?_
      rintro e w6 ⟨rfl, m6⟩
      have Hm6 : Hid (More w3 w6) := Hm5.out.trans m6
      have Hb6 : Hid (Blk w6 w3.heap.size #[.slice ra' rl' rc', .slice ca' cl' cc'] 30) := Hb5.out.more m6
      have Hp6 : Hid (Blk w6 w.heap.size #[.slice ra rl rc, .slice ca cl cc] 30) := Hp5.out.more m6
      clear m6 c0 c1 b0 b1
      have c0 : w6.cell? ⟨w.heap.size, 0, none⟩ = some (.slice ra rl rc) := Hp6.out.cell rfl
      have c1 : w6.cell? ⟨w.heap.size, 1, none⟩ = some (.slice ca cl cc) := Hp6.out.cell rfl
      go_wp2_with (fail)
      refine (CP1.out w6 (Hm3.out.trans Hm6.out)).mono ?_
      rintro e w7 ⟨v, rfl, hv, m7⟩
      have hv0 := hv
      obtain ⟨sv, lv, rfl, hv1, hv2⟩ := hv
      obtain ⟨sa, sb, so, sc, rfl, _⟩ := hv1
      obtain ⟨x1, hx1⟩ : ∃ x, (playI p m fuel.toNat).fin = x := ⟨_, rfl⟩
      obtain ⟨x2, hx2⟩ : ∃ x, (playI p m fuel.toNat).val = x := ⟨_, rfl⟩
      obtain ⟨x3, hx3⟩ : ∃ x, (playI p m fuel.toNat).steps = x := ⟨_, rfl⟩
      obtain ⟨x4, hx4⟩ : ∃ x, (playI p m fuel.toNat).seen.length = x := ⟨_, rfl⟩
      obtain ⟨x5, hx5⟩ : ∃ x, (playI p m fuel.toNat).mem.ml = x := ⟨_, rfl⟩
      rw [hx1, hx2, hx3, hx4, hx5] at hv0 ⊢
      have Hm7 : Hid (More w3 w7) := Hm6.out.trans m7
      have Hb7 : Hid (Blk w7 w3.heap.size #[.slice ra' rl' rc', .slice ca' cl' cc'] 30) := Hb6.out.more m7
      obtain ⟨w8, Hw8⟩ : ∃ w_ : World, Hid (w_ = w7.alloc (.cells #[.int .i64 x1, .int .i64 x2, .int .i64 x3, .slice sa x4 sc, .slice lv.ma x5 lv.mc] 41)) := ⟨_, rfl⟩
      have Hm8 : Hid (More w7 w8) := Hw8.out ▸ (More.refl _).alloc _ _
      have Hv : Hid (ShownAt w7 (.agg #[.int .i64 x1, .int .i64 x2, .int .i64 x3, .slice sa x4 sc, .slice lv.ma x5 lv.mc]) (playI p m fuel.toNat)) := hv0
      have Hc8 : Hid (Blk w8 w7.heap.size #[.int .i64 x1, .int .i64 x2, .int .i64 x3, .slice sa x4 sc, .slice lv.ma x5 lv.mc] 41) := Hw8.out ▸ Blk.last _ _ _
      clear hv0 hv2 m7 hx1 hx2 hx3 hx4 hx5 c0 c1
      have b0 : w7.cell? ⟨w3.heap.size, 0, none⟩ = some (.slice ra' rl' rc') := Hb7.out.cell rfl
      have b1 : w7.cell? ⟨w3.heap.size, 1, none⟩ = some (.slice ca' cl' cc') := Hb7.out.cell rfl
      have z7 := Hb7.out.lt
      go_wp2_with (fail)
      rw [← Hw8.out]
      refine (CH1.out w8 (Hm3.out.trans (Hm7.out.trans Hm8.out)) (Hin3.out.more (Hm7.out.trans Hm8.out))).2.2.mono ?_
      rintro e w9 ⟨u, rfl, hu, m9⟩
      have hu0 := hu
      obtain ⟨su, lu, rfl, hu1, hu2⟩ := hu
      obtain ⟨ta, tb, to_, tc, rfl, _⟩ := hu1
      obtain ⟨y1, hy1⟩ : ∃ x, (playI h m (4 * fuel.toNat + 4)).fin = x := ⟨_, rfl⟩
      obtain ⟨y2, hy2⟩ : ∃ x, (playI h m (4 * fuel.toNat + 4)).val = x := ⟨_, rfl⟩
      obtain ⟨y3, hy3⟩ : ∃ x, (playI h m (4 * fuel.toNat + 4)).steps = x := ⟨_, rfl⟩
      obtain ⟨y4, hy4⟩ : ∃ x, (playI h m (4 * fuel.toNat + 4)).seen.length = x := ⟨_, rfl⟩
      obtain ⟨y5, hy5⟩ : ∃ x, (playI h m (4 * fuel.toNat + 4)).mem.ml = x := ⟨_, rfl⟩
      rw [hy1, hy2, hy3, hy4, hy5] at hu0 ⊢
      obtain ⟨wa, Hwa⟩ : ∃ w_ : World, Hid (w_ = w9.alloc (.cells #[.int .i64 y1, .int .i64 y2, .int .i64 y3, .slice ta y4 tc, .slice lu.ma y5 lu.mc] 41)) := ⟨_, rfl⟩
      have Hma : Hid (More w9 wa) := Hwa.out ▸ (More.refl _).alloc _ _
      have HMa : Hid (More w wa) := (Hm3.out.trans (Hm7.out.trans Hm8.out)).trans (m9.trans Hma.out)
      have CS : Hid (Calls Try.prog 25 #[.agg #[.int .i64 y1, .int .i64 y2, .int .i64 y3, .slice ta y4 tc, .slice lu.ma y5 lu.mc], .agg #[.int .i64 x1, .int .i64 x2, .int .i64 x3, .slice sa x4 sc, .slice lv.ma x5 lv.mc]] wa fun e w' => e = .returned (.bool true) ∧ More wa w') :=
        HS2.out _ _ wa (hu0.more Hma.out) (Hv.out.more (Hm8.out.trans (m9.trans Hma.out)))
      have Hc9 : Hid (Blk w9 w7.heap.size #[.int .i64 x1, .int .i64 x2, .int .i64 x3, .slice sa x4 sc, .slice lv.ma x5 lv.mc] 41) := Hc8.out.more m9
      clear hu0 hu2 m9 hy1 hy2 hy3 hy4 hy5 b0 b1 z7 CH1 CP1 HS2
      have a0 : w9.cell? ⟨w7.heap.size, 0, none⟩ = some (.int .i64 x1) := Hc9.out.cell rfl
      have a1 : w9.cell? ⟨w7.heap.size, 1, none⟩ = some (.int .i64 x2) := Hc9.out.cell rfl
      have a2 : w9.cell? ⟨w7.heap.size, 2, none⟩ = some (.int .i64 x3) := Hc9.out.cell rfl
      have a3 : w9.cell? ⟨w7.heap.size, 3, none⟩ = some (.slice sa x4 sc) := Hc9.out.cell rfl
      have a4 : w9.cell? ⟨w7.heap.size, 4, none⟩ = some (.slice lv.ma x5 lv.mc) := Hc9.out.cell rfl
      have z9 := Hc9.out.lt
      go_wp2_with (fail)
      rw [← Hwa.out]
      refine CS.out.mono ?_
      rintro e wz ⟨rfl, mz⟩
      have Hend : Hid (P (.returned (.bool true)) wz) := HP.out _ (HMa.out.trans mz)
      clear mz CS a0 a1 a2 a3 a4
      go_wp2
      exact Hend.out
    · have CF1 : Hid (∀ w1 : World, More w w1 → Calls Try.prog 17 #[.agg #[.slice ra rl rc, .slice ca cl cc], mv] w1 fun e w' => e = .returned (.bool false) ∧ More w1 w') := CF.out false ⟨fun q => absurd q (by simp), fun q => absurd q hA⟩
      clear CF CP CK CH HS
      go_wp2_with (fail)
      refine (CF1.out _ (Hm1.out.alloc _ _)).mono ?_
      rintro e w2 ⟨rfl, m2⟩
      have Hend : Hid (P (.returned (.bool true)) w2) := HP.out _ ((Hm1.out.alloc _ _).trans m2)
      clear m2 CF1
      go_wp2
      exact Hend.out
  · have e0 : (f1 == 0) = false := by simp [h0]
    have e1 : (f1 != 0) = true := by simp [h0]
    have Hend : Hid (∀ w', More w1 w' → P (.returned (.bool true)) w') := fun w' m' => HP.out _ (Hm1.out.trans m')
    clear h0 CF CP CK CH HS HT
    go_wp2
    exact Hend.out _ ((More.refl _).alloc _ _)
end
section
open Go.RowKit
set_option linter.unusedVariables false
/-- A place: the next instruction, registers, words, what each was (the eldest first). -/
structure Pl where
  at_ : Nat
  r : Nat → Int
  wd : Nat → Int
  past : Nat → List Int
end
section
open Go.RowKit
set_option linter.unusedSimpArgs false
set_option linter.unusedVariables false
section
variable {p : Prg} {W : Int → Prop} {lab : Nat → Nat → Bool} {I : Nat → (Nat → Int) → Prop}

end
end
section
open Go.RowKit
set_option linter.unusedVariables false
section
variable {p : Prg} {m m' : Mem} {l : KV} {s t : St}

end
end
section
open Go.RowKit
set_option linter.unusedSimpArgs false
set_option linter.unusedVariables false
/-- How many instructions one becomes. -/
def sizeK (p : Prg) (k : Nat) : Nat := if (p.ins k).op = 3 ∨ (p.ins k).op = 4 then 3 else 1

/-- Each ILoad and IPut is three: the index is made in the register X, masked, and used; what leads elsewhere leads to where that is now. -/
structure Hdn (p h : Prg) (st : Nat → Nat) (X : Int) : Prop where
  x : X = 8 ∨ X = 9
  rl : p.rl = h.rl
  reg : ∀ i, i < p.rl → p.log i = h.log i ∧ p.sec i = h.sec i
  s0 : st 0 = 0
  next : ∀ k, k < p.cl → st (k + 1) = st k + sizeK p k
  cl : h.cl = st p.cl
  mem : ∀ k, k < p.cl → (p.ins k).op = 3 ∨ (p.ins k).op = 4 → h.ins (st k) = ⟨10, X, (p.ins k).b, 0, (p.ins k).n⟩ ∧ h.ins (st k + 1) = ⟨11, X, 0, 0, wordsI (p.log (p.ins k).c.toNat)⟩ ∧ h.ins (st k + 2) = ⟨(p.ins k).op, (p.ins k).a, X, (p.ins k).c, 0⟩
  go : ∀ k, k < p.cl → (p.ins k).op = 7 ∨ (p.ins k).op = 8 → h.ins (st k) = ⟨(p.ins k).op, (p.ins k).a, (p.ins k).b, (p.ins k).c, (st (p.ins k).n.toNat : Int)⟩
  copy : ∀ k, k < p.cl → ¬ ((p.ins k).op = 3 ∨ (p.ins k).op = 4) → ¬ ((p.ins k).op = 7 ∨ (p.ins k).op = 8) → h.ins (st k) = p.ins k

theorem sizeK_pos (p : Prg) (k : Nat) : 1 ≤ sizeK p k ∧ sizeK p k ≤ 3 := by unfold sizeK; split <;> omega
theorem sizeK_mem {p : Prg} {k : Nat} (h : (p.ins k).op = 3 ∨ (p.ins k).op = 4) : sizeK p k = 3 := by unfold sizeK; rw [if_pos h]
theorem sizeK_one {p : Prg} {k : Nat} (h : ¬ ((p.ins k).op = 3 ∨ (p.ins k).op = 4)) : sizeK p k = 1 := by unfold sizeK; rw [if_neg h]

section
variable {p h : Prg} {st : Nat → Nat} {X : Int} {l : KV}

theorem Hdn.mono (S : Hdn p h st X) : ∀ (b a : Nat), a < b → b ≤ p.cl → st a + sizeK p a ≤ st b
  | 0, a, h1, _ => absurd h1 (Nat.not_lt_zero _)
  | b + 1, a, h1, h2 => by
    have e := S.next b (by omega)
    have := (sizeK_pos p b).1
    by_cases q : a = b
    · subst q; omega
    · have := S.mono b a (by omega) (by omega); omega
theorem Hdn.xn (S : Hdn p h st X) : 8 ≤ X.toNat ∧ X.toNat < 10 := by rcases S.x with q | q <;> omega

variable {lab : Nat → Nat → Bool}
theorem idx_x (r : Nat → Int) {o a x c : Int} (ho : o = 3 ∨ o = 4) (h0 : 0 ≤ r x.toNat) (h1 : r x.toNat < 65) : idxI r ⟨o, a, x, c, 0⟩ = r x.toNat := by
  unfold idxI
  dsimp only
  rw [if_neg (by omega)]
  unfold wrap64
  omega
end
/-- What stands for an instruction. -/
def maskL (p : Prg) (i : Ins) : List Ins :=
  if i.op = 3 ∨ i.op = 4 then [⟨10, 8, i.b, 0, i.n⟩, ⟨11, 8, 0, 0, wordsI (p.log i.c.toNat)⟩, ⟨i.op, i.a, 8, i.c, 0⟩] else [i]
/-- What stands for the first instructions. -/
def codeL (p : Prg) : Nat → List Ins
  | 0 => []
  | n + 1 => codeL p n ++ maskL p (p.ins n)
def startL (p : Prg) (n : Nat) : Nat := (codeL p n).length
/-- What leads elsewhere leads to where that begins now. -/
def leadL (p : Prg) (i : Ins) : Ins := if i.op = 7 ∨ i.op = 8 then ⟨i.op, i.a, i.b, i.c, (startL p i.n.toNat : Int)⟩ else i
def hardL (p : Prg) (q : Nat) : Ins := leadL p ((codeL p p.cl).getD q ⟨0, 0, 0, 0, 0⟩)
def hardP (p : Prg) : Prg := ⟨p.rl, p.log, p.sec, startL p p.cl, hardL p⟩

theorem maskL_length (p : Prg) (n : Nat) : (maskL p (p.ins n)).length = sizeK p n := by
  unfold maskL sizeK
  split <;> rfl
theorem startL_next (p : Prg) (n : Nat) : startL p (n + 1) = startL p n + sizeK p n := by
  unfold startL; rw [codeL, List.length_append, maskL_length]
theorem startL_most (p : Prg) : ∀ n, startL p n ≤ 3 * n
  | 0 => Nat.le_refl _
  | n + 1 => by
    have := startL_most p n
    have := (sizeK_pos p n).2
    rw [startL_next]; omega
/-- Where an instruction's part is found. -/
theorem codeL_at (p : Prg) : ∀ (n k o : Nat), k < n → o < sizeK p k → (codeL p n)[startL p k + o]? = (maskL p (p.ins k))[o]?
  | 0, k, o, h, _ => absurd h (Nat.not_lt_zero _)
  | n + 1, k, o, h, ho => by
    rw [codeL]
    by_cases e : k = n
    · subst e
      rw [List.getElem?_append_right (by unfold startL; omega)]
      congr 1
      unfold startL; omega
    · have h2 := codeL_at p n k o (by omega) ho
      have hlt : startL p k + o < (codeL p n).length := by
        have e1 : (maskL p (p.ins k))[o]? ≠ none := by
          rw [Ne, List.getElem?_eq_none_iff, maskL_length]; omega
        rw [← h2] at e1
        rw [Ne, List.getElem?_eq_none_iff] at e1
        omega
      rw [List.getElem?_append_left hlt]
      exact h2
theorem hardL_at (p : Prg) (k o : Nat) (i : Ins) (hk : k < p.cl) (ho : o < sizeK p k) (e : (maskL p (p.ins k))[o]? = some i) : hardL p (startL p k + o) = leadL p i := by
  unfold hardL
  rw [List.getD_eq_getElem?_getD, codeL_at p p.cl k o hk ho, e]
  rfl
theorem leadL_else (p : Prg) {i : Ins} (h : ¬ (i.op = 7 ∨ i.op = 8)) : leadL p i = i := by unfold leadL; rw [if_neg h]

theorem hardP_hdn (p : Prg) : Hdn p (hardP p) (startL p) 8 := by
  refine ⟨.inl rfl, rfl, fun i hi => ⟨rfl, rfl⟩, rfl, fun k hk => startL_next p k, rfl, fun k hk hm => ?_, fun k hk hg => ?_, fun k hk hm hg => ?_⟩
  · have hs := sizeK_mem hm
    have e : maskL p (p.ins k) = [⟨10, 8, (p.ins k).b, 0, (p.ins k).n⟩, ⟨11, 8, 0, 0, wordsI (p.log (p.ins k).c.toNat)⟩, ⟨(p.ins k).op, (p.ins k).a, 8, (p.ins k).c, 0⟩] := by unfold maskL; rw [if_pos hm]
    refine ⟨?_, ?_, ?_⟩
    · have := hardL_at p k 0 _ hk (by omega) (by rw [e]; rfl)
      rw [leadL_else p (by dsimp only; omega)] at this
      exact this
    · have := hardL_at p k 1 _ hk (by omega) (by rw [e]; rfl)
      rw [leadL_else p (by dsimp only; omega)] at this
      exact this
    · have := hardL_at p k 2 _ hk (by omega) (by rw [e]; rfl)
      rw [leadL_else p (by dsimp only; omega)] at this
      exact this
  · have hs : sizeK p k = 1 := sizeK_one (by omega)
    have e : maskL p (p.ins k) = [p.ins k] := by unfold maskL; rw [if_neg (by omega)]
    have := hardL_at p k 0 _ hk (by omega) (by rw [e]; rfl)
    unfold leadL at this
    rw [if_pos hg] at this
    exact this
  · have hs : sizeK p k = 1 := sizeK_one hm
    have e : maskL p (p.ins k) = [p.ins k] := by unfold maskL; rw [if_neg hm]
    have := hardL_at p k 0 _ hk (by omega) (by rw [e]; rfl)
    rw [leadL_else p hg] at this
    exact this

def flatI : List Ins → List Value
  | [] => []
  | i :: l => .int .i64 i.op :: .int .i64 i.a :: .int .i64 i.b :: .int .i64 i.c :: .int .i64 i.n :: flatI l
theorem flatI_length : ∀ l : List Ins, (flatI l).length = l.length * 5
  | [] => rfl
  | s :: l => by simp [flatI, flatI_length l]; omega
theorem flatI_append : ∀ l l' : List Ins, flatI (l ++ l') = flatI l ++ flatI l'
  | [], _ => rfl
  | s :: l, l' => by simp [flatI, flatI_append l l']
theorem flatI_at : ∀ (l : List Ins) (i : Nat) (s : Ins), l[i]? = some s → (flatI l)[i * 5]? = some (.int .i64 s.op) ∧ (flatI l)[i * 5 + 1]? = some (.int .i64 s.a) ∧ (flatI l)[i * 5 + 2]? = some (.int .i64 s.b) ∧ (flatI l)[i * 5 + 3]? = some (.int .i64 s.c) ∧ (flatI l)[i * 5 + 4]? = some (.int .i64 s.n)
  | [], i, s, h => by simp at h
  | x :: l, 0, s, h => by simp at h; subst h; simp [flatI]
  | x :: l, i + 1, s, h => by
    have := flatI_at l i s (by simpa using h)
    rw [show (i + 1) * 5 = i * 5 + 1 + 1 + 1 + 1 + 1 by omega, flatI]
    simpa using this
theorem flatI_one : ∀ (l : List Ins), ∀ u ∈ flatI l, u.oneCell' = true
  | [], u, h => by simp [flatI] at h
  | i :: l, u, h => by
    simp only [flatI, List.mem_cons] at h
    rcases h with rfl | rfl | rfl | rfl | rfl | h
    · rfl
    · rfl
    · rfl
    · rfl
    · rfl
    · exact flatI_one l u h
theorem run_append_owned_empty {P : Program} {w : World} (base : Nat) (t ty e : TypeId) (i : TypeInfo) (size : Nat) (ht : P.underlying t = some (.slice e)) (hi : P.info? e = some i)
    (v : Value) (n : Nat) (xs : List Value) (hown : w.ownsRow base e size v n xs) (ad : Option Addr) (c : Nat) :
    (Builtin.append_ #[t, t] ty #[v, .slice ad 0 c]).run P w = .ok v w := by
  have hl : ∀ a : Addr, (loadCells a 0).run P w = .ok #[] w := fun a => rfl
  rcases hown.2 with ⟨rfl, rfl⟩ | ⟨g, cap, cur, rfl, _, _, hnc, _⟩
  · cases ad <;> simp [Builtin.append_, run_underlying ht, sizeOf, typeInfo, hi, Builtin.lenOf, Builtin.firstCells, hl]
  · cases ad <;> simp [Builtin.append_, run_underlying ht, sizeOf, typeInfo, hi, Builtin.lenOf, Builtin.firstCells, hnc, storeCells, hl]

/-- What is appended lies anywhere, or there is nothing of it. -/
theorem wp_append_any {P : Program} {o : Oper} {a : Act} (w : World) {K : Act → World → Prop} {Q : Exit → Act → World → Prop} (s x : Operand) (t : TypeId)
    (ho : o.op = .call { callee := .builtin .append, args := #[s, x], argTypes := #[t, t] })
    (base : Nat) (e : TypeId) (i : TypeInfo) (z : Value) (size bytes : Nat) (ht : P.underlying t = some (.slice e)) (hi : P.info? e = some i) (hz : i.zero = some z)
    (hsize : i.size = size) (hby : i.bytes = bytes) (hzs : z.cells.size = size) (hsz : 0 < size)
    (v : Value) (n : Nat) (xs : List Value) (hs : a.eval s = v) (hown : w.ownsRow base e size v n xs)
    (ad : Option Addr) (m c : Nat) (news : List Value) (hx : a.eval x = .slice ad m c) (hl : news.length = m * size) (hnews : 0 < m → ∃ ad', ad = some ad' ∧ ∀ j u, news[j]? = some u → w.cell? (ad'.add j) = some u) (h1 : ∀ u ∈ news, u.oneCell' = true)
    (h63 : n + m ≤ maxLen) (hbytes : (n + m) * bytes ≤ 140737488355328) (hbase : base ≤ w.heap.size)
    (h : ∀ va cap w', w'.ownsRow base e size (.slice va (n + m) cap) (n + m) (xs ++ news) → w.grownBy w' v.ownBlock → (∀ b, (Value.slice va (n + m) cap).ownBlock = some b → v.ownBlock = some b ∨ b = w.heap.size) → (v.ownBlock ≠ none → va ≠ none) → K (a.put o.dst (.slice va (n + m) cap)) w') : o.wp P a w K Q := by
  by_cases hm : 0 < m
  · obtain ⟨ad', rfl, hn2⟩ := hnews hm
    refine wp_append_lies w s x t ho base e i z size bytes ht hi hz hsize hby hzs hsz v n xs hs hown ad' m c news hx hl hn2 h1 hm h63 hbytes hbase w.heap.size rfl (fun g cap w' h2 h3 h4 h5 => h _ _ _ h2 h3 (fun b hb => ?_) (fun _ => by simp))
    have : b = g := by simpa [Value.ownBlock] using hb.symm
    subst this
    exact h4
  · obtain rfl : m = 0 := by omega
    have hnl : news = [] := List.eq_nil_of_length_eq_zero (by rw [hl]; omega)
    subst hnl
    have hrun := run_append_owned_empty (P := P) (w := w) base t o.type e i size ht hi v n xs hown ad c
    obtain ⟨va, cap, rfl⟩ := own_form hown
    unfold Oper.wp
    simp [execOp, ho, resolve, invoke, builtin, hs, hx, hrun, Result.andThen]
    exact h va cap w (by simpa using hown) (grown_refl _ _) (fun b hb => .inl hb) (fun h1 h2 => h1 (by rw [h2]; rfl))
theorem wpList_append_any {P : Program} {ops : Array Oper} {rest : List Oper} {o : Oper} {a : Act} (w : World) {Q : Exit → Act → World → Prop} (hgd : o.guard = none) (s x : Operand) (t : TypeId)
    (ho : o.op = .call { callee := .builtin .append, args := #[s, x], argTypes := #[t, t] })
    (base : Nat) (e : TypeId) (i : TypeInfo) (z : Value) (size bytes : Nat) (ht : P.underlying t = some (.slice e)) (hi : P.info? e = some i) (hz : i.zero = some z)
    (hsize : i.size = size) (hby : i.bytes = bytes) (hzs : z.cells.size = size) (hsz : 0 < size)
    (v : Value) (n : Nat) (xs : List Value) (hs : a.eval s = v) (hown : w.ownsRow base e size v n xs)
    (ad : Option Addr) (m c : Nat) (news : List Value) (hx : a.eval x = .slice ad m c) (hl : news.length = m * size) (hnews : 0 < m → ∃ ad', ad = some ad' ∧ ∀ j u, news[j]? = some u → w.cell? (ad'.add j) = some u) (h1 : ∀ u ∈ news, u.oneCell' = true)
    (h63 : n + m ≤ maxLen) (hbytes : (n + m) * bytes ≤ 140737488355328) (hbase : base ≤ w.heap.size)
    (h : ∀ va cap w', w'.ownsRow base e size (.slice va (n + m) cap) (n + m) (xs ++ news) → w.grownBy w' v.ownBlock → (∀ b, (Value.slice va (n + m) cap).ownBlock = some b → v.ownBlock = some b ∨ b = w.heap.size) → (v.ownBlock ≠ none → va ≠ none) → wpList P ops Q rest (a.put o.dst (.slice va (n + m) cap)) w') : wpList P ops Q (o :: rest) a w :=
  wpList_plain hgd fun _ hK => wp_append_any w s x t ho base e i z size bytes ht hi hz hsize hby hzs hsz v n xs hs hown ad m c news hx hl hnews h1 h63 hbytes hbase fun va cap w' h2 h3 h4 h5 => hK _ _ (h va cap w' h2 h3 h4 h5)

/-- The blocks of a place, and its slices. -/
structure PV where
  rg : Nat
  rc : Nat
  wg : Nat
  wa : Option Addr
  wc : Nat
  pg : Nat
  pa : Option Addr
  pc : Nat
  P : Nat → Value
section
variable {w w' : World} {lo N K : Nat} {lab lab' : Nat → Nat} {q : Pl} {a : PV}

end
end
section
open Go.RowKit
set_option linter.unusedSimpArgs false
set_option linter.unusedVariables false
set_option maxRecDepth 8000
/-- Instructions that lie at the beginning of a block. -/
def NewsAt (w : World) (g : Nat) (L : List Ins) : Prop := ∀ j u, (flatI L)[j]? = some u → w.cell? ((⟨g, 0, none⟩ : Addr).add j) = some u
theorem NewsAt.of {w : World} {g : Nat} {L : List Ins} {cs : Array Value} {T : TypeId} (h : Blk w g cs T) (e : cs.toList = flatI L) : NewsAt w g L := fun j u hu => by
  rw [← e] at hu
  exact World.news_of_block h j u hu

theorem run_shl1 (l : Int) (h0 : 0 ≤ l) (h1 : l ≤ 6) (w : World) : (Op.shift .shl .i64 1 .i64 l).run Try.prog w = .ok (.int .i64 (wordsI l)) w := by
  have : l = 0 ∨ l = 1 ∨ l = 2 ∨ l = 3 ∨ l = 4 ∨ l = 5 ∨ l = 6 := by omega
  rcases this with rfl | rfl | rfl | rfl | rfl | rfl | rfl
  all_goals (clear h0 h1; go_simp; rfl)

set_option maxHeartbeats 1000000 in
theorem masked_calls (p : Prg) (i : Ins) (ra : Option Addr) (rc rb ro : Nat) (w : World) (hra : 0 < p.rl → ra = some ⟨rb, ro, none⟩) (hr : RegsAt w rb ro p.rl p.log p.sec) (hok : RegionsOk p.rl p.log) (hc : i.op = 3 ∨ i.op = 4 → Rgn p.rl i.c) :
    Calls Try.prog 68 #[.agg #[.int .i64 i.op, .int .i64 i.a, .int .i64 i.b, .int .i64 i.c, .int .i64 i.n], .slice ra p.rl rc] w fun e w' => ∃ g, e = .returned (.slice (some ⟨g, 0, none⟩) (maskL p i).length (maskL p i).length) ∧ NewsAt w' g (maskL p i) ∧ More w w' := by
  obtain ⟨op, a, b, c, n⟩ := i
  dsimp only at hc ⊢
  by_cases hm : op = 3 ∨ op = 4
  · have hL : maskL p ⟨op, a, b, c, n⟩ = [⟨10, 8, b, 0, n⟩, ⟨11, 8, 0, 0, wordsI (p.log c.toNat)⟩, ⟨op, a, 8, c, 0⟩] := by unfold maskL; rw [if_pos hm]
    rw [hL]
    have hc' := hc hm
    obtain ⟨c0, c1⟩ := hc'
    obtain ⟨cn, rfl⟩ := Int.eq_ofNat_of_zero_le c0
    have hcn : cn < p.rl := by omega
    have hci : (cn : Int) < (p.rl : Int) := by omega
    obtain rfl := hra (by omega)
    have hrc := (hr cn hcn).1
    have hlg := hok.2 cn hcn
    simp only [Int.toNat_natCast] at hL ⊢
    obtain ⟨lg, Hlg⟩ : ∃ x, Hid (p.log cn = x) := ⟨_, rfl⟩
    obtain ⟨rl, Hrl⟩ : ∃ x, Hid (p.rl = x) := ⟨_, rfl⟩
    rw [Hlg.out] at hrc hlg ⊢
    rw [Hrl.out] at hci ⊢
    clear hL hc c0 c1 hra hok hr Hlg Hrl hcn
    have hsh := run_shl1 lg hlg.1 hlg.2
    obtain ⟨wd, Hwd⟩ : ∃ x, Hid (wordsI lg = x) := ⟨_, rfl⟩
    rw [Hwd.out] at hsh ⊢
    clear hlg Hwd
    have Hm : Hid (op = 3 ∨ op = 4) := hm
    clear hm
    obtain ⟨W, HW⟩ : ∃ W : World, Hid (W = w.alloc (.cells #[.int .i64 op, .int .i64 a, .int .i64 b, .int .i64 (cn : Int), .int .i64 n] 67)) := ⟨_, rfl⟩
    have HwW : Hid (More w W) := HW.out ▸ ((More.refl _).alloc _ _)
    have HbW : Hid (Blk W w.heap.size #[.int .i64 op, .int .i64 a, .int .i64 b, .int .i64 (cn : Int), .int .i64 n] 67) := HW.out ▸ Blk.last _ _ _
    obtain ⟨S, HS⟩ : ∃ S : World → Prop, Hid (∀ w', S w' ↔ More W w') := ⟨fun w' => More W w', fun _ => Iff.rfl⟩
    have HS0 : S W.drew := (HS.out _).2 (More.refl _).drew
    have k0 : ∀ i : { w' // S w' }, i.val.cell? ⟨w.heap.size, 0, none⟩ = some (.int .i64 op) := fun i => (HbW.out.more ((HS.out _).1 i.property)).cell rfl
    have k1 : ∀ i : { w' // S w' }, i.val.cell? ⟨w.heap.size, 1, none⟩ = some (.int .i64 a) := fun i => (HbW.out.more ((HS.out _).1 i.property)).cell rfl
    have k2 : ∀ i : { w' // S w' }, i.val.cell? ⟨w.heap.size, 2, none⟩ = some (.int .i64 b) := fun i => (HbW.out.more ((HS.out _).1 i.property)).cell rfl
    have k3 : ∀ i : { w' // S w' }, i.val.cell? ⟨w.heap.size, 3, none⟩ = some (.int .i64 (cn : Int)) := fun i => (HbW.out.more ((HS.out _).1 i.property)).cell rfl
    have k4 : ∀ i : { w' // S w' }, i.val.cell? ⟨w.heap.size, 4, none⟩ = some (.int .i64 n) := fun i => (HbW.out.more ((HS.out _).1 i.property)).cell rfl
    have kr : ∀ i : { w' // S w' }, i.val.cell? ⟨rb, ro + cn * 2, none⟩ = some (.int .i64 lg) := fun i => ((HS.out _).1 i.property).cell (HwW.out.cell hrc)
    have hne : Nonempty { w' // S w' } := ⟨⟨_, HS0⟩⟩
    clear hrc
    have hop := Hm.out
    clear Hm
    rcases hop with rfl | rfl
    all_goals
      go_enter Try.func68, Try.ntmps68
      go_wp2_with (fail)
      rw [← HW.out]
      refine wp_region_ord (S := S) [(0, true), (1, true), (2, true), (3, true), (4, true), (5, true), (6, true), (7, true), (8, true), (9, true), (10, true), (11, true), (12, true), (13, true), (14, true), (15, true), (16, true), (17, true), (18, true), (19, true), (20, false), (21, true)] (by kernel_rfl) (by kernel_rfl) (by kernel_rfl) HS0 ?_
      iterate 20 (refine wpOrd_take rfl (by kernel_rfl) (fun K hK => ?_); go_simp; refine hK _ _ ?_; clear hK K)
      refine wpOrd_busy rfl (by kernel_rfl) (fun K hK => ?_); go_simp
      refine hK _ _ ((HS.out _).2 ((More.refl _).alloc _ _).drew) ?_; clear hK K
      refine wpOrd_take rfl (by kernel_rfl) (fun K hK => ?_); go_simp; refine hK _ _ ?_; clear hK K
      refine wpOrd_done ?_
      clear k0 k1 k2 k3 k4 kr hne HS0 hsh
      go_wp2
      go_ret
      refine ⟨_, rfl, ?_, ((HwW.out.alloc _ _).drew)⟩
      exact NewsAt.of (T := 67) (Blk.last W _ 67) rfl
  · have hL : maskL p ⟨op, a, b, c, n⟩ = [⟨op, a, b, c, n⟩] := by unfold maskL; rw [if_neg hm]
    rw [hL]
    have e3 : (op != 3) = true := by simp; exact fun h => hm (.inl h)
    have e4 : (op != 4) = true := by simp; exact fun h => hm (.inr h)
    clear hL hm hc hra hr hok
    go_enter Try.func68, Try.ntmps68
    go_wp2
    go_ret
    refine ⟨_, rfl, NewsAt.of (cs := #[.int .i64 op, .int .i64 a, .int .i64 b, .int .i64 c, .int .i64 n]) (T := 67) (by simpa using Blk.last (w.alloc (.cells #[.int .i64 op, .int .i64 a, .int .i64 b, .int .i64 c, .int .i64 n] 67)) #[.int .i64 op, .int .i64 a, .int .i64 b, .int .i64 c, .int .i64 n] 67) rfl, ((More.refl _).alloc _ _).alloc _ _⟩
theorem info67z : (Try.prog.info? 67).map (fun i => (i.zero, i.size, i.bytes)) = some (some (.agg #[.int .i64 0, .int .i64 0, .int .i64 0, .int .i64 0, .int .i64 0]), 5, 40) := by kernel_rfl
theorem made1_at (x : Value) (n j : Nat) (h : j < n) : (madeCells #[x] n)[j]? = some x := by unfold madeCells; simp [h, Nat.mod_one]

theorem maskL_place {p : Prg} {k : Nat} (ok : p.Ok 200 8) (hk : k < p.cl) : ∀ i ∈ maskL p (p.ins k), i.op = 7 ∨ i.op = 8 → 0 ≤ i.n ∧ i.n < p.cl := by
  intro i hi h
  unfold maskL at hi
  by_cases hm : (p.ins k).op = 3 ∨ (p.ins k).op = 4
  · rw [if_pos hm] at hi
    simp only [List.mem_cons, List.not_mem_nil, or_false] at hi
    rcases hi with rfl | rfl | rfl
    · dsimp only at h; omega
    · dsimp only at h; omega
    · dsimp only at h; omega
  · rw [if_neg hm] at hi
    obtain rfl : i = p.ins k := by simpa using hi
    have hI := ok.2.2.2 k hk
    unfold InsOk at hI
    rcases h with h | h
    · simp [h] at hI
      exact hI.2.2.2
    · simp [h] at hI
      exact hI.2.2.2
theorem codeL_place {p : Prg} (ok : p.Ok 200 8) : ∀ n, n ≤ p.cl → ∀ i ∈ codeL p n, i.op = 7 ∨ i.op = 8 → 0 ≤ i.n ∧ i.n < p.cl
  | 0, _, i, hi, _ => by simp [codeL] at hi
  | n + 1, hn, i, hi, h => by
    rw [codeL, List.mem_append] at hi
    rcases hi with hi | hi
    · exact codeL_place ok n (by omega) i hi h
    · exact maskL_place ok (by omega) i hi h

/-- So many instructions are laid; behind the program's box lie where each begins, and the instructions. -/
structure H1 (w : World) (p : Prg) (rv c0 : Value) (k : Nat) (cv : Value) (wr : World) : Prop where
  box : Blk wr w.heap.size #[rv, c0] 30
  own : wr.ownsRow (w.heap.size + 2) 67 5 cv (startL p k) (flatI (codeL p k))
  room : ∀ j, j < p.cl → ∃ v, Wr wr (w.heap.size + 1) j v
  done : ∀ j, j < k → wr.cell? ⟨w.heap.size + 1, j, none⟩ = some (.int .i64 (startL p j : Nat))
  more : More w wr

theorem H1.start (w : World) (p : Prg) (rv c0 : Value) : H1 w p rv c0 0 (.slice none 0 0) ((w.alloc (.cells #[rv, c0] 30)).alloc (.cells (madeCells #[.int .i64 0] p.cl) 2)) := by
  have hb : Blk ((w.alloc (.cells #[rv, c0] 30)).alloc (.cells (madeCells #[.int .i64 0] p.cl) 2)) (w.heap.size + 1) (madeCells #[.int .i64 0] p.cl) 2 := by
    simpa using Blk.last (w.alloc (.cells #[rv, c0] 30)) (madeCells #[.int .i64 0] p.cl) 2
  exact ⟨(Blk.last _ _ _).more ((More.refl _).alloc _ _), World.ownsRow_nil _ _ _ _, fun j hj => ⟨_, hb.cell (made1_at _ _ _ hj), hb.frozen _⟩, fun j hj => absurd hj (Nat.not_lt_zero _), ((More.refl _).alloc _ _).alloc _ _⟩

theorem H1.step {w : World} {p : Prg} {rv c0 : Value} {k : Nat} {cv : Value} {wr : World} (h : H1 w p rv c0 k cv wr) (hk : k < p.cl) {w1 w2 w3 : World} (cs : Array Value)
    (e1 : w1 = (wr.setCell ⟨w.heap.size + 1, k, none⟩ (.int .i64 (startL p k : Nat))).alloc (.cells cs 67)) (m2 : More w1 w2) (g3 : w2.grownBy w3 cv.ownBlock) {cv' : Value}
    (own : w3.ownsRow (w.heap.size + 2) 67 5 cv' (startL p (k + 1)) (flatI (codeL p (k + 1)))) : H1 w p rv c0 (k + 1) cv' w3 := by
  have hb : ∀ b, cv.ownBlock = some b → w.heap.size + 2 ≤ b := fun b hb => (h.own.lt b hb).1
  have g1 : wr.grownBy w1 (some (w.heap.size + 1)) := by rw [e1]; exact gr_alloc (gr_set (grown_refl _ _) _ _) _
  have g2 : wr.grownBy w2 (some (w.heap.size + 1)) := gr_more g1 m2
  have n3 : ∀ b, b < w.heap.size + 2 → some b ≠ cv.ownBlock := fun b hlt e => by have := hb b e.symm; omega
  have r1 : ∀ j, j < p.cl → ∃ v, Wr w1 (w.heap.size + 1) j v := fun j hj => by
    obtain ⟨v, hv⟩ := h.room j hj
    rw [e1]
    by_cases q : k = j
    · subst q; exact ⟨_, (hv.same _).kept (World.grownBy_alloc _ _ none) (by simp)⟩
    · exact ⟨v, (hv.other _ _ _ (.inr q)).kept (World.grownBy_alloc _ _ none) (by simp)⟩
  have d1 : ∀ j, j < k + 1 → w1.cell? ⟨w.heap.size + 1, j, none⟩ = some (.int .i64 (startL p j : Nat)) := fun j hj => by
    obtain ⟨v, hv⟩ := h.room j (by omega)
    rw [e1]
    refine ((More.refl _).alloc _ _).cell ?_
    by_cases q : k = j
    · subst q; exact (hv.same _).1
    · rw [World.cell?_setCell_other _ _ _ _ (by intro e; simp only [Addr.mk.injEq] at e; omega)]
      exact h.done j (by omega)
  refine ⟨?_, own, fun j hj => ?_, fun j hj => ?_, ?_⟩
  · have h2 : Blk w2 w.heap.size #[rv, c0] 30 := (g2.block _ h.box.lt (by simp)).trans h.box
    exact (g3.block _ h2.lt (n3 _ (by omega))).trans h2
  · obtain ⟨v, hv⟩ := r1 j hj
    exact ⟨v, (hv.kept (m2.grow none) (by simp)).kept g3 (n3 _ (by omega))⟩
  · exact g3.cell (m2.cell (d1 j hj)) (n3 _ (by show w.heap.size + 1 < _; omega))
  · have m1 : More w w1 := by rw [e1]; exact (h.more.setCell (by simp) _).alloc _ _
    exact (m1.trans m2).grownBy g3 (fun b e => by have := hb b e; omega)

/-- What stands there: so many lead to where they should. -/
def mixL (p : Prg) (q j : Nat) : Ins := if j < q then hardL p j else (codeL p p.cl).getD j ⟨0, 0, 0, 0, 0⟩
structure InsWr (w : World) (g j : Nat) (i : Ins) : Prop where
  op : Wr w g (j * 5) (.int .i64 i.op)
  a : Wr w g (j * 5 + 1) (.int .i64 i.a)
  b : Wr w g (j * 5 + 2) (.int .i64 i.b)
  c : Wr w g (j * 5 + 3) (.int .i64 i.c)
  n : Wr w g (j * 5 + 4) (.int .i64 i.n)
structure H2 (w : World) (p : Prg) (gc q : Nat) (wr : World) : Prop where
  code : ∀ j, j < startL p p.cl → InsWr wr gc j (mixL p q j)
  starts : ∀ j, j < p.cl → wr.cell? ⟨w.heap.size + 1, j, none⟩ = some (.int .i64 (startL p j : Nat))
  lo : w.heap.size + 2 ≤ gc
  hi : gc < wr.heap.size
  more : More w wr

theorem getD_at {L : List Ins} {j : Nat} (hj : j < L.length) (d : Ins) : L[j]? = some (L.getD j d) := by
  rw [List.getD_eq_getElem?_getD]
  rw [List.getElem?_eq_getElem hj]
  rfl

theorem H1.second {w : World} {p : Prg} {rv c0 : Value} {gc cap : Nat} {wr : World} (h : H1 w p rv c0 p.cl (.slice (some ⟨gc, 0, none⟩) (startL p p.cl) cap) wr) : H2 w p gc 0 wr := by
  have hl := h.own.lt gc rfl
  refine ⟨fun j hj => ?_, h.done, hl.1, hl.2, h.more⟩
  have e := flatI_at (codeL p p.cl) j _ (getD_at hj ⟨0, 0, 0, 0, 0⟩)
  have hm : mixL p 0 j = (codeL p p.cl).getD j ⟨0, 0, 0, 0, 0⟩ := by unfold mixL; rw [if_neg (Nat.not_lt_zero _)]
  rw [hm]
  have fz : ∀ o, wr.frozen? ⟨gc, o, none⟩ = false := fun o => World.ownsRow.frozenAt h.own o
  refine ⟨⟨?_, fz _⟩, ⟨?_, fz _⟩, ⟨?_, fz _⟩, ⟨?_, fz _⟩, ⟨?_, fz _⟩⟩
  · rw [World.ownsRow.cellAt h.own _ (by omega)]; exact e.1
  · rw [World.ownsRow.cellAt h.own _ (by omega)]; exact e.2.1
  · rw [World.ownsRow.cellAt h.own _ (by omega)]; exact e.2.2.1
  · rw [World.ownsRow.cellAt h.own _ (by omega)]; exact e.2.2.2.1
  · rw [World.ownsRow.cellAt h.own _ (by omega)]; exact e.2.2.2.2

theorem InsWr.more {w w' : World} {g j : Nat} {i : Ins} (m : More w w') (h : InsWr w g j i) : InsWr w' g j i :=
  ⟨h.op.kept (m.grow none) (by simp), h.a.kept (m.grow none) (by simp), h.b.kept (m.grow none) (by simp), h.c.kept (m.grow none) (by simp), h.n.kept (m.grow none) (by simp)⟩

theorem mixL_here (p : Prg) (q : Nat) : mixL p q q = (codeL p p.cl).getD q ⟨0, 0, 0, 0, 0⟩ := by unfold mixL; rw [if_neg (Nat.lt_irrefl _)]
theorem mixL_next (p : Prg) {q j : Nat} (h : j ≠ q) : mixL p (q + 1) j = mixL p q j := by
  unfold mixL
  by_cases e : j < q
  · rw [if_pos e, if_pos (by omega)]
  · rw [if_neg e, if_neg (by omega)]
theorem mixL_done (p : Prg) (q : Nat) : mixL p (q + 1) q = leadL p (mixL p q q) := by
  rw [mixL_here]; unfold mixL hardL; rw [if_pos (by omega)]

theorem H2.pass {w : World} {p : Prg} {gc q : Nat} {wr w' : World} (h : H2 w p gc q wr) (m : More wr w') (h7 : ¬ ((mixL p q q).op = 7 ∨ (mixL p q q).op = 8)) : H2 w p gc (q + 1) w' := by
  refine ⟨fun j hj => ?_, fun j hj => m.cell (h.starts j hj), h.lo, Nat.lt_of_lt_of_le h.hi m.size, h.more.trans m⟩
  by_cases e : j = q
  · subst e
    rw [mixL_done, leadL_else p h7]
    exact (h.code j hj).more m
  · rw [mixL_next p e]
    exact (h.code j hj).more m
theorem H2.lead {w : World} {p : Prg} {gc q : Nat} {wr w' : World} (h : H2 w p gc q wr) (m : More wr w') (h7 : (mixL p q q).op = 7 ∨ (mixL p q q).op = 8) {u : World} (hu : u = w'.setCell ⟨gc, q * 5 + 4, none⟩ (.int .i64 (startL p (mixL p q q).n.toNat : Nat))) : H2 w p gc (q + 1) u := by
  subst hu
  have hlo := h.lo
  refine ⟨fun j hj => ?_, fun j hj => ?_, h.lo, ?_, ?_⟩
  · have hc := (h.code j hj).more m
    by_cases e : j = q
    · subst e
      rw [mixL_done]
      unfold leadL
      rw [if_pos h7]
      exact ⟨hc.op.other _ _ _ (.inr (by omega)), hc.a.other _ _ _ (.inr (by omega)), hc.b.other _ _ _ (.inr (by omega)), hc.c.other _ _ _ (.inr (by omega)), hc.n.same _⟩
    · rw [mixL_next p e]
      exact ⟨hc.op.other _ _ _ (.inr (by omega)), hc.a.other _ _ _ (.inr (by omega)), hc.b.other _ _ _ (.inr (by omega)), hc.c.other _ _ _ (.inr (by omega)), hc.n.other _ _ _ (.inr (by omega))⟩
  · rw [World.cell?_setCell_other _ _ _ _ (by intro e; simp only [Addr.mk.injEq] at e; omega)]
    exact m.cell (h.starts j hj)
  · have : (w'.setCell ⟨gc, q * 5 + 4, none⟩ (.int .i64 (startL p (mixL p q q).n.toNat : Nat))).heap.size = w'.heap.size := by simp [World.setCell]
    rw [this]
    exact Nat.lt_of_lt_of_le h.hi m.size
  · exact (h.more.trans m).setCell (by show w.heap.size ≤ gc; omega) _
theorem H2.far {w : World} {p : Prg} {gc q : Nat} {wr w' : World} (h : H2 w p gc q wr) (m : More wr w') : H2 w p gc q w' :=
  ⟨fun j hj => (h.code j hj).more m, fun j hj => m.cell (h.starts j hj), h.lo, Nat.lt_of_lt_of_le h.hi m.size, h.more.trans m⟩
theorem H2.end_ {w : World} {p : Prg} {gc : Nat} {wr : World} (h : H2 w p gc (startL p p.cl) wr) : CodeAt wr gc 0 (startL p p.cl) (hardL p) := fun j hj => by
  have hc := h.code j hj
  have e : mixL p (startL p p.cl) j = hardL p j := by unfold mixL; rw [if_pos hj]
  rw [e] at hc
  simp only [Nat.zero_add]
  exact ⟨hc.op.1, hc.a.1, hc.b.1, hc.c.1, hc.n.1⟩

set_option maxHeartbeats 2000000 in
theorem hardened_calls (p : Prg) (l : Loc) (w : World) (hp : PIn w p l) (hok : p.Ok 200 8) :
    Calls Try.prog 48 #[.agg #[.slice l.ra p.rl l.rc, .slice l.ca p.cl l.cc]] w fun e w' => ∃ gc cap, e = .returned (.slice (some ⟨gc, 0, none⟩) (startL p p.cl) cap) ∧ w.heap.size ≤ gc ∧ CodeAt w' gc 0 (startL p p.cl) (hardL p) ∧ More w w' := by
  suffices hP : ∀ P : Ending → World → Prop, (∀ gc cap w', w.heap.size ≤ gc → CodeAt w' gc 0 (startL p p.cl) (hardL p) → More w w' → P (.returned (.slice (some ⟨gc, 0, none⟩) (startL p p.cl) cap)) w') → Calls Try.prog 48 #[.agg #[.slice l.ra p.rl l.rc, .slice l.ca p.cl l.cc]] w P from hP _ (fun gc cap w' h a b => ⟨gc, cap, rfl, h, a, b⟩)
  intro P hP0
  have HP : Hid (∀ gc cap w', w.heap.size ≤ gc → CodeAt w' gc 0 (startL p p.cl) (hardL p) → More w w' → P (.returned (.slice (some ⟨gc, 0, none⟩) (startL p p.cl) cap)) w') := hP0
  have Hp : Hid (PIn w p l ∧ p.Ok 200 8) := ⟨hp, hok⟩
  have hcl0 := hok.2.1
  have hcl1 := hok.2.2.1
  have hca := hp.hc (by omega)
  obtain ⟨i0, hi, hz0, hz1, hz2⟩ := info_parts info67z
  have Hi : Hid (Try.prog.info? 67 = some i0 ∧ i0.zero = some (.agg #[.int .i64 0, .int .i64 0, .int .i64 0, .int .i64 0, .int .i64 0]) ∧ i0.size = 5 ∧ i0.bytes = 40) := ⟨hi, hz0, hz1, hz2⟩
  obtain ⟨ra, Hra⟩ : ∃ x, Hid (l.ra = x) := ⟨_, rfl⟩
  obtain ⟨rl, Hrl⟩ : ∃ x, Hid (p.rl = x) := ⟨_, rfl⟩
  obtain ⟨rc, Hrc⟩ : ∃ x, Hid (l.rc = x) := ⟨_, rfl⟩
  obtain ⟨cb, Hcb⟩ : ∃ x, Hid (l.cb = x) := ⟨_, rfl⟩
  obtain ⟨co, Hco⟩ : ∃ x, Hid (l.co = x) := ⟨_, rfl⟩
  obtain ⟨cc, Hcc⟩ : ∃ x, Hid (l.cc = x) := ⟨_, rfl⟩
  obtain ⟨cl, Hcl⟩ : ∃ x, Hid (p.cl = x) := ⟨_, rfl⟩
  rw [hca, Hra.out, Hrl.out, Hrc.out, Hcb.out, Hco.out, Hcc.out, Hcl.out]
  rw [Hcl.out] at hcl0 hcl1
  have HC : Hid (∀ w1 : World, More w w1 → CodeAt w1 cb co cl p.ins) := fun w1 m1 => by
    have := hp.code.more m1
    rw [Hcb.out, Hco.out, Hcl.out] at this
    exact this
  have HM : Hid (∀ k, k < cl → ∀ w1 : World, More w w1 → Calls Try.prog 68 #[.agg #[.int .i64 (p.ins k).op, .int .i64 (p.ins k).a, .int .i64 (p.ins k).b, .int .i64 (p.ins k).c, .int .i64 (p.ins k).n], .slice ra rl rc] w1 fun e w' => ∃ g, e = .returned (.slice (some ⟨g, 0, none⟩) (maskL p (p.ins k)).length (maskL p (p.ins k)).length) ∧ NewsAt w' g (maskL p (p.ins k)) ∧ More w1 w') := fun k hk w1 m1 => by
    have hI := hok.2.2.2 k (by rw [Hcl.out]; exact hk)
    have := masked_calls p (p.ins k) l.ra l.rc l.rb l.ro w1 hp.hr (hp.regs.more m1) hok.1 (fun h => by
      unfold InsOk at hI
      rcases h with h | h
      · simp [h] at hI; exact hI.2.2
      · simp [h] at hI; exact hI.2.2)
    rw [Hra.out, Hrl.out, Hrc.out] at this
    exact this
  have Hst : Hid (∀ k, k ≤ cl → startL p k ≤ 600) := fun k hk => by have := startL_most p k; omega
  have HS0 : Hid (H1 w p (.slice ra rl rc) (.slice (some ⟨cb, co, none⟩) cl cc) 0 (.slice none 0 0) ((w.alloc (.cells #[.slice ra rl rc, .slice (some ⟨cb, co, none⟩) cl cc] 30)).alloc (.cells (madeCells #[.int .i64 0] cl) 2))) := by
    have := H1.start w p (.slice ra rl rc) (.slice (some ⟨cb, co, none⟩) cl cc)
    rw [Hcl.out] at this
    exact this
  have hmk := run_make_row' (P := Try.prog) 78 2 (.int .i64 0) 8 Try.underlying78 info2 rfl .i64 .i64 cl (by omega) (by omega)
  clear hP0 hp hok hi hz0 hz1 hz2 hca
  go_enter Try.func48, Try.ntmps48
  go_wp2_with (fail)
  clear hmk
  go_loopg [16, 3] cl (fun g iv cv wr => ∃ (k : Nat) (va : Option Addr) (vc : Nat), k + g = cl ∧ iv = .int .i64 k ∧ cv = .slice va (startL p k) vc ∧ Hid (H1 w p (.slice ra rl rc) (.slice (some ⟨cb, co, none⟩) cl cc) k (.slice va (startL p k) vc) wr))
  case atStart => exact ⟨0, none, 0, by omega, rfl, rfl, HS0.out⟩
  case round =>
    obtain ⟨k, va, vc, hkg, rfl, rfl, Hr⟩ := hrel
    clear HS0
    cases gk with
    | zero =>
      obtain rfl : k = cl := by omega
      have hn0 : 1 ≤ startL p k := by
        obtain ⟨j, rfl⟩ : ∃ j, k = j + 1 := ⟨k - 1, by omega⟩
        rw [startL_next]
        have := (sizeK_pos p j).1
        omega
      have hn1 := Hst.out k (Nat.le_refl _)
      obtain ⟨gc, cap, hv, _, _⟩ := Hr.out.own.form (by omega)
      cases hv
      have H20 : Hid (H2 w p gc 0 wr) := by
        have h1 := Hr.out
        rw [← Hcl.out] at h1
        exact h1.second
      have Hpl : Hid (∀ q, q < startL p k → (mixL p q q).op = 7 ∨ (mixL p q q).op = 8 → 0 ≤ (mixL p q q).n ∧ (mixL p q q).n < k) := fun q hq h => by
        rw [mixL_here] at h ⊢
        have := codeL_place Hp.out.2 p.cl (Nat.le_refl _) _ (List.mem_of_getElem? (getD_at (L := codeL p p.cl) (j := q) (by rw [Hcl.out]; exact hq) ⟨0, 0, 0, 0, 0⟩)) h
        rw [Hcl.out] at this ⊢
        exact this
      have Hend : Hid (∀ w', H2 w p gc (startL p k) w' → P (.returned (.slice (some ⟨gc, 0, none⟩) (startL p k) vc)) w') := fun w' h2 => by
        have h1 := HP.out gc vc w'
        rw [Hcl.out] at h1
        refine h1 (by have := h2.lo; omega) ?_ h2.more
        have h3 := h2
        rw [← Hcl.out] at h3
        have := h3.end_
        rw [Hcl.out] at this
        exact this
      clear HP HM HC
      obtain ⟨sn, Hsn⟩ : ∃ x, Hid (startL p k = x) := ⟨_, rfl⟩
      rw [Hsn.out] at hn0 hn1 Hpl Hend Hr ⊢
      obtain ⟨wm, rfl⟩ : ∃ wm, wm = wr := ⟨wr, rfl⟩
      go_wp2_with (fail)
      go_loopg [35] sn (fun g2 iv wr2 => ∃ q : Nat, q + g2 = sn ∧ iv = .int .i64 q ∧ Hid (H2 w p gc q wr2))
      case atStart => exact ⟨0, by omega, rfl, H20.out⟩
      case round =>
        obtain ⟨q, hqg, rfl, Hr2⟩ := hrel
        clear H20
        cases gk with
        | zero =>
          obtain rfl : q = sn := by omega
          have He : Hid (P (.returned (.slice (some ⟨gc, 0, none⟩) q vc)) wr) := Hend.out wr Hr2.out
          clear Hend
          go_wp2
          exact He.out
        | succ g =>
          have hq : q < sn := by omega
          have hqi : (q : Int) < sn := by omega
          have hq63 : wrap64 ((q : Int) + 1) = (q : Int) + 1 := by unfold wrap64; omega
          have hI := Hr2.out.code q (by rw [Hcl.out, Hsn.out]; exact hq)
          have Hpq := Hpl.out q hq
          have Hps : Hid (¬ ((mixL p q q).op = 7 ∨ (mixL p q q).op = 8) → ∀ w', More wr w' → H2 w p gc (q + 1) w') := fun h w' m => Hr2.out.pass m h
          have Hld : Hid ((mixL p q q).op = 7 ∨ (mixL p q q).op = 8 → ∀ w' u, More wr w' → u = w'.setCell ⟨gc, q * 5 + 4, none⟩ (.int .i64 (startL p (mixL p q q).n.toNat : Nat)) → H2 w p gc (q + 1) u) := fun h w' u m e => Hr2.out.lead m h e
          obtain ⟨⟨op, a, b, c, n⟩, HI⟩ : ∃ x, Hid (mixL p q q = x) := ⟨_, rfl⟩
          rw [HI.out] at hI Hpq Hps Hld
          obtain ⟨⟨c0, _⟩, ⟨c1, _⟩, ⟨c2, _⟩, ⟨c3, _⟩, ⟨c4, f4⟩⟩ := hI
          dsimp only at c0 c1 c2 c3 c4 Hpq Hps Hld
          have zg := Hr2.out.hi
          by_cases h78 : op = 7 ∨ op = 8
          · have hpq := Hpq h78
            obtain ⟨n0, n1⟩ := hpq
            obtain ⟨nn, rfl⟩ := Int.eq_ofNat_of_zero_le n0
            have hnk : (nn : Int) < (k : Int) := n1
            have hsN := Hr2.out.starts nn (by rw [Hcl.out]; omega)
            have zs := cell_block hsN
            dsimp only at zs
            have Hn2 : Hid (∀ w', More (wr.setCell ⟨gc, q * 5 + 4, none⟩ (.int .i64 (startL p nn : Nat))) w' → H2 w p gc (q + 1) w') := fun w' m' => (Hld.out h78 wr _ (More.refl _) rfl).far m'
            obtain ⟨sN, HsN⟩ : ∃ x, Hid (startL p nn = x) := ⟨_, rfl⟩
            rw [HsN.out] at hsN Hn2
            have ne1 : ¬ wr.heap.size = gc := by omega
            have ne2 : ¬ gc = wr.heap.size := by omega
            clear Hps Hld Hpq n0 n1
            rcases h78 with rfl | rfl
            all_goals
              go_wp2
              go_roundg g
              case measure => omega
              case rel => exact ⟨q + 1, by omega, by first | rfl | simp, Hn2.out _ ((More.refl _).alloc _ _)⟩
          · have e7 : (op == 7) = false := by simp; omega
            have e8 : (op == 8) = false := by simp; omega
            have Hn2 : Hid (∀ w', More wr w' → H2 w p gc (q + 1) w') := Hps.out h78
            clear h78 Hps Hld Hpq
            go_wp2
            go_roundg g
            case measure => omega
            case rel => exact ⟨q + 1, by omega, by first | rfl | simp, Hn2.out _ ((More.refl _).alloc _ _)⟩
    | succ g =>
      have hk : k < cl := by omega
      have hki : (k : Int) < cl := by omega
      have hk63 : wrap64 ((k : Int) + 1) = (k : Int) + 1 := by unfold wrap64; omega
      obtain ⟨q0, q1, q2, q3, q4⟩ := HC.out wr Hr.out.more k hk
      have HM1 := HM.out k hk
      have HL : Hid (codeL p (k + 1) = codeL p k ++ maskL p (p.ins k) ∧ startL p k + (maskL p (p.ins k)).length = startL p (k + 1) ∧ 1 ≤ (maskL p (p.ins k)).length ∧ (maskL p (p.ins k)).length ≤ 3) := ⟨rfl, by rw [maskL_length, startL_next], by rw [maskL_length]; exact (sizeK_pos p k).1, by rw [maskL_length]; exact (sizeK_pos p k).2⟩
      obtain ⟨L, HLL⟩ : ∃ x, Hid (maskL p (p.ins k) = x) := ⟨_, rfl⟩
      rw [HLL.out] at HM1 HL
      obtain ⟨m, Hlen⟩ : ∃ x, Hid (L.length = x) := ⟨_, rfl⟩
      rw [Hlen.out] at HM1 HL
      have hst0 := Hst.out k (by omega)
      obtain ⟨st, Hstk⟩ : ∃ x, Hid (startL p k = x) := ⟨_, rfl⟩
      rw [Hstk.out] at HL hst0 Hr ⊢
      obtain ⟨⟨op, a, b, c, n⟩, HI⟩ : ∃ x, Hid (p.ins k = x) := ⟨_, rfl⟩
      rw [HI.out] at q0 q1 q2 q3 q4 HM1
      dsimp only at q0 q1 q2 q3 q4 HM1
      have HM2 : Hid (∀ w1 : World, More w w1 → Calls Try.prog 68 #[.agg #[.int .i64 op, .int .i64 a, .int .i64 b, .int .i64 c, .int .i64 n], .slice ra rl rc] w1 fun e w' => ∃ g, e = .returned (.slice (some ⟨g, 0, none⟩) m m) ∧ NewsAt w' g L ∧ More w1 w') := HM1
      have b0 : wr.cell? ⟨w.heap.size, 0, none⟩ = some (.slice ra rl rc) := Hr.out.box.cell rfl
      have hz0 := Hr.out.box.lt
      obtain ⟨rv, hrv, hfz⟩ := Hr.out.room k (by rw [Hcl.out]; exact hk)
      have hz1 : w.heap.size + 1 < wr.heap.size := cell_block hrv
      have n1 : ¬ wr.heap.size = w.heap.size + 1 := by omega
      have n2 : ¬ w.heap.size + 1 = wr.heap.size := by omega
      obtain ⟨w1, Hw1⟩ : ∃ w_ : World, Hid (w_ = (wr.setCell ⟨w.heap.size + 1, k, none⟩ (.int .i64 (st : Nat))).alloc (.cells #[.int .i64 op, .int .i64 a, .int .i64 b, .int .i64 c, .int .i64 n] 67)) := ⟨_, rfl⟩
      have Hm1 : Hid (More w w1) := by rw [Hw1.out]; exact (Hr.out.more.setCell (by simp) _).alloc _ _
      have Hg1 : Hid (wr.grownBy w1 (some (w.heap.size + 1))) := by rw [Hw1.out]; exact gr_alloc (gr_set (grown_refl _ _) _ _) _
      clear HM1
      go_wp2_with (fail)
      rw [← Hw1.out]
      refine (HM2.out w1 Hm1.out).mono ?_
      rintro e w2 ⟨g0, rfl, hnews, m2⟩
      have Hnews : Hid (NewsAt w2 g0 L) := hnews
      have Hm2 : Hid (More w1 w2) := m2
      have Hown2 : Hid (w2.ownsRow (w.heap.size + 2) 67 5 (.slice va st vc) st (flatI (codeL p k))) := by
        have ho := Hr.out.own
        rw [Hstk.out] at ho
        refine World.ownsRow.kept ho (gr_more Hg1.out m2) ?_
        cases hv : (Value.slice va st vc).ownBlock with
        | none => left; rfl
        | some b =>
          right
          intro e
          have h1 := (World.ownsRow.lt ho b hv).1
          have h2 := Option.some.inj e
          omega
      have Hb2 : Hid (w.heap.size + 2 ≤ w2.heap.size) := by
        have h1 := m2.size
        have h2 := Hg1.out.size
        show _ ≤ _
        omega
      clear hnews m2 q0 q1 q2 q3 q4 b0 hrv hfz
      go_wp2_with (at_builtin; refine wpList_append_lies _ rfl (.tmp 26) (.tmp 30) 28 rfl (w.heap.size + 2) 67 i0 (.agg #[.int .i64 0, .int .i64 0, .int .i64 0, .int .i64 0, .int .i64 0]) 5 40 Try.underlying28 Hi.out.1 Hi.out.2.1 Hi.out.2.2.1 Hi.out.2.2.2 rfl (by decide) (.slice va st vc) st (flatI (codeL p k)) rfl Hown2.out ⟨g0, 0, none⟩ m m (flatI L) rfl (by rw [flatI_length, Hlen.out]) Hnews.out (flatI_one L) (by have := HL.out.2.2.1; omega) (by have := HL.out.2.2.2; unfold maxLen; omega) (by have := HL.out.2.2.2; omega) Hb2.out w2.heap.size rfl ?_; intro g3 cap3 w3 own3 gr3 hat3 hlt3)
      have hst3 : st + m = startL p (k + 1) := HL.out.2.1
      have Hr3 : Hid (H1 w p (.slice ra rl rc) (.slice (some ⟨cb, co, none⟩) cl cc) (k + 1) (.slice (some ⟨g3, 0, none⟩) (startL p (k + 1)) cap3) w3) := by
        rw [hst3, ← flatI_append, ← HL.out.1] at own3
        have e1 := Hw1.out
        rw [← Hstk.out] at e1 gr3
        have hr := Hr.out
        rw [← Hstk.out] at hr
        exact hr.step (by rw [Hcl.out]; exact hk) _ e1 Hm2.out gr3 own3
      clear own3 gr3 hat3 hlt3
      go_wp2
      go_roundg g
      case measure => omega
      case rel => exact ⟨k + 1, _, cap3, by omega, by first | rfl | simp, by rw [← hst3], Hr3.out⟩
theorem info74r : (Try.prog.info? 74).map (fun i => (i.zero, i.size, i.bytes)) = some (some (.agg #[.int .i64 0, .bool false]), 2, 16) := by kernel_rfl

/-- Regions as pairs. -/
def regK (log : Nat → Int) (sec : Nat → Bool) : KS := fun i => ⟨log i, sec i⟩

set_option maxHeartbeats 1000000 in
theorem clone_calls (a : Option Addr) (n c b o : Nat) (log : Nat → Int) (sec : Nat → Bool) (w : World) (ha : 0 < n → a = some ⟨b, o, none⟩) (hr : RegsAt w b o n log sec) (hn : n ≤ 6) :
    Calls Try.prog 47 #[.slice a n c] w fun e w' => ∃ (a' : Option Addr) (g c' : Nat), e = .returned (.slice a' n c') ∧ (0 < n → a' = some ⟨g, 0, none⟩) ∧ w.heap.size ≤ g ∧ RegsAt w' g 0 n log sec ∧ More w w' := by
  have qn : ∀ (w : World) (a : Option Addr) (n c n' c' : Nat), (binOp .eql 27 (.slice a n c) (.slice none n' c')).run Try.prog w = .ok (.bool a.isNone) w := fun w a n c n' c' => Lib.run_eql_slice_nil w _ _ a n c n' c' Try.underlying27
  cases a with
  | none =>
    obtain rfl : n = 0 := by
      rcases Nat.eq_zero_or_pos n with q | q
      · exact q
      · exact absurd (ha q) (by simp)
    clear ha hr hn
    go_enter Try.func47, Try.ntmps47
    go_wp2
    go_ret
    exact ⟨none, w.heap.size, 0, rfl, fun h => absurd h (Nat.lt_irrefl _), Nat.le_refl _, fun i hi => absurd hi (Nat.not_lt_zero _), More.refl _⟩
  | some ad =>
    obtain ⟨i0, hi, hz0, hz1, hz2⟩ := info_parts info74r
    have Hi : Hid (Try.prog.info? 74 = some i0 ∧ i0.zero = some (.agg #[.int .i64 0, .bool false]) ∧ i0.size = 2 ∧ i0.bytes = 16) := ⟨hi, hz0, hz1, hz2⟩
    have Hn : Hid (n ≤ 6) := hn
    have Hown1 : Hid ((w.alloc (.cells #[] 74)).ownsRow w.heap.size 74 2 (.slice (some ⟨w.heap.size, 0, none⟩) 0 0) 0 []) := World.ownsRow_made _ #[] 0 (Nat.le_refl _) (by unfold maxLen; omega) rfl
    have Hnews : Hid (0 < n → ∃ ad', some ad = some ad' ∧ ∀ j u, (flatK (regK log sec) n)[j]? = some u → (w.alloc (.cells #[] 74)).cell? (ad'.add j) = some u) := fun h0 => by
      refine ⟨_, ha h0, fun j u hu => ?_⟩
      have hj : j < n * 2 := by have := (List.getElem?_eq_some_iff.1 hu).1; rw [flatK_length] at this; exact this
      rw [Go.WideShapes.add_plain]
      have hk := hr (j / 2) (by omega)
      have hf := flatK_at (regK log sec) n (j / 2) (by omega)
      by_cases e : j % 2 = 0
      · have e2 : j / 2 * 2 = j := by omega
        rw [e2] at hk hf
        rw [hf.1] at hu; rw [← Option.some.inj hu]; exact ((More.refl _).alloc _ _).cell hk.1
      · have e2 : j / 2 * 2 + 1 = j := by omega
        have e3 : o + j / 2 * 2 + 1 = o + j := by omega
        rw [e3] at hk
        rw [e2] at hf
        rw [hf.2] at hu; rw [← Option.some.inj hu]; exact ((More.refl _).alloc _ _).cell hk.2
    clear hi hz0 hz1 hz2 hn ha hr
    go_enter Try.func47, Try.ntmps47
    go_wp2_with (at_builtin; refine wpList_append_any _ rfl (.tmp 5) (.tmp 6) 27 rfl w.heap.size 74 i0 (.agg #[.int .i64 0, .bool false]) 2 16 Try.underlying27 Hi.out.1 Hi.out.2.1 Hi.out.2.2.1 Hi.out.2.2.2 rfl (by decide) (.slice (some ⟨w.heap.size, 0, none⟩) 0 0) 0 [] rfl Hown1.out (some ad) n c (flatK (regK log sec) n) rfl (by rw [flatK_length]) Hnews.out (flatK_one _ n) (by have := Hn.out; unfold maxLen; omega) (by have := Hn.out; omega) (by simp) ?_; intro va cap w2 own2 gr2 hat2 hnn2)
    go_ret
    simp only [Nat.zero_add, List.nil_append] at own2 ⊢
    have hm : More w w2 := ((More.refl _).alloc _ _).grownBy gr2 (fun k hk => by
      have : w.heap.size = k := by simpa [Value.ownBlock] using hk
      omega)
    by_cases h0 : 0 < n
    · obtain ⟨g, cap', hv, hlo, _⟩ := own2.form h0
      cases hv
      refine ⟨_, g, cap, rfl, fun _ => rfl, hlo, fun i hi => ?_, hm⟩
      have hf := flatK_at (regK log sec) n i hi
      simp only [Nat.zero_add]
      exact ⟨by rw [World.ownsRow.cellAt own2 (i * 2) (by omega)]; exact hf.1, by rw [World.ownsRow.cellAt own2 (i * 2 + 1) (by omega)]; exact hf.2⟩
    · exact ⟨va, w.heap.size, cap, rfl, fun h => absurd h h0, Nat.le_refl _, fun i hi => absurd hi (by omega), hm⟩
end
section
open Go.RowKit
set_option linter.unusedSimpArgs false
set_option linter.unusedVariables false
theorem Mem.like_refl (x : Mem) : x.Like x := ⟨rfl, fun _ _ => rfl, fun _ _ _ _ => rfl⟩

/-- An instruction reads no register from 8 on. -/
theorem regs_low {p : Prg} {i : Ins} (hi : InsOk p.rl p.log p.cl 8 i) (h : ¬ (i.op = 3 ∨ i.op = 4 ∨ i.op = 5 ∨ i.op = 6 ∨ i.op = 7 ∨ i.op = 8 ∨ i.op = 9)) {r t : Nat → Int} (hr : ∀ j, j < 8 → t j = r j) : ∀ j, j < 8 → (regsI t i).1 j = (regsI r i).1 j := fun j hj => by
  have hg := regs_of hi
  have hs : ∀ x y, x = y → setR t i.a x j = setR r i.a y j := fun x y e => by
    unfold setR
    by_cases c : j = i.a.toNat
    · rw [if_pos c, if_pos c, e]
    · rw [if_neg c, if_neg c]; exact hr j hj
  unfold regsI
  by_cases q1 : i.op = 1
  · rw [if_pos q1, if_pos q1]; exact hs _ _ rfl
  rw [if_neg q1, if_neg q1]
  by_cases q2 : i.op = 2
  · rw [if_pos q2, if_pos q2]; exact hs _ _ (hr _ (hg.2.1 (by omega)))
  rw [if_neg q2, if_neg q2]
  by_cases q10 : i.op = 10
  · rw [if_pos q10, if_pos q10]; exact hs _ _ (by rw [hr _ (hg.2.1 (by omega))])
  rw [if_neg q10, if_neg q10]
  by_cases q11 : i.op = 11
  · rw [if_pos q11, if_pos q11]
    dsimp only
    rw [hr _ (hg.1 (by omega))]
    split
    · exact hs _ _ rfl
    · exact hr j hj
  rw [if_neg q11, if_neg q11]
  by_cases q12 : i.op = 12
  · rw [if_pos q12, if_pos q12]; exact hr j hj
  rw [if_neg q12, if_neg q12]
  exact hs _ _ (by rw [hr _ (hg.2.1 (by omega)), hr _ (hg.2.2.1 (by omega))])

/-- The hardened one stands where that is now. -/
structure Rel (st : Nat → Nat) (s t : St) : Prop where
  at_ : t.at_ = st s.at_
  r : ∀ j, j < 8 → t.r j = s.r j
  m : t.m = s.m

theorem step_eq_go {p : Prg} {s : St} {i : Ins} (hI : p.ins s.at_ = i) (h7 : i.op = 7) : stepI p s = (⟨i.n.toNat, s.r, s.m, s.seen ++ [⟨1, s.at_, 0⟩]⟩, none) := by
  subst hI
  unfold stepI
  rw [if_pos h7]
theorem step_eq_cond {p : Prg} {s : St} {i : Ins} (hI : p.ins s.at_ = i) (h8 : i.op = 8) : stepI p s = (⟨if holdsI i.c (s.r i.a.toNat) (s.r i.b.toNat) = true then i.n.toNat else s.at_ + 1, s.r, s.m, s.seen ++ [⟨1, s.at_, 0⟩]⟩, none) := by
  subst hI
  unfold stepI
  rw [if_neg (by omega), if_pos h8]
theorem step_eq_stop {p : Prg} {s : St} {i : Ins} (hI : p.ins s.at_ = i) (h9 : i.op = 9) : stepI p s = (⟨s.at_ + 1, s.r, s.m, s.seen ++ [⟨1, s.at_, 0⟩]⟩, some (1, s.r i.a.toNat)) := by
  subst hI
  unfold stepI
  rw [if_neg (by omega), if_neg (by omega), if_pos h9]

section
variable {p h : Prg} {st : Nat → Nat} {X : Int} {l : KV} {m : Mem} {s t : St}

theorem run_on {g k : Nat} {s s' : St} (hat : s.at_ < h.cl) (e : stepI h s = (s', none)) : runI h (g + 1) k s = runI h g (k + 1) s' := by
  rw [runI, if_neg (by omega), e]

theorem Hdn.lt (S : Hdn p h st X) {k o : Nat} (hk : k < p.cl) (ho : o < sizeK p k) : st k + o < h.cl := by
  have := S.mono p.cl k hk (Nat.le_refl _)
  rw [S.cl]; omega

/-- One step of it, in one to three steps. -/
theorem rel_step (S : Hdn p h st X) (g : Good p m l) (hs : Sound p m l s) (R : Rel st s t) :
    (∃ s' t', stepI p s = (s', some (1, s.r (p.ins s.at_).a.toNat)) ∧ stepI h t = (t', some (1, s.r (p.ins s.at_).a.toNat)) ∧ t'.m = s'.m) ∨
    ∃ s', stepI p s = (s', none) ∧ Sound p m l s' ∧ ∃ n t', n ≤ 2 ∧ Rel st s' t' ∧ ∀ f k, ∃ k', runI h (f + (n + 1)) k t = runI h f k' t' := by
  have hi := g.ok.2.2.2 s.at_ hs.at_
  have hg := regs_of hi
  have ha := hs.at_
  have hz := (sizeK_pos p s.at_).1
  have hat : t.at_ < h.cl := by rw [R.at_]; exact S.lt (o := 0) ha hz
  by_cases h9 : (p.ins s.at_).op = 9
  · have e := S.copy s.at_ ha (by omega) (by omega)
    rw [← R.at_] at e
    have e2 := step_eq_stop e h9
    rw [R.r _ (hg.1 (by omega))] at e2
    exact .inl ⟨_, _, step_eq_stop rfl h9, e2, R.m⟩
  right
  rcases g.step hs with ⟨_, _, _, q, _⟩ | ⟨s', es, hs'⟩
  · exact absurd q h9
  refine ⟨s', es, hs', ?_⟩
  obtain ⟨k, ek, hk⟩ := hs.kn
  have nx : ¬ (p.ins s.at_).op = 7 → s.at_ + 1 < p.cl := fun h7 => g.next ha ek h7 h9
  have one : ∀ t', stepI h t = (t', none) → Rel st s' t' → ∃ n t', n ≤ 2 ∧ Rel st s' t' ∧ ∀ f k, ∃ k', runI h (f + (n + 1)) k t = runI h f k' t' := fun t' e1 e2 => ⟨0, t', by omega, e2, fun f k => ⟨k + 1, run_on hat e1⟩⟩
  by_cases h7 : (p.ins s.at_).op = 7
  · have e := S.go s.at_ ha (.inl h7)
    rw [← R.at_] at e
    rw [step_eq_go rfl h7] at es
    obtain ⟨rfl, _⟩ := Prod.mk.inj es
    refine one _ (step_eq_go e h7) ⟨?_, R.r, R.m⟩
    dsimp only
    rw [Int.toNat_natCast]
  by_cases h8 : (p.ins s.at_).op = 8
  · have e := S.go s.at_ ha (.inr h8)
    have en := S.next s.at_ ha
    rw [sizeK_one (by omega), ← R.at_] at en
    rw [← R.at_] at e
    rw [step_eq_cond rfl h8] at es
    obtain ⟨rfl, _⟩ := Prod.mk.inj es
    refine one _ (step_eq_cond e h8) ⟨?_, R.r, R.m⟩
    dsimp only
    rw [Int.toNat_natCast, R.r _ (hg.1 (by omega)), R.r _ (hg.2.1 (by omega))]
    split
    · rfl
    · exact en.symm
  have en := S.next s.at_ ha
  by_cases h34 : (p.ins s.at_).op = 3 ∨ (p.ins s.at_).op = 4
  · obtain ⟨m0, m1, m2⟩ := S.mem s.at_ ha h34
    have z := sizeK_mem h34
    rw [z] at en
    obtain ⟨hw, c1, c2⟩ := g.word hs ek hk (by omega)
    have xn := S.xn
    have hb := hg.2.1 (by omega)
    have hra := hg.1 (by omega)
    have ix : idxI s.r (p.ins s.at_) = wrap64 (s.r (p.ins s.at_).b.toNat + (p.ins s.at_).n) := by unfold idxI; rw [if_neg (by omega)]
    have hlen := g.fits.2.2 _ c1
    rw [hs.len, hlen] at hw
    have hlog := g.fits.1.2 _ c1
    have h64 := two_pow_le (k := (p.log (p.ins s.at_).c.toNat).toNat) (by omega)
    have hwd : wordsI (p.log (p.ins s.at_).c.toNat) = 2 ^ (p.log (p.ins s.at_).c.toNat).toNat := rfl
    obtain ⟨x, hx⟩ : ∃ x, idxI s.r (p.ins s.at_) = x := ⟨_, rfl⟩
    have l1 := S.lt (o := 1) ha (by omega)
    have l2 := S.lt (o := 2) ha (by omega)
    rw [← R.at_] at m0 m1 m2 en l1 l2
    rw [hx] at hw ix
    -- the three steps
    have e0 : stepI h t = (⟨t.at_ + 1, setR t.r X x, t.m, t.seen ++ [⟨1, t.at_, 0⟩] ++ []⟩, none) := by
      rw [step_regs m0 (by simp) (by simp) (by simp) (by simp) (by simp) (by simp) (by simp)]
      unfold regsI
      simp only [show ¬ ((10 : Int) = 1) by decide, show ¬ ((10 : Int) = 2) by decide, if_false, if_true]
      rw [R.r _ hb, ← ix]
    obtain ⟨S0, hS0⟩ : ∃ z, t.seen ++ [⟨1, t.at_, 0⟩] ++ [] = z := ⟨_, rfl⟩
    rw [hS0] at e0
    have e1 : stepI h ⟨t.at_ + 1, setR t.r X x, t.m, S0⟩ = (⟨t.at_ + 1 + 1, setR t.r X x, t.m, S0 ++ [⟨1, (t.at_ + 1 : Nat), 0⟩] ++ []⟩, none) := by
      rw [step_regs (s := ⟨t.at_ + 1, setR t.r X x, t.m, S0⟩) m1 (by simp) (by simp) (by simp) (by simp) (by simp) (by simp) (by simp)]
      unfold regsI
      simp only [show ¬ ((11 : Int) = 1) by decide, show ¬ ((11 : Int) = 2) by decide, show ¬ ((11 : Int) = 10) by decide, if_false, if_true]
      rw [if_neg (by unfold setR; rw [if_pos rfl]; omega)]
    obtain ⟨S1, hS1⟩ : ∃ z, S0 ++ [⟨1, (t.at_ + 1 : Nat), 0⟩] ++ [] = z := ⟨_, rfl⟩
    rw [hS1] at e1
    have hxx : setR t.r X x X.toNat = x := by unfold setR; rw [if_pos rfl]
    have ex : idxI (setR t.r X x) ⟨(p.ins s.at_).op, (p.ins s.at_).a, X, (p.ins s.at_).c, 0⟩ = x := by rw [idx_x _ h34 (by rw [hxx]; omega) (by rw [hxx]; omega), hxx]
    have ml : (t.m.len (p.ins s.at_).c.toNat : Int) = wordsI (p.log (p.ins s.at_).c.toNat) := by rw [R.m, hs.len, hlen]
    have hw2 : ¬ (idxI (setR t.r X x) ⟨(p.ins s.at_).op, (p.ins s.at_).a, X, (p.ins s.at_).c, 0⟩ < 0 ∨ (t.m.len (p.ins s.at_).c.toNat : Int) ≤ idxI (setR t.r X x) ⟨(p.ins s.at_).op, (p.ins s.at_).a, X, (p.ins s.at_).c, 0⟩) := by rw [ex, ml]; exact hw
    have low : ∀ j, j < 8 → setR t.r X x j = s.r j := fun j hj => by unfold setR; rw [if_neg (by omega)]; exact R.r j hj
    have hwp : ¬ (idxI s.r (p.ins s.at_) < 0 ∨ (s.m.len (p.ins s.at_).c.toNat : Int) ≤ idxI s.r (p.ins s.at_)) := by rw [hx, hs.len, hlen]; exact hw
    have fin : ∀ t', stepI h ⟨t.at_ + 1 + 1, setR t.r X x, t.m, S1⟩ = (t', none) → Rel st s' t' → ∃ n t', n ≤ 2 ∧ Rel st s' t' ∧ ∀ f k, ∃ k', runI h (f + (n + 1)) k t = runI h f k' t' := fun t' q1 q2 =>
      ⟨2, t', by omega, q2, fun f k => ⟨k + 1 + 1 + 1, by rw [show f + (2 + 1) = f + 1 + 1 + 1 by omega, run_on hat e0, run_on l1 e1, run_on l2 q1]⟩⟩
    rcases h34 with h3 | h4
    · rw [step_load rfl (.inl h3) hwp] at es
      obtain ⟨rfl, _⟩ := Prod.mk.inj es
      refine fin _ (step_load (s := ⟨t.at_ + 1 + 1, setR t.r X x, t.m, S1⟩) m2 (.inl h3) hw2) ⟨by dsimp only; omega, fun j hj => ?_, R.m⟩
      dsimp only
      rw [ex, hx, R.m]
      unfold setR
      by_cases c : j = (p.ins s.at_).a.toNat
      · rw [if_pos c, if_pos c]
      · rw [if_neg c, if_neg c]; exact low j hj
    · rw [step_put rfl (.inl h4) hwp] at es
      obtain ⟨rfl, _⟩ := Prod.mk.inj es
      refine fin _ (step_put (s := ⟨t.at_ + 1 + 1, setR t.r X x, t.m, S1⟩) m2 (.inl h4) hw2) ⟨by dsimp only; omega, low, ?_⟩
      dsimp only
      rw [ex, hx, R.m, low _ hra]
  have e := S.copy s.at_ ha h34 (by omega)
  rw [sizeK_one h34, ← R.at_] at en
  rw [← R.at_] at e
  by_cases h56 : (p.ins s.at_).op = 5 ∨ (p.ins s.at_).op = 6
  · obtain ⟨hw, c1, c2⟩ := g.word hs ek hk (by omega)
    have ei : ∀ r, idxI r (p.ins s.at_) = (p.ins s.at_).n := fun r => by unfold idxI; rw [if_pos h56]
    have hw2 : ¬ (idxI t.r (p.ins s.at_) < 0 ∨ (t.m.len (p.ins s.at_).c.toNat : Int) ≤ idxI t.r (p.ins s.at_)) := by rw [ei, R.m]; rw [ei] at hw; exact hw
    have hra := hg.1 (by omega)
    rcases h56 with h5 | h6
    · rw [step_load rfl (.inr h5) hw] at es
      obtain ⟨rfl, _⟩ := Prod.mk.inj es
      refine one _ (step_load e (.inr h5) hw2) ⟨by dsimp only; omega, fun j hj => ?_, R.m⟩
      dsimp only
      rw [ei, ei, R.m]
      unfold setR
      by_cases c : j = (p.ins s.at_).a.toNat
      · rw [if_pos c, if_pos c]
      · rw [if_neg c, if_neg c]; exact R.r j hj
    · rw [step_put rfl (.inr h6) hw] at es
      obtain ⟨rfl, _⟩ := Prod.mk.inj es
      refine one _ (step_put e (.inr h6) hw2) ⟨by dsimp only; omega, R.r, ?_⟩
      dsimp only
      rw [ei, ei, R.m, R.r _ hra]
  · rw [step_regs rfl (by omega) (by omega) (by omega) (by omega) h7 h8 h9] at es
    obtain ⟨rfl, _⟩ := Prod.mk.inj es
    exact one _ (step_regs e (by omega) (by omega) (by omega) (by omega) h7 h8 h9) ⟨by dsimp only; omega, regs_low hi (by omega) R.r, R.m⟩

theorem rel_run (S : Hdn p h st X) (g : Good p m l) : ∀ (f F k k' : Nat) (s t : St), Sound p m l s → Rel st s t → 3 * f ≤ F →
    (runI p f k s).fin = 0 ∨ ((runI h F k' t).fin = (runI p f k s).fin ∧ (runI h F k' t).val = (runI p f k s).val ∧ (runI h F k' t).mem.Like (runI p f k s).mem)
  | 0, F, k, k', s, t, _, _, _ => .inl rfl
  | f + 1, F, k, k', s, t, hs, R, hF => by
    have hz := (sizeK_pos p s.at_).1
    have hat : t.at_ < h.cl := by rw [R.at_]; exact S.lt (o := 0) hs.at_ hz
    have ha := hs.at_
    rcases rel_step S g hs R with ⟨s', t', e1, e2, e3⟩ | ⟨s', e1, hs', n, t', hn, R', hr⟩
    · right
      obtain ⟨F, rfl⟩ : ∃ G, F = G + 1 := ⟨F - 1, by omega⟩
      rw [runI, runI, if_neg (by omega), if_neg (by omega), e1, e2]
      dsimp only
      rw [e3]
      exact ⟨rfl, rfl, Mem.like_refl _⟩
    · obtain ⟨G, rfl⟩ : ∃ G, F = G + (n + 1) := ⟨F - (n + 1), by omega⟩
      obtain ⟨k2, e4⟩ := hr G k'
      rw [e4, run_on (h := p) ha e1]
      exact rel_run S g f G (k + 1) k2 s' t' hs' R' (by omega)

/-- It does the same. -/
theorem hd_same (S : Hdn p h st X) (ok : p.Ok 200 8) (hn : ∀ i, i < p.cl → B64 (p.ins i).n) (hk : Known p l) (hc : (checkK p l).1 = 0) (top : Nat) : DoesSame p h 4 top := fun m hf hw f _ => by
  have g : Good p m l := ⟨ok, hn, hf, hk, hc⟩
  exact rel_run S g f (4 * f + 4) 0 0 _ _ (g.begin_ hw) ⟨S.s0.symm, fun _ _ => rfl, rfl⟩ (by omega)
end
section
variable {p h : Prg} {st : Nat → Nat} {X : Int}

/-- Each instruction of it comes from one. -/
theorem Hdn.from_ (S : Hdn p h st X) : ∀ (n : Nat), n ≤ p.cl → ∀ q, q < st n → ∃ k o, k < n ∧ o < sizeK p k ∧ q = st k + o
  | 0, _, q, hq => by rw [S.s0] at hq; omega
  | n + 1, hn, q, hq => by
    have e := S.next n (by omega)
    by_cases c : q < st n
    · obtain ⟨k, o, h1, h2, h3⟩ := S.from_ n (by omega) q c
      exact ⟨k, o, by omega, h2, h3⟩
    · exact ⟨n, q - st n, by omega, by omega, by omega⟩
theorem Hdn.most (S : Hdn p h st X) : ∀ (n : Nat), n ≤ p.cl → n ≤ st n ∧ st n ≤ 3 * n
  | 0, _ => by rw [S.s0]; omega
  | n + 1, hn => by
    have e := S.next n (by omega)
    have := S.most n (by omega)
    have := sizeK_pos p n
    omega

theorem insOk_up {rl : Nat} {log log' : Nat → Int} {cl cl' : Nat} {i : Ins} (hi : InsOk rl log cl 8 i) (hl : ∀ c, c < rl → log c = log' c) (h7 : ¬ (i.op = 7 ∨ i.op = 8)) : InsOk rl log' cl' 10 i := by
  have up : ∀ x, Reg 8 x → Reg 10 x := fun x q => by unfold Reg at *; omega
  have wd : ∀ c n, Rgn rl c → Wrd log c n → Wrd log' c n := fun c n q w => by
    unfold Rgn at q
    unfold Wrd at *
    rw [← hl c.toNat (by omega)]; exact w
  unfold InsOk at *
  by_cases q1 : i.op = 1
  · rw [if_pos q1] at *; exact ⟨up _ hi.1, hi.2⟩
  rw [if_neg q1] at *
  by_cases q2 : i.op = 2
  · rw [if_pos q2] at *; exact ⟨up _ hi.1, up _ hi.2.1, hi.2.2⟩
  rw [if_neg q2] at *
  by_cases q3 : i.op = 3
  · rw [if_pos q3] at *; exact ⟨up _ hi.1, up _ hi.2.1, hi.2.2⟩
  rw [if_neg q3] at *
  by_cases q4 : i.op = 4
  · rw [if_pos q4] at *; exact ⟨up _ hi.1, up _ hi.2.1, hi.2.2⟩
  rw [if_neg q4] at *
  by_cases q5 : i.op = 5
  · rw [if_pos q5] at *; exact ⟨up _ hi.1, hi.2.1, hi.2.2.1, wd _ _ hi.2.2.1 hi.2.2.2⟩
  rw [if_neg q5] at *
  by_cases q6 : i.op = 6
  · rw [if_pos q6] at *; exact ⟨up _ hi.1, hi.2.1, hi.2.2.1, wd _ _ hi.2.2.1 hi.2.2.2⟩
  rw [if_neg q6, if_neg (fun q => h7 (.inl q)), if_neg (fun q => h7 (.inr q))] at *
  by_cases q9 : i.op = 9
  · rw [if_pos q9] at *; exact ⟨up _ hi.1, hi.2⟩
  rw [if_neg q9] at *
  by_cases q10 : i.op = 10
  · rw [if_pos q10] at *; exact ⟨up _ hi.1, up _ hi.2.1, hi.2.2⟩
  rw [if_neg q10] at *
  by_cases q11 : i.op = 11
  · rw [if_pos q11] at *; exact ⟨up _ hi.1, hi.2⟩
  rw [if_neg q11] at *
  by_cases q12 : i.op = 12
  · rw [if_pos q12] at *; exact hi
  rw [if_neg q12] at *
  exact ⟨hi.1, up _ hi.2.1, up _ hi.2.2.1, up _ hi.2.2.2.1, hi.2.2.2.2⟩

theorem hd_ins (S : Hdn p h st X) (ok : p.Ok 200 8) (hf : p.Fit) (q : Nat) (hq : q < h.cl) : InsOk h.rl h.log h.cl 10 (h.ins q) ∧ (h.ins q).fits := by
  rw [S.cl] at hq
  obtain ⟨k, o, hk, ho, rfl⟩ := S.from_ p.cl (Nat.le_refl _) q hq
  have hi := ok.2.2.2 k hk
  have hfit := hf.ins k hk
  unfold Ins.fits at hfit
  have hX : Reg 10 X := by unfold Reg; rcases S.x with e | e <;> omega
  have iX : I64 X := by unfold I64; rcases S.x with e | e <;> omega
  have i0 : I64 0 := by unfold I64; omega
  rw [← S.rl]
  have small := S.most p.cl (Nat.le_refl _)
  have c200 := ok.2.2.1
  by_cases m : (p.ins k).op = 3 ∨ (p.ins k).op = 4
  · rw [sizeK_mem m] at ho
    obtain ⟨m0, m1, m2⟩ := S.mem k hk m
    have hr : Reg 8 (p.ins k).a ∧ Reg 8 (p.ins k).b ∧ Rgn p.rl (p.ins k).c := by unfold InsOk at hi; rcases m with m | m <;> simpa [m] using hi
    obtain ⟨ra, rb, rc⟩ := hr
    have hcr : (p.ins k).c.toNat < p.rl := by unfold Rgn at rc; omega
    have hlog := ok.1.2 _ hcr
    have h64 := two_pow_le (k := (p.log (p.ins k).c.toNat).toNat) (by omega)
    have ra' : Reg 10 (p.ins k).a := by unfold Reg at *; omega
    have rb' : Reg 10 (p.ins k).b := by unfold Reg at *; omega
    have hoo : o = 0 ∨ o = 1 ∨ o = 2 := by omega
    rcases hoo with rfl | rfl | rfl
    · rw [Nat.add_zero, m0]
      refine ⟨?_, ⟨by unfold I64; dsimp only; omega, iX, hfit.2.2.1, i0, hfit.2.2.2.2⟩⟩
      unfold InsOk
      simp
      exact ⟨hX, rb'⟩
    · rw [m1]
      refine ⟨?_, ⟨by unfold I64; dsimp only; omega, iX, i0, i0, by unfold I64 wordsI; dsimp only; omega⟩⟩
      unfold InsOk
      simp
      exact ⟨hX, by unfold wordsI; omega⟩
    · rw [m2]
      refine ⟨?_, ⟨hfit.1, hfit.2.1, iX, hfit.2.2.2.1, i0⟩⟩
      unfold InsOk
      rcases m with m | m <;> simp [m] <;> exact ⟨ra', hX, rc⟩
  · rw [sizeK_one m] at ho
    obtain rfl : o = 0 := by omega
    rw [Nat.add_zero]
    by_cases w : (p.ins k).op = 7 ∨ (p.ins k).op = 8
    · rw [S.go k hk w]
      have hn : Plc p.cl (p.ins k).n := by unfold InsOk at hi; rcases w with w | w <;> simp [w] at hi <;> simp [hi]
      unfold Plc at hn
      have hn2 : (p.ins k).n.toNat < p.cl := by omega
      have hlt := S.lt (o := 0) hn2 (sizeK_pos p _).1
      rw [Nat.add_zero] at hlt
      have hcl := S.cl
      have hP : Plc h.cl (st (p.ins k).n.toNat : Int) := by unfold Plc; omega
      refine ⟨?_, ⟨hfit.1, hfit.2.1, hfit.2.2.1, hfit.2.2.2.1, by unfold I64; dsimp only; omega⟩⟩
      unfold InsOk Reg at hi
      unfold InsOk Reg
      rcases w with w | w <;> simp [w] at hi <;> simp [w, hP]
      · exact ⟨hi.1, hi.2.1, hi.2.2.1⟩
      · omega
    · rw [S.copy k hk m w]
      exact ⟨insOk_up hi (fun c hc => (S.reg c hc).1) w, hfit⟩

theorem hd_like (S : Hdn p h st X) (ok : p.Ok 200 8) (hf : p.Fit) : Like8 p h := by
  have small := S.most p.cl (Nat.le_refl _)
  have c200 := ok.2.2.1
  have c1 := ok.2.1
  have hcl := S.cl
  refine ⟨⟨⟨by rw [← S.rl]; exact ok.1.1, fun i hi => ?_⟩, by omega, by omega, fun q hq => (hd_ins S ok hf q hq).1⟩, ⟨by rw [← S.rl]; exact hf.rl, ?_, fun i hi => ?_, fun q hq => (hd_ins S ok hf q hq).2⟩, S.rl, S.reg⟩
  · rw [← (S.reg i (by rw [S.rl]; exact hi)).1]; exact ok.1.2 i (by rw [S.rl]; exact hi)
  · have : 600 ≤ maxLen := by decide
    omega
  · rw [← (S.reg i (by rw [S.rl]; exact hi)).1]; exact hf.log i (by rw [S.rl]; exact hi)

end
end
section
open Go.RowKit
set_option linter.unusedSimpArgs false
set_option linter.unusedVariables false
set_option maxRecDepth 8000
/-- A program's values. -/
abbrev prgV (p : Prg) (l : Loc) : Value := .agg #[.slice l.ra p.rl l.rc, .slice l.ca p.cl l.cc]

theorem RegsAt.other {w : World} {b o rl : Nat} {log : Nat → Int} {sec : Nat → Bool} (h : RegsAt w b o rl log sec) {b' : Nat} (hb : b' ≠ b) (o' : Nat) (v : Value) : RegsAt (w.setCell ⟨b', o', none⟩ v) b o rl log sec := fun i hi =>
  ⟨by rw [World.cell?_setCell_other _ _ _ _ (by intro e; simp only [Addr.mk.injEq] at e; exact hb e.1)]; exact (h i hi).1, by rw [World.cell?_setCell_other _ _ _ _ (by intro e; simp only [Addr.mk.injEq] at e; exact hb e.1)]; exact (h i hi).2⟩
theorem CodeAt.other {w : World} {b o cl : Nat} {ins : Nat → Ins} (h : CodeAt w b o cl ins) {b' : Nat} (hb : b' ≠ b) (o' : Nat) (v : Value) : CodeAt (w.setCell ⟨b', o', none⟩ v) b o cl ins := fun i hi => by
  have k : ∀ x, (w.setCell ⟨b', o', none⟩ v).cell? ⟨b, x, none⟩ = w.cell? ⟨b, x, none⟩ := fun x => World.cell?_setCell_other _ _ _ _ (by intro e; simp only [Addr.mk.injEq] at e; exact hb e.1)
  rw [k, k, k, k, k]
  exact h i hi

/-- What Make tells. -/
def Made (p : Prg) (w : World) (e : Ending) (w' : World) : Prop :=
  ∃ f : Int × Int, Told p f ∧ More w w' ∧
    ((f.1 = 0 ∧ ∃ lh : Loc, PIn w' (hardP p) lh ∧ e = .returned (.tuple #[prgV (hardP p) lh, .agg #[.int .i64 0, .int .i64 0]])) ∨
     (¬ f.1 = 0 ∧ e = .returned (.tuple #[.agg #[.slice none 0 0, .slice none 0 0], .agg #[.int .i64 f.1, .int .i64 f.2]])))

set_option maxHeartbeats 2000000 in
theorem make_calls (p : Prg) (l : Loc) (w : World) (hp : PIn w p l) (hf : p.Fit) : Calls Try.prog 21 #[prgV p l] w (Made p w) := by
  unfold prgV
  have C1 : Hid (∀ w1 : World, More w w1 → Calls Try.prog 13 #[.agg #[.slice l.ra p.rl l.rc, .slice l.ca p.cl l.cc]] w1 fun e w' => ∃ f : Int × Int, Told p f ∧ e = .returned (.agg #[.int .i64 f.1, .int .i64 f.2]) ∧ More w1 w') := fun w1 m1 => check_told p l w1 (hp.more m1) hf
  have C2 : Hid (p.Ok 200 8 → ∀ w1 : World, More w w1 → Calls Try.prog 47 #[.slice l.ra p.rl l.rc] w1 fun e w' => ∃ (a' : Option Addr) (g c' : Nat), e = .returned (.slice a' p.rl c') ∧ (0 < p.rl → a' = some ⟨g, 0, none⟩) ∧ w1.heap.size ≤ g ∧ RegsAt w' g 0 p.rl p.log p.sec ∧ More w1 w') := fun ok w1 m1 =>
    clone_calls l.ra p.rl l.rc l.rb l.ro p.log p.sec w1 hp.hr (hp.regs.more m1) ok.1.1
  have C3 : Hid (p.Ok 200 8 → ∀ w1 : World, More w w1 → Calls Try.prog 48 #[.agg #[.slice l.ra p.rl l.rc, .slice l.ca p.cl l.cc]] w1 fun e w' => ∃ gc cap, e = .returned (.slice (some ⟨gc, 0, none⟩) (startL p p.cl) cap) ∧ w1.heap.size ≤ gc ∧ CodeAt w' gc 0 (startL p p.cl) (hardL p) ∧ More w1 w') := fun ok w1 m1 => hardened_calls p l w1 (hp.more m1) ok
  clear hp hf
  obtain ⟨ra, Hra⟩ : ∃ x, Hid (l.ra = x) := ⟨_, rfl⟩
  obtain ⟨rl, Hrl⟩ : ∃ x, Hid (p.rl = x) := ⟨_, rfl⟩
  obtain ⟨rc, Hrc⟩ : ∃ x, Hid (l.rc = x) := ⟨_, rfl⟩
  obtain ⟨ca, Hca⟩ : ∃ x, Hid (l.ca = x) := ⟨_, rfl⟩
  obtain ⟨cl, Hcl⟩ : ∃ x, Hid (p.cl = x) := ⟨_, rfl⟩
  obtain ⟨cc, Hcc⟩ : ∃ x, Hid (l.cc = x) := ⟨_, rfl⟩
  obtain ⟨sn, Hsn⟩ : ∃ x, Hid (startL p p.cl = x) := ⟨_, rfl⟩
  rw [Hsn.out] at C3
  rw [Hra.out, Hrl.out, Hrc.out, Hca.out, Hcl.out, Hcc.out] at C1 C3 ⊢
  rw [Hra.out, Hrl.out, Hrc.out] at C2
  go_enter Try.func21, Try.ntmps21
  obtain ⟨W0, HW0⟩ : ∃ W : World, Hid (W = ((w.alloc (.cells #[.slice ra rl rc, .slice ca cl cc] 30)).alloc (.cells #[.slice none 0 0, .slice none 0 0] 30)).alloc (.cells #[.int .i64 0, .int .i64 0] 33)) := ⟨_, rfl⟩
  have Hm0 : Hid (More w W0) := HW0.out ▸ (((More.refl _).alloc _ _).alloc _ _).alloc _ _
  have B0 : Hid (Blk W0 w.heap.size #[.slice ra rl rc, .slice ca cl cc] 30) := HW0.out ▸ (((Blk.last _ _ _).alloc _ _).alloc _ _)
  have B1 : Hid (Blk W0 (w.heap.size + 1) #[.slice none 0 0, .slice none 0 0] 30) := HW0.out ▸ ((by simpa using Blk.last (w.alloc (.cells #[.slice ra rl rc, .slice ca cl cc] 30)) #[.slice none 0 0, .slice none 0 0] 30 : Blk _ (w.heap.size + 1) _ _).alloc _ _)
  have B2 : Hid (Blk W0 (w.heap.size + 1 + 1) #[.int .i64 0, .int .i64 0] 33) := HW0.out ▸ (by simpa using Blk.last ((w.alloc (.cells #[.slice ra rl rc, .slice ca cl cc] 30)).alloc (.cells #[.slice none 0 0, .slice none 0 0] 30)) #[.int .i64 0, .int .i64 0] 33 : Blk _ (w.heap.size + 1 + 1) _ _)
  go_wp2_with (fail)
  rw [← HW0.out]
  refine (C1.out W0 Hm0.out).mono ?_
  rintro e w1 ⟨⟨f1, f2⟩, hT, rfl, m1⟩
  dsimp only
  have HT : Hid (Told p (f1, f2)) := hT
  have Hm1 : Hid (More W0 w1) := m1
  clear hT m1 C1
  obtain ⟨W, HW⟩ : ∃ W : World, Hid (W = w1.alloc (.cells #[.int .i64 f1, .int .i64 f2] 33)) := ⟨_, rfl⟩
  have HmW : Hid (More W0 W) := by rw [HW.out]; exact Hm1.out.alloc _ _
  have D0 : Hid (Blk W w.heap.size #[.slice ra rl rc, .slice ca cl cc] 30) := B0.out.more HmW.out
  have D1 : Hid (Blk W (w.heap.size + 1) #[.slice none 0 0, .slice none 0 0] 30) := B1.out.more HmW.out
  have D2 : Hid (Blk W (w.heap.size + 1 + 1) #[.int .i64 0, .int .i64 0] 33) := B2.out.more HmW.out
  have D3 : Hid (Blk W w1.heap.size #[.int .i64 f1, .int .i64 f2] 33) := by rw [HW.out]; exact Blk.last _ _ _
  have Hz1 : Hid (w.heap.size + 3 ≤ w1.heap.size) := by
    have h1 := (B2.out.more Hm1.out).lt
    show _ ≤ _
    omega
  by_cases h0 : f1 = 0
  · subst h0
    obtain ⟨hok, lk, hk, hk0⟩ := HT.out.ok rfl
    have HO : Hid (p.Ok 200 8) := hok
    clear hok hk hk0
    have C2' : Hid (∀ w1 : World, More w w1 → Calls Try.prog 47 #[.slice ra rl rc] w1 fun e w' => ∃ (a' : Option Addr) (g c' : Nat), e = .returned (.slice a' rl c') ∧ (0 < rl → a' = some ⟨g, 0, none⟩) ∧ w1.heap.size ≤ g ∧ RegsAt w' g 0 rl p.log p.sec ∧ More w1 w') := C2.out HO.out
    have C3' : Hid (∀ w1 : World, More w w1 → Calls Try.prog 48 #[.agg #[.slice ra rl rc, .slice ca cl cc]] w1 fun e w' => ∃ gc cap, e = .returned (.slice (some ⟨gc, 0, none⟩) sn cap) ∧ w1.heap.size ≤ gc ∧ CodeAt w' gc 0 sn (hardL p) ∧ More w1 w') := C3.out HO.out
    clear C2 C3
    obtain ⟨S, HS⟩ : ∃ S : World → Prop, Hid (∀ w', S w' ↔ Blk w' w.heap.size #[.slice ra rl rc, .slice ca cl cc] 30) := ⟨_, fun _ => Iff.rfl⟩
    have HS0 : S W.drew := (HS.out _).2 D0.out
    have k0 : ∀ i : { w' // S w' }, i.val.cell? ⟨w.heap.size, 0, none⟩ = some (.slice ra rl rc) := fun i => ((HS.out _).1 i.property).cell rfl
    have k1 : ∀ i : { w' // S w' }, i.val.cell? ⟨w.heap.size, 1, none⟩ = some (.slice ca cl cc) := fun i => ((HS.out _).1 i.property).cell rfl
    have hne : Nonempty { w' // S w' } := ⟨⟨_, HS0⟩⟩
    go_wp2_with (fail)
    rw [← HW.out]
    refine wp_region_ord (S := S) [(0, true), (1, true), (3, true), (6, true), (2, false), (4, false), (5, true), (7, false), (8, false)] (by kernel_rfl) (by kernel_rfl) (by kernel_rfl) HS0 ?_
    iterate 4 (refine wpOrd_take rfl (by kernel_rfl) (fun K hK => ?_); go_simp; refine hK _ _ ?_; clear hK K)
    refine wpOrd_busy rfl (by kernel_rfl) (fun K hK => ?_); go_simp
    have HmD : Hid (More w W.drew) := (Hm0.out.trans HmW.out).drew
    refine (C2'.out _ HmD.out).mono ?_
    rintro e w2 ⟨a', g, c', rfl, ha', hg, hregs, m2⟩
    have Hm2 : Hid (More W w2) := (More.refl W).drew.trans m2
    have Hreg2 : Hid ((0 < rl → a' = some ⟨g, 0, none⟩) ∧ W.heap.size ≤ g ∧ RegsAt w2 g 0 rl p.log p.sec) := ⟨ha', hg, hregs⟩
    clear ha' hg hregs m2
    go_simp
    refine hK _ _ ((HS.out _).2 (D0.out.more Hm2.out)) ?_; clear hK K
    refine wpOrd_busy rfl (by kernel_rfl) (fun K hK => ?_); go_simp
    refine (C3'.out w2 ((Hm0.out.trans HmW.out).trans Hm2.out)).mono ?_
    rintro e w3 ⟨gc, cap, rfl, hgc, hcode, m3⟩
    have Hm3 : Hid (More W w3) := Hm2.out.trans m3
    have Hreg3 : Hid (RegsAt w3 g 0 rl p.log p.sec) := Hreg2.out.2.2.more m3
    have Hcode3 : Hid (W.heap.size ≤ gc ∧ CodeAt w3 gc 0 sn (hardL p)) := ⟨Nat.le_trans Hm2.out.size hgc, hcode⟩
    clear hgc hcode m3
    have E1 : Hid (Blk w3 (w.heap.size + 1) #[.slice none 0 0, .slice none 0 0] 30) := D1.out.more Hm3.out
    have E2 : Hid (Blk w3 (w.heap.size + 1 + 1) #[.int .i64 0, .int .i64 0] 33) := D2.out.more Hm3.out
    have a0 : w3.cell? ⟨w.heap.size + 1, 0, none⟩ = some (.slice none 0 0) := E1.out.cell rfl
    have a1 : w3.cell? ⟨w.heap.size + 1, 1, none⟩ = some (.slice none 0 0) := E1.out.cell rfl
    have a2 : w3.cell? ⟨w.heap.size + 1 + 1, 0, none⟩ = some (.int .i64 0) := E2.out.cell rfl
    have a3 : w3.cell? ⟨w.heap.size + 1 + 1, 1, none⟩ = some (.int .i64 0) := E2.out.cell rfl
    have z0 := E1.out.frozen 0
    have z1 := E1.out.frozen 1
    have z2 := E2.out.frozen 0
    have z3 := E2.out.frozen 1
    go_simp
    refine hK _ _ ((HS.out _).2 (D0.out.more Hm3.out)) ?_; clear hK K
    refine wpOrd_take rfl (by kernel_rfl) (fun K hK => ?_); go_simp; refine hK _ _ ?_; clear hK K
    refine wpOrd_busy rfl (by kernel_rfl) (fun K hK => ?_); go_simp
    refine hK _ _ ((HS.out _).2 (((D0.out.more Hm3.out).other (by omega) _ _).other (by omega) _ _)) ?_; clear hK K
    refine wpOrd_busy rfl (by kernel_rfl) (fun K hK => ?_); go_simp
    refine hK _ _ ((HS.out _).2 (((((D0.out.more Hm3.out).other (by omega) _ _).other (by omega) _ _).other (by omega) _ _).other (by omega) _ _)) ?_; clear hK K
    refine wpOrd_done ?_
    clear k0 k1 hne HS0
    go_wp2
    refine bodyPost_ret (v := .tuple #[.agg #[.slice a' rl c', .slice (some ⟨gc, 0, none⟩) sn cap], .agg #[.int .i64 0, .int .i64 0]]) (by simp [results, Try.results21, go_sem, *]) rfl ?_
    have hzW := HmW.out.size
    have hz0 := (D2.out).lt
    have hg := Hreg2.out.2.1
    have hgc := Hcode3.out.1
    refine ⟨(0, f2), HT.out, ?_, .inl ⟨rfl, ⟨a', g, 0, c', some ⟨gc, 0, none⟩, gc, 0, cap⟩, ⟨?_, fun _ => rfl, ?_, ?_⟩, ?_⟩⟩
    · exact ((((((Hm0.out.trans HmW.out).trans Hm3.out).setCell (by show w.heap.size ≤ _; simp) _).setCell (by show w.heap.size ≤ _; simp) _).setCell (by show w.heap.size ≤ _; simp; omega) _).setCell (by show w.heap.size ≤ _; simp; omega) _)
    · intro h
      exact Hreg2.out.1 (by rw [← Hrl.out]; exact h)
    · have := (((Hreg3.out.other (b' := w.heap.size + 1) (by omega) 0 (.slice a' rl c')).other (b' := w.heap.size + 1) (by omega) 1 (.slice (some ⟨gc, 0, none⟩) sn cap)).other (b' := w.heap.size + 1 + 1) (by omega) 0 (.int .i64 0)).other (b' := w.heap.size + 1 + 1) (by omega) 1 (.int .i64 0)
      rw [← Hrl.out] at this ⊢
      exact this
    · have := (((Hcode3.out.2.other (b' := w.heap.size + 1) (by omega) 0 (.slice a' rl c')).other (b' := w.heap.size + 1) (by omega) 1 (.slice (some ⟨gc, 0, none⟩) sn cap)).other (b' := w.heap.size + 1 + 1) (by omega) 0 (.int .i64 0)).other (b' := w.heap.size + 1 + 1) (by omega) 1 (.int .i64 0)
      rw [← Hsn.out] at this ⊢
      exact this
    · unfold prgV hardP
      dsimp only
      rw [Hrl.out, Hsn.out]
  · have e0 : (f1 == 0) = false := by simp [h0]
    have e1 : (f1 != 0) = true := by simp [h0]
    have H0 : Hid (¬ f1 = 0) := h0
    clear h0 C2 C3
    obtain ⟨S, HS⟩ : ∃ S : World → Prop, Hid (∀ w', S w' ↔ Blk w' w1.heap.size #[.int .i64 f1, .int .i64 f2] 33) := ⟨_, fun _ => Iff.rfl⟩
    have HS0 : S W.drew := (HS.out _).2 D3.out
    have k0 : ∀ i : { w' // S w' }, i.val.cell? ⟨w1.heap.size, 0, none⟩ = some (.int .i64 f1) := fun i => ((HS.out _).1 i.property).cell rfl
    have k1 : ∀ i : { w' // S w' }, i.val.cell? ⟨w1.heap.size, 1, none⟩ = some (.int .i64 f2) := fun i => ((HS.out _).1 i.property).cell rfl
    have hne : Nonempty { w' // S w' } := ⟨⟨_, HS0⟩⟩
    have hz1 := Hz1.out
    have a0 : W.cell? ⟨w.heap.size + 1, 0, none⟩ = some (.slice none 0 0) := D1.out.cell rfl
    have a1 : W.cell? ⟨w.heap.size + 1, 1, none⟩ = some (.slice none 0 0) := D1.out.cell rfl
    have a2 : W.cell? ⟨w.heap.size + 1 + 1, 0, none⟩ = some (.int .i64 0) := D2.out.cell rfl
    have a3 : W.cell? ⟨w.heap.size + 1 + 1, 1, none⟩ = some (.int .i64 0) := D2.out.cell rfl
    have z0 := D1.out.frozen 0
    have z1 := D1.out.frozen 1
    have z2 := D2.out.frozen 0
    have z3 := D2.out.frozen 1
    go_wp2_with (fail)
    rw [← HW.out]
    refine wp_region_ord (S := S) [(0, true), (1, true), (2, false), (3, false)] (by kernel_rfl) (by kernel_rfl) (by kernel_rfl) HS0 ?_
    iterate 2 (refine wpOrd_take rfl (by kernel_rfl) (fun K hK => ?_); go_simp; refine hK _ _ ?_; clear hK K)
    refine wpOrd_busy rfl (by kernel_rfl) (fun K hK => ?_); go_simp
    refine hK _ _ ((HS.out _).2 ((D3.out.other (by omega) _ _).other (by omega) _ _)) ?_; clear hK K
    refine wpOrd_busy rfl (by kernel_rfl) (fun K hK => ?_); go_simp
    refine hK _ _ ((HS.out _).2 ((((D3.out.other (by omega) _ _).other (by omega) _ _).other (by omega) _ _).other (by omega) _ _)) ?_; clear hK K
    refine wpOrd_done ?_
    clear k0 k1 hne HS0
    go_wp2
    refine bodyPost_ret (v := .tuple #[.agg #[.slice none 0 0, .slice none 0 0], .agg #[.int .i64 f1, .int .i64 f2]]) (by simp [results, Try.results21, go_sem, *]) rfl ?_
    refine ⟨(f1, f2), HT.out, ?_, .inr ⟨H0.out, rfl⟩⟩
    exact (((((Hm0.out.trans HmW.out).setCell (by show w.heap.size ≤ _; simp) _).setCell (by show w.heap.size ≤ _; simp) _).setCell (by show w.heap.size ≤ _; simp; omega) _).setCell (by show w.heap.size ≤ _; simp; omega) _).drew
/-- The hardened program of one without fault. -/
def HardOf (p h : Prg) : Prop := p.Ok 200 8 ∧ (∃ lk, Known p lk ∧ (checkK p lk).1 = 0) ∧ h = hardP p

theorem hardOf_like {p h : Prg} (hf : p.Fit) (k : HardOf p h) : Like8 p h := by
  obtain ⟨ok, ⟨lk, hk, hc⟩, rfl⟩ := k
  exact hd_like (hardP_hdn p) ok hf
theorem hardOf_same {p h : Prg} (hf : p.Fit) (k : HardOf p h) : DoesSame p h 4 1000 := by
  obtain ⟨ok, ⟨lk, hk, hc⟩, rfl⟩ := k
  exact hd_same (hardP_hdn p) ok (fun i hi => (hf.ins i hi).2.2.2.2) hk hc 1000
theorem make_makes (p : Prg) (l : Loc) (w : World) (hp : PIn w p l) (hf : p.Fit) (ok : p.Ok 200 8) (lk : KV) (hk : Known p lk) (hc : (checkK p lk).1 = 0) : Makes 21 p l (HardOf p) w := by
  unfold Makes
  refine (make_calls p l w hp hf).mono ?_
  rintro e w' ⟨f, hT, m, h | h⟩
  · obtain ⟨h0, lh, hin, rfl⟩ := h
    exact ⟨hardP p, lh, ⟨ok, ⟨lk, hk, hc⟩, rfl⟩, hin, rfl, m⟩
  · have : f = checkK p lk := hT.one (.inr ⟨ok, lk, hk, rfl⟩)
    exact absurd (by rw [this]; exact hc) h.1
end
end Go.Proofs.Ytnppcfkmiddaeab
