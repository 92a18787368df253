/-
  Proved: for any three of what is known, KnownJoins returns true (in whatever order they are joined, and once or twice, it comes to the same; and with more known of less, no less is known) and leaves its arguments as they were; no conditions.
-/
import Derived.Test.YtedbfjjjfmmffabRows
import Derived.WalkKit
import Derived.ProofKit
import Derived.OpenShut
import Derived.Test.YtedbfjjjfmmffabJoined0
namespace Go.Proofs.Ytedbfjjjfmmffab
open Go.ChangeShapes Go.WideShapes Go.ChangeAt Go.RowKit Go.Deep
set_option linter.unusedVariables false
set_option linter.unusedSimpArgs false
set_option maxRecDepth 8000

namespace knownJoins

theorem own : ownKnob Try.prog.godebug = none := by kernel_rfl
theorem laidOut : laidOutB Try.prog = true := by kernel_rfl

/-- A Known in a block of its own. -/
structure At (n : Nat) (a : Int) (s : Bool) (w : World) : Prop where
  c0 : w.cell? ⟨n, 0, none⟩ = some (.int .i64 a)
  c1 : w.cell? ⟨n, 1, none⟩ = some (.bool s)
  f : ∀ j, w.frozen? ⟨n, j, none⟩ = false
theorem At.more {n : Nat} {a : Int} {s : Bool} {w w' : World} (h : At n a s w) (hb : n < w.heap.size) (m : More w w') : At n a s w' :=
  ⟨m.cell h.c0, m.cell h.c1, fun j => by
    have e := m.block n hb
    have := h.f j
    simp only [World.frozen?] at this ⊢
    rw [e]; exact this⟩
theorem At.lt {n : Nat} {a : Int} {s : Bool} {w : World} (h : At n a s w) : n < w.heap.size := cell_block h.c0
theorem At.new (w : World) (a : Int) (s : Bool) : At w.heap.size a s (w.alloc (.cells #[.int .i64 a, .bool s] 23)) :=
  ⟨by go_simp, by go_simp, fun j => frozen_of_row _ _ _ _ _ (heap_alloc_last _ _)⟩
theorem At.put {n : Nat} {a a' : Int} {s s' : Bool} {w : World} (h : At n a s w) : At n a' s' ((w.setCell ⟨n, 0, none⟩ (.int .i64 a')).setCell ⟨n, 1, none⟩ (.bool s')) := by
  have c0 := h.c0
  have c1 := h.c1
  refine ⟨by go_simp, by go_simp, fun j => ?_⟩
  rw [World.frozen?_setCell, World.frozen?_setCell]; exact h.f j

set_option maxHeartbeats 2000000 in
theorem same (a b c z x t l A : Int) (sa sb sc s1 s2 s : Bool)
    (j1 : ∀ w : World, Calls Try.prog 6 #[kn a sa, kn b sb] w fun e w' => e = .returned (kn z s1) ∧ More w w') (j2 : ∀ w : World, Calls Try.prog 6 #[kn z s1, kn c sc] w fun e w' => e = .returned (kn x s) ∧ More w w') (j3 : ∀ w : World, Calls Try.prog 6 #[kn b sb, kn c sc] w fun e w' => e = .returned (kn t s2) ∧ More w w') (j4 : ∀ w : World, Calls Try.prog 6 #[kn a sa, kn t s2] w fun e w' => e = .returned (kn x s) ∧ More w w') (j5 : ∀ w : World, Calls Try.prog 6 #[kn b sb, kn a sa] w fun e w' => e = .returned (kn z s1) ∧ More w w')
    (j6 : ∀ w : World, Calls Try.prog 6 #[kn z s1, kn z s1] w fun e w' => e = .returned (kn z s1) ∧ More w w') (j7 : ∀ w : World, Calls Try.prog 6 #[kn z s1, kn a sa] w fun e w' => e = .returned (kn z s1) ∧ More w w') (l1 : ∀ w : World, Calls Try.prog 7 #[kn a sa, kn b sb] w fun e w' => e = .returned (kn l sa) ∧ More w w') (j8 : ∀ w : World, Calls Try.prog 6 #[kn l sa, kn a sa] w fun e w' => e = .returned (kn A sa) ∧ More w w') (j9 : ∀ w : World, Calls Try.prog 6 #[kn a sa, kn a sa] w fun e w' => e = .returned (kn A sa) ∧ More w w')
    (o1 : ∀ w : World, Calls Try.prog 8 #[.int .i64 5] w fun e w' => e = .returned (kn 3 false) ∧ More w w') (w : World) :
    Calls Try.prog 3 #[kn a sa, kn b sb, kn c sc] w fun e w' => e = .returned (.bool true) ∧ More w w' := by
  unfold kn at *
  obtain ⟨W, HW⟩ : ∃ W : World, Hid (W = ((w.alloc (.cells #[.int .i64 a, .bool sa] 23)).alloc (.cells #[.int .i64 b, .bool sb] 23)).alloc (.cells #[.int .i64 c, .bool sc] 23)) := ⟨_, rfl⟩
  have HmW : Hid (More w W) := HW.out ▸ ((((More.refl _).alloc _ _).alloc _ _).alloc _ _)
  have a0 : W.cell? ⟨w.heap.size, 0, none⟩ = some (.int .i64 a) := by rw [HW.out]; go_simp
  have a1 : W.cell? ⟨w.heap.size, 1, none⟩ = some (.bool sa) := by rw [HW.out]; go_simp
  have b0 : W.cell? ⟨w.heap.size + 1, 0, none⟩ = some (.int .i64 b) := by rw [HW.out]; go_simp
  have b1 : W.cell? ⟨w.heap.size + 1, 1, none⟩ = some (.bool sb) := by rw [HW.out]; go_simp
  have d0 : W.cell? ⟨w.heap.size + 1 + 1, 0, none⟩ = some (.int .i64 c) := by rw [HW.out]; go_simp
  have d1 : W.cell? ⟨w.heap.size + 1 + 1, 1, none⟩ = some (.bool sc) := by rw [HW.out]; go_simp
  obtain ⟨S, HS⟩ : ∃ S : World → Prop, Hid (∀ w', S w' ↔ More W w') := ⟨_, fun _ => Iff.rfl⟩
  have hne : Nonempty { w' // S w' } := ⟨⟨_, (HS.out _).2 (More.refl _)⟩⟩
  have ka0 : ∀ i : { w' // S w' }, i.val.cell? ⟨w.heap.size, 0, none⟩ = some (.int .i64 a) := fun i => ((HS.out _).1 i.property).cell a0
  have ka1 : ∀ i : { w' // S w' }, i.val.cell? ⟨w.heap.size, 1, none⟩ = some (.bool sa) := fun i => ((HS.out _).1 i.property).cell a1
  have kb0 : ∀ i : { w' // S w' }, i.val.cell? ⟨w.heap.size + 1, 0, none⟩ = some (.int .i64 b) := fun i => ((HS.out _).1 i.property).cell b0
  have kb1 : ∀ i : { w' // S w' }, i.val.cell? ⟨w.heap.size + 1, 1, none⟩ = some (.bool sb) := fun i => ((HS.out _).1 i.property).cell b1
  have kd0 : ∀ i : { w' // S w' }, i.val.cell? ⟨w.heap.size + 1 + 1, 0, none⟩ = some (.int .i64 c) := fun i => ((HS.out _).1 i.property).cell d0
  have kd1 : ∀ i : { w' // S w' }, i.val.cell? ⟨w.heap.size + 1 + 1, 1, none⟩ = some (.bool sc) := fun i => ((HS.out _).1 i.property).cell d1
  go_enter Try.func3, Try.ntmps3
  go_wp2_with (fail)
  rw [← HW.out]
  rename_i Q' K1 hK1
  have rest1 : ∀ (bx : Nat) (w1 : World), More W w1 → At bx x s w1 → K1 ⟨#[.agg #[.int .i64 a, .bool sa], .agg #[.int .i64 b, .bool sb], .agg #[.int .i64 c, .bool sc], .pointer (some ⟨w.heap.size, 0, none⟩), .pointer (some ⟨w.heap.size + 1, 0, none⟩), .pointer (some ⟨w.heap.size + 1 + 1, 0, none⟩), .bool false, .pointer (some ⟨bx, 0, none⟩), undef, undef, undef, .agg #[.int .i64 a, .bool sa], .agg #[.int .i64 b, .bool sb], .agg #[.int .i64 z, .bool s1], .agg #[.int .i64 c, .bool sc], .agg #[.int .i64 x, .bool s], undef, undef, undef, undef, undef, undef, undef, undef, undef, undef, undef, undef, undef, undef, undef, undef, undef, undef, undef, undef, undef, undef, undef, undef, undef, undef, undef, undef, undef, undef, undef, undef, undef, undef, undef, undef, undef, undef, undef, undef, undef, undef, undef, undef, undef, undef, undef], []⟩ w1 := by
    intro bx w1 M1 X1
    have HX1 : Hid (At bx x s w1) := X1
    have HM1 : Hid (More W w1) := M1
    clear X1 M1
    refine hK1 _ _ ?_
    clear hK1
    go_wp2_with (fail)
    rename_i K2 hK2
    have rest2 : ∀ (bY : Nat) (w2 : World), More w1 w2 → At bY x s w2 → K2 ⟨#[.agg #[.int .i64 a, .bool sa], .agg #[.int .i64 b, .bool sb], .agg #[.int .i64 c, .bool sc], .pointer (some ⟨w.heap.size, 0, none⟩), .pointer (some ⟨w.heap.size + 1, 0, none⟩), .pointer (some ⟨w.heap.size + 1 + 1, 0, none⟩), .bool false, .pointer (some ⟨bx, 0, none⟩), .pointer (some ⟨bY, 0, none⟩), undef, undef, .agg #[.int .i64 a, .bool sa], .agg #[.int .i64 b, .bool sb], .agg #[.int .i64 z, .bool s1], .agg #[.int .i64 c, .bool sc], .agg #[.int .i64 x, .bool s], .agg #[.int .i64 a, .bool sa], .agg #[.int .i64 b, .bool sb], .agg #[.int .i64 c, .bool sc], .agg #[.int .i64 t, .bool s2], .agg #[.int .i64 x, .bool s], undef, undef, undef, undef, undef, undef, undef, undef, undef, undef, undef, undef, undef, undef, undef, undef, undef, undef, undef, undef, undef, undef, undef, undef, undef, undef, undef, undef, undef, undef, undef, undef, undef, undef, undef, undef, undef, undef, undef, undef, undef, undef], []⟩ w2 := by
      intro bY w2 M2 X2
      have HX2 : Hid (At bY x s w2) := X2
      have HM2 : Hid (More w1 w2) := M2
      clear X2 M2 ka0 ka1 kb0 kb1 kd0 kd1 hne
      -- the third
      refine hK2 _ _ ?_
      clear hK2
      replace a0 := (HM1.out.trans HM2.out).cell a0
      replace a1 := (HM1.out.trans HM2.out).cell a1
      replace b0 := (HM1.out.trans HM2.out).cell b0
      replace b1 := (HM1.out.trans HM2.out).cell b1
      have x0 := HM2.out.cell HX1.out.c0
      have x1 := HM2.out.cell HX1.out.c1
      have y0 := HX2.out.c0
      have y1 := HX2.out.c1
      go_wp2_with (fail)
      refine (j1 _).mono ?_
      rintro e w3 ⟨rfl, m3⟩
      replace a0 := m3.cell a0
      replace a1 := m3.cell a1
      replace b0 := m3.cell b0
      replace b1 := m3.cell b1
      replace x0 := m3.cell x0
      replace x1 := m3.cell x1
      replace y0 := m3.cell y0
      replace y1 := m3.cell y1
      have Hm3 : Hid (More w w3) := ((HmW.out.trans HM1.out).trans HM2.out).trans m3
      clear m3
      obtain ⟨w4, Hw4⟩ : ∃ w4, Hid (w4 = w3.alloc (.cells #[.int .i64 z, .bool s1] 23)) := ⟨_, rfl⟩
      have Hm34 : Hid (More w3 w4) := Hw4.out ▸ (More.refl _).alloc _ _
      replace a0 := Hm34.out.cell a0
      replace a1 := Hm34.out.cell a1
      replace b0 := Hm34.out.cell b0
      replace b1 := Hm34.out.cell b1
      replace x0 := Hm34.out.cell x0
      replace x1 := Hm34.out.cell x1
      replace y0 := Hm34.out.cell y0
      replace y1 := Hm34.out.cell y1
      have z0 : w4.cell? ⟨w3.heap.size, 0, none⟩ = some (.int .i64 z) := by rw [Hw4.out]; go_simp
      have z1 : w4.cell? ⟨w3.heap.size, 1, none⟩ = some (.bool s1) := by rw [Hw4.out]; go_simp
      obtain ⟨V, HV⟩ : ∃ V : World → Prop, Hid (∀ w', V w' ↔ More w4 w') := ⟨_, fun _ => Iff.rfl⟩
      have Hw4d : V w4.drew := (HV.out _).2 (More.refl _).drew
      have hneV : Nonempty { w' // V w' } := ⟨⟨_, Hw4d⟩⟩
      have Va0 : ∀ i : { w' // V w' }, i.val.cell? ⟨w.heap.size, 0, none⟩ = some (.int .i64 a) := fun i => ((HV.out _).1 i.property).cell a0
      have Va1 : ∀ i : { w' // V w' }, i.val.cell? ⟨w.heap.size, 1, none⟩ = some (.bool sa) := fun i => ((HV.out _).1 i.property).cell a1
      have Vb0 : ∀ i : { w' // V w' }, i.val.cell? ⟨w.heap.size + 1, 0, none⟩ = some (.int .i64 b) := fun i => ((HV.out _).1 i.property).cell b0
      have Vb1 : ∀ i : { w' // V w' }, i.val.cell? ⟨w.heap.size + 1, 1, none⟩ = some (.bool sb) := fun i => ((HV.out _).1 i.property).cell b1
      have Vx0 : ∀ i : { w' // V w' }, i.val.cell? ⟨bx, 0, none⟩ = some (.int .i64 x) := fun i => ((HV.out _).1 i.property).cell x0
      have Vx1 : ∀ i : { w' // V w' }, i.val.cell? ⟨bx, 1, none⟩ = some (.bool s) := fun i => ((HV.out _).1 i.property).cell x1
      have Vy0 : ∀ i : { w' // V w' }, i.val.cell? ⟨bY, 0, none⟩ = some (.int .i64 x) := fun i => ((HV.out _).1 i.property).cell y0
      have Vy1 : ∀ i : { w' // V w' }, i.val.cell? ⟨bY, 1, none⟩ = some (.bool s) := fun i => ((HV.out _).1 i.property).cell y1
      have Vz0 : ∀ i : { w' // V w' }, i.val.cell? ⟨w3.heap.size, 0, none⟩ = some (.int .i64 z) := fun i => ((HV.out _).1 i.property).cell z0
      have Vz1 : ∀ i : { w' // V w' }, i.val.cell? ⟨w3.heap.size, 1, none⟩ = some (.bool s1) := fun i => ((HV.out _).1 i.property).cell z1
      go_wp2_with (fail)
      rw [← Hw4.out]
      refine wp_region_ord (S := V) [(0, true), (1, true), (2, true), (3, true), (4, true), (5, true), (7, true), (6, false), (8, true), (9, true), (10, true), (11, true), (12, true), (14, true), (13, false), (15, true), (16, true), (17, true), (18, true), (19, true), (21, true), (20, false), (22, true), (23, true)] (by kernel_rfl) (by kernel_rfl) (by kernel_rfl) Hw4d ?_
      iterate 7 (refine wpOrd_take rfl (by kernel_rfl) (fun K hK => ?_); go_simp; refine hK _ _ ?_; clear hK K)
      refine wpOrd_busy rfl (by kernel_rfl) (fun K hK => ?_); go_simp
      refine (j5 _).mono ?_
      rintro e u5 ⟨rfl, mu5⟩
      have Hu5 : V u5 := (HV.out _).2 (((HV.out _).1 Hw4d).trans mu5)
      clear mu5
      go_simp
      refine hK _ _ Hu5 ?_; clear hK K
      (refine wpOrd_take rfl (by kernel_rfl) (fun K hK => ?_); go_simp; refine hK _ _ ?_; clear hK K)
      (refine wpOrd_pickF rfl rfl (by kernel_rfl) rfl (fun K hK => ?_); go_simp; refine hK _ _ ?_; clear hK K)
      iterate 4 (refine wpOrd_take rfl (by kernel_rfl) (fun K hK => ?_); go_simp; refine hK _ _ ?_; clear hK K)
      refine wpOrd_busy rfl (by kernel_rfl) (fun K hK => ?_); go_simp
      refine (j6 _).mono ?_
      rintro e u6 ⟨rfl, mu6⟩
      have Hu6 : V u6 := (HV.out _).2 (((HV.out _).1 Hu5).trans mu6)
      clear mu6
      go_simp
      refine hK _ _ Hu6 ?_; clear hK K
      (refine wpOrd_take rfl (by kernel_rfl) (fun K hK => ?_); go_simp; refine hK _ _ ?_; clear hK K)
      (refine wpOrd_pickF rfl rfl (by kernel_rfl) rfl (fun K hK => ?_); go_simp; refine hK _ _ ?_; clear hK K)
      iterate 4 (refine wpOrd_take rfl (by kernel_rfl) (fun K hK => ?_); go_simp; refine hK _ _ ?_; clear hK K)
      refine wpOrd_busy rfl (by kernel_rfl) (fun K hK => ?_); go_simp
      refine (j7 _).mono ?_
      rintro e u7 ⟨rfl, mu7⟩
      have Hu7 : V u7 := (HV.out _).2 (((HV.out _).1 Hu6).trans mu7)
      clear mu7
      go_simp
      refine hK _ _ Hu7 ?_; clear hK K
      (refine wpOrd_take rfl (by kernel_rfl) (fun K hK => ?_); go_simp; refine hK _ _ ?_; clear hK K)
      (refine wpOrd_pickF rfl rfl (by kernel_rfl) rfl (fun K hK => ?_); go_simp; refine hK _ _ ?_; clear hK K)
      refine wpOrd_done ?_
      have Hm47 : Hid (More w4 u7) := (HV.out _).1 Hu7
      clear Va0 Va1 Vb0 Vb1 Vx0 Vx1 Vy0 Vy1 Vz0 Vz1 hneV
      replace a0 := Hm47.out.cell a0
      replace a1 := Hm47.out.cell a1
      replace b0 := Hm47.out.cell b0
      replace b1 := Hm47.out.cell b1
      go_wp2_with (fail)
      refine (l1 _).mono ?_
      rintro e w5 ⟨rfl, m5⟩
      replace a0 := m5.cell a0
      replace a1 := m5.cell a1
      have Hm5 : Hid (More w w5) := (((Hm3.out.trans Hm34.out).trans Hm47.out)).trans m5
      clear m5
      obtain ⟨w6, Hw6⟩ : ∃ w6, Hid (w6 = w5.alloc (.cells #[.int .i64 l, .bool sa] 23)) := ⟨_, rfl⟩
      have Hm56 : Hid (More w5 w6) := Hw6.out ▸ (More.refl _).alloc _ _
      replace a0 := Hm56.out.cell a0
      replace a1 := Hm56.out.cell a1
      have l0 : w6.cell? ⟨w5.heap.size, 0, none⟩ = some (.int .i64 l) := by rw [Hw6.out]; go_simp
      have l1' : w6.cell? ⟨w5.heap.size, 1, none⟩ = some (.bool sa) := by rw [Hw6.out]; go_simp
      obtain ⟨U, HU⟩ : ∃ U : World → Prop, Hid (∀ w', U w' ↔ More w6 w') := ⟨_, fun _ => Iff.rfl⟩
      have Hw6d : U w6.drew := (HU.out _).2 (More.refl _).drew
      have hneU : Nonempty { w' // U w' } := ⟨⟨_, Hw6d⟩⟩
      have Ua0 : ∀ i : { w' // U w' }, i.val.cell? ⟨w.heap.size, 0, none⟩ = some (.int .i64 a) := fun i => ((HU.out _).1 i.property).cell a0
      have Ua1 : ∀ i : { w' // U w' }, i.val.cell? ⟨w.heap.size, 1, none⟩ = some (.bool sa) := fun i => ((HU.out _).1 i.property).cell a1
      have Ul0 : ∀ i : { w' // U w' }, i.val.cell? ⟨w5.heap.size, 0, none⟩ = some (.int .i64 l) := fun i => ((HU.out _).1 i.property).cell l0
      have Ul1 : ∀ i : { w' // U w' }, i.val.cell? ⟨w5.heap.size, 1, none⟩ = some (.bool sa) := fun i => ((HU.out _).1 i.property).cell l1'
      go_wp2_with (fail)
      rw [← Hw6.out]
      refine wp_region_ord (S := U) [(0, true), (1, true), (3, true), (4, true), (2, false), (5, false), (6, true), (7, true), (8, false), (9, true), (10, true), (11, true), (12, true)] (by kernel_rfl) (by kernel_rfl) (by kernel_rfl) Hw6d ?_
      iterate 4 (refine wpOrd_take rfl (by kernel_rfl) (fun K hK => ?_); go_simp; refine hK _ _ ?_; clear hK K)
      refine wpOrd_busy rfl (by kernel_rfl) (fun K hK => ?_); go_simp
      refine (j8 _).mono ?_
      rintro e v1 ⟨rfl, mv1⟩
      have Hv1 : U v1 := (HU.out _).2 (((HU.out _).1 Hw6d).trans mv1)
      clear mv1
      go_simp
      refine hK _ _ Hv1 ?_; clear hK K
      refine wpOrd_busy rfl (by kernel_rfl) (fun K hK => ?_); go_simp
      refine (j9 _).mono ?_
      rintro e v2 ⟨rfl, mv2⟩
      have Hv2 : U v2 := (HU.out _).2 (((HU.out _).1 Hv1).trans mv2)
      clear mv2
      go_simp
      refine hK _ _ Hv2 ?_; clear hK K
      iterate 2 (refine wpOrd_take rfl (by kernel_rfl) (fun K hK => ?_); go_simp; refine hK _ _ ?_; clear hK K)
      refine wpOrd_busy rfl (by kernel_rfl) (fun K hK => ?_); go_simp
      refine (o1 _).mono ?_
      rintro e v3 ⟨rfl, mv3⟩
      have Hv3 : U v3 := (HU.out _).2 (((HU.out _).1 Hv2).trans mv3)
      clear mv3
      go_simp
      refine hK _ _ Hv3 ?_; clear hK K
      have hfd : ∀ w : World, (Instr.field 23 (.agg #[.int .i64 3, .bool false]) 0).run Try.prog w = .ok (.int .i64 3) w := fun _ => by kernel_rfl
      iterate 2 (refine wpOrd_take rfl (by kernel_rfl) (fun K hK => ?_); go_simp; refine hK _ _ ?_; clear hK K)
      (refine wpOrd_pickT rfl rfl (by kernel_rfl) rfl (fun K hK => ?_); go_simp; refine hK _ _ ?_; clear hK K)
      (refine wpOrd_take rfl (by kernel_rfl) (fun K hK => ?_); go_simp; refine hK _ _ ?_; clear hK K)
      refine wpOrd_done ?_
      have Hm9 : Hid (More w v3) := (Hm5.out.trans Hm56.out).trans ((HU.out _).1 Hv3)
      clear Ua0 Ua1 Ul0 Ul1 hneU
      go_wp2
      go_ret
      exact ⟨rfl, Hm9.out⟩
    clear hK2
    refine wp_region_left (S := S) (by kernel_rfl) ((HS.out _).2 HM1.out.drew) ?_
    refine ol_take 0 rfl (by kernel_rfl) ((HS.out _).2 HM1.out.drew) (by kernel_rfl) (fun K hK => ?_); go_simp; refine hK _ _ ?_; clear hK K
    refine ol_take 1 rfl (by kernel_rfl) ((HS.out _).2 HM1.out.drew) (by kernel_rfl) (fun K hK => ?_); go_simp; refine hK _ _ ?_; clear hK K
    refine ol_take 2 rfl (by kernel_rfl) ((HS.out _).2 HM1.out.drew) (by kernel_rfl) (fun K hK => ?_); go_simp; refine hK _ _ ?_; clear hK K
    refine ol_two 3 5 (by kernel_rfl) ?_ ?_
    · -- the first call, then the other one or the new block
      refine ol_step rfl (by kernel_rfl) (fun K hK => ?_); go_simp
      refine (j3 _).mono ?_
      rintro e u1 ⟨rfl, mu1⟩
      have Mu1 : Hid (More w1 u1) := ((More.refl w1).drew).trans mu1
      clear mu1
      go_simp
      refine hK _ _ ((HS.out _).2 (HM1.out.trans Mu1.out)) ?_; clear hK K
      refine ol_two 4 5 (by kernel_rfl) ?_ ?_
      · -- the second call, the new block
        refine ol_step rfl (by kernel_rfl) (fun K hK => ?_); go_simp
        refine (j4 _).mono ?_
        rintro e u2 ⟨rfl, mu2⟩
        have Mu2 : Hid (More w1 u2) := (Mu1.out).trans mu2
        clear mu2
        go_simp
        refine hK _ _ ((HS.out _).2 (HM1.out.trans Mu2.out)) ?_; clear hK K
        refine ol_one 5 (by kernel_rfl) ?_
        refine ol_step rfl (by kernel_rfl) (fun K hK => ?_); go_simp
        refine hK _ _ ((HS.out _).2 (HM1.out.trans ((Mu2.out).alloc _ _))) ?_; clear hK K
        have mm : Hid (More w1 (u2.alloc (.cells #[.int .i64 x, .bool s] 23))) := Mu2.out.alloc _ _
        refine ol_one 6 (by kernel_rfl) ?_
        refine ol_step rfl (by kernel_rfl) (fun K hK => ?_); go_simp
        refine hK _ _ ((HS.out _).2 (HM1.out.trans mm.out)) ?_; clear hK K
        refine ol_done (by kernel_rfl) ?_
        exact rest2 _ _ mm.out (At.new _ _ _)
      · -- the new block, the second call
        refine ol_step rfl (by kernel_rfl) (fun K hK => ?_); go_simp
        refine hK _ _ ((HS.out _).2 (HM1.out.trans ((Mu1.out).alloc _ _))) ?_; clear hK K
        refine ol_one 4 (by kernel_rfl) ?_
        refine ol_step rfl (by kernel_rfl) (fun K hK => ?_); go_simp
        refine (j4 _).mono ?_
        rintro e u2 ⟨rfl, mu2⟩
        have Mu2 : Hid (More w1 u2) := (Mu1.out.alloc _ _).trans mu2
        have q : Hid (At u1.heap.size 0 false u2) := (At.new _ _ _).more (At.new _ _ _).lt mu2
        clear mu2
        go_simp
        refine hK _ _ ((HS.out _).2 (HM1.out.trans Mu2.out)) ?_; clear hK K
        have q0 := q.out.c0
        have q1 := q.out.c1
        have q2 := q.out.f 0
        have q3 := q.out.f 1
        have mm : Hid (More w1 ((u2.setCell ⟨u1.heap.size, 0, none⟩ (.int .i64 x)).setCell ⟨u1.heap.size, 1, none⟩ (.bool s))) := (Mu2.out.setCell (Mu1.out.size) _).setCell (Mu1.out.size) _
        refine ol_one 6 (by kernel_rfl) ?_
        refine ol_step rfl (by kernel_rfl) (fun K hK => ?_); go_simp
        refine hK _ _ ((HS.out _).2 (HM1.out.trans mm.out)) ?_; clear hK K
        refine ol_done (by kernel_rfl) ?_
        exact rest2 _ _ mm.out q.out.put
    · -- the new block, then both calls
      refine ol_step rfl (by kernel_rfl) (fun K hK => ?_); go_simp
      refine hK _ _ ((HS.out _).2 (HM1.out.trans (((More.refl w1).drew).alloc _ _))) ?_; clear hK K
      refine ol_one 3 (by kernel_rfl) ?_
      refine ol_step rfl (by kernel_rfl) (fun K hK => ?_); go_simp
      refine (j3 _).mono ?_
      rintro e u1 ⟨rfl, mu1⟩
      have Mu1 : Hid (More w1 u1) := ((More.refl w1).drew.alloc _ _).trans mu1
      have q' : Hid (At w1.heap.size 0 false u1) := (At.new (w1.drew) _ _).more (At.new _ _ _).lt mu1
      clear mu1
      go_simp
      refine hK _ _ ((HS.out _).2 (HM1.out.trans Mu1.out)) ?_; clear hK K
      refine ol_one 4 (by kernel_rfl) ?_
      refine ol_step rfl (by kernel_rfl) (fun K hK => ?_); go_simp
      refine (j4 _).mono ?_
      rintro e u2 ⟨rfl, mu2⟩
      have Mu2 : Hid (More w1 u2) := (Mu1.out).trans mu2
      have q : Hid (At w1.heap.size 0 false u2) := q'.out.more q'.out.lt mu2
      clear mu2
      go_simp
      refine hK _ _ ((HS.out _).2 (HM1.out.trans Mu2.out)) ?_; clear hK K
      have q0 := q.out.c0
      have q1 := q.out.c1
      have q2 := q.out.f 0
      have q3 := q.out.f 1
      have mm : Hid (More w1 ((u2.setCell ⟨w1.heap.size, 0, none⟩ (.int .i64 x)).setCell ⟨w1.heap.size, 1, none⟩ (.bool s))) := (Mu2.out.setCell (Nat.le_refl _) _).setCell (Nat.le_refl _) _
      refine ol_one 6 (by kernel_rfl) ?_
      refine ol_step rfl (by kernel_rfl) (fun K hK => ?_); go_simp
      refine hK _ _ ((HS.out _).2 (HM1.out.trans mm.out)) ?_; clear hK K
      refine ol_done (by kernel_rfl) ?_
      exact rest2 _ _ mm.out q.out.put
  clear hK1
  refine wp_region_left (S := S) (by kernel_rfl) ((HS.out _).2 (More.refl W).drew) ?_
  refine ol_take 0 rfl (by kernel_rfl) ((HS.out _).2 (More.refl W).drew) (by kernel_rfl) (fun K hK => ?_); go_simp; refine hK _ _ ?_; clear hK K
  refine ol_take 1 rfl (by kernel_rfl) ((HS.out _).2 (More.refl W).drew) (by kernel_rfl) (fun K hK => ?_); go_simp; refine hK _ _ ?_; clear hK K
  refine ol_take 3 rfl (by kernel_rfl) ((HS.out _).2 (More.refl W).drew) (by kernel_rfl) (fun K hK => ?_); go_simp; refine hK _ _ ?_; clear hK K
  refine ol_two 2 5 (by kernel_rfl) ?_ ?_
  · -- the first call, then the other one or the new block
    refine ol_step rfl (by kernel_rfl) (fun K hK => ?_); go_simp
    refine (j1 _).mono ?_
    rintro e u1 ⟨rfl, mu1⟩
    have Mu1 : Hid (More W u1) := ((More.refl W).drew).trans mu1
    clear mu1
    go_simp
    refine hK _ _ ((HS.out _).2 ((More.refl W).trans Mu1.out)) ?_; clear hK K
    refine ol_two 4 5 (by kernel_rfl) ?_ ?_
    · -- the second call, the new block
      refine ol_step rfl (by kernel_rfl) (fun K hK => ?_); go_simp
      refine (j2 _).mono ?_
      rintro e u2 ⟨rfl, mu2⟩
      have Mu2 : Hid (More W u2) := (Mu1.out).trans mu2
      clear mu2
      go_simp
      refine hK _ _ ((HS.out _).2 ((More.refl W).trans Mu2.out)) ?_; clear hK K
      refine ol_one 5 (by kernel_rfl) ?_
      refine ol_step rfl (by kernel_rfl) (fun K hK => ?_); go_simp
      refine hK _ _ ((HS.out _).2 ((More.refl W).trans ((Mu2.out).alloc _ _))) ?_; clear hK K
      have mm : Hid (More W (u2.alloc (.cells #[.int .i64 x, .bool s] 23))) := Mu2.out.alloc _ _
      refine ol_one 6 (by kernel_rfl) ?_
      refine ol_step rfl (by kernel_rfl) (fun K hK => ?_); go_simp
      refine hK _ _ ((HS.out _).2 ((More.refl W).trans mm.out)) ?_; clear hK K
      refine ol_done (by kernel_rfl) ?_
      exact rest1 _ _ mm.out (At.new _ _ _)
    · -- the new block, the second call
      refine ol_step rfl (by kernel_rfl) (fun K hK => ?_); go_simp
      refine hK _ _ ((HS.out _).2 ((More.refl W).trans ((Mu1.out).alloc _ _))) ?_; clear hK K
      refine ol_one 4 (by kernel_rfl) ?_
      refine ol_step rfl (by kernel_rfl) (fun K hK => ?_); go_simp
      refine (j2 _).mono ?_
      rintro e u2 ⟨rfl, mu2⟩
      have Mu2 : Hid (More W u2) := (Mu1.out.alloc _ _).trans mu2
      have q : Hid (At u1.heap.size 0 false u2) := (At.new _ _ _).more (At.new _ _ _).lt mu2
      clear mu2
      go_simp
      refine hK _ _ ((HS.out _).2 ((More.refl W).trans Mu2.out)) ?_; clear hK K
      have q0 := q.out.c0
      have q1 := q.out.c1
      have q2 := q.out.f 0
      have q3 := q.out.f 1
      have mm : Hid (More W ((u2.setCell ⟨u1.heap.size, 0, none⟩ (.int .i64 x)).setCell ⟨u1.heap.size, 1, none⟩ (.bool s))) := (Mu2.out.setCell (Mu1.out.size) _).setCell (Mu1.out.size) _
      refine ol_one 6 (by kernel_rfl) ?_
      refine ol_step rfl (by kernel_rfl) (fun K hK => ?_); go_simp
      refine hK _ _ ((HS.out _).2 ((More.refl W).trans mm.out)) ?_; clear hK K
      refine ol_done (by kernel_rfl) ?_
      exact rest1 _ _ mm.out q.out.put
  · -- the new block, then both calls
    refine ol_step rfl (by kernel_rfl) (fun K hK => ?_); go_simp
    refine hK _ _ ((HS.out _).2 ((More.refl W).trans (((More.refl W).drew).alloc _ _))) ?_; clear hK K
    refine ol_one 2 (by kernel_rfl) ?_
    refine ol_step rfl (by kernel_rfl) (fun K hK => ?_); go_simp
    refine (j1 _).mono ?_
    rintro e u1 ⟨rfl, mu1⟩
    have Mu1 : Hid (More W u1) := ((More.refl W).drew.alloc _ _).trans mu1
    have q' : Hid (At W.heap.size 0 false u1) := (At.new (W.drew) _ _).more (At.new _ _ _).lt mu1
    clear mu1
    go_simp
    refine hK _ _ ((HS.out _).2 ((More.refl W).trans Mu1.out)) ?_; clear hK K
    refine ol_one 4 (by kernel_rfl) ?_
    refine ol_step rfl (by kernel_rfl) (fun K hK => ?_); go_simp
    refine (j2 _).mono ?_
    rintro e u2 ⟨rfl, mu2⟩
    have Mu2 : Hid (More W u2) := (Mu1.out).trans mu2
    have q : Hid (At W.heap.size 0 false u2) := q'.out.more q'.out.lt mu2
    clear mu2
    go_simp
    refine hK _ _ ((HS.out _).2 ((More.refl W).trans Mu2.out)) ?_; clear hK K
    have q0 := q.out.c0
    have q1 := q.out.c1
    have q2 := q.out.f 0
    have q3 := q.out.f 1
    have mm : Hid (More W ((u2.setCell ⟨W.heap.size, 0, none⟩ (.int .i64 x)).setCell ⟨W.heap.size, 1, none⟩ (.bool s))) := (Mu2.out.setCell (Nat.le_refl _) _).setCell (Nat.le_refl _) _
    refine ol_one 6 (by kernel_rfl) ?_
    refine ol_step rfl (by kernel_rfl) (fun K hK => ?_); go_simp
    refine hK _ _ ((HS.out _).2 ((More.refl W).trans mm.out)) ?_; clear hK K
    refine ol_done (by kernel_rfl) ?_
    exact rest1 _ _ mm.out q.out.put

theorem walk (a b c : Int) (sa sb sc : Bool) (w : World) :
    Calls Try.prog 3 #[kn a sa, kn b sb, kn c sc] w fun e w' => e = .returned (.bool true) ∧ More w w' := by
  have ra := bnd_range a
  have rb := bnd_range b
  have rc := bnd_range c
  have j : ∀ (p q r : Int) (sp sq sr : Bool), max (bnd p) (bnd q) = r → (sp || sq) = sr → ∀ w : World, Calls Try.prog 6 #[kn p sp, kn q sq] w fun e w' => e = .returned (kn r sr) ∧ More w w' := by
    rintro p q r sp sq sr rfl rfl w
    exact join_calls p q sp sq w
  have ez : bnd (max (bnd a) (bnd b)) = max (bnd a) (bnd b) := bnd_id (by omega) (by omega)
  have et : bnd (max (bnd b) (bnd c)) = max (bnd b) (bnd c) := bnd_id (by omega) (by omega)
  have el : bnd (min (bnd a) (bnd b)) = min (bnd a) (bnd b) := bnd_id (by omega) (by omega)
  have e5 : fitI 5 = 3 := by
    have h1 := (fits_iff (n := 5) (by omega) (by omega) (b := 3) (by omega)).2 ⟨by omega, by decide⟩
    have h2 := mt (fits_iff (n := 5) (by omega) (by omega) (b := 2) (by omega)).1 (by intro h; exact absurd h.2 (by decide))
    omega
  refine same a b c (max (bnd a) (bnd b)) (max (max (bnd a) (bnd b)) (bnd c)) (max (bnd b) (bnd c)) (min (bnd a) (bnd b)) (bnd a) sa sb sc (sa || sb) (sb || sc) (sa || (sb || sc))
    (j _ _ _ _ _ _ rfl rfl) (j _ _ _ _ _ _ (by rw [ez]) (by cases sa <;> rfl)) (j _ _ _ _ _ _ rfl rfl) (j _ _ _ _ _ _ (by rw [et]; omega) rfl) (j _ _ _ _ _ _ (by omega) (by cases sa <;> cases sb <;> rfl))
    (j _ _ _ _ _ _ (by rw [ez]; omega) (by cases sa <;> cases sb <;> rfl)) (j _ _ _ _ _ _ (by rw [ez]; omega) (by cases sa <;> cases sb <;> rfl)) (less_calls a b sa sb)
    (j _ _ _ _ _ _ (by rw [el]; omega) (by cases sa <;> rfl)) (j _ _ _ _ _ _ (by omega) (by cases sa <;> rfl)) (fun w => e5 ▸ kof_calls 5 w) w

/-! ### THE ROW's STEP -/
set_option maxRecDepth 100000 in
theorem lifted (os : Os) (started : os.Started) (H : Type) (enc : TypeId × Value → H) :
    ReturnsInHanded {} Try.checked os 3 .any (Rows.knownJoinsSpec.pre6 enc Try.prog Try.f3 Rows.knownJoinsRow.domain false) (Rows.knownJoinsSpec.post enc Try.prog Try.f3 false true false false) := by
  refine returnsInHanded_of_change (C := Try.checked) own started (by kernel_rfl) Try.func3
    (ChangeSpec.witness6 (enc := enc) (C := Try.checked) false ⟨#[], #[.agg #[.int .i64 0, .bool false], .agg #[.int .i64 0, .bool false], .agg #[.int .i64 0, .bool false]], []⟩ 8 (by kernel_rfl) (by kernel_rfl) (by kernel_rfl) (by kernel_rfl)) ?_
  intro W base args ds gs before hval0 hW hcnd _
  have hval : ∀ (j : Nat) t v, Try.f3.params[j]? = some t → args[j]? = some v → Value.okWide Try.prog W .any base t v := hval0
  have hW' := hW
  obtain ⟨p, q, hA0, hV, rfl, hfz, hnd⟩ := hW
  have hA : DataW.TrodAll enc Try.prog W 0 (fun _ => true) true Try.f3.params.toList args.toList ds p := hA0
  rw [Try.params3] at hA hval
  obtain ⟨v0, vs0, d0, ds0, p0, q0, hargs, rfl, rfl, h0, r0⟩ := trodAll_cons hA
  obtain ⟨v1, vs1, d1, ds1, p1, q1, rfl, rfl, rfl, h1, r1⟩ := trodAll_cons r0
  obtain ⟨v2, vs2, d2, ds2, p2, q2, rfl, rfl, rfl, h2, r2⟩ := trodAll_cons r1
  obtain ⟨rfl, rfl, rfl⟩ := trodAll_nil r2
  obtain rfl : args = #[v0, v1, v2] := by cases args; simp_all
  obtain ⟨rfl, rfl⟩ := trodVars_none hV
  have lt0 : ∀ x ∈ p0, x.block < W.heap.size := by obtain ⟨m, hm⟩ := h0; exact DataW.trod_lt m _ _ _ hm
  have lt1 : ∀ x ∈ p1, x.block < W.heap.size := by obtain ⟨m, hm⟩ := h1; exact DataW.trod_lt m _ _ _ hm
  have lt2 : ∀ x ∈ p2, x.block < W.heap.size := by obtain ⟨m, hm⟩ := h2; exact DataW.trod_lt m _ _ _ hm
  obtain ⟨k0, s0, rfl, _, _⟩ := open_known (hval 0 23 v0 rfl rfl) h0
  obtain ⟨k1, s1, rfl, _, _⟩ := open_known (hval 1 23 v1 rfl rfl) h1
  obtain ⟨k2, s2, rfl, _, _⟩ := open_known (hval 2 23 v2 rfl rfl) h2
  clear hA0 hval0
  refine (walk k0 k1 k2 s0 s1 s2 W).mono fun e W' ⟨he, bel⟩ => ?_
  subst he
  exact ⟨_, rfl, _, _, _, [], _, [], hW', trodAll_mk1 (shut_bool Try.underlying4 _), (trodAll_cons_mk (Below.trod laidOut (by kernel_rfl) (of_decide_eq_true (by kernel_rfl)) h0 bel lt0) (trodAll_cons_mk (Below.trod laidOut (by kernel_rfl) (of_decide_eq_true (by kernel_rfl)) h1 bel lt1) (trodAll_cons_mk (Below.trod laidOut (by kernel_rfl) (of_decide_eq_true (by kernel_rfl)) h2 bel lt2) trodAll_mk0))), rfl, Below.frame bel _, fun h => by cases h⟩

theorem over : Rows.knownJoinsRow.holds Try.pinned (OpenSpec.ofChange Rows.knownJoinsSpec) :=
  OpenClaim.holds_of_wide 3 Try.f3 rfl rfl rfl rfl rfl rfl rfl ⟨rfl, rfl, rfl, rfl, rfl⟩ rfl rfl rfl rfl rfl (by kernel_rfl) Try.func3 (by kernel_rfl)
    (of_decide_eq_true (by kernel_rfl)) (by unfold Func.isWrapper; first | (rw [if_pos (by decide +kernel)]; kernel_rfl) | (rw [if_neg (by decide +kernel)]; exact ⟨rfl, rfl⟩))
    (fun os started H enc _ => lifted os started H enc)

end knownJoins

/-- The given statement. -/
theorem knownJoins_holds : Rows.KnownJoinsSaid :=
  knownJoins.over
#print axioms knownJoins_holds
end Go.Proofs.Ytedbfjjjfmmffab
