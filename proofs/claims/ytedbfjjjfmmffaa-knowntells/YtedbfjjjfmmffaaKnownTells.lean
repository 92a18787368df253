/-
  Proved: for every operation, any two of what is known, and any number, KnownTells returns true (the program tells what is known as the document says) and leaves its arguments as they were; no conditions.
-/
import Derived.Test.YtedbfjjjfmmffaaRows
import Derived.WalkKit
import Derived.ProofKit
import Derived.OpenShut
import Derived.Test.YtedbfjjjfmmffaaJoined0
namespace Go.Proofs.Ytedbfjjjfmmffaa
open Go.ChangeShapes Go.WideShapes Go.ChangeAt Go.RowKit Go.Deep
set_option linter.unusedVariables false
set_option linter.unusedSimpArgs false
set_option maxRecDepth 8000

namespace knownTells

theorem own : ownKnob Try.prog.godebug = none := by kernel_rfl
theorem laidOut : laidOutB Try.prog = true := by kernel_rfl

set_option maxHeartbeats 1000000 in
theorem same (op a b n x y z o : Int) (sa sb s h : Bool)
    (c1 : ∀ w : World, Calls Try.prog 34 #[.int .i64 op, kn a sa, kn b sb] w fun e w' => e = .returned (kn x s) ∧ More w w')
    (c2 : ∀ w : World, Calls Try.prog 35 #[kn a sa, kn b sb] w fun e w' => e = .returned (kn y s) ∧ More w w')
    (c3 : ∀ w : World, Calls Try.prog 36 #[kn a sa, kn b sb] w fun e w' => e = .returned (kn z sa) ∧ More w w')
    (c4 : ∀ w : World, Calls Try.prog 37 #[.int .i64 n] w fun e w' => e = .returned (kn o false) ∧ More w w')
    (c5 : ∀ w : World, Calls Try.prog 38 #[kn a sa, .int .i64 n] w fun e w' => e = .returned (.bool h) ∧ More w w')
    (d1 : ∀ w : World, Calls Try.prog 39 #[.int .i64 op, kn a sa, kn b sb] w fun e w' => e = .returned (kn x s) ∧ More w w')
    (d2 : ∀ w : World, Calls Try.prog 40 #[kn a sa, kn b sb] w fun e w' => e = .returned (kn y s) ∧ More w w')
    (d3 : ∀ w : World, Calls Try.prog 41 #[kn a sa, kn b sb] w fun e w' => e = .returned (kn z sa) ∧ More w w')
    (d4 : ∀ w : World, Calls Try.prog 42 #[.int .i64 n] w fun e w' => e = .returned (kn o false) ∧ More w w')
    (d5 : ∀ w : World, Calls Try.prog 43 #[kn a sa, .int .i64 n] w fun e w' => e = .returned (.bool h) ∧ More w w') (w : World) :
    Calls Try.prog 13 #[.int .i64 op, kn a sa, kn b sb, .int .i64 n] w fun e w' => e = .returned (.bool true) ∧ More w w' := by
  unfold kn at *
  go_enter Try.func13, Try.ntmps13
  go_wp2_with (fail)
  refine (c1 _).mono ?_
  rintro e w1 ⟨rfl, m1⟩
  have a0 : w1.cell? ⟨w.heap.size, 0, none⟩ = some (.int .i64 a) := m1.cell (by go_simp)
  have a1 : w1.cell? ⟨w.heap.size, 1, none⟩ = some (.bool sa) := m1.cell (by go_simp)
  have b0 : w1.cell? ⟨w.heap.size + 1, 0, none⟩ = some (.int .i64 b) := m1.cell (by go_simp)
  have b1 : w1.cell? ⟨w.heap.size + 1, 1, none⟩ = some (.bool sb) := m1.cell (by go_simp)
  have Hm1 : Hid (More w w1) := (((More.refl _).alloc _ _).alloc _ _).trans m1
  have za1 : w.heap.size < w1.heap.size := cell_block a0
  have zb1 : w.heap.size + 1 < w1.heap.size := cell_block b0
  clear m1
  go_wp2_with (fail)
  refine (c2 _).mono ?_
  rintro e w2 ⟨rfl, m2⟩
  have hp2 : Hid (More w1 w2) := ((More.refl _).alloc _ _).trans m2
  replace a0 := hp2.out.cell a0
  replace a1 := hp2.out.cell a1
  replace b0 := hp2.out.cell b0
  replace b1 := hp2.out.cell b1
  have x0 : w2.cell? ⟨w1.heap.size, 0, none⟩ = some (.int .i64 x) := m2.cell (by go_simp)
  have x1 : w2.cell? ⟨w1.heap.size, 1, none⟩ = some (.bool s) := m2.cell (by go_simp)
  have Hm2 : Hid (More w w2) := Hm1.out.trans hp2.out
  clear hp2 m2
  have za2 : w.heap.size < w2.heap.size := cell_block a0
  have zb2 : w.heap.size + 1 < w2.heap.size := cell_block b0
  have zx2 : w1.heap.size < w2.heap.size := cell_block x0
  go_wp2_with (fail)
  refine (c3 _).mono ?_
  rintro e w3 ⟨rfl, m3⟩
  have hp3 : Hid (More w2 w3) := ((More.refl _).alloc _ _).trans m3
  replace a0 := hp3.out.cell a0
  replace a1 := hp3.out.cell a1
  replace b0 := hp3.out.cell b0
  replace b1 := hp3.out.cell b1
  replace x0 := hp3.out.cell x0
  replace x1 := hp3.out.cell x1
  have y0 : w3.cell? ⟨w2.heap.size, 0, none⟩ = some (.int .i64 y) := m3.cell (by go_simp)
  have y1 : w3.cell? ⟨w2.heap.size, 1, none⟩ = some (.bool s) := m3.cell (by go_simp)
  have Hm3 : Hid (More w w3) := Hm2.out.trans hp3.out
  clear hp3 m3
  have za3 : w.heap.size < w3.heap.size := cell_block a0
  have zb3 : w.heap.size + 1 < w3.heap.size := cell_block b0
  have zx3 : w1.heap.size < w3.heap.size := cell_block x0
  have zy3 : w2.heap.size < w3.heap.size := cell_block y0
  go_wp2_with (fail)
  refine (c4 _).mono ?_
  rintro e w4 ⟨rfl, m4⟩
  have hp4 : Hid (More w3 w4) := ((More.refl _).alloc _ _).trans m4
  replace a0 := hp4.out.cell a0
  replace a1 := hp4.out.cell a1
  replace b0 := hp4.out.cell b0
  replace b1 := hp4.out.cell b1
  replace x0 := hp4.out.cell x0
  replace x1 := hp4.out.cell x1
  replace y0 := hp4.out.cell y0
  replace y1 := hp4.out.cell y1
  have z0 : w4.cell? ⟨w3.heap.size, 0, none⟩ = some (.int .i64 z) := m4.cell (by go_simp)
  have z1 : w4.cell? ⟨w3.heap.size, 1, none⟩ = some (.bool sa) := m4.cell (by go_simp)
  have Hm4 : Hid (More w w4) := Hm3.out.trans hp4.out
  clear hp4 m4
  have za4 : w.heap.size < w4.heap.size := cell_block a0
  have zb4 : w.heap.size + 1 < w4.heap.size := cell_block b0
  have zx4 : w1.heap.size < w4.heap.size := cell_block x0
  have zy4 : w2.heap.size < w4.heap.size := cell_block y0
  have zz4 : w3.heap.size < w4.heap.size := cell_block z0
  go_wp2_with (fail)
  refine (c5 _).mono ?_
  rintro e w5 ⟨rfl, m5⟩
  have hp5 : Hid (More w4 w5) := ((More.refl _).alloc _ _).trans m5
  replace a0 := hp5.out.cell a0
  replace a1 := hp5.out.cell a1
  replace b0 := hp5.out.cell b0
  replace b1 := hp5.out.cell b1
  replace x0 := hp5.out.cell x0
  replace x1 := hp5.out.cell x1
  replace y0 := hp5.out.cell y0
  replace y1 := hp5.out.cell y1
  replace z0 := hp5.out.cell z0
  replace z1 := hp5.out.cell z1
  have o0 : w5.cell? ⟨w4.heap.size, 0, none⟩ = some (.int .i64 o) := m5.cell (by go_simp)
  have o1 : w5.cell? ⟨w4.heap.size, 1, none⟩ = some (.bool false) := m5.cell (by go_simp)
  have Hm5 : Hid (More w w5) := Hm4.out.trans hp5.out
  clear hp5 m5
  have za5 : w.heap.size < w5.heap.size := cell_block a0
  have zb5 : w.heap.size + 1 < w5.heap.size := cell_block b0
  have zx5 : w1.heap.size < w5.heap.size := cell_block x0
  have zy5 : w2.heap.size < w5.heap.size := cell_block y0
  have zz5 : w3.heap.size < w5.heap.size := cell_block z0
  have zo5 : w4.heap.size < w5.heap.size := cell_block o0
  obtain ⟨S, HS⟩ : ∃ S : World → Prop, Hid (∀ w', S w' ↔ More w5 w') := ⟨_, fun _ => Iff.rfl⟩
  have HS0 : S w5.drew := (HS.out _).2 (More.refl _).drew
  have hne : Nonempty { w' // S w' } := ⟨⟨_, HS0⟩⟩
  have ka0 : ∀ i : { w' // S w' }, i.val.cell? ⟨w.heap.size, 0, none⟩ = some (.int .i64 a) := fun i => ((HS.out _).1 i.property).cell a0
  have ka1 : ∀ i : { w' // S w' }, i.val.cell? ⟨w.heap.size, 1, none⟩ = some (.bool sa) := fun i => ((HS.out _).1 i.property).cell a1
  have kb0 : ∀ i : { w' // S w' }, i.val.cell? ⟨w.heap.size + 1, 0, none⟩ = some (.int .i64 b) := fun i => ((HS.out _).1 i.property).cell b0
  have kb1 : ∀ i : { w' // S w' }, i.val.cell? ⟨w.heap.size + 1, 1, none⟩ = some (.bool sb) := fun i => ((HS.out _).1 i.property).cell b1
  have kx0 : ∀ i : { w' // S w' }, i.val.cell? ⟨w1.heap.size, 0, none⟩ = some (.int .i64 x) := fun i => ((HS.out _).1 i.property).cell x0
  have kx1 : ∀ i : { w' // S w' }, i.val.cell? ⟨w1.heap.size, 1, none⟩ = some (.bool s) := fun i => ((HS.out _).1 i.property).cell x1
  have ky0 : ∀ i : { w' // S w' }, i.val.cell? ⟨w2.heap.size, 0, none⟩ = some (.int .i64 y) := fun i => ((HS.out _).1 i.property).cell y0
  have ky1 : ∀ i : { w' // S w' }, i.val.cell? ⟨w2.heap.size, 1, none⟩ = some (.bool s) := fun i => ((HS.out _).1 i.property).cell y1
  have kz0 : ∀ i : { w' // S w' }, i.val.cell? ⟨w3.heap.size, 0, none⟩ = some (.int .i64 z) := fun i => ((HS.out _).1 i.property).cell z0
  have kz1 : ∀ i : { w' // S w' }, i.val.cell? ⟨w3.heap.size, 1, none⟩ = some (.bool sa) := fun i => ((HS.out _).1 i.property).cell z1
  have ko0 : ∀ i : { w' // S w' }, i.val.cell? ⟨w4.heap.size, 0, none⟩ = some (.int .i64 o) := fun i => ((HS.out _).1 i.property).cell o0
  have ko1 : ∀ i : { w' // S w' }, i.val.cell? ⟨w4.heap.size, 1, none⟩ = some (.bool false) := fun i => ((HS.out _).1 i.property).cell o1
  go_wp2_with (fail)
  refine wp_region_ord (S := S) [(0, true), (1, true), (2, true), (3, true), (4, false), (5, true), (6, true), (7, true), (8, true), (9, true), (10, false), (11, true), (12, true), (13, true), (14, true), (15, true), (16, true), (17, false), (18, true), (19, true), (20, true), (21, true), (22, true), (23, false), (24, true), (25, true), (26, true), (27, true), (28, true), (29, true), (30, false), (31, true), (32, true), (33, true)] (by kernel_rfl) (by kernel_rfl) (by kernel_rfl) HS0 ?_
  iterate 4 (refine wpOrd_take rfl (by kernel_rfl) (fun K hK => ?_); go_simp; refine hK _ _ ?_; clear hK K)
  refine wpOrd_busy rfl (by kernel_rfl) (fun K hK => ?_); go_simp
  refine (d1 _).mono ?_
  rintro e w6 ⟨rfl, m6⟩
  have HS6 : S w6 := (HS.out _).2 (((HS.out _).1 HS0).trans m6)
  clear m6
  go_simp
  refine hK _ _ HS6 ?_; clear hK K
  iterate 5 (refine wpOrd_take rfl (by kernel_rfl) (fun K hK => ?_); go_simp; refine hK _ _ ?_; clear hK K)
  refine wpOrd_busy rfl (by kernel_rfl) (fun K hK => ?_); go_simp
  refine (d2 _).mono ?_
  rintro e w7 ⟨rfl, m7⟩
  have HS7 : S w7 := (HS.out _).2 (((HS.out _).1 HS6).trans m7)
  clear m7
  go_simp
  refine hK _ _ HS7 ?_; clear hK K
  (refine wpOrd_take rfl (by kernel_rfl) (fun K hK => ?_); go_simp; refine hK _ _ ?_; clear hK K)
  (refine wpOrd_pickT rfl rfl (by kernel_rfl) rfl (fun K hK => ?_); go_simp; refine hK _ _ ?_; clear hK K)
  iterate 4 (refine wpOrd_take rfl (by kernel_rfl) (fun K hK => ?_); go_simp; refine hK _ _ ?_; clear hK K)
  refine wpOrd_busy rfl (by kernel_rfl) (fun K hK => ?_); go_simp
  refine (d3 _).mono ?_
  rintro e w8 ⟨rfl, m8⟩
  have HS8 : S w8 := (HS.out _).2 (((HS.out _).1 HS7).trans m8)
  clear m8
  go_simp
  refine hK _ _ HS8 ?_; clear hK K
  (refine wpOrd_take rfl (by kernel_rfl) (fun K hK => ?_); go_simp; refine hK _ _ ?_; clear hK K)
  (refine wpOrd_pickT rfl rfl (by kernel_rfl) rfl (fun K hK => ?_); go_simp; refine hK _ _ ?_; clear hK K)
  iterate 3 (refine wpOrd_take rfl (by kernel_rfl) (fun K hK => ?_); go_simp; refine hK _ _ ?_; clear hK K)
  refine wpOrd_busy rfl (by kernel_rfl) (fun K hK => ?_); go_simp
  refine (d4 _).mono ?_
  rintro e w9 ⟨rfl, m9⟩
  have HS9 : S w9 := (HS.out _).2 (((HS.out _).1 HS8).trans m9)
  clear m9
  go_simp
  refine hK _ _ HS9 ?_; clear hK K
  (refine wpOrd_take rfl (by kernel_rfl) (fun K hK => ?_); go_simp; refine hK _ _ ?_; clear hK K)
  (refine wpOrd_pickT rfl rfl (by kernel_rfl) rfl (fun K hK => ?_); go_simp; refine hK _ _ ?_; clear hK K)
  iterate 4 (refine wpOrd_take rfl (by kernel_rfl) (fun K hK => ?_); go_simp; refine hK _ _ ?_; clear hK K)
  refine wpOrd_busy rfl (by kernel_rfl) (fun K hK => ?_); go_simp
  refine (d5 _).mono ?_
  rintro e w10 ⟨rfl, m10⟩
  have HS10 : S w10 := (HS.out _).2 (((HS.out _).1 HS9).trans m10)
  clear m10
  go_simp
  refine hK _ _ HS10 ?_; clear hK K
  (refine wpOrd_take rfl (by kernel_rfl) (fun K hK => ?_); go_simp; refine hK _ _ ?_; clear hK K)
  (refine wpOrd_pickT rfl rfl (by kernel_rfl) rfl (fun K hK => ?_); go_simp; refine hK _ _ ?_; clear hK K)
  (refine wpOrd_take rfl (by kernel_rfl) (fun K hK => ?_); go_simp; refine hK _ _ ?_; clear hK K)
  refine wpOrd_done ?_
  have Hm10 : Hid (More w w10) := Hm5.out.trans ((HS.out _).1 HS10)
  clear ka0 ka1 kb0 kb1 kx0 kx1 ky0 ky1 kz0 kz1 ko0 ko1 hne
  go_wp2
  go_ret
  exact ⟨rfl, Hm10.out⟩

theorem walk (op a b n : Int) (sa sb : Bool) (n0 : -9223372036854775808 ≤ n) (n1 : n ≤ 9223372036854775807) (w : World) :
    Calls Try.prog 13 #[.int .i64 op, kn a sa, kn b sb, .int .i64 n] w fun e w' => e = .returned (.bool true) ∧ More w w' :=
  same op a b n _ _ _ _ sa sb _ _ (known_op_calls op a b sa sb) (join_calls a b sa sb) (less_calls a b sa sb) (kof_calls n) (fun w => has_calls a n sa n0 n1 w)
    (rop_calls op a b sa sb) (rjoin_calls a b sa sb) (rless_calls a b sa sb) (fun w => rof_calls n n0 n1 w) (rhas_calls a n sa) w

/-! ### THE ROW's STEP -/
set_option maxRecDepth 100000 in
theorem lifted (os : Os) (started : os.Started) (H : Type) (enc : TypeId × Value → H) :
    ReturnsInHanded {} Try.checked os 13 .any (Rows.knownTellsSpec.pre6 enc Try.prog Try.f13 Rows.knownTellsRow.domain false) (Rows.knownTellsSpec.post enc Try.prog Try.f13 false true false false) := by
  refine returnsInHanded_of_change (C := Try.checked) own started (by kernel_rfl) Try.func13
    (ChangeSpec.witness6 (enc := enc) (C := Try.checked) false ⟨#[], #[.int .i64 0, .agg #[.int .i64 0, .bool false], .agg #[.int .i64 0, .bool false], .int .i64 0], []⟩ 8 (by kernel_rfl) (by kernel_rfl) (by kernel_rfl) (by kernel_rfl)) ?_
  intro W base args ds gs before hval0 hW hcnd _
  have hval : ∀ (j : Nat) t v, Try.f13.params[j]? = some t → args[j]? = some v → Value.okWide Try.prog W .any base t v := hval0
  have hW' := hW
  obtain ⟨p, q, hA0, hV, rfl, hfz, hnd⟩ := hW
  have hA : DataW.TrodAll enc Try.prog W 0 (fun _ => true) true Try.f13.params.toList args.toList ds p := hA0
  rw [Try.params13] at hA hval
  obtain ⟨v0, vs0, d0, ds0, p0, q0, hargs, rfl, rfl, h0, r0⟩ := trodAll_cons hA
  obtain ⟨v1, vs1, d1, ds1, p1, q1, rfl, rfl, rfl, h1, r1⟩ := trodAll_cons r0
  obtain ⟨v2, vs2, d2, ds2, p2, q2, rfl, rfl, rfl, h2, r2⟩ := trodAll_cons r1
  obtain ⟨v3, vs3, d3, ds3, p3, q3, rfl, rfl, rfl, h3, r3⟩ := trodAll_cons r2
  obtain ⟨rfl, rfl, rfl⟩ := trodAll_nil r3
  obtain rfl : args = #[v0, v1, v2, v3] := by cases args; simp_all
  obtain ⟨rfl, rfl⟩ := trodVars_none hV
  have lt0 : ∀ x ∈ p0, x.block < W.heap.size := by obtain ⟨m, hm⟩ := h0; exact DataW.trod_lt m _ _ _ hm
  have lt1 : ∀ x ∈ p1, x.block < W.heap.size := by obtain ⟨m, hm⟩ := h1; exact DataW.trod_lt m _ _ _ hm
  have lt2 : ∀ x ∈ p2, x.block < W.heap.size := by obtain ⟨m, hm⟩ := h2; exact DataW.trod_lt m _ _ _ hm
  have lt3 : ∀ x ∈ p3, x.block < W.heap.size := by obtain ⟨m, hm⟩ := h3; exact DataW.trod_lt m _ _ _ hm
  obtain ⟨n0, rfl, _, _, hwf0⟩ := open_int Try.underlying3 (hval 0 3 v0 rfl rfl) h0
  obtain ⟨k1, s1, rfl, _, _⟩ := open_known (hval 1 55 v1 rfl rfl) h1
  obtain ⟨k2, s2, rfl, _, _⟩ := open_known (hval 2 55 v2 rfl rfl) h2
  obtain ⟨n3, rfl, _, _, hwf3⟩ := open_int Try.underlying2 (hval 3 2 v3 rfl rfl) h3
  clear hA0 hval0
  refine (walk n0 k1 k2 n3 s1 s2 (bounds_i64 hwf3).1 (bounds_i64 hwf3).2 W).mono fun e W' ⟨he, bel⟩ => ?_
  subst he
  exact ⟨_, rfl, _, _, _, [], _, [], hW', trodAll_mk1 (shut_bool Try.underlying4 _), (trodAll_cons_mk (Below.trod laidOut (by kernel_rfl) (of_decide_eq_true (by kernel_rfl)) h0 bel lt0) (trodAll_cons_mk (Below.trod laidOut (by kernel_rfl) (of_decide_eq_true (by kernel_rfl)) h1 bel lt1) (trodAll_cons_mk (Below.trod laidOut (by kernel_rfl) (of_decide_eq_true (by kernel_rfl)) h2 bel lt2) (trodAll_cons_mk (Below.trod laidOut (by kernel_rfl) (of_decide_eq_true (by kernel_rfl)) h3 bel lt3) trodAll_mk0)))), rfl, Below.frame bel _, fun h => by cases h⟩

theorem over : Rows.knownTellsRow.holds Try.pinned (OpenSpec.ofChange Rows.knownTellsSpec) :=
  OpenClaim.holds_of_wide 13 Try.f13 rfl rfl rfl rfl rfl rfl rfl ⟨rfl, rfl, rfl, rfl, rfl⟩ rfl rfl rfl rfl rfl (by kernel_rfl) Try.func13 (by kernel_rfl)
    (of_decide_eq_true (by kernel_rfl)) (by unfold Func.isWrapper; first | (rw [if_pos (by decide +kernel)]; kernel_rfl) | (rw [if_neg (by decide +kernel)]; exact ⟨rfl, rfl⟩))
    (fun os started H enc _ => lifted os started H enc)

end knownTells

/-- The given statement. -/
theorem knownTells_holds : Rows.KnownTellsSaid :=
  knownTells.over
#print axioms knownTells_holds
end Go.Proofs.Ytedbfjjjfmmffaa
