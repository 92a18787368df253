/-
  Proved: for every operation, any two of what is known, and any two numbers, KnownHolds returns true (what is known is so) and leaves its arguments as they were; no conditions.
-/
import Derived.Test.YtedbfjjjfmmffaaRows
import Derived.WalkKit
import Derived.ProofKit
import Derived.OpenShut
import Derived.Test.YtedbfjjjfmmffaaJoined0
import Derived.Test.YtedbfjjjfmmffaaJoined1
namespace Go.Proofs.Ytedbfjjjfmmffaa
open Go.ChangeShapes Go.WideShapes Go.ChangeAt Go.RowKit Go.Deep
set_option linter.unusedVariables false
set_option linter.unusedSimpArgs false
set_option maxRecDepth 8000

namespace knownHolds

theorem own : ownKnob Try.prog.godebug = none := by kernel_rfl
theorem laidOut : laidOutB Try.prog = true := by kernel_rfl

theorem no_a (op a b n m : Int) (sa sb : Bool) (c1 : ∀ w : World, Calls Try.prog 43 #[kn a sa, .int .i64 n] w fun e w' => e = .returned (.bool false) ∧ More w w') (w : World) :
    Calls Try.prog 14 #[.int .i64 op, kn a sa, kn b sb, .int .i64 n, .int .i64 m] w fun e w' => e = .returned (.bool true) ∧ More w w' := by
  unfold kn at *
  go_enter Try.func14, Try.ntmps14
  go_wp2_with (fail)
  refine (c1 _).mono ?_
  rintro e w1 ⟨rfl, m1⟩
  have Hm1 : Hid (More w w1) := (((More.refl _).alloc _ _).alloc _ _).trans m1
  clear m1
  go_wp2
  go_ret
  exact ⟨rfl, Hm1.out⟩

theorem no_b (op a b n m : Int) (sa sb : Bool) (c1 : ∀ w : World, Calls Try.prog 43 #[kn a sa, .int .i64 n] w fun e w' => e = .returned (.bool true) ∧ More w w')
    (c2 : ∀ w : World, Calls Try.prog 43 #[kn b sb, .int .i64 m] w fun e w' => e = .returned (.bool false) ∧ More w w') (w : World) :
    Calls Try.prog 14 #[.int .i64 op, kn a sa, kn b sb, .int .i64 n, .int .i64 m] w fun e w' => e = .returned (.bool true) ∧ More w w' := by
  unfold kn at *
  go_enter Try.func14, Try.ntmps14
  go_wp2_with (fail)
  refine (c1 _).mono ?_
  rintro e w1 ⟨rfl, m1⟩
  have q2 : w1.cell? ⟨w.heap.size + 1, 0, none⟩ = some (.int .i64 b) := m1.cell (by go_simp)
  have q3 : w1.cell? ⟨w.heap.size + 1, 1, none⟩ = some (.bool sb) := m1.cell (by go_simp)
  have Hm1 : Hid (More w w1) := (((More.refl _).alloc _ _).alloc _ _).trans m1
  clear m1
  go_wp2_with (fail)
  refine (c2 _).mono ?_
  rintro e w2 ⟨rfl, m2⟩
  have Hm2 : Hid (More w w2) := Hm1.out.trans m2
  clear m2
  go_wp2
  go_ret
  exact ⟨rfl, Hm2.out⟩

/-- The cells of a Known in a block. -/
structure At (n : Nat) (a : Int) (s : Bool) (w : World) : Prop where
  c0 : w.cell? ⟨n, 0, none⟩ = some (.int .i64 a)
  c1 : w.cell? ⟨n, 1, none⟩ = some (.bool s)
theorem At.more {n : Nat} {a : Int} {s : Bool} {w w' : World} (h : At n a s w) (m : More w w') : At n a s w' := ⟨m.cell h.c0, m.cell h.c1⟩

/-- All that is asked, where both numbers are so known. -/
theorem yes (op a b n m r x j l o : Int) (sa sb : Bool) (bl hl : Bool) (hbl : (bl || hl) = true)
    (c1 : ∀ w : World, Calls Try.prog 43 #[kn a sa, .int .i64 n] w fun e w' => e = .returned (.bool true) ∧ More w w')
    (c2 : ∀ w : World, Calls Try.prog 43 #[kn b sb, .int .i64 m] w fun e w' => e = .returned (.bool true) ∧ More w w')
    (c3 : ∀ w : World, Calls Try.prog 17 #[.int .i64 op, .int .i64 n, .int .i64 m] w fun e w' => e = .returned (.int .i64 r) ∧ More w w')
    (c4 : ∀ w : World, Calls Try.prog 34 #[.int .i64 op, kn a sa, kn b sb] w fun e w' => e = .returned (kn x (sa || sb)) ∧ More w w')
    (c5 : ∀ w : World, Calls Try.prog 35 #[kn a sa, kn b sb] w fun e w' => e = .returned (kn j (sa || sb)) ∧ More w w')
    (c6 : ∀ w : World, Calls Try.prog 36 #[kn a sa, kn b sb] w fun e w' => e = .returned (kn l sa) ∧ More w w')
    (c7 : ∀ w : World, Calls Try.prog 37 #[.int .i64 n] w fun e w' => e = .returned (kn o false) ∧ More w w')
    (c8 : ∀ w : World, Calls Try.prog 43 #[kn x (sa || sb), .int .i64 r] w fun e w' => e = .returned (.bool true) ∧ More w w')
    (c9 : ∀ w : World, Calls Try.prog 43 #[kn j (sa || sb), .int .i64 n] w fun e w' => e = .returned (.bool true) ∧ More w w')
    (c10 : ∀ w : World, Calls Try.prog 43 #[kn j (sa || sb), .int .i64 m] w fun e w' => e = .returned (.bool true) ∧ More w w')
    (c11 : ∀ w : World, Calls Try.prog 43 #[kn o false, .int .i64 n] w fun e w' => e = .returned (.bool true) ∧ More w w')
    (c12 : ∀ w : World, Calls Try.prog 44 #[.int .i64 m, .int .i64 n] w fun e w' => e = .returned (.bool bl) ∧ w' = w)
    (c13 : ∀ w : World, Calls Try.prog 43 #[kn l sa, .int .i64 n] w fun e w' => e = .returned (.bool hl) ∧ More w w') (w : World) :
    Calls Try.prog 14 #[.int .i64 op, kn a sa, kn b sb, .int .i64 n, .int .i64 m] w fun e w' => e = .returned (.bool true) ∧ More w w' := by
  obtain ⟨s, hs⟩ : ∃ s, (sa || sb) = s := ⟨_, rfl⟩
  rw [hs] at c4 c5 c8 c9 c10
  unfold kn at *
  go_enter Try.func14, Try.ntmps14
  go_wp2_with (fail)
  refine (c1 _).mono ?_
  rintro e w1 ⟨rfl, m1⟩
  have a0 : w1.cell? ⟨w.heap.size, 0, none⟩ = some (.int .i64 a) := m1.cell (by go_simp)
  have a1 : w1.cell? ⟨w.heap.size, 1, none⟩ = some (.bool sa) := m1.cell (by go_simp)
  have b0 : w1.cell? ⟨w.heap.size + 1, 0, none⟩ = some (.int .i64 b) := m1.cell (by go_simp)
  have b1 : w1.cell? ⟨w.heap.size + 1, 1, none⟩ = some (.bool sb) := m1.cell (by go_simp)
  have Hm1 : Hid (More w w1) := (((More.refl _).alloc _ _).alloc _ _).trans m1
  clear m1
  go_wp2_with (fail)
  refine (c2 _).mono ?_
  rintro e w2 ⟨rfl, m2⟩
  replace a0 := m2.cell a0
  replace a1 := m2.cell a1
  replace b0 := m2.cell b0
  replace b1 := m2.cell b1
  have Hm2 : Hid (More w w2) := Hm1.out.trans m2
  clear m2
  have za : w.heap.size < w2.heap.size := cell_block a0
  have zb : w.heap.size + 1 < w2.heap.size := cell_block b0
  go_wp2_with (fail)
  refine (c3 _).mono ?_
  rintro e w3 ⟨rfl, m3⟩
  replace a0 := m3.cell a0
  replace a1 := m3.cell a1
  replace b0 := m3.cell b0
  replace b1 := m3.cell b1
  have Hm3 : Hid (More w w3) := Hm2.out.trans m3
  clear m3
  have za : w.heap.size < w3.heap.size := cell_block a0
  have zb : w.heap.size + 1 < w3.heap.size := cell_block b0
  go_wp2_with (fail)
  refine (c4 _).mono ?_
  rintro e w4 ⟨rfl, m4⟩
  replace a0 := m4.cell a0
  replace a1 := m4.cell a1
  replace b0 := m4.cell b0
  replace b1 := m4.cell b1
  have Hm4 : Hid (More w w4) := Hm3.out.trans m4
  clear m4
  have za : w.heap.size < w4.heap.size := cell_block a0
  have zb : w.heap.size + 1 < w4.heap.size := cell_block b0
  go_wp2_with (fail)
  refine (c5 _).mono ?_
  rintro e w5 ⟨rfl, m5⟩
  have hp5 : Hid (More w4 w5) := ((More.refl _).alloc _ _).trans m5
  replace a0 := hp5.out.cell a0
  replace a1 := hp5.out.cell a1
  replace b0 := hp5.out.cell b0
  replace b1 := hp5.out.cell b1
  have x0 : w5.cell? ⟨w4.heap.size, 0, none⟩ = some (.int .i64 x) := m5.cell (by go_simp)
  have x1 : w5.cell? ⟨w4.heap.size, 1, none⟩ = some (.bool s) := m5.cell (by go_simp)
  have Hm5 : Hid (More w w5) := Hm4.out.trans hp5.out
  clear hp5 m5
  have za : w.heap.size < w5.heap.size := cell_block a0
  have zb : w.heap.size + 1 < w5.heap.size := cell_block b0
  have zx : w4.heap.size < w5.heap.size := cell_block x0
  go_wp2_with (fail)
  refine (c6 _).mono ?_
  rintro e w6 ⟨rfl, m6⟩
  have hp6 : Hid (More w5 w6) := ((More.refl _).alloc _ _).trans m6
  replace a0 := hp6.out.cell a0
  replace a1 := hp6.out.cell a1
  replace b0 := hp6.out.cell b0
  replace b1 := hp6.out.cell b1
  replace x0 := hp6.out.cell x0
  replace x1 := hp6.out.cell x1
  have j0 : w6.cell? ⟨w5.heap.size, 0, none⟩ = some (.int .i64 j) := m6.cell (by go_simp)
  have j1 : w6.cell? ⟨w5.heap.size, 1, none⟩ = some (.bool s) := m6.cell (by go_simp)
  have Hm6 : Hid (More w w6) := Hm5.out.trans hp6.out
  clear hp6 m6
  have za : w.heap.size < w6.heap.size := cell_block a0
  have zb : w.heap.size + 1 < w6.heap.size := cell_block b0
  have zx : w4.heap.size < w6.heap.size := cell_block x0
  have zj : w5.heap.size < w6.heap.size := cell_block j0
  go_wp2_with (fail)
  refine (c7 _).mono ?_
  rintro e w7 ⟨rfl, m7⟩
  have hp7 : Hid (More w6 w7) := ((More.refl _).alloc _ _).trans m7
  replace a0 := hp7.out.cell a0
  replace a1 := hp7.out.cell a1
  replace b0 := hp7.out.cell b0
  replace b1 := hp7.out.cell b1
  replace x0 := hp7.out.cell x0
  replace x1 := hp7.out.cell x1
  replace j0 := hp7.out.cell j0
  replace j1 := hp7.out.cell j1
  have l0 : w7.cell? ⟨w6.heap.size, 0, none⟩ = some (.int .i64 l) := m7.cell (by go_simp)
  have l1 : w7.cell? ⟨w6.heap.size, 1, none⟩ = some (.bool sa) := m7.cell (by go_simp)
  have Hm7 : Hid (More w w7) := Hm6.out.trans hp7.out
  clear hp7 m7
  have za : w.heap.size < w7.heap.size := cell_block a0
  have zb : w.heap.size + 1 < w7.heap.size := cell_block b0
  have zx : w4.heap.size < w7.heap.size := cell_block x0
  have zj : w5.heap.size < w7.heap.size := cell_block j0
  have zl : w6.heap.size < w7.heap.size := cell_block l0
  go_wp2_with (fail)
  refine (c8 _).mono ?_
  rintro e w8 ⟨rfl, m8⟩
  have hp8 : Hid (More w7 w8) := ((More.refl _).alloc _ _).trans m8
  replace a0 := hp8.out.cell a0
  replace a1 := hp8.out.cell a1
  replace b0 := hp8.out.cell b0
  replace b1 := hp8.out.cell b1
  replace x0 := hp8.out.cell x0
  replace x1 := hp8.out.cell x1
  replace j0 := hp8.out.cell j0
  replace j1 := hp8.out.cell j1
  replace l0 := hp8.out.cell l0
  replace l1 := hp8.out.cell l1
  have o0 : w8.cell? ⟨w7.heap.size, 0, none⟩ = some (.int .i64 o) := m8.cell (by go_simp)
  have o1 : w8.cell? ⟨w7.heap.size, 1, none⟩ = some (.bool false) := m8.cell (by go_simp)
  have Hm8 : Hid (More w w8) := Hm7.out.trans hp8.out
  clear hp8 m8
  have za : w.heap.size < w8.heap.size := cell_block a0
  have zb : w.heap.size + 1 < w8.heap.size := cell_block b0
  have zx : w4.heap.size < w8.heap.size := cell_block x0
  have zj : w5.heap.size < w8.heap.size := cell_block j0
  have zl : w6.heap.size < w8.heap.size := cell_block l0
  have zo : w7.heap.size < w8.heap.size := cell_block o0
  go_wp2_with (fail)
  refine (c9 _).mono ?_
  rintro e w9 ⟨rfl, m9⟩
  replace a0 := m9.cell a0
  replace a1 := m9.cell a1
  replace b0 := m9.cell b0
  replace b1 := m9.cell b1
  replace x0 := m9.cell x0
  replace x1 := m9.cell x1
  replace j0 := m9.cell j0
  replace j1 := m9.cell j1
  replace l0 := m9.cell l0
  replace l1 := m9.cell l1
  replace o0 := m9.cell o0
  replace o1 := m9.cell o1
  have Hm9 : Hid (More w w9) := Hm8.out.trans m9
  clear m9
  have za : w.heap.size < w9.heap.size := cell_block a0
  have zb : w.heap.size + 1 < w9.heap.size := cell_block b0
  have zx : w4.heap.size < w9.heap.size := cell_block x0
  have zj : w5.heap.size < w9.heap.size := cell_block j0
  have zl : w6.heap.size < w9.heap.size := cell_block l0
  have zo : w7.heap.size < w9.heap.size := cell_block o0
  go_wp2_with (fail)
  refine (c10 _).mono ?_
  rintro e w10 ⟨rfl, m10⟩
  replace a0 := m10.cell a0
  replace a1 := m10.cell a1
  replace b0 := m10.cell b0
  replace b1 := m10.cell b1
  replace x0 := m10.cell x0
  replace x1 := m10.cell x1
  replace j0 := m10.cell j0
  replace j1 := m10.cell j1
  replace l0 := m10.cell l0
  replace l1 := m10.cell l1
  replace o0 := m10.cell o0
  replace o1 := m10.cell o1
  have Hm10 : Hid (More w w10) := Hm9.out.trans m10
  clear m10
  have za : w.heap.size < w10.heap.size := cell_block a0
  have zb : w.heap.size + 1 < w10.heap.size := cell_block b0
  have zx : w4.heap.size < w10.heap.size := cell_block x0
  have zj : w5.heap.size < w10.heap.size := cell_block j0
  have zl : w6.heap.size < w10.heap.size := cell_block l0
  have zo : w7.heap.size < w10.heap.size := cell_block o0
  go_wp2_with (fail)
  refine (c11 _).mono ?_
  rintro e w11 ⟨rfl, m11⟩
  replace a0 := m11.cell a0
  replace a1 := m11.cell a1
  replace b0 := m11.cell b0
  replace b1 := m11.cell b1
  replace x0 := m11.cell x0
  replace x1 := m11.cell x1
  replace j0 := m11.cell j0
  replace j1 := m11.cell j1
  replace l0 := m11.cell l0
  replace l1 := m11.cell l1
  replace o0 := m11.cell o0
  replace o1 := m11.cell o1
  have Hm11 : Hid (More w w11) := Hm10.out.trans m11
  clear m11
  have za : w.heap.size < w11.heap.size := cell_block a0
  have zb : w.heap.size + 1 < w11.heap.size := cell_block b0
  have zx : w4.heap.size < w11.heap.size := cell_block x0
  have zj : w5.heap.size < w11.heap.size := cell_block j0
  have zl : w6.heap.size < w11.heap.size := cell_block l0
  have zo : w7.heap.size < w11.heap.size := cell_block o0
  subst hs
  cases sa <;> cases sb
  all_goals
    go_wp2_with (fail)
    refine (c12 _).mono ?_
    rintro e w12 ⟨rfl, rfl⟩
    cases bl
    · obtain rfl : hl = true := hbl
      go_wp2_with (fail)
      refine (c13 _).mono ?_
      rintro e w13 ⟨rfl, m13⟩
      have Hm13 : Hid (More w w13) := Hm11.out.trans m13
      clear m13
      go_wp2
      go_ret
      exact ⟨rfl, Hm13.out⟩
    · go_wp2
      go_ret
      exact ⟨rfl, Hm11.out⟩

theorem walk (op a b n m : Int) (sa sb : Bool) (n0 : -9223372036854775808 ≤ n) (n1 : n ≤ 9223372036854775807) (m0 : -9223372036854775808 ≤ m) (m1 : m ≤ 9223372036854775807) (w : World) :
    Calls Try.prog 14 #[.int .i64 op, kn a sa, kn b sb, .int .i64 n, .int .i64 m] w fun e w' => e = .returned (.bool true) ∧ More w w' := by
  cases ha : hasI a n with
  | false => exact no_a op a b n m sa sb (fun w => ha ▸ rhas_calls a n sa w) w
  | true =>
    cases hb : hasI b m with
    | false => exact no_b op a b n m sa sb (fun w => ha ▸ rhas_calls a n sa w) (fun w => hb ▸ rhas_calls b m sb w) w
    | true =>
      have ra := bnd_range a
      have rb := bnd_range b
      have t8 : hasI (opB op (bnd a) (bnd b)) (opI op n m) = true := known_op op n0 n1 m0 m1 ha hb
      have t9 : hasI (max (bnd a) (bnd b)) n = true := hasI_mono n0 n1 ha (by rw [bnd_id (k := max (bnd a) (bnd b)) (by omega) (by omega)]; omega)
      have t10 : hasI (max (bnd a) (bnd b)) m = true := hasI_mono m0 m1 hb (by rw [bnd_id (k := max (bnd a) (bnd b)) (by omega) (by omega)]; omega)
      have t11 : hasI (fitI n) n = true := hasI_own n0 n1
      refine yes op a b n m (opI op n m) (opB op (bnd a) (bnd b)) (max (bnd a) (bnd b)) (min (bnd a) (bnd b)) (fitI n) sa sb (decide (toU m < toU n)) (hasI (min (bnd a) (bnd b)) n) ?_
        (fun w => ha ▸ rhas_calls a n sa w) (fun w => hb ▸ rhas_calls b m sb w) (fun w => ref_op op n m n0 n1 m0 m1 w) (known_op_calls op a b sa sb) (join_calls a b sa sb) (less_calls a b sa sb) (kof_calls n)
        (fun w => t8 ▸ rhas_calls _ _ _ w) (fun w => t9 ▸ rhas_calls _ _ _ w) (fun w => t10 ▸ rhas_calls _ _ _ w) (fun w => t11 ▸ rhas_calls _ _ _ w) (fun w => below_calls m n m0 m1 n0 n1 w) (fun w => rhas_calls _ _ _ w) w
      by_cases h : toU m < toU n
      · simp [h]
      · rw [hasI_less n0 n1 m0 m1 ha hb (by omega)]; simp

/-! ### THE ROW's STEP -/
set_option maxRecDepth 100000 in
theorem lifted (os : Os) (started : os.Started) (H : Type) (enc : TypeId × Value → H) :
    ReturnsInHanded {} Try.checked os 14 .any (Rows.knownHoldsSpec.pre6 enc Try.prog Try.f14 Rows.knownHoldsRow.domain false) (Rows.knownHoldsSpec.post enc Try.prog Try.f14 false true false false) := by
  refine returnsInHanded_of_change (C := Try.checked) own started (by kernel_rfl) Try.func14
    (ChangeSpec.witness6 (enc := enc) (C := Try.checked) false ⟨#[], #[.int .i64 0, .agg #[.int .i64 0, .bool false], .agg #[.int .i64 0, .bool false], .int .i64 0, .int .i64 0], []⟩ 8 (by kernel_rfl) (by kernel_rfl) (by kernel_rfl) (by kernel_rfl)) ?_
  intro W base args ds gs before hval0 hW hcnd _
  have hval : ∀ (j : Nat) t v, Try.f14.params[j]? = some t → args[j]? = some v → Value.okWide Try.prog W .any base t v := hval0
  have hW' := hW
  obtain ⟨p, q, hA0, hV, rfl, hfz, hnd⟩ := hW
  have hA : DataW.TrodAll enc Try.prog W 0 (fun _ => true) true Try.f14.params.toList args.toList ds p := hA0
  rw [Try.params14] at hA hval
  obtain ⟨v0, vs0, d0, ds0, p0, q0, hargs, rfl, rfl, h0, r0⟩ := trodAll_cons hA
  obtain ⟨v1, vs1, d1, ds1, p1, q1, rfl, rfl, rfl, h1, r1⟩ := trodAll_cons r0
  obtain ⟨v2, vs2, d2, ds2, p2, q2, rfl, rfl, rfl, h2, r2⟩ := trodAll_cons r1
  obtain ⟨v3, vs3, d3, ds3, p3, q3, rfl, rfl, rfl, h3, r3⟩ := trodAll_cons r2
  obtain ⟨v4, vs4, d4, ds4, p4, q4, rfl, rfl, rfl, h4, r4⟩ := trodAll_cons r3
  obtain ⟨rfl, rfl, rfl⟩ := trodAll_nil r4
  obtain rfl : args = #[v0, v1, v2, v3, v4] := by cases args; simp_all
  obtain ⟨rfl, rfl⟩ := trodVars_none hV
  have lt0 : ∀ x ∈ p0, x.block < W.heap.size := by obtain ⟨m, hm⟩ := h0; exact DataW.trod_lt m _ _ _ hm
  have lt1 : ∀ x ∈ p1, x.block < W.heap.size := by obtain ⟨m, hm⟩ := h1; exact DataW.trod_lt m _ _ _ hm
  have lt2 : ∀ x ∈ p2, x.block < W.heap.size := by obtain ⟨m, hm⟩ := h2; exact DataW.trod_lt m _ _ _ hm
  have lt3 : ∀ x ∈ p3, x.block < W.heap.size := by obtain ⟨m, hm⟩ := h3; exact DataW.trod_lt m _ _ _ hm
  have lt4 : ∀ x ∈ p4, x.block < W.heap.size := by obtain ⟨m, hm⟩ := h4; exact DataW.trod_lt m _ _ _ hm
  obtain ⟨n0, rfl, _, _, hwf0⟩ := open_int Try.underlying3 (hval 0 3 v0 rfl rfl) h0
  obtain ⟨k1, s1, rfl, _, _⟩ := open_known (hval 1 55 v1 rfl rfl) h1
  obtain ⟨k2, s2, rfl, _, _⟩ := open_known (hval 2 55 v2 rfl rfl) h2
  obtain ⟨n3, rfl, _, _, hwf3⟩ := open_int Try.underlying2 (hval 3 2 v3 rfl rfl) h3
  obtain ⟨n4, rfl, _, _, hwf4⟩ := open_int Try.underlying2 (hval 4 2 v4 rfl rfl) h4
  clear hA0 hval0
  refine (walk n0 k1 k2 n3 n4 s1 s2 (bounds_i64 hwf3).1 (bounds_i64 hwf3).2 (bounds_i64 hwf4).1 (bounds_i64 hwf4).2 W).mono fun e W' ⟨he, bel⟩ => ?_
  subst he
  exact ⟨_, rfl, _, _, _, [], _, [], hW', trodAll_mk1 (shut_bool Try.underlying4 _), (trodAll_cons_mk (Below.trod laidOut (by kernel_rfl) (of_decide_eq_true (by kernel_rfl)) h0 bel lt0) (trodAll_cons_mk (Below.trod laidOut (by kernel_rfl) (of_decide_eq_true (by kernel_rfl)) h1 bel lt1) (trodAll_cons_mk (Below.trod laidOut (by kernel_rfl) (of_decide_eq_true (by kernel_rfl)) h2 bel lt2) (trodAll_cons_mk (Below.trod laidOut (by kernel_rfl) (of_decide_eq_true (by kernel_rfl)) h3 bel lt3) (trodAll_cons_mk (Below.trod laidOut (by kernel_rfl) (of_decide_eq_true (by kernel_rfl)) h4 bel lt4) trodAll_mk0))))), rfl, Below.frame bel _, fun h => by cases h⟩

theorem over : Rows.knownHoldsRow.holds Try.pinned (OpenSpec.ofChange Rows.knownHoldsSpec) :=
  OpenClaim.holds_of_wide 14 Try.f14 rfl rfl rfl rfl rfl rfl rfl ⟨rfl, rfl, rfl, rfl, rfl⟩ rfl rfl rfl rfl rfl (by kernel_rfl) Try.func14 (by kernel_rfl)
    (of_decide_eq_true (by kernel_rfl)) (by unfold Func.isWrapper; first | (rw [if_pos (by decide +kernel)]; kernel_rfl) | (rw [if_neg (by decide +kernel)]; exact ⟨rfl, rfl⟩))
    (fun os started H enc _ => lifted os started H enc)

end knownHolds

/-- The given statement. -/
theorem knownHolds_holds : Rows.KnownHoldsSaid :=
  knownHolds.over
#print axioms knownHolds_holds
end Go.Proofs.Ytedbfjjjfmmffaa
