/-
  Proved: for every program, every memory and every fuel, SeqRuns returns true (up to 4000 steps, or beyond what may be, Run tells what the document says) and leaves its arguments as they were; no conditions.
-/
import Derived.Test.YtbfhchhggkpbdaaRows
import Derived.WalkKit
import Derived.ProofKit
import Derived.OpenShut
import Derived.Test.YtbfhchhggkpbdaaJoined3
import Derived.Test.YtbfhchhggkpbdaaJoined6
namespace Go.Proofs.Ytbfhchhggkpbdaa
open Go.ChangeShapes Go.WideShapes Go.ChangeAt Go.RowKit Go.Deep
set_option linter.unusedVariables false
set_option linter.unusedSimpArgs false
set_option maxRecDepth 8000

namespace seqRuns

theorem own : ownKnob Try.prog.godebug = none := by kernel_rfl
theorem laidOut : laidOutB Try.prog = true := by kernel_rfl

theorem skip (fuel : Int) (v1 rv cv : Value) (w : World) (h1 : 4000 < fuel) (h2 : fuel ≤ 40000) :
    Calls Try.prog 8 #[.agg #[rv, cv], v1, .int .i64 fuel] w fun e w' => e = .returned (.bool true) ∧ More w w' := by
  go_enter Try.func8, Try.ntmps8
  go_wp2
  go_ret
  exact ⟨rfl, (More.refl _).alloc _ _⟩

theorem shown_none (w : World) : ShownAt w (.agg #[.int .i64 0, .int .i64 0, .int .i64 0, .slice none 0 0, .slice none 0 0]) ⟨0, 0, 0, [], ⟨0, fun _ => 0, fun _ _ => 0⟩⟩ :=
  ⟨.slice none 0 0, ⟨none, 0, 0, 0, fun _ => none, fun _ => 0, fun _ => 0, fun _ => 0⟩, rfl, ⟨none, 0, 0, 0, rfl, fun h => absurd h (Nat.not_lt_zero _), fun i s h => by simp at h, by simp⟩,
    ⟨fun h => absurd h (Nat.not_lt_zero _), fun i hi => absurd hi (Nat.not_lt_zero _), fun i hi => absurd hi (Nat.not_lt_zero _), fun i hi => absurd hi (Nat.not_lt_zero _), by dsimp only; omega, fun i hi => absurd hi (Nat.not_lt_zero _)⟩⟩

set_option maxHeartbeats 1000000 in
theorem bad (fuel code : Int) (rv cv mv : Value) (w : World) (hc : ¬ code = 0) (hs : ¬ (4000 < fuel ∧ fuel ≤ 40000))
    (hrun : ∀ w1 : World, More w w1 → Calls Try.prog 23 #[.agg #[rv, cv], mv, .int .i64 fuel] w1 fun e w' => e = .returned (.tuple #[.agg #[.int .i64 0, .int .i64 0, .int .i64 0, .slice none 0 0, .slice none 0 0], .int .i64 code]) ∧ More w1 w')
    (hwr : ∀ w1 : World, More w w1 → Calls Try.prog 24 #[.agg #[rv, cv], mv, .int .i64 fuel] w1 fun e w' => e = .returned (.int .i64 code) ∧ More w1 w') :
    Calls Try.prog 8 #[.agg #[rv, cv], mv, .int .i64 fuel] w fun e w' => e = .returned (.bool true) ∧ More w w' := by
  have H := hid_of (And.intro hrun hwr)
  clear hrun hwr
  by_cases h4 : 4000 < fuel
  · have h5 : ¬ fuel ≤ 40000 := by omega
    have d5 : decide (fuel ≤ 40000) = false := by simp; omega
    clear hs
    go_enter Try.func8, Try.ntmps8
    go_wp2_with (fail)
    refine (H.out.1 _ ((More.refl _).alloc _ _)).mono ?_
    rintro e w1 ⟨rfl, m1⟩
    have e0 : w1.cell? ⟨w.heap.size, 0, none⟩ = some rv := m1.cell (by go_simp)
    have e1 : w1.cell? ⟨w.heap.size, 1, none⟩ = some cv := m1.cell (by go_simp)
    have Hm1 : Hid (More w w1) := ((More.refl _).alloc _ _).trans m1
    have b5 : w.heap.size < w1.heap.size := by have := m1.size; simp at this; omega
    clear m1
    go_wp2_with (fail)
    refine (H.out.2 _ (Hm1.out.alloc _ _)).mono ?_
    rintro e w2 ⟨rfl, m2⟩
    have s0 : w2.cell? ⟨w1.heap.size, 0, none⟩ = some (.int .i64 0) := m2.cell (by go_simp)
    have s1 : w2.cell? ⟨w1.heap.size, 1, none⟩ = some (.int .i64 0) := m2.cell (by go_simp)
    have s2 : w2.cell? ⟨w1.heap.size, 2, none⟩ = some (.int .i64 0) := m2.cell (by go_simp)
    have s3 : w2.cell? ⟨w1.heap.size, 3, none⟩ = some (.slice none 0 0) := m2.cell (by go_simp)
    have s4 : w2.cell? ⟨w1.heap.size, 4, none⟩ = some (.slice none 0 0) := m2.cell (by go_simp)
    have Hm2 : Hid (More w w2) := (Hm1.out.alloc _ _).trans m2
    clear m2 e0 e1
    go_wp2_with (fail)
    refine (ref_same _ _ _ _ _ (shown_none _) (shown_none _) rfl rfl rfl rfl ⟨rfl, fun _ _ => rfl, fun _ _ _ _ => rfl⟩).mono ?_
    rintro e w3 ⟨rfl, m3⟩
    have Hm3 : Hid (More w w3) := Hm2.out.trans m3
    clear m3
    go_wp2
    go_ret
    exact ⟨rfl, Hm3.out⟩
  · have d4 : decide (4000 < fuel) = false := by simp; omega
    clear hs
    go_enter Try.func8, Try.ntmps8
    go_wp2_with (fail)
    refine (H.out.1 _ ((More.refl _).alloc _ _)).mono ?_
    rintro e w1 ⟨rfl, m1⟩
    have e0 : w1.cell? ⟨w.heap.size, 0, none⟩ = some rv := m1.cell (by go_simp)
    have e1 : w1.cell? ⟨w.heap.size, 1, none⟩ = some cv := m1.cell (by go_simp)
    have Hm1 : Hid (More w w1) := ((More.refl _).alloc _ _).trans m1
    have b5 : w.heap.size < w1.heap.size := by have := m1.size; simp at this; omega
    clear m1
    go_wp2_with (fail)
    refine (H.out.2 _ (Hm1.out.alloc _ _)).mono ?_
    rintro e w2 ⟨rfl, m2⟩
    have s0 : w2.cell? ⟨w1.heap.size, 0, none⟩ = some (.int .i64 0) := m2.cell (by go_simp)
    have s1 : w2.cell? ⟨w1.heap.size, 1, none⟩ = some (.int .i64 0) := m2.cell (by go_simp)
    have s2 : w2.cell? ⟨w1.heap.size, 2, none⟩ = some (.int .i64 0) := m2.cell (by go_simp)
    have s3 : w2.cell? ⟨w1.heap.size, 3, none⟩ = some (.slice none 0 0) := m2.cell (by go_simp)
    have s4 : w2.cell? ⟨w1.heap.size, 4, none⟩ = some (.slice none 0 0) := m2.cell (by go_simp)
    have Hm2 : Hid (More w w2) := (Hm1.out.alloc _ _).trans m2
    clear m2 e0 e1
    go_wp2_with (fail)
    refine (ref_same _ _ _ _ _ (shown_none _) (shown_none _) rfl rfl rfl rfl ⟨rfl, fun _ _ => rfl, fun _ _ _ _ => rfl⟩).mono ?_
    rintro e w3 ⟨rfl, m3⟩
    have Hm3 : Hid (More w w3) := Hm2.out.trans m3
    clear m3
    go_wp2
    go_ret
    exact ⟨rfl, Hm3.out⟩

set_option maxHeartbeats 2000000 in
theorem good (f : Nat) (rv cv mv : Value) (R : Sh) (w : World) (f0 : f ≤ 4000)
    (hrun : ∀ w1 : World, More w w1 → Calls Try.prog 23 #[.agg #[rv, cv], mv, .int .i64 f] w1 fun e w' => ∃ (v : Value) (mm : Mem), e = .returned (.tuple #[v, .int .i64 0]) ∧ ShownAt w' v ⟨R.fin, R.val, R.steps, R.seen, mm⟩ ∧ mm.Like R.mem ∧ More w1 w')
    (hwr : ∀ w1 : World, More w w1 → Calls Try.prog 24 #[.agg #[rv, cv], mv, .int .i64 f] w1 fun e w' => e = .returned (.int .i64 0) ∧ More w1 w')
    (hpl : ∀ w1 : World, More w w1 → Calls Try.prog 26 #[.agg #[rv, cv], mv, .int .i64 f] w1 fun e w' => ∃ v, e = .returned v ∧ ShownAt w' v R ∧ More w1 w') :
    Calls Try.prog 8 #[.agg #[rv, cv], mv, .int .i64 f] w fun e w' => e = .returned (.bool true) ∧ More w w' := by
  have H := hid_of (And.intro hrun (And.intro hwr hpl))
  have h4 : ¬ 4000 < (f : Int) := by omega
  have d4 : decide (4000 < (f : Int)) = false := by simp; omega
  clear hrun hwr hpl f0
  go_enter Try.func8, Try.ntmps8
  go_wp2_with (fail)
  refine (H.out.1 _ ((More.refl _).alloc _ _)).mono ?_
  rintro e w1 ⟨v, mm, rfl, hs1, hl1, m1⟩
  have e0 : w1.cell? ⟨w.heap.size, 0, none⟩ = some rv := m1.cell (by go_simp)
  have e1 : w1.cell? ⟨w.heap.size, 1, none⟩ = some cv := m1.cell (by go_simp)
  have Hm1 : Hid (More w w1) := ((More.refl _).alloc _ _).trans m1
  have HS1 := hid_of (And.intro hs1 hl1)
  have b5 : w.heap.size < w1.heap.size := by have := m1.size; simp at this; omega
  obtain ⟨sv, lm, rfl, hse, _⟩ := hs1
  obtain ⟨sa, sb, so, sc, rfl, _⟩ := hse
  obtain ⟨la, hla⟩ : ∃ la, lm.ma = la := ⟨_, rfl⟩
  obtain ⟨lc, hlc⟩ : ∃ lc, lm.mc = lc := ⟨_, rfl⟩
  dsimp only at HS1 ⊢
  rw [hla, hlc] at HS1 ⊢
  clear m1 hl1 hla hlc
  go_wp2_with (fail)
  refine (H.out.2.1 _ (Hm1.out.alloc _ _)).mono ?_
  rintro e w2 ⟨rfl, m2⟩
  have s0 : w2.cell? ⟨w1.heap.size, 0, none⟩ = some (.int .i64 R.fin) := m2.cell (by go_simp)
  have s1 : w2.cell? ⟨w1.heap.size, 1, none⟩ = some (.int .i64 R.val) := m2.cell (by go_simp)
  have s2 : w2.cell? ⟨w1.heap.size, 2, none⟩ = some (.int .i64 R.steps) := m2.cell (by go_simp)
  have s3 : w2.cell? ⟨w1.heap.size, 3, none⟩ = some (.slice sa R.seen.length sc) := m2.cell (by go_simp)
  have s4 : w2.cell? ⟨w1.heap.size, 4, none⟩ = some (.slice la mm.ml lc) := m2.cell (by go_simp)
  replace e0 : w2.cell? ⟨w.heap.size, 0, none⟩ = some rv := m2.cell (by go_simp)
  replace e1 : w2.cell? ⟨w.heap.size, 1, none⟩ = some cv := m2.cell (by go_simp)
  have Hm2 : Hid (More w w2) := (Hm1.out.alloc _ _).trans m2
  have Hm12 : Hid (More w1 w2) := ((More.refl _).alloc _ _).trans m2
  clear m2
  go_wp2_with (fail)
  refine (H.out.2.2 _ Hm2.out).mono ?_
  rintro e w3 ⟨v3, rfl, hs3, m3⟩
  have HS3 := hid_of hs3
  obtain ⟨sv3, lm3, rfl, hse3, _⟩ := hs3
  obtain ⟨sa3, sb3, so3, sc3, rfl, _⟩ := hse3
  obtain ⟨la3, hla3⟩ : ∃ la, lm3.ma = la := ⟨_, rfl⟩
  obtain ⟨lc3, hlc3⟩ : ∃ lc, lm3.mc = lc := ⟨_, rfl⟩
  rw [hla3, hlc3] at HS3 ⊢
  replace s0 := m3.cell s0
  replace s1 := m3.cell s1
  replace s2 := m3.cell s2
  replace s3 := m3.cell s3
  replace s4 := m3.cell s4
  have b6 : w1.heap.size < w3.heap.size := cell_block s0
  have Hm3 : Hid (More w w3) := Hm2.out.trans m3
  have Hm13 : Hid (More w1 w3) := Hm12.out.trans m3
  clear m3 e0 e1 hla3 hlc3
  go_wp2_with (fail)
  refine (ref_same _ _ ⟨R.fin, R.val, R.steps, R.seen, mm⟩ R _ ((HS1.out.1.more Hm13.out).more ((More.refl _).alloc _ _)) (HS3.out.more ((More.refl _).alloc _ _)) rfl rfl rfl rfl HS1.out.2).mono ?_
  rintro e w4 ⟨rfl, m4⟩
  have Hm4 : Hid (More w w4) := (Hm3.out.alloc _ _).trans m4
  clear m4
  go_wp2
  go_ret
  exact ⟨rfl, Hm4.out⟩

theorem walk (p : Prg) (l : Loc) (m : Mem) (ml : MLoc) (fuel : Int) (w : World) (hp : PIn w p l) (hfit : p.Fit) (hm : MRaw w m ml) (hwd : ∀ j, j < m.ml → ∀ i, i < m.len j → B64 (m.wd j i)) :
    Calls Try.prog 8 #[.agg #[.slice l.ra p.rl l.rc, .slice l.ca p.cl l.cc], .slice ml.ma m.ml ml.mc, .int .i64 fuel] w fun e w' => e = .returned (.bool true) ∧ More w w' := by
  by_cases hs : 4000 < fuel ∧ fuel ≤ 40000
  · exact skip fuel _ _ _ w hs.1 hs.2
  have dO : Decidable (p.Ok 8000 10) := Classical.propDecidable _
  have dF : Decidable (FitsOk p.rl p.log m.ml m.len) := Classical.propDecidable _
  have wrong : ∀ (R : Int), wrongI (p.Ok 8000 10) (FitsOk p.rl p.log m.ml m.len) fuel = R → ∀ w1, More w w1 → Calls Try.prog 24 #[.agg #[.slice l.ra p.rl l.rc, .slice l.ca p.cl l.cc], .slice ml.ma m.ml ml.mc, .int .i64 fuel] w1 fun e w' => e = .returned (.int .i64 R) ∧ More w1 w' :=
    fun R hR w1 m1 => ref_wrong p l ml.ma m.ml ml.mc ml.mb ml.mo ml.A m.len ml.C fuel w1 (hp.more m1) hm.hm (hm.lists.more m1) R hR
  by_cases hok : p.Ok 8000 10 ∧ FitsOk p.rl p.log m.ml m.len
  · by_cases hf : fuel < 0 ∨ 40000 < fuel
    · refine bad fuel 3 _ _ _ w (by decide) hs (fun w1 m1 => ?_) (wrong 3 (by unfold wrongI; rw [if_neg (by simp [hok.1, hok.2]), if_pos hf]))
      exact seq_run_wrong p l ml.ma m.ml ml.mc fuel 3 w1 (by decide) (fun w2 m2 => seq_new_range p l ml.ma m.ml ml.mc ml.mb ml.mo ml.A m.len ml.C fuel w2 ((hp.more m1).more m2) hm.hm ((hm.lists.more m1).more m2) hok.1 hok.2 hf)
    · obtain ⟨f, rfl⟩ : ∃ f : Nat, fuel = f := ⟨fuel.toNat, by omega⟩
      have hpos : ∀ i, i < m.ml → m.len i ≤ 64 := fun i hi => by
        have h0 := hok.2.2.1
        have h1 := hok.2.2.2 i (by omega)
        have h2 := hok.1.1.2 i (by omega)
        have h3 := two_pow_le (k := (p.log i).toNat) (by omega)
        unfold wordsI at h1
        omega
      have hin := hm.in_ (by have h0 := hok.2.2.1; have := hok.1.1.1; omega) hpos
      have hn : ∀ i, i < p.cl → B64 (p.ins i).n := fun i hi => (hfit.ins i hi).2.2.2.2
      refine good f _ _ _ (playI p m f) w (by omega) (fun w1 m1 => ?_) (wrong 0 (by unfold wrongI; rw [if_neg (by simp [hok.1, hok.2]), if_neg hf])) (fun w1 m1 => ?_)
      · exact seq_run_ok p l m ml f w1 (hp.more m1) (hin.more m1) hok.1 hn hok.2 hwd (by omega)
      · exact ref_play p l m ml f w1 (hp.more m1) (hin.more m1) hok.1 hfit hok.2.2.1 (fun i hi => hok.2.2.2 i (by have := hok.2.2.1; omega)) hwd (by omega)
  · refine bad fuel 2 _ _ _ w (by decide) hs (fun w1 m1 => ?_) (wrong 2 (by unfold wrongI; rw [if_pos (by rcases Classical.em (p.Ok 8000 10) with h | h; exact .inr (fun h2 => hok ⟨h, h2⟩); exact .inl h)]))
    exact seq_run_wrong p l ml.ma m.ml ml.mc fuel 2 w1 (by decide) (fun w2 m2 => seq_new_form p l ml.ma m.ml ml.mc ml.mb ml.mo ml.A m.len ml.C fuel w2 ((hp.more m1).more m2) hm.hm ((hm.lists.more m1).more m2) hok)

/-! ### THE ROW's STEP -/
set_option maxRecDepth 100000 in
theorem lifted (os : Os) (started : os.Started) (H : Type) (enc : TypeId × Value → H) :
    ReturnsInHanded {} Try.checked os 8 .any (Rows.seqRunsSpec.pre6 enc Try.prog Try.f8 Rows.seqRunsRow.domain false) (Rows.seqRunsSpec.post enc Try.prog Try.f8 false true false false) := by
  refine returnsInHanded_of_change (C := Try.checked) own started (by kernel_rfl) Try.func8
    (ChangeSpec.witness6 (enc := enc) (C := Try.checked) false ⟨#[], #[.agg #[.slice none 0 0, .slice none 0 0], .slice none 0 0, .int .i64 0], []⟩ 8 (by kernel_rfl) (by kernel_rfl) (by kernel_rfl) (by kernel_rfl)) ?_
  intro W base args ds gs before hval0 hW hcnd _
  have hval : ∀ (j : Nat) t v, Try.f8.params[j]? = some t → args[j]? = some v → Value.okWide Try.prog W .any base t v := hval0
  have hW' := hW
  obtain ⟨p, q, hA0, hV, rfl, hfz, hnd⟩ := hW
  have hA : DataW.TrodAll enc Try.prog W 0 (fun _ => true) true Try.f8.params.toList args.toList ds p := hA0
  rw [Try.params8] at hA hval
  obtain ⟨v0, vs0, d0, ds0, p0, q0, hargs, rfl, rfl, h0, r0⟩ := trodAll_cons hA
  obtain ⟨v1, vs1, d1, ds1, p1, q1, rfl, rfl, rfl, h1, r1⟩ := trodAll_cons r0
  obtain ⟨v2, vs2, d2, ds2, p2, q2, rfl, rfl, rfl, h2, r2⟩ := trodAll_cons r1
  obtain ⟨rfl, rfl, rfl⟩ := trodAll_nil r2
  obtain rfl : args = #[v0, v1, v2] := by cases args; simp_all
  obtain ⟨rfl, rfl⟩ := trodVars_none hV
  have lt0 : ∀ x ∈ p0, x.block < W.heap.size := by obtain ⟨m, hm⟩ := h0; exact DataW.trod_lt m _ _ _ hm
  have lt1 : ∀ x ∈ p1, x.block < W.heap.size := by obtain ⟨m, hm⟩ := h1; exact DataW.trod_lt m _ _ _ hm
  have lt2 : ∀ x ∈ p2, x.block < W.heap.size := by obtain ⟨m, hm⟩ := h2; exact DataW.trod_lt m _ _ _ hm
  obtain ⟨P, l, rfl, hin, hfit⟩ := open_prog (hval 0 29 v0 rfl rfl) h0
  obtain ⟨m, ml, rfl, hm, hwd⟩ := open_memw (hval 1 30 v1 rfl rfl) h1
  obtain ⟨n2, rfl, _, _, _⟩ := open_int Try.underlying3 (hval 2 3 v2 rfl rfl) h2
  clear hA0 hval0
  refine (walk P l m ml n2 W hin hfit hm hwd).mono fun e W' ⟨he, bel⟩ => ?_
  subst he
  exact ⟨_, rfl, _, _, _, [], _, [], hW', trodAll_mk1 (shut_bool Try.underlying4 _), (trodAll_cons_mk (Below.trod laidOut (by kernel_rfl) (of_decide_eq_true (by kernel_rfl)) h0 bel lt0) (trodAll_cons_mk (Below.trod laidOut (by kernel_rfl) (of_decide_eq_true (by kernel_rfl)) h1 bel lt1) (trodAll_cons_mk (Below.trod laidOut (by kernel_rfl) (of_decide_eq_true (by kernel_rfl)) h2 bel lt2) trodAll_mk0))), rfl, Below.frame bel _, fun h => by cases h⟩

theorem over : Rows.seqRunsRow.holds Try.pinned (OpenSpec.ofChange Rows.seqRunsSpec) :=
  OpenClaim.holds_of_wide 8 Try.f8 rfl rfl rfl rfl rfl rfl rfl ⟨rfl, rfl, rfl, rfl, rfl⟩ rfl rfl rfl rfl rfl (by kernel_rfl) Try.func8 (by kernel_rfl)
    (of_decide_eq_true (by kernel_rfl)) (by unfold Func.isWrapper; first | (rw [if_pos (by decide +kernel)]; kernel_rfl) | (rw [if_neg (by decide +kernel)]; exact ⟨rfl, rfl⟩))
    (fun os started H enc _ => lifted os started H enc)

end seqRuns

/-- The given statement. -/
theorem seqRuns_holds : Rows.SeqRunsSaid :=
  seqRuns.over
#print axioms seqRuns_holds
end Go.Proofs.Ytbfhchhggkpbdaa
