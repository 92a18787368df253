/-
  Proved: for every program, every memory, every script and every fuel, SpecRuns returns true (up to 4000 steps, or beyond what may be, Run tells what the document says of a run with steps ahead of time) and leaves its arguments as they were; no conditions.
-/
import Derived.Test.YtbfhchhggkpbdaaRows
import Derived.WalkKit
import Derived.ProofKit
import Derived.OpenShut
import Derived.Test.YtbfhchhggkpbdaaJoined6
import Derived.Test.YtbfhchhggkpbdaaJoined3
import Derived.Test.YtbfhchhggkpbdaaJoined11
namespace Go.Proofs.Ytbfhchhggkpbdaa
open Go.ChangeShapes Go.WideShapes Go.ChangeAt Go.RowKit Go.Deep
set_option linter.unusedVariables false
set_option linter.unusedSimpArgs false
set_option maxRecDepth 8000

namespace specRuns

theorem own : ownKnob Try.prog.godebug = none := by kernel_rfl
theorem laidOut : laidOutB Try.prog = true := by kernel_rfl

theorem skip (fuel : Int) (v1 v2 rv cv : Value) (w : World) (h1 : 4000 < fuel) (h2 : fuel ≤ 40000) :
    Calls Try.prog 10 #[.agg #[rv, cv], v1, v2, .int .i64 fuel] w fun e w' => e = .returned (.bool true) ∧ More w w' := by
  go_enter Try.func10, Try.ntmps10
  go_wp2
  go_ret
  exact ⟨rfl, (More.refl _).alloc _ _⟩

theorem like_trans4 {x y z : Mem} (h : x.Like y) (k : y.Like z) : x.Like z :=
  ⟨h.ml.trans k.ml, fun i hi => (h.len i hi).trans (k.len i (by rw [← h.ml]; exact hi)), fun i hi j hj => (h.wd i hi j hj).trans (k.wd i (by rw [← h.ml]; exact hi) j (by rw [← h.len i hi]; exact hj))⟩

theorem shown_none (w : World) : ShownAt w (.agg #[.int .i64 0, .int .i64 0, .int .i64 0, .slice none 0 0, .slice none 0 0]) ⟨0, 0, 0, [], ⟨0, fun _ => 0, fun _ _ => 0⟩⟩ :=
  ⟨.slice none 0 0, ⟨none, 0, 0, 0, fun _ => none, fun _ => 0, fun _ => 0, fun _ => 0⟩, rfl, ⟨none, 0, 0, 0, rfl, fun h => absurd h (Nat.not_lt_zero _), fun i s h => by simp at h, by simp⟩,
    ⟨fun h => absurd h (Nat.not_lt_zero _), fun i hi => absurd hi (Nat.not_lt_zero _), fun i hi => absurd hi (Nat.not_lt_zero _), fun i hi => absurd hi (Nat.not_lt_zero _), by dsimp only; omega, fun i hi => absurd hi (Nat.not_lt_zero _)⟩⟩

set_option maxHeartbeats 1000000 in
theorem bad (fuel code : Int) (rv cv mv sv : Value) (w : World) (hc : ¬ code = 0) (hs : ¬ (4000 < fuel ∧ fuel ≤ 40000))
    (hrun : ∀ w1 : World, More w w1 → Calls Try.prog 28 #[.agg #[rv, cv], mv, sv, .int .i64 fuel] w1 fun e w' => e = .returned (.tuple #[.agg #[.int .i64 0, .int .i64 0, .int .i64 0, .slice none 0 0, .slice none 0 0], .int .i64 code]) ∧ More w1 w')
    (hwr : ∀ w1 : World, More w w1 → Calls Try.prog 24 #[.agg #[rv, cv], mv, .int .i64 fuel] w1 fun e w' => e = .returned (.int .i64 code) ∧ More w1 w') :
    Calls Try.prog 10 #[.agg #[rv, cv], mv, sv, .int .i64 fuel] w fun e w' => e = .returned (.bool true) ∧ More w w' := by
  have H := hid_of' (And.intro hrun hwr)
  have hc' : (code == 0) = false := by simp [hc]
  clear hrun hwr
  by_cases h4 : 4000 < fuel
  · have h5 : ¬ fuel ≤ 40000 := by omega
    have d5 : decide (fuel ≤ 40000) = false := by simp; omega
    clear hs
    go_enter Try.func10, Try.ntmps10
    go_wp2_with (fail)
    refine (H.out.1 _ ((More.refl _).alloc _ _)).mono ?_
    rintro e w1 ⟨rfl, m1⟩
    have e0 : w1.cell? ⟨w.heap.size, 0, none⟩ = some rv := m1.cell (by go_simp)
    have e1 : w1.cell? ⟨w.heap.size, 1, none⟩ = some cv := m1.cell (by go_simp)
    have Hm1 : Hid (More w w1) := ((More.refl _).alloc _ _).trans m1
    have b5 : w.heap.size < w1.heap.size := by have := m1.size; simp at this; omega
    clear m1
    go_wp2_with (fail)
    refine (H.out.2 _ (Hm1.out.alloc _ _)).mono ?_
    rintro e w2 ⟨rfl, m2⟩
    have s0 : w2.cell? ⟨w1.heap.size, 0, none⟩ = some (.int .i64 0) := m2.cell (by go_simp)
    have s1 : w2.cell? ⟨w1.heap.size, 1, none⟩ = some (.int .i64 0) := m2.cell (by go_simp)
    have s2 : w2.cell? ⟨w1.heap.size, 2, none⟩ = some (.int .i64 0) := m2.cell (by go_simp)
    have s3 : w2.cell? ⟨w1.heap.size, 3, none⟩ = some (.slice none 0 0) := m2.cell (by go_simp)
    have s4 : w2.cell? ⟨w1.heap.size, 4, none⟩ = some (.slice none 0 0) := m2.cell (by go_simp)
    have Hm2 : Hid (More w w2) := (Hm1.out.alloc _ _).trans m2
    clear m2 e0 e1
    go_wp2_with (fail)
    refine (ref_same _ _ _ _ _ (shown_none _) (shown_none _) rfl rfl rfl rfl ⟨rfl, fun _ _ => rfl, fun _ _ _ _ => rfl⟩).mono ?_
    rintro e w3 ⟨rfl, m3⟩
    have Hm3 : Hid (More w w3) := Hm2.out.trans m3
    clear m3
    go_wp2
    go_ret
    exact ⟨rfl, Hm3.out⟩
  · have d4 : decide (4000 < fuel) = false := by simp; omega
    clear hs
    go_enter Try.func10, Try.ntmps10
    go_wp2_with (fail)
    refine (H.out.1 _ ((More.refl _).alloc _ _)).mono ?_
    rintro e w1 ⟨rfl, m1⟩
    have e0 : w1.cell? ⟨w.heap.size, 0, none⟩ = some rv := m1.cell (by go_simp)
    have e1 : w1.cell? ⟨w.heap.size, 1, none⟩ = some cv := m1.cell (by go_simp)
    have Hm1 : Hid (More w w1) := ((More.refl _).alloc _ _).trans m1
    have b5 : w.heap.size < w1.heap.size := by have := m1.size; simp at this; omega
    clear m1
    go_wp2_with (fail)
    refine (H.out.2 _ (Hm1.out.alloc _ _)).mono ?_
    rintro e w2 ⟨rfl, m2⟩
    have s0 : w2.cell? ⟨w1.heap.size, 0, none⟩ = some (.int .i64 0) := m2.cell (by go_simp)
    have s1 : w2.cell? ⟨w1.heap.size, 1, none⟩ = some (.int .i64 0) := m2.cell (by go_simp)
    have s2 : w2.cell? ⟨w1.heap.size, 2, none⟩ = some (.int .i64 0) := m2.cell (by go_simp)
    have s3 : w2.cell? ⟨w1.heap.size, 3, none⟩ = some (.slice none 0 0) := m2.cell (by go_simp)
    have s4 : w2.cell? ⟨w1.heap.size, 4, none⟩ = some (.slice none 0 0) := m2.cell (by go_simp)
    have Hm2 : Hid (More w w2) := (Hm1.out.alloc _ _).trans m2
    clear m2 e0 e1
    go_wp2_with (fail)
    refine (ref_same _ _ _ _ _ (shown_none _) (shown_none _) rfl rfl rfl rfl ⟨rfl, fun _ _ => rfl, fun _ _ _ _ => rfl⟩).mono ?_
    rintro e w3 ⟨rfl, m3⟩
    have Hm3 : Hid (More w w3) := Hm2.out.trans m3
    clear m3
    go_wp2
    go_ret
    exact ⟨rfl, Hm3.out⟩

set_option maxHeartbeats 1000000 in
theorem bad2 (fuel : Int) (rv cv mv sv : Value) (w : World) (hs : ¬ 4000 < fuel)
    (hrun : ∀ w1 : World, More w w1 → Calls Try.prog 28 #[.agg #[rv, cv], mv, sv, .int .i64 fuel] w1 fun e w' => e = .returned (.tuple #[.agg #[.int .i64 0, .int .i64 0, .int .i64 0, .slice none 0 0, .slice none 0 0], .int .i64 3]) ∧ More w1 w')
    (hwr : ∀ w1 : World, More w w1 → Calls Try.prog 24 #[.agg #[rv, cv], mv, .int .i64 fuel] w1 fun e w' => e = .returned (.int .i64 0) ∧ More w1 w')
    (hsc : ∀ w1 : World, More w w1 → Calls Try.prog 29 #[sv] w1 fun e w' => e = .returned (.bool false) ∧ w' = w1) :
    Calls Try.prog 10 #[.agg #[rv, cv], mv, sv, .int .i64 fuel] w fun e w' => e = .returned (.bool true) ∧ More w w' := by
  have H := hid_of' (And.intro hrun (And.intro hwr hsc))
  clear hrun hwr hsc
  have d4 : decide (4000 < fuel) = false := by simp; omega
  clear hs
  go_enter Try.func10, Try.ntmps10
  go_wp2_with (fail)
  refine (H.out.1 _ ((More.refl _).alloc _ _)).mono ?_
  rintro e w1 ⟨rfl, m1⟩
  have e0 : w1.cell? ⟨w.heap.size, 0, none⟩ = some rv := m1.cell (by go_simp)
  have e1 : w1.cell? ⟨w.heap.size, 1, none⟩ = some cv := m1.cell (by go_simp)
  have Hm1 : Hid (More w w1) := ((More.refl _).alloc _ _).trans m1
  have b5 : w.heap.size < w1.heap.size := by have := m1.size; simp at this; omega
  clear m1
  go_wp2_with (fail)
  refine (H.out.2.1 _ (Hm1.out.alloc _ _)).mono ?_
  rintro e w2 ⟨rfl, m2⟩
  have s0 : w2.cell? ⟨w1.heap.size, 0, none⟩ = some (.int .i64 0) := m2.cell (by go_simp)
  have s1 : w2.cell? ⟨w1.heap.size, 1, none⟩ = some (.int .i64 0) := m2.cell (by go_simp)
  have s2 : w2.cell? ⟨w1.heap.size, 2, none⟩ = some (.int .i64 0) := m2.cell (by go_simp)
  have s3 : w2.cell? ⟨w1.heap.size, 3, none⟩ = some (.slice none 0 0) := m2.cell (by go_simp)
  have s4 : w2.cell? ⟨w1.heap.size, 4, none⟩ = some (.slice none 0 0) := m2.cell (by go_simp)
  have Hm2 : Hid (More w w2) := (Hm1.out.alloc _ _).trans m2
  clear m2 e0 e1
  go_wp2_with (fail)
  refine (H.out.2.2 _ Hm2.out).mono ?_
  rintro e w2' ⟨rfl, rfl⟩
  go_wp2_with (fail)
  refine (ref_same _ _ _ _ _ (shown_none _) (shown_none _) rfl rfl rfl rfl ⟨rfl, fun _ _ => rfl, fun _ _ _ _ => rfl⟩).mono ?_
  rintro e w3 ⟨rfl, m3⟩
  have Hm3 : Hid (More w w3) := Hm2.out.trans m3
  clear m3
  go_wp2
  go_ret
  exact ⟨rfl, Hm3.out⟩

set_option maxHeartbeats 2000000 in
theorem good (f : Nat) (rv cv mv sv : Value) (R : ShF) (M : Mem) (w : World) (f0 : f ≤ 4000)
    (hrun : ∀ w1 : World, More w w1 → Calls Try.prog 28 #[.agg #[rv, cv], mv, sv, .int .i64 f] w1 fun e w' => ∃ (v : Value) (mm : Mem), e = .returned (.tuple #[v, .int .i64 0]) ∧ ShownAt w' v ⟨R.fin, R.val, R.steps, R.seen, mm⟩ ∧ mm.Like M ∧ More w1 w')
    (hwr : ∀ w1 : World, More w w1 → Calls Try.prog 24 #[.agg #[rv, cv], mv, .int .i64 f] w1 fun e w' => e = .returned (.int .i64 0) ∧ More w1 w')
    (hsc : ∀ w1 : World, More w w1 → Calls Try.prog 29 #[sv] w1 fun e w' => e = .returned (.bool true) ∧ w' = w1)
    (hpl : ∀ w1 : World, More w w1 → Calls Try.prog 30 #[.agg #[rv, cv], mv, sv, .int .i64 f] w1 fun e w' => ∃ (v : Value) (mm : Mem), e = .returned v ∧ ShownAt w' v ⟨R.fin, R.val, R.steps, R.seen, mm⟩ ∧ M.Like mm ∧ More w1 w') :
    Calls Try.prog 10 #[.agg #[rv, cv], mv, sv, .int .i64 f] w fun e w' => e = .returned (.bool true) ∧ More w w' := by
  have H := hid_of' (And.intro hrun (And.intro hwr (And.intro hpl hsc)))
  have h4 : ¬ 4000 < (f : Int) := by omega
  have d4 : decide (4000 < (f : Int)) = false := by simp; omega
  clear hrun hwr hpl hsc f0
  go_enter Try.func10, Try.ntmps10
  go_wp2_with (fail)
  refine (H.out.1 _ ((More.refl _).alloc _ _)).mono ?_
  rintro e w1 ⟨v, mm, rfl, hs1, hl1, m1⟩
  have e0 : w1.cell? ⟨w.heap.size, 0, none⟩ = some rv := m1.cell (by go_simp)
  have e1 : w1.cell? ⟨w.heap.size, 1, none⟩ = some cv := m1.cell (by go_simp)
  have Hm1 : Hid (More w w1) := ((More.refl _).alloc _ _).trans m1
  have HS1 := hid_of' (And.intro hs1 hl1)
  have b5 : w.heap.size < w1.heap.size := by have := m1.size; simp at this; omega
  obtain ⟨sv, lm, rfl, hse, _⟩ := hs1
  obtain ⟨sa, sb, so, sc, rfl, _⟩ := hse
  obtain ⟨la, hla⟩ : ∃ la, lm.ma = la := ⟨_, rfl⟩
  obtain ⟨lc, hlc⟩ : ∃ lc, lm.mc = lc := ⟨_, rfl⟩
  dsimp only at HS1 ⊢
  rw [hla, hlc] at HS1 ⊢
  clear m1 hl1 hla hlc
  go_wp2_with (fail)
  refine (H.out.2.1 _ (Hm1.out.alloc _ _)).mono ?_
  rintro e w2 ⟨rfl, m2⟩
  have s0 : w2.cell? ⟨w1.heap.size, 0, none⟩ = some (.int .i64 R.fin) := m2.cell (by go_simp)
  have s1 : w2.cell? ⟨w1.heap.size, 1, none⟩ = some (.int .i64 R.val) := m2.cell (by go_simp)
  have s2 : w2.cell? ⟨w1.heap.size, 2, none⟩ = some (.int .i64 R.steps) := m2.cell (by go_simp)
  have s3 : w2.cell? ⟨w1.heap.size, 3, none⟩ = some (.slice sa R.seen.length sc) := m2.cell (by go_simp)
  have s4 : w2.cell? ⟨w1.heap.size, 4, none⟩ = some (.slice la mm.ml lc) := m2.cell (by go_simp)
  replace e0 : w2.cell? ⟨w.heap.size, 0, none⟩ = some rv := m2.cell (by go_simp)
  replace e1 : w2.cell? ⟨w.heap.size, 1, none⟩ = some cv := m2.cell (by go_simp)
  have Hm2 : Hid (More w w2) := (Hm1.out.alloc _ _).trans m2
  have Hm12 : Hid (More w1 w2) := ((More.refl _).alloc _ _).trans m2
  clear m2
  go_wp2_with (fail)
  refine (H.out.2.2.2 _ Hm2.out).mono ?_
  rintro e w2' ⟨rfl, rfl⟩
  go_wp2_with (fail)
  refine (H.out.2.2.1 _ Hm2.out).mono ?_
  rintro e w3 ⟨v3, mm3, rfl, hs3, hl3, m3⟩
  have HS3 := hid_of' (And.intro hs3 hl3)
  obtain ⟨sv3, lm3, rfl, hse3, _⟩ := hs3
  obtain ⟨sa3, sb3, so3, sc3, rfl, _⟩ := hse3
  obtain ⟨la3, hla3⟩ : ∃ la, lm3.ma = la := ⟨_, rfl⟩
  obtain ⟨lc3, hlc3⟩ : ∃ lc, lm3.mc = lc := ⟨_, rfl⟩
  dsimp only at HS3 ⊢
  rw [hla3, hlc3] at HS3 ⊢
  replace s0 := m3.cell s0
  replace s1 := m3.cell s1
  replace s2 := m3.cell s2
  replace s3 := m3.cell s3
  replace s4 := m3.cell s4
  have b6 : w1.heap.size < w3.heap.size := cell_block s0
  have Hm3 : Hid (More w w3) := Hm2.out.trans m3
  have Hm13 : Hid (More w1 w3) := Hm12.out.trans m3
  clear m3 e0 e1 hla3 hlc3 hl3
  go_wp2_with (fail)
  refine (ref_same _ _ ⟨R.fin, R.val, R.steps, R.seen, mm⟩ ⟨R.fin, R.val, R.steps, R.seen, mm3⟩ _ ((HS1.out.1.more Hm13.out).more ((More.refl _).alloc _ _)) (HS3.out.1.more ((More.refl _).alloc _ _)) rfl rfl rfl rfl (like_trans4 HS1.out.2 HS3.out.2)).mono ?_
  rintro e w4 ⟨rfl, m4⟩
  have Hm4 : Hid (More w w4) := (Hm3.out.alloc _ _).trans m4
  clear m4
  go_wp2
  go_ret
  exact ⟨rfl, Hm4.out⟩

theorem walk (p : Prg) (l : Loc) (m : Mem) (ml : MLoc) (sa : Option Addr) (sb so sn sc : Nat) (L : List Int) (fuel : Int) (w : World) (hp : PIn w p l) (hfit : p.Fit) (hm : MRaw w m ml) (hwd : ∀ j, j < m.ml → ∀ i, i < m.len j → B64 (m.wd j i)) (hL : L.length = sn) (hcap : sn ≤ sc) (hsin : SIn w sa sb so L) :
    Calls Try.prog 10 #[.agg #[.slice l.ra p.rl l.rc, .slice l.ca p.cl l.cc], .slice ml.ma m.ml ml.mc, .slice sa sn sc, .int .i64 fuel] w fun e w' => e = .returned (.bool true) ∧ More w w' := by
  by_cases hs : 4000 < fuel ∧ fuel ≤ 40000
  · exact skip fuel _ _ _ _ w hs.1 hs.2
  have dO : Decidable (p.Ok 8000 10) := Classical.propDecidable _
  have dF : Decidable (FitsOk p.rl p.log m.ml m.len) := Classical.propDecidable _
  have wrong : ∀ (R : Int), wrongI (p.Ok 8000 10) (FitsOk p.rl p.log m.ml m.len) fuel = R → ∀ w1, More w w1 → Calls Try.prog 24 #[.agg #[.slice l.ra p.rl l.rc, .slice l.ca p.cl l.cc], .slice ml.ma m.ml ml.mc, .int .i64 fuel] w1 fun e w' => e = .returned (.int .i64 R) ∧ More w1 w' :=
    fun R hR w1 m1 => ref_wrong p l ml.ma m.ml ml.mc ml.mb ml.mo ml.A m.len ml.C fuel w1 (hp.more m1) hm.hm (hm.lists.more m1) R hR
  have script : ∀ (r : Bool), (r = true ↔ ScOk L) → ∀ w1, More w w1 → Calls Try.prog 29 #[.slice sa sn sc] w1 fun e w' => e = .returned (.bool r) ∧ w' = w1 := fun r hr w1 m1 => by
    refine (ref_script sa sb so sn sc L hL w1 (hsin.more m1)).mono ?_
    rintro e w' ⟨r2, rfl, h2, rfl⟩
    have : r2 = r := by
      cases r <;> cases r2
      · rfl
      · exact absurd (hr.2 (h2.1 rfl)) (by simp)
      · exact absurd (h2.2 (hr.1 rfl)) (by simp)
      · rfl
    rw [this]
    exact ⟨rfl, rfl⟩
  by_cases hok : p.Ok 8000 10 ∧ FitsOk p.rl p.log m.ml m.len
  · by_cases hf : fuel < 0 ∨ 40000 < fuel
    · refine bad fuel 3 _ _ _ _ w (by decide) hs (fun w1 m1 => ?_) (wrong 3 (by unfold wrongI; rw [if_neg (by simp [hok.1, hok.2]), if_pos hf]))
      exact spec_run_wrong p l ml.ma m.ml ml.mc _ fuel 3 w1 (by decide) (fun w2 m2 => seq_new_range p l ml.ma m.ml ml.mc ml.mb ml.mo ml.A m.len ml.C fuel w2 ((hp.more m1).more m2) hm.hm ((hm.lists.more m1).more m2) hok.1 hok.2 hf)
    · obtain ⟨f, rfl⟩ : ∃ f : Nat, fuel = f := ⟨fuel.toNat, by omega⟩
      have hpos : ∀ i, i < m.ml → 0 < m.len i ∧ m.len i ≤ 64 := fun i hi => by
        have h0 := hok.2.2.1
        have h1 := hok.2.2.2 i (by omega)
        have h2 := hok.1.1.2 i (by omega)
        have h3 := two_pow_le (k := (p.log i).toNat) (by omega)
        unfold wordsI at h1
        omega
      have h6 : m.ml ≤ 6 := by have h0 := hok.2.2.1; have := hok.1.1.1; omega
      have hin := hm.in_ h6 (fun i hi => (hpos i hi).2)
      have hn : ∀ i, i < p.cl → B64 (p.ins i).n := fun i hi => (hfit.ins i hi).2.2.2.2
      have w0 := wrong 0 (by unfold wrongI; rw [if_neg (by simp [hok.1, hok.2]), if_neg hf])
      by_cases hsok : ScOk L
      · refine good f _ _ _ _ (playS p (flatM m) L f) ⟨m.ml, m.len, fun j i => (playS p (flatM m) L f).wd (baseN m.len j + i)⟩ w (by omega) (fun w1 m1 => ?_) w0 (script true (by simp [hsok])) (fun w1 m1 => ?_)
        · refine (spec_run_ok p l m ml sa sb so sn sc L f w1 (hp.more m1) (hin.more m1) hok.1 hn hok.2 hwd (by omega) hL hcap (hsin.more m1) hsok).mono ?_
          rintro e w' ⟨v, mm, rfl, hsh, q1, q2, q3, m2⟩
          exact ⟨v, mm, rfl, hsh, ⟨q1, fun i _ => q2 i, fun i hi j hj => q3 i (by rw [← q1]; exact hi) j (by rw [← q2]; exact hj)⟩, m2⟩
        · refine (r4_play p l m ml sa sb so sn sc L f w1 (hp.more m1) (hin.more m1) hok.1 hn hok.2 hwd (by omega) hL hcap (hsin.more m1) hsok).mono ?_
          rintro e w' ⟨v, mm, rfl, hsh, q1, q2, q3, m2⟩
          exact ⟨v, mm, rfl, hsh, ⟨q1.symm, fun i _ => (q2 i).symm, fun i hi j hj => (q3 i hi j hj).symm⟩, m2⟩
      · refine bad2 f _ _ _ _ w (by omega) (fun w1 m1 => ?_) w0 (script false (by simp [hsok]))
        refine spec_run_script p l ml.ma m.ml ml.mc sa sb so sn sc L f w1 hL (hsin.more m1) hsok (fun w2 m2 => ?_)
        refine (seq_new p l m ml f w2 ((hp.more m1).more m2) ((hin.more m1).more m2) hok.1 hok.2 hpos (by omega) (by omega)).mono ?_
        rintro e w' ⟨c, W, S, rfl, mcc, hS, hW, m3⟩
        exact ⟨c, _, _, _, rfl, rfl, rfl, rfl, rfl, mcc, rfl, m3⟩
  · refine bad fuel 2 _ _ _ _ w (by decide) hs (fun w1 m1 => ?_) (wrong 2 (by unfold wrongI; rw [if_pos (by rcases Classical.em (p.Ok 8000 10) with h | h; exact .inr (fun h2 => hok ⟨h, h2⟩); exact .inl h)]))
    exact spec_run_wrong p l ml.ma m.ml ml.mc _ fuel 2 w1 (by decide) (fun w2 m2 => seq_new_form p l ml.ma m.ml ml.mc ml.mb ml.mo ml.A m.len ml.C fuel w2 ((hp.more m1).more m2) hm.hm ((hm.lists.more m1).more m2) hok)
/-! ### THE ROW's STEP -/
set_option maxRecDepth 100000 in
theorem lifted (os : Os) (started : os.Started) (H : Type) (enc : TypeId × Value → H) :
    ReturnsInHanded {} Try.checked os 10 .any (Rows.specRunsSpec.pre6 enc Try.prog Try.f10 Rows.specRunsRow.domain false) (Rows.specRunsSpec.post enc Try.prog Try.f10 false true false false) := by
  refine returnsInHanded_of_change (C := Try.checked) own started (by kernel_rfl) Try.func10
    (ChangeSpec.witness6 (enc := enc) (C := Try.checked) false ⟨#[], #[.agg #[.slice none 0 0, .slice none 0 0], .slice none 0 0, .slice none 0 0, .int .i64 0], []⟩ 8 (by kernel_rfl) (by kernel_rfl) (by kernel_rfl) (by kernel_rfl)) ?_
  intro W base args ds gs before hval0 hW hcnd _
  have hval : ∀ (j : Nat) t v, Try.f10.params[j]? = some t → args[j]? = some v → Value.okWide Try.prog W .any base t v := hval0
  have hW' := hW
  obtain ⟨p, q, hA0, hV, rfl, hfz, hnd⟩ := hW
  have hA : DataW.TrodAll enc Try.prog W 0 (fun _ => true) true Try.f10.params.toList args.toList ds p := hA0
  rw [Try.params10] at hA hval
  obtain ⟨v0, vs0, d0, ds0, p0, q0, hargs, rfl, rfl, h0, r0⟩ := trodAll_cons hA
  obtain ⟨v1, vs1, d1, ds1, p1, q1, rfl, rfl, rfl, h1, r1⟩ := trodAll_cons r0
  obtain ⟨v2, vs2, d2, ds2, p2, q2, rfl, rfl, rfl, h2, r2⟩ := trodAll_cons r1
  obtain ⟨v3, vs3, d3, ds3, p3, q3, rfl, rfl, rfl, h3, r3⟩ := trodAll_cons r2
  obtain ⟨rfl, rfl, rfl⟩ := trodAll_nil r3
  obtain rfl : args = #[v0, v1, v2, v3] := by cases args; simp_all
  obtain ⟨rfl, rfl⟩ := trodVars_none hV
  have lt0 : ∀ x ∈ p0, x.block < W.heap.size := by obtain ⟨m, hm⟩ := h0; exact DataW.trod_lt m _ _ _ hm
  have lt1 : ∀ x ∈ p1, x.block < W.heap.size := by obtain ⟨m, hm⟩ := h1; exact DataW.trod_lt m _ _ _ hm
  have lt2 : ∀ x ∈ p2, x.block < W.heap.size := by obtain ⟨m, hm⟩ := h2; exact DataW.trod_lt m _ _ _ hm
  have lt3 : ∀ x ∈ p3, x.block < W.heap.size := by obtain ⟨m, hm⟩ := h3; exact DataW.trod_lt m _ _ _ hm
  obtain ⟨P0, l0, rfl, hin0, hfit0⟩ := open_prog (hval 0 29 v0 rfl rfl) h0
  obtain ⟨m1, ml1, rfl, hm1, hwd1⟩ := open_memw (hval 1 30 v1 rfl rfl) h1
  obtain ⟨sa2, sb2, so2, sn2, sc2, L2, rfl, hL2, hcap2, hsin2⟩ := open_script (hval 2 47 v2 rfl rfl) h2
  obtain ⟨n3, rfl, _, _, hwf3⟩ := open_int Try.underlying3 (hval 3 3 v3 rfl rfl) h3
  clear hA0 hval0
  refine (walk P0 l0 m1 ml1 sa2 sb2 so2 sn2 sc2 L2 n3 W hin0 hfit0 hm1 hwd1 hL2 hcap2 hsin2).mono fun e W' ⟨he, bel⟩ => ?_
  subst he
  exact ⟨_, rfl, _, _, _, [], _, [], hW', trodAll_mk1 (shut_bool Try.underlying4 _), (trodAll_cons_mk (Below.trod laidOut (by kernel_rfl) (of_decide_eq_true (by kernel_rfl)) h0 bel lt0) (trodAll_cons_mk (Below.trod laidOut (by kernel_rfl) (of_decide_eq_true (by kernel_rfl)) h1 bel lt1) (trodAll_cons_mk (Below.trod laidOut (by kernel_rfl) (of_decide_eq_true (by kernel_rfl)) h2 bel lt2) (trodAll_cons_mk (Below.trod laidOut (by kernel_rfl) (of_decide_eq_true (by kernel_rfl)) h3 bel lt3) trodAll_mk0)))), rfl, Below.frame bel _, fun h => by cases h⟩

theorem over : Rows.specRunsRow.holds Try.pinned (OpenSpec.ofChange Rows.specRunsSpec) :=
  OpenClaim.holds_of_wide 10 Try.f10 rfl rfl rfl rfl rfl rfl rfl ⟨rfl, rfl, rfl, rfl, rfl⟩ rfl rfl rfl rfl rfl (by kernel_rfl) Try.func10 (by kernel_rfl)
    (of_decide_eq_true (by kernel_rfl)) (by unfold Func.isWrapper; first | (rw [if_pos (by decide +kernel)]; kernel_rfl) | (rw [if_neg (by decide +kernel)]; exact ⟨rfl, rfl⟩))
    (fun os started H enc _ => lifted os started H enc)

end specRuns

/-- The given statement. -/
theorem specRuns_holds : Rows.SpecRunsSaid :=
  specRuns.over
#print axioms specRuns_holds
end Go.Proofs.Ytbfhchhggkpbdaa
