/-
  Proved: for every program, every memory, every number of zeros and every fuel, SpecPlain returns true (up to 4000 steps it runs with a script of so many zeros as without steps ahead of time) and leaves its arguments as they were; no conditions.
-/
import Derived.Test.YtbfhchhggkpbdaaRows
import Derived.WalkKit
import Derived.ProofKit
import Derived.OpenShut
import Derived.Test.YtbfhchhggkpbdaaJoined6
import Derived.Test.YtbfhchhggkpbdaaJoined3
namespace Go.Proofs.Ytbfhchhggkpbdaa
open Go.ChangeShapes Go.WideShapes Go.ChangeAt Go.RowKit Go.Deep
set_option linter.unusedVariables false
set_option linter.unusedSimpArgs false
set_option maxRecDepth 8000

namespace specPlain

theorem own : ownKnob Try.prog.godebug = none := by kernel_rfl
theorem laidOut : laidOutB Try.prog = true := by kernel_rfl

theorem skip (z fuel : Int) (v1 rv cv : Value) (w : World) (h1 : 4000 < fuel) :
    Calls Try.prog 11 #[.agg #[rv, cv], v1, .int .u8 z, .int .i64 fuel] w fun e w' => e = .returned (.bool true) ∧ More w w' := by
  go_enter Try.func11, Try.ntmps11
  go_wp2
  go_ret
  exact ⟨rfl, (More.refl _).alloc _ _⟩

theorem shown_none (w : World) : ShownAt w (.agg #[.int .i64 0, .int .i64 0, .int .i64 0, .slice none 0 0, .slice none 0 0]) ⟨0, 0, 0, [], ⟨0, fun _ => 0, fun _ _ => 0⟩⟩ :=
  ⟨.slice none 0 0, ⟨none, 0, 0, 0, fun _ => none, fun _ => 0, fun _ => 0, fun _ => 0⟩, rfl, ⟨none, 0, 0, 0, rfl, fun h => absurd h (Nat.not_lt_zero _), fun i s h => by simp at h, by simp⟩,
    ⟨fun h => absurd h (Nat.not_lt_zero _), fun i hi => absurd hi (Nat.not_lt_zero _), fun i hi => absurd hi (Nat.not_lt_zero _), fun i hi => absurd hi (Nat.not_lt_zero _), by dsimp only; omega, fun i hi => absurd hi (Nat.not_lt_zero _)⟩⟩

theorem info3 : (Try.prog.info? 3).map (fun i => (i.zero, i.size, i.bytes)) = some (some (.int .i64 0), 1, 8) := by kernel_rfl
theorem madeZero_at (n j : Nat) (h : j < n) : (madeCells #[.int .i64 0] n)[j]? = some (.int .i64 0) := by
  unfold madeCells
  simp [h, Nat.mod_one]
theorem sin_made (w : World) (z : Nat) : SIn (w.alloc (.cells (madeCells #[.int .i64 0] z) 3)) (some ⟨w.heap.size, 0, none⟩) w.heap.size 0 (List.replicate z 0) := by
  refine ⟨fun _ => rfl, fun j c hc => ?_⟩
  have hj : j < z := by have := (List.getElem?_eq_some_iff.1 hc).1; simpa using this
  have hc2 : c = 0 := by rw [List.getElem?_replicate, if_pos hj] at hc; exact (Option.some.inj hc).symm
  subst hc2
  rw [Nat.zero_add, cell_of_row _ _ _ _ _ _ (heap_alloc_last _ _)]
  exact madeZero_at z j hj

set_option maxHeartbeats 1000000 in
theorem bad (z : Nat) (fuel code : Int) (rv cv mv : Value) (w : World) (hz : z ≤ 255) (hc : ¬ code = 0) (hs : ¬ 4000 < fuel)
    (hA : ∀ w1 : World, More w w1 → Calls Try.prog 23 #[.agg #[rv, cv], mv, .int .i64 fuel] w1 fun e w' => e = .returned (.tuple #[.agg #[.int .i64 0, .int .i64 0, .int .i64 0, .slice none 0 0, .slice none 0 0], .int .i64 code]) ∧ More w1 w')
    (hB : ∀ (sv : Value) (w1 : World), More w w1 → Calls Try.prog 28 #[.agg #[rv, cv], mv, sv, .int .i64 fuel] w1 fun e w' => e = .returned (.tuple #[.agg #[.int .i64 0, .int .i64 0, .int .i64 0, .slice none 0 0, .slice none 0 0], .int .i64 code]) ∧ More w1 w') :
    Calls Try.prog 11 #[.agg #[rv, cv], mv, .int .u8 z, .int .i64 fuel] w fun e w' => e = .returned (.bool true) ∧ More w w' := by
  have H := hid_of (And.intro hA hB)
  have d4 : decide (4000 < fuel) = false := by simp; omega
  have hzw : wrap64 (z : Int) = (z : Int) := by unfold wrap64; omega
  have hwr := wrapEq
  have hmk := run_make_row' (P := Try.prog) 47 3 (.int .i64 0) 8 Try.underlying47 info3 rfl .i64 .i64 z (by omega) (by omega)
  have hc' : (code == 0) = false := by simp [hc]
  clear hA hB
  go_enter Try.func11, Try.ntmps11
  go_wp2_with (fail)
  refine (H.out.1 _ (((More.refl _).alloc _ _).alloc _ _)).mono ?_
  rintro e w1 ⟨rfl, m1⟩
  have e0 : w1.cell? ⟨w.heap.size, 0, none⟩ = some rv := m1.cell (by go_simp)
  have e1 : w1.cell? ⟨w.heap.size, 1, none⟩ = some cv := m1.cell (by go_simp)
  have Hm1 : Hid (More w w1) := (((More.refl _).alloc _ _).alloc _ _).trans m1
  have b5 : w.heap.size < w1.heap.size := by have := m1.size; simp at this; omega
  clear m1
  go_wp2_with (fail)
  refine (H.out.2 _ _ (Hm1.out.alloc _ _)).mono ?_
  rintro e w2 ⟨rfl, m2⟩
  have s0 : w2.cell? ⟨w1.heap.size, 0, none⟩ = some (.int .i64 0) := m2.cell (by go_simp)
  have s1 : w2.cell? ⟨w1.heap.size, 1, none⟩ = some (.int .i64 0) := m2.cell (by go_simp)
  have s2 : w2.cell? ⟨w1.heap.size, 2, none⟩ = some (.int .i64 0) := m2.cell (by go_simp)
  have s3 : w2.cell? ⟨w1.heap.size, 3, none⟩ = some (.slice none 0 0) := m2.cell (by go_simp)
  have s4 : w2.cell? ⟨w1.heap.size, 4, none⟩ = some (.slice none 0 0) := m2.cell (by go_simp)
  have Hm2 : Hid (More w w2) := (Hm1.out.alloc _ _).trans m2
  have b6 : w1.heap.size < w2.heap.size := by have := m2.size; simp at this; omega
  clear m2 e0 e1
  go_wp2_with (fail)
  refine (ref_same _ _ _ _ _ (shown_none _) (shown_none _) rfl rfl rfl rfl ⟨rfl, fun _ _ => rfl, fun _ _ _ _ => rfl⟩).mono ?_
  rintro e w3 ⟨rfl, m3⟩
  have Hm3 : Hid (More w w3) := (Hm2.out.alloc _ _).trans m3
  clear m3
  go_wp2
  go_ret
  exact ⟨rfl, Hm3.out⟩

/-- What Run tells. -/
def Told (w : World) (A : Sh) (e : Ending) (w' : World) : Prop :=
  ∃ (sa : Option Addr) (sc : Nat) (la : Option Addr) (lc : Nat) (mm : Mem), e = .returned (.tuple #[.agg #[.int .i64 A.fin, .int .i64 A.val, .int .i64 A.steps, .slice sa A.seen.length sc, .slice la mm.ml lc], .int .i64 0]) ∧
    ShownAt w' (.agg #[.int .i64 A.fin, .int .i64 A.val, .int .i64 A.steps, .slice sa A.seen.length sc, .slice la mm.ml lc]) ⟨A.fin, A.val, A.steps, A.seen, mm⟩ ∧ mm.Like A.mem ∧ A.seen.length < 4611686018427387904 ∧ More w w'
theorem told {w : World} {A : Sh} {e : Ending} {w' : World} (h : ∃ (v : Value) (mm : Mem), e = .returned (.tuple #[v, .int .i64 0]) ∧ ShownAt w' v ⟨A.fin, A.val, A.steps, A.seen, mm⟩ ∧ mm.Like A.mem ∧ More w w') : Told w A e w' := by
  obtain ⟨v, mm, rfl, hs, hl, m⟩ := h
  have hs' := hs
  obtain ⟨sv, lm, rfl, hse, _⟩ := hs
  obtain ⟨sa, sb, so, sc, rfl, _, _, hlt⟩ := hse
  exact ⟨sa, sc, lm.ma, lm.mc, mm, rfl, hs', hl, hlt, m⟩
theorem like_trans {x y z : Mem} (h : x.Like y) (k : y.Like z) : x.Like z :=
  ⟨h.ml.trans k.ml, fun i hi => (h.len i hi).trans (k.len i (by rw [← h.ml]; exact hi)), fun i hi j hj => (h.wd i hi j hj).trans (k.wd i (by rw [← h.ml]; exact hi) j (by rw [← h.len i hi]; exact hj))⟩
theorem like_symm {x y : Mem} (h : x.Like y) : y.Like x :=
  ⟨h.ml.symm, fun i hi => (h.len i (by rw [h.ml]; exact hi)).symm, fun i hi j hj => (h.wd i (by rw [h.ml]; exact hi) j (by rw [h.len i (by rw [h.ml]; exact hi)]; exact hj)).symm⟩

set_option maxHeartbeats 2000000 in
theorem good (z f : Nat) (rv cv mv : Value) (A : Sh) (w : World) (hz : z ≤ 255) (hf : f ≤ 4000) (h0 : 0 ≤ A.fin ∧ A.fin ≤ 2) (h1 : 0 < f → 0 < A.seen.length)
    (hA : ∀ w1 : World, More w w1 → Calls Try.prog 23 #[.agg #[rv, cv], mv, .int .i64 f] w1 (Told w1 A))
    (hB : ∀ (sa : Option Addr) (sb so cap : Nat) (w1 : World), More w w1 → z ≤ cap → SIn w1 sa sb so (List.replicate z 0) → Calls Try.prog 28 #[.agg #[rv, cv], mv, .slice sa z cap, .int .i64 f] w1 (Told w1 A)) :
    Calls Try.prog 11 #[.agg #[rv, cv], mv, .int .u8 z, .int .i64 f] w fun e w' => e = .returned (.bool true) ∧ More w w' := by
  have H := hid_of (And.intro hA hB)
  have d4 : decide (4000 < (f : Int)) = false := by simp; omega
  have n4 : ¬ 4000 < (f : Int) := by omega
  have hzw : wrap64 (z : Int) = (z : Int) := by unfold wrap64; omega
  have hwr := wrapEq
  have hmk := run_make_row' (P := Try.prog) 47 3 (.int .i64 0) 8 Try.underlying47 info3 rfl .i64 .i64 z (by omega) (by omega)
  have H01 := hid_of (And.intro h0 h1)
  clear hA hB h0 h1
  go_enter Try.func11, Try.ntmps11
  go_wp2_with (fail)
  refine (H.out.1 _ (((More.refl _).alloc _ _).alloc _ _)).mono ?_
  rintro e w1 ⟨sa, sc, la, lc, mm, rfl, hs1, hl1, hlt, m1⟩
  have e0 : w1.cell? ⟨w.heap.size, 0, none⟩ = some rv := m1.cell (by go_simp)
  have e1 : w1.cell? ⟨w.heap.size, 1, none⟩ = some cv := m1.cell (by go_simp)
  have Hm1 : Hid (More w w1) := (((More.refl _).alloc _ _).alloc _ _).trans m1
  have hsin := (sin_made (w.alloc (.cells #[rv, cv] 29)) z).more m1
  have HS1 := hid_of (And.intro hs1 (And.intro hl1 (And.intro hlt hsin)))
  have b5 : w.heap.size < w1.heap.size := by have := m1.size; simp at this; omega
  clear m1 hs1 hl1 hlt hsin
  go_wp2_with (fail)
  refine (H.out.2 _ (w.heap.size + 1) 0 z _ (Hm1.out.alloc _ _) (Nat.le_refl _) (by have := HS1.out.2.2.2.more ((More.refl w1).alloc #[.int .i64 A.fin, .int .i64 A.val, .int .i64 A.steps, .slice sa A.seen.length sc, .slice la mm.ml lc] 37); simpa using this)).mono ?_
  rintro e w2 ⟨sa2, sc2, la2, lc2, mm2, rfl, hs2, hl2, hlt2, m2⟩
  have s0 : w2.cell? ⟨w1.heap.size, 0, none⟩ = some (.int .i64 A.fin) := m2.cell (by go_simp)
  have s1 : w2.cell? ⟨w1.heap.size, 1, none⟩ = some (.int .i64 A.val) := m2.cell (by go_simp)
  have s2 : w2.cell? ⟨w1.heap.size, 2, none⟩ = some (.int .i64 A.steps) := m2.cell (by go_simp)
  have s3 : w2.cell? ⟨w1.heap.size, 3, none⟩ = some (.slice sa A.seen.length sc) := m2.cell (by go_simp)
  have s4 : w2.cell? ⟨w1.heap.size, 4, none⟩ = some (.slice la mm.ml lc) := m2.cell (by go_simp)
  have Hm2 : Hid (More w w2) := (Hm1.out.alloc _ _).trans m2
  have b6 : w1.heap.size < w2.heap.size := by have := m2.size; simp at this; omega
  have HS12 := hid_of (And.intro (HS1.out.1.more (((More.refl _).alloc _ _).trans m2)) (And.intro hs2 (like_trans HS1.out.2.1 (like_symm hl2))))
  clear m2 e0 e1 hs2 hl2 hlt2
  obtain ⟨R, hR⟩ : ∃ R : Nat, A.seen.length = R := ⟨_, rfl⟩
  obtain ⟨F, hF⟩ : ∃ F : Int, A.fin = F := ⟨_, rfl⟩
  have HSame := hid_of (fun w3 (m3 : More w2 w3) => ref_same _ _ _ _ w3 (HS12.out.1.more m3) (HS12.out.2.1.more m3) rfl rfl rfl rfl HS12.out.2.2)
  have HR := hid_of (And.intro H01.out (And.intro HS1.out.2.2.1 (And.intro hR hF)))
  rw [hR] at s3 HSame ⊢
  rw [hF] at s0 HSame ⊢
  have r2 : (R : Int) + F < 9223372036854775807 := by have := HR.out; omega
  have r3 : wrap64 ((R : Int) + F) = (R : Int) + F := by unfold wrap64; have := HR.out; omega
  clear HS12 hR hF
  by_cases hf0 : f = 0
  · subst hf0
    go_wp2_with (fail)
    refine (HSame.out _ ((More.refl _).alloc _ _)).mono ?_
    rintro e w3 ⟨rfl, m3⟩
    have Hm3 : Hid (More w w3) := (Hm2.out.alloc _ _).trans m3
    clear m3
    go_wp2
    go_ret
    exact ⟨by simp, Hm3.out⟩
  · have f1 : ((f : Int) == 0) = false := by simp; omega
    have f2 : ¬ (f : Int) = 0 := by omega
    have r4 : 0 < (R : Int) + F := by have := HR.out; have := this.1.2 (by omega); omega
    go_wp2_with (fail)
    refine (HSame.out _ ((More.refl _).alloc _ _)).mono ?_
    rintro e w3 ⟨rfl, m3⟩
    have Hm3 : Hid (More w w3) := (Hm2.out.alloc _ _).trans m3
    replace s0 := (((More.refl _).alloc _ _).trans m3).cell s0
    replace s3 := (((More.refl _).alloc _ _).trans m3).cell s3
    clear m3
    go_wp2
    go_ret
    exact ⟨by simp, Hm3.out⟩

theorem walk (p : Prg) (l : Loc) (m : Mem) (ml : MLoc) (z fuel : Int) (w : World) (hz : 0 ≤ z ∧ z ≤ 255) (hp : PIn w p l) (hfit : p.Fit) (hm : MRaw w m ml) (hwd : ∀ j, j < m.ml → ∀ i, i < m.len j → B64 (m.wd j i)) :
    Calls Try.prog 11 #[.agg #[.slice l.ra p.rl l.rc, .slice l.ca p.cl l.cc], .slice ml.ma m.ml ml.mc, .int .u8 z, .int .i64 fuel] w fun e w' => e = .returned (.bool true) ∧ More w w' := by
  by_cases hs : 4000 < fuel
  · exact skip z fuel _ _ _ w hs
  obtain ⟨zn, rfl⟩ : ∃ zn : Nat, z = zn := ⟨z.toNat, by omega⟩
  by_cases hok : p.Ok 8000 10 ∧ FitsOk p.rl p.log m.ml m.len
  · by_cases hf : fuel < 0
    · refine bad zn fuel 3 _ _ _ w (by omega) (by decide) hs (fun w1 m1 => ?_) (fun sv w1 m1 => ?_)
      · exact seq_run_wrong p l ml.ma m.ml ml.mc fuel 3 w1 (by decide) (fun w2 m2 => seq_new_range p l ml.ma m.ml ml.mc ml.mb ml.mo ml.A m.len ml.C fuel w2 ((hp.more m1).more m2) hm.hm ((hm.lists.more m1).more m2) hok.1 hok.2 (.inl hf))
      · exact spec_run_wrong p l ml.ma m.ml ml.mc sv fuel 3 w1 (by decide) (fun w2 m2 => seq_new_range p l ml.ma m.ml ml.mc ml.mb ml.mo ml.A m.len ml.C fuel w2 ((hp.more m1).more m2) hm.hm ((hm.lists.more m1).more m2) hok.1 hok.2 (.inl hf))
    · obtain ⟨f, rfl⟩ : ∃ f : Nat, fuel = f := ⟨fuel.toNat, by omega⟩
      have hpos : ∀ i, i < m.ml → 0 < m.len i ∧ m.len i ≤ 64 := fun i hi => by
        have h0 := hok.2.2.1
        have h1 := hok.2.2.2 i (by omega)
        have h2 := hok.1.1.2 i (by omega)
        have h3 := two_pow_le (k := (p.log i).toNat) (by omega)
        unfold wordsI at h1
        omega
      have h6 : m.ml ≤ 6 := by have h0 := hok.2.2.1; have := hok.1.1.1; omega
      have hin := hm.in_ h6 (fun i hi => (hpos i hi).2)
      have hn : ∀ i, i < p.cl → B64 (p.ins i).n := fun i hi => (hfit.ins i hi).2.2.2.2
      have C : Ctx p m := ⟨hok.1.2.2.2, hok.2.2.1, h6, fun i hi => hok.2.2.2 i (by have := hok.2.2.1; omega), hpos⟩
      have hsok : ScOk (List.replicate zn (0 : Int)) := ⟨by simp; omega, fun j c hc => by rw [List.getElem?_replicate] at hc; split at hc; cases hc; omega; cases hc⟩
      have hpl := spec_plain C f 0 ⟨⟨0, fun _ => 0, flatM m, fun _ => []⟩, false, 0, ⟨0, fun _ => 0, flatM m, fun _ => []⟩, List.replicate zn 0, []⟩ ⟨0, fun _ => 0, m, []⟩ rfl ⟨rfl, rfl, fun c hc i hi => flatM_at m c i hc hi, rfl, fun _ => rfl⟩ (fun x hx => List.eq_of_mem_replicate hx) rfl
      obtain ⟨p1, p2, p3, p4, p5, p6, p7⟩ := hpl
      refine good zn f _ _ _ (playI p m f) w (by omega) (by omega) ?_ (fun h0 => ?_) (fun w1 m1 => ?_) (fun sa sb so cap w1 m1 hcap hsin => ?_)
      · show 0 ≤ (runI p f 0 _).fin ∧ _
        unfold playI
        rw [← p1]
        exact runS_fin p f 0 _
      · obtain ⟨g, rfl⟩ : ∃ g, f = g + 1 := ⟨f - 1, by omega⟩
        have := spec_shows p (flatM m) (List.replicate zn 0) g (by have := hok.1.2.1; omega)
        unfold playS at this
        rw [p4] at this
        exact List.length_pos_iff.2 this
      · exact (seq_run_ok p l m ml f w1 (hp.more m1) (hin.more m1) hok.1 hn hok.2 hwd (by omega)).mono fun e w' h => told h
      · refine (spec_run_ok p l m ml sa sb so zn cap (List.replicate zn 0) f w1 (hp.more m1) (hin.more m1) hok.1 hn hok.2 hwd (by omega) (by simp) hcap hsin hsok).mono ?_
        rintro e w' ⟨v, mm, rfl, hsh, q1, q2, q3, m2⟩
        refine told ⟨v, mm, rfl, ?_, ⟨?_, fun i hi => ?_, fun i hi j hj => ?_⟩, m2⟩
        · unfold playI
          rw [← p1, ← p2, ← p3, ← p4]
          exact hsh
        · rw [q1]; exact p5.symm
        · rw [q2]; exact (p6 i).symm
        · rw [q1] at hi
          rw [q2] at hj
          rw [q3 i hi j hj]
          exact p7 i hi j hj
  · refine bad zn fuel 2 _ _ _ w (by omega) (by decide) hs (fun w1 m1 => ?_) (fun sv w1 m1 => ?_)
    · exact seq_run_wrong p l ml.ma m.ml ml.mc fuel 2 w1 (by decide) (fun w2 m2 => seq_new_form p l ml.ma m.ml ml.mc ml.mb ml.mo ml.A m.len ml.C fuel w2 ((hp.more m1).more m2) hm.hm ((hm.lists.more m1).more m2) hok)
    · exact spec_run_wrong p l ml.ma m.ml ml.mc sv fuel 2 w1 (by decide) (fun w2 m2 => seq_new_form p l ml.ma m.ml ml.mc ml.mb ml.mo ml.A m.len ml.C fuel w2 ((hp.more m1).more m2) hm.hm ((hm.lists.more m1).more m2) hok)
/-! ### THE ROW's STEP -/
set_option maxRecDepth 100000 in
theorem lifted (os : Os) (started : os.Started) (H : Type) (enc : TypeId × Value → H) :
    ReturnsInHanded {} Try.checked os 11 .any (Rows.specPlainSpec.pre6 enc Try.prog Try.f11 Rows.specPlainRow.domain false) (Rows.specPlainSpec.post enc Try.prog Try.f11 false true false false) := by
  refine returnsInHanded_of_change (C := Try.checked) own started (by kernel_rfl) Try.func11
    (ChangeSpec.witness6 (enc := enc) (C := Try.checked) false ⟨#[], #[.agg #[.slice none 0 0, .slice none 0 0], .slice none 0 0, .int .u8 0, .int .i64 0], []⟩ 8 (by kernel_rfl) (by kernel_rfl) (by kernel_rfl) (by kernel_rfl)) ?_
  intro W base args ds gs before hval0 hW hcnd _
  have hval : ∀ (j : Nat) t v, Try.f11.params[j]? = some t → args[j]? = some v → Value.okWide Try.prog W .any base t v := hval0
  have hW' := hW
  obtain ⟨p, q, hA0, hV, rfl, hfz, hnd⟩ := hW
  have hA : DataW.TrodAll enc Try.prog W 0 (fun _ => true) true Try.f11.params.toList args.toList ds p := hA0
  rw [Try.params11] at hA hval
  obtain ⟨v0, vs0, d0, ds0, p0, q0, hargs, rfl, rfl, h0, r0⟩ := trodAll_cons hA
  obtain ⟨v1, vs1, d1, ds1, p1, q1, rfl, rfl, rfl, h1, r1⟩ := trodAll_cons r0
  obtain ⟨v2, vs2, d2, ds2, p2, q2, rfl, rfl, rfl, h2, r2⟩ := trodAll_cons r1
  obtain ⟨v3, vs3, d3, ds3, p3, q3, rfl, rfl, rfl, h3, r3⟩ := trodAll_cons r2
  obtain ⟨rfl, rfl, rfl⟩ := trodAll_nil r3
  obtain rfl : args = #[v0, v1, v2, v3] := by cases args; simp_all
  obtain ⟨rfl, rfl⟩ := trodVars_none hV
  have lt0 : ∀ x ∈ p0, x.block < W.heap.size := by obtain ⟨m, hm⟩ := h0; exact DataW.trod_lt m _ _ _ hm
  have lt1 : ∀ x ∈ p1, x.block < W.heap.size := by obtain ⟨m, hm⟩ := h1; exact DataW.trod_lt m _ _ _ hm
  have lt2 : ∀ x ∈ p2, x.block < W.heap.size := by obtain ⟨m, hm⟩ := h2; exact DataW.trod_lt m _ _ _ hm
  have lt3 : ∀ x ∈ p3, x.block < W.heap.size := by obtain ⟨m, hm⟩ := h3; exact DataW.trod_lt m _ _ _ hm
  obtain ⟨P0, l0, rfl, hin0, hfit0⟩ := open_prog (hval 0 29 v0 rfl rfl) h0
  obtain ⟨m1, ml1, rfl, hm1, hwd1⟩ := open_memw (hval 1 30 v1 rfl rfl) h1
  obtain ⟨n2, rfl, _, _, hwf2⟩ := open_int Try.underlying5 (hval 2 5 v2 rfl rfl) h2
  obtain ⟨n3, rfl, _, _, hwf3⟩ := open_int Try.underlying3 (hval 3 3 v3 rfl rfl) h3
  clear hA0 hval0
  refine (walk P0 l0 m1 ml1 n2 n3 W (by simp [Lit.wf, IntKind.min, IntKind.max, IntKind.signed, IntKind.bits] at hwf2; omega) hin0 hfit0 hm1 hwd1).mono fun e W' ⟨he, bel⟩ => ?_
  subst he
  exact ⟨_, rfl, _, _, _, [], _, [], hW', trodAll_mk1 (shut_bool Try.underlying4 _), (trodAll_cons_mk (Below.trod laidOut (by kernel_rfl) (of_decide_eq_true (by kernel_rfl)) h0 bel lt0) (trodAll_cons_mk (Below.trod laidOut (by kernel_rfl) (of_decide_eq_true (by kernel_rfl)) h1 bel lt1) (trodAll_cons_mk (Below.trod laidOut (by kernel_rfl) (of_decide_eq_true (by kernel_rfl)) h2 bel lt2) (trodAll_cons_mk (Below.trod laidOut (by kernel_rfl) (of_decide_eq_true (by kernel_rfl)) h3 bel lt3) trodAll_mk0)))), rfl, Below.frame bel _, fun h => by cases h⟩

theorem over : Rows.specPlainRow.holds Try.pinned (OpenSpec.ofChange Rows.specPlainSpec) :=
  OpenClaim.holds_of_wide 11 Try.f11 rfl rfl rfl rfl rfl rfl rfl ⟨rfl, rfl, rfl, rfl, rfl⟩ rfl rfl rfl rfl rfl (by kernel_rfl) Try.func11 (by kernel_rfl)
    (of_decide_eq_true (by kernel_rfl)) (by unfold Func.isWrapper; first | (rw [if_pos (by decide +kernel)]; kernel_rfl) | (rw [if_neg (by decide +kernel)]; exact ⟨rfl, rfl⟩))
    (fun os started H enc _ => lifted os started H enc)

end specPlain

/-- The given statement. -/
theorem specPlain_holds : Rows.SpecPlainSaid :=
  specPlain.over
#print axioms specPlain_holds
end Go.Proofs.Ytbfhchhggkpbdaa
