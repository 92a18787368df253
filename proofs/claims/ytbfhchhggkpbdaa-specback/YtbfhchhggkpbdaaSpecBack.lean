/-
  Proved: for every program, every memory, every script and every fuel, SpecBack returns true (up to 4000 steps: if the run ends otherwise than by EndFuel, the run without steps ahead of time ends alike, with the same value and words) and leaves its arguments as they were; no conditions.
-/
import Derived.Test.YtbfhchhggkpbdaaRows
import Derived.WalkKit
import Derived.ProofKit
import Derived.OpenShut
import Derived.Test.YtbfhchhggkpbdaaJoined6
import Derived.Test.YtbfhchhggkpbdaaJoined3
namespace Go.Proofs.Ytbfhchhggkpbdaa
open Go.ChangeShapes Go.WideShapes Go.ChangeAt Go.RowKit Go.Deep
set_option linter.unusedVariables false
set_option linter.unusedSimpArgs false
set_option maxRecDepth 8000

namespace specBack

theorem own : ownKnob Try.prog.godebug = none := by kernel_rfl
theorem laidOut : laidOutB Try.prog = true := by kernel_rfl

theorem skip (fuel : Int) (v1 v2 rv cv : Value) (w : World) (h1 : 4000 < fuel) :
    Calls Try.prog 12 #[.agg #[rv, cv], v1, v2, .int .i64 fuel] w fun e w' => e = .returned (.bool true) ∧ More w w' := by
  go_enter Try.func12, Try.ntmps12
  go_wp2
  go_ret
  exact ⟨rfl, (More.refl _).alloc _ _⟩

theorem like_trans' {x y z : Mem} (h : x.Like y) (k : y.Like z) : x.Like z :=
  ⟨h.ml.trans k.ml, fun i hi => (h.len i hi).trans (k.len i (by rw [← h.ml]; exact hi)), fun i hi j hj => (h.wd i hi j hj).trans (k.wd i (by rw [← h.ml]; exact hi) j (by rw [← h.len i hi]; exact hj))⟩

/-- What a run tells: some value, and a code. -/
def Tells (w : World) (code : Int) (e : Ending) (w' : World) : Prop :=
  ∃ (a b c : Int) (sa : Option Addr) (n sc : Nat) (la : Option Addr) (ln lc : Nat), e = .returned (.tuple #[.agg #[.int .i64 a, .int .i64 b, .int .i64 c, .slice sa n sc, .slice la ln lc], .int .i64 code]) ∧ More w w'

set_option maxHeartbeats 1000000 in
theorem bad (fuel code code2 : Int) (rv cv mv sv : Value) (w : World) (hc : ¬ code = 0) (hs : ¬ 4000 < fuel) (hcc : code = code2 ∨ code = 3)
    (hB : ∀ (w1 : World), More w w1 → Calls Try.prog 28 #[.agg #[rv, cv], mv, sv, .int .i64 fuel] w1 fun e w' => e = .returned (.tuple #[.agg #[.int .i64 0, .int .i64 0, .int .i64 0, .slice none 0 0, .slice none 0 0], .int .i64 code]) ∧ More w1 w')
    (hA : ∀ w1 : World, More w w1 → Calls Try.prog 23 #[.agg #[rv, cv], mv, .int .i64 fuel] w1 (Tells w1 code2)) :
    Calls Try.prog 12 #[.agg #[rv, cv], mv, sv, .int .i64 fuel] w fun e w' => e = .returned (.bool true) ∧ More w w' := by
  have H := hid_of (And.intro hA hB)
  have d4 : decide (4000 < fuel) = false := by simp; omega
  have hc' : (code == 0) = false := by simp [hc]
  clear hA hB
  go_enter Try.func12, Try.ntmps12
  go_wp2_with (fail)
  refine (H.out.2 _ ((More.refl _).alloc _ _)).mono ?_
  rintro e w1 ⟨rfl, m1⟩
  have e0 : w1.cell? ⟨w.heap.size, 0, none⟩ = some rv := m1.cell (by go_simp)
  have e1 : w1.cell? ⟨w.heap.size, 1, none⟩ = some cv := m1.cell (by go_simp)
  have Hm1 : Hid (More w w1) := ((More.refl _).alloc _ _).trans m1
  have b5 : w.heap.size < w1.heap.size := by have := m1.size; simp at this; omega
  clear m1
  go_wp2_with (fail)
  refine (H.out.1 _ (Hm1.out.alloc _ _)).mono ?_
  rintro e w2 ⟨a, b, c, sa, n, sc, la, ln, lc, rfl, m2⟩
  have s0 : w2.cell? ⟨w1.heap.size, 0, none⟩ = some (.int .i64 0) := m2.cell (by go_simp)
  have s3 : w2.cell? ⟨w1.heap.size, 3, none⟩ = some (.slice none 0 0) := m2.cell (by go_simp)
  have Hm2 : Hid (More w w2) := (Hm1.out.alloc _ _).trans m2
  have b6 : w1.heap.size < w2.heap.size := by have := m2.size; simp at this; omega
  clear m2 e0 e1
  by_cases h3 : code = code2
  · subst h3
    go_wp2
    go_ret
    exact ⟨by simp, Hm2.out.alloc _ _⟩
  · have h3' : (code == code2) = false := by simp [h3]
    obtain rfl : code = 3 := by omega
    go_wp2
    go_ret
    exact ⟨by simp, Hm2.out.alloc _ _⟩

set_option maxHeartbeats 2000000 in
theorem good (f : Nat) (rv cv mv sv : Value) (A : Sh) (B : ShF) (w : World) (hf : f ≤ 4000) (h0 : 0 ≤ B.fin ∧ B.fin ≤ 2) (h1 : 0 < f → 0 < B.seen.length) (h2 : B.fin = 0 → B.steps = (f : Int)) (h3 : ¬ B.fin = 0 → A.fin = B.fin ∧ A.val = B.val)
    (hB : ∀ (w1 : World), More w w1 → Calls Try.prog 28 #[.agg #[rv, cv], mv, sv, .int .i64 f] w1 fun e w' => ∃ (v : Value) (mm : Mem), e = .returned (.tuple #[v, .int .i64 0]) ∧ ShownAt w' v ⟨B.fin, B.val, B.steps, B.seen, mm⟩ ∧ (¬ B.fin = 0 → A.mem.Like mm) ∧ More w1 w')
    (hA : ∀ w1 : World, More w w1 → Calls Try.prog 23 #[.agg #[rv, cv], mv, .int .i64 f] w1 fun e w' => ∃ (v : Value) (mm : Mem), e = .returned (.tuple #[v, .int .i64 0]) ∧ ShownAt w' v ⟨A.fin, A.val, A.steps, A.seen, mm⟩ ∧ mm.Like A.mem ∧ More w1 w') :
    Calls Try.prog 12 #[.agg #[rv, cv], mv, sv, .int .i64 f] w fun e w' => e = .returned (.bool true) ∧ More w w' := by
  have H := hid_of (And.intro hA hB)
  have d4 : decide (4000 < (f : Int)) = false := by simp; omega
  have n4 : ¬ 4000 < (f : Int) := by omega
  have H01 := hid_of (And.intro h0 (And.intro h1 (And.intro h2 h3)))
  clear hA hB h0 h1 h2 h3
  go_enter Try.func12, Try.ntmps12
  go_wp2_with (fail)
  refine (H.out.2 _ ((More.refl _).alloc _ _)).mono ?_
  rintro e w1 ⟨v, mm, rfl, hs1, hl1, m1⟩
  have e0 : w1.cell? ⟨w.heap.size, 0, none⟩ = some rv := m1.cell (by go_simp)
  have e1 : w1.cell? ⟨w.heap.size, 1, none⟩ = some cv := m1.cell (by go_simp)
  have Hm1 : Hid (More w w1) := ((More.refl _).alloc _ _).trans m1
  have b5 : w.heap.size < w1.heap.size := by have := m1.size; simp at this; omega
  have HS1 := hid_of (And.intro hs1 hl1)
  obtain ⟨sv1, lm, rfl, hse, hmin⟩ := hs1
  obtain ⟨sa, sb, so, sc, rfl, _, _, hlt⟩ := hse
  dsimp only at hmin hlt
  have HMn := hid_of (And.intro hmin hlt)
  obtain ⟨la, hla⟩ : ∃ la, lm.ma = la := ⟨_, rfl⟩
  obtain ⟨lc, hlc⟩ : ∃ lc, lm.mc = lc := ⟨_, rfl⟩
  have Hlm := hid_of (And.intro hla hlc)
  dsimp only at HS1 ⊢
  rw [hla, hlc] at HS1 ⊢
  clear m1 hl1 hla hlc hmin hlt
  go_wp2_with (fail)
  refine (H.out.1 _ (Hm1.out.alloc _ _)).mono ?_
  rintro e w2 ⟨v2, mm2, rfl, hs2, hl2, m2⟩
  have s0 : w2.cell? ⟨w1.heap.size, 0, none⟩ = some (.int .i64 B.fin) := m2.cell (by go_simp)
  have s1 : w2.cell? ⟨w1.heap.size, 1, none⟩ = some (.int .i64 B.val) := m2.cell (by go_simp)
  have s2 : w2.cell? ⟨w1.heap.size, 2, none⟩ = some (.int .i64 B.steps) := m2.cell (by go_simp)
  have s3 : w2.cell? ⟨w1.heap.size, 3, none⟩ = some (.slice sa B.seen.length sc) := m2.cell (by go_simp)
  have s4 : w2.cell? ⟨w1.heap.size, 4, none⟩ = some (.slice la mm.ml lc) := m2.cell (by go_simp)
  have Hm2 : Hid (More w w2) := (Hm1.out.alloc _ _).trans m2
  have Hm12 : Hid (More w1 w2) := ((More.refl _).alloc _ _).trans m2
  have b6 : w1.heap.size < w2.heap.size := by have := m2.size; simp at this; omega
  obtain ⟨sv2, lm2, rfl, hse2, hmin2⟩ := hs2
  obtain ⟨sa2, sb2, so2, sc2, rfl, _, _, hlt2⟩ := hse2
  dsimp only at hmin2
  have HMn2 := hid_of (And.intro hmin2 hl2)
  obtain ⟨la2, hla2⟩ : ∃ la, lm2.ma = la := ⟨_, rfl⟩
  obtain ⟨lc2, hlc2⟩ : ∃ lc, lm2.mc = lc := ⟨_, rfl⟩
  have Hlm2 := hid_of (And.intro hla2 hlc2)
  dsimp only
  rw [hla2, hlc2]
  clear m2 e0 e1 hla2 hlc2 hmin2 hl2 hlt2
  obtain ⟨R, hR⟩ : ∃ R : Nat, B.seen.length = R := ⟨_, rfl⟩
  obtain ⟨F, hF⟩ : ∃ F : Int, B.fin = F := ⟨_, rfl⟩
  have HR := hid_of (And.intro H01.out.1 (And.intro H01.out.2.1 (And.intro HMn.out.2 (And.intro hR hF))))
  rw [hR] at s3
  rw [hF] at s0
  have r2 : (R : Int) + F < 9223372036854775807 := by have := HR.out; omega
  have r3 : wrap64 ((R : Int) + F) = (R : Int) + F := by unfold wrap64; have := HR.out; omega
  have r5 : 0 ≤ (R : Int) + F := by have := HR.out; omega
  have HF := hid_of hF
  clear hR hF
  by_cases hF0 : F = 0
  · have hst := H01.out.2.2.1 (by rw [HF.out]; exact hF0)
    rw [hst] at s2
    have r3' : wrap64 (R : Int) = (R : Int) := by unfold wrap64; have := HR.out; omega
    clear r2 r3 r5
    subst hF0
    clear hst
    by_cases hf0 : f = 0
    · subst hf0
      go_wp2
      go_ret
      exact ⟨by simp, Hm2.out.alloc _ _⟩
    · have f1 : (0 : Int) < (f : Int) := by omega
      have r4 : ¬ (R : Int) = 0 := by have := HR.out; have := this.2.1 (by omega); omega
      have r7 : ¬ R = 0 := by omega
      have r6 : ((R : Int) == 0) = false := by have := HR.out; have := this.2.1 (by omega); simp; omega
      go_wp2
      go_ret
      exact ⟨by simp, Hm2.out.alloc _ _⟩
  · have hAB := H01.out.2.2.2 (by rw [HF.out]; exact hF0)
    have hA1 : A.fin = F := by rw [hAB.1]; exact HF.out
    have hA2 := hAB.2
    have HM := hid_of (fun w3 (m3 : More w2 w3) => ref_memories mm2 mm lm2 lm w3 (HMn2.out.1.more m3) (HMn.out.1.more (Hm12.out.trans m3)) (like_trans' HMn2.out.2 (HS1.out.2 (by rw [HF.out]; exact hF0))))
    rw [Hlm.out.1, Hlm.out.2, Hlm2.out.1, Hlm2.out.2] at HM
    have f3 : (F == 0) = false := by simp [hF0]
    have r4 : ((R : Int) + F == 0) = false := by have := HR.out; simp; omega
    rw [hA1, hA2]
    clear hAB hA1 hA2
    by_cases hf0 : f = 0
    · subst hf0
      go_wp2_with (fail)
      refine (HM.out _ ((More.refl _).alloc _ _)).mono ?_
      rintro e w3 ⟨rfl, m3⟩
      have Hm3 : Hid (More w w3) := (Hm2.out.alloc _ _).trans m3
      clear m3
      go_wp2
      go_ret
      exact ⟨by simp, Hm3.out⟩
    · have f1 : (0 : Int) < (f : Int) := by omega
      go_wp2_with (fail)
      refine (HM.out _ ((More.refl _).alloc _ _)).mono ?_
      rintro e w3 ⟨rfl, m3⟩
      have Hm3 : Hid (More w w3) := (Hm2.out.alloc _ _).trans m3
      clear m3
      go_wp2
      go_ret
      exact ⟨by simp, Hm3.out⟩

theorem tells {w : World} {A : Sh} {e : Ending} {w' : World} (h : ∃ (v : Value) (mm : Mem), e = .returned (.tuple #[v, .int .i64 0]) ∧ ShownAt w' v ⟨A.fin, A.val, A.steps, A.seen, mm⟩ ∧ mm.Like A.mem ∧ More w w') : Tells w 0 e w' := by
  obtain ⟨v, mm, rfl, ⟨sv, lm, rfl, hse, _⟩, hl, m⟩ := h
  obtain ⟨sa, sb, so, sc, rfl, _, _, hlt⟩ := hse
  exact ⟨_, _, _, _, _, _, _, _, _, rfl, m⟩
theorem tells0 {w : World} {code : Int} {e : Ending} {w' : World} (h : e = .returned (.tuple #[.agg #[.int .i64 0, .int .i64 0, .int .i64 0, .slice none 0 0, .slice none 0 0], .int .i64 code]) ∧ More w w') : Tells w code e w' := by
  obtain ⟨rfl, m⟩ := h
  exact ⟨_, _, _, _, _, _, _, _, _, rfl, m⟩

theorem walk (p : Prg) (l : Loc) (m : Mem) (ml : MLoc) (sa : Option Addr) (sb so sn sc : Nat) (L : List Int) (fuel : Int) (w : World) (hp : PIn w p l) (hfit : p.Fit) (hm : MRaw w m ml) (hwd : ∀ j, j < m.ml → ∀ i, i < m.len j → B64 (m.wd j i)) (hL : L.length = sn) (hcap : sn ≤ sc) (hsin : SIn w sa sb so L) :
    Calls Try.prog 12 #[.agg #[.slice l.ra p.rl l.rc, .slice l.ca p.cl l.cc], .slice ml.ma m.ml ml.mc, .slice sa sn sc, .int .i64 fuel] w fun e w' => e = .returned (.bool true) ∧ More w w' := by
  by_cases hs : 4000 < fuel
  · exact skip fuel _ _ _ _ w hs
  by_cases hok : p.Ok 8000 10 ∧ FitsOk p.rl p.log m.ml m.len
  · by_cases hf : fuel < 0
    · refine bad fuel 3 3 _ _ _ _ w (by decide) hs (.inl rfl) (fun w1 m1 => ?_) (fun w1 m1 => ?_)
      · exact spec_run_wrong p l ml.ma m.ml ml.mc _ fuel 3 w1 (by decide) (fun w2 m2 => seq_new_range p l ml.ma m.ml ml.mc ml.mb ml.mo ml.A m.len ml.C fuel w2 ((hp.more m1).more m2) hm.hm ((hm.lists.more m1).more m2) hok.1 hok.2 (.inl hf))
      · exact (seq_run_wrong p l ml.ma m.ml ml.mc fuel 3 w1 (by decide) (fun w2 m2 => seq_new_range p l ml.ma m.ml ml.mc ml.mb ml.mo ml.A m.len ml.C fuel w2 ((hp.more m1).more m2) hm.hm ((hm.lists.more m1).more m2) hok.1 hok.2 (.inl hf))).mono fun e w' h => tells0 h
    · obtain ⟨f, rfl⟩ : ∃ f : Nat, fuel = f := ⟨fuel.toNat, by omega⟩
      have hpos : ∀ i, i < m.ml → 0 < m.len i ∧ m.len i ≤ 64 := fun i hi => by
        have h0 := hok.2.2.1
        have h1 := hok.2.2.2 i (by omega)
        have h2 := hok.1.1.2 i (by omega)
        have h3 := two_pow_le (k := (p.log i).toNat) (by omega)
        unfold wordsI at h1
        omega
      have h6 : m.ml ≤ 6 := by have h0 := hok.2.2.1; have := hok.1.1.1; omega
      have hin := hm.in_ h6 (fun i hi => (hpos i hi).2)
      have hn : ∀ i, i < p.cl → B64 (p.ins i).n := fun i hi => (hfit.ins i hi).2.2.2.2
      have C : Ctx p m := ⟨hok.1.2.2.2, hok.2.2.1, h6, fun i hi => hok.2.2.2 i (by have := hok.2.2.1; omega), hpos⟩
      by_cases hsok : ScOk L
      · have hbk := fun h => spec_back C f f 0 0 ⟨⟨0, fun _ => 0, flatM m, fun _ => []⟩, false, 0, ⟨0, fun _ => 0, flatM m, fun _ => []⟩, L, []⟩ ⟨0, fun _ => 0, m, []⟩ (Nat.le_refl _) ⟨rfl, rfl, fun c hc i hi => flatM_at m c i hc hi, rfl, fun _ => rfl⟩ h
        refine good f _ _ _ _ (playI p m f) (playS p (flatM m) L f) w (by omega) (runS_fin p f 0 _) (fun h0 => ?_) (fun h0 => ?_) (fun h0 => ?_) (fun w1 m1 => ?_) (fun w1 m1 => ?_)
        · obtain ⟨g, rfl⟩ : ∃ g, f = g + 1 := ⟨f - 1, by omega⟩
          exact List.length_pos_iff.2 (spec_shows p (flatM m) L g (by have := hok.1.2.1; omega))
        · have := spec_fuel p f 0 _ h0
          unfold playS
          rw [this]
          simp
        · have h1 := hbk h0
          exact ⟨h1.1, h1.2.1⟩
        · refine (spec_run_ok p l m ml sa sb so sn sc L f w1 (hp.more m1) (hin.more m1) hok.1 hn hok.2 hwd (by omega) hL hcap (hsin.more m1) hsok).mono ?_
          rintro e w' ⟨v, mm, rfl, hsh, q1, q2, q3, m2⟩
          refine ⟨v, mm, rfl, hsh, fun h0 => ?_, m2⟩
          have h1 := hbk h0
          refine ⟨?_, fun i hi => ?_, fun i hi j hj => ?_⟩
          · rw [q1]; exact h1.2.2.1
          · rw [q2]; exact h1.2.2.2.1 i
          · have hi2 : i < m.ml := by have e1 : (playI p m f).mem.ml = m.ml := h1.2.2.1; rw [e1] at hi; exact hi
            have hj2 : j < m.len i := by have e1 : (playI p m f).mem.len i = m.len i := h1.2.2.2.1 i; rw [e1] at hj; exact hj
            rw [q3 i hi2 j hj2]
            exact (h1.2.2.2.2 i hi2 j hj2).symm
        · exact seq_run_ok p l m ml f w1 (hp.more m1) (hin.more m1) hok.1 hn hok.2 hwd (by omega)
      · refine bad f 3 0 _ _ _ _ w (by decide) hs (.inr rfl) (fun w1 m1 => ?_) (fun w1 m1 => ?_)
        · refine spec_run_script p l ml.ma m.ml ml.mc sa sb so sn sc L f w1 hL (hsin.more m1) hsok (fun w2 m2 => ?_)
          refine (seq_new p l m ml f w2 ((hp.more m1).more m2) ((hin.more m1).more m2) hok.1 hok.2 hpos (by omega) (by omega)).mono ?_
          rintro e w' ⟨c, W, S, rfl, mcc, hS, hW, m3⟩
          exact ⟨c, _, _, _, rfl, rfl, rfl, rfl, rfl, mcc, rfl, m3⟩
        · exact (seq_run_ok p l m ml f w1 (hp.more m1) (hin.more m1) hok.1 hn hok.2 hwd (by omega)).mono fun e w' h => tells h
  · refine bad fuel 2 2 _ _ _ _ w (by decide) hs (.inl rfl) (fun w1 m1 => ?_) (fun w1 m1 => ?_)
    · exact spec_run_wrong p l ml.ma m.ml ml.mc _ fuel 2 w1 (by decide) (fun w2 m2 => seq_new_form p l ml.ma m.ml ml.mc ml.mb ml.mo ml.A m.len ml.C fuel w2 ((hp.more m1).more m2) hm.hm ((hm.lists.more m1).more m2) hok)
    · exact (seq_run_wrong p l ml.ma m.ml ml.mc fuel 2 w1 (by decide) (fun w2 m2 => seq_new_form p l ml.ma m.ml ml.mc ml.mb ml.mo ml.A m.len ml.C fuel w2 ((hp.more m1).more m2) hm.hm ((hm.lists.more m1).more m2) hok)).mono fun e w' h => tells0 h
/-! ### THE ROW's STEP -/
set_option maxRecDepth 100000 in
theorem lifted (os : Os) (started : os.Started) (H : Type) (enc : TypeId × Value → H) :
    ReturnsInHanded {} Try.checked os 12 .any (Rows.specBackSpec.pre6 enc Try.prog Try.f12 Rows.specBackRow.domain false) (Rows.specBackSpec.post enc Try.prog Try.f12 false true false false) := by
  refine returnsInHanded_of_change (C := Try.checked) own started (by kernel_rfl) Try.func12
    (ChangeSpec.witness6 (enc := enc) (C := Try.checked) false ⟨#[], #[.agg #[.slice none 0 0, .slice none 0 0], .slice none 0 0, .slice none 0 0, .int .i64 0], []⟩ 8 (by kernel_rfl) (by kernel_rfl) (by kernel_rfl) (by kernel_rfl)) ?_
  intro W base args ds gs before hval0 hW hcnd _
  have hval : ∀ (j : Nat) t v, Try.f12.params[j]? = some t → args[j]? = some v → Value.okWide Try.prog W .any base t v := hval0
  have hW' := hW
  obtain ⟨p, q, hA0, hV, rfl, hfz, hnd⟩ := hW
  have hA : DataW.TrodAll enc Try.prog W 0 (fun _ => true) true Try.f12.params.toList args.toList ds p := hA0
  rw [Try.params12] at hA hval
  obtain ⟨v0, vs0, d0, ds0, p0, q0, hargs, rfl, rfl, h0, r0⟩ := trodAll_cons hA
  obtain ⟨v1, vs1, d1, ds1, p1, q1, rfl, rfl, rfl, h1, r1⟩ := trodAll_cons r0
  obtain ⟨v2, vs2, d2, ds2, p2, q2, rfl, rfl, rfl, h2, r2⟩ := trodAll_cons r1
  obtain ⟨v3, vs3, d3, ds3, p3, q3, rfl, rfl, rfl, h3, r3⟩ := trodAll_cons r2
  obtain ⟨rfl, rfl, rfl⟩ := trodAll_nil r3
  obtain rfl : args = #[v0, v1, v2, v3] := by cases args; simp_all
  obtain ⟨rfl, rfl⟩ := trodVars_none hV
  have lt0 : ∀ x ∈ p0, x.block < W.heap.size := by obtain ⟨m, hm⟩ := h0; exact DataW.trod_lt m _ _ _ hm
  have lt1 : ∀ x ∈ p1, x.block < W.heap.size := by obtain ⟨m, hm⟩ := h1; exact DataW.trod_lt m _ _ _ hm
  have lt2 : ∀ x ∈ p2, x.block < W.heap.size := by obtain ⟨m, hm⟩ := h2; exact DataW.trod_lt m _ _ _ hm
  have lt3 : ∀ x ∈ p3, x.block < W.heap.size := by obtain ⟨m, hm⟩ := h3; exact DataW.trod_lt m _ _ _ hm
  obtain ⟨P0, l0, rfl, hin0, hfit0⟩ := open_prog (hval 0 29 v0 rfl rfl) h0
  obtain ⟨m1, ml1, rfl, hm1, hwd1⟩ := open_memw (hval 1 30 v1 rfl rfl) h1
  obtain ⟨sa2, sb2, so2, sn2, sc2, L2, rfl, hL2, hcap2, hsin2⟩ := open_script (hval 2 47 v2 rfl rfl) h2
  obtain ⟨n3, rfl, _, _, hwf3⟩ := open_int Try.underlying3 (hval 3 3 v3 rfl rfl) h3
  clear hA0 hval0
  refine (walk P0 l0 m1 ml1 sa2 sb2 so2 sn2 sc2 L2 n3 W hin0 hfit0 hm1 hwd1 hL2 hcap2 hsin2).mono fun e W' ⟨he, bel⟩ => ?_
  subst he
  exact ⟨_, rfl, _, _, _, [], _, [], hW', trodAll_mk1 (shut_bool Try.underlying4 _), (trodAll_cons_mk (Below.trod laidOut (by kernel_rfl) (of_decide_eq_true (by kernel_rfl)) h0 bel lt0) (trodAll_cons_mk (Below.trod laidOut (by kernel_rfl) (of_decide_eq_true (by kernel_rfl)) h1 bel lt1) (trodAll_cons_mk (Below.trod laidOut (by kernel_rfl) (of_decide_eq_true (by kernel_rfl)) h2 bel lt2) (trodAll_cons_mk (Below.trod laidOut (by kernel_rfl) (of_decide_eq_true (by kernel_rfl)) h3 bel lt3) trodAll_mk0)))), rfl, Below.frame bel _, fun h => by cases h⟩

theorem over : Rows.specBackRow.holds Try.pinned (OpenSpec.ofChange Rows.specBackSpec) :=
  OpenClaim.holds_of_wide 12 Try.f12 rfl rfl rfl rfl rfl rfl rfl ⟨rfl, rfl, rfl, rfl, rfl⟩ rfl rfl rfl rfl rfl (by kernel_rfl) Try.func12 (by kernel_rfl)
    (of_decide_eq_true (by kernel_rfl)) (by unfold Func.isWrapper; first | (rw [if_pos (by decide +kernel)]; kernel_rfl) | (rw [if_neg (by decide +kernel)]; exact ⟨rfl, rfl⟩))
    (fun os started H enc _ => lifted os started H enc)

end specBack

/-- The given statement. -/
theorem specBack_holds : Rows.SpecBackSaid :=
  specBack.over
#print axioms specBack_holds
end Go.Proofs.Ytbfhchhggkpbdaa
