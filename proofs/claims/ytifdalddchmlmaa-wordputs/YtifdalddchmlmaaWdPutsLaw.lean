/-
  The law WordPuts, given what both Puts answer.
-/
import Derived.Test.YtifdalddchmlmaaWdGet
namespace Go.Proofs.Ytifdalddchmlmaa
open Go.RowKit
set_option linter.unusedVariables false
set_option linter.unusedSimpArgs false
set_option maxRecDepth 8000

set_option maxHeartbeats 2000000 in
theorem word_puts_body (p : Prg) (l : Loc) (w : World)
    (c1 : ∀ w1 : World, More w w1 → Calls Try.prog 7 #[.agg #[.slice l.ra p.rl l.rc, .slice l.ca p.cl l.cc]] w1 (PutAns p w1)) (c2 : ∀ w1 : World, More w w1 → Calls Try.prog 8 #[.agg #[.slice l.ra p.rl l.rc, .slice l.ca p.cl l.cc]] w1 (PutAns p w1)) :
    Calls Try.prog 3 #[.agg #[.slice l.ra p.rl l.rc, .slice l.ca p.cl l.cc]] w fun e w' => e = .returned (.bool true) ∧ More w w' := by
  suffices hP : ∀ P : Ending → World → Prop, (∀ w', More w w' → P (.returned (.bool true)) w') → Calls Try.prog 3 #[.agg #[.slice l.ra p.rl l.rc, .slice l.ca p.cl l.cc]] w P from hP _ (fun w' m => ⟨rfl, m⟩)
  intro P hP0
  have HP : Hid (∀ w', More w w' → P (.returned (.bool true)) w') := hP0
  have C1 : Hid (∀ w1 : World, More w w1 → Calls Try.prog 7 #[.agg #[.slice l.ra p.rl l.rc, .slice l.ca p.cl l.cc]] w1 (PutAns p w1)) := c1
  have C2 : Hid (∀ w1 : World, More w w1 → Calls Try.prog 8 #[.agg #[.slice l.ra p.rl l.rc, .slice l.ca p.cl l.cc]] w1 (PutAns p w1)) := c2
  clear hP0 c1 c2
  obtain ⟨ra, Hra⟩ : ∃ x, Hid (l.ra = x) := ⟨_, rfl⟩
  obtain ⟨rl, Hrl⟩ : ∃ x, Hid (p.rl = x) := ⟨_, rfl⟩
  obtain ⟨rc, Hrc⟩ : ∃ x, Hid (l.rc = x) := ⟨_, rfl⟩
  obtain ⟨ca, Hca⟩ : ∃ x, Hid (l.ca = x) := ⟨_, rfl⟩
  obtain ⟨cl, Hcl⟩ : ∃ x, Hid (p.cl = x) := ⟨_, rfl⟩
  obtain ⟨cc, Hcc⟩ : ∃ x, Hid (l.cc = x) := ⟨_, rfl⟩
  rw [Hra.out, Hrl.out, Hrc.out, Hca.out, Hcl.out, Hcc.out] at C1 C2 ⊢
  go_enter Try.func3, Try.ntmps3
  go_wp2_with (fail)
  refine (C1.out _ ((More.refl _).alloc _ _)).mono ?_
  rintro e w1 ⟨f, hR, m1, hA⟩
  have Hm1 : Hid (More w w1) := ((More.refl _).alloc _ _).trans m1
  have Hp1 : Hid (Blk w1 w.heap.size #[.slice ra rl rc, .slice ca cl cc] 25) := (Blk.last _ _ _).more m1
  have c0 : w1.cell? ⟨w.heap.size, 0, none⟩ = some (.slice ra rl rc) := Hp1.out.cell rfl
  have c1 : w1.cell? ⟨w.heap.size, 1, none⟩ = some (.slice ca cl cc) := Hp1.out.cell rfl
  have z1 := Hp1.out.lt
  have HR : Hid (PutR p f) := hR
  clear m1 hR C1
  rcases hA with ⟨h0, g, c, rfl, hg, hw⟩ | ⟨h0, rfl⟩
  · have Hw1 : Hid (WordsAt w1 g 0 cl (fun j => encW (p.ins j)) ∧ cl ≤ 8000) := ⟨Hcl.out ▸ hw, by have := (HR.out.ok h0).1.2.2.1; rw [Hcl.out] at this; exact this⟩
    rw [Hcl.out]
    clear hw hg
    obtain ⟨w2, Hw2⟩ : ∃ w_ : World, Hid (w_ = w1.alloc (.cells #[.int .i64 0, .int .i64 0] 29)) := ⟨_, rfl⟩
    have Hm2 : Hid (More w1 w2) := by rw [Hw2.out]; exact (More.refl _).alloc _ _
    have Hf2 : Hid (Blk w2 w1.heap.size #[.int .i64 0, .int .i64 0] 29) := by rw [Hw2.out]; exact Blk.last _ _ _
    go_wp2_with (fail)
    rw [← Hw2.out]
    refine (C2.out w2 (Hm1.out.trans Hm2.out)).mono ?_
    rintro e w3 ⟨f', hR', m3, ⟨h0', g', c', rfl, hg', hw'⟩ | ⟨h0', rfl⟩⟩
    · rw [Hcl.out]
      have Hm3 : Hid (More w1 w3) := Hm2.out.trans m3
      have Hf3 : Hid (Blk w3 w1.heap.size #[.int .i64 0, .int .i64 0] 29) := Hf2.out.more m3
      have Hw3 : Hid (WordsAt w3 g' 0 cl (fun j => encW (p.ins j))) := Hcl.out ▸ hw'
      clear m3 hw' hg' hR' c0 c1 z1
      obtain ⟨w4, Hw4⟩ : ∃ w_ : World, Hid (w_ = w3.alloc (.cells #[.int .i64 0, .int .i64 0] 29)) := ⟨_, rfl⟩
      have Hm4 : Hid (More w3 w4) := by rw [Hw4.out]; exact (More.refl _).alloc _ _
      have x2 : w3.cell? ⟨w1.heap.size, 0, none⟩ = some (.int .i64 0) := Hf3.out.cell rfl
      have x3 : w3.cell? ⟨w1.heap.size, 1, none⟩ = some (.int .i64 0) := Hf3.out.cell rfl
      have z1 := Hf3.out.lt
      go_wp2_with (fail)
      rw [← Hw4.out]
      refine (words_true _ cl c _ c' g 0 g' 0 (fun j => encW (p.ins j)) w4 (fun _ => rfl) (fun _ => rfl) (Hw1.out.1.more (Hm3.out.trans Hm4.out)) (Hw3.out.more Hm4.out) (by have := Hw1.out.2; omega)).mono ?_
      rintro e w5 ⟨rfl, m5⟩
      have Hend : Hid (P (.returned (.bool true)) w5) := HP.out _ (Hm1.out.trans (Hm3.out.trans (Hm4.out.trans m5)))
      clear m5 x2 x3 z1
      go_wp2
      exact Hend.out
    · exact absurd (by rw [hR'.one HR.out]; exact h0) h0'
  · obtain ⟨f1, f2⟩ := f
    dsimp only at h0 ⊢
    obtain ⟨w2, Hw2⟩ : ∃ w_ : World, Hid (w_ = w1.alloc (.cells #[.int .i64 f1, .int .i64 f2] 29)) := ⟨_, rfl⟩
    have Hm2 : Hid (More w1 w2) := by rw [Hw2.out]; exact (More.refl _).alloc _ _
    have Hf2 : Hid (Blk w2 w1.heap.size #[.int .i64 f1, .int .i64 f2] 29) := by rw [Hw2.out]; exact Blk.last _ _ _
    go_wp2_with (fail)
    rw [← Hw2.out]
    refine (C2.out w2 (Hm1.out.trans Hm2.out)).mono ?_
    rintro e w3 ⟨f', hR', m3, ⟨h0', g', c', rfl, hg', hw'⟩ | ⟨h0', rfl⟩⟩
    · exact absurd (by have e := HR.out.one hR'; rw [← e] at h0'; exact h0') h0
    · have ef := hR'.one HR.out
      subst ef
      dsimp only
      have Hm3 : Hid (More w1 w3) := Hm2.out.trans m3
      have Hf3 : Hid (Blk w3 w1.heap.size #[.int .i64 f1, .int .i64 f2] 29) := Hf2.out.more m3
      clear m3 hR' c0 c1 z1 h0 h0'
      obtain ⟨w4, Hw4⟩ : ∃ w_ : World, Hid (w_ = w3.alloc (.cells #[.int .i64 f1, .int .i64 f2] 29)) := ⟨_, rfl⟩
      have Hm4 : Hid (More w3 w4) := by rw [Hw4.out]; exact (More.refl _).alloc _ _
      have x2 : w3.cell? ⟨w1.heap.size, 0, none⟩ = some (.int .i64 f1) := Hf3.out.cell rfl
      have x3 : w3.cell? ⟨w1.heap.size, 1, none⟩ = some (.int .i64 f2) := Hf3.out.cell rfl
      have z1 := Hf3.out.lt
      go_wp2_with (fail)
      rw [← Hw4.out]
      refine (words_true none 0 0 none 0 0 0 0 0 (fun _ => 0) w4 (fun h => absurd h (Nat.lt_irrefl _)) (fun h => absurd h (Nat.lt_irrefl _)) (fun i hi => absurd hi (Nat.not_lt_zero _)) (fun i hi => absurd hi (Nat.not_lt_zero _)) (by decide)).mono ?_
      rintro e w5 ⟨rfl, m5⟩
      have Hend : Hid (P (.returned (.bool true)) w5) := HP.out _ (Hm1.out.trans (Hm3.out.trans (Hm4.out.trans m5)))
      clear m5 x2 x3 z1
      go_wp2
      exact Hend.out

end Go.Proofs.Ytifdalddchmlmaa
