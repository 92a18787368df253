/-
  What the reference's ins, Is, May, Hard and Fits come to, called in whatever memory.
-/
import Derived.Test.YtifdalddchmlmaaInsA
import Derived.Test.YtifdalddchmlmaaInsB
import Derived.Test.YtifdalddchmlmaaInsC
import Derived.Test.YtifdalddchmlmaaInsD
import Derived.Test.YtifdalddchmlmaaOrd
namespace Go.Proofs.Ytifdalddchmlmaa
open Go.RowKit
set_option linter.unusedSimpArgs false

theorem tri_all (regs x y z a b c : Int) : (∀ j, j < 3 → Fld regs (tri x y z j) (tri a b c j)) ↔ Fld regs x a ∧ Fld regs y b ∧ Fld regs z c := by
  constructor
  · intro h
    exact ⟨h 0 (by omega), h 1 (by omega), h 2 (by omega)⟩
  · rintro ⟨h0, h1, h2⟩ j hj
    have : j = 0 ∨ j = 1 ∨ j = 2 := by omega
    rcases this with rfl | rfl | rfl
    · exact h0
    · exact h1
    · exact h2
theorem fld0 (regs f : Int) : Fld regs 0 f ↔ f = 0 := by unfold Fld; simp
theorem fld1 (regs f : Int) : Fld regs 1 f ↔ Reg regs f := by unfold Fld; simp
theorem fld2 (regs f : Int) : Fld regs 2 f ↔ True := by unfold Fld; simp

set_option maxRecDepth 8000 in
theorem ins_else (ra : Option Addr) (rl rc : Nat) (ca : Option Addr) (cl cc : Nat) (op a b c n regs : Int) (h1 : ¬ op = 1) (h2 : ¬ op = 2) (h3 : ¬ op = 3) (h4 : ¬ op = 4) (h5 : ¬ op = 5) (h6 : ¬ op = 6) (h7 : ¬ op = 7) (h8 : ¬ op = 8) (h9 : ¬ op = 9) (h10 : ¬ op = 10) (h11 : ¬ op = 11) (h12 : ¬ op = 12) (h : ¬ (20 < op ∧ op ≤ 30)) (w : World) :
    Calls Try.prog 24 #[.agg #[.slice ra rl rc, .slice ca cl cc], .agg #[.int .i64 op, .int .i64 a, .int .i64 b, .int .i64 c, .int .i64 n], .int .i64 regs] w fun e w' => e = .returned (.bool false) ∧ More w w' := by
  have Hs : Hid (∀ w : World, Calls Try.prog 27 #[.int .i64 op] w fun e w' => e = .returned (.tuple #[.slice none 0 0, .bool false, .bool false]) ∧ w' = w) := fun w => shape_else op h1 h2 h3 h4 h5 h6 h7 h8 h9 h10 h11 h12 h w
  clear h1 h2 h3 h4 h5 h6 h7 h8 h9 h10 h11 h12 h
  go_enter Try.func24, Try.ntmps24
  go_wp2_with (fail)
  refine (Hs.out _).mono ?_
  rintro e w1 ⟨rfl, rfl⟩
  go_wp2
  go_ret
  exact ⟨rfl, ((More.refl _).alloc _ _).alloc _ _⟩

theorem ref_ins (ra : Option Addr) (rl rc : Nat) (ca : Option Addr) (cl cc : Nat) (op a b c n regs : Int) (w : World) (rb ro : Nat) (log : Nat → Int) (sec : Nat → Bool) (hra : 0 < rl → ra = some ⟨rb, ro, none⟩) (hr : RegsAt w rb ro rl log sec) (hok : RegionsOk rl log) :
    Calls Try.prog 24 #[.agg #[.slice ra rl rc, .slice ca cl cc], .agg #[.int .i64 op, .int .i64 a, .int .i64 b, .int .i64 c, .int .i64 n], .int .i64 regs] w (Says (InsOk rl log cl regs ⟨op, a, b, c, n⟩) w) := by
  by_cases h1 : op = 1
  · subst h1
    refine ins_1 ra rl rc ca cl cc a b c n regs w _ ?_
    show _ ↔ _
    rw [tri_all]; simp only [fld0, fld1, fld2]
    unfold InsOk
    simp [and_assoc, and_comm, and_left_comm]
  by_cases h2 : op = 2
  · subst h2
    refine ins_2 ra rl rc ca cl cc a b c n regs w _ ?_
    show _ ↔ _
    rw [tri_all]; simp only [fld0, fld1, fld2]
    unfold InsOk
    simp [and_assoc, and_comm, and_left_comm]
  by_cases h3 : op = 3
  · subst h3
    refine ins_3 ra rl rc ca cl cc a b c n regs w _ ?_
    show _ ↔ _
    rw [tri_all]; simp only [fld0, fld1, fld2]
    unfold InsOk
    simp [and_assoc, and_comm, and_left_comm]
  by_cases h4 : op = 4
  · subst h4
    refine ins_4 ra rl rc ca cl cc a b c n regs w _ ?_
    show _ ↔ _
    rw [tri_all]; simp only [fld0, fld1, fld2]
    unfold InsOk
    simp [and_assoc, and_comm, and_left_comm]
  by_cases h5 : op = 5
  · subst h5
    refine ins_5 ra rl rc ca cl cc a b c n regs w rb ro log sec hra hr hok _ ?_
    show _ ↔ _
    rw [tri_all]; simp only [fld0, fld1, fld2]
    unfold InsOk
    simp [and_assoc, and_comm, and_left_comm]
  by_cases h6 : op = 6
  · subst h6
    refine ins_6 ra rl rc ca cl cc a b c n regs w rb ro log sec hra hr hok _ ?_
    show _ ↔ _
    rw [tri_all]; simp only [fld0, fld1, fld2]
    unfold InsOk
    simp [and_assoc, and_comm, and_left_comm]
  by_cases h7 : op = 7
  · subst h7
    refine ins_7 ra rl rc ca cl cc a b c n regs w _ ?_
    show _ ↔ _
    rw [tri_all]; simp only [fld0, fld1, fld2]
    unfold InsOk
    simp [and_assoc, and_comm, and_left_comm]
  by_cases h8 : op = 8
  · subst h8
    refine ins_8 ra rl rc ca cl cc a b c n regs w _ ?_
    show _ ↔ _
    rw [tri_all]; simp only [fld0, fld1, fld2]
    unfold InsOk
    simp [and_assoc, and_comm, and_left_comm]
  by_cases h9 : op = 9
  · subst h9
    refine ins_9 ra rl rc ca cl cc a b c n regs w _ ?_
    show _ ↔ _
    rw [tri_all]; simp only [fld0, fld1, fld2]
    unfold InsOk
    simp [and_assoc, and_comm, and_left_comm]
  by_cases h10 : op = 10
  · subst h10
    refine ins_10 ra rl rc ca cl cc a b c n regs w _ ?_
    show _ ↔ _
    rw [tri_all]; simp only [fld0, fld1, fld2]
    unfold InsOk
    simp [and_assoc, and_comm, and_left_comm]
  by_cases h11 : op = 11
  · subst h11
    refine ins_11 ra rl rc ca cl cc a b c n regs w _ ?_
    show _ ↔ _
    rw [tri_all]; simp only [fld0, fld1, fld2]
    unfold InsOk
    simp [and_assoc, and_comm, and_left_comm]
  by_cases h12 : op = 12
  · subst h12
    refine ins_12 ra rl rc ca cl cc a b c n regs w _ ?_
    show _ ↔ _
    rw [tri_all]; simp only [fld0, fld1, fld2]
    unfold InsOk
    simp [and_assoc, and_comm, and_left_comm]
  by_cases ho : 20 < op ∧ op ≤ 30
  · refine ins_op ra rl rc ca cl cc op ho.1 ho.2 a b c n regs w _ ?_
    show _ ↔ _
    rw [tri_all]; simp only [fld1]
    unfold InsOk
    rw [if_neg h1, if_neg h2, if_neg h3, if_neg h4, if_neg h5, if_neg h6, if_neg h7, if_neg h8, if_neg h9, if_neg h10, if_neg h11, if_neg h12]
    constructor
    · exact fun h => ⟨h.2.2.2.2, ⟨h.2.1, h.2.2.1, h.2.2.2.1⟩, trivial⟩
    · exact fun h => ⟨⟨by have := ho.1; show (21 : Int) ≤ op; omega, ho.2⟩, h.2.1.1, h.2.1.2.1, h.2.1.2.2, h.1⟩
  refine (ins_else ra rl rc ca cl cc op a b c n regs h1 h2 h3 h4 h5 h6 h7 h8 h9 h10 h11 h12 ho w).mono ?_
  rintro e w' ⟨rfl, m⟩
  refine Says.no (fun h => ?_) m
  unfold InsOk at h
  rw [if_neg h1, if_neg h2, if_neg h3, if_neg h4, if_neg h5, if_neg h6, if_neg h7, if_neg h8, if_neg h9, if_neg h10, if_neg h11, if_neg h12] at h
  exact ho ⟨by have := h.1.1; dsimp only at this; omega, h.1.2⟩

set_option maxHeartbeats 1000000 in
theorem ref_is (ra : Option Addr) (rl rc : Nat) (ca : Option Addr) (cl cc : Nat) (code regs : Int) (rb ro cb co : Nat) (log : Nat → Int) (sec : Nat → Bool) (ins : Nat → Ins) (w : World) (most : Nat) (hcode : code = most) (hmost : most ≤ 8000)
    (hra : 0 < rl → ra = some ⟨rb, ro, none⟩) (hr : RegsAt w rb ro rl log sec) (hca : 0 < cl → ca = some ⟨cb, co, none⟩) (hc : CodeAt w cb co cl ins) :
    Calls Try.prog 19 #[.agg #[.slice ra rl rc, .slice ca cl cc], .int .i64 code, .int .i64 regs] w (Says (RegionsOk rl log ∧ CodeOk rl log cl ins most regs) w) := by
  have Hcd : Hid (code = most ∧ most ≤ 8000) := ⟨hcode, hmost⟩
  have Hr : Hid ((0 < rl → ra = some ⟨rb, ro, none⟩) ∧ RegsAt w rb ro rl log sec) := ⟨hra, hr⟩
  have Hc : Hid ((0 < cl → ca = some ⟨cb, co, none⟩) ∧ CodeAt w cb co cl ins) := ⟨hca, hc⟩
  obtain ⟨Pr, HP⟩ : ∃ Pr : Prop, Hid (Pr ↔ (RegionsOk rl log ∧ CodeOk rl log cl ins most regs)) := ⟨_, Iff.rfl⟩
  rw [← propext HP.out]
  clear hcode hmost hra hr hca hc
  go_enter Try.func19, Try.ntmps19
  go_wp2_with (fail)
  refine (ref_regions ra rl rc ca cl cc rb ro log sec _ Hr.out.1 (Hr.out.2.more ((More.refl _).alloc _ _))).mono ?_
  rintro e w1 ⟨r, rfl, h, m1⟩
  have e0 : w1.cell? ⟨w.heap.size, 0, none⟩ = some (.slice ra rl rc) := m1.cell (by go_simp)
  have e1 : w1.cell? ⟨w.heap.size, 1, none⟩ = some (.slice ca cl cc) := m1.cell (by go_simp)
  have Hm1 : Hid (More w w1) := ((More.refl _).alloc _ _).trans m1
  clear m1
  cases r with
  | false =>
    have HA : Hid (¬ RegionsOk rl log) := fun k => by simpa using h.2 k
    clear h
    go_wp2
    go_ret
    exact Says.no (fun h => HA.out (HP.out.1 h).1) Hm1.out
  | true =>
    have HA : Hid (RegionsOk rl log) := h.1 rfl
    clear h
    by_cases h1 : (cl : Int) < 1
    · have T : Hid ((cl : Int) < 1) := h1
      go_wp2
      go_ret
      exact Says.no (fun h => by have := (HP.out.1 h).2.1; have := T.out; omega) Hm1.out
    by_cases h2 : code < (cl : Int)
    · have T : Hid (code < (cl : Int)) := h2
      go_wp2
      go_ret
      exact Says.no (fun h => by have := (HP.out.1 h).2.2.1; have := Hcd.out.1; have := T.out; omega) Hm1.out
    have Hl : Hid (1 ≤ cl ∧ cl ≤ most) := ⟨by omega, by have := Hcd.out.1; omega⟩
    have He : Hid (w1.cell? ⟨w.heap.size, 0, none⟩ = some (.slice ra rl rc) ∧ w1.cell? ⟨w.heap.size, 1, none⟩ = some (.slice ca cl cc)) := ⟨e0, e1⟩
    go_wp2
    clear e0 e1
    go_loopg [7] cl (fun g i wr => ∃ k : Nat, k + g = cl ∧ i = .int .i64 k ∧ (∀ j, j < k → InsOk rl log cl regs (ins j)) ∧ More w wr ∧ wr.cell? ⟨w.heap.size, 0, none⟩ = some (.slice ra rl rc) ∧ wr.cell? ⟨w.heap.size, 1, none⟩ = some (.slice ca cl cc))
    case atStart => exact ⟨0, by omega, rfl, fun j hj => by omega, Hm1.out, He.out.1, He.out.2⟩
    case round =>
      obtain ⟨k, hkg, rfl, hin, m, e0, e1⟩ := hrel
      have Hm : Hid (More w wr ∧ ∀ j, j < k → InsOk rl log cl regs (ins j)) := ⟨m, hin⟩
      clear m hin
      cases gk with
      | zero =>
        obtain rfl : k = cl := by omega
        go_wp2
        go_ret
        exact Says.yes (HP.out.2 ⟨HA.out, Hl.out.1, Hl.out.2, Hm.out.2⟩) Hm.out.1
      | succ g =>
        have hk : k < cl := by omega
        have hk' : (k : Int) < (cl : Int) := by omega
        have hk0 : (0 : Int) ≤ (k : Int) := by omega
        obtain rfl := Hc.out.1 (by omega)
        have hcell := (Hc.out.2.more Hm.out.1) k hk
        cases hI : ins k with
        | mk op a b c n =>
        rw [hI] at hcell
        have HI : Hid (ins k = ⟨op, a, b, c, n⟩) := hI
        clear hI
        obtain ⟨q0, q1, q2, q3, q4⟩ := hcell
        obtain ⟨S, HS⟩ : ∃ S : World → Prop, Hid (∀ w', S w' ↔ More wr w') := ⟨fun w' => More wr w', fun _ => Iff.rfl⟩
        have k0 : ∀ i : { w' // S w' }, i.val.cell? ⟨w.heap.size, 0, none⟩ = some (.slice ra rl rc) := fun i => ((HS.out _).1 i.property).cell e0
        have k1 : ∀ i : { w' // S w' }, i.val.cell? ⟨w.heap.size, 1, none⟩ = some (.slice (some ⟨cb, co, none⟩) cl cc) := fun i => ((HS.out _).1 i.property).cell e1
        have d0 : ∀ i : { w' // S w' }, i.val.cell? ⟨cb, co + k * 5, none⟩ = some (.int .i64 op) := fun i => ((HS.out _).1 i.property).cell q0
        have d1 : ∀ i : { w' // S w' }, i.val.cell? ⟨cb, co + k * 5 + 1, none⟩ = some (.int .i64 a) := fun i => ((HS.out _).1 i.property).cell q1
        have d2 : ∀ i : { w' // S w' }, i.val.cell? ⟨cb, co + k * 5 + 2, none⟩ = some (.int .i64 b) := fun i => ((HS.out _).1 i.property).cell q2
        have d3 : ∀ i : { w' // S w' }, i.val.cell? ⟨cb, co + k * 5 + 3, none⟩ = some (.int .i64 c) := fun i => ((HS.out _).1 i.property).cell q3
        have d4 : ∀ i : { w' // S w' }, i.val.cell? ⟨cb, co + k * 5 + 4, none⟩ = some (.int .i64 n) := fun i => ((HS.out _).1 i.property).cell q4
        have hne : Nonempty { w' // S w' } := ⟨⟨wr, (HS.out _).2 (More.refl _)⟩⟩
        go_wp2_with (fail)
        refine wp_region_ord (S := S) [(0, true), (1, true), (2, true), (3, true), (4, true), (5, true), (6, true), (7, false), (8, true)] (by kernel_rfl) (by kernel_rfl) (by kernel_rfl) ((HS.out _).2 (More.refl _).drew) ?_
        iterate 7 (refine wpOrd_take rfl (by kernel_rfl) (fun K hK => ?_); go_simp; refine hK _ _ ?_; clear hK K)
        refine wpOrd_busy rfl (by kernel_rfl) (fun K hK => ?_); go_simp
        refine (ref_ins ra rl rc _ cl cc op a b c n regs _ rb ro log sec Hr.out.1 (Hr.out.2.more (Hm.out.1.trans (More.refl _).drew)) HA.out).mono ?_
        rintro e w2 ⟨r2, rfl, hr2, m2⟩
        have Hm2 : Hid (More wr w2) := (More.refl _).drew.trans m2
        clear m2
        have e0' := Hm2.out.cell e0
        have e1' := Hm2.out.cell e1
        clear e0 e1
        cases r2 with
        | false =>
          have HF : Hid (¬ InsOk rl log cl regs ⟨op, a, b, c, n⟩) := fun h => by simpa using hr2.2 h
          clear hr2
          go_simp
          refine hK _ _ ((HS.out _).2 Hm2.out) ?_; clear hK K
          refine wpOrd_take rfl (by kernel_rfl) (fun K hK => ?_); go_simp; refine hK _ _ ?_; clear hK K
          refine wpOrd_done ?_
          clear k0 k1 d0 d1 d2 d3 d4 hne q0 q1 q2 q3 q4
          go_wp2
          go_ret
          exact Says.no (fun h => HF.out (HI.out ▸ (HP.out.1 h).2.2.2 k hk)) (Hm.out.1.trans Hm2.out)
        | true =>
          have HF : Hid (InsOk rl log cl regs ⟨op, a, b, c, n⟩) := hr2.1 rfl
          clear hr2
          go_simp
          refine hK _ _ ((HS.out _).2 Hm2.out) ?_; clear hK K
          refine wpOrd_take rfl (by kernel_rfl) (fun K hK => ?_); go_simp; refine hK _ _ ?_; clear hK K
          refine wpOrd_done ?_
          clear k0 k1 d0 d1 d2 d3 d4 hne q0 q1 q2 q3 q4
          go_wp2
          go_roundg g
          case measure => omega
          case rel =>
            refine ⟨k + 1, by omega, by first | rfl | (simp; unfold wrap64; have := Hl.out.2; have := Hcd.out.2; omega), fun j hj => ?_, Hm.out.1.trans Hm2.out, e0', e1'⟩
            by_cases e : j = k
            · subst e; rw [HI.out]; exact HF.out
            · exact Hm.out.2 j (by omega)

theorem ref_hard (p : Prg) (l : Loc) (w : World) (h : PIn w p l) :
    Calls Try.prog 15 #[.agg #[.slice l.ra p.rl l.rc, .slice l.ca p.cl l.cc]] w (Says (p.Ok 8000 10) w) := by
  have H : Hid (PIn w p l) := h
  clear h
  go_enter Try.func15, Try.ntmps15
  go_wp2_with (fail)
  have m0 : More w (w.alloc (.cells #[.slice l.ra p.rl l.rc, .slice l.ca p.cl l.cc] 25)) := (More.refl _).alloc _ _
  refine (ref_is l.ra p.rl l.rc l.ca p.cl l.cc 8000 10 l.rb l.ro l.cb l.co p.log p.sec p.ins _ 8000 rfl (by omega) H.out.hr (H.out.regs.more m0) H.out.hc (H.out.code.more m0)).mono ?_
  rintro e w1 ⟨r, rfl, h1, m1⟩
  have H1 : Hid ((r = true ↔ p.Ok 8000 10) ∧ More w w1) := ⟨h1, m0.trans m1⟩
  clear h1 m1 m0
  go_wp2
  go_ret
  exact ⟨r, rfl, H1.out.1, H1.out.2⟩

end Go.Proofs.Ytifdalddchmlmaa
