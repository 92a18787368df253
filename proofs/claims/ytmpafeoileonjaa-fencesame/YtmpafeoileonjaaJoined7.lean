/-
  The texts CkLeadC, CkLeadD, CkLeads, CkSame, CkVec, CkStates, CkSecret, one behind the other, with what is used of them.
-/
import Derived.Test.YtmpafeoileonjaaJoined6
import Derived.Test.YtmpafeoileonjaaJoined0
import Derived.Test.YtmpafeoileonjaaJoined1
import Derived.Deep.OwnRows
namespace Go.Proofs.Ytmpafeoileonjaa
section
open Go.RowKit
set_option linter.unusedSimpArgs false
set_option linter.unusedVariables false
set_option maxRecDepth 8000
set_option maxHeartbeats 2000000 in
theorem leads_4 (ra : Option Addr) (rb ro rl rc : Nat) (log : Nat → Int) (sec : Nat → Bool) (cb co cl cc at_ g c : Nat) (a b ic n : Int) (s : KS) (w : World) (hra : 0 < rl → ra = some ⟨rb, ro, none⟩) (hregs : RegsAt w rb ro rl log sec)
  (q0 : w.cell? ⟨cb, co + at_ * 5, none⟩ = some (.int .i64 4)) (q1 : w.cell? ⟨cb, co + at_ * 5 + 1, none⟩ = some (.int .i64 a)) (q2 : w.cell? ⟨cb, co + at_ * 5 + 2, none⟩ = some (.int .i64 b)) (q3 : w.cell? ⟨cb, co + at_ * 5 + 3, none⟩ = some (.int .i64 ic)) (q4 : w.cell? ⟨cb, co + at_ * 5 + 4, none⟩ = some (.int .i64 n))
  (hat : (at_ : Int) < cl) (hcl : (cl : Int) ≤ 200) (hk : KRow w g s) :
  Calls Try.prog 24 #[.agg #[.slice ra rl rc, .slice (some ⟨cb, co, none⟩) cl cc], .int .i64 at_, st true g c] w fun e w' => ∃ v, e = .returned v ∧ LdAt w' w.heap.size v [(at_ + 1, s)] ∧ More w w' := by
 have Hk : Hid (KRow w g s) := hk
 have Hreg : Hid ((0 < rl → ra = some ⟨rb, ro, none⟩) ∧ RegsAt w rb ro rl log sec) := ⟨hra, hregs⟩
 have hat2 : (at_ : Int) + 1 ≤ 200 := by omega
 have hcb : cb < w.heap.size := cell_block q0
 have hcb1 : cb < w.heap.size + 1 := by omega
 clear hk hra hregs
 suffices hP : ∀ P : Ending → World → Prop, (∀ v w', LdAt w' w.heap.size v [(at_ + 1, s)] → More w w' → P (.returned v) w') → Calls Try.prog 24 #[.agg #[.slice ra rl rc, .slice (some ⟨cb, co, none⟩) cl cc], .int .i64 at_, st true g c] w P from hP _ (fun v w' h1 h2 => ⟨v, rfl, h1, h2⟩)
 intro P hP0
 have hP : Hid (∀ v w', LdAt w' w.heap.size v [(at_ + 1, s)] → More w w' → P (.returned v) w') := hP0
 clear hP0
 unfold st
 go_enter Try.func24, Try.ntmps24
 go_wp2_with (fail)
 refine (copied_calls true g c s _ (Hk.out.more (((More.refl _).alloc _ _).alloc _ _ |>.alloc _ _))).mono ?_
 rintro e w1 ⟨g1, c1, rfl, hg1, hr1, m1⟩
 obtain ⟨W1, HW1⟩ : ∃ W1 : World, Hid (W1 = w1.alloc (.cells #[.bool true, .slice (some ⟨g1, 0, none⟩) 8 c1] 57)) := ⟨_, rfl⟩
 obtain ⟨HF, HK1, HM, HG, HA, HI⟩ := lead_fix (i := ⟨4, a, b, ic, n⟩) Hk.out Hreg.out.2 m1 hr1 hg1 HW1.out
 replace HF := hid_is HF
 replace HK1 := hid_is HK1
 replace HM := hid_is HM
 replace HG := hid_is HG
 replace HA := hid_is HA
 replace HI := hid_is HI
 clear m1 hr1 hg1 q0 q1 q2 q3 q4
 have i0 : w1.cell? ⟨w.heap.size + 1 + 1, 0, none⟩ = some (.int .i64 4) := HI.out.cell rfl
 have i1 : w1.cell? ⟨w.heap.size + 1 + 1, 1, none⟩ = some (.int .i64 a) := HI.out.cell rfl
 have i2 : w1.cell? ⟨w.heap.size + 1 + 1, 2, none⟩ = some (.int .i64 b) := HI.out.cell rfl
 have i3 : w1.cell? ⟨w.heap.size + 1 + 1, 3, none⟩ = some (.int .i64 ic) := HI.out.cell rfl
 have i4 : w1.cell? ⟨w.heap.size + 1 + 1, 4, none⟩ = some (.int .i64 n) := HI.out.cell rfl
 have zi : w.heap.size + 1 + 1 < w1.heap.size := HI.out.lt
 have Hmw : Hid (More w (w1.alloc (.cells #[.bool true, .slice (some ⟨g1, 0, none⟩) 8 c1] 57))) := HW1.out ▸ HM.out
 have Hkw : Hid (KRow (w1.alloc (.cells #[.bool true, .slice (some ⟨g1, 0, none⟩) 8 c1] 57)) g1 s) := HW1.out ▸ HK1.out
 go_wp2
 exact hP.out _ _ (LdAt.one (by simp) Hkw.out (by have := HG.out; omega)) (Hmw.out.alloc _ _)

set_option maxHeartbeats 2000000 in
theorem leads_6 (ra : Option Addr) (rb ro rl rc : Nat) (log : Nat → Int) (sec : Nat → Bool) (cb co cl cc at_ g c : Nat) (a b ic n : Int) (s : KS) (w : World) (hra : 0 < rl → ra = some ⟨rb, ro, none⟩) (hregs : RegsAt w rb ro rl log sec)
  (q0 : w.cell? ⟨cb, co + at_ * 5, none⟩ = some (.int .i64 6)) (q1 : w.cell? ⟨cb, co + at_ * 5 + 1, none⟩ = some (.int .i64 a)) (q2 : w.cell? ⟨cb, co + at_ * 5 + 2, none⟩ = some (.int .i64 b)) (q3 : w.cell? ⟨cb, co + at_ * 5 + 3, none⟩ = some (.int .i64 ic)) (q4 : w.cell? ⟨cb, co + at_ * 5 + 4, none⟩ = some (.int .i64 n))
  (hat : (at_ : Int) < cl) (hcl : (cl : Int) ≤ 200) (hk : KRow w g s) :
  Calls Try.prog 24 #[.agg #[.slice ra rl rc, .slice (some ⟨cb, co, none⟩) cl cc], .int .i64 at_, st true g c] w fun e w' => ∃ v, e = .returned v ∧ LdAt w' w.heap.size v [(at_ + 1, s)] ∧ More w w' := by
 have Hk : Hid (KRow w g s) := hk
 have Hreg : Hid ((0 < rl → ra = some ⟨rb, ro, none⟩) ∧ RegsAt w rb ro rl log sec) := ⟨hra, hregs⟩
 have hat2 : (at_ : Int) + 1 ≤ 200 := by omega
 have hcb : cb < w.heap.size := cell_block q0
 have hcb1 : cb < w.heap.size + 1 := by omega
 clear hk hra hregs
 suffices hP : ∀ P : Ending → World → Prop, (∀ v w', LdAt w' w.heap.size v [(at_ + 1, s)] → More w w' → P (.returned v) w') → Calls Try.prog 24 #[.agg #[.slice ra rl rc, .slice (some ⟨cb, co, none⟩) cl cc], .int .i64 at_, st true g c] w P from hP _ (fun v w' h1 h2 => ⟨v, rfl, h1, h2⟩)
 intro P hP0
 have hP : Hid (∀ v w', LdAt w' w.heap.size v [(at_ + 1, s)] → More w w' → P (.returned v) w') := hP0
 clear hP0
 unfold st
 go_enter Try.func24, Try.ntmps24
 go_wp2_with (fail)
 refine (copied_calls true g c s _ (Hk.out.more (((More.refl _).alloc _ _).alloc _ _ |>.alloc _ _))).mono ?_
 rintro e w1 ⟨g1, c1, rfl, hg1, hr1, m1⟩
 obtain ⟨W1, HW1⟩ : ∃ W1 : World, Hid (W1 = w1.alloc (.cells #[.bool true, .slice (some ⟨g1, 0, none⟩) 8 c1] 57)) := ⟨_, rfl⟩
 obtain ⟨HF, HK1, HM, HG, HA, HI⟩ := lead_fix (i := ⟨6, a, b, ic, n⟩) Hk.out Hreg.out.2 m1 hr1 hg1 HW1.out
 replace HF := hid_is HF
 replace HK1 := hid_is HK1
 replace HM := hid_is HM
 replace HG := hid_is HG
 replace HA := hid_is HA
 replace HI := hid_is HI
 clear m1 hr1 hg1 q0 q1 q2 q3 q4
 have i0 : w1.cell? ⟨w.heap.size + 1 + 1, 0, none⟩ = some (.int .i64 6) := HI.out.cell rfl
 have i1 : w1.cell? ⟨w.heap.size + 1 + 1, 1, none⟩ = some (.int .i64 a) := HI.out.cell rfl
 have i2 : w1.cell? ⟨w.heap.size + 1 + 1, 2, none⟩ = some (.int .i64 b) := HI.out.cell rfl
 have i3 : w1.cell? ⟨w.heap.size + 1 + 1, 3, none⟩ = some (.int .i64 ic) := HI.out.cell rfl
 have i4 : w1.cell? ⟨w.heap.size + 1 + 1, 4, none⟩ = some (.int .i64 n) := HI.out.cell rfl
 have zi : w.heap.size + 1 + 1 < w1.heap.size := HI.out.lt
 have Hmw : Hid (More w (w1.alloc (.cells #[.bool true, .slice (some ⟨g1, 0, none⟩) 8 c1] 57))) := HW1.out ▸ HM.out
 have Hkw : Hid (KRow (w1.alloc (.cells #[.bool true, .slice (some ⟨g1, 0, none⟩) 8 c1] 57)) g1 s) := HW1.out ▸ HK1.out
 go_wp2
 exact hP.out _ _ (LdAt.one (by simp) Hkw.out (by have := HG.out; omega)) (Hmw.out.alloc _ _)

set_option maxHeartbeats 2000000 in
theorem leads_12 (ra : Option Addr) (rb ro rl rc : Nat) (log : Nat → Int) (sec : Nat → Bool) (cb co cl cc at_ g c : Nat) (a b ic n : Int) (s : KS) (w : World) (hra : 0 < rl → ra = some ⟨rb, ro, none⟩) (hregs : RegsAt w rb ro rl log sec)
  (q0 : w.cell? ⟨cb, co + at_ * 5, none⟩ = some (.int .i64 12)) (q1 : w.cell? ⟨cb, co + at_ * 5 + 1, none⟩ = some (.int .i64 a)) (q2 : w.cell? ⟨cb, co + at_ * 5 + 2, none⟩ = some (.int .i64 b)) (q3 : w.cell? ⟨cb, co + at_ * 5 + 3, none⟩ = some (.int .i64 ic)) (q4 : w.cell? ⟨cb, co + at_ * 5 + 4, none⟩ = some (.int .i64 n))
  (hat : (at_ : Int) < cl) (hcl : (cl : Int) ≤ 200) (hk : KRow w g s) :
  Calls Try.prog 24 #[.agg #[.slice ra rl rc, .slice (some ⟨cb, co, none⟩) cl cc], .int .i64 at_, st true g c] w fun e w' => ∃ v, e = .returned v ∧ LdAt w' w.heap.size v [(at_ + 1, s)] ∧ More w w' := by
 have Hk : Hid (KRow w g s) := hk
 have Hreg : Hid ((0 < rl → ra = some ⟨rb, ro, none⟩) ∧ RegsAt w rb ro rl log sec) := ⟨hra, hregs⟩
 have hat2 : (at_ : Int) + 1 ≤ 200 := by omega
 have hcb : cb < w.heap.size := cell_block q0
 have hcb1 : cb < w.heap.size + 1 := by omega
 clear hk hra hregs
 suffices hP : ∀ P : Ending → World → Prop, (∀ v w', LdAt w' w.heap.size v [(at_ + 1, s)] → More w w' → P (.returned v) w') → Calls Try.prog 24 #[.agg #[.slice ra rl rc, .slice (some ⟨cb, co, none⟩) cl cc], .int .i64 at_, st true g c] w P from hP _ (fun v w' h1 h2 => ⟨v, rfl, h1, h2⟩)
 intro P hP0
 have hP : Hid (∀ v w', LdAt w' w.heap.size v [(at_ + 1, s)] → More w w' → P (.returned v) w') := hP0
 clear hP0
 unfold st
 go_enter Try.func24, Try.ntmps24
 go_wp2_with (fail)
 refine (copied_calls true g c s _ (Hk.out.more (((More.refl _).alloc _ _).alloc _ _ |>.alloc _ _))).mono ?_
 rintro e w1 ⟨g1, c1, rfl, hg1, hr1, m1⟩
 obtain ⟨W1, HW1⟩ : ∃ W1 : World, Hid (W1 = w1.alloc (.cells #[.bool true, .slice (some ⟨g1, 0, none⟩) 8 c1] 57)) := ⟨_, rfl⟩
 obtain ⟨HF, HK1, HM, HG, HA, HI⟩ := lead_fix (i := ⟨12, a, b, ic, n⟩) Hk.out Hreg.out.2 m1 hr1 hg1 HW1.out
 replace HF := hid_is HF
 replace HK1 := hid_is HK1
 replace HM := hid_is HM
 replace HG := hid_is HG
 replace HA := hid_is HA
 replace HI := hid_is HI
 clear m1 hr1 hg1 q0 q1 q2 q3 q4
 have i0 : w1.cell? ⟨w.heap.size + 1 + 1, 0, none⟩ = some (.int .i64 12) := HI.out.cell rfl
 have i1 : w1.cell? ⟨w.heap.size + 1 + 1, 1, none⟩ = some (.int .i64 a) := HI.out.cell rfl
 have i2 : w1.cell? ⟨w.heap.size + 1 + 1, 2, none⟩ = some (.int .i64 b) := HI.out.cell rfl
 have i3 : w1.cell? ⟨w.heap.size + 1 + 1, 3, none⟩ = some (.int .i64 ic) := HI.out.cell rfl
 have i4 : w1.cell? ⟨w.heap.size + 1 + 1, 4, none⟩ = some (.int .i64 n) := HI.out.cell rfl
 have zi : w.heap.size + 1 + 1 < w1.heap.size := HI.out.lt
 have Hmw : Hid (More w (w1.alloc (.cells #[.bool true, .slice (some ⟨g1, 0, none⟩) 8 c1] 57))) := HW1.out ▸ HM.out
 have Hkw : Hid (KRow (w1.alloc (.cells #[.bool true, .slice (some ⟨g1, 0, none⟩) 8 c1] 57)) g1 s) := HW1.out ▸ HK1.out
 go_wp2
 exact hP.out _ _ (LdAt.one (by simp) Hkw.out (by have := HG.out; omega)) (Hmw.out.alloc _ _)

set_option maxHeartbeats 2000000 in
theorem leads_7 (ra : Option Addr) (rb ro rl rc : Nat) (log : Nat → Int) (sec : Nat → Bool) (cb co cl cc at_ g c : Nat) (a b ic n : Int) (s : KS) (w : World) (hra : 0 < rl → ra = some ⟨rb, ro, none⟩) (hregs : RegsAt w rb ro rl log sec)
  (q0 : w.cell? ⟨cb, co + at_ * 5, none⟩ = some (.int .i64 7)) (q1 : w.cell? ⟨cb, co + at_ * 5 + 1, none⟩ = some (.int .i64 a)) (q2 : w.cell? ⟨cb, co + at_ * 5 + 2, none⟩ = some (.int .i64 b)) (q3 : w.cell? ⟨cb, co + at_ * 5 + 3, none⟩ = some (.int .i64 ic)) (q4 : w.cell? ⟨cb, co + at_ * 5 + 4, none⟩ = some (.int .i64 n))
  (hat : (at_ : Int) < cl) (hcl : (cl : Int) ≤ 200) (hk : KRow w g s) (n0 : 0 ≤ n) (n1 : n < 200) :
  Calls Try.prog 24 #[.agg #[.slice ra rl rc, .slice (some ⟨cb, co, none⟩) cl cc], .int .i64 at_, st true g c] w fun e w' => ∃ v, e = .returned v ∧ LdAt w' w.heap.size v [(n.toNat, s)] ∧ More w w' := by
 have Hk : Hid (KRow w g s) := hk
 have Hreg : Hid ((0 < rl → ra = some ⟨rb, ro, none⟩) ∧ RegsAt w rb ro rl log sec) := ⟨hra, hregs⟩
 have hat2 : (at_ : Int) + 1 ≤ 200 := by omega
 have hcb : cb < w.heap.size := cell_block q0
 have hcb1 : cb < w.heap.size + 1 := by omega
 clear hk hra hregs
 suffices hP : ∀ P : Ending → World → Prop, (∀ v w', LdAt w' w.heap.size v [(n.toNat, s)] → More w w' → P (.returned v) w') → Calls Try.prog 24 #[.agg #[.slice ra rl rc, .slice (some ⟨cb, co, none⟩) cl cc], .int .i64 at_, st true g c] w P from hP _ (fun v w' h1 h2 => ⟨v, rfl, h1, h2⟩)
 intro P hP0
 have hP : Hid (∀ v w', LdAt w' w.heap.size v [(n.toNat, s)] → More w w' → P (.returned v) w') := hP0
 clear hP0
 unfold st
 go_enter Try.func24, Try.ntmps24
 go_wp2_with (fail)
 refine (copied_calls true g c s _ (Hk.out.more (((More.refl _).alloc _ _).alloc _ _ |>.alloc _ _))).mono ?_
 rintro e w1 ⟨g1, c1, rfl, hg1, hr1, m1⟩
 obtain ⟨W1, HW1⟩ : ∃ W1 : World, Hid (W1 = w1.alloc (.cells #[.bool true, .slice (some ⟨g1, 0, none⟩) 8 c1] 57)) := ⟨_, rfl⟩
 obtain ⟨HF, HK1, HM, HG, HA, HI⟩ := lead_fix (i := ⟨7, a, b, ic, n⟩) Hk.out Hreg.out.2 m1 hr1 hg1 HW1.out
 replace HF := hid_is HF
 replace HK1 := hid_is HK1
 replace HM := hid_is HM
 replace HG := hid_is HG
 replace HA := hid_is HA
 replace HI := hid_is HI
 clear m1 hr1 hg1 q0 q1 q2 q3 q4
 have i0 : w1.cell? ⟨w.heap.size + 1 + 1, 0, none⟩ = some (.int .i64 7) := HI.out.cell rfl
 have i1 : w1.cell? ⟨w.heap.size + 1 + 1, 1, none⟩ = some (.int .i64 a) := HI.out.cell rfl
 have i2 : w1.cell? ⟨w.heap.size + 1 + 1, 2, none⟩ = some (.int .i64 b) := HI.out.cell rfl
 have i3 : w1.cell? ⟨w.heap.size + 1 + 1, 3, none⟩ = some (.int .i64 ic) := HI.out.cell rfl
 have i4 : w1.cell? ⟨w.heap.size + 1 + 1, 4, none⟩ = some (.int .i64 n) := HI.out.cell rfl
 have zi : w.heap.size + 1 + 1 < w1.heap.size := HI.out.lt
 have hn : ((n.toNat : Nat) : Int) = n := by omega
 have Hn : Hid (((n.toNat : Nat) : Int) = n) := hn
 clear hn
 have Hmw : Hid (More w (w1.alloc (.cells #[.bool true, .slice (some ⟨g1, 0, none⟩) 8 c1] 57))) := HW1.out ▸ HM.out
 have Hkw : Hid (KRow (w1.alloc (.cells #[.bool true, .slice (some ⟨g1, 0, none⟩) 8 c1] 57)) g1 s) := HW1.out ▸ HK1.out
 go_wp2
 exact hP.out _ _ (by have := LdAt.one (to := n.toNat) (c := c1) (cap := 1) (b := w1.heap.size + 1) (by simp) Hkw.out (lo := w.heap.size) (by have := HG.out; omega); rw [Hn.out] at this; exact this) (Hmw.out.alloc _ _)

set_option maxHeartbeats 2000000 in
theorem leads_9 (ra : Option Addr) (rb ro rl rc : Nat) (log : Nat → Int) (sec : Nat → Bool) (cb co cl cc at_ g c : Nat) (a b ic n : Int) (s : KS) (w : World) (hra : 0 < rl → ra = some ⟨rb, ro, none⟩) (hregs : RegsAt w rb ro rl log sec)
  (q0 : w.cell? ⟨cb, co + at_ * 5, none⟩ = some (.int .i64 9)) (q1 : w.cell? ⟨cb, co + at_ * 5 + 1, none⟩ = some (.int .i64 a)) (q2 : w.cell? ⟨cb, co + at_ * 5 + 2, none⟩ = some (.int .i64 b)) (q3 : w.cell? ⟨cb, co + at_ * 5 + 3, none⟩ = some (.int .i64 ic)) (q4 : w.cell? ⟨cb, co + at_ * 5 + 4, none⟩ = some (.int .i64 n))
  (hat : (at_ : Int) < cl) (hcl : (cl : Int) ≤ 200) (hk : KRow w g s) :
  Calls Try.prog 24 #[.agg #[.slice ra rl rc, .slice (some ⟨cb, co, none⟩) cl cc], .int .i64 at_, st true g c] w fun e w' => ∃ v, e = .returned v ∧ LdAt w' w.heap.size v [] ∧ More w w' := by
 have Hk : Hid (KRow w g s) := hk
 have Hreg : Hid ((0 < rl → ra = some ⟨rb, ro, none⟩) ∧ RegsAt w rb ro rl log sec) := ⟨hra, hregs⟩
 have hat2 : (at_ : Int) + 1 ≤ 200 := by omega
 have hcb : cb < w.heap.size := cell_block q0
 have hcb1 : cb < w.heap.size + 1 := by omega
 clear hk hra hregs
 suffices hP : ∀ P : Ending → World → Prop, (∀ v w', LdAt w' w.heap.size v [] → More w w' → P (.returned v) w') → Calls Try.prog 24 #[.agg #[.slice ra rl rc, .slice (some ⟨cb, co, none⟩) cl cc], .int .i64 at_, st true g c] w P from hP _ (fun v w' h1 h2 => ⟨v, rfl, h1, h2⟩)
 intro P hP0
 have hP : Hid (∀ v w', LdAt w' w.heap.size v [] → More w w' → P (.returned v) w') := hP0
 clear hP0
 unfold st
 go_enter Try.func24, Try.ntmps24
 go_wp2_with (fail)
 refine (copied_calls true g c s _ (Hk.out.more (((More.refl _).alloc _ _).alloc _ _ |>.alloc _ _))).mono ?_
 rintro e w1 ⟨g1, c1, rfl, hg1, hr1, m1⟩
 obtain ⟨W1, HW1⟩ : ∃ W1 : World, Hid (W1 = w1.alloc (.cells #[.bool true, .slice (some ⟨g1, 0, none⟩) 8 c1] 57)) := ⟨_, rfl⟩
 obtain ⟨HF, HK1, HM, HG, HA, HI⟩ := lead_fix (i := ⟨9, a, b, ic, n⟩) Hk.out Hreg.out.2 m1 hr1 hg1 HW1.out
 replace HF := hid_is HF
 replace HK1 := hid_is HK1
 replace HM := hid_is HM
 replace HG := hid_is HG
 replace HA := hid_is HA
 replace HI := hid_is HI
 clear m1 hr1 hg1 q0 q1 q2 q3 q4
 have i0 : w1.cell? ⟨w.heap.size + 1 + 1, 0, none⟩ = some (.int .i64 9) := HI.out.cell rfl
 have i1 : w1.cell? ⟨w.heap.size + 1 + 1, 1, none⟩ = some (.int .i64 a) := HI.out.cell rfl
 have i2 : w1.cell? ⟨w.heap.size + 1 + 1, 2, none⟩ = some (.int .i64 b) := HI.out.cell rfl
 have i3 : w1.cell? ⟨w.heap.size + 1 + 1, 3, none⟩ = some (.int .i64 ic) := HI.out.cell rfl
 have i4 : w1.cell? ⟨w.heap.size + 1 + 1, 4, none⟩ = some (.int .i64 n) := HI.out.cell rfl
 have zi : w.heap.size + 1 + 1 < w1.heap.size := HI.out.lt
 have Hmw : Hid (More w (w1.alloc (.cells #[.bool true, .slice (some ⟨g1, 0, none⟩) 8 c1] 57))) := HW1.out ▸ HM.out
 have Hkw : Hid (KRow (w1.alloc (.cells #[.bool true, .slice (some ⟨g1, 0, none⟩) 8 c1] 57)) g1 s) := HW1.out ▸ HK1.out
 go_wp2
 exact hP.out _ _ ⟨none, w.heap.size, 0, rfl, fun h => absurd h (by simp), Nat.le_refl _, by simp, fun k x hx => by simp at hx⟩ Hmw.out
set_option maxHeartbeats 2000000 in
theorem leads_8 (ra : Option Addr) (rb ro rl rc : Nat) (log : Nat → Int) (sec : Nat → Bool) (cb co cl cc at_ g c : Nat) (a b ic n : Int) (s : KS) (w : World) (hra : 0 < rl → ra = some ⟨rb, ro, none⟩) (hregs : RegsAt w rb ro rl log sec)
  (q0 : w.cell? ⟨cb, co + at_ * 5, none⟩ = some (.int .i64 8)) (q1 : w.cell? ⟨cb, co + at_ * 5 + 1, none⟩ = some (.int .i64 a)) (q2 : w.cell? ⟨cb, co + at_ * 5 + 2, none⟩ = some (.int .i64 b)) (q3 : w.cell? ⟨cb, co + at_ * 5 + 3, none⟩ = some (.int .i64 ic)) (q4 : w.cell? ⟨cb, co + at_ * 5 + 4, none⟩ = some (.int .i64 n))
  (hat : (at_ : Int) < cl) (hcl : (cl : Int) ≤ 200) (hk : KRow w g s) (ha0 : 0 ≤ a) (ha1 : a < 8) (hb0 : 0 ≤ b) (hb1 : b < 8) (hic : ic = 1 ∨ ic = 2 ∨ ic = 3 ∨ ic = 4) (n0 : 0 ≤ n) (n1 : n < 200) :
  Calls Try.prog 24 #[.agg #[.slice ra rl rc, .slice (some ⟨cb, co, none⟩) cl cc], .int .i64 at_, st true g c] w fun e w' => ∃ v, e = .returned v ∧ LdAt w' w.heap.size v [(n.toNat, yesK ⟨8, a, b, ic, n⟩ s), (at_ + 1, noK ⟨8, a, b, ic, n⟩ s)] ∧ More w w' := by
 have Hk : Hid (KRow w g s) := hk
 have Hreg : Hid ((0 < rl → ra = some ⟨rb, ro, none⟩) ∧ RegsAt w rb ro rl log sec) := ⟨hra, hregs⟩
 have hat2 : (at_ : Int) + 1 ≤ 200 := by omega
 have hcb : cb < w.heap.size := cell_block q0
 have hcb1 : cb < w.heap.size + 1 := by omega
 clear hk hra hregs
 suffices hP : ∀ P : Ending → World → Prop, (∀ v w', LdAt w' w.heap.size v [(n.toNat, yesK ⟨8, a, b, ic, n⟩ s), (at_ + 1, noK ⟨8, a, b, ic, n⟩ s)] → More w w' → P (.returned v) w') → Calls Try.prog 24 #[.agg #[.slice ra rl rc, .slice (some ⟨cb, co, none⟩) cl cc], .int .i64 at_, st true g c] w P from hP _ (fun v w' h1 h2 => ⟨v, rfl, h1, h2⟩)
 intro P hP0
 have hP : Hid (∀ v w', LdAt w' w.heap.size v [(n.toNat, yesK ⟨8, a, b, ic, n⟩ s), (at_ + 1, noK ⟨8, a, b, ic, n⟩ s)] → More w w' → P (.returned v) w') := hP0
 clear hP0
 unfold st
 go_enter Try.func24, Try.ntmps24
 go_wp2_with (fail)
 refine (copied_calls true g c s _ (Hk.out.more (((More.refl _).alloc _ _).alloc _ _ |>.alloc _ _))).mono ?_
 rintro e w1 ⟨g1, c1, rfl, hg1, hr1, m1⟩
 obtain ⟨W1, HW1⟩ : ∃ W1 : World, Hid (W1 = w1.alloc (.cells #[.bool true, .slice (some ⟨g1, 0, none⟩) 8 c1] 57)) := ⟨_, rfl⟩
 obtain ⟨HF, HK1, HM, HG, HA, HI⟩ := lead_fix (i := ⟨8, a, b, ic, n⟩) Hk.out Hreg.out.2 m1 hr1 hg1 HW1.out
 replace HF := hid_is HF
 replace HK1 := hid_is HK1
 replace HM := hid_is HM
 replace HG := hid_is HG
 replace HA := hid_is HA
 replace HI := hid_is HI
 have HX0 : KRow w1 g s ∧ Blk w1 (w.heap.size + 1) #[.bool true, .slice (some ⟨g, 0, none⟩) 8 c] 57 := ⟨Hk.out.more ((((More.refl _).alloc _ _).alloc _ _ |>.alloc _ _).trans m1), ((by simpa using Blk.last (w.alloc (.cells #[.slice ra rl rc, .slice (some ⟨cb, co, none⟩) cl cc] 25)) #[.bool true, .slice (some ⟨g, 0, none⟩) 8 c] 57 : Blk ((w.alloc (.cells #[.slice ra rl rc, .slice (some ⟨cb, co, none⟩) cl cc] 25)).alloc (.cells #[.bool true, .slice (some ⟨g, 0, none⟩) 8 c] 57)) (w.heap.size + 1) #[.bool true, .slice (some ⟨g, 0, none⟩) 8 c] 57).more ((More.refl _).alloc _ _)).more m1⟩
 clear m1 hr1 hg1 q0 q1 q2 q3 q4
 have i0 : w1.cell? ⟨w.heap.size + 1 + 1, 0, none⟩ = some (.int .i64 8) := HI.out.cell rfl
 have i1 : w1.cell? ⟨w.heap.size + 1 + 1, 1, none⟩ = some (.int .i64 a) := HI.out.cell rfl
 have i2 : w1.cell? ⟨w.heap.size + 1 + 1, 2, none⟩ = some (.int .i64 b) := HI.out.cell rfl
 have i3 : w1.cell? ⟨w.heap.size + 1 + 1, 3, none⟩ = some (.int .i64 ic) := HI.out.cell rfl
 have i4 : w1.cell? ⟨w.heap.size + 1 + 1, 4, none⟩ = some (.int .i64 n) := HI.out.cell rfl
 have zi : w.heap.size + 1 + 1 < w1.heap.size := HI.out.lt
 have Hn : Hid (((n.toNat : Nat) : Int) = n) := by show _ = _; omega
 obtain ⟨xa, hxa⟩ : ∃ x, s a.toNat = x := ⟨_, rfl⟩
 obtain ⟨xb, hxb⟩ : ∃ x, s b.toNat = x := ⟨_, rfl⟩
 have Hx : Hid (s a.toNat = ⟨xa.b, xa.s⟩ ∧ s b.toNat = ⟨xb.b, xb.s⟩) := ⟨hxa, hxb⟩
 obtain ⟨xab, xas⟩ := xa
 obtain ⟨xbb, xbs⟩ := xb
 clear hxa hxb
 dsimp only at Hx
 have HX : Hid (KRow w1 g s ∧ Blk w1 (w.heap.size + 1) #[.bool true, .slice (some ⟨g, 0, none⟩) 8 c] 57) := HX0
 have s1 : w1.cell? ⟨w.heap.size + 1, 1, none⟩ = some (.slice (some ⟨g, 0, none⟩) 8 c) := HX.out.2.cell rfl
 have zs : w.heap.size + 1 < w1.heap.size := HX.out.2.lt
 have a0 : w1.cell? ⟨g, a.toNat * 2, none⟩ = some (.int .i64 xab) := by have := (HX.out.1 a.toNat (by omega)).1.1; rw [Hx.out.1] at this; exact this
 have a1 : w1.cell? ⟨g, a.toNat * 2 + 1, none⟩ = some (.bool xas) := by have := (HX.out.1 a.toNat (by omega)).1.2; rw [Hx.out.1] at this; exact this
 have b0 : w1.cell? ⟨g, b.toNat * 2, none⟩ = some (.int .i64 xbb) := by have := (HX.out.1 b.toNat (by omega)).1.1; rw [Hx.out.2] at this; exact this
 have b1 : w1.cell? ⟨g, b.toNat * 2 + 1, none⟩ = some (.bool xbs) := by have := (HX.out.1 b.toNat (by omega)).1.2; rw [Hx.out.2] at this; exact this
 have zg : g < w1.heap.size := cell_block a0
 have zg1 : g < w1.heap.size + 1 := by omega
 have zs1 : w.heap.size + 1 < w1.heap.size + 1 := by omega
 have zi1 : w.heap.size + 1 + 1 < w1.heap.size + 1 := by omega
 have zi2 : w.heap.size + 1 + 1 < w1.heap.size + 1 + 1 := by omega
 have Hkw : Hid (KRow (w1.alloc (.cells #[.bool true, .slice (some ⟨g1, 0, none⟩) 8 c1] 57)) g1 s ∧ More w (w1.alloc (.cells #[.bool true, .slice (some ⟨g1, 0, none⟩) 8 c1] 57))) := ⟨HW1.out ▸ HK1.out, HW1.out ▸ HM.out⟩
 obtain ⟨WB, HWB⟩ : ∃ WB : World, Hid (WB = ((w1.alloc (.cells #[.bool true, .slice (some ⟨g1, 0, none⟩) 8 c1] 57)).alloc (.cells #[.int .i64 xab, .bool xas] 65)).alloc (.cells #[.int .i64 xbb, .bool xbs] 65)) := ⟨_, rfl⟩
 have HmB : Hid (More (w1.alloc (.cells #[.bool true, .slice (some ⟨g1, 0, none⟩) 8 c1] 57)) WB) := HWB.out ▸ ((More.refl _).alloc _ _).alloc _ _
 have HT8 : Hid (Blk WB w1.heap.size #[.bool true, .slice (some ⟨g1, 0, none⟩) 8 c1] 57) := (Blk.last w1 _ _).more HmB.out
 have HTA : Hid (Blk WB (w1.heap.size + 1) #[.int .i64 xab, .bool xas] 65) := by
  show Blk _ _ _ _
  rw [HWB.out]
  exact (by simpa using Blk.last (w1.alloc (.cells #[.bool true, .slice (some ⟨g1, 0, none⟩) 8 c1] 57)) #[.int .i64 xab, .bool xas] 65 : Blk ((w1.alloc (.cells #[.bool true, .slice (some ⟨g1, 0, none⟩) 8 c1] 57)).alloc (.cells #[.int .i64 xab, .bool xas] 65)) (w1.heap.size + 1) #[.int .i64 xab, .bool xas] 65).more ((More.refl _).alloc _ _)
 have HTB : Hid (Blk WB (w1.heap.size + 1 + 1) #[.int .i64 xbb, .bool xbs] 65) := by
  show Blk _ _ _ _
  rw [HWB.out]
  simpa using Blk.last ((w1.alloc (.cells #[.bool true, .slice (some ⟨g1, 0, none⟩) 8 c1] 57)).alloc (.cells #[.int .i64 xab, .bool xas] 65)) #[.int .i64 xbb, .bool xbs] 65
 have HIB : Hid (Blk WB (w.heap.size + 1 + 1) #[.int .i64 8, .int .i64 a, .int .i64 b, .int .i64 ic, .int .i64 n] 59) := HI.out.more (((More.refl _).alloc _ _).trans HmB.out)
 go_wp2_with (fail)
 rw [← HWB.out]
 refine (less6_calls true g1 c1 s a ⟨xab, xas⟩ ⟨xbb, xbs⟩ _ (Hkw.out.1.more HmB.out) ha0 ha1).mono ?_
 rintro e w2 ⟨gF, cF, rfl, hgF, hrF, m2⟩
 have HRF : Hid (KRow w2 gF (firstK ⟨8, a, b, ic, n⟩ s) ∧ w.heap.size ≤ gF) := ⟨by unfold firstK; dsimp only; rw [Hx.out.1, Hx.out.2]; exact hrF, by have := (Hkw.out.2.trans HmB.out).size; omega⟩
 have HM2 : Hid (More WB w2) := m2
 clear m2 hrF hgF i0 i1 i2 i3 i4 zi s1 zs a0 a1 b0 b1 zg zg1 zs1 zi1 zi2
 have r0 : w2.cell? ⟨w1.heap.size, 0, none⟩ = some (.bool true) := (HT8.out.more HM2.out).cell rfl
 have r1 : w2.cell? ⟨w1.heap.size, 1, none⟩ = some (.slice (some ⟨g1, 0, none⟩) 8 c1) := (HT8.out.more HM2.out).cell rfl
 have r2 : w2.cell? ⟨w1.heap.size + 1, 0, none⟩ = some (.int .i64 xab) := (HTA.out.more HM2.out).cell rfl
 have r3 : w2.cell? ⟨w1.heap.size + 1, 1, none⟩ = some (.bool xas) := (HTA.out.more HM2.out).cell rfl
 have r4 : w2.cell? ⟨w1.heap.size + 1 + 1, 0, none⟩ = some (.int .i64 xbb) := (HTB.out.more HM2.out).cell rfl
 have r5 : w2.cell? ⟨w1.heap.size + 1 + 1, 1, none⟩ = some (.bool xbs) := (HTB.out.more HM2.out).cell rfl
 have r6 : w2.cell? ⟨w.heap.size + 1 + 1, 2, none⟩ = some (.int .i64 b) := (HIB.out.more HM2.out).cell rfl
 have z0 := cell_block r0
 have z2 := cell_block r2
 have z4 := cell_block r4
 have z6 := cell_block r6
 dsimp only at z0 z2 z4 z6
 go_wp2_with (fail)
 refine (less6_calls true g1 c1 s b ⟨xbb, xbs⟩ ⟨xab, xas⟩ _ (((Hkw.out.1.more HmB.out).more HM2.out).more ((More.refl _).alloc _ _)) hb0 hb1).mono ?_
 rintro e w3 ⟨gS, cS, rfl, hgS, hrS, m3⟩
 have HM3 : Hid (More w2 w3) := ((More.refl _).alloc _ _).trans m3
 have HTF : Hid (Blk w3 w2.heap.size #[.bool true, .slice (some ⟨gF, 0, none⟩) 8 cF] 57) := (Blk.last w2 _ _).more m3
 have HRS : Hid (KRow w3 gS (secondK ⟨8, a, b, ic, n⟩ s) ∧ w.heap.size ≤ gS) := ⟨by unfold secondK; dsimp only; rw [Hx.out.1, Hx.out.2]; exact hrS, by have h1 := (Hkw.out.2.trans HmB.out).size; have h2 := HM2.out.size; have h3 : (w2.alloc (.cells #[.bool true, .slice (some ⟨gF, 0, none⟩) 8 cF] 57)).heap.size ≤ gS := hgS; simp at h3; omega⟩
 clear m3 hrS hgS
 replace r0 := HM3.out.cell r0
 replace r1 := HM3.out.cell r1
 replace r2 := HM3.out.cell r2
 replace r3 := HM3.out.cell r3
 replace r4 := HM3.out.cell r4
 replace r5 := HM3.out.cell r5
 replace r6 := HM3.out.cell r6
 have r7 : w3.cell? ⟨w2.heap.size, 0, none⟩ = some (.bool true) := HTF.out.cell rfl
 have r8 : w3.cell? ⟨w2.heap.size, 1, none⟩ = some (.slice (some ⟨gF, 0, none⟩) 8 cF) := HTF.out.cell rfl
 have y0 := cell_block r0
 have y2 := cell_block r2
 have y4 := cell_block r4
 have y6 := cell_block r6
 have y7 := cell_block r7
 dsimp only at y0 y2 y4 y6 y7
 go_wp2_with (fail)
 refine (less6_calls true gF cF (firstK ⟨8, a, b, ic, n⟩ s) b ⟨xbb, xbs⟩ ⟨xab, xas⟩ _ ((HRF.out.1.more HM3.out).more ((More.refl _).alloc _ _)) hb0 hb1).mono ?_
 rintro e w4 ⟨gB, cB, rfl, hgB, hrB, m4⟩
 have HM4 : Hid (More w3 w4) := ((More.refl _).alloc _ _).trans m4
 have HTS : Hid (Blk w4 w3.heap.size #[.bool true, .slice (some ⟨gS, 0, none⟩) 8 cS] 57) := (Blk.last w3 _ _).more m4
 have HRB : Hid (KRow w4 gB (bothK ⟨8, a, b, ic, n⟩ s) ∧ w.heap.size ≤ gB) := ⟨by unfold bothK; dsimp only; rw [Hx.out.1, Hx.out.2]; exact hrB, by have h1 := (Hkw.out.2.trans HmB.out).size; have h2 := HM2.out.size; have h4 := HM3.out.size; have h3 : (w3.alloc (.cells #[.bool true, .slice (some ⟨gS, 0, none⟩) 8 cS] 57)).heap.size ≤ gB := hgB; simp at h3; omega⟩
 clear m4 hrB hgB
 replace r0 := HM4.out.cell r0
 replace r1 := HM4.out.cell r1
 replace r7 := HM4.out.cell r7
 replace r8 := HM4.out.cell r8
 have r9 : w4.cell? ⟨w3.heap.size, 0, none⟩ = some (.bool true) := HTS.out.cell rfl
 have r10 : w4.cell? ⟨w3.heap.size, 1, none⟩ = some (.slice (some ⟨gS, 0, none⟩) 8 cS) := HTS.out.cell rfl
 have r11 : w4.cell? ⟨w.heap.size + 1 + 1, 3, none⟩ = some (.int .i64 ic) := (HIB.out.more ((HM2.out.trans HM3.out).trans HM4.out)).cell rfl
 have r12 : w4.cell? ⟨w.heap.size + 1 + 1, 4, none⟩ = some (.int .i64 n) := (HIB.out.more ((HM2.out.trans HM3.out).trans HM4.out)).cell rfl
 have x0 := cell_block r0
 have x7 := cell_block r7
 have x9 := cell_block r9
 have x11 := cell_block r11
 dsimp only at x0 x7 x9 x11
 have HmE : Hid (More w (w4.alloc (.cells #[.bool true, .slice (some ⟨gB, 0, none⟩) 8 cB] 57))) := (((((Hkw.out.2.trans HmB.out).trans HM2.out).trans HM3.out).trans HM4.out)).alloc _ _
 have K1 : Hid (KRow (w4.alloc (.cells #[.bool true, .slice (some ⟨gB, 0, none⟩) 8 cB] 57)) g1 s) := (((((Hkw.out.1.more HmB.out).more HM2.out).more HM3.out).more HM4.out)).more ((More.refl _).alloc _ _)
 have K2 : Hid (KRow (w4.alloc (.cells #[.bool true, .slice (some ⟨gB, 0, none⟩) 8 cB] 57)) gF (firstK ⟨8, a, b, ic, n⟩ s)) := ((HRF.out.1.more HM3.out).more HM4.out).more ((More.refl _).alloc _ _)
 have K3 : Hid (KRow (w4.alloc (.cells #[.bool true, .slice (some ⟨gB, 0, none⟩) 8 cB] 57)) gS (secondK ⟨8, a, b, ic, n⟩ s)) := (HRS.out.1.more HM4.out).more ((More.refl _).alloc _ _)
 have K4 : Hid (KRow (w4.alloc (.cells #[.bool true, .slice (some ⟨gB, 0, none⟩) 8 cB] 57)) gB (bothK ⟨8, a, b, ic, n⟩ s)) := HRB.out.1.more ((More.refl _).alloc _ _)
 rcases hic with rfl | rfl | rfl | rfl
 ·go_wp2
  exact hP.out _ _ (by have := LdAt.two (w := w4.alloc (.cells #[.bool true, .slice (some ⟨gB, 0, none⟩) 8 cB] 57)) (lo := w.heap.size) (to := n.toNat) (to' := at_ + 1) (c := cB) (c' := c1) (cap := 2) (b := w4.heap.size + 1) (by simp) K4.out (HRB.out.2) K1.out (by have := HG.out; omega); rw [Hn.out] at this; exact this) (HmE.out.alloc _ _)
 ·go_wp2
  exact hP.out _ _ (by have := LdAt.two (w := w4.alloc (.cells #[.bool true, .slice (some ⟨gB, 0, none⟩) 8 cB] 57)) (lo := w.heap.size) (to := n.toNat) (to' := at_ + 1) (c := c1) (c' := cB) (cap := 2) (b := w4.heap.size + 1) (by simp) K1.out (by have := HG.out; omega) K4.out (HRB.out.2); rw [Hn.out] at this; exact this) (HmE.out.alloc _ _)
 ·go_wp2
  exact hP.out _ _ (by have := LdAt.two (w := w4.alloc (.cells #[.bool true, .slice (some ⟨gB, 0, none⟩) 8 cB] 57)) (lo := w.heap.size) (to := n.toNat) (to' := at_ + 1) (c := cF) (c' := cS) (cap := 2) (b := w4.heap.size + 1) (by simp) K2.out (HRF.out.2) K3.out (HRS.out.2); rw [Hn.out] at this; exact this) (HmE.out.alloc _ _)
 ·go_wp2
  exact hP.out _ _ (by have := LdAt.two (w := w4.alloc (.cells #[.bool true, .slice (some ⟨gB, 0, none⟩) 8 cB] 57)) (lo := w.heap.size) (to := n.toNat) (to' := at_ + 1) (c := cS) (c' := cF) (cap := 2) (b := w4.heap.size + 1) (by simp) K3.out (HRS.out.2) K2.out (HRF.out.2); rw [Hn.out] at this; exact this) (HmE.out.alloc _ _)

set_option maxHeartbeats 2000000 in
theorem leads_11 (ra : Option Addr) (rb ro rl rc : Nat) (log : Nat → Int) (sec : Nat → Bool) (cb co cl cc at_ g c : Nat) (a b ic n : Int) (s : KS) (w : World) (hra : 0 < rl → ra = some ⟨rb, ro, none⟩) (hregs : RegsAt w rb ro rl log sec)
  (q0 : w.cell? ⟨cb, co + at_ * 5, none⟩ = some (.int .i64 11)) (q1 : w.cell? ⟨cb, co + at_ * 5 + 1, none⟩ = some (.int .i64 a)) (q2 : w.cell? ⟨cb, co + at_ * 5 + 2, none⟩ = some (.int .i64 b)) (q3 : w.cell? ⟨cb, co + at_ * 5 + 3, none⟩ = some (.int .i64 ic)) (q4 : w.cell? ⟨cb, co + at_ * 5 + 4, none⟩ = some (.int .i64 n))
  (hat : (at_ : Int) < cl) (hcl : (cl : Int) ≤ 200) (hk : KRow w g s) (ha0 : 0 ≤ a) (ha1 : a < 8) (n0 : 1 ≤ n) (n1 : n ≤ 64) :
  Calls Try.prog 24 #[.agg #[.slice ra rl rc, .slice (some ⟨cb, co, none⟩) cl cc], .int .i64 at_, st true g c] w fun e w' => ∃ v, e = .returned v ∧ LdAt w' w.heap.size v [(at_ + 1, setK s a (Kn.less (s a.toNat) (Kn.of (wrap64 (n - 1)))))] ∧ More w w' := by
 have Hk : Hid (KRow w g s) := hk
 have Hreg : Hid ((0 < rl → ra = some ⟨rb, ro, none⟩) ∧ RegsAt w rb ro rl log sec) := ⟨hra, hregs⟩
 have hat2 : (at_ : Int) + 1 ≤ 200 := by omega
 have hcb : cb < w.heap.size := cell_block q0
 have hcb1 : cb < w.heap.size + 1 := by omega
 clear hk hra hregs
 suffices hP : ∀ P : Ending → World → Prop, (∀ v w', LdAt w' w.heap.size v [(at_ + 1, setK s a (Kn.less (s a.toNat) (Kn.of (wrap64 (n - 1)))))] → More w w' → P (.returned v) w') → Calls Try.prog 24 #[.agg #[.slice ra rl rc, .slice (some ⟨cb, co, none⟩) cl cc], .int .i64 at_, st true g c] w P from hP _ (fun v w' h1 h2 => ⟨v, rfl, h1, h2⟩)
 intro P hP0
 have hP : Hid (∀ v w', LdAt w' w.heap.size v [(at_ + 1, setK s a (Kn.less (s a.toNat) (Kn.of (wrap64 (n - 1)))))] → More w w' → P (.returned v) w') := hP0
 clear hP0
 unfold st
 go_enter Try.func24, Try.ntmps24
 go_wp2_with (fail)
 refine (copied_calls true g c s _ (Hk.out.more (((More.refl _).alloc _ _).alloc _ _ |>.alloc _ _))).mono ?_
 rintro e w1 ⟨g1, c1, rfl, hg1, hr1, m1⟩
 obtain ⟨W1, HW1⟩ : ∃ W1 : World, Hid (W1 = w1.alloc (.cells #[.bool true, .slice (some ⟨g1, 0, none⟩) 8 c1] 57)) := ⟨_, rfl⟩
 obtain ⟨HF, HK1, HM, HG, HA, HI⟩ := lead_fix (i := ⟨11, a, b, ic, n⟩) Hk.out Hreg.out.2 m1 hr1 hg1 HW1.out
 replace HF := hid_is HF
 replace HK1 := hid_is HK1
 replace HM := hid_is HM
 replace HG := hid_is HG
 replace HA := hid_is HA
 replace HI := hid_is HI
 clear m1 hr1 hg1 q0 q1 q2 q3 q4
 have i0 : w1.cell? ⟨w.heap.size + 1 + 1, 0, none⟩ = some (.int .i64 11) := HI.out.cell rfl
 have i1 : w1.cell? ⟨w.heap.size + 1 + 1, 1, none⟩ = some (.int .i64 a) := HI.out.cell rfl
 have i2 : w1.cell? ⟨w.heap.size + 1 + 1, 2, none⟩ = some (.int .i64 b) := HI.out.cell rfl
 have i3 : w1.cell? ⟨w.heap.size + 1 + 1, 3, none⟩ = some (.int .i64 ic) := HI.out.cell rfl
 have i4 : w1.cell? ⟨w.heap.size + 1 + 1, 4, none⟩ = some (.int .i64 n) := HI.out.cell rfl
 have zi : w.heap.size + 1 + 1 < w1.heap.size := HI.out.lt
 have hn1 : IntKind.i64.wrap (n - 1) = n - 1 := by rw [IntKind.wrap_i64]; omega
 have hn2 : wrap64 (n - 1) = n - 1 := by unfold wrap64; omega
 obtain ⟨ov, hov⟩ : ∃ v, Kn.of (n - 1) = v := ⟨_, rfl⟩
 have c0 : ∀ w : World, Calls Try.prog 50 #[.int .i64 (n - 1)] w fun e w' => e = .returned (kn ov.b ov.s) ∧ More w w' := fun w => hov ▸ rof_calls (n - 1) (by omega) (by omega) w
 obtain ⟨xa, hxa⟩ : ∃ x, s a.toNat = x := ⟨_, rfl⟩
 obtain ⟨v, hv⟩ : ∃ v, Kn.less xa ov = v := ⟨_, rfl⟩
 have c2 : ∀ w : World, Calls Try.prog 51 #[kn xa.b xa.s, kn ov.b ov.s] w fun e w' => e = .returned (kn v.b v.s) ∧ More w w' := fun w => hv ▸ rless_calls xa.b ov.b xa.s ov.s w
 have Hx : Hid ((⟨v.b, v.s⟩ : Kn) = Kn.less (s a.toNat) (Kn.of (wrap64 (n - 1)))) := by show _ = _; rw [hn2, hxa, hov]; exact hv.symm
 have Hxa : Hid (s a.toNat = ⟨xa.b, xa.s⟩) := hxa
 clear hv hxa hov hn2
 obtain ⟨vb, vs⟩ := v
 obtain ⟨xab, xas⟩ := xa
 obtain ⟨ob, os⟩ := ov
 unfold kn at c0 c2
 dsimp only at c0 c2 Hxa Hx
 go_wp2_with (fail)
 try rw [hn1]
 try rw [hn2]
 refine (c0 _).mono ?_
 rintro e w4 ⟨rfl, m4⟩
 have Hm4 : Hid (More W1 w4) := HW1.out ▸ m4
 clear m4 i0 i1 i2 i3 i4 zi
 obtain ⟨W4, HW4⟩ : ∃ W4 : World, Hid (W4 = w4.alloc (.cells #[.int .i64 ob, .bool os] 65)) := ⟨_, rfl⟩
 have HmW4 : Hid (More W1 W4) := HW4.out ▸ Hm4.out.alloc _ _
 have HO : Hid (Blk W4 w4.heap.size #[.int .i64 ob, .bool os] 65) := HW4.out ▸ Blk.last _ _ _
 have Hsz : Hid (w1.heap.size < w4.heap.size) := by show _ < _; have := Hm4.out.size; have := HG.out; omega
 obtain ⟨S, HS⟩ : ∃ S : World → Prop, Hid (∀ w', S w' ↔ (LFix w.heap.size g c g1 c1 w1.heap.size (.slice ra rl rc) (.slice (some ⟨cb, co, none⟩) cl cc) ⟨11, a, b, ic, n⟩ s rb ro rl log sec w' ∧ Blk w' w4.heap.size #[.int .i64 ob, .bool os] 65)) := ⟨_, fun _ => Iff.rfl⟩
 have HSm : Hid (∀ w', More W4 w' → S w') := fun w' m => (HS.out _).2 ⟨HF.out.more (HmW4.out.trans m), HO.out.more m⟩
 have HS0 : S W4.drew := HSm.out _ (More.refl _).drew
 have hne : Nonempty { w' // S w' } := ⟨⟨_, HS0⟩⟩
 have k1 : ∀ i : { w' // S w' }, i.val.cell? ⟨w.heap.size + 1 + 1, 1, none⟩ = some (.int .i64 a) := fun i => ((HS.out _).1 i.property).1.fi.cell rfl
 have k5 : ∀ i : { w' // S w' }, i.val.cell? ⟨w1.heap.size, 1, none⟩ = some (.slice (some ⟨g1, 0, none⟩) 8 c1) := fun i => ((HS.out _).1 i.property).1.ft.cell rfl
 have k6 : ∀ i : { w' // S w' }, i.val.cell? ⟨w.heap.size + 1, 1, none⟩ = some (.slice (some ⟨g, 0, none⟩) 8 c) := fun i => ((HS.out _).1 i.property).1.fs.cell rfl
 have k8 : ∀ i : { w' // S w' }, i.val.cell? ⟨w4.heap.size, 0, none⟩ = some (.int .i64 ob) := fun i => ((HS.out _).1 i.property).2.cell rfl
 have k9 : ∀ i : { w' // S w' }, i.val.cell? ⟨w4.heap.size, 1, none⟩ = some (.bool os) := fun i => ((HS.out _).1 i.property).2.cell rfl
 have ka0 : ∀ i : { w' // S w' }, i.val.cell? ⟨g, a.toNat * 2, none⟩ = some (.int .i64 xab) := fun i => by have := (((HS.out _).1 i.property).1.ks a.toNat (by omega)).1.1; rw [Hxa.out] at this; exact this
 have ka1 : ∀ i : { w' // S w' }, i.val.cell? ⟨g, a.toNat * 2 + 1, none⟩ = some (.bool xas) := fun i => by have := (((HS.out _).1 i.property).1.ks a.toNat (by omega)).1.2; rw [Hxa.out] at this; exact this
 go_wp2_with (fail)
 rw [← HW4.out]
 refine wp_region_ord (S := S) [(0, true), (1, true), (2, true), (3, true), (4, true), (5, true), (6, true), (7, true), (8, true), (9, true), (10, true), (11, false), (12, true), (13, false)] (by kernel_rfl) (by kernel_rfl) (by kernel_rfl) HS0 ?_
 iterate 11 (refine wpOrd_take rfl (by kernel_rfl) (fun K hK => ?_); go_simp; refine hK _ _ ?_; clear hK K)
 refine wpOrd_busy rfl (by kernel_rfl) (fun K hK => ?_); go_simp
 refine (c2 _).mono ?_
 rintro e w2 ⟨rfl, m2⟩
 have Hm2 : Hid (More W4 w2) := (More.refl _).drew.trans m2
 have HS2 : S w2 := HSm.out _ Hm2.out
 clear m2
 go_simp
 refine hK _ _ HS2 ?_; clear hK K
 (refine wpOrd_take rfl (by kernel_rfl) (fun K hK => ?_); go_simp; refine hK _ _ ?_; clear hK K)
 have Hrow : Hid (KRow w2 g1 s) := HK1.out.more (HmW4.out.trans Hm2.out)
 have hr : a.toNat < 8 := by omega
 have q := Hrow.out a.toNat hr
 have q0 := q.1.1
 have q1 := q.1.2
 have q2 := q.2.1
 have q3 := q.2.2
 obtain ⟨w3, Hw3⟩ : ∃ w3, Hid (w3 = (w2.setCell ⟨g1, a.toNat * 2, none⟩ (.int .i64 vb)).setCell ⟨g1, a.toNat * 2 + 1, none⟩ (.bool vs)) := ⟨_, rfl⟩
 have Hrow3 : Hid (KRow w3 g1 (setK s a ⟨vb, vs⟩)) := Hw3.out ▸ Hrow.out.set a ⟨vb, vs⟩ hr
 have hg := HG.out
 have hA := HA.out
 have HF3 : Hid (LFix w.heap.size g c g1 c1 w1.heap.size (.slice ra rl rc) (.slice (some ⟨cb, co, none⟩) cl cc) ⟨11, a, b, ic, n⟩ s rb ro rl log sec w3) := Hw3.out ▸ ((HF.out.more (HmW4.out.trans Hm2.out)).set (by omega) (by omega) (by omega) (fun h0 => by have := hA.2 h0; omega) _ _).set (by omega) (by omega) (by omega) (fun h0 => by have := hA.2 h0; omega) _ _
 have Hm3 : Hid (More w w3) := Hw3.out ▸ ((((HM.out.trans HmW4.out).trans Hm2.out).setCell (by dsimp only; omega) _).setCell (by dsimp only; omega) _)
 have HS3 : S w3 := (HS.out _).2 ⟨HF3.out, Hw3.out ▸ ((HO.out.more Hm2.out).other (by have := Hsz.out; omega) _ _).other (by have := Hsz.out; omega) _ _⟩
 clear hg hA
 refine wpOrd_busy rfl (by kernel_rfl) (fun K hK => ?_); go_simp
 rw [← Hw3.out]
 refine hK _ _ HS3 ?_; clear hK K
 refine wpOrd_done ?_
 clear k1 k5 k6 k8 k9 ka0 ka1 hne HS0 HS2 HS3 q q0 q1 q2 q3
 have t0 := HF3.out.ft.cell (j := 0) (v := .bool true) rfl
 have t1 := HF3.out.ft.cell (j := 1) (v := .slice (some ⟨g1, 0, none⟩) 8 c1) rfl
 go_wp2
 exact hP.out _ _ (LdAt.one rfl (Hx.out ▸ Hrow3.out) (by have := HG.out; omega)) (Hm3.out.alloc _ _)
end
section
open Go.RowKit
set_option linter.unusedSimpArgs false
set_option linter.unusedVariables false
theorem leads_calls (p : Prg) (l : Loc) (at_ g c : Nat) (s : KS) (w : World) (hp : PIn w p l) (hat : at_ < p.cl) (hcl : p.cl ≤ 200) (hi : InsOk p.rl p.log p.cl 8 (p.ins at_)) (n0 : -9223372036854775808 ≤ (p.ins at_).n) (n1 : (p.ins at_).n ≤ 9223372036854775807) (hk : KRow w g s) :
  Calls Try.prog 24 #[.agg #[.slice l.ra p.rl l.rc, .slice l.ca p.cl l.cc], .int .i64 at_, st true g c] w fun e w' => ∃ v, e = .returned v ∧ LdAt w' w.heap.size v (leadsK p at_ s) ∧ More w w' := by
 obtain ⟨ra, rb, ro, rc, ca, cb, co, cc⟩ := l
 obtain rfl : ca = some ⟨cb, co, none⟩ := hp.hc (by omega)
 have q := hp.code at_ hat
 have hat' : (at_ : Int) < p.cl := by omega
 have hcl' : (p.cl : Int) ≤ 200 := by omega
 dsimp only at *
 by_cases h1 : (p.ins at_).op = 1
 ·have hI := hi
  unfold InsOk Reg Rgn Plc Wrd at hI
  simp [h1] at hI
  have e0 : leadsK p at_ s = [(at_ + 1, setK s (p.ins at_).a (Kn.of (p.ins at_).n))] := by unfold leadsK; simp [h1, nextK, yesK, noK, firstK, secondK, bothK]
  rw [e0]
  rw [h1] at q
  exact leads_1 ra rb ro p.rl rc p.log p.sec cb co p.cl cc at_ g c (p.ins at_).a (p.ins at_).b (p.ins at_).c (p.ins at_).n s w hp.hr hp.regs (q.1) (q.2.1) (q.2.2.1) (q.2.2.2.1) (q.2.2.2.2) hat' hcl' hk (by omega) (by omega) n0 n1
 by_cases h2 : (p.ins at_).op = 2
 ·have hI := hi
  unfold InsOk Reg Rgn Plc Wrd at hI
  simp [h2] at hI
  have e0 : leadsK p at_ s = [(at_ + 1, setK s (p.ins at_).a (s (p.ins at_).b.toNat))] := by unfold leadsK; simp [h2, nextK, yesK, noK, firstK, secondK, bothK]
  rw [e0]
  rw [h2] at q
  exact leads_2 ra rb ro p.rl rc p.log p.sec cb co p.cl cc at_ g c (p.ins at_).a (p.ins at_).b (p.ins at_).c (p.ins at_).n s w hp.hr hp.regs (q.1) (q.2.1) (q.2.2.1) (q.2.2.2.1) (q.2.2.2.2) hat' hcl' hk (by omega) (by omega) (by omega) (by omega)
 by_cases h3 : (p.ins at_).op = 3
 ·have hI := hi
  unfold InsOk Reg Rgn Plc Wrd at hI
  simp [h3] at hI
  have e0 : leadsK p at_ s = [(at_ + 1, setK s (p.ins at_).a ⟨17, p.sec (p.ins at_).c.toNat⟩)] := by unfold leadsK; simp [h3, nextK, yesK, noK, firstK, secondK, bothK]
  rw [e0]
  rw [h3] at q
  exact leads_3 ra rb ro p.rl rc p.log p.sec cb co p.cl cc at_ g c (p.ins at_).a (p.ins at_).b (p.ins at_).c (p.ins at_).n s w hp.hr hp.regs (q.1) (q.2.1) (q.2.2.1) (q.2.2.2.1) (q.2.2.2.2) hat' hcl' hk (by omega) (by omega) (by omega) (by omega)
 by_cases h4 : (p.ins at_).op = 4
 ·have hI := hi
  unfold InsOk Reg Rgn Plc Wrd at hI
  simp [h4] at hI
  have e0 : leadsK p at_ s = [(at_ + 1, s)] := by unfold leadsK; simp [h4, nextK, yesK, noK, firstK, secondK, bothK]
  rw [e0]
  rw [h4] at q
  exact leads_4 ra rb ro p.rl rc p.log p.sec cb co p.cl cc at_ g c (p.ins at_).a (p.ins at_).b (p.ins at_).c (p.ins at_).n s w hp.hr hp.regs (q.1) (q.2.1) (q.2.2.1) (q.2.2.2.1) (q.2.2.2.2) hat' hcl' hk
 by_cases h5 : (p.ins at_).op = 5
 ·have hI := hi
  unfold InsOk Reg Rgn Plc Wrd at hI
  simp [h5] at hI
  have e0 : leadsK p at_ s = [(at_ + 1, setK s (p.ins at_).a ⟨17, p.sec (p.ins at_).c.toNat⟩)] := by unfold leadsK; simp [h5, nextK, yesK, noK, firstK, secondK, bothK]
  rw [e0]
  rw [h5] at q
  exact leads_5 ra rb ro p.rl rc p.log p.sec cb co p.cl cc at_ g c (p.ins at_).a (p.ins at_).b (p.ins at_).c (p.ins at_).n s w hp.hr hp.regs (q.1) (q.2.1) (q.2.2.1) (q.2.2.2.1) (q.2.2.2.2) hat' hcl' hk (by omega) (by omega) (by omega) (by omega)
 by_cases h6 : (p.ins at_).op = 6
 ·have hI := hi
  unfold InsOk Reg Rgn Plc Wrd at hI
  simp [h6] at hI
  have e0 : leadsK p at_ s = [(at_ + 1, s)] := by unfold leadsK; simp [h6, nextK, yesK, noK, firstK, secondK, bothK]
  rw [e0]
  rw [h6] at q
  exact leads_6 ra rb ro p.rl rc p.log p.sec cb co p.cl cc at_ g c (p.ins at_).a (p.ins at_).b (p.ins at_).c (p.ins at_).n s w hp.hr hp.regs (q.1) (q.2.1) (q.2.2.1) (q.2.2.2.1) (q.2.2.2.2) hat' hcl' hk
 by_cases h7 : (p.ins at_).op = 7
 ·have hI := hi
  unfold InsOk Reg Rgn Plc Wrd at hI
  simp [h7] at hI
  have e0 : leadsK p at_ s = [((p.ins at_).n.toNat, s)] := by unfold leadsK; simp [h7, nextK, yesK, noK, firstK, secondK, bothK]
  rw [e0]
  rw [h7] at q
  exact leads_7 ra rb ro p.rl rc p.log p.sec cb co p.cl cc at_ g c (p.ins at_).a (p.ins at_).b (p.ins at_).c (p.ins at_).n s w hp.hr hp.regs (q.1) (q.2.1) (q.2.2.1) (q.2.2.2.1) (q.2.2.2.2) hat' hcl' hk (by omega) (by omega)
 by_cases h8 : (p.ins at_).op = 8
 ·have hI := hi
  unfold InsOk Reg Rgn Plc Wrd at hI
  simp [h8] at hI
  have e0 : leadsK p at_ s = [((p.ins at_).n.toNat, yesK ⟨8, (p.ins at_).a, (p.ins at_).b, (p.ins at_).c, (p.ins at_).n⟩ s), (at_ + 1, noK ⟨8, (p.ins at_).a, (p.ins at_).b, (p.ins at_).c, (p.ins at_).n⟩ s)] := by unfold leadsK; simp [h8, nextK, yesK, noK, firstK, secondK, bothK]
  rw [e0]
  rw [h8] at q
  exact leads_8 ra rb ro p.rl rc p.log p.sec cb co p.cl cc at_ g c (p.ins at_).a (p.ins at_).b (p.ins at_).c (p.ins at_).n s w hp.hr hp.regs (q.1) (q.2.1) (q.2.2.1) (q.2.2.2.1) (q.2.2.2.2) hat' hcl' hk (by omega) (by omega) (by omega) (by omega) (by omega) (by omega) (by omega)
 by_cases h9 : (p.ins at_).op = 9
 ·have hI := hi
  unfold InsOk Reg Rgn Plc Wrd at hI
  simp [h9] at hI
  have e0 : leadsK p at_ s = [] := by unfold leadsK; simp [h9, nextK, yesK, noK, firstK, secondK, bothK]
  rw [e0]
  rw [h9] at q
  exact leads_9 ra rb ro p.rl rc p.log p.sec cb co p.cl cc at_ g c (p.ins at_).a (p.ins at_).b (p.ins at_).c (p.ins at_).n s w hp.hr hp.regs (q.1) (q.2.1) (q.2.2.1) (q.2.2.2.1) (q.2.2.2.2) hat' hcl' hk
 by_cases h10 : (p.ins at_).op = 10
 ·have hI := hi
  unfold InsOk Reg Rgn Plc Wrd at hI
  simp [h10] at hI
  have e0 : leadsK p at_ s = [(at_ + 1, setK s (p.ins at_).a (Kn.index (s (p.ins at_).b.toNat) (p.ins at_).n))] := by unfold leadsK; simp [h10, nextK, yesK, noK, firstK, secondK, bothK]
  rw [e0]
  rw [h10] at q
  exact leads_10 ra rb ro p.rl rc p.log p.sec cb co p.cl cc at_ g c (p.ins at_).a (p.ins at_).b (p.ins at_).c (p.ins at_).n s w hp.hr hp.regs (q.1) (q.2.1) (q.2.2.1) (q.2.2.2.1) (q.2.2.2.2) hat' hcl' hk (by omega) (by omega) (by omega) (by omega) n0 n1
 by_cases h11 : (p.ins at_).op = 11
 ·have hI := hi
  unfold InsOk Reg Rgn Plc Wrd at hI
  simp [h11] at hI
  have e0 : leadsK p at_ s = [(at_ + 1, setK s (p.ins at_).a (Kn.less (s (p.ins at_).a.toNat) (Kn.of (wrap64 ((p.ins at_).n - 1)))))] := by unfold leadsK; simp [h11, nextK, yesK, noK, firstK, secondK, bothK]
  rw [e0]
  rw [h11] at q
  exact leads_11 ra rb ro p.rl rc p.log p.sec cb co p.cl cc at_ g c (p.ins at_).a (p.ins at_).b (p.ins at_).c (p.ins at_).n s w hp.hr hp.regs (q.1) (q.2.1) (q.2.2.1) (q.2.2.2.1) (q.2.2.2.2) hat' hcl' hk (by omega) (by omega) (by omega) (by omega)
 by_cases h12 : (p.ins at_).op = 12
 ·have hI := hi
  unfold InsOk Reg Rgn Plc Wrd at hI
  simp [h12] at hI
  have e0 : leadsK p at_ s = [(at_ + 1, s)] := by unfold leadsK; simp [h12, nextK, yesK, noK, firstK, secondK, bothK]
  rw [e0]
  rw [h12] at q
  exact leads_12 ra rb ro p.rl rc p.log p.sec cb co p.cl cc at_ g c (p.ins at_).a (p.ins at_).b (p.ins at_).c (p.ins at_).n s w hp.hr hp.regs (q.1) (q.2.1) (q.2.2.1) (q.2.2.2.1) (q.2.2.2.2) hat' hcl' hk
 ·have hI := hi
  unfold InsOk Reg at hI
  rw [if_neg h1, if_neg h2, if_neg h3, if_neg h4, if_neg h5, if_neg h6, if_neg h7, if_neg h8, if_neg h9, if_neg h10, if_neg h11, if_neg h12] at hI
  have e0 : leadsK p at_ s = [(at_ + 1, setK s (p.ins at_).a (Kn.op ((p.ins at_).op - 20) (s (p.ins at_).b.toNat) (s (p.ins at_).c.toNat)))] := by unfold leadsK; simp [h1, h2, h3, h4, h5, h6, h7, h8, h9, h10, h11, h12, nextK]
  rw [e0]
  exact leads_op ra rb ro p.rl rc p.log p.sec cb co p.cl cc at_ g c (p.ins at_).op (p.ins at_).a (p.ins at_).b (p.ins at_).c (p.ins at_).n s w hp.hr hp.regs (q.1) (q.2.1) (q.2.2.1) (q.2.2.2.1) (q.2.2.2.2) hat' hcl' hk (by omega) (by omega) (by omega) (by omega) (by omega) (by omega) (by omega) (by omega)
end
section
open Go.RowKit
set_option linter.unusedSimpArgs false
set_option linter.unusedVariables false
set_option maxRecDepth 8000
theorem same_none (g c : Nat) (w : World) :
  Calls Try.prog 47 #[st true g c, .agg #[.bool false, .slice none 0 0]] w fun e w' => e = .returned (.bool false) ∧ More w w' := by
 unfold st
 go_enter Try.func47, Try.ntmps47
 go_wp2
 go_ret
 exact ⟨rfl, ((More.refl _).alloc _ _).alloc _ _⟩

set_option maxHeartbeats 1000000 in
theorem same_some (ga ca gb cb : Nat) (sa sb : KS) (w : World) (ha : KRow w ga sa) (hb : KRow w gb sb) :
  Calls Try.prog 47 #[st true ga ca, st true gb cb] w (Says (∀ j, j < 8 → sa j = sb j) w) := by
 have Ha : Hid (KRow w ga sa) := ha
 have Hb : Hid (KRow w gb sb) := hb
 obtain ⟨P, HP⟩ : ∃ P : Prop, Hid (P ↔ ∀ j, j < 8 → sa j = sb j) := ⟨∀ j, j < 8 → sa j = sb j, (Iff.rfl : _ ↔ _)⟩
 rw [← propext HP.out]
 clear ha hb
 unfold st
 obtain ⟨W, HW⟩ : ∃ W : World, Hid (W = (w.alloc (.cells #[.bool true, .slice (some ⟨ga, 0, none⟩) 8 ca] 57)).alloc (.cells #[.bool true, .slice (some ⟨gb, 0, none⟩) 8 cb] 57)) := ⟨_, rfl⟩
 have HmW : Hid (More w W) := HW.out ▸ ((More.refl _).alloc _ _).alloc _ _
 have HA : Hid (Blk W w.heap.size #[.bool true, .slice (some ⟨ga, 0, none⟩) 8 ca] 57) := HW.out ▸ (Blk.last _ _ _).more ((More.refl _).alloc _ _)
 have HB : Hid (Blk W (w.heap.size + 1) #[.bool true, .slice (some ⟨gb, 0, none⟩) 8 cb] 57) := by
  show Blk _ _ _ _
  rw [HW.out]
  simpa using Blk.last (w.alloc (.cells #[.bool true, .slice (some ⟨ga, 0, none⟩) 8 ca] 57)) #[.bool true, .slice (some ⟨gb, 0, none⟩) 8 cb] 57
 go_enter Try.func47, Try.ntmps47
 go_wp2_with (fail)
 rw [← HW.out]
 go_loopg [5] 8 (fun g iv wr => ∃ k : Nat, k + g = 8 ∧ iv = .int .i64 k ∧ Hid ((∀ j, j < k → sa j = sb j) ∧ More W wr))
 case atStart => exact ⟨0, by omega, rfl, fun j hj => absurd hj (Nat.not_lt_zero _), More.refl _⟩
 case round =>
  obtain ⟨k, hkg, rfl, Hr⟩ := hrel
  have a1 : wr.cell? ⟨w.heap.size, 1, none⟩ = some (.slice (some ⟨ga, 0, none⟩) 8 ca) := (HA.out.more Hr.out.2).cell rfl
  have b1 : wr.cell? ⟨w.heap.size + 1, 1, none⟩ = some (.slice (some ⟨gb, 0, none⟩) 8 cb) := (HB.out.more Hr.out.2).cell rfl
  cases gk with
  | zero =>
   obtain rfl : k = 8 := by omega
   go_wp2
   go_ret
   exact Says.yes (HP.out.2 Hr.out.1) (HmW.out.trans Hr.out.2)
  | succ g =>
   have hk8 : k < 8 := by omega
   have hki : (k : Int) < 8 := by omega
   obtain ⟨S, HS⟩ : ∃ S : World → Prop, Hid (∀ w', S w' ↔ More W w') := ⟨_, fun _ => Iff.rfl⟩
   have HS0 : S wr.drew := (HS.out _).2 Hr.out.2.drew
   have hne : Nonempty { w' // S w' } := ⟨⟨_, HS0⟩⟩
   have k0 : ∀ i : { w' // S w' }, i.val.cell? ⟨w.heap.size, 1, none⟩ = some (.slice (some ⟨ga, 0, none⟩) 8 ca) := fun i => (HA.out.more ((HS.out _).1 i.property)).cell rfl
   have k1 : ∀ i : { w' // S w' }, i.val.cell? ⟨w.heap.size + 1, 1, none⟩ = some (.slice (some ⟨gb, 0, none⟩) 8 cb) := fun i => (HB.out.more ((HS.out _).1 i.property)).cell rfl
   obtain ⟨xa, hxa⟩ : ∃ x, sa k = x := ⟨_, rfl⟩
   obtain ⟨xb, hxb⟩ : ∃ x, sb k = x := ⟨_, rfl⟩
   have k3 : ∀ i : { w' // S w' }, i.val.cell? ⟨ga, k * 2, none⟩ = some (.int .i64 xa.b) := fun i => hxa ▸ ((Ha.out.more (HmW.out.trans ((HS.out _).1 i.property))) k hk8).1.1
   have k4 : ∀ i : { w' // S w' }, i.val.cell? ⟨ga, k * 2 + 1, none⟩ = some (.bool xa.s) := fun i => hxa ▸ ((Ha.out.more (HmW.out.trans ((HS.out _).1 i.property))) k hk8).1.2
   have k5 : ∀ i : { w' // S w' }, i.val.cell? ⟨gb, k * 2, none⟩ = some (.int .i64 xb.b) := fun i => hxb ▸ ((Hb.out.more (HmW.out.trans ((HS.out _).1 i.property))) k hk8).1.1
   have k6 : ∀ i : { w' // S w' }, i.val.cell? ⟨gb, k * 2 + 1, none⟩ = some (.bool xb.s) := fun i => hxb ▸ ((Hb.out.more (HmW.out.trans ((HS.out _).1 i.property))) k hk8).1.2
   have Hx : Hid (sa k = xa ∧ sb k = xb) := ⟨hxa, hxb⟩
   clear hxa hxb
   obtain ⟨xab, xas⟩ := xa
   obtain ⟨xbb, xbs⟩ := xb
   dsimp only at k3 k4 k5 k6
   go_wp2_with (fail)
   clear a1 b1
   refine wp_region_ord (S := S) [(0, true), (1, true), (2, true), (3, true), (4, true), (5, true), (6, true), (7, true), (8, true), (9, true), (10, true)] (by kernel_rfl) (by kernel_rfl) (by kernel_rfl) HS0 ?_
   iterate 10 (refine wpOrd_take rfl (by kernel_rfl) (fun K hK => ?_); go_simp; refine hK _ _ ?_; clear hK K)
   refine wpOrd_take rfl (by kernel_rfl) (fun K hK => ?_); go_simp
   by_cases e : xab = xbb ∧ xas = xbs
   ·refine ⟨.bool false, fun a _ => by rw [if_pos e.1, if_pos e.2], ?_⟩
    refine hK _ _ ?_
    clear hK K
    refine wpOrd_done ?_
    have He : Hid (sa k = sb k) := by show _ = _; rw [Hx.out.1, Hx.out.2, e.1, e.2]
    clear k0 k1 k3 k4 k5 k6 hne HS0 e
    go_wp2
    go_roundg g
    case measure => omega
    case rel =>
     refine ⟨k + 1, by omega, by first | rfl | simp, fun j hj => ?_, Hr.out.2.drew⟩
     by_cases q : j = k
     ·subst q; exact He.out
     ·exact Hr.out.1 j (by omega)
   ·refine ⟨.bool true, fun a _ => by
     by_cases e1 : xab = xbb
     ·rw [if_pos e1, if_neg (fun e2 => e ⟨e1, e2⟩)]
     ·rw [if_neg e1], ?_⟩
    refine hK _ _ ?_
    clear hK K
    refine wpOrd_done ?_
    have He : Hid (¬ sa k = sb k) := by
     show ¬ _
     rw [Hx.out.1, Hx.out.2]
     intro q
     injection q with q1 q2
     exact e ⟨q1, q2⟩
    clear k0 k1 k3 k4 k5 k6 hne HS0 e
    go_wp2
    go_ret
    exact Says.no (fun q => He.out (HP.out.1 q k hk8)) (HmW.out.trans Hr.out.2.drew)
end
section
open Go.RowKit
set_option linter.unusedVariables false
/-- What is known at one place. -/
def CAt (w : World) (lb at_ : Nat) (o : Option KS) : Prop := match o with
 | none => w.cell? ⟨lb, at_ * 2, none⟩ = some (.bool false) ∧ w.cell? ⟨lb, at_ * 2 + 1, none⟩ = some (.slice none 0 0)
 | some s => ∃ g c, w.cell? ⟨lb, at_ * 2, none⟩ = some (.bool true) ∧ w.cell? ⟨lb, at_ * 2 + 1, none⟩ = some (.slice (some ⟨g, 0, none⟩) 8 c) ∧ KRow w g s ∧ g ≠ lb

structure VAt (w : World) (lb cl : Nat) (l : KV) : Prop where
 at_ : ∀ k, k < cl → CAt w lb k (l k)
 fr : ∀ j, w.frozen? ⟨lb, j, none⟩ = false

theorem CAt.more {w w' : World} (m : More w w') {lb k : Nat} {o : Option KS} (h : CAt w lb k o) : CAt w' lb k o := by
 cases o with
 | none => exact ⟨m.cell h.1, m.cell h.2⟩
 | some s =>
  obtain ⟨g, c, h1, h2, h3, h4⟩ := h
  exact ⟨g, c, m.cell h1, m.cell h2, h3.more m, h4⟩
theorem CAt.lt {w : World} {lb k : Nat} {o : Option KS} (h : CAt w lb k o) : lb < w.heap.size := by
 cases o with
 | none => exact cell_block h.1
 | some s =>
  obtain ⟨g, c, h1, _⟩ := h
  exact cell_block h1
theorem VAt.more {w w' : World} (m : More w w') {lb cl : Nat} {l : KV} (h0 : 0 < cl) (h : VAt w lb cl l) : VAt w' lb cl l :=
 ⟨fun k hk => (h.at_ k hk).more m, fun j => (World.frozen?_of_block (m.block lb (h.at_ 0 h0).lt)).trans (h.fr j)⟩
theorem CAt.come {w : World} {lb k : Nat} {o : Option KS} (h : CAt w lb k o) : ∃ b : Bool, w.cell? ⟨lb, k * 2, none⟩ = some (.bool b) ∧ (b = true ↔ o ≠ none) := by
 cases o with
 | none => exact ⟨false, h.1, by simp⟩
 | some s =>
  obtain ⟨g, c, h1, _⟩ := h
  exact ⟨true, h1, by simp⟩

/-- A place is known anew. -/
theorem VAt.put {w : World} {lb cl : Nat} {l : KV} (h : VAt w lb cl l) {n g c : Nat} (hn : n < cl) {s : KS} (hg : KRow w g s) (hne : g ≠ lb) :
  VAt ((w.setCell ⟨lb, n * 2, none⟩ (.bool true)).setCell ⟨lb, n * 2 + 1, none⟩ (.slice (some ⟨g, 0, none⟩) 8 c)) lb cl (putV l n s) := by
 refine ⟨fun k hk => ?_, fun j => by rw [World.frozen?_setCell, World.frozen?_setCell]; exact h.fr j⟩
 have old := h.at_ n hn
 have e0 : ∃ v, w.cell? ⟨lb, n * 2, none⟩ = some v := by
  obtain ⟨b, hb, _⟩ := old.come
  exact ⟨_, hb⟩
 have e1 : ∃ v, w.cell? ⟨lb, n * 2 + 1, none⟩ = some v := by
  cases e : l n with
  | none => rw [e] at old; exact ⟨_, old.2⟩
  | some s1 => rw [e] at old; obtain ⟨_, _, _, h2, _⟩ := old; exact ⟨_, h2⟩
 obtain ⟨v0, e0⟩ := e0
 obtain ⟨v1, e1⟩ := e1
 have oth : ∀ k', k' ≠ n → ∀ j, j < 2 → ((w.setCell ⟨lb, n * 2, none⟩ (.bool true)).setCell ⟨lb, n * 2 + 1, none⟩ (.slice (some ⟨g, 0, none⟩) 8 c)).cell? ⟨lb, k' * 2 + j, none⟩ = w.cell? ⟨lb, k' * 2 + j, none⟩ := fun k' hk' j hj => by
  rw [World.cell?_setCell_other _ _ _ _ (by intro e'; simp only [Addr.mk.injEq] at e'; omega), World.cell?_setCell_other _ _ _ _ (by intro e'; simp only [Addr.mk.injEq] at e'; omega)]
 by_cases e : k = n
 ·subst e
  rw [putV_same]
  refine ⟨g, c, ?_, ?_, (hg.other (fun q => hne q.symm) _ _).other (fun q => hne q.symm) _ _, hne⟩
  ·rw [World.cell?_setCell_other _ _ _ _ (by simp)]
   exact World.cell?_setCell_same _ _ _ e0
  ·have q : (w.setCell ⟨lb, k * 2, none⟩ (.bool true)).cell? ⟨lb, k * 2 + 1, none⟩ = some v1 := by
    rw [World.cell?_setCell_other _ _ _ _ (by simp)]; exact e1
   exact World.cell?_setCell_same _ _ _ q
 ·rw [putV_other _ e]
  have hk' := h.at_ k hk
  cases eo : l k with
  | none =>
   rw [eo] at hk'
   exact ⟨(oth k e 0 (by omega)).trans hk'.1, (oth k e 1 (by omega)).trans hk'.2⟩
  | some s1 =>
   rw [eo] at hk'
   obtain ⟨g1, c1, h1, h2, h3, h4⟩ := hk'
   exact ⟨g1, c1, (oth k e 0 (by omega)).trans h1, (oth k e 1 (by omega)).trans h2, (h3.other (fun q => h4 q.symm) _ _).other (fun q => h4 q.symm) _ _, h4⟩
end
section
open Go.RowKit
set_option linter.unusedSimpArgs false
set_option linter.unusedVariables false
set_option maxRecDepth 8000
/-- make of elements of two cells. -/
theorem run_make2 {P : Program} (t e : TypeId) (z0 z1 : Value) (bytes : Nat) (ht : P.underlying t = some (.slice e)) (hinfo : (P.info? e).map (fun i => (i.zero, i.size, i.bytes)) = some (some (.agg #[z0, z1]), 2, bytes))
  (kl kc : IntKind) (n : Nat) (hbytes : bytes * n ≤ 281474976710656) (h63 : n ≤ 9223372036854775807) (w : World) :
  (Instr.makeSlice t (.int kl (n : Int)) (.int kc (n : Int))).run P w = .ok (.slice (some ⟨w.heap.size, 0, none⟩) n n) (w.alloc (.cells (madeCells #[z0, z1] (n * 2)) e)) := by
 obtain ⟨i, hi, hzz⟩ := Option.map_eq_some_iff.1 hinfo
 simp only [Prod.mk.injEq] at hzz
 obtain ⟨hz, hs, hb⟩ := hzz
 have hb' : (i.bytes : Int) * (n : Int) ≤ 281474976710656 := by
  have h : ((i.bytes * n : Nat) : Int) ≤ 281474976710656 := by rw [hb]; omega
  rwa [Int.natCast_mul] at h
 have hr := run_make (P := P) w t e i (.agg #[z0, z1]) ht hi hz kl kc n n (by omega) (Int.le_refl _) hb' (by omega)
 simp only [Int.toNat_natCast, hs] at hr
 exact hr
theorem made2_at (z0 z1 : Value) (n k : Nat) (h : k < n) : (madeCells #[z0, z1] (n * 2))[k * 2]? = some z0 ∧ (madeCells #[z0, z1] (n * 2))[k * 2 + 1]? = some z1 := by
 unfold madeCells
 refine ⟨?_, ?_⟩
 ·simp [show k * 2 < n * 2 by omega]
 ·simp [show k * 2 + 1 < n * 2 by omega, show (k * 2 + 1) % 2 = 1 by omega]

theorem info59 : (Try.prog.info? 57).map (fun i => (i.zero, i.size, i.bytes)) = some (some (.agg #[.bool false, .slice none 0 0]), 2, 32) := by kernel_rfl

/-- Where a round stands. -/
structure Rnd (w0 : World) (p : Prg) (lo : Loc) (lb : Nat) (l : KV) (w : World) : Prop where
 v : VAt w lb p.cl l
 on : OnWay p l
 box : Blk w w0.heap.size #[.slice lo.ra p.rl lo.rc, .slice lo.ca p.cl lo.cc] 25
 pin : PIn w p lo
 more : More w0 w
theorem Rnd.step {w0 : World} {p : Prg} {lo : Loc} {lb : Nat} {l : KV} {w w' : World} (h0 : 0 < p.cl) (h : Rnd w0 p lo lb l w) (m : More w w') : Rnd w0 p lo lb l w' :=
 ⟨h.v.more m h0, h.on, h.box.more m, h.pin.more m, h.more.trans m⟩

theorem rnd_start {w : World} {p : Prg} {lo : Loc} (hp : PIn w p lo) (h0 : 0 < p.cl) {zs zk : Array Value} (Hzs : ∀ k, k < p.cl → zs[k * 2]? = some (.bool false) ∧ zs[k * 2 + 1]? = some (.slice none 0 0)) (Hzk : ∀ k, k < 8 → zk[k * 2]? = some (.int .i64 0) ∧ zk[k * 2 + 1]? = some (.bool false)) :
  Rnd w p lo (w.heap.size + 1) (putV (fun _ => none) 0 zeroK) (((w.alloc (.cells #[.slice lo.ra p.rl lo.rc, .slice lo.ca p.cl lo.cc] 25)).alloc (.cells ((zs.setIfInBounds 0 (.bool true)).setIfInBounds 1 (.slice (some ⟨w.heap.size + 1 + 1, 0, none⟩) 8 8)) 57)).alloc (.cells zk 65)) := by
 have e0 := (Blk.last w #[.slice lo.ra p.rl lo.rc, .slice lo.ca p.cl lo.cc] 25).more (((More.refl _).alloc ((zs.setIfInBounds 0 (.bool true)).setIfInBounds 1 (.slice (some ⟨w.heap.size + 1 + 1, 0, none⟩) 8 8)) 57).alloc zk 65)
 have e1 := (by simpa using Blk.last (w.alloc (.cells #[.slice lo.ra p.rl lo.rc, .slice lo.ca p.cl lo.cc] 25)) ((zs.setIfInBounds 0 (.bool true)).setIfInBounds 1 (.slice (some ⟨w.heap.size + 1 + 1, 0, none⟩) 8 8)) 57 : Blk ((w.alloc (.cells #[.slice lo.ra p.rl lo.rc, .slice lo.ca p.cl lo.cc] 25)).alloc (.cells ((zs.setIfInBounds 0 (.bool true)).setIfInBounds 1 (.slice (some ⟨w.heap.size + 1 + 1, 0, none⟩) 8 8)) 57)) (w.heap.size + 1) ((zs.setIfInBounds 0 (.bool true)).setIfInBounds 1 (.slice (some ⟨w.heap.size + 1 + 1, 0, none⟩) 8 8)) 57).more ((More.refl _).alloc zk 65)
 have e2 := (by simpa using Blk.last ((w.alloc (.cells #[.slice lo.ra p.rl lo.rc, .slice lo.ca p.cl lo.cc] 25)).alloc (.cells ((zs.setIfInBounds 0 (.bool true)).setIfInBounds 1 (.slice (some ⟨w.heap.size + 1 + 1, 0, none⟩) 8 8)) 57)) zk 65 : Blk (((w.alloc (.cells #[.slice lo.ra p.rl lo.rc, .slice lo.ca p.cl lo.cc] 25)).alloc (.cells ((zs.setIfInBounds 0 (.bool true)).setIfInBounds 1 (.slice (some ⟨w.heap.size + 1 + 1, 0, none⟩) 8 8)) 57)).alloc (.cells zk 65)) (w.heap.size + 1 + 1) zk 65)
 have m0 := (((More.refl w).alloc #[.slice lo.ra p.rl lo.rc, .slice lo.ca p.cl lo.cc] 25).alloc ((zs.setIfInBounds 0 (.bool true)).setIfInBounds 1 (.slice (some ⟨w.heap.size + 1 + 1, 0, none⟩) 8 8)) 57).alloc zk 65
 have hz0 := Hzs 0 h0
 have hs : 1 < zs.size := by
  have := hz0.2
  rcases Nat.lt_or_ge 1 zs.size with h | h
  ·exact h
  ·rw [Array.getElem?_eq_none (by omega)] at this; cases this
 refine ⟨⟨fun k hk => ?_, fun j => e1.frozen j⟩, OnWay.start h0, e0, hp.more m0, m0⟩
 by_cases e : k = 0
 ·subst e
  rw [putV_same]
  refine ⟨w.heap.size + 1 + 1, 8, e1.cell ?_, e1.cell ?_, fun j hj => ⟨⟨e2.cell (Hzk j hj).1, e2.cell (Hzk j hj).2⟩, e2.frozen _, e2.frozen _⟩, by omega⟩
  ·rw [Array.getElem?_setIfInBounds_ne (by omega), Array.getElem?_setIfInBounds_self_of_lt (by omega)]
  ·rw [Array.getElem?_setIfInBounds_self_of_lt (by simp; omega)]
 ·rw [putV_other _ e]
  have := Hzs k hk
  refine ⟨e1.cell ?_, e1.cell ?_⟩
  ·rw [Array.getElem?_setIfInBounds_ne (by omega), Array.getElem?_setIfInBounds_ne (by omega)]; exact this.1
  ·rw [Array.getElem?_setIfInBounds_ne (by omega), Array.getElem?_setIfInBounds_ne (by omega)]; exact this.2

/-- A state that is come to, or none, as a value. -/
structure OAt (w : World) (b : Bool) (a : Option Addr) (n c : Nat) (o : Option KS) : Prop where
 out : (o = none ∧ b = false ∧ a = none ∧ n = 0 ∧ c = 0) ∨ ∃ s g, o = some s ∧ b = true ∧ a = some ⟨g, 0, none⟩ ∧ n = 8 ∧ KRow w g s
theorem OAt.more {w w' : World} (m : More w w') {b : Bool} {a : Option Addr} {n c : Nat} {o : Option KS} (h : OAt w b a n c o) : OAt w' b a n c o := by
 rcases h.out with h | ⟨s, g, h1, h2, h3, h4, h5⟩
 ·exact ⟨.inl h⟩
 ·exact ⟨.inr ⟨s, g, h1, h2, h3, h4, h5.more m⟩⟩
theorem CAt.oat {w : World} {lb k : Nat} {o : Option KS} (h : CAt w lb k o) : ∃ b a n c, w.cell? ⟨lb, k * 2, none⟩ = some (.bool b) ∧ w.cell? ⟨lb, k * 2 + 1, none⟩ = some (.slice a n c) ∧ OAt w b a n c o := by
 cases o with
 | none => exact ⟨false, none, 0, 0, h.1, h.2, ⟨.inl ⟨rfl, rfl, rfl, rfl, rfl⟩⟩⟩
 | some s =>
  obtain ⟨g, c, h1, h2, h3, _⟩ := h
  exact ⟨true, some ⟨g, 0, none⟩, 8, c, h1, h2, ⟨.inr ⟨s, g, rfl, rfl, rfl, rfl, h3⟩⟩⟩

theorem join_any (b : Bool) (a : Option Addr) (n c g cg : Nat) (o : Option KS) (t : KS) (w : World) (h : OAt w b a n c o) (ht : KRow w g t) :
  Calls Try.prog 46 #[.agg #[.bool b, .slice a n c], st true g cg] w fun e w' => ∃ g' c', e = .returned (st true g' c') ∧ w.heap.size ≤ g' ∧ KRow w' g' (joinV o t) ∧ More w w' := by
 rcases h.out with ⟨rfl, rfl, rfl, rfl, rfl⟩ | ⟨s, ga, rfl, rfl, rfl, rfl, hs⟩
 ·exact join_none _ ⟨_, _, _, rfl⟩ true g cg t w ht
 ·exact join_some true true ga c g cg s t w hs ht rfl
theorem same_any (b : Bool) (a : Option Addr) (n c g cg : Nat) (o : Option KS) (t : KS) (w : World) (h : OAt w b a n c o) (ht : KRow w g t) :
  Calls Try.prog 47 #[st true g cg, .agg #[.bool b, .slice a n c]] w (Says (SameV t o) w) := by
 rcases h.out with ⟨rfl, rfl, rfl, rfl, rfl⟩ | ⟨s, ga, rfl, rfl, rfl, rfl, hs⟩
 ·refine (same_none g cg w).mono ?_
  rintro e w' ⟨rfl, m⟩
  exact Says.no (fun ⟨u, e, _⟩ => by cases e) m
 ·refine (same_some g cg ga c t s w ht hs).mono ?_
  rintro e w' ⟨r, rfl, hr, m⟩
  refine ⟨r, rfl, hr.trans ⟨fun q => ⟨s, rfl, q⟩, fun ⟨u, e, q⟩ => ?_⟩, m⟩
  cases e; exact q

set_option maxHeartbeats 4000000 in
theorem states_calls (p : Prg) (lo : Loc) (w : World) (hp : PIn w p lo) (hok : p.Ok 200 8) (hn : ∀ i, i < p.cl → -9223372036854775808 ≤ (p.ins i).n ∧ (p.ins i).n ≤ 9223372036854775807) :
  Calls Try.prog 23 #[.agg #[.slice lo.ra p.rl lo.rc, .slice lo.ca p.cl lo.cc]] w fun e w' => ∃ lb l, e = .returned (.slice (some ⟨lb, 0, none⟩) p.cl p.cl) ∧ VAt w' lb p.cl l ∧ Known p l ∧ More w w' := by
 suffices hP : ∀ P : Ending → World → Prop, (∀ lb l w', VAt w' lb p.cl l → Known p l → More w w' → P (.returned (.slice (some ⟨lb, 0, none⟩) p.cl p.cl)) w') → Calls Try.prog 23 #[.agg #[.slice lo.ra p.rl lo.rc, .slice lo.ca p.cl lo.cc]] w P from hP _ (fun lb l w' h1 h2 h3 => ⟨lb, l, rfl, h1, h2, h3⟩)
 intro P hP0
 have HP : Hid (∀ lb l w', VAt w' lb p.cl l → Known p l → More w w' → P (.returned (.slice (some ⟨lb, 0, none⟩) p.cl p.cl)) w') := hP0
 have H : Hid (PIn w p lo ∧ p.Ok 200 8 ∧ ∀ i, i < p.cl → -9223372036854775808 ≤ (p.ins i).n ∧ (p.ins i).n ≤ 9223372036854775807) := ⟨hp, hok, hn⟩
 have h1 : 1 ≤ p.cl := hok.2.1
 have h2 : p.cl ≤ 200 := hok.2.2.1
 have hi1 : (1 : Int) ≤ p.cl := by omega
 have hi2 : (p.cl : Int) ≤ 200 := by omega
 clear hP0 hp hok hn
 obtain ⟨cl, hcl⟩ : ∃ cl, p.cl = cl := ⟨_, rfl⟩
 have Hcl : Hid (p.cl = cl) := hcl
 rw [hcl] at h1 h2 hi1 hi2 ⊢
 clear hcl
 have hmk := run_make2 (P := Try.prog) 53 57 (.bool false) (.slice none 0 0) 32 Try.underlying53 info59 .i64 .i64 cl (by omega) (by omega)
 have hmk2 := run_make2 (P := Try.prog) 55 65 (.int .i64 0) (.bool false) 16 Try.underlying55 info23 .i64 .i64 8 (by omega) (by omega)
 push_cast at hmk2
 obtain ⟨zs, hzs⟩ : ∃ z, madeCells #[.bool false, .slice none 0 0] (cl * 2) = z := ⟨_, rfl⟩
 obtain ⟨zk, hzk⟩ : ∃ z, madeCells #[.int .i64 0, .bool false] (8 * 2) = z := ⟨_, rfl⟩
 have Hzs : Hid (∀ k, k < cl → zs[k * 2]? = some (.bool false) ∧ zs[k * 2 + 1]? = some (.slice none 0 0)) := fun k hk => hzs ▸ made2_at _ _ _ _ hk
 have Hzk : Hid (∀ k, k < 8 → zk[k * 2]? = some (.int .i64 0) ∧ zk[k * 2 + 1]? = some (.bool false)) := fun k hk => hzk ▸ made2_at _ _ _ _ hk
 rw [hzs] at hmk
 rw [hzk] at hmk2
 clear hzs hzk
 have z0 : zs[0]? = some (.bool false) := by have := (Hzs.out 0 (by omega)).1; simpa using this
 have z1 : zs[1]? = some (.slice none 0 0) := by have := (Hzs.out 0 (by omega)).2; simpa using this
 obtain ⟨ra, rb, ro, rc, ca, cb, co, cc⟩ := lo
 dsimp only at *
 obtain ⟨W0, HW0⟩ : ∃ W0 : World, Hid (W0 = ((w.alloc (.cells #[.slice ra p.rl rc, .slice ca cl cc] 25)).alloc (.cells ((zs.setIfInBounds 0 (.bool true)).setIfInBounds 1 (.slice (some ⟨w.heap.size + 1 + 1, 0, none⟩) 8 8)) 57)).alloc (.cells zk 65)) := ⟨_, rfl⟩
 have HR0 : Hid (Rnd w p ⟨ra, rb, ro, rc, ca, cb, co, cc⟩ (w.heap.size + 1) (putV (fun _ => none) 0 zeroK) W0) := by
  have := rnd_start (zs := zs) (zk := zk) H.out.1 (by have := Hcl.out; omega) (by rw [Hcl.out]; exact Hzs.out) Hzk.out
  dsimp only at this
  rw [Hcl.out] at this
  rw [HW0.out]; exact this
 go_enter Try.func23, Try.ntmps23
 go_wp2_with (fail)
 rw [← HW0.out]
 clear hmk hmk2 z0 z1
 go_loopg [4] (145 * cl + 1) (fun g av wr => ∃ (b : Bool) (L : KV), av = .bool b ∧ Hid (Rnd w p ⟨ra, rb, ro, rc, ca, cb, co, cc⟩ (w.heap.size + 1) L wr ∧ (b = false → ∀ k, k < p.cl → Held p L k) ∧ (b = true → 145 * cl < rankV L p.cl + g)))
 case atStart => exact ⟨true, _, rfl, HR0.out, fun h => absurd h (by simp), fun _ => by omega⟩
 case round =>
  obtain ⟨b, L, rfl, HL⟩ := hrel
  cases b with
  | false =>
   have HE : Hid (VAt wr (w.heap.size + 1) p.cl L ∧ Known p L ∧ More w wr) := ⟨HL.out.1.v, HL.out.1.on.known (fun k s hk e => HL.out.2.1 rfl k hk s e), HL.out.1.more⟩
   clear HL
   go_wp2
   have hE := HP.out _ L _ HE.out.1 HE.out.2.1 HE.out.2.2
   rw [Hcl.out] at hE
   exact hE
  | true =>
   cases gk with
   | zero =>
    have q := HL.out.2.2 rfl
    have q2 := rankV_le HL.out.1.on.norm p.cl (Nat.le_refl _)
    rw [Hcl.out] at q q2
    omega
   | succ g =>
    have HQ : Hid (145 * cl < rankV L p.cl + (g + 1)) := HL.out.2.2 rfl
    have HR : Hid (Rnd w p ⟨ra, rb, ro, rc, ca, cb, co, cc⟩ (w.heap.size + 1) L wr) := HL.out.1
    clear HL
    go_wp2_with (fail)
    go_loopg [4, 5] cl (fun g2 av iv wr2 => ∃ (k : Nat) (b : Bool) (L2 : KV), k + g2 = cl ∧ iv = .int .i64 k ∧ av = .bool b ∧ Hid (Rnd w p ⟨ra, rb, ro, rc, ca, cb, co, cc⟩ (w.heap.size + 1) L2 wr2 ∧ (b = false → ∀ j, j < k → Held p L2 j) ∧ rankV L p.cl ≤ rankV L2 p.cl ∧ (b = true → rankV L p.cl < rankV L2 p.cl)))
    case atStart => exact ⟨0, false, L, by omega, rfl, rfl, HR.out, fun _ j hj => absurd hj (Nat.not_lt_zero _), Nat.le_refl _, fun h => absurd h (by simp)⟩
    case round =>
     obtain ⟨k, b2, L2, hkg, rfl, rfl, HM⟩ := hrel
     obtain ⟨wm, rfl⟩ : ∃ wm, wm = wr := ⟨wr, rfl⟩
     have HV : Hid (Rnd w p ⟨ra, rb, ro, rc, ca, cb, co, cc⟩ (w.heap.size + 1) L2 wm) := HM.out.1
     have HH : Hid (b2 = false → ∀ j, j < k → Held p L2 j) := HM.out.2.1
     have HK : Hid (rankV L p.cl ≤ rankV L2 p.cl ∧ (b2 = true → rankV L p.cl < rankV L2 p.cl)) := HM.out.2.2
     clear HM
     cases gk with
     | zero =>
      obtain rfl : k = cl := by omega
      go_wp2
      go_roundg g
      case measure => omega
      case rel =>
       refine ⟨b2, L2, rfl, HV.out, fun h j hj => HH.out h j (by rw [← Hcl.out]; exact hj), fun h => ?_⟩
       have q1 := HK.out.2 h
       have q2 := HQ.out
       omega
     | succ g2 =>
      have hk : k < cl := by omega
      have hki : (k : Int) < cl := by omega
      have hca := HV.out.v.at_ k (by rw [Hcl.out]; exact hk)
      cases eL : L2 k with
      | none =>
       rw [eL] at hca
       have c0 := hca.1
       have HeL : Hid (L2 k = none) := eL
       clear hca eL
       go_wp2
       go_roundg g2
       case measure => omega
       case rel =>
        refine ⟨k + 1, b2, L2, by omega, by first | rfl | simp, rfl, HV.out, fun h j hj => ?_, HK.out⟩
        by_cases q : j = k
        ·subst q; intro s e; rw [HeL.out] at e; cases e
        ·exact HH.out h j (by omega)
      | some s =>
       rw [eL] at hca
       obtain ⟨gs, cs, c0, c1, hks, hgne⟩ := hca
       have HeL : Hid (L2 k = some s) := eL
       have Hks : Hid (KRow wm gs s) := hks
       clear eL hks hgne
       obtain ⟨S, HS⟩ : ∃ S : World → Prop, Hid (∀ w', S w' ↔ More wm w') := ⟨_, fun _ => Iff.rfl⟩
       have HS0 : S wm.drew := (HS.out _).2 (More.refl _).drew
       have hne : Nonempty { w' // S w' } := ⟨⟨_, HS0⟩⟩
       have k0 : ∀ i : { w' // S w' }, i.val.cell? ⟨w.heap.size + 1, k * 2, none⟩ = some (.bool true) := fun i => ((HS.out _).1 i.property).cell c0
       have k1 : ∀ i : { w' // S w' }, i.val.cell? ⟨w.heap.size + 1, k * 2 + 1, none⟩ = some (.slice (some ⟨gs, 0, none⟩) 8 cs) := fun i => ((HS.out _).1 i.property).cell c1
       have k2 : ∀ i : { w' // S w' }, i.val.cell? ⟨w.heap.size, 0, none⟩ = some (.slice ra p.rl rc) := fun i => (HV.out.box.more ((HS.out _).1 i.property)).cell rfl
       have k3 : ∀ i : { w' // S w' }, i.val.cell? ⟨w.heap.size, 1, none⟩ = some (.slice ca cl cc) := fun i => by have := (HV.out.box.more ((HS.out _).1 i.property)).cell (j := 1) rfl; rw [Hcl.out] at this; exact this
       have cld : ∀ w1 : World, More wm w1 → Calls Try.prog 24 #[.agg #[.slice ra p.rl rc, .slice ca cl cc], .int .i64 k, st true gs cs] w1 fun e w' => ∃ v, e = .returned v ∧ LdAt w' w1.heap.size v (leadsK p k s) ∧ More w1 w' := fun w1 m => by
        have hkp : k < p.cl := by rw [Hcl.out]; exact hk
        have := leads_calls p ⟨ra, rb, ro, rc, ca, cb, co, cc⟩ k gs cs s w1 (HV.out.pin.more m) hkp H.out.2.1.2.2.1 (H.out.2.1.2.2.2 k hkp) (H.out.2.2 k hkp).1 (H.out.2.2 k hkp).2 (Hks.out.more m)
        dsimp only at this
        rw [Hcl.out] at this
        exact this
       have Hld : Hid (∀ w1 : World, More wm w1 → Calls Try.prog 24 #[.agg #[.slice ra p.rl rc, .slice ca cl cc], .int .i64 k, st true gs cs] w1 fun e w' => ∃ v, e = .returned v ∧ LdAt w' w1.heap.size v (leadsK p k s) ∧ More w1 w') := cld
       clear cld
       go_wp2_with (fail)
       refine wp_region_ord (S := S) [(0, true), (1, true), (2, true), (3, true), (4, true), (5, true), (6, false), (7, true)] (by kernel_rfl) (by kernel_rfl) (by kernel_rfl) HS0 ?_
       iterate 6 (refine wpOrd_take rfl (by kernel_rfl) (fun K hK => ?_); go_simp; refine hK _ _ ?_; clear hK K)
       refine wpOrd_busy rfl (by kernel_rfl) (fun K hK => ?_); go_simp
       refine (Hld.out _ (More.refl _).drew).mono ?_
       rintro e w3 ⟨lv, rfl, hlv, m3⟩
       have Hm3 : Hid (More wm w3) := (More.refl _).drew.trans m3
       have HS3 : S w3 := (HS.out _).2 Hm3.out
       obtain ⟨ls, hls⟩ : ∃ ls, leadsK p k s = ls := ⟨_, rfl⟩
       have Hls : Hid (leadsK p k s = ls) := hls
       rw [hls] at hlv
       clear hls
       have Hlv0 : Hid (LdAt w3 wm.heap.size lv ls) := hlv
       obtain ⟨la, lbk, lcap, rfl, hla, _, hl2, _⟩ := hlv
       obtain ⟨nl, hnl⟩ : ∃ nl, ls.length = nl := ⟨_, rfl⟩
       rw [hnl] at hla hl2 ⊢
       have Hlv1 : Hid (LdAt w3 wm.heap.size (.slice la nl lcap) ls) := by have := Hlv0.out; rw [hnl] at this; exact this
       have Hnl : Hid (ls.length = nl ∧ (0 < nl → la = some ⟨lbk, 0, none⟩)) := ⟨hnl, hla⟩
       clear m3 hnl hla
       go_simp
       refine hK _ _ HS3 ?_; clear hK K
       (refine wpOrd_take rfl (by kernel_rfl) (fun K hK => ?_); go_simp; refine hK _ _ ?_; clear hK K)
       refine wpOrd_done ?_
       clear k0 k1 k2 k3 hne HS0 HS3 c0 c1
       go_wp2_with (fail)
       go_loopg [4, 7] nl (fun g3 av iv wr3 => ∃ (j : Nat) (b3 : Bool) (L3 : KV), j + g3 = nl ∧ iv = .int .i64 j ∧ av = .bool b3 ∧ Hid (Rnd w p ⟨ra, rb, ro, rc, ca, cb, co, cc⟩ (w.heap.size + 1) L3 wr3 ∧ LdAt wr3 wm.heap.size (.slice la nl lcap) ls ∧ (b3 = false → b2 = false ∧ L3 = L2 ∧ ∀ i, i < j → ∀ x, ls[i]? = some x → x.1 < p.cl → ∃ u, L2 x.1 = some u ∧ leS x.2 u) ∧ rankV L2 p.cl ≤ rankV L3 p.cl ∧ (b3 = true → b2 = true ∨ rankV L2 p.cl < rankV L3 p.cl)))
       case atStart => exact ⟨0, b2, L2, by omega, rfl, rfl, HV.out.step (by have := Hcl.out; omega) Hm3.out, Hlv1.out, fun h => ⟨h, rfl, fun i hi => absurd hi (Nat.not_lt_zero _)⟩, Nat.le_refl _, fun h => .inl h⟩
       case round =>
        obtain ⟨j, b3, L3, hjg, rfl, rfl, HJ⟩ := hrel
        obtain ⟨wr3, rfl⟩ : ∃ wr3, wr3 = wr := ⟨wr, rfl⟩
        have HJ1 : Hid (Rnd w p ⟨ra, rb, ro, rc, ca, cb, co, cc⟩ (w.heap.size + 1) L3 wr3) := HJ.out.1
        have HJ2 : Hid (LdAt wr3 wm.heap.size (.slice la nl lcap) ls) := HJ.out.2.1
        have HJ3 : Hid (b3 = false → b2 = false ∧ L3 = L2 ∧ ∀ i, i < j → ∀ x, ls[i]? = some x → x.1 < p.cl → ∃ u, L2 x.1 = some u ∧ leS x.2 u) := HJ.out.2.2.1
        have HJ4 : Hid (rankV L2 p.cl ≤ rankV L3 p.cl ∧ (b3 = true → b2 = true ∨ rankV L2 p.cl < rankV L3 p.cl)) := HJ.out.2.2.2
        clear HJ
        cases gk with
        | zero =>
         obtain rfl : j = nl := by omega
         go_wp2
         go_roundg g2
         case measure => omega
         case rel =>
          refine ⟨k + 1, b3, L3, by omega, by first | rfl | simp, rfl, HJ1.out, fun h i hi => ?_, by have := HK.out.1; have := HJ4.out.1; omega, fun h => ?_⟩
          ·obtain ⟨q1, q2, q3⟩ := HJ3.out h
           rw [q2]
           by_cases q : i = k
           ·subst q
            intro s' e' x hx hxc
            rw [HeL.out] at e'
            cases e'
            rw [Hls.out] at hx
            obtain ⟨i', hi', hx'⟩ := List.mem_iff_getElem.1 hx
            exact q3 i' (by rw [← Hnl.out.1]; exact hi') x (by rw [List.getElem?_eq_getElem hi', hx']) hxc
           ·exact HH.out q1 i (by omega)
          ·rcases HJ4.out.2 h with q | q
           ·have := HK.out.2 q; have := HJ4.out.1; omega
           ·have := HK.out.1; omega
        | succ g3 =>
         have hj : j < nl := by omega
         have hji : (j : Int) < nl := by omega
         have hnli : (nl : Int) ≤ 2 := by omega
         obtain ⟨x, hx⟩ : ∃ x, ls[j]? = some x := ⟨ls[j]'(by rw [Hnl.out.1]; exact hj), List.getElem?_eq_getElem _⟩
         obtain rfl : la = some ⟨lbk, 0, none⟩ := Hnl.out.2 (by omega)
         obtain ⟨_, lbk', _, hsl, hlb', hlob, _, hcells⟩ := HJ2.out
         obtain ⟨gx, cx, l0, l1, l2, hkx, hgx⟩ := hcells j x hx
         have hlbk : lbk' = lbk := by
          have h1 := hlb' (by rw [Hnl.out.1]; omega)
          injection hsl with h2 _ _
          rw [h1] at h2
          injection h2 with h3
          injection h3 with h4
          exact h4.symm
         subst hlbk
         obtain ⟨xto, xs⟩ := x
         dsimp only at l0 hkx
         have HKX : Hid (KRow wr3 gx xs) := hkx
         clear hsl hlb' hcells hkx
         by_cases hxc : p.cl ≤ xto
         ·have hxi : (cl : Int) ≤ xto := by have := Hcl.out; omega
          have Hxc : Hid (p.cl ≤ xto ∧ ls[j]? = some (xto, xs)) := ⟨hxc, hx⟩
          clear hxc hx
          go_wp2
          go_roundg g3
          case measure => omega
          case rel =>
           refine ⟨j + 1, b3, L3, by omega, by first | rfl | simp, rfl, HJ1.out, HJ2.out, fun h => ?_, HJ4.out⟩
           obtain ⟨q1, q2, q3⟩ := HJ3.out h
           refine ⟨q1, q2, fun i hi y hy hyc => ?_⟩
           by_cases q : i = j
           ·subst q
            rw [Hxc.out.2] at hy
            cases hy
            have := Hxc.out.1
            dsimp only at hyc
            omega
           ·exact q3 i (by omega) y hy hyc
         ·have hxi : ¬ (cl : Int) ≤ xto := by have := Hcl.out; omega
          have hxl : (xto : Int) < cl := by omega
          have HX : Hid (ls[j]? = some (xto, xs) ∧ Just p (xto, xs) ∧ xto < p.cl) := ⟨hx, HV.out.on.just H.out.2.1 (by rw [Hcl.out]; exact hk) HeL.out (by rw [Hls.out]; exact List.mem_of_getElem? hx), by omega⟩
          clear hxc hx
          obtain ⟨bo, oa, on, oc, d0, d1, hO⟩ := (HJ1.out.v.at_ xto HX.out.2.2).oat
          have HO : Hid (OAt wr3 bo oa on oc (L3 xto)) := hO
          clear hO
          obtain ⟨S, HS⟩ : ∃ S : World → Prop, Hid (∀ w', S w' ↔ More wr3 w') := ⟨_, fun _ => Iff.rfl⟩
          have HS0 : S wr3.drew := (HS.out _).2 (More.refl _).drew
          have hne : Nonempty { w' // S w' } := ⟨⟨_, HS0⟩⟩
          have k0 : ∀ i : { w' // S w' }, i.val.cell? ⟨w.heap.size + 1, xto * 2, none⟩ = some (.bool bo) := fun i => ((HS.out _).1 i.property).cell d0
          have k1 : ∀ i : { w' // S w' }, i.val.cell? ⟨w.heap.size + 1, xto * 2 + 1, none⟩ = some (.slice oa on oc) := fun i => ((HS.out _).1 i.property).cell d1
          have k2 : ∀ i : { w' // S w' }, i.val.cell? ⟨lbk', j * 3, none⟩ = some (.int .i64 xto) := fun i => ((HS.out _).1 i.property).cell l0
          have k3 : ∀ i : { w' // S w' }, i.val.cell? ⟨lbk', j * 3 + 1, none⟩ = some (.bool true) := fun i => ((HS.out _).1 i.property).cell l1
          have k4 : ∀ i : { w' // S w' }, i.val.cell? ⟨lbk', j * 3 + 2, none⟩ = some (.slice (some ⟨gx, 0, none⟩) 8 cx) := fun i => ((HS.out _).1 i.property).cell l2
          have k5 : ∀ i : { w' // S w' }, i.val.cell? ⟨lbk', j * 3 + 1 + 1, none⟩ = some (.slice (some ⟨gx, 0, none⟩) 8 cx) := fun i => ((HS.out _).1 i.property).cell l2
          go_wp2_with (fail)
          clear l0 l1 l2
          refine wp_region_left (S := S) (by kernel_rfl) HS0 ?_
          refine ol_take 0 rfl (by kernel_rfl) HS0 (by kernel_rfl) (fun K hK => ?_); go_simp; refine hK _ _ ?_; clear hK K
          refine ol_take 1 rfl (by kernel_rfl) HS0 (by kernel_rfl) (fun K hK => ?_); go_simp; refine hK _ _ ?_; clear hK K
          refine ol_take 2 rfl (by kernel_rfl) HS0 (by kernel_rfl) (fun K hK => ?_); go_simp; refine hK _ _ ?_; clear hK K
          refine ol_take 3 rfl (by kernel_rfl) HS0 (by kernel_rfl) (fun K hK => ?_); go_simp; refine hK _ _ ?_; clear hK K
          refine ol_take 4 rfl (by kernel_rfl) HS0 (by kernel_rfl) (fun K hK => ?_); go_simp; refine hK _ _ ?_; clear hK K
          refine ol_take 5 rfl (by kernel_rfl) HS0 (by kernel_rfl) (fun K hK => ?_); go_simp; refine hK _ _ ?_; clear hK K
          refine ol_take 6 rfl (by kernel_rfl) HS0 (by kernel_rfl) (fun K hK => ?_); go_simp; refine hK _ _ ?_; clear hK K
          refine ol_take 7 rfl (by kernel_rfl) HS0 (by kernel_rfl) (fun K hK => ?_); go_simp; refine hK _ _ ?_; clear hK K
          refine ol_take 8 rfl (by kernel_rfl) HS0 (by kernel_rfl) (fun K hK => ?_); go_simp; refine hK _ _ ?_; clear hK K
          refine ol_two 9 10 (by kernel_rfl) ?_ ?_
          ·-- the call, then the new block
           refine ol_step rfl (by kernel_rfl) (fun K hK => ?_); go_simp
           refine (join_any bo oa on oc gx cx (L3 xto) xs _ (HO.out.more (More.refl _).drew) (HKX.out.more (More.refl _).drew)).mono ?_
           rintro e w5 ⟨gj, cj, rfl, hgj, hjr, m5⟩
           have M5 : Hid (More wr3 w5) := (More.refl _).drew.trans m5
           have HJ5 : Hid (KRow w5 gj (joinV (L3 xto) xs) ∧ wr3.heap.size ≤ gj) := ⟨hjr, by simpa using hgj⟩
           clear m5 hjr hgj
           go_simp
           refine hK _ _ ((HS.out _).2 M5.out) ?_; clear hK K
           refine ol_one 10 (by kernel_rfl) ?_
           refine ol_step rfl (by kernel_rfl) (fun K hK => ?_); go_simp
           refine hK _ _ ((HS.out _).2 (M5.out.alloc _ _)) ?_; clear hK K
           refine ol_one 11 (by kernel_rfl) ?_
           refine ol_step rfl (by kernel_rfl) (fun K hK => ?_); go_simp
           obtain ⟨w6, Hw6⟩ : ∃ w6 : World, Hid (w6 = w5.alloc (.cells #[.bool true, .slice (some ⟨gj, 0, none⟩) 8 cj] 57)) := ⟨_, rfl⟩
           have HM6 : Hid (More wr3 w6) := Hw6.out ▸ M5.out.alloc _ _
           obtain ⟨bx, Hbx⟩ : ∃ bx, Hid (bx = w5.heap.size) := ⟨_, rfl⟩
           have HB6 : Hid (Blk w6 bx #[.bool true, .slice (some ⟨gj, 0, none⟩) 8 cj] 57) := Hw6.out ▸ Hbx.out ▸ Blk.last _ _ _
           have HJ6 : Hid (KRow w6 gj (joinV (L3 xto) xs)) := HJ5.out.1.more (Hw6.out ▸ (More.refl _).alloc _ _)
           have HG6 : Hid (w.heap.size + 1 < gj) := by show _ < _; have := HJ5.out.2; have := (HJ1.out.v.at_ 0 (by have := Hcl.out; omega)).lt; omega
           rw [← Hw6.out, ← Hbx.out]
           refine hK _ _ ((HS.out _).2 HM6.out) ?_; clear hK K
           refine ol_done (by kernel_rfl) ?_
           clear k0 k1 k2 k3 k4 k5 hne HS0
           -- the block bx, the world w6
           have HR6 : Hid (Rnd w p ⟨ra, rb, ro, rc, ca, cb, co, cc⟩ (w.heap.size + 1) L3 w6 ∧ LdAt w6 wm.heap.size (.slice (some ⟨lbk', 0, none⟩) nl lcap) ls) := ⟨HJ1.out.step (by have := Hcl.out; omega) HM6.out, HJ2.out.more HM6.out⟩
           have HO6 : Hid (OAt w6 bo oa on oc (L3 xto)) := HO.out.more HM6.out
           obtain ⟨T, HT⟩ : ∃ T : World → Prop, Hid (∀ w', T w' ↔ More w6 w') := ⟨_, fun _ => Iff.rfl⟩
           have HT0 : T w6.drew := (HT.out _).2 (More.refl _).drew
           have hneT : Nonempty { w' // T w' } := ⟨⟨_, HT0⟩⟩
           have t0 : ∀ i : { w' // T w' }, i.val.cell? ⟨bx, 0, none⟩ = some (.bool true) := fun i => (HB6.out.more ((HT.out _).1 i.property)).cell rfl
           have t1 : ∀ i : { w' // T w' }, i.val.cell? ⟨bx, 1, none⟩ = some (.slice (some ⟨gj, 0, none⟩) 8 cj) := fun i => (HB6.out.more ((HT.out _).1 i.property)).cell rfl
           have t2 : ∀ i : { w' // T w' }, i.val.cell? ⟨w.heap.size + 1, xto * 2, none⟩ = some (.bool bo) := fun i => (HM6.out.trans ((HT.out _).1 i.property)).cell d0
           have t3 : ∀ i : { w' // T w' }, i.val.cell? ⟨w.heap.size + 1, xto * 2 + 1, none⟩ = some (.slice oa on oc) := fun i => (HM6.out.trans ((HT.out _).1 i.property)).cell d1
           go_wp2_with (fail)
           refine wp_region_ord (S := T) [(0, true), (1, true), (2, true), (3, true), (4, true), (5, false), (6, true)] (by kernel_rfl) (by kernel_rfl) (by kernel_rfl) HT0 ?_
           iterate 5 (refine wpOrd_take rfl (by kernel_rfl) (fun K hK => ?_); go_simp; refine hK _ _ ?_; clear hK K)
           refine wpOrd_busy rfl (by kernel_rfl) (fun K hK => ?_); go_simp
           refine (same_any bo oa on oc gj cj (L3 xto) (joinV (L3 xto) xs) _ (HO6.out.more (More.refl _).drew) (HJ6.out.more (More.refl _).drew)).mono ?_
           rintro e w7 ⟨r, rfl, hr, m7⟩
           have HM7 : Hid (More w6 w7) := (More.refl _).drew.trans m7
           have HT7 : T w7 := (HT.out _).2 HM7.out
           have Hr : Hid (r = true ↔ SameV (joinV (L3 xto) xs) (L3 xto)) := hr
           clear hr m7
           cases r with
           | true =>
            have Hs : Hid (SameV (joinV (L3 xto) xs) (L3 xto)) := Hr.out.1 rfl
            clear Hr
            go_simp
            refine hK _ _ HT7 ?_; clear hK K
            (refine wpOrd_take rfl (by kernel_rfl) (fun K hK => ?_); go_simp; refine hK _ _ ?_; clear hK K)
            refine wpOrd_done ?_
            clear t0 t1 t2 t3 hneT HT0 HT7 d0 d1
            go_wp2
            go_roundg g3
            case measure => omega
            case rel =>
             refine ⟨j + 1, b3, L3, by omega, by first | rfl | simp, rfl, HR6.out.1.step (by have := Hcl.out; omega) HM7.out, HR6.out.2.more HM7.out, fun h => ?_, HJ4.out.1, HJ4.out.2⟩
             obtain ⟨q1, q2, q3⟩ := HJ3.out h
             refine ⟨q1, q2, fun i hi y hy hyc => ?_⟩
             by_cases q : i = j
             ·subst q
              rw [HX.out.1] at hy
              cases hy
              rw [← q2]
              exact held_of_same Hs.out
             ·exact q3 i (by omega) y hy hyc
           | false =>
            have Hs : Hid (¬ SameV (joinV (L3 xto) xs) (L3 xto)) := fun q => absurd (Hr.out.2 q) (by simp)
            clear Hr
            go_simp
            refine hK _ _ HT7 ?_; clear hK K
            (refine wpOrd_take rfl (by kernel_rfl) (fun K hK => ?_); go_simp; refine hK _ _ ?_; clear hK K)
            refine wpOrd_done ?_
            clear t0 t1 t2 t3 hneT HT0 HT7
            have v0 := HM7.out.cell (HM6.out.cell d0)
            have v1 := HM7.out.cell (HM6.out.cell d1)
            have v2 : w7.cell? ⟨bx, 0, none⟩ = some (.bool true) := (HB6.out.more HM7.out).cell rfl
            have v3 : w7.cell? ⟨bx, 1, none⟩ = some (.slice (some ⟨gj, 0, none⟩) 8 cj) := (HB6.out.more HM7.out).cell rfl
            have HR7 : Hid (Rnd w p ⟨ra, rb, ro, rc, ca, cb, co, cc⟩ (w.heap.size + 1) L3 w7 ∧ LdAt w7 wm.heap.size (.slice (some ⟨lbk', 0, none⟩) nl lcap) ls) := ⟨HR6.out.1.step (by have := Hcl.out; omega) HM7.out, HR6.out.2.more HM7.out⟩
            have v4 := HR7.out.1.v.fr (xto * 2)
            have v5 := HR7.out.1.v.fr (xto * 2 + 1)
            clear d0 d1
            have Hend : Hid (Rnd w p ⟨ra, rb, ro, rc, ca, cb, co, cc⟩ (w.heap.size + 1) (putV L3 xto (joinV (L3 xto) xs)) ((w7.setCell ⟨w.heap.size + 1, xto * 2, none⟩ (.bool true)).setCell ⟨w.heap.size + 1, xto * 2 + 1, none⟩ (.slice (some ⟨gj, 0, none⟩) 8 cj)) ∧ LdAt ((w7.setCell ⟨w.heap.size + 1, xto * 2, none⟩ (.bool true)).setCell ⟨w.heap.size + 1, xto * 2 + 1, none⟩ (.slice (some ⟨gj, 0, none⟩) 8 cj)) wm.heap.size (.slice (some ⟨lbk', 0, none⟩) nl lcap) ls) := by
             have hlb : w.heap.size + 1 < wm.heap.size := (HV.out.v.at_ 0 (by have := Hcl.out; omega)).lt
             have hmm := (HR7.out.1.more.setCell (a := ⟨w.heap.size + 1, xto * 2, none⟩) (by dsimp only; omega) (.bool true)).setCell (a := ⟨w.heap.size + 1, xto * 2 + 1, none⟩) (by dsimp only; omega) (.slice (some ⟨gj, 0, none⟩) 8 cj)
             refine ⟨⟨HR7.out.1.v.put HX.out.2.2 (HJ6.out.more HM7.out) (by have := HG6.out; omega), HR7.out.1.on.joinJ (x := (xto, xs)) HX.out.2.1 HX.out.2.2, (HR7.out.1.box.other (by omega) _ _).other (by omega) _ _, H.out.1.more hmm, hmm⟩, (HR7.out.2.other (by omega) _ _).other (by omega) _ _⟩
            have Hrk : Hid (rankV L3 p.cl < rankV (putV L3 xto (joinV (L3 xto) xs)) p.cl) := rank_up HR7.out.1.on.norm HX.out.2.2 HX.out.2.1.norm Hs.out
            go_wp2
            go_roundg g3
            case measure => omega
            case rel =>
             exact ⟨j + 1, true, _, by omega, by first | rfl | simp, rfl, Hend.out.1, Hend.out.2, fun h => absurd h (by simp), by have := HJ4.out.1; have := Hrk.out; omega, fun _ => .inr (by have := HJ4.out.1; have := Hrk.out; omega)⟩
          ·-- the new block, then the call
           refine ol_step rfl (by kernel_rfl) (fun K hK => ?_); go_simp
           refine hK _ _ ((HS.out _).2 ((More.refl _).drew.alloc _ _)) ?_; clear hK K
           refine ol_one 9 (by kernel_rfl) ?_
           refine ol_step rfl (by kernel_rfl) (fun K hK => ?_); go_simp
           refine (join_any bo oa on oc gx cx (L3 xto) xs _ (HO.out.more ((More.refl _).drew.alloc _ _)) (HKX.out.more ((More.refl _).drew.alloc _ _))).mono ?_
           rintro e w5 ⟨gj, cj, rfl, hgj, hjr, m5⟩
           have M5 : Hid (More wr3 w5) := ((More.refl _).drew.alloc _ _).trans m5
           have HJ5 : Hid (KRow w5 gj (joinV (L3 xto) xs) ∧ wr3.heap.size < gj) := ⟨hjr, by have : (wr3.alloc (.cells #[.bool false, .slice none 0 0] 57)).heap.size ≤ gj := hgj; simp at this; omega⟩
           have HB5 : Hid (Blk w5 wr3.heap.size #[.bool false, .slice none 0 0] 57) := (Blk.last wr3.drew _ _).more m5
           clear m5 hjr hgj
           go_simp
           refine hK _ _ ((HS.out _).2 M5.out) ?_; clear hK K
           refine ol_one 11 (by kernel_rfl) ?_
           have y0 := HB5.out.cell (j := 0) (v := .bool false) rfl
           have y1 := HB5.out.cell (j := 1) (v := .slice none 0 0) rfl
           have y2 := HB5.out.frozen 0
           have y3 := HB5.out.frozen 1
           refine ol_step rfl (by kernel_rfl) (fun K hK => ?_); go_simp
           obtain ⟨w6, Hw6⟩ : ∃ w6 : World, Hid (w6 = (w5.setCell ⟨wr3.heap.size, 0, none⟩ (.bool true)).setCell ⟨wr3.heap.size, 1, none⟩ (.slice (some ⟨gj, 0, none⟩) 8 cj)) := ⟨_, rfl⟩
           have HM6 : Hid (More wr3 w6) := Hw6.out ▸ (M5.out.setCell (Nat.le_refl _) _).setCell (Nat.le_refl _) _
           obtain ⟨bx, Hbx⟩ : ∃ bx, Hid (bx = wr3.heap.size) := ⟨_, rfl⟩
           have HB6 : Hid (Blk w6 bx #[.bool true, .slice (some ⟨gj, 0, none⟩) 8 cj] 57) := by
            show Blk _ _ _ _
            rw [Hw6.out, Hbx.out]
            have h1 := HB5.out
            unfold Blk at h1 ⊢
            simp [World.setCell, Array.getElem?_modify, h1]
           have HJ6 : Hid (KRow w6 gj (joinV (L3 xto) xs)) := Hw6.out ▸ (HJ5.out.1.other (by have := HJ5.out.2; omega) _ _).other (by have := HJ5.out.2; omega) _ _
           have HG6 : Hid (w.heap.size + 1 < gj) := by show _ < _; have := HJ5.out.2; have := (HJ1.out.v.at_ 0 (by have := Hcl.out; omega)).lt; omega
           rw [← Hw6.out]
           simp only [← Hbx.out]
           clear y0 y1 y2 y3
           refine hK _ _ ((HS.out _).2 HM6.out) ?_; clear hK K
           refine ol_done (by kernel_rfl) ?_
           clear k0 k1 k2 k3 k4 k5 hne HS0
           -- the block bx, the world w6
           have HR6 : Hid (Rnd w p ⟨ra, rb, ro, rc, ca, cb, co, cc⟩ (w.heap.size + 1) L3 w6 ∧ LdAt w6 wm.heap.size (.slice (some ⟨lbk', 0, none⟩) nl lcap) ls) := ⟨HJ1.out.step (by have := Hcl.out; omega) HM6.out, HJ2.out.more HM6.out⟩
           have HO6 : Hid (OAt w6 bo oa on oc (L3 xto)) := HO.out.more HM6.out
           obtain ⟨T, HT⟩ : ∃ T : World → Prop, Hid (∀ w', T w' ↔ More w6 w') := ⟨_, fun _ => Iff.rfl⟩
           have HT0 : T w6.drew := (HT.out _).2 (More.refl _).drew
           have hneT : Nonempty { w' // T w' } := ⟨⟨_, HT0⟩⟩
           have t0 : ∀ i : { w' // T w' }, i.val.cell? ⟨bx, 0, none⟩ = some (.bool true) := fun i => (HB6.out.more ((HT.out _).1 i.property)).cell rfl
           have t1 : ∀ i : { w' // T w' }, i.val.cell? ⟨bx, 1, none⟩ = some (.slice (some ⟨gj, 0, none⟩) 8 cj) := fun i => (HB6.out.more ((HT.out _).1 i.property)).cell rfl
           have t2 : ∀ i : { w' // T w' }, i.val.cell? ⟨w.heap.size + 1, xto * 2, none⟩ = some (.bool bo) := fun i => (HM6.out.trans ((HT.out _).1 i.property)).cell d0
           have t3 : ∀ i : { w' // T w' }, i.val.cell? ⟨w.heap.size + 1, xto * 2 + 1, none⟩ = some (.slice oa on oc) := fun i => (HM6.out.trans ((HT.out _).1 i.property)).cell d1
           go_wp2_with (fail)
           refine wp_region_ord (S := T) [(0, true), (1, true), (2, true), (3, true), (4, true), (5, false), (6, true)] (by kernel_rfl) (by kernel_rfl) (by kernel_rfl) HT0 ?_
           iterate 5 (refine wpOrd_take rfl (by kernel_rfl) (fun K hK => ?_); go_simp; refine hK _ _ ?_; clear hK K)
           refine wpOrd_busy rfl (by kernel_rfl) (fun K hK => ?_); go_simp
           refine (same_any bo oa on oc gj cj (L3 xto) (joinV (L3 xto) xs) _ (HO6.out.more (More.refl _).drew) (HJ6.out.more (More.refl _).drew)).mono ?_
           rintro e w7 ⟨r, rfl, hr, m7⟩
           have HM7 : Hid (More w6 w7) := (More.refl _).drew.trans m7
           have HT7 : T w7 := (HT.out _).2 HM7.out
           have Hr : Hid (r = true ↔ SameV (joinV (L3 xto) xs) (L3 xto)) := hr
           clear hr m7
           cases r with
           | true =>
            have Hs : Hid (SameV (joinV (L3 xto) xs) (L3 xto)) := Hr.out.1 rfl
            clear Hr
            go_simp
            refine hK _ _ HT7 ?_; clear hK K
            (refine wpOrd_take rfl (by kernel_rfl) (fun K hK => ?_); go_simp; refine hK _ _ ?_; clear hK K)
            refine wpOrd_done ?_
            clear t0 t1 t2 t3 hneT HT0 HT7 d0 d1
            go_wp2
            go_roundg g3
            case measure => omega
            case rel =>
             refine ⟨j + 1, b3, L3, by omega, by first | rfl | simp, rfl, HR6.out.1.step (by have := Hcl.out; omega) HM7.out, HR6.out.2.more HM7.out, fun h => ?_, HJ4.out.1, HJ4.out.2⟩
             obtain ⟨q1, q2, q3⟩ := HJ3.out h
             refine ⟨q1, q2, fun i hi y hy hyc => ?_⟩
             by_cases q : i = j
             ·subst q
              rw [HX.out.1] at hy
              cases hy
              rw [← q2]
              exact held_of_same Hs.out
             ·exact q3 i (by omega) y hy hyc
           | false =>
            have Hs : Hid (¬ SameV (joinV (L3 xto) xs) (L3 xto)) := fun q => absurd (Hr.out.2 q) (by simp)
            clear Hr
            go_simp
            refine hK _ _ HT7 ?_; clear hK K
            (refine wpOrd_take rfl (by kernel_rfl) (fun K hK => ?_); go_simp; refine hK _ _ ?_; clear hK K)
            refine wpOrd_done ?_
            clear t0 t1 t2 t3 hneT HT0 HT7
            have v0 := HM7.out.cell (HM6.out.cell d0)
            have v1 := HM7.out.cell (HM6.out.cell d1)
            have v2 : w7.cell? ⟨bx, 0, none⟩ = some (.bool true) := (HB6.out.more HM7.out).cell rfl
            have v3 : w7.cell? ⟨bx, 1, none⟩ = some (.slice (some ⟨gj, 0, none⟩) 8 cj) := (HB6.out.more HM7.out).cell rfl
            have HR7 : Hid (Rnd w p ⟨ra, rb, ro, rc, ca, cb, co, cc⟩ (w.heap.size + 1) L3 w7 ∧ LdAt w7 wm.heap.size (.slice (some ⟨lbk', 0, none⟩) nl lcap) ls) := ⟨HR6.out.1.step (by have := Hcl.out; omega) HM7.out, HR6.out.2.more HM7.out⟩
            have v4 := HR7.out.1.v.fr (xto * 2)
            have v5 := HR7.out.1.v.fr (xto * 2 + 1)
            clear d0 d1
            have Hend : Hid (Rnd w p ⟨ra, rb, ro, rc, ca, cb, co, cc⟩ (w.heap.size + 1) (putV L3 xto (joinV (L3 xto) xs)) ((w7.setCell ⟨w.heap.size + 1, xto * 2, none⟩ (.bool true)).setCell ⟨w.heap.size + 1, xto * 2 + 1, none⟩ (.slice (some ⟨gj, 0, none⟩) 8 cj)) ∧ LdAt ((w7.setCell ⟨w.heap.size + 1, xto * 2, none⟩ (.bool true)).setCell ⟨w.heap.size + 1, xto * 2 + 1, none⟩ (.slice (some ⟨gj, 0, none⟩) 8 cj)) wm.heap.size (.slice (some ⟨lbk', 0, none⟩) nl lcap) ls) := by
             have hlb : w.heap.size + 1 < wm.heap.size := (HV.out.v.at_ 0 (by have := Hcl.out; omega)).lt
             have hmm := (HR7.out.1.more.setCell (a := ⟨w.heap.size + 1, xto * 2, none⟩) (by dsimp only; omega) (.bool true)).setCell (a := ⟨w.heap.size + 1, xto * 2 + 1, none⟩) (by dsimp only; omega) (.slice (some ⟨gj, 0, none⟩) 8 cj)
             refine ⟨⟨HR7.out.1.v.put HX.out.2.2 (HJ6.out.more HM7.out) (by have := HG6.out; omega), HR7.out.1.on.joinJ (x := (xto, xs)) HX.out.2.1 HX.out.2.2, (HR7.out.1.box.other (by omega) _ _).other (by omega) _ _, H.out.1.more hmm, hmm⟩, (HR7.out.2.other (by omega) _ _).other (by omega) _ _⟩
            have Hrk : Hid (rankV L3 p.cl < rankV (putV L3 xto (joinV (L3 xto) xs)) p.cl) := rank_up HR7.out.1.on.norm HX.out.2.2 HX.out.2.1.norm Hs.out
            go_wp2
            go_roundg g3
            case measure => omega
            case rel =>
             exact ⟨j + 1, true, _, by omega, by first | rfl | simp, rfl, Hend.out.1, Hend.out.2, fun h => absurd h (by simp), by have := HJ4.out.1; have := Hrk.out; omega, fun _ => .inr (by have := HJ4.out.1; have := Hrk.out; omega)⟩
theorem secret_3 (ra : Option Addr) (rl rc : Nat) (cv : Value) (g c : Nat) (a b ic n : Int) (w : World) (zg : g < w.heap.size) (xb : Bool) (b0 : 0 ≤ b) (b1 : b < 8) (kb : w.cell? ⟨g, b.toNat * 2 + 1, none⟩ = some (.bool xb)) (hcv : ∃ x y z, cv = .slice x y z) :
  Calls Try.prog 26 #[.agg #[.slice ra rl rc, cv], .agg #[.int .i64 3, .int .i64 a, .int .i64 b, .int .i64 ic, .int .i64 n], .slice (some ⟨g, 0, none⟩) 8 c] w fun e w' => e = .returned (.bool (xb)) ∧ More w w' := by
 obtain ⟨cx, cy, cz, rfl⟩ := hcv
 have zg1 : g < w.heap.size + 1 := by omega
 cases xb
 all_goals
  go_enter Try.func26, Try.ntmps26
  go_wp2
  go_ret
  exact ⟨rfl, ((More.refl _).alloc _ _).alloc _ _⟩

theorem secret_4 (ra : Option Addr) (rl rc : Nat) (cv : Value) (g c : Nat) (a b ic n : Int) (w : World) (zg : g < w.heap.size) (xa xb xr : Bool) (a0 : 0 ≤ a) (a1 : a < 8) (ka : w.cell? ⟨g, a.toNat * 2 + 1, none⟩ = some (.bool xa)) (b0 : 0 ≤ b) (b1 : b < 8) (kb : w.cell? ⟨g, b.toNat * 2 + 1, none⟩ = some (.bool xb)) (rb ro : Nat) (hra : ra = some ⟨rb, ro, none⟩) (zr : rb < w.heap.size) (c0 : 0 ≤ ic) (c1 : ic < rl) (kr : w.cell? ⟨rb, ro + ic.toNat * 2 + 1, none⟩ = some (.bool xr)) (hcv : ∃ x y z, cv = .slice x y z) :
  Calls Try.prog 26 #[.agg #[.slice ra rl rc, cv], .agg #[.int .i64 4, .int .i64 a, .int .i64 b, .int .i64 ic, .int .i64 n], .slice (some ⟨g, 0, none⟩) 8 c] w fun e w' => e = .returned (.bool (xb || (xa && !xr))) ∧ More w w' := by
 obtain ⟨cx, cy, cz, rfl⟩ := hcv
 have zg1 : g < w.heap.size + 1 := by omega
 subst hra
 have zr1 : rb < w.heap.size + 1 := by omega
 cases xb <;> cases xa <;> cases xr
 all_goals
  go_enter Try.func26, Try.ntmps26
  go_wp2
  go_ret
  exact ⟨rfl, ((More.refl _).alloc _ _).alloc _ _⟩

theorem secret_6 (ra : Option Addr) (rl rc : Nat) (cv : Value) (g c : Nat) (a b ic n : Int) (w : World) (zg : g < w.heap.size) (xa xr : Bool) (a0 : 0 ≤ a) (a1 : a < 8) (ka : w.cell? ⟨g, a.toNat * 2 + 1, none⟩ = some (.bool xa)) (rb ro : Nat) (hra : ra = some ⟨rb, ro, none⟩) (zr : rb < w.heap.size) (c0 : 0 ≤ ic) (c1 : ic < rl) (kr : w.cell? ⟨rb, ro + ic.toNat * 2 + 1, none⟩ = some (.bool xr)) (hcv : ∃ x y z, cv = .slice x y z) :
  Calls Try.prog 26 #[.agg #[.slice ra rl rc, cv], .agg #[.int .i64 6, .int .i64 a, .int .i64 b, .int .i64 ic, .int .i64 n], .slice (some ⟨g, 0, none⟩) 8 c] w fun e w' => e = .returned (.bool (xa && !xr)) ∧ More w w' := by
 obtain ⟨cx, cy, cz, rfl⟩ := hcv
 have zg1 : g < w.heap.size + 1 := by omega
 subst hra
 have zr1 : rb < w.heap.size + 1 := by omega
 cases xa <;> cases xr
 all_goals
  go_enter Try.func26, Try.ntmps26
  go_wp2
  go_ret
  exact ⟨rfl, ((More.refl _).alloc _ _).alloc _ _⟩

theorem secret_8 (ra : Option Addr) (rl rc : Nat) (cv : Value) (g c : Nat) (a b ic n : Int) (w : World) (zg : g < w.heap.size) (xa xb : Bool) (a0 : 0 ≤ a) (a1 : a < 8) (ka : w.cell? ⟨g, a.toNat * 2 + 1, none⟩ = some (.bool xa)) (b0 : 0 ≤ b) (b1 : b < 8) (kb : w.cell? ⟨g, b.toNat * 2 + 1, none⟩ = some (.bool xb)) (hcv : ∃ x y z, cv = .slice x y z) :
  Calls Try.prog 26 #[.agg #[.slice ra rl rc, cv], .agg #[.int .i64 8, .int .i64 a, .int .i64 b, .int .i64 ic, .int .i64 n], .slice (some ⟨g, 0, none⟩) 8 c] w fun e w' => e = .returned (.bool (xa || xb)) ∧ More w w' := by
 obtain ⟨cx, cy, cz, rfl⟩ := hcv
 have zg1 : g < w.heap.size + 1 := by omega
 cases xa <;> cases xb
 all_goals
  go_enter Try.func26, Try.ntmps26
  go_wp2
  go_ret
  exact ⟨rfl, ((More.refl _).alloc _ _).alloc _ _⟩

theorem secret_29 (ra : Option Addr) (rl rc : Nat) (cv : Value) (g c : Nat) (a b ic n : Int) (w : World) (zg : g < w.heap.size) (xb xc : Bool) (b0 : 0 ≤ b) (b1 : b < 8) (kb : w.cell? ⟨g, b.toNat * 2 + 1, none⟩ = some (.bool xb)) (c0 : 0 ≤ ic) (c1 : ic < 8) (kc : w.cell? ⟨g, ic.toNat * 2 + 1, none⟩ = some (.bool xc)) (hcv : ∃ x y z, cv = .slice x y z) :
  Calls Try.prog 26 #[.agg #[.slice ra rl rc, cv], .agg #[.int .i64 29, .int .i64 a, .int .i64 b, .int .i64 ic, .int .i64 n], .slice (some ⟨g, 0, none⟩) 8 c] w fun e w' => e = .returned (.bool (xb || xc)) ∧ More w w' := by
 obtain ⟨cx, cy, cz, rfl⟩ := hcv
 have zg1 : g < w.heap.size + 1 := by omega
 cases xb <;> cases xc
 all_goals
  go_enter Try.func26, Try.ntmps26
  go_wp2
  go_ret
  exact ⟨rfl, ((More.refl _).alloc _ _).alloc _ _⟩

theorem secret_30 (ra : Option Addr) (rl rc : Nat) (cv : Value) (g c : Nat) (a b ic n : Int) (w : World) (zg : g < w.heap.size) (xb xc : Bool) (b0 : 0 ≤ b) (b1 : b < 8) (kb : w.cell? ⟨g, b.toNat * 2 + 1, none⟩ = some (.bool xb)) (c0 : 0 ≤ ic) (c1 : ic < 8) (kc : w.cell? ⟨g, ic.toNat * 2 + 1, none⟩ = some (.bool xc)) (hcv : ∃ x y z, cv = .slice x y z) :
  Calls Try.prog 26 #[.agg #[.slice ra rl rc, cv], .agg #[.int .i64 30, .int .i64 a, .int .i64 b, .int .i64 ic, .int .i64 n], .slice (some ⟨g, 0, none⟩) 8 c] w fun e w' => e = .returned (.bool (xb || xc)) ∧ More w w' := by
 obtain ⟨cx, cy, cz, rfl⟩ := hcv
 have zg1 : g < w.heap.size + 1 := by omega
 cases xb <;> cases xc
 all_goals
  go_enter Try.func26, Try.ntmps26
  go_wp2
  go_ret
  exact ⟨rfl, ((More.refl _).alloc _ _).alloc _ _⟩

theorem secret_9 (ra : Option Addr) (rl rc : Nat) (cv : Value) (g c : Nat) (a b ic n : Int) (w : World) (zg : g < w.heap.size) (xa : Bool) (a0 : 0 ≤ a) (a1 : a < 8) (ka : w.cell? ⟨g, a.toNat * 2 + 1, none⟩ = some (.bool xa)) (hcv : ∃ x y z, cv = .slice x y z) :
  Calls Try.prog 26 #[.agg #[.slice ra rl rc, cv], .agg #[.int .i64 9, .int .i64 a, .int .i64 b, .int .i64 ic, .int .i64 n], .slice (some ⟨g, 0, none⟩) 8 c] w fun e w' => e = .returned (.bool (xa)) ∧ More w w' := by
 obtain ⟨cx, cy, cz, rfl⟩ := hcv
 have zg1 : g < w.heap.size + 1 := by omega
 cases xa
 all_goals
  go_enter Try.func26, Try.ntmps26
  go_wp2
  go_ret
  exact ⟨rfl, ((More.refl _).alloc _ _).alloc _ _⟩

theorem secret_other (ra : Option Addr) (rl rc : Nat) (cv : Value) (g c : Nat) (op a b ic n : Int) (w : World) (zg : g < w.heap.size) (h3 : ¬ op = 3) (h4 : ¬ op = 4) (h6 : ¬ op = 6) (h8 : ¬ op = 8) (h29 : ¬ op = 29) (h30 : ¬ op = 30) (h9 : ¬ op = 9) (hcv : ∃ x y z, cv = .slice x y z) :
  Calls Try.prog 26 #[.agg #[.slice ra rl rc, cv], .agg #[.int .i64 op, .int .i64 a, .int .i64 b, .int .i64 ic, .int .i64 n], .slice (some ⟨g, 0, none⟩) 8 c] w fun e w' => e = .returned (.bool (false)) ∧ More w w' := by
 obtain ⟨cx, cy, cz, rfl⟩ := hcv
 have zg1 : g < w.heap.size + 1 := by omega
 have e3 : (op == 3) = false := by simp [h3]
 have e4 : (op == 4) = false := by simp [h4]
 have e6 : (op == 6) = false := by simp [h6]
 have e8 : (op == 8) = false := by simp [h8]
 have e29 : (op == 29) = false := by simp [h29]
 have e30 : (op == 30) = false := by simp [h30]
 have e9 : (op == 9) = false := by simp [h9]
 clear h3 h4 h6 h8 h29 h30 h9
 all_goals
  go_enter Try.func26, Try.ntmps26
  go_wp2
  go_ret
  exact ⟨rfl, ((More.refl _).alloc _ _).alloc _ _⟩

/-- evenkeelref6.secret. -/
theorem secret_calls (p : Prg) (lo : Loc) (at_ g c : Nat) (s : KS) (w : World) (hp : PIn w p lo) (hi : InsOk p.rl p.log p.cl 8 (p.ins at_)) (hk : KRow w g s) :
  Calls Try.prog 26 #[.agg #[.slice lo.ra p.rl lo.rc, .slice lo.ca p.cl lo.cc], .agg #[.int .i64 (p.ins at_).op, .int .i64 (p.ins at_).a, .int .i64 (p.ins at_).b, .int .i64 (p.ins at_).c, .int .i64 (p.ins at_).n], .slice (some ⟨g, 0, none⟩) 8 c] w
   fun e w' => e = .returned (.bool (secretK p (p.ins at_) s)) ∧ More w w' := by
 have zg := hk.lt
 have hI := hi
 unfold InsOk Reg Rgn at hI
 have reg : ∀ v : Int, 0 ≤ v → v < 8 → w.cell? ⟨g, v.toNat * 2 + 1, none⟩ = some (.bool (s v.toNat).s) := fun v h0 h1 => (hk v.toNat (by omega)).1.2
 have rgn : ∀ v : Int, 0 ≤ v → v < p.rl → lo.ra = some ⟨lo.rb, lo.ro, none⟩ ∧ lo.rb < w.heap.size ∧ w.cell? ⟨lo.rb, lo.ro + v.toNat * 2 + 1, none⟩ = some (.bool (p.sec v.toNat)) := fun v h0 h1 =>
  ⟨hp.hr (by omega), cell_block (hp.regs v.toNat (by omega)).1, (hp.regs v.toNat (by omega)).2⟩
 by_cases h3 : (p.ins at_).op = 3
 ·simp [h3] at hI
  have e0 : secretK p (p.ins at_) s = (s (p.ins at_).b.toNat).s := by unfold secretK; simp [h3]
  rw [e0, h3]
  exact secret_3 lo.ra p.rl lo.rc (.slice lo.ca p.cl lo.cc) g c (p.ins at_).a (p.ins at_).b (p.ins at_).c (p.ins at_).n w zg _ (by omega) (by omega) (reg (p.ins at_).b (by omega) (by omega)) ⟨_, _, _, rfl⟩
 by_cases h4 : (p.ins at_).op = 4
 ·simp [h4] at hI
  have e0 : secretK p (p.ins at_) s = ((s (p.ins at_).b.toNat).s || ((s (p.ins at_).a.toNat).s && !p.sec (p.ins at_).c.toNat)) := by unfold secretK; simp [h4]
  rw [e0, h4]
  exact secret_4 lo.ra p.rl lo.rc (.slice lo.ca p.cl lo.cc) g c (p.ins at_).a (p.ins at_).b (p.ins at_).c (p.ins at_).n w zg _ _ _ (by omega) (by omega) (reg (p.ins at_).a (by omega) (by omega)) (by omega) (by omega) (reg (p.ins at_).b (by omega) (by omega)) lo.rb lo.ro (rgn (p.ins at_).c (by omega) (by omega)).1 (rgn (p.ins at_).c (by omega) (by omega)).2.1 (by omega) (by omega) (rgn (p.ins at_).c (by omega) (by omega)).2.2 ⟨_, _, _, rfl⟩
 by_cases h6 : (p.ins at_).op = 6
 ·simp [h6] at hI
  have e0 : secretK p (p.ins at_) s = ((s (p.ins at_).a.toNat).s && !p.sec (p.ins at_).c.toNat) := by unfold secretK; simp [h6]
  rw [e0, h6]
  exact secret_6 lo.ra p.rl lo.rc (.slice lo.ca p.cl lo.cc) g c (p.ins at_).a (p.ins at_).b (p.ins at_).c (p.ins at_).n w zg _ _ (by omega) (by omega) (reg (p.ins at_).a (by omega) (by omega)) lo.rb lo.ro (rgn (p.ins at_).c (by omega) (by omega)).1 (rgn (p.ins at_).c (by omega) (by omega)).2.1 (by omega) (by omega) (rgn (p.ins at_).c (by omega) (by omega)).2.2 ⟨_, _, _, rfl⟩
 by_cases h8 : (p.ins at_).op = 8
 ·simp [h8] at hI
  have e0 : secretK p (p.ins at_) s = ((s (p.ins at_).a.toNat).s || (s (p.ins at_).b.toNat).s) := by unfold secretK; simp [h8]
  rw [e0, h8]
  exact secret_8 lo.ra p.rl lo.rc (.slice lo.ca p.cl lo.cc) g c (p.ins at_).a (p.ins at_).b (p.ins at_).c (p.ins at_).n w zg _ _ (by omega) (by omega) (reg (p.ins at_).a (by omega) (by omega)) (by omega) (by omega) (reg (p.ins at_).b (by omega) (by omega)) ⟨_, _, _, rfl⟩
 by_cases h29 : (p.ins at_).op = 29
 ·simp [h29] at hI
  have e0 : secretK p (p.ins at_) s = ((s (p.ins at_).b.toNat).s || (s (p.ins at_).c.toNat).s) := by unfold secretK; simp [h29]
  rw [e0, h29]
  exact secret_29 lo.ra p.rl lo.rc (.slice lo.ca p.cl lo.cc) g c (p.ins at_).a (p.ins at_).b (p.ins at_).c (p.ins at_).n w zg _ _ (by omega) (by omega) (reg (p.ins at_).b (by omega) (by omega)) (by omega) (by omega) (reg (p.ins at_).c (by omega) (by omega)) ⟨_, _, _, rfl⟩
 by_cases h30 : (p.ins at_).op = 30
 ·simp [h30] at hI
  have e0 : secretK p (p.ins at_) s = ((s (p.ins at_).b.toNat).s || (s (p.ins at_).c.toNat).s) := by unfold secretK; simp [h30]
  rw [e0, h30]
  exact secret_30 lo.ra p.rl lo.rc (.slice lo.ca p.cl lo.cc) g c (p.ins at_).a (p.ins at_).b (p.ins at_).c (p.ins at_).n w zg _ _ (by omega) (by omega) (reg (p.ins at_).b (by omega) (by omega)) (by omega) (by omega) (reg (p.ins at_).c (by omega) (by omega)) ⟨_, _, _, rfl⟩
 by_cases h9 : (p.ins at_).op = 9
 ·simp [h9] at hI
  have e0 : secretK p (p.ins at_) s = (s (p.ins at_).a.toNat).s := by unfold secretK; simp [h9]
  rw [e0, h9]
  exact secret_9 lo.ra p.rl lo.rc (.slice lo.ca p.cl lo.cc) g c (p.ins at_).a (p.ins at_).b (p.ins at_).c (p.ins at_).n w zg _ (by omega) (by omega) (reg (p.ins at_).a (by omega) (by omega)) ⟨_, _, _, rfl⟩
 ·have e0 : secretK p (p.ins at_) s = false := by unfold secretK; simp [h3, h4, h6, h8, h29, h30, h9]
  rw [e0]
  exact secret_other lo.ra p.rl lo.rc (.slice lo.ca p.cl lo.cc) g c (p.ins at_).op (p.ins at_).a (p.ins at_).b (p.ins at_).c (p.ins at_).n w zg h3 h4 h6 h8 h29 h30 h9 ⟨_, _, _, rfl⟩
end
end Go.Proofs.Ytmpafeoileonjaa
