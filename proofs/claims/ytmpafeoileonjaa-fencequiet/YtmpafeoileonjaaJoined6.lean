/-
  The texts CkLeadA, CkLeadB, CkLeadC, CkLeadD, CkLeads, CkSame, CkVec, one behind the other, with what is used of them.
-/
import Derived.Test.YtmpafeoileonjaaJoined5
import Derived.Test.YtmpafeoileonjaaJoined0
namespace Go.Proofs.Ytmpafeoileonjaa
section
open Go.RowKit
set_option linter.unusedSimpArgs false
set_option linter.unusedVariables false
set_option maxRecDepth 8000
set_option maxHeartbeats 2000000 in
theorem Jik (ra : Option Addr) (rb ro rl rc : Nat) (log : Nat → Int) (sec : Nat → Bool) (cb co cl cc at_ g c : Nat) (a b ic n : Int) (s : KS) (w : World) (hra : 0 < rl → ra = some ⟨rb, ro, none⟩) (hregs : RegsAt w rb ro rl log sec)
  (q0 : w.cell? ⟨cb, co + at_ * 5, none⟩ = some (.int .i64 1)) (q1 : w.cell? ⟨cb, co + at_ * 5 + 1, none⟩ = some (.int .i64 a)) (q2 : w.cell? ⟨cb, co + at_ * 5 + 2, none⟩ = some (.int .i64 b)) (q3 : w.cell? ⟨cb, co + at_ * 5 + 3, none⟩ = some (.int .i64 ic)) (q4 : w.cell? ⟨cb, co + at_ * 5 + 4, none⟩ = some (.int .i64 n))
  (hat : (at_ : Int) < cl) (hcl : (cl : Int) ≤ 200) (hk : KRow w g s) (ha0 : 0 ≤ a) (ha1 : a < 8) (n0 : -9223372036854775808 ≤ n) (n1 : n ≤ 9223372036854775807) :
  Calls Try.prog 24 #[.agg #[.slice ra rl rc, .slice (some ⟨cb, co, none⟩) cl cc], .int .i64 at_, st true g c] w fun e w' => ∃ v, e = .returned v ∧ LdAt w' w.heap.size v [(at_ + 1, setK s a (Kn.of n))] ∧ More w w' := by
 have Hk : Hid (KRow w g s) := hk
 have Hreg : Hid ((0 < rl → ra = some ⟨rb, ro, none⟩) ∧ RegsAt w rb ro rl log sec) := ⟨hra, hregs⟩
 have hat2 : (at_ : Int) + 1 ≤ 200 := by omega
 have hcb : cb < w.heap.size := J05 q0
 have hcb1 : cb < w.heap.size + 1 := by omega
 clear hk hra hregs
 suffices hP : ∀ P : Ending → World → Prop, (∀ v w', LdAt w' w.heap.size v [(at_ + 1, setK s a (Kn.of n))] → More w w' → P (.returned v) w') → Calls Try.prog 24 #[.agg #[.slice ra rl rc, .slice (some ⟨cb, co, none⟩) cl cc], .int .i64 at_, st true g c] w P from hP _ (fun v w' h1 h2 => ⟨v, rfl, h1, h2⟩)
 intro P hP0
 have hP : Hid (∀ v w', LdAt w' w.heap.size v [(at_ + 1, setK s a (Kn.of n))] → More w w' → P (.returned v) w') := hP0
 clear hP0
 unfold st
 go_enter Try.func24, Try.ntmps24
 go_wp2_with (fail)
 refine (J0o true g c s _ (Hk.out.more (((More.refl _).alloc _ _).alloc _ _ |>.alloc _ _))).mono ?_
 rintro e w1 ⟨g1, c1, rfl, hg1, hr1, m1⟩
 obtain ⟨W1, HW1⟩ : ∃ W1 : World, Hid (W1 = w1.alloc (.cells #[.bool true, .slice (some ⟨g1, 0, none⟩) 8 c1] 57)) := ⟨_, rfl⟩
 obtain ⟨HF, HK1, HM, HG, HA, HI⟩ := J1o (i := ⟨1, a, b, ic, n⟩) Hk.out Hreg.out.2 m1 hr1 hg1 HW1.out
 replace HF := J09 HF
 replace HK1 := J09 HK1
 replace HM := J09 HM
 replace HG := J09 HG
 replace HA := J09 HA
 replace HI := J09 HI
 clear m1 hr1 hg1 q0 q1 q2 q3 q4
 have i0 : w1.cell? ⟨w.heap.size + 1 + 1, 0, none⟩ = some (.int .i64 1) := HI.out.cell rfl
 have i1 : w1.cell? ⟨w.heap.size + 1 + 1, 1, none⟩ = some (.int .i64 a) := HI.out.cell rfl
 have i2 : w1.cell? ⟨w.heap.size + 1 + 1, 2, none⟩ = some (.int .i64 b) := HI.out.cell rfl
 have i3 : w1.cell? ⟨w.heap.size + 1 + 1, 3, none⟩ = some (.int .i64 ic) := HI.out.cell rfl
 have i4 : w1.cell? ⟨w.heap.size + 1 + 1, 4, none⟩ = some (.int .i64 n) := HI.out.cell rfl
 have zi : w.heap.size + 1 + 1 < w1.heap.size := HI.out.lt
 obtain ⟨S, HS⟩ : ∃ S : World → Prop, Hid (∀ w', S w' ↔ LFix w.heap.size g c g1 c1 w1.heap.size (.slice ra rl rc) (.slice (some ⟨cb, co, none⟩) cl cc) ⟨1, a, b, ic, n⟩ s rb ro rl log sec w') := ⟨_, fun _ => Iff.rfl⟩
 have HSm : Hid (∀ w', More W1 w' → S w') := fun w' m => (HS.out _).2 (HF.out.more m)
 have HS0 : S W1.drew := HSm.out _ (More.refl _).drew
 have hne : Nonempty { w' // S w' } := ⟨⟨_, HS0⟩⟩
 have k0 : ∀ i : { w' // S w' }, i.val.cell? ⟨w.heap.size + 1 + 1, 0, none⟩ = some (.int .i64 1) := fun i => ((HS.out _).1 i.property).fi.cell rfl
 have k1 : ∀ i : { w' // S w' }, i.val.cell? ⟨w.heap.size + 1 + 1, 1, none⟩ = some (.int .i64 a) := fun i => ((HS.out _).1 i.property).fi.cell rfl
 have k2 : ∀ i : { w' // S w' }, i.val.cell? ⟨w.heap.size + 1 + 1, 2, none⟩ = some (.int .i64 b) := fun i => ((HS.out _).1 i.property).fi.cell rfl
 have k3 : ∀ i : { w' // S w' }, i.val.cell? ⟨w.heap.size + 1 + 1, 3, none⟩ = some (.int .i64 ic) := fun i => ((HS.out _).1 i.property).fi.cell rfl
 have k4 : ∀ i : { w' // S w' }, i.val.cell? ⟨w.heap.size + 1 + 1, 4, none⟩ = some (.int .i64 n) := fun i => ((HS.out _).1 i.property).fi.cell rfl
 have k5 : ∀ i : { w' // S w' }, i.val.cell? ⟨w1.heap.size, 1, none⟩ = some (.slice (some ⟨g1, 0, none⟩) 8 c1) := fun i => ((HS.out _).1 i.property).ft.cell rfl
 have k6 : ∀ i : { w' // S w' }, i.val.cell? ⟨w.heap.size + 1, 1, none⟩ = some (.slice (some ⟨g, 0, none⟩) 8 c) := fun i => ((HS.out _).1 i.property).fs.cell rfl
 have k7 : ∀ i : { w' // S w' }, i.val.cell? ⟨w.heap.size, 0, none⟩ = some (.slice ra rl rc) := fun i => ((HS.out _).1 i.property).fp.cell rfl
 obtain ⟨v, hv⟩ : ∃ v, Kn.of n = v := ⟨_, rfl⟩
 have c2 : ∀ w : World, Calls Try.prog 50 #[.int .i64 n] w fun e w' => e = .returned (kn v.b v.s) ∧ More w w' := fun w => hv ▸ J6o n n0 n1 w
 have Hx : Hid ((⟨v.b, v.s⟩ : Kn) = Kn.of n) := hv.symm
 clear hv
 obtain ⟨vb, vs⟩ := v
 unfold kn at c2
 dsimp only at c2
 go_wp2_with (fail)
 rw [← HW1.out]
 clear i0 i1 i2 i3 i4 zi
 refine J01 (S := S) [(0, true), (1, true), (2, true), (3, true), (4, true), (5, true), (6, false), (7, true), (8, false)] (by kernel_rfl) (by kernel_rfl) (by kernel_rfl) HS0 ?_
 iterate 6 (refine J00 rfl (by kernel_rfl) (fun K hK => ?_); go_simp; refine hK _ _ ?_; clear hK K)
 refine J02 rfl (by kernel_rfl) (fun K hK => ?_); go_simp
 refine (c2 _).mono ?_
 rintro e w2 ⟨rfl, m2⟩
 have Hm2 : Hid (More W1 w2) := (More.refl _).drew.trans m2
 have HS2 : S w2 := HSm.out _ Hm2.out
 clear m2
 go_simp
 refine hK _ _ HS2 ?_; clear hK K
 (refine J00 rfl (by kernel_rfl) (fun K hK => ?_); go_simp; refine hK _ _ ?_; clear hK K)
 have Hrow : Hid (KRow w2 g1 s) := HK1.out.more Hm2.out
 have hr : a.toNat < 8 := by omega
 have q := Hrow.out a.toNat hr
 have q0 := q.1.1
 have q1 := q.1.2
 have q2 := q.2.1
 have q3 := q.2.2
 obtain ⟨w3, Hw3⟩ : ∃ w3, Hid (w3 = (w2.setCell ⟨g1, a.toNat * 2, none⟩ (.int .i64 vb)).setCell ⟨g1, a.toNat * 2 + 1, none⟩ (.bool vs)) := ⟨_, rfl⟩
 have Hrow3 : Hid (KRow w3 g1 (setK s a ⟨vb, vs⟩)) := Hw3.out ▸ Hrow.out.set a ⟨vb, vs⟩ hr
 have hg := HG.out
 have hA := HA.out
 have HF3 : Hid (LFix w.heap.size g c g1 c1 w1.heap.size (.slice ra rl rc) (.slice (some ⟨cb, co, none⟩) cl cc) ⟨1, a, b, ic, n⟩ s rb ro rl log sec w3) := Hw3.out ▸ ((HF.out.more Hm2.out).set (by omega) (by omega) (by omega) (fun h0 => by have := hA.2 h0; omega) _ _).set (by omega) (by omega) (by omega) (fun h0 => by have := hA.2 h0; omega) _ _
 have Hm3 : Hid (More w w3) := Hw3.out ▸ (((HM.out.trans Hm2.out).setCell (by dsimp only; omega) _).setCell (by dsimp only; omega) _)
 have HS3 : S w3 := (HS.out _).2 HF3.out
 clear hg hA
 refine J02 rfl (by kernel_rfl) (fun K hK => ?_); go_simp
 rw [← Hw3.out]
 refine hK _ _ HS3 ?_; clear hK K
 refine J04 ?_
 clear k0 k1 k2 k3 k4 k5 k6 k7 hne HS0 HS2 HS3 q q0 q1 q2 q3
 have t0 := HF3.out.ft.cell (j := 0) (v := .bool true) rfl
 have t1 := HF3.out.ft.cell (j := 1) (v := .slice (some ⟨g1, 0, none⟩) 8 c1) rfl
 go_wp2
 exact hP.out _ _ (LdAt.one rfl (Hx.out ▸ Hrow3.out) (by have := HG.out; omega)) (Hm3.out.alloc _ _)

set_option maxHeartbeats 2000000 in
theorem Jil (ra : Option Addr) (rb ro rl rc : Nat) (log : Nat → Int) (sec : Nat → Bool) (cb co cl cc at_ g c : Nat) (a b ic n : Int) (s : KS) (w : World) (hra : 0 < rl → ra = some ⟨rb, ro, none⟩) (hregs : RegsAt w rb ro rl log sec)
  (q0 : w.cell? ⟨cb, co + at_ * 5, none⟩ = some (.int .i64 2)) (q1 : w.cell? ⟨cb, co + at_ * 5 + 1, none⟩ = some (.int .i64 a)) (q2 : w.cell? ⟨cb, co + at_ * 5 + 2, none⟩ = some (.int .i64 b)) (q3 : w.cell? ⟨cb, co + at_ * 5 + 3, none⟩ = some (.int .i64 ic)) (q4 : w.cell? ⟨cb, co + at_ * 5 + 4, none⟩ = some (.int .i64 n))
  (hat : (at_ : Int) < cl) (hcl : (cl : Int) ≤ 200) (hk : KRow w g s) (ha0 : 0 ≤ a) (ha1 : a < 8) (hb0 : 0 ≤ b) (hb1 : b < 8) :
  Calls Try.prog 24 #[.agg #[.slice ra rl rc, .slice (some ⟨cb, co, none⟩) cl cc], .int .i64 at_, st true g c] w fun e w' => ∃ v, e = .returned v ∧ LdAt w' w.heap.size v [(at_ + 1, setK s a (s b.toNat))] ∧ More w w' := by
 have Hk : Hid (KRow w g s) := hk
 have Hreg : Hid ((0 < rl → ra = some ⟨rb, ro, none⟩) ∧ RegsAt w rb ro rl log sec) := ⟨hra, hregs⟩
 have hat2 : (at_ : Int) + 1 ≤ 200 := by omega
 have hcb : cb < w.heap.size := J05 q0
 have hcb1 : cb < w.heap.size + 1 := by omega
 clear hk hra hregs
 suffices hP : ∀ P : Ending → World → Prop, (∀ v w', LdAt w' w.heap.size v [(at_ + 1, setK s a (s b.toNat))] → More w w' → P (.returned v) w') → Calls Try.prog 24 #[.agg #[.slice ra rl rc, .slice (some ⟨cb, co, none⟩) cl cc], .int .i64 at_, st true g c] w P from hP _ (fun v w' h1 h2 => ⟨v, rfl, h1, h2⟩)
 intro P hP0
 have hP : Hid (∀ v w', LdAt w' w.heap.size v [(at_ + 1, setK s a (s b.toNat))] → More w w' → P (.returned v) w') := hP0
 clear hP0
 unfold st
 go_enter Try.func24, Try.ntmps24
 go_wp2_with (fail)
 refine (J0o true g c s _ (Hk.out.more (((More.refl _).alloc _ _).alloc _ _ |>.alloc _ _))).mono ?_
 rintro e w1 ⟨g1, c1, rfl, hg1, hr1, m1⟩
 obtain ⟨W1, HW1⟩ : ∃ W1 : World, Hid (W1 = w1.alloc (.cells #[.bool true, .slice (some ⟨g1, 0, none⟩) 8 c1] 57)) := ⟨_, rfl⟩
 obtain ⟨HF, HK1, HM, HG, HA, HI⟩ := J1o (i := ⟨2, a, b, ic, n⟩) Hk.out Hreg.out.2 m1 hr1 hg1 HW1.out
 replace HF := J09 HF
 replace HK1 := J09 HK1
 replace HM := J09 HM
 replace HG := J09 HG
 replace HA := J09 HA
 replace HI := J09 HI
 clear m1 hr1 hg1 q0 q1 q2 q3 q4
 have i0 : w1.cell? ⟨w.heap.size + 1 + 1, 0, none⟩ = some (.int .i64 2) := HI.out.cell rfl
 have i1 : w1.cell? ⟨w.heap.size + 1 + 1, 1, none⟩ = some (.int .i64 a) := HI.out.cell rfl
 have i2 : w1.cell? ⟨w.heap.size + 1 + 1, 2, none⟩ = some (.int .i64 b) := HI.out.cell rfl
 have i3 : w1.cell? ⟨w.heap.size + 1 + 1, 3, none⟩ = some (.int .i64 ic) := HI.out.cell rfl
 have i4 : w1.cell? ⟨w.heap.size + 1 + 1, 4, none⟩ = some (.int .i64 n) := HI.out.cell rfl
 have zi : w.heap.size + 1 + 1 < w1.heap.size := HI.out.lt
 obtain ⟨S, HS⟩ : ∃ S : World → Prop, Hid (∀ w', S w' ↔ LFix w.heap.size g c g1 c1 w1.heap.size (.slice ra rl rc) (.slice (some ⟨cb, co, none⟩) cl cc) ⟨2, a, b, ic, n⟩ s rb ro rl log sec w') := ⟨_, fun _ => Iff.rfl⟩
 have HSm : Hid (∀ w', More W1 w' → S w') := fun w' m => (HS.out _).2 (HF.out.more m)
 have HS0 : S W1.drew := HSm.out _ (More.refl _).drew
 have hne : Nonempty { w' // S w' } := ⟨⟨_, HS0⟩⟩
 have k0 : ∀ i : { w' // S w' }, i.val.cell? ⟨w.heap.size + 1 + 1, 0, none⟩ = some (.int .i64 2) := fun i => ((HS.out _).1 i.property).fi.cell rfl
 have k1 : ∀ i : { w' // S w' }, i.val.cell? ⟨w.heap.size + 1 + 1, 1, none⟩ = some (.int .i64 a) := fun i => ((HS.out _).1 i.property).fi.cell rfl
 have k2 : ∀ i : { w' // S w' }, i.val.cell? ⟨w.heap.size + 1 + 1, 2, none⟩ = some (.int .i64 b) := fun i => ((HS.out _).1 i.property).fi.cell rfl
 have k3 : ∀ i : { w' // S w' }, i.val.cell? ⟨w.heap.size + 1 + 1, 3, none⟩ = some (.int .i64 ic) := fun i => ((HS.out _).1 i.property).fi.cell rfl
 have k4 : ∀ i : { w' // S w' }, i.val.cell? ⟨w.heap.size + 1 + 1, 4, none⟩ = some (.int .i64 n) := fun i => ((HS.out _).1 i.property).fi.cell rfl
 have k5 : ∀ i : { w' // S w' }, i.val.cell? ⟨w1.heap.size, 1, none⟩ = some (.slice (some ⟨g1, 0, none⟩) 8 c1) := fun i => ((HS.out _).1 i.property).ft.cell rfl
 have k6 : ∀ i : { w' // S w' }, i.val.cell? ⟨w.heap.size + 1, 1, none⟩ = some (.slice (some ⟨g, 0, none⟩) 8 c) := fun i => ((HS.out _).1 i.property).fs.cell rfl
 have k7 : ∀ i : { w' // S w' }, i.val.cell? ⟨w.heap.size, 0, none⟩ = some (.slice ra rl rc) := fun i => ((HS.out _).1 i.property).fp.cell rfl
 obtain ⟨xb, hxb⟩ : ∃ x, s b.toNat = x := ⟨_, rfl⟩
 have kb0 : ∀ i : { w' // S w' }, i.val.cell? ⟨g, b.toNat * 2, none⟩ = some (.int .i64 xb.b) := fun i => hxb ▸ (((HS.out _).1 i.property).ks b.toNat (by omega)).1.1
 have kb1 : ∀ i : { w' // S w' }, i.val.cell? ⟨g, b.toNat * 2 + 1, none⟩ = some (.bool xb.s) := fun i => hxb ▸ (((HS.out _).1 i.property).ks b.toNat (by omega)).1.2
 have Hx : Hid ((⟨xb.b, xb.s⟩ : Kn) = s b.toNat) := hxb.symm
 clear hxb
 obtain ⟨vb, vs⟩ := xb
 dsimp only at kb0 kb1
 go_wp2_with (fail)
 rw [← HW1.out]
 clear i0 i1 i2 i3 i4 zi
 refine J01 (S := S) [(0, true), (1, true), (2, true), (3, true), (4, true), (5, true), (6, true), (7, true), (8, true), (9, true), (10, true), (11, false)] (by kernel_rfl) (by kernel_rfl) (by kernel_rfl) HS0 ?_
 iterate 11 (refine J00 rfl (by kernel_rfl) (fun K hK => ?_); go_simp; refine hK _ _ ?_; clear hK K)
 have Hm2 : Hid (More W1 W1.drew) := (More.refl _).drew
 have HS2 : S W1.drew := HS0
 have Hrow : Hid (KRow W1 g1 s) := HK1.out
 have hr : a.toNat < 8 := by omega
 have q := Hrow.out a.toNat hr
 have q0 := q.1.1
 have q1 := q.1.2
 have q2 := q.2.1
 have q3 := q.2.2
 obtain ⟨w3, Hw3⟩ : ∃ w3, Hid (w3 = ((W1.setCell ⟨g1, a.toNat * 2, none⟩ (.int .i64 vb)).setCell ⟨g1, a.toNat * 2 + 1, none⟩ (.bool vs)).drew) := ⟨_, rfl⟩
 have Hrow3 : Hid (KRow w3 g1 (setK s a ⟨vb, vs⟩)) := Hw3.out ▸ (Hrow.out.set a ⟨vb, vs⟩ hr).more (More.refl _).drew
 have hg := HG.out
 have hA := HA.out
 have HF3 : Hid (LFix w.heap.size g c g1 c1 w1.heap.size (.slice ra rl rc) (.slice (some ⟨cb, co, none⟩) cl cc) ⟨2, a, b, ic, n⟩ s rb ro rl log sec w3) := Hw3.out ▸ LFix.more (More.refl _).drew ((HF.out.set (by omega) (by omega) (by omega) (fun h0 => by have := hA.2 h0; omega) _ _).set (by omega) (by omega) (by omega) (fun h0 => by have := hA.2 h0; omega) _ _)
 have Hm3 : Hid (More w w3) := Hw3.out ▸ ((HM.out.setCell (by dsimp only; omega) _).setCell (by dsimp only; omega) _).drew
 have HS3 : S w3 := (HS.out _).2 HF3.out
 clear hg hA
 refine J02 rfl (by kernel_rfl) (fun K hK => ?_); go_simp
 rw [← Hw3.out]
 refine hK _ _ HS3 ?_; clear hK K
 refine J04 ?_
 clear k0 k1 k2 k3 k4 k5 k6 k7 kb0 kb1 hne HS0 HS2 HS3 q q0 q1 q2 q3
 have t0 := HF3.out.ft.cell (j := 0) (v := .bool true) rfl
 have t1 := HF3.out.ft.cell (j := 1) (v := .slice (some ⟨g1, 0, none⟩) 8 c1) rfl
 go_wp2
 exact hP.out _ _ (LdAt.one rfl (Hx.out ▸ Hrow3.out) (by have := HG.out; omega)) (Hm3.out.alloc _ _)

set_option maxHeartbeats 2000000 in
theorem Jg0 (ra : Option Addr) (rb ro rl rc : Nat) (log : Nat → Int) (sec : Nat → Bool) (cb co cl cc at_ g c : Nat) (a b ic n : Int) (s : KS) (w : World) (hra : 0 < rl → ra = some ⟨rb, ro, none⟩) (hregs : RegsAt w rb ro rl log sec)
  (q0 : w.cell? ⟨cb, co + at_ * 5, none⟩ = some (.int .i64 10)) (q1 : w.cell? ⟨cb, co + at_ * 5 + 1, none⟩ = some (.int .i64 a)) (q2 : w.cell? ⟨cb, co + at_ * 5 + 2, none⟩ = some (.int .i64 b)) (q3 : w.cell? ⟨cb, co + at_ * 5 + 3, none⟩ = some (.int .i64 ic)) (q4 : w.cell? ⟨cb, co + at_ * 5 + 4, none⟩ = some (.int .i64 n))
  (hat : (at_ : Int) < cl) (hcl : (cl : Int) ≤ 200) (hk : KRow w g s) (ha0 : 0 ≤ a) (ha1 : a < 8) (hb0 : 0 ≤ b) (hb1 : b < 8) (n0 : -9223372036854775808 ≤ n) (n1 : n ≤ 9223372036854775807) :
  Calls Try.prog 24 #[.agg #[.slice ra rl rc, .slice (some ⟨cb, co, none⟩) cl cc], .int .i64 at_, st true g c] w fun e w' => ∃ v, e = .returned v ∧ LdAt w' w.heap.size v [(at_ + 1, setK s a (Kn.index (s b.toNat) n))] ∧ More w w' := by
 have Hk : Hid (KRow w g s) := hk
 have Hreg : Hid ((0 < rl → ra = some ⟨rb, ro, none⟩) ∧ RegsAt w rb ro rl log sec) := ⟨hra, hregs⟩
 have hat2 : (at_ : Int) + 1 ≤ 200 := by omega
 have hcb : cb < w.heap.size := J05 q0
 have hcb1 : cb < w.heap.size + 1 := by omega
 clear hk hra hregs
 suffices hP : ∀ P : Ending → World → Prop, (∀ v w', LdAt w' w.heap.size v [(at_ + 1, setK s a (Kn.index (s b.toNat) n))] → More w w' → P (.returned v) w') → Calls Try.prog 24 #[.agg #[.slice ra rl rc, .slice (some ⟨cb, co, none⟩) cl cc], .int .i64 at_, st true g c] w P from hP _ (fun v w' h1 h2 => ⟨v, rfl, h1, h2⟩)
 intro P hP0
 have hP : Hid (∀ v w', LdAt w' w.heap.size v [(at_ + 1, setK s a (Kn.index (s b.toNat) n))] → More w w' → P (.returned v) w') := hP0
 clear hP0
 unfold st
 go_enter Try.func24, Try.ntmps24
 go_wp2_with (fail)
 refine (J0o true g c s _ (Hk.out.more (((More.refl _).alloc _ _).alloc _ _ |>.alloc _ _))).mono ?_
 rintro e w1 ⟨g1, c1, rfl, hg1, hr1, m1⟩
 obtain ⟨W1, HW1⟩ : ∃ W1 : World, Hid (W1 = w1.alloc (.cells #[.bool true, .slice (some ⟨g1, 0, none⟩) 8 c1] 57)) := ⟨_, rfl⟩
 obtain ⟨HF, HK1, HM, HG, HA, HI⟩ := J1o (i := ⟨10, a, b, ic, n⟩) Hk.out Hreg.out.2 m1 hr1 hg1 HW1.out
 replace HF := J09 HF
 replace HK1 := J09 HK1
 replace HM := J09 HM
 replace HG := J09 HG
 replace HA := J09 HA
 replace HI := J09 HI
 clear m1 hr1 hg1 q0 q1 q2 q3 q4
 have i0 : w1.cell? ⟨w.heap.size + 1 + 1, 0, none⟩ = some (.int .i64 10) := HI.out.cell rfl
 have i1 : w1.cell? ⟨w.heap.size + 1 + 1, 1, none⟩ = some (.int .i64 a) := HI.out.cell rfl
 have i2 : w1.cell? ⟨w.heap.size + 1 + 1, 2, none⟩ = some (.int .i64 b) := HI.out.cell rfl
 have i3 : w1.cell? ⟨w.heap.size + 1 + 1, 3, none⟩ = some (.int .i64 ic) := HI.out.cell rfl
 have i4 : w1.cell? ⟨w.heap.size + 1 + 1, 4, none⟩ = some (.int .i64 n) := HI.out.cell rfl
 have zi : w.heap.size + 1 + 1 < w1.heap.size := HI.out.lt
 obtain ⟨S, HS⟩ : ∃ S : World → Prop, Hid (∀ w', S w' ↔ LFix w.heap.size g c g1 c1 w1.heap.size (.slice ra rl rc) (.slice (some ⟨cb, co, none⟩) cl cc) ⟨10, a, b, ic, n⟩ s rb ro rl log sec w') := ⟨_, fun _ => Iff.rfl⟩
 have HSm : Hid (∀ w', More W1 w' → S w') := fun w' m => (HS.out _).2 (HF.out.more m)
 have HS0 : S W1.drew := HSm.out _ (More.refl _).drew
 have hne : Nonempty { w' // S w' } := ⟨⟨_, HS0⟩⟩
 have k0 : ∀ i : { w' // S w' }, i.val.cell? ⟨w.heap.size + 1 + 1, 0, none⟩ = some (.int .i64 10) := fun i => ((HS.out _).1 i.property).fi.cell rfl
 have k1 : ∀ i : { w' // S w' }, i.val.cell? ⟨w.heap.size + 1 + 1, 1, none⟩ = some (.int .i64 a) := fun i => ((HS.out _).1 i.property).fi.cell rfl
 have k2 : ∀ i : { w' // S w' }, i.val.cell? ⟨w.heap.size + 1 + 1, 2, none⟩ = some (.int .i64 b) := fun i => ((HS.out _).1 i.property).fi.cell rfl
 have k3 : ∀ i : { w' // S w' }, i.val.cell? ⟨w.heap.size + 1 + 1, 3, none⟩ = some (.int .i64 ic) := fun i => ((HS.out _).1 i.property).fi.cell rfl
 have k4 : ∀ i : { w' // S w' }, i.val.cell? ⟨w.heap.size + 1 + 1, 4, none⟩ = some (.int .i64 n) := fun i => ((HS.out _).1 i.property).fi.cell rfl
 have k5 : ∀ i : { w' // S w' }, i.val.cell? ⟨w1.heap.size, 1, none⟩ = some (.slice (some ⟨g1, 0, none⟩) 8 c1) := fun i => ((HS.out _).1 i.property).ft.cell rfl
 have k6 : ∀ i : { w' // S w' }, i.val.cell? ⟨w.heap.size + 1, 1, none⟩ = some (.slice (some ⟨g, 0, none⟩) 8 c) := fun i => ((HS.out _).1 i.property).fs.cell rfl
 have k7 : ∀ i : { w' // S w' }, i.val.cell? ⟨w.heap.size, 0, none⟩ = some (.slice ra rl rc) := fun i => ((HS.out _).1 i.property).fp.cell rfl
 obtain ⟨xb, hxb⟩ : ∃ x, s b.toNat = x := ⟨_, rfl⟩
 have kb0 : ∀ i : { w' // S w' }, i.val.cell? ⟨g, b.toNat * 2, none⟩ = some (.int .i64 xb.b) := fun i => hxb ▸ (((HS.out _).1 i.property).ks b.toNat (by omega)).1.1
 have kb1 : ∀ i : { w' // S w' }, i.val.cell? ⟨g, b.toNat * 2 + 1, none⟩ = some (.bool xb.s) := fun i => hxb ▸ (((HS.out _).1 i.property).ks b.toNat (by omega)).1.2
 obtain ⟨v, hv⟩ : ∃ v, Kn.index xb n = v := ⟨_, rfl⟩
 have c2 : ∀ w : World, Calls Try.prog 25 #[kn xb.b xb.s, .int .i64 n] w fun e w' => e = .returned (kn v.b v.s) ∧ More w w' := fun w => hv ▸ J65 xb n n0 n1 w
 have Hx : Hid ((⟨v.b, v.s⟩ : Kn) = Kn.index (s b.toNat) n) := by rw [hxb]; exact hv.symm
 clear hv hxb
 obtain ⟨vb, vs⟩ := v
 obtain ⟨xbb, xbs⟩ := xb
 unfold kn at c2
 dsimp only at c2 kb0 kb1
 go_wp2_with (fail)
 rw [← HW1.out]
 clear i0 i1 i2 i3 i4 zi
 refine J01 (S := S) [(0, true), (1, true), (2, true), (3, true), (4, true), (5, true), (6, true), (7, true), (8, true), (9, true), (10, true), (11, true), (12, false), (13, true), (14, false)] (by kernel_rfl) (by kernel_rfl) (by kernel_rfl) HS0 ?_
 iterate 12 (refine J00 rfl (by kernel_rfl) (fun K hK => ?_); go_simp; refine hK _ _ ?_; clear hK K)
 refine J02 rfl (by kernel_rfl) (fun K hK => ?_); go_simp
 refine (c2 _).mono ?_
 rintro e w2 ⟨rfl, m2⟩
 have Hm2 : Hid (More W1 w2) := (More.refl _).drew.trans m2
 have HS2 : S w2 := HSm.out _ Hm2.out
 clear m2
 go_simp
 refine hK _ _ HS2 ?_; clear hK K
 (refine J00 rfl (by kernel_rfl) (fun K hK => ?_); go_simp; refine hK _ _ ?_; clear hK K)
 have Hrow : Hid (KRow w2 g1 s) := HK1.out.more Hm2.out
 have hr : a.toNat < 8 := by omega
 have q := Hrow.out a.toNat hr
 have q0 := q.1.1
 have q1 := q.1.2
 have q2 := q.2.1
 have q3 := q.2.2
 obtain ⟨w3, Hw3⟩ : ∃ w3, Hid (w3 = (w2.setCell ⟨g1, a.toNat * 2, none⟩ (.int .i64 vb)).setCell ⟨g1, a.toNat * 2 + 1, none⟩ (.bool vs)) := ⟨_, rfl⟩
 have Hrow3 : Hid (KRow w3 g1 (setK s a ⟨vb, vs⟩)) := Hw3.out ▸ Hrow.out.set a ⟨vb, vs⟩ hr
 have hg := HG.out
 have hA := HA.out
 have HF3 : Hid (LFix w.heap.size g c g1 c1 w1.heap.size (.slice ra rl rc) (.slice (some ⟨cb, co, none⟩) cl cc) ⟨10, a, b, ic, n⟩ s rb ro rl log sec w3) := Hw3.out ▸ ((HF.out.more Hm2.out).set (by omega) (by omega) (by omega) (fun h0 => by have := hA.2 h0; omega) _ _).set (by omega) (by omega) (by omega) (fun h0 => by have := hA.2 h0; omega) _ _
 have Hm3 : Hid (More w w3) := Hw3.out ▸ (((HM.out.trans Hm2.out).setCell (by dsimp only; omega) _).setCell (by dsimp only; omega) _)
 have HS3 : S w3 := (HS.out _).2 HF3.out
 clear hg hA
 refine J02 rfl (by kernel_rfl) (fun K hK => ?_); go_simp
 rw [← Hw3.out]
 refine hK _ _ HS3 ?_; clear hK K
 refine J04 ?_
 clear k0 k1 k2 k3 k4 k5 k6 k7 kb0 kb1 hne HS0 HS2 HS3 q q0 q1 q2 q3
 have t0 := HF3.out.ft.cell (j := 0) (v := .bool true) rfl
 have t1 := HF3.out.ft.cell (j := 1) (v := .slice (some ⟨g1, 0, none⟩) 8 c1) rfl
 go_wp2
 exact hP.out _ _ (LdAt.one rfl (Hx.out ▸ Hrow3.out) (by have := HG.out; omega)) (Hm3.out.alloc _ _)
set_option maxHeartbeats 2000000 in
theorem Jim (ra : Option Addr) (rb ro rl rc : Nat) (log : Nat → Int) (sec : Nat → Bool) (cb co cl cc at_ g c : Nat) (a b ic n : Int) (s : KS) (w : World) (hra : 0 < rl → ra = some ⟨rb, ro, none⟩) (hregs : RegsAt w rb ro rl log sec)
  (q0 : w.cell? ⟨cb, co + at_ * 5, none⟩ = some (.int .i64 3)) (q1 : w.cell? ⟨cb, co + at_ * 5 + 1, none⟩ = some (.int .i64 a)) (q2 : w.cell? ⟨cb, co + at_ * 5 + 2, none⟩ = some (.int .i64 b)) (q3 : w.cell? ⟨cb, co + at_ * 5 + 3, none⟩ = some (.int .i64 ic)) (q4 : w.cell? ⟨cb, co + at_ * 5 + 4, none⟩ = some (.int .i64 n))
  (hat : (at_ : Int) < cl) (hcl : (cl : Int) ≤ 200) (hk : KRow w g s) (ha0 : 0 ≤ a) (ha1 : a < 8) (hc0 : 0 ≤ ic) (hc1 : ic < rl) :
  Calls Try.prog 24 #[.agg #[.slice ra rl rc, .slice (some ⟨cb, co, none⟩) cl cc], .int .i64 at_, st true g c] w fun e w' => ∃ v, e = .returned v ∧ LdAt w' w.heap.size v [(at_ + 1, setK s a ⟨17, sec ic.toNat⟩)] ∧ More w w' := by
 obtain rfl : ra = some ⟨rb, ro, none⟩ := hra (by omega)
 have Hk : Hid (KRow w g s) := hk
 have Hreg : Hid ((0 < rl → (some ⟨rb, ro, none⟩ : Option Addr) = some ⟨rb, ro, none⟩) ∧ RegsAt w rb ro rl log sec) := ⟨hra, hregs⟩
 have hat2 : (at_ : Int) + 1 ≤ 200 := by omega
 have hcb : cb < w.heap.size := J05 q0
 have hcb1 : cb < w.heap.size + 1 := by omega
 clear hk hra hregs
 suffices hP : ∀ P : Ending → World → Prop, (∀ v w', LdAt w' w.heap.size v [(at_ + 1, setK s a ⟨17, sec ic.toNat⟩)] → More w w' → P (.returned v) w') → Calls Try.prog 24 #[.agg #[.slice (some ⟨rb, ro, none⟩) rl rc, .slice (some ⟨cb, co, none⟩) cl cc], .int .i64 at_, st true g c] w P from hP _ (fun v w' h1 h2 => ⟨v, rfl, h1, h2⟩)
 intro P hP0
 have hP : Hid (∀ v w', LdAt w' w.heap.size v [(at_ + 1, setK s a ⟨17, sec ic.toNat⟩)] → More w w' → P (.returned v) w') := hP0
 clear hP0
 unfold st
 go_enter Try.func24, Try.ntmps24
 go_wp2_with (fail)
 refine (J0o true g c s _ (Hk.out.more (((More.refl _).alloc _ _).alloc _ _ |>.alloc _ _))).mono ?_
 rintro e w1 ⟨g1, c1, rfl, hg1, hr1, m1⟩
 obtain ⟨W1, HW1⟩ : ∃ W1 : World, Hid (W1 = w1.alloc (.cells #[.bool true, .slice (some ⟨g1, 0, none⟩) 8 c1] 57)) := ⟨_, rfl⟩
 obtain ⟨HF, HK1, HM, HG, HA, HI⟩ := J1o (i := ⟨3, a, b, ic, n⟩) Hk.out Hreg.out.2 m1 hr1 hg1 HW1.out
 replace HF := J09 HF
 replace HK1 := J09 HK1
 replace HM := J09 HM
 replace HG := J09 HG
 replace HA := J09 HA
 replace HI := J09 HI
 clear m1 hr1 hg1 q0 q1 q2 q3 q4
 have i0 : w1.cell? ⟨w.heap.size + 1 + 1, 0, none⟩ = some (.int .i64 3) := HI.out.cell rfl
 have i1 : w1.cell? ⟨w.heap.size + 1 + 1, 1, none⟩ = some (.int .i64 a) := HI.out.cell rfl
 have i2 : w1.cell? ⟨w.heap.size + 1 + 1, 2, none⟩ = some (.int .i64 b) := HI.out.cell rfl
 have i3 : w1.cell? ⟨w.heap.size + 1 + 1, 3, none⟩ = some (.int .i64 ic) := HI.out.cell rfl
 have i4 : w1.cell? ⟨w.heap.size + 1 + 1, 4, none⟩ = some (.int .i64 n) := HI.out.cell rfl
 have zi : w.heap.size + 1 + 1 < w1.heap.size := HI.out.lt
 obtain ⟨S, HS⟩ : ∃ S : World → Prop, Hid (∀ w', S w' ↔ LFix w.heap.size g c g1 c1 w1.heap.size (.slice (some ⟨rb, ro, none⟩) rl rc) (.slice (some ⟨cb, co, none⟩) cl cc) ⟨3, a, b, ic, n⟩ s rb ro rl log sec w') := ⟨_, fun _ => Iff.rfl⟩
 have HSm : Hid (∀ w', More W1 w' → S w') := fun w' m => (HS.out _).2 (HF.out.more m)
 have HS0 : S W1.drew := HSm.out _ (More.refl _).drew
 have hne : Nonempty { w' // S w' } := ⟨⟨_, HS0⟩⟩
 have k0 : ∀ i : { w' // S w' }, i.val.cell? ⟨w.heap.size + 1 + 1, 0, none⟩ = some (.int .i64 3) := fun i => ((HS.out _).1 i.property).fi.cell rfl
 have k1 : ∀ i : { w' // S w' }, i.val.cell? ⟨w.heap.size + 1 + 1, 1, none⟩ = some (.int .i64 a) := fun i => ((HS.out _).1 i.property).fi.cell rfl
 have k2 : ∀ i : { w' // S w' }, i.val.cell? ⟨w.heap.size + 1 + 1, 2, none⟩ = some (.int .i64 b) := fun i => ((HS.out _).1 i.property).fi.cell rfl
 have k3 : ∀ i : { w' // S w' }, i.val.cell? ⟨w.heap.size + 1 + 1, 3, none⟩ = some (.int .i64 ic) := fun i => ((HS.out _).1 i.property).fi.cell rfl
 have k4 : ∀ i : { w' // S w' }, i.val.cell? ⟨w.heap.size + 1 + 1, 4, none⟩ = some (.int .i64 n) := fun i => ((HS.out _).1 i.property).fi.cell rfl
 have k5 : ∀ i : { w' // S w' }, i.val.cell? ⟨w1.heap.size, 1, none⟩ = some (.slice (some ⟨g1, 0, none⟩) 8 c1) := fun i => ((HS.out _).1 i.property).ft.cell rfl
 have k6 : ∀ i : { w' // S w' }, i.val.cell? ⟨w.heap.size + 1, 1, none⟩ = some (.slice (some ⟨g, 0, none⟩) 8 c) := fun i => ((HS.out _).1 i.property).fs.cell rfl
 have k7 : ∀ i : { w' // S w' }, i.val.cell? ⟨w.heap.size, 0, none⟩ = some (.slice (some ⟨rb, ro, none⟩) rl rc) := fun i => ((HS.out _).1 i.property).fp.cell rfl
 obtain ⟨vs, hvs⟩ : ∃ v, sec ic.toNat = v := ⟨_, rfl⟩
 have kr : ∀ i : { w' // S w' }, i.val.cell? ⟨rb, ro + ic.toNat * 2 + 1, none⟩ = some (.bool vs) := fun i => hvs ▸ (((HS.out _).1 i.property).regs ic.toNat (by omega)).2
 have Hx : Hid ((⟨17, vs⟩ : Kn) = ⟨17, sec ic.toNat⟩) := by show _ = _; rw [hvs]
 clear hvs
 go_wp2_with (fail)
 rw [← HW1.out]
 clear i0 i1 i2 i3 i4 zi
 refine J01 (S := S) [(0, true), (1, true), (2, true), (3, true), (4, true), (5, true), (6, true), (7, true), (8, true), (9, true), (10, true), (11, true), (12, true), (13, false)] (by kernel_rfl) (by kernel_rfl) (by kernel_rfl) HS0 ?_
 iterate 13 (refine J00 rfl (by kernel_rfl) (fun K hK => ?_); go_simp; refine hK _ _ ?_; clear hK K)
 have Hm2 : Hid (More W1 W1.drew) := (More.refl _).drew
 have HS2 : S W1.drew := HS0
 have Hrow : Hid (KRow W1 g1 s) := HK1.out
 have hr : a.toNat < 8 := by omega
 have q := Hrow.out a.toNat hr
 have q0 := q.1.1
 have q1 := q.1.2
 have q2 := q.2.1
 have q3 := q.2.2
 obtain ⟨w3, Hw3⟩ : ∃ w3, Hid (w3 = ((W1.setCell ⟨g1, a.toNat * 2, none⟩ (.int .i64 17)).setCell ⟨g1, a.toNat * 2 + 1, none⟩ (.bool vs)).drew) := ⟨_, rfl⟩
 have Hrow3 : Hid (KRow w3 g1 (setK s a ⟨17, vs⟩)) := Hw3.out ▸ (Hrow.out.set a ⟨17, vs⟩ hr).more (More.refl _).drew
 have hg := HG.out
 have hA := HA.out
 have HF3 : Hid (LFix w.heap.size g c g1 c1 w1.heap.size (.slice (some ⟨rb, ro, none⟩) rl rc) (.slice (some ⟨cb, co, none⟩) cl cc) ⟨3, a, b, ic, n⟩ s rb ro rl log sec w3) := Hw3.out ▸ LFix.more (More.refl _).drew ((HF.out.set (by omega) (by omega) (by omega) (fun h0 => by have := hA.2 h0; omega) _ _).set (by omega) (by omega) (by omega) (fun h0 => by have := hA.2 h0; omega) _ _)
 have Hm3 : Hid (More w w3) := Hw3.out ▸ ((HM.out.setCell (by dsimp only; omega) _).setCell (by dsimp only; omega) _).drew
 have HS3 : S w3 := (HS.out _).2 HF3.out
 clear hg hA
 refine J02 rfl (by kernel_rfl) (fun K hK => ?_); go_simp
 rw [← Hw3.out]
 refine hK _ _ HS3 ?_; clear hK K
 refine J04 ?_
 clear k0 k1 k2 k3 k4 k5 k6 k7 kr hne HS0 HS2 HS3 q q0 q1 q2 q3
 have t0 := HF3.out.ft.cell (j := 0) (v := .bool true) rfl
 have t1 := HF3.out.ft.cell (j := 1) (v := .slice (some ⟨g1, 0, none⟩) 8 c1) rfl
 go_wp2
 exact hP.out _ _ (LdAt.one rfl (Hx.out ▸ Hrow3.out) (by have := HG.out; omega)) (Hm3.out.alloc _ _)

set_option maxHeartbeats 2000000 in
theorem Jio (ra : Option Addr) (rb ro rl rc : Nat) (log : Nat → Int) (sec : Nat → Bool) (cb co cl cc at_ g c : Nat) (a b ic n : Int) (s : KS) (w : World) (hra : 0 < rl → ra = some ⟨rb, ro, none⟩) (hregs : RegsAt w rb ro rl log sec)
  (q0 : w.cell? ⟨cb, co + at_ * 5, none⟩ = some (.int .i64 5)) (q1 : w.cell? ⟨cb, co + at_ * 5 + 1, none⟩ = some (.int .i64 a)) (q2 : w.cell? ⟨cb, co + at_ * 5 + 2, none⟩ = some (.int .i64 b)) (q3 : w.cell? ⟨cb, co + at_ * 5 + 3, none⟩ = some (.int .i64 ic)) (q4 : w.cell? ⟨cb, co + at_ * 5 + 4, none⟩ = some (.int .i64 n))
  (hat : (at_ : Int) < cl) (hcl : (cl : Int) ≤ 200) (hk : KRow w g s) (ha0 : 0 ≤ a) (ha1 : a < 8) (hc0 : 0 ≤ ic) (hc1 : ic < rl) :
  Calls Try.prog 24 #[.agg #[.slice ra rl rc, .slice (some ⟨cb, co, none⟩) cl cc], .int .i64 at_, st true g c] w fun e w' => ∃ v, e = .returned v ∧ LdAt w' w.heap.size v [(at_ + 1, setK s a ⟨17, sec ic.toNat⟩)] ∧ More w w' := by
 obtain rfl : ra = some ⟨rb, ro, none⟩ := hra (by omega)
 have Hk : Hid (KRow w g s) := hk
 have Hreg : Hid ((0 < rl → (some ⟨rb, ro, none⟩ : Option Addr) = some ⟨rb, ro, none⟩) ∧ RegsAt w rb ro rl log sec) := ⟨hra, hregs⟩
 have hat2 : (at_ : Int) + 1 ≤ 200 := by omega
 have hcb : cb < w.heap.size := J05 q0
 have hcb1 : cb < w.heap.size + 1 := by omega
 clear hk hra hregs
 suffices hP : ∀ P : Ending → World → Prop, (∀ v w', LdAt w' w.heap.size v [(at_ + 1, setK s a ⟨17, sec ic.toNat⟩)] → More w w' → P (.returned v) w') → Calls Try.prog 24 #[.agg #[.slice (some ⟨rb, ro, none⟩) rl rc, .slice (some ⟨cb, co, none⟩) cl cc], .int .i64 at_, st true g c] w P from hP _ (fun v w' h1 h2 => ⟨v, rfl, h1, h2⟩)
 intro P hP0
 have hP : Hid (∀ v w', LdAt w' w.heap.size v [(at_ + 1, setK s a ⟨17, sec ic.toNat⟩)] → More w w' → P (.returned v) w') := hP0
 clear hP0
 unfold st
 go_enter Try.func24, Try.ntmps24
 go_wp2_with (fail)
 refine (J0o true g c s _ (Hk.out.more (((More.refl _).alloc _ _).alloc _ _ |>.alloc _ _))).mono ?_
 rintro e w1 ⟨g1, c1, rfl, hg1, hr1, m1⟩
 obtain ⟨W1, HW1⟩ : ∃ W1 : World, Hid (W1 = w1.alloc (.cells #[.bool true, .slice (some ⟨g1, 0, none⟩) 8 c1] 57)) := ⟨_, rfl⟩
 obtain ⟨HF, HK1, HM, HG, HA, HI⟩ := J1o (i := ⟨5, a, b, ic, n⟩) Hk.out Hreg.out.2 m1 hr1 hg1 HW1.out
 replace HF := J09 HF
 replace HK1 := J09 HK1
 replace HM := J09 HM
 replace HG := J09 HG
 replace HA := J09 HA
 replace HI := J09 HI
 clear m1 hr1 hg1 q0 q1 q2 q3 q4
 have i0 : w1.cell? ⟨w.heap.size + 1 + 1, 0, none⟩ = some (.int .i64 5) := HI.out.cell rfl
 have i1 : w1.cell? ⟨w.heap.size + 1 + 1, 1, none⟩ = some (.int .i64 a) := HI.out.cell rfl
 have i2 : w1.cell? ⟨w.heap.size + 1 + 1, 2, none⟩ = some (.int .i64 b) := HI.out.cell rfl
 have i3 : w1.cell? ⟨w.heap.size + 1 + 1, 3, none⟩ = some (.int .i64 ic) := HI.out.cell rfl
 have i4 : w1.cell? ⟨w.heap.size + 1 + 1, 4, none⟩ = some (.int .i64 n) := HI.out.cell rfl
 have zi : w.heap.size + 1 + 1 < w1.heap.size := HI.out.lt
 obtain ⟨S, HS⟩ : ∃ S : World → Prop, Hid (∀ w', S w' ↔ LFix w.heap.size g c g1 c1 w1.heap.size (.slice (some ⟨rb, ro, none⟩) rl rc) (.slice (some ⟨cb, co, none⟩) cl cc) ⟨5, a, b, ic, n⟩ s rb ro rl log sec w') := ⟨_, fun _ => Iff.rfl⟩
 have HSm : Hid (∀ w', More W1 w' → S w') := fun w' m => (HS.out _).2 (HF.out.more m)
 have HS0 : S W1.drew := HSm.out _ (More.refl _).drew
 have hne : Nonempty { w' // S w' } := ⟨⟨_, HS0⟩⟩
 have k0 : ∀ i : { w' // S w' }, i.val.cell? ⟨w.heap.size + 1 + 1, 0, none⟩ = some (.int .i64 5) := fun i => ((HS.out _).1 i.property).fi.cell rfl
 have k1 : ∀ i : { w' // S w' }, i.val.cell? ⟨w.heap.size + 1 + 1, 1, none⟩ = some (.int .i64 a) := fun i => ((HS.out _).1 i.property).fi.cell rfl
 have k2 : ∀ i : { w' // S w' }, i.val.cell? ⟨w.heap.size + 1 + 1, 2, none⟩ = some (.int .i64 b) := fun i => ((HS.out _).1 i.property).fi.cell rfl
 have k3 : ∀ i : { w' // S w' }, i.val.cell? ⟨w.heap.size + 1 + 1, 3, none⟩ = some (.int .i64 ic) := fun i => ((HS.out _).1 i.property).fi.cell rfl
 have k4 : ∀ i : { w' // S w' }, i.val.cell? ⟨w.heap.size + 1 + 1, 4, none⟩ = some (.int .i64 n) := fun i => ((HS.out _).1 i.property).fi.cell rfl
 have k5 : ∀ i : { w' // S w' }, i.val.cell? ⟨w1.heap.size, 1, none⟩ = some (.slice (some ⟨g1, 0, none⟩) 8 c1) := fun i => ((HS.out _).1 i.property).ft.cell rfl
 have k6 : ∀ i : { w' // S w' }, i.val.cell? ⟨w.heap.size + 1, 1, none⟩ = some (.slice (some ⟨g, 0, none⟩) 8 c) := fun i => ((HS.out _).1 i.property).fs.cell rfl
 have k7 : ∀ i : { w' // S w' }, i.val.cell? ⟨w.heap.size, 0, none⟩ = some (.slice (some ⟨rb, ro, none⟩) rl rc) := fun i => ((HS.out _).1 i.property).fp.cell rfl
 obtain ⟨vs, hvs⟩ : ∃ v, sec ic.toNat = v := ⟨_, rfl⟩
 have kr : ∀ i : { w' // S w' }, i.val.cell? ⟨rb, ro + ic.toNat * 2 + 1, none⟩ = some (.bool vs) := fun i => hvs ▸ (((HS.out _).1 i.property).regs ic.toNat (by omega)).2
 have Hx : Hid ((⟨17, vs⟩ : Kn) = ⟨17, sec ic.toNat⟩) := by show _ = _; rw [hvs]
 clear hvs
 go_wp2_with (fail)
 rw [← HW1.out]
 clear i0 i1 i2 i3 i4 zi
 refine J01 (S := S) [(0, true), (1, true), (2, true), (3, true), (4, true), (5, true), (6, true), (7, true), (8, true), (9, true), (10, true), (11, true), (12, true), (13, false)] (by kernel_rfl) (by kernel_rfl) (by kernel_rfl) HS0 ?_
 iterate 13 (refine J00 rfl (by kernel_rfl) (fun K hK => ?_); go_simp; refine hK _ _ ?_; clear hK K)
 have Hm2 : Hid (More W1 W1.drew) := (More.refl _).drew
 have HS2 : S W1.drew := HS0
 have Hrow : Hid (KRow W1 g1 s) := HK1.out
 have hr : a.toNat < 8 := by omega
 have q := Hrow.out a.toNat hr
 have q0 := q.1.1
 have q1 := q.1.2
 have q2 := q.2.1
 have q3 := q.2.2
 obtain ⟨w3, Hw3⟩ : ∃ w3, Hid (w3 = ((W1.setCell ⟨g1, a.toNat * 2, none⟩ (.int .i64 17)).setCell ⟨g1, a.toNat * 2 + 1, none⟩ (.bool vs)).drew) := ⟨_, rfl⟩
 have Hrow3 : Hid (KRow w3 g1 (setK s a ⟨17, vs⟩)) := Hw3.out ▸ (Hrow.out.set a ⟨17, vs⟩ hr).more (More.refl _).drew
 have hg := HG.out
 have hA := HA.out
 have HF3 : Hid (LFix w.heap.size g c g1 c1 w1.heap.size (.slice (some ⟨rb, ro, none⟩) rl rc) (.slice (some ⟨cb, co, none⟩) cl cc) ⟨5, a, b, ic, n⟩ s rb ro rl log sec w3) := Hw3.out ▸ LFix.more (More.refl _).drew ((HF.out.set (by omega) (by omega) (by omega) (fun h0 => by have := hA.2 h0; omega) _ _).set (by omega) (by omega) (by omega) (fun h0 => by have := hA.2 h0; omega) _ _)
 have Hm3 : Hid (More w w3) := Hw3.out ▸ ((HM.out.setCell (by dsimp only; omega) _).setCell (by dsimp only; omega) _).drew
 have HS3 : S w3 := (HS.out _).2 HF3.out
 clear hg hA
 refine J02 rfl (by kernel_rfl) (fun K hK => ?_); go_simp
 rw [← Hw3.out]
 refine hK _ _ HS3 ?_; clear hK K
 refine J04 ?_
 clear k0 k1 k2 k3 k4 k5 k6 k7 kr hne HS0 HS2 HS3 q q0 q1 q2 q3
 have t0 := HF3.out.ft.cell (j := 0) (v := .bool true) rfl
 have t1 := HF3.out.ft.cell (j := 1) (v := .slice (some ⟨g1, 0, none⟩) 8 c1) rfl
 go_wp2
 exact hP.out _ _ (LdAt.one rfl (Hx.out ▸ Hrow3.out) (by have := HG.out; omega)) (Hm3.out.alloc _ _)

set_option maxHeartbeats 2000000 in
theorem Jg3 (ra : Option Addr) (rb ro rl rc : Nat) (log : Nat → Int) (sec : Nat → Bool) (cb co cl cc at_ g c : Nat) (op a b ic n : Int) (s : KS) (w : World) (hra : 0 < rl → ra = some ⟨rb, ro, none⟩) (hregs : RegsAt w rb ro rl log sec)
  (q0 : w.cell? ⟨cb, co + at_ * 5, none⟩ = some (.int .i64 op)) (q1 : w.cell? ⟨cb, co + at_ * 5 + 1, none⟩ = some (.int .i64 a)) (q2 : w.cell? ⟨cb, co + at_ * 5 + 2, none⟩ = some (.int .i64 b)) (q3 : w.cell? ⟨cb, co + at_ * 5 + 3, none⟩ = some (.int .i64 ic)) (q4 : w.cell? ⟨cb, co + at_ * 5 + 4, none⟩ = some (.int .i64 n))
  (hat : (at_ : Int) < cl) (hcl : (cl : Int) ≤ 200) (hk : KRow w g s) (ho0 : 21 ≤ op) (ho1 : op ≤ 30) (ha0 : 0 ≤ a) (ha1 : a < 8) (hb0 : 0 ≤ b) (hb1 : b < 8) (hc0 : 0 ≤ ic) (hc1 : ic < 8) :
  Calls Try.prog 24 #[.agg #[.slice ra rl rc, .slice (some ⟨cb, co, none⟩) cl cc], .int .i64 at_, st true g c] w fun e w' => ∃ v, e = .returned v ∧ LdAt w' w.heap.size v [(at_ + 1, setK s a (Kn.op (op - 20) (s b.toNat) (s ic.toNat)))] ∧ More w w' := by
 have e7 : (op == 7) = false := by simp; omega
 have e9 : (op == 9) = false := by simp; omega
 have e8 : (op == 8) = false := by simp; omega
 have e1 : (op == 1) = false := by simp; omega
 have e2 : (op == 2) = false := by simp; omega
 have e10 : (op == 10) = false := by simp; omega
 have e3 : (op == 3) = false := by simp; omega
 have e5 : (op == 5) = false := by simp; omega
 have e11 : (op == 11) = false := by simp; omega
 have e4 : (op == 4) = false := by simp; omega
 have e6 : (op == 6) = false := by simp; omega
 have e12 : (op == 12) = false := by simp; omega
 have Hk : Hid (KRow w g s) := hk
 have Hreg : Hid ((0 < rl → ra = some ⟨rb, ro, none⟩) ∧ RegsAt w rb ro rl log sec) := ⟨hra, hregs⟩
 have hat2 : (at_ : Int) + 1 ≤ 200 := by omega
 have hcb : cb < w.heap.size := J05 q0
 have hcb1 : cb < w.heap.size + 1 := by omega
 clear hk hra hregs
 suffices hP : ∀ P : Ending → World → Prop, (∀ v w', LdAt w' w.heap.size v [(at_ + 1, setK s a (Kn.op (op - 20) (s b.toNat) (s ic.toNat)))] → More w w' → P (.returned v) w') → Calls Try.prog 24 #[.agg #[.slice ra rl rc, .slice (some ⟨cb, co, none⟩) cl cc], .int .i64 at_, st true g c] w P from hP _ (fun v w' h1 h2 => ⟨v, rfl, h1, h2⟩)
 intro P hP0
 have hP : Hid (∀ v w', LdAt w' w.heap.size v [(at_ + 1, setK s a (Kn.op (op - 20) (s b.toNat) (s ic.toNat)))] → More w w' → P (.returned v) w') := hP0
 clear hP0
 unfold st
 go_enter Try.func24, Try.ntmps24
 go_wp2_with (fail)
 refine (J0o true g c s _ (Hk.out.more (((More.refl _).alloc _ _).alloc _ _ |>.alloc _ _))).mono ?_
 rintro e w1 ⟨g1, c1, rfl, hg1, hr1, m1⟩
 obtain ⟨W1, HW1⟩ : ∃ W1 : World, Hid (W1 = w1.alloc (.cells #[.bool true, .slice (some ⟨g1, 0, none⟩) 8 c1] 57)) := ⟨_, rfl⟩
 obtain ⟨HF, HK1, HM, HG, HA, HI⟩ := J1o (i := ⟨op, a, b, ic, n⟩) Hk.out Hreg.out.2 m1 hr1 hg1 HW1.out
 replace HF := J09 HF
 replace HK1 := J09 HK1
 replace HM := J09 HM
 replace HG := J09 HG
 replace HA := J09 HA
 replace HI := J09 HI
 clear m1 hr1 hg1 q0 q1 q2 q3 q4
 have i0 : w1.cell? ⟨w.heap.size + 1 + 1, 0, none⟩ = some (.int .i64 op) := HI.out.cell rfl
 have i1 : w1.cell? ⟨w.heap.size + 1 + 1, 1, none⟩ = some (.int .i64 a) := HI.out.cell rfl
 have i2 : w1.cell? ⟨w.heap.size + 1 + 1, 2, none⟩ = some (.int .i64 b) := HI.out.cell rfl
 have i3 : w1.cell? ⟨w.heap.size + 1 + 1, 3, none⟩ = some (.int .i64 ic) := HI.out.cell rfl
 have i4 : w1.cell? ⟨w.heap.size + 1 + 1, 4, none⟩ = some (.int .i64 n) := HI.out.cell rfl
 have zi : w.heap.size + 1 + 1 < w1.heap.size := HI.out.lt
 obtain ⟨S, HS⟩ : ∃ S : World → Prop, Hid (∀ w', S w' ↔ LFix w.heap.size g c g1 c1 w1.heap.size (.slice ra rl rc) (.slice (some ⟨cb, co, none⟩) cl cc) ⟨op, a, b, ic, n⟩ s rb ro rl log sec w') := ⟨_, fun _ => Iff.rfl⟩
 have HSm : Hid (∀ w', More W1 w' → S w') := fun w' m => (HS.out _).2 (HF.out.more m)
 have HS0 : S W1.drew := HSm.out _ (More.refl _).drew
 have hne : Nonempty { w' // S w' } := ⟨⟨_, HS0⟩⟩
 have k0 : ∀ i : { w' // S w' }, i.val.cell? ⟨w.heap.size + 1 + 1, 0, none⟩ = some (.int .i64 op) := fun i => ((HS.out _).1 i.property).fi.cell rfl
 have k1 : ∀ i : { w' // S w' }, i.val.cell? ⟨w.heap.size + 1 + 1, 1, none⟩ = some (.int .i64 a) := fun i => ((HS.out _).1 i.property).fi.cell rfl
 have k2 : ∀ i : { w' // S w' }, i.val.cell? ⟨w.heap.size + 1 + 1, 2, none⟩ = some (.int .i64 b) := fun i => ((HS.out _).1 i.property).fi.cell rfl
 have k3 : ∀ i : { w' // S w' }, i.val.cell? ⟨w.heap.size + 1 + 1, 3, none⟩ = some (.int .i64 ic) := fun i => ((HS.out _).1 i.property).fi.cell rfl
 have k4 : ∀ i : { w' // S w' }, i.val.cell? ⟨w.heap.size + 1 + 1, 4, none⟩ = some (.int .i64 n) := fun i => ((HS.out _).1 i.property).fi.cell rfl
 have k5 : ∀ i : { w' // S w' }, i.val.cell? ⟨w1.heap.size, 1, none⟩ = some (.slice (some ⟨g1, 0, none⟩) 8 c1) := fun i => ((HS.out _).1 i.property).ft.cell rfl
 have k6 : ∀ i : { w' // S w' }, i.val.cell? ⟨w.heap.size + 1, 1, none⟩ = some (.slice (some ⟨g, 0, none⟩) 8 c) := fun i => ((HS.out _).1 i.property).fs.cell rfl
 have k7 : ∀ i : { w' // S w' }, i.val.cell? ⟨w.heap.size, 0, none⟩ = some (.slice ra rl rc) := fun i => ((HS.out _).1 i.property).fp.cell rfl
 obtain ⟨xb, hxb⟩ : ∃ x, s b.toNat = x := ⟨_, rfl⟩
 have kb0 : ∀ i : { w' // S w' }, i.val.cell? ⟨g, b.toNat * 2, none⟩ = some (.int .i64 xb.b) := fun i => hxb ▸ (((HS.out _).1 i.property).ks b.toNat (by omega)).1.1
 have kb1 : ∀ i : { w' // S w' }, i.val.cell? ⟨g, b.toNat * 2 + 1, none⟩ = some (.bool xb.s) := fun i => hxb ▸ (((HS.out _).1 i.property).ks b.toNat (by omega)).1.2
 obtain ⟨xc, hxc⟩ : ∃ x, s ic.toNat = x := ⟨_, rfl⟩
 have kc0 : ∀ i : { w' // S w' }, i.val.cell? ⟨g, ic.toNat * 2, none⟩ = some (.int .i64 xc.b) := fun i => hxc ▸ (((HS.out _).1 i.property).ks ic.toNat (by omega)).1.1
 have kc1 : ∀ i : { w' // S w' }, i.val.cell? ⟨g, ic.toNat * 2 + 1, none⟩ = some (.bool xc.s) := fun i => hxc ▸ (((HS.out _).1 i.property).ks ic.toNat (by omega)).1.2
 obtain ⟨v, hv⟩ : ∃ v, Kn.op (op - 20) xb xc = v := ⟨_, rfl⟩
 have c2 : ∀ w : World, Calls Try.prog 52 #[.int .i64 (op - 20), kn xb.b xb.s, kn xc.b xc.s] w fun e w' => e = .returned (kn v.b v.s) ∧ More w w' := fun w => hv ▸ J98 (op - 20) xb.b xc.b xb.s xc.s w
 have Hx : Hid ((⟨v.b, v.s⟩ : Kn) = Kn.op (op - 20) (s b.toNat) (s ic.toNat)) := by rw [hxb, hxc]; exact hv.symm
 clear hv hxb hxc
 obtain ⟨vb, vs⟩ := v
 obtain ⟨xbb, xbs⟩ := xb
 obtain ⟨xcb, xcs⟩ := xc
 unfold kn at c2
 dsimp only at c2 kb0 kb1 kc0 kc1
 have hwr : IntKind.i64.wrap (op - 20) = op - 20 := by rw [IntKind.wrap_i64]; omega
 go_wp2_with (fail)
 rw [← HW1.out]
 clear i0 i1 i2 i3 i4 zi
 refine J01 (S := S) [(0, true), (1, true), (2, true), (3, true), (4, true), (5, true), (6, true), (7, true), (8, true), (9, true), (10, true), (11, true), (12, true), (13, true), (14, true), (15, true), (16, true), (17, true), (18, true), (19, false), (20, true), (21, false)] (by kernel_rfl) (by kernel_rfl) (by kernel_rfl) HS0 ?_
 iterate 19 (refine J00 rfl (by kernel_rfl) (fun K hK => ?_); go_simp; refine hK _ _ ?_; clear hK K)
 refine J02 rfl (by kernel_rfl) (fun K hK => ?_); go_simp
 try rw [hwr]
 refine (c2 _).mono ?_
 rintro e w2 ⟨rfl, m2⟩
 have Hm2 : Hid (More W1 w2) := (More.refl _).drew.trans m2
 have HS2 : S w2 := HSm.out _ Hm2.out
 clear m2
 go_simp
 refine hK _ _ HS2 ?_; clear hK K
 (refine J00 rfl (by kernel_rfl) (fun K hK => ?_); go_simp; refine hK _ _ ?_; clear hK K)
 have Hrow : Hid (KRow w2 g1 s) := HK1.out.more Hm2.out
 have hr : a.toNat < 8 := by omega
 have q := Hrow.out a.toNat hr
 have q0 := q.1.1
 have q1 := q.1.2
 have q2 := q.2.1
 have q3 := q.2.2
 obtain ⟨w3, Hw3⟩ : ∃ w3, Hid (w3 = (w2.setCell ⟨g1, a.toNat * 2, none⟩ (.int .i64 vb)).setCell ⟨g1, a.toNat * 2 + 1, none⟩ (.bool vs)) := ⟨_, rfl⟩
 have Hrow3 : Hid (KRow w3 g1 (setK s a ⟨vb, vs⟩)) := Hw3.out ▸ Hrow.out.set a ⟨vb, vs⟩ hr
 have hg := HG.out
 have hA := HA.out
 have HF3 : Hid (LFix w.heap.size g c g1 c1 w1.heap.size (.slice ra rl rc) (.slice (some ⟨cb, co, none⟩) cl cc) ⟨op, a, b, ic, n⟩ s rb ro rl log sec w3) := Hw3.out ▸ ((HF.out.more Hm2.out).set (by omega) (by omega) (by omega) (fun h0 => by have := hA.2 h0; omega) _ _).set (by omega) (by omega) (by omega) (fun h0 => by have := hA.2 h0; omega) _ _
 have Hm3 : Hid (More w w3) := Hw3.out ▸ (((HM.out.trans Hm2.out).setCell (by dsimp only; omega) _).setCell (by dsimp only; omega) _)
 have HS3 : S w3 := (HS.out _).2 HF3.out
 clear hg hA
 refine J02 rfl (by kernel_rfl) (fun K hK => ?_); go_simp
 rw [← Hw3.out]
 refine hK _ _ HS3 ?_; clear hK K
 refine J04 ?_
 clear k0 k1 k2 k3 k4 k5 k6 k7 kb0 kb1 kc0 kc1 hne HS0 HS2 HS3 q q0 q1 q2 q3
 have t0 := HF3.out.ft.cell (j := 0) (v := .bool true) rfl
 have t1 := HF3.out.ft.cell (j := 1) (v := .slice (some ⟨g1, 0, none⟩) 8 c1) rfl
 go_wp2
 exact hP.out _ _ (LdAt.one rfl (Hx.out ▸ Hrow3.out) (by have := HG.out; omega)) (Hm3.out.alloc _ _)
set_option maxHeartbeats 2000000 in
theorem Jin (ra : Option Addr) (rb ro rl rc : Nat) (log : Nat → Int) (sec : Nat → Bool) (cb co cl cc at_ g c : Nat) (a b ic n : Int) (s : KS) (w : World) (hra : 0 < rl → ra = some ⟨rb, ro, none⟩) (hregs : RegsAt w rb ro rl log sec)
  (q0 : w.cell? ⟨cb, co + at_ * 5, none⟩ = some (.int .i64 4)) (q1 : w.cell? ⟨cb, co + at_ * 5 + 1, none⟩ = some (.int .i64 a)) (q2 : w.cell? ⟨cb, co + at_ * 5 + 2, none⟩ = some (.int .i64 b)) (q3 : w.cell? ⟨cb, co + at_ * 5 + 3, none⟩ = some (.int .i64 ic)) (q4 : w.cell? ⟨cb, co + at_ * 5 + 4, none⟩ = some (.int .i64 n))
  (hat : (at_ : Int) < cl) (hcl : (cl : Int) ≤ 200) (hk : KRow w g s) :
  Calls Try.prog 24 #[.agg #[.slice ra rl rc, .slice (some ⟨cb, co, none⟩) cl cc], .int .i64 at_, st true g c] w fun e w' => ∃ v, e = .returned v ∧ LdAt w' w.heap.size v [(at_ + 1, s)] ∧ More w w' := by
 have Hk : Hid (KRow w g s) := hk
 have Hreg : Hid ((0 < rl → ra = some ⟨rb, ro, none⟩) ∧ RegsAt w rb ro rl log sec) := ⟨hra, hregs⟩
 have hat2 : (at_ : Int) + 1 ≤ 200 := by omega
 have hcb : cb < w.heap.size := J05 q0
 have hcb1 : cb < w.heap.size + 1 := by omega
 clear hk hra hregs
 suffices hP : ∀ P : Ending → World → Prop, (∀ v w', LdAt w' w.heap.size v [(at_ + 1, s)] → More w w' → P (.returned v) w') → Calls Try.prog 24 #[.agg #[.slice ra rl rc, .slice (some ⟨cb, co, none⟩) cl cc], .int .i64 at_, st true g c] w P from hP _ (fun v w' h1 h2 => ⟨v, rfl, h1, h2⟩)
 intro P hP0
 have hP : Hid (∀ v w', LdAt w' w.heap.size v [(at_ + 1, s)] → More w w' → P (.returned v) w') := hP0
 clear hP0
 unfold st
 go_enter Try.func24, Try.ntmps24
 go_wp2_with (fail)
 refine (J0o true g c s _ (Hk.out.more (((More.refl _).alloc _ _).alloc _ _ |>.alloc _ _))).mono ?_
 rintro e w1 ⟨g1, c1, rfl, hg1, hr1, m1⟩
 obtain ⟨W1, HW1⟩ : ∃ W1 : World, Hid (W1 = w1.alloc (.cells #[.bool true, .slice (some ⟨g1, 0, none⟩) 8 c1] 57)) := ⟨_, rfl⟩
 obtain ⟨HF, HK1, HM, HG, HA, HI⟩ := J1o (i := ⟨4, a, b, ic, n⟩) Hk.out Hreg.out.2 m1 hr1 hg1 HW1.out
 replace HF := J09 HF
 replace HK1 := J09 HK1
 replace HM := J09 HM
 replace HG := J09 HG
 replace HA := J09 HA
 replace HI := J09 HI
 clear m1 hr1 hg1 q0 q1 q2 q3 q4
 have i0 : w1.cell? ⟨w.heap.size + 1 + 1, 0, none⟩ = some (.int .i64 4) := HI.out.cell rfl
 have i1 : w1.cell? ⟨w.heap.size + 1 + 1, 1, none⟩ = some (.int .i64 a) := HI.out.cell rfl
 have i2 : w1.cell? ⟨w.heap.size + 1 + 1, 2, none⟩ = some (.int .i64 b) := HI.out.cell rfl
 have i3 : w1.cell? ⟨w.heap.size + 1 + 1, 3, none⟩ = some (.int .i64 ic) := HI.out.cell rfl
 have i4 : w1.cell? ⟨w.heap.size + 1 + 1, 4, none⟩ = some (.int .i64 n) := HI.out.cell rfl
 have zi : w.heap.size + 1 + 1 < w1.heap.size := HI.out.lt
 have Hmw : Hid (More w (w1.alloc (.cells #[.bool true, .slice (some ⟨g1, 0, none⟩) 8 c1] 57))) := HW1.out ▸ HM.out
 have Hkw : Hid (KRow (w1.alloc (.cells #[.bool true, .slice (some ⟨g1, 0, none⟩) 8 c1] 57)) g1 s) := HW1.out ▸ HK1.out
 go_wp2
 exact hP.out _ _ (LdAt.one (by simp) Hkw.out (by have := HG.out; omega)) (Hmw.out.alloc _ _)

set_option maxHeartbeats 2000000 in
theorem Jip (ra : Option Addr) (rb ro rl rc : Nat) (log : Nat → Int) (sec : Nat → Bool) (cb co cl cc at_ g c : Nat) (a b ic n : Int) (s : KS) (w : World) (hra : 0 < rl → ra = some ⟨rb, ro, none⟩) (hregs : RegsAt w rb ro rl log sec)
  (q0 : w.cell? ⟨cb, co + at_ * 5, none⟩ = some (.int .i64 6)) (q1 : w.cell? ⟨cb, co + at_ * 5 + 1, none⟩ = some (.int .i64 a)) (q2 : w.cell? ⟨cb, co + at_ * 5 + 2, none⟩ = some (.int .i64 b)) (q3 : w.cell? ⟨cb, co + at_ * 5 + 3, none⟩ = some (.int .i64 ic)) (q4 : w.cell? ⟨cb, co + at_ * 5 + 4, none⟩ = some (.int .i64 n))
  (hat : (at_ : Int) < cl) (hcl : (cl : Int) ≤ 200) (hk : KRow w g s) :
  Calls Try.prog 24 #[.agg #[.slice ra rl rc, .slice (some ⟨cb, co, none⟩) cl cc], .int .i64 at_, st true g c] w fun e w' => ∃ v, e = .returned v ∧ LdAt w' w.heap.size v [(at_ + 1, s)] ∧ More w w' := by
 have Hk : Hid (KRow w g s) := hk
 have Hreg : Hid ((0 < rl → ra = some ⟨rb, ro, none⟩) ∧ RegsAt w rb ro rl log sec) := ⟨hra, hregs⟩
 have hat2 : (at_ : Int) + 1 ≤ 200 := by omega
 have hcb : cb < w.heap.size := J05 q0
 have hcb1 : cb < w.heap.size + 1 := by omega
 clear hk hra hregs
 suffices hP : ∀ P : Ending → World → Prop, (∀ v w', LdAt w' w.heap.size v [(at_ + 1, s)] → More w w' → P (.returned v) w') → Calls Try.prog 24 #[.agg #[.slice ra rl rc, .slice (some ⟨cb, co, none⟩) cl cc], .int .i64 at_, st true g c] w P from hP _ (fun v w' h1 h2 => ⟨v, rfl, h1, h2⟩)
 intro P hP0
 have hP : Hid (∀ v w', LdAt w' w.heap.size v [(at_ + 1, s)] → More w w' → P (.returned v) w') := hP0
 clear hP0
 unfold st
 go_enter Try.func24, Try.ntmps24
 go_wp2_with (fail)
 refine (J0o true g c s _ (Hk.out.more (((More.refl _).alloc _ _).alloc _ _ |>.alloc _ _))).mono ?_
 rintro e w1 ⟨g1, c1, rfl, hg1, hr1, m1⟩
 obtain ⟨W1, HW1⟩ : ∃ W1 : World, Hid (W1 = w1.alloc (.cells #[.bool true, .slice (some ⟨g1, 0, none⟩) 8 c1] 57)) := ⟨_, rfl⟩
 obtain ⟨HF, HK1, HM, HG, HA, HI⟩ := J1o (i := ⟨6, a, b, ic, n⟩) Hk.out Hreg.out.2 m1 hr1 hg1 HW1.out
 replace HF := J09 HF
 replace HK1 := J09 HK1
 replace HM := J09 HM
 replace HG := J09 HG
 replace HA := J09 HA
 replace HI := J09 HI
 clear m1 hr1 hg1 q0 q1 q2 q3 q4
 have i0 : w1.cell? ⟨w.heap.size + 1 + 1, 0, none⟩ = some (.int .i64 6) := HI.out.cell rfl
 have i1 : w1.cell? ⟨w.heap.size + 1 + 1, 1, none⟩ = some (.int .i64 a) := HI.out.cell rfl
 have i2 : w1.cell? ⟨w.heap.size + 1 + 1, 2, none⟩ = some (.int .i64 b) := HI.out.cell rfl
 have i3 : w1.cell? ⟨w.heap.size + 1 + 1, 3, none⟩ = some (.int .i64 ic) := HI.out.cell rfl
 have i4 : w1.cell? ⟨w.heap.size + 1 + 1, 4, none⟩ = some (.int .i64 n) := HI.out.cell rfl
 have zi : w.heap.size + 1 + 1 < w1.heap.size := HI.out.lt
 have Hmw : Hid (More w (w1.alloc (.cells #[.bool true, .slice (some ⟨g1, 0, none⟩) 8 c1] 57))) := HW1.out ▸ HM.out
 have Hkw : Hid (KRow (w1.alloc (.cells #[.bool true, .slice (some ⟨g1, 0, none⟩) 8 c1] 57)) g1 s) := HW1.out ▸ HK1.out
 go_wp2
 exact hP.out _ _ (LdAt.one (by simp) Hkw.out (by have := HG.out; omega)) (Hmw.out.alloc _ _)

set_option maxHeartbeats 2000000 in
theorem Jg2 (ra : Option Addr) (rb ro rl rc : Nat) (log : Nat → Int) (sec : Nat → Bool) (cb co cl cc at_ g c : Nat) (a b ic n : Int) (s : KS) (w : World) (hra : 0 < rl → ra = some ⟨rb, ro, none⟩) (hregs : RegsAt w rb ro rl log sec)
  (q0 : w.cell? ⟨cb, co + at_ * 5, none⟩ = some (.int .i64 12)) (q1 : w.cell? ⟨cb, co + at_ * 5 + 1, none⟩ = some (.int .i64 a)) (q2 : w.cell? ⟨cb, co + at_ * 5 + 2, none⟩ = some (.int .i64 b)) (q3 : w.cell? ⟨cb, co + at_ * 5 + 3, none⟩ = some (.int .i64 ic)) (q4 : w.cell? ⟨cb, co + at_ * 5 + 4, none⟩ = some (.int .i64 n))
  (hat : (at_ : Int) < cl) (hcl : (cl : Int) ≤ 200) (hk : KRow w g s) :
  Calls Try.prog 24 #[.agg #[.slice ra rl rc, .slice (some ⟨cb, co, none⟩) cl cc], .int .i64 at_, st true g c] w fun e w' => ∃ v, e = .returned v ∧ LdAt w' w.heap.size v [(at_ + 1, s)] ∧ More w w' := by
 have Hk : Hid (KRow w g s) := hk
 have Hreg : Hid ((0 < rl → ra = some ⟨rb, ro, none⟩) ∧ RegsAt w rb ro rl log sec) := ⟨hra, hregs⟩
 have hat2 : (at_ : Int) + 1 ≤ 200 := by omega
 have hcb : cb < w.heap.size := J05 q0
 have hcb1 : cb < w.heap.size + 1 := by omega
 clear hk hra hregs
 suffices hP : ∀ P : Ending → World → Prop, (∀ v w', LdAt w' w.heap.size v [(at_ + 1, s)] → More w w' → P (.returned v) w') → Calls Try.prog 24 #[.agg #[.slice ra rl rc, .slice (some ⟨cb, co, none⟩) cl cc], .int .i64 at_, st true g c] w P from hP _ (fun v w' h1 h2 => ⟨v, rfl, h1, h2⟩)
 intro P hP0
 have hP : Hid (∀ v w', LdAt w' w.heap.size v [(at_ + 1, s)] → More w w' → P (.returned v) w') := hP0
 clear hP0
 unfold st
 go_enter Try.func24, Try.ntmps24
 go_wp2_with (fail)
 refine (J0o true g c s _ (Hk.out.more (((More.refl _).alloc _ _).alloc _ _ |>.alloc _ _))).mono ?_
 rintro e w1 ⟨g1, c1, rfl, hg1, hr1, m1⟩
 obtain ⟨W1, HW1⟩ : ∃ W1 : World, Hid (W1 = w1.alloc (.cells #[.bool true, .slice (some ⟨g1, 0, none⟩) 8 c1] 57)) := ⟨_, rfl⟩
 obtain ⟨HF, HK1, HM, HG, HA, HI⟩ := J1o (i := ⟨12, a, b, ic, n⟩) Hk.out Hreg.out.2 m1 hr1 hg1 HW1.out
 replace HF := J09 HF
 replace HK1 := J09 HK1
 replace HM := J09 HM
 replace HG := J09 HG
 replace HA := J09 HA
 replace HI := J09 HI
 clear m1 hr1 hg1 q0 q1 q2 q3 q4
 have i0 : w1.cell? ⟨w.heap.size + 1 + 1, 0, none⟩ = some (.int .i64 12) := HI.out.cell rfl
 have i1 : w1.cell? ⟨w.heap.size + 1 + 1, 1, none⟩ = some (.int .i64 a) := HI.out.cell rfl
 have i2 : w1.cell? ⟨w.heap.size + 1 + 1, 2, none⟩ = some (.int .i64 b) := HI.out.cell rfl
 have i3 : w1.cell? ⟨w.heap.size + 1 + 1, 3, none⟩ = some (.int .i64 ic) := HI.out.cell rfl
 have i4 : w1.cell? ⟨w.heap.size + 1 + 1, 4, none⟩ = some (.int .i64 n) := HI.out.cell rfl
 have zi : w.heap.size + 1 + 1 < w1.heap.size := HI.out.lt
 have Hmw : Hid (More w (w1.alloc (.cells #[.bool true, .slice (some ⟨g1, 0, none⟩) 8 c1] 57))) := HW1.out ▸ HM.out
 have Hkw : Hid (KRow (w1.alloc (.cells #[.bool true, .slice (some ⟨g1, 0, none⟩) 8 c1] 57)) g1 s) := HW1.out ▸ HK1.out
 go_wp2
 exact hP.out _ _ (LdAt.one (by simp) Hkw.out (by have := HG.out; omega)) (Hmw.out.alloc _ _)

set_option maxHeartbeats 2000000 in
theorem Jiq (ra : Option Addr) (rb ro rl rc : Nat) (log : Nat → Int) (sec : Nat → Bool) (cb co cl cc at_ g c : Nat) (a b ic n : Int) (s : KS) (w : World) (hra : 0 < rl → ra = some ⟨rb, ro, none⟩) (hregs : RegsAt w rb ro rl log sec)
  (q0 : w.cell? ⟨cb, co + at_ * 5, none⟩ = some (.int .i64 7)) (q1 : w.cell? ⟨cb, co + at_ * 5 + 1, none⟩ = some (.int .i64 a)) (q2 : w.cell? ⟨cb, co + at_ * 5 + 2, none⟩ = some (.int .i64 b)) (q3 : w.cell? ⟨cb, co + at_ * 5 + 3, none⟩ = some (.int .i64 ic)) (q4 : w.cell? ⟨cb, co + at_ * 5 + 4, none⟩ = some (.int .i64 n))
  (hat : (at_ : Int) < cl) (hcl : (cl : Int) ≤ 200) (hk : KRow w g s) (n0 : 0 ≤ n) (n1 : n < 200) :
  Calls Try.prog 24 #[.agg #[.slice ra rl rc, .slice (some ⟨cb, co, none⟩) cl cc], .int .i64 at_, st true g c] w fun e w' => ∃ v, e = .returned v ∧ LdAt w' w.heap.size v [(n.toNat, s)] ∧ More w w' := by
 have Hk : Hid (KRow w g s) := hk
 have Hreg : Hid ((0 < rl → ra = some ⟨rb, ro, none⟩) ∧ RegsAt w rb ro rl log sec) := ⟨hra, hregs⟩
 have hat2 : (at_ : Int) + 1 ≤ 200 := by omega
 have hcb : cb < w.heap.size := J05 q0
 have hcb1 : cb < w.heap.size + 1 := by omega
 clear hk hra hregs
 suffices hP : ∀ P : Ending → World → Prop, (∀ v w', LdAt w' w.heap.size v [(n.toNat, s)] → More w w' → P (.returned v) w') → Calls Try.prog 24 #[.agg #[.slice ra rl rc, .slice (some ⟨cb, co, none⟩) cl cc], .int .i64 at_, st true g c] w P from hP _ (fun v w' h1 h2 => ⟨v, rfl, h1, h2⟩)
 intro P hP0
 have hP : Hid (∀ v w', LdAt w' w.heap.size v [(n.toNat, s)] → More w w' → P (.returned v) w') := hP0
 clear hP0
 unfold st
 go_enter Try.func24, Try.ntmps24
 go_wp2_with (fail)
 refine (J0o true g c s _ (Hk.out.more (((More.refl _).alloc _ _).alloc _ _ |>.alloc _ _))).mono ?_
 rintro e w1 ⟨g1, c1, rfl, hg1, hr1, m1⟩
 obtain ⟨W1, HW1⟩ : ∃ W1 : World, Hid (W1 = w1.alloc (.cells #[.bool true, .slice (some ⟨g1, 0, none⟩) 8 c1] 57)) := ⟨_, rfl⟩
 obtain ⟨HF, HK1, HM, HG, HA, HI⟩ := J1o (i := ⟨7, a, b, ic, n⟩) Hk.out Hreg.out.2 m1 hr1 hg1 HW1.out
 replace HF := J09 HF
 replace HK1 := J09 HK1
 replace HM := J09 HM
 replace HG := J09 HG
 replace HA := J09 HA
 replace HI := J09 HI
 clear m1 hr1 hg1 q0 q1 q2 q3 q4
 have i0 : w1.cell? ⟨w.heap.size + 1 + 1, 0, none⟩ = some (.int .i64 7) := HI.out.cell rfl
 have i1 : w1.cell? ⟨w.heap.size + 1 + 1, 1, none⟩ = some (.int .i64 a) := HI.out.cell rfl
 have i2 : w1.cell? ⟨w.heap.size + 1 + 1, 2, none⟩ = some (.int .i64 b) := HI.out.cell rfl
 have i3 : w1.cell? ⟨w.heap.size + 1 + 1, 3, none⟩ = some (.int .i64 ic) := HI.out.cell rfl
 have i4 : w1.cell? ⟨w.heap.size + 1 + 1, 4, none⟩ = some (.int .i64 n) := HI.out.cell rfl
 have zi : w.heap.size + 1 + 1 < w1.heap.size := HI.out.lt
 have hn : ((n.toNat : Nat) : Int) = n := by omega
 have Hn : Hid (((n.toNat : Nat) : Int) = n) := hn
 clear hn
 have Hmw : Hid (More w (w1.alloc (.cells #[.bool true, .slice (some ⟨g1, 0, none⟩) 8 c1] 57))) := HW1.out ▸ HM.out
 have Hkw : Hid (KRow (w1.alloc (.cells #[.bool true, .slice (some ⟨g1, 0, none⟩) 8 c1] 57)) g1 s) := HW1.out ▸ HK1.out
 go_wp2
 exact hP.out _ _ (by have := LdAt.one (to := n.toNat) (c := c1) (cap := 1) (b := w1.heap.size + 1) (by simp) Hkw.out (lo := w.heap.size) (by have := HG.out; omega); rw [Hn.out] at this; exact this) (Hmw.out.alloc _ _)

set_option maxHeartbeats 2000000 in
theorem Jis (ra : Option Addr) (rb ro rl rc : Nat) (log : Nat → Int) (sec : Nat → Bool) (cb co cl cc at_ g c : Nat) (a b ic n : Int) (s : KS) (w : World) (hra : 0 < rl → ra = some ⟨rb, ro, none⟩) (hregs : RegsAt w rb ro rl log sec)
  (q0 : w.cell? ⟨cb, co + at_ * 5, none⟩ = some (.int .i64 9)) (q1 : w.cell? ⟨cb, co + at_ * 5 + 1, none⟩ = some (.int .i64 a)) (q2 : w.cell? ⟨cb, co + at_ * 5 + 2, none⟩ = some (.int .i64 b)) (q3 : w.cell? ⟨cb, co + at_ * 5 + 3, none⟩ = some (.int .i64 ic)) (q4 : w.cell? ⟨cb, co + at_ * 5 + 4, none⟩ = some (.int .i64 n))
  (hat : (at_ : Int) < cl) (hcl : (cl : Int) ≤ 200) (hk : KRow w g s) :
  Calls Try.prog 24 #[.agg #[.slice ra rl rc, .slice (some ⟨cb, co, none⟩) cl cc], .int .i64 at_, st true g c] w fun e w' => ∃ v, e = .returned v ∧ LdAt w' w.heap.size v [] ∧ More w w' := by
 have Hk : Hid (KRow w g s) := hk
 have Hreg : Hid ((0 < rl → ra = some ⟨rb, ro, none⟩) ∧ RegsAt w rb ro rl log sec) := ⟨hra, hregs⟩
 have hat2 : (at_ : Int) + 1 ≤ 200 := by omega
 have hcb : cb < w.heap.size := J05 q0
 have hcb1 : cb < w.heap.size + 1 := by omega
 clear hk hra hregs
 suffices hP : ∀ P : Ending → World → Prop, (∀ v w', LdAt w' w.heap.size v [] → More w w' → P (.returned v) w') → Calls Try.prog 24 #[.agg #[.slice ra rl rc, .slice (some ⟨cb, co, none⟩) cl cc], .int .i64 at_, st true g c] w P from hP _ (fun v w' h1 h2 => ⟨v, rfl, h1, h2⟩)
 intro P hP0
 have hP : Hid (∀ v w', LdAt w' w.heap.size v [] → More w w' → P (.returned v) w') := hP0
 clear hP0
 unfold st
 go_enter Try.func24, Try.ntmps24
 go_wp2_with (fail)
 refine (J0o true g c s _ (Hk.out.more (((More.refl _).alloc _ _).alloc _ _ |>.alloc _ _))).mono ?_
 rintro e w1 ⟨g1, c1, rfl, hg1, hr1, m1⟩
 obtain ⟨W1, HW1⟩ : ∃ W1 : World, Hid (W1 = w1.alloc (.cells #[.bool true, .slice (some ⟨g1, 0, none⟩) 8 c1] 57)) := ⟨_, rfl⟩
 obtain ⟨HF, HK1, HM, HG, HA, HI⟩ := J1o (i := ⟨9, a, b, ic, n⟩) Hk.out Hreg.out.2 m1 hr1 hg1 HW1.out
 replace HF := J09 HF
 replace HK1 := J09 HK1
 replace HM := J09 HM
 replace HG := J09 HG
 replace HA := J09 HA
 replace HI := J09 HI
 clear m1 hr1 hg1 q0 q1 q2 q3 q4
 have i0 : w1.cell? ⟨w.heap.size + 1 + 1, 0, none⟩ = some (.int .i64 9) := HI.out.cell rfl
 have i1 : w1.cell? ⟨w.heap.size + 1 + 1, 1, none⟩ = some (.int .i64 a) := HI.out.cell rfl
 have i2 : w1.cell? ⟨w.heap.size + 1 + 1, 2, none⟩ = some (.int .i64 b) := HI.out.cell rfl
 have i3 : w1.cell? ⟨w.heap.size + 1 + 1, 3, none⟩ = some (.int .i64 ic) := HI.out.cell rfl
 have i4 : w1.cell? ⟨w.heap.size + 1 + 1, 4, none⟩ = some (.int .i64 n) := HI.out.cell rfl
 have zi : w.heap.size + 1 + 1 < w1.heap.size := HI.out.lt
 have Hmw : Hid (More w (w1.alloc (.cells #[.bool true, .slice (some ⟨g1, 0, none⟩) 8 c1] 57))) := HW1.out ▸ HM.out
 have Hkw : Hid (KRow (w1.alloc (.cells #[.bool true, .slice (some ⟨g1, 0, none⟩) 8 c1] 57)) g1 s) := HW1.out ▸ HK1.out
 go_wp2
 exact hP.out _ _ ⟨none, w.heap.size, 0, rfl, fun h => absurd h (by simp), Nat.le_refl _, by simp, fun k x hx => by simp at hx⟩ Hmw.out
set_option maxHeartbeats 2000000 in
theorem Jir (ra : Option Addr) (rb ro rl rc : Nat) (log : Nat → Int) (sec : Nat → Bool) (cb co cl cc at_ g c : Nat) (a b ic n : Int) (s : KS) (w : World) (hra : 0 < rl → ra = some ⟨rb, ro, none⟩) (hregs : RegsAt w rb ro rl log sec)
  (q0 : w.cell? ⟨cb, co + at_ * 5, none⟩ = some (.int .i64 8)) (q1 : w.cell? ⟨cb, co + at_ * 5 + 1, none⟩ = some (.int .i64 a)) (q2 : w.cell? ⟨cb, co + at_ * 5 + 2, none⟩ = some (.int .i64 b)) (q3 : w.cell? ⟨cb, co + at_ * 5 + 3, none⟩ = some (.int .i64 ic)) (q4 : w.cell? ⟨cb, co + at_ * 5 + 4, none⟩ = some (.int .i64 n))
  (hat : (at_ : Int) < cl) (hcl : (cl : Int) ≤ 200) (hk : KRow w g s) (ha0 : 0 ≤ a) (ha1 : a < 8) (hb0 : 0 ≤ b) (hb1 : b < 8) (hic : ic = 1 ∨ ic = 2 ∨ ic = 3 ∨ ic = 4) (n0 : 0 ≤ n) (n1 : n < 200) :
  Calls Try.prog 24 #[.agg #[.slice ra rl rc, .slice (some ⟨cb, co, none⟩) cl cc], .int .i64 at_, st true g c] w fun e w' => ∃ v, e = .returned v ∧ LdAt w' w.heap.size v [(n.toNat, yesK ⟨8, a, b, ic, n⟩ s), (at_ + 1, noK ⟨8, a, b, ic, n⟩ s)] ∧ More w w' := by
 have Hk : Hid (KRow w g s) := hk
 have Hreg : Hid ((0 < rl → ra = some ⟨rb, ro, none⟩) ∧ RegsAt w rb ro rl log sec) := ⟨hra, hregs⟩
 have hat2 : (at_ : Int) + 1 ≤ 200 := by omega
 have hcb : cb < w.heap.size := J05 q0
 have hcb1 : cb < w.heap.size + 1 := by omega
 clear hk hra hregs
 suffices hP : ∀ P : Ending → World → Prop, (∀ v w', LdAt w' w.heap.size v [(n.toNat, yesK ⟨8, a, b, ic, n⟩ s), (at_ + 1, noK ⟨8, a, b, ic, n⟩ s)] → More w w' → P (.returned v) w') → Calls Try.prog 24 #[.agg #[.slice ra rl rc, .slice (some ⟨cb, co, none⟩) cl cc], .int .i64 at_, st true g c] w P from hP _ (fun v w' h1 h2 => ⟨v, rfl, h1, h2⟩)
 intro P hP0
 have hP : Hid (∀ v w', LdAt w' w.heap.size v [(n.toNat, yesK ⟨8, a, b, ic, n⟩ s), (at_ + 1, noK ⟨8, a, b, ic, n⟩ s)] → More w w' → P (.returned v) w') := hP0
 clear hP0
 unfold st
 go_enter Try.func24, Try.ntmps24
 go_wp2_with (fail)
 refine (J0o true g c s _ (Hk.out.more (((More.refl _).alloc _ _).alloc _ _ |>.alloc _ _))).mono ?_
 rintro e w1 ⟨g1, c1, rfl, hg1, hr1, m1⟩
 obtain ⟨W1, HW1⟩ : ∃ W1 : World, Hid (W1 = w1.alloc (.cells #[.bool true, .slice (some ⟨g1, 0, none⟩) 8 c1] 57)) := ⟨_, rfl⟩
 obtain ⟨HF, HK1, HM, HG, HA, HI⟩ := J1o (i := ⟨8, a, b, ic, n⟩) Hk.out Hreg.out.2 m1 hr1 hg1 HW1.out
 replace HF := J09 HF
 replace HK1 := J09 HK1
 replace HM := J09 HM
 replace HG := J09 HG
 replace HA := J09 HA
 replace HI := J09 HI
 have HX0 : KRow w1 g s ∧ Blk w1 (w.heap.size + 1) #[.bool true, .slice (some ⟨g, 0, none⟩) 8 c] 57 := ⟨Hk.out.more ((((More.refl _).alloc _ _).alloc _ _ |>.alloc _ _).trans m1), ((by simpa using Blk.last (w.alloc (.cells #[.slice ra rl rc, .slice (some ⟨cb, co, none⟩) cl cc] 25)) #[.bool true, .slice (some ⟨g, 0, none⟩) 8 c] 57 : Blk ((w.alloc (.cells #[.slice ra rl rc, .slice (some ⟨cb, co, none⟩) cl cc] 25)).alloc (.cells #[.bool true, .slice (some ⟨g, 0, none⟩) 8 c] 57)) (w.heap.size + 1) #[.bool true, .slice (some ⟨g, 0, none⟩) 8 c] 57).more ((More.refl _).alloc _ _)).more m1⟩
 clear m1 hr1 hg1 q0 q1 q2 q3 q4
 have i0 : w1.cell? ⟨w.heap.size + 1 + 1, 0, none⟩ = some (.int .i64 8) := HI.out.cell rfl
 have i1 : w1.cell? ⟨w.heap.size + 1 + 1, 1, none⟩ = some (.int .i64 a) := HI.out.cell rfl
 have i2 : w1.cell? ⟨w.heap.size + 1 + 1, 2, none⟩ = some (.int .i64 b) := HI.out.cell rfl
 have i3 : w1.cell? ⟨w.heap.size + 1 + 1, 3, none⟩ = some (.int .i64 ic) := HI.out.cell rfl
 have i4 : w1.cell? ⟨w.heap.size + 1 + 1, 4, none⟩ = some (.int .i64 n) := HI.out.cell rfl
 have zi : w.heap.size + 1 + 1 < w1.heap.size := HI.out.lt
 have Hn : Hid (((n.toNat : Nat) : Int) = n) := by show _ = _; omega
 obtain ⟨xa, hxa⟩ : ∃ x, s a.toNat = x := ⟨_, rfl⟩
 obtain ⟨xb, hxb⟩ : ∃ x, s b.toNat = x := ⟨_, rfl⟩
 have Hx : Hid (s a.toNat = ⟨xa.b, xa.s⟩ ∧ s b.toNat = ⟨xb.b, xb.s⟩) := ⟨hxa, hxb⟩
 obtain ⟨xab, xas⟩ := xa
 obtain ⟨xbb, xbs⟩ := xb
 clear hxa hxb
 dsimp only at Hx
 have HX : Hid (KRow w1 g s ∧ Blk w1 (w.heap.size + 1) #[.bool true, .slice (some ⟨g, 0, none⟩) 8 c] 57) := HX0
 have s1 : w1.cell? ⟨w.heap.size + 1, 1, none⟩ = some (.slice (some ⟨g, 0, none⟩) 8 c) := HX.out.2.cell rfl
 have zs : w.heap.size + 1 < w1.heap.size := HX.out.2.lt
 have a0 : w1.cell? ⟨g, a.toNat * 2, none⟩ = some (.int .i64 xab) := by have := (HX.out.1 a.toNat (by omega)).1.1; rw [Hx.out.1] at this; exact this
 have a1 : w1.cell? ⟨g, a.toNat * 2 + 1, none⟩ = some (.bool xas) := by have := (HX.out.1 a.toNat (by omega)).1.2; rw [Hx.out.1] at this; exact this
 have b0 : w1.cell? ⟨g, b.toNat * 2, none⟩ = some (.int .i64 xbb) := by have := (HX.out.1 b.toNat (by omega)).1.1; rw [Hx.out.2] at this; exact this
 have b1 : w1.cell? ⟨g, b.toNat * 2 + 1, none⟩ = some (.bool xbs) := by have := (HX.out.1 b.toNat (by omega)).1.2; rw [Hx.out.2] at this; exact this
 have zg : g < w1.heap.size := J05 a0
 have zg1 : g < w1.heap.size + 1 := by omega
 have zs1 : w.heap.size + 1 < w1.heap.size + 1 := by omega
 have zi1 : w.heap.size + 1 + 1 < w1.heap.size + 1 := by omega
 have zi2 : w.heap.size + 1 + 1 < w1.heap.size + 1 + 1 := by omega
 have Hkw : Hid (KRow (w1.alloc (.cells #[.bool true, .slice (some ⟨g1, 0, none⟩) 8 c1] 57)) g1 s ∧ More w (w1.alloc (.cells #[.bool true, .slice (some ⟨g1, 0, none⟩) 8 c1] 57))) := ⟨HW1.out ▸ HK1.out, HW1.out ▸ HM.out⟩
 obtain ⟨WB, HWB⟩ : ∃ WB : World, Hid (WB = ((w1.alloc (.cells #[.bool true, .slice (some ⟨g1, 0, none⟩) 8 c1] 57)).alloc (.cells #[.int .i64 xab, .bool xas] 65)).alloc (.cells #[.int .i64 xbb, .bool xbs] 65)) := ⟨_, rfl⟩
 have HmB : Hid (More (w1.alloc (.cells #[.bool true, .slice (some ⟨g1, 0, none⟩) 8 c1] 57)) WB) := HWB.out ▸ ((More.refl _).alloc _ _).alloc _ _
 have HT8 : Hid (Blk WB w1.heap.size #[.bool true, .slice (some ⟨g1, 0, none⟩) 8 c1] 57) := (Blk.last w1 _ _).more HmB.out
 have HTA : Hid (Blk WB (w1.heap.size + 1) #[.int .i64 xab, .bool xas] 65) := by
  show Blk _ _ _ _
  rw [HWB.out]
  exact (by simpa using Blk.last (w1.alloc (.cells #[.bool true, .slice (some ⟨g1, 0, none⟩) 8 c1] 57)) #[.int .i64 xab, .bool xas] 65 : Blk ((w1.alloc (.cells #[.bool true, .slice (some ⟨g1, 0, none⟩) 8 c1] 57)).alloc (.cells #[.int .i64 xab, .bool xas] 65)) (w1.heap.size + 1) #[.int .i64 xab, .bool xas] 65).more ((More.refl _).alloc _ _)
 have HTB : Hid (Blk WB (w1.heap.size + 1 + 1) #[.int .i64 xbb, .bool xbs] 65) := by
  show Blk _ _ _ _
  rw [HWB.out]
  simpa using Blk.last ((w1.alloc (.cells #[.bool true, .slice (some ⟨g1, 0, none⟩) 8 c1] 57)).alloc (.cells #[.int .i64 xab, .bool xas] 65)) #[.int .i64 xbb, .bool xbs] 65
 have HIB : Hid (Blk WB (w.heap.size + 1 + 1) #[.int .i64 8, .int .i64 a, .int .i64 b, .int .i64 ic, .int .i64 n] 59) := HI.out.more (((More.refl _).alloc _ _).trans HmB.out)
 go_wp2_with (fail)
 rw [← HWB.out]
 refine (J4j true g1 c1 s a ⟨xab, xas⟩ ⟨xbb, xbs⟩ _ (Hkw.out.1.more HmB.out) ha0 ha1).mono ?_
 rintro e w2 ⟨gF, cF, rfl, hgF, hrF, m2⟩
 have HRF : Hid (KRow w2 gF (J1c ⟨8, a, b, ic, n⟩ s) ∧ w.heap.size ≤ gF) := ⟨by unfold J1c; dsimp only; rw [Hx.out.1, Hx.out.2]; exact hrF, by have := (Hkw.out.2.trans HmB.out).size; omega⟩
 have HM2 : Hid (More WB w2) := m2
 clear m2 hrF hgF i0 i1 i2 i3 i4 zi s1 zs a0 a1 b0 b1 zg zg1 zs1 zi1 zi2
 have r0 : w2.cell? ⟨w1.heap.size, 0, none⟩ = some (.bool true) := (HT8.out.more HM2.out).cell rfl
 have r1 : w2.cell? ⟨w1.heap.size, 1, none⟩ = some (.slice (some ⟨g1, 0, none⟩) 8 c1) := (HT8.out.more HM2.out).cell rfl
 have r2 : w2.cell? ⟨w1.heap.size + 1, 0, none⟩ = some (.int .i64 xab) := (HTA.out.more HM2.out).cell rfl
 have r3 : w2.cell? ⟨w1.heap.size + 1, 1, none⟩ = some (.bool xas) := (HTA.out.more HM2.out).cell rfl
 have r4 : w2.cell? ⟨w1.heap.size + 1 + 1, 0, none⟩ = some (.int .i64 xbb) := (HTB.out.more HM2.out).cell rfl
 have r5 : w2.cell? ⟨w1.heap.size + 1 + 1, 1, none⟩ = some (.bool xbs) := (HTB.out.more HM2.out).cell rfl
 have r6 : w2.cell? ⟨w.heap.size + 1 + 1, 2, none⟩ = some (.int .i64 b) := (HIB.out.more HM2.out).cell rfl
 have z0 := J05 r0
 have z2 := J05 r2
 have z4 := J05 r4
 have z6 := J05 r6
 dsimp only at z0 z2 z4 z6
 go_wp2_with (fail)
 refine (J4j true g1 c1 s b ⟨xbb, xbs⟩ ⟨xab, xas⟩ _ (((Hkw.out.1.more HmB.out).more HM2.out).more ((More.refl _).alloc _ _)) hb0 hb1).mono ?_
 rintro e w3 ⟨gS, cS, rfl, hgS, hrS, m3⟩
 have HM3 : Hid (More w2 w3) := ((More.refl _).alloc _ _).trans m3
 have HTF : Hid (Blk w3 w2.heap.size #[.bool true, .slice (some ⟨gF, 0, none⟩) 8 cF] 57) := (Blk.last w2 _ _).more m3
 have HRS : Hid (KRow w3 gS (J12 ⟨8, a, b, ic, n⟩ s) ∧ w.heap.size ≤ gS) := ⟨by unfold J12; dsimp only; rw [Hx.out.1, Hx.out.2]; exact hrS, by have h1 := (Hkw.out.2.trans HmB.out).size; have h2 := HM2.out.size; have h3 : (w2.alloc (.cells #[.bool true, .slice (some ⟨gF, 0, none⟩) 8 cF] 57)).heap.size ≤ gS := hgS; simp at h3; omega⟩
 clear m3 hrS hgS
 replace r0 := HM3.out.cell r0
 replace r1 := HM3.out.cell r1
 replace r2 := HM3.out.cell r2
 replace r3 := HM3.out.cell r3
 replace r4 := HM3.out.cell r4
 replace r5 := HM3.out.cell r5
 replace r6 := HM3.out.cell r6
 have r7 : w3.cell? ⟨w2.heap.size, 0, none⟩ = some (.bool true) := HTF.out.cell rfl
 have r8 : w3.cell? ⟨w2.heap.size, 1, none⟩ = some (.slice (some ⟨gF, 0, none⟩) 8 cF) := HTF.out.cell rfl
 have y0 := J05 r0
 have y2 := J05 r2
 have y4 := J05 r4
 have y6 := J05 r6
 have y7 := J05 r7
 dsimp only at y0 y2 y4 y6 y7
 go_wp2_with (fail)
 refine (J4j true gF cF (J1c ⟨8, a, b, ic, n⟩ s) b ⟨xbb, xbs⟩ ⟨xab, xas⟩ _ ((HRF.out.1.more HM3.out).more ((More.refl _).alloc _ _)) hb0 hb1).mono ?_
 rintro e w4 ⟨gB, cB, rfl, hgB, hrB, m4⟩
 have HM4 : Hid (More w3 w4) := ((More.refl _).alloc _ _).trans m4
 have HTS : Hid (Blk w4 w3.heap.size #[.bool true, .slice (some ⟨gS, 0, none⟩) 8 cS] 57) := (Blk.last w3 _ _).more m4
 have HRB : Hid (KRow w4 gB (bothK ⟨8, a, b, ic, n⟩ s) ∧ w.heap.size ≤ gB) := ⟨by unfold bothK; dsimp only; rw [Hx.out.1, Hx.out.2]; exact hrB, by have h1 := (Hkw.out.2.trans HmB.out).size; have h2 := HM2.out.size; have h4 := HM3.out.size; have h3 : (w3.alloc (.cells #[.bool true, .slice (some ⟨gS, 0, none⟩) 8 cS] 57)).heap.size ≤ gB := hgB; simp at h3; omega⟩
 clear m4 hrB hgB
 replace r0 := HM4.out.cell r0
 replace r1 := HM4.out.cell r1
 replace r7 := HM4.out.cell r7
 replace r8 := HM4.out.cell r8
 have r9 : w4.cell? ⟨w3.heap.size, 0, none⟩ = some (.bool true) := HTS.out.cell rfl
 have r10 : w4.cell? ⟨w3.heap.size, 1, none⟩ = some (.slice (some ⟨gS, 0, none⟩) 8 cS) := HTS.out.cell rfl
 have r11 : w4.cell? ⟨w.heap.size + 1 + 1, 3, none⟩ = some (.int .i64 ic) := (HIB.out.more ((HM2.out.trans HM3.out).trans HM4.out)).cell rfl
 have r12 : w4.cell? ⟨w.heap.size + 1 + 1, 4, none⟩ = some (.int .i64 n) := (HIB.out.more ((HM2.out.trans HM3.out).trans HM4.out)).cell rfl
 have x0 := J05 r0
 have x7 := J05 r7
 have x9 := J05 r9
 have x11 := J05 r11
 dsimp only at x0 x7 x9 x11
 have HmE : Hid (More w (w4.alloc (.cells #[.bool true, .slice (some ⟨gB, 0, none⟩) 8 cB] 57))) := (((((Hkw.out.2.trans HmB.out).trans HM2.out).trans HM3.out).trans HM4.out)).alloc _ _
 have K1 : Hid (KRow (w4.alloc (.cells #[.bool true, .slice (some ⟨gB, 0, none⟩) 8 cB] 57)) g1 s) := (((((Hkw.out.1.more HmB.out).more HM2.out).more HM3.out).more HM4.out)).more ((More.refl _).alloc _ _)
 have K2 : Hid (KRow (w4.alloc (.cells #[.bool true, .slice (some ⟨gB, 0, none⟩) 8 cB] 57)) gF (J1c ⟨8, a, b, ic, n⟩ s)) := ((HRF.out.1.more HM3.out).more HM4.out).more ((More.refl _).alloc _ _)
 have K3 : Hid (KRow (w4.alloc (.cells #[.bool true, .slice (some ⟨gB, 0, none⟩) 8 cB] 57)) gS (J12 ⟨8, a, b, ic, n⟩ s)) := (HRS.out.1.more HM4.out).more ((More.refl _).alloc _ _)
 have K4 : Hid (KRow (w4.alloc (.cells #[.bool true, .slice (some ⟨gB, 0, none⟩) 8 cB] 57)) gB (bothK ⟨8, a, b, ic, n⟩ s)) := HRB.out.1.more ((More.refl _).alloc _ _)
 rcases hic with rfl | rfl | rfl | rfl
 ·go_wp2
  exact hP.out _ _ (by have := LdAt.two (w := w4.alloc (.cells #[.bool true, .slice (some ⟨gB, 0, none⟩) 8 cB] 57)) (lo := w.heap.size) (to := n.toNat) (to' := at_ + 1) (c := cB) (c' := c1) (cap := 2) (b := w4.heap.size + 1) (by simp) K4.out (HRB.out.2) K1.out (by have := HG.out; omega); rw [Hn.out] at this; exact this) (HmE.out.alloc _ _)
 ·go_wp2
  exact hP.out _ _ (by have := LdAt.two (w := w4.alloc (.cells #[.bool true, .slice (some ⟨gB, 0, none⟩) 8 cB] 57)) (lo := w.heap.size) (to := n.toNat) (to' := at_ + 1) (c := c1) (c' := cB) (cap := 2) (b := w4.heap.size + 1) (by simp) K1.out (by have := HG.out; omega) K4.out (HRB.out.2); rw [Hn.out] at this; exact this) (HmE.out.alloc _ _)
 ·go_wp2
  exact hP.out _ _ (by have := LdAt.two (w := w4.alloc (.cells #[.bool true, .slice (some ⟨gB, 0, none⟩) 8 cB] 57)) (lo := w.heap.size) (to := n.toNat) (to' := at_ + 1) (c := cF) (c' := cS) (cap := 2) (b := w4.heap.size + 1) (by simp) K2.out (HRF.out.2) K3.out (HRS.out.2); rw [Hn.out] at this; exact this) (HmE.out.alloc _ _)
 ·go_wp2
  exact hP.out _ _ (by have := LdAt.two (w := w4.alloc (.cells #[.bool true, .slice (some ⟨gB, 0, none⟩) 8 cB] 57)) (lo := w.heap.size) (to := n.toNat) (to' := at_ + 1) (c := cS) (c' := cF) (cap := 2) (b := w4.heap.size + 1) (by simp) K3.out (HRS.out.2) K2.out (HRF.out.2); rw [Hn.out] at this; exact this) (HmE.out.alloc _ _)

set_option maxHeartbeats 2000000 in
theorem Jg1 (ra : Option Addr) (rb ro rl rc : Nat) (log : Nat → Int) (sec : Nat → Bool) (cb co cl cc at_ g c : Nat) (a b ic n : Int) (s : KS) (w : World) (hra : 0 < rl → ra = some ⟨rb, ro, none⟩) (hregs : RegsAt w rb ro rl log sec)
  (q0 : w.cell? ⟨cb, co + at_ * 5, none⟩ = some (.int .i64 11)) (q1 : w.cell? ⟨cb, co + at_ * 5 + 1, none⟩ = some (.int .i64 a)) (q2 : w.cell? ⟨cb, co + at_ * 5 + 2, none⟩ = some (.int .i64 b)) (q3 : w.cell? ⟨cb, co + at_ * 5 + 3, none⟩ = some (.int .i64 ic)) (q4 : w.cell? ⟨cb, co + at_ * 5 + 4, none⟩ = some (.int .i64 n))
  (hat : (at_ : Int) < cl) (hcl : (cl : Int) ≤ 200) (hk : KRow w g s) (ha0 : 0 ≤ a) (ha1 : a < 8) (n0 : 1 ≤ n) (n1 : n ≤ 64) :
  Calls Try.prog 24 #[.agg #[.slice ra rl rc, .slice (some ⟨cb, co, none⟩) cl cc], .int .i64 at_, st true g c] w fun e w' => ∃ v, e = .returned v ∧ LdAt w' w.heap.size v [(at_ + 1, setK s a (Kn.less (s a.toNat) (Kn.of (wrap64 (n - 1)))))] ∧ More w w' := by
 have Hk : Hid (KRow w g s) := hk
 have Hreg : Hid ((0 < rl → ra = some ⟨rb, ro, none⟩) ∧ RegsAt w rb ro rl log sec) := ⟨hra, hregs⟩
 have hat2 : (at_ : Int) + 1 ≤ 200 := by omega
 have hcb : cb < w.heap.size := J05 q0
 have hcb1 : cb < w.heap.size + 1 := by omega
 clear hk hra hregs
 suffices hP : ∀ P : Ending → World → Prop, (∀ v w', LdAt w' w.heap.size v [(at_ + 1, setK s a (Kn.less (s a.toNat) (Kn.of (wrap64 (n - 1)))))] → More w w' → P (.returned v) w') → Calls Try.prog 24 #[.agg #[.slice ra rl rc, .slice (some ⟨cb, co, none⟩) cl cc], .int .i64 at_, st true g c] w P from hP _ (fun v w' h1 h2 => ⟨v, rfl, h1, h2⟩)
 intro P hP0
 have hP : Hid (∀ v w', LdAt w' w.heap.size v [(at_ + 1, setK s a (Kn.less (s a.toNat) (Kn.of (wrap64 (n - 1)))))] → More w w' → P (.returned v) w') := hP0
 clear hP0
 unfold st
 go_enter Try.func24, Try.ntmps24
 go_wp2_with (fail)
 refine (J0o true g c s _ (Hk.out.more (((More.refl _).alloc _ _).alloc _ _ |>.alloc _ _))).mono ?_
 rintro e w1 ⟨g1, c1, rfl, hg1, hr1, m1⟩
 obtain ⟨W1, HW1⟩ : ∃ W1 : World, Hid (W1 = w1.alloc (.cells #[.bool true, .slice (some ⟨g1, 0, none⟩) 8 c1] 57)) := ⟨_, rfl⟩
 obtain ⟨HF, HK1, HM, HG, HA, HI⟩ := J1o (i := ⟨11, a, b, ic, n⟩) Hk.out Hreg.out.2 m1 hr1 hg1 HW1.out
 replace HF := J09 HF
 replace HK1 := J09 HK1
 replace HM := J09 HM
 replace HG := J09 HG
 replace HA := J09 HA
 replace HI := J09 HI
 clear m1 hr1 hg1 q0 q1 q2 q3 q4
 have i0 : w1.cell? ⟨w.heap.size + 1 + 1, 0, none⟩ = some (.int .i64 11) := HI.out.cell rfl
 have i1 : w1.cell? ⟨w.heap.size + 1 + 1, 1, none⟩ = some (.int .i64 a) := HI.out.cell rfl
 have i2 : w1.cell? ⟨w.heap.size + 1 + 1, 2, none⟩ = some (.int .i64 b) := HI.out.cell rfl
 have i3 : w1.cell? ⟨w.heap.size + 1 + 1, 3, none⟩ = some (.int .i64 ic) := HI.out.cell rfl
 have i4 : w1.cell? ⟨w.heap.size + 1 + 1, 4, none⟩ = some (.int .i64 n) := HI.out.cell rfl
 have zi : w.heap.size + 1 + 1 < w1.heap.size := HI.out.lt
 have hn1 : IntKind.i64.wrap (n - 1) = n - 1 := by rw [IntKind.wrap_i64]; omega
 have hn2 : wrap64 (n - 1) = n - 1 := by unfold wrap64; omega
 obtain ⟨ov, hov⟩ : ∃ v, Kn.of (n - 1) = v := ⟨_, rfl⟩
 have c0 : ∀ w : World, Calls Try.prog 50 #[.int .i64 (n - 1)] w fun e w' => e = .returned (kn ov.b ov.s) ∧ More w w' := fun w => hov ▸ J6o (n - 1) (by omega) (by omega) w
 obtain ⟨xa, hxa⟩ : ∃ x, s a.toNat = x := ⟨_, rfl⟩
 obtain ⟨v, hv⟩ : ∃ v, Kn.less xa ov = v := ⟨_, rfl⟩
 have c2 : ∀ w : World, Calls Try.prog 51 #[kn xa.b xa.s, kn ov.b ov.s] w fun e w' => e = .returned (kn v.b v.s) ∧ More w w' := fun w => hv ▸ J6n xa.b ov.b xa.s ov.s w
 have Hx : Hid ((⟨v.b, v.s⟩ : Kn) = Kn.less (s a.toNat) (Kn.of (wrap64 (n - 1)))) := by show _ = _; rw [hn2, hxa, hov]; exact hv.symm
 have Hxa : Hid (s a.toNat = ⟨xa.b, xa.s⟩) := hxa
 clear hv hxa hov hn2
 obtain ⟨vb, vs⟩ := v
 obtain ⟨xab, xas⟩ := xa
 obtain ⟨ob, os⟩ := ov
 unfold kn at c0 c2
 dsimp only at c0 c2 Hxa Hx
 go_wp2_with (fail)
 try rw [hn1]
 try rw [hn2]
 refine (c0 _).mono ?_
 rintro e w4 ⟨rfl, m4⟩
 have Hm4 : Hid (More W1 w4) := HW1.out ▸ m4
 clear m4 i0 i1 i2 i3 i4 zi
 obtain ⟨W4, HW4⟩ : ∃ W4 : World, Hid (W4 = w4.alloc (.cells #[.int .i64 ob, .bool os] 65)) := ⟨_, rfl⟩
 have HmW4 : Hid (More W1 W4) := HW4.out ▸ Hm4.out.alloc _ _
 have HO : Hid (Blk W4 w4.heap.size #[.int .i64 ob, .bool os] 65) := HW4.out ▸ Blk.last _ _ _
 have Hsz : Hid (w1.heap.size < w4.heap.size) := by show _ < _; have := Hm4.out.size; have := HG.out; omega
 obtain ⟨S, HS⟩ : ∃ S : World → Prop, Hid (∀ w', S w' ↔ (LFix w.heap.size g c g1 c1 w1.heap.size (.slice ra rl rc) (.slice (some ⟨cb, co, none⟩) cl cc) ⟨11, a, b, ic, n⟩ s rb ro rl log sec w' ∧ Blk w' w4.heap.size #[.int .i64 ob, .bool os] 65)) := ⟨_, fun _ => Iff.rfl⟩
 have HSm : Hid (∀ w', More W4 w' → S w') := fun w' m => (HS.out _).2 ⟨HF.out.more (HmW4.out.trans m), HO.out.more m⟩
 have HS0 : S W4.drew := HSm.out _ (More.refl _).drew
 have hne : Nonempty { w' // S w' } := ⟨⟨_, HS0⟩⟩
 have k1 : ∀ i : { w' // S w' }, i.val.cell? ⟨w.heap.size + 1 + 1, 1, none⟩ = some (.int .i64 a) := fun i => ((HS.out _).1 i.property).1.fi.cell rfl
 have k5 : ∀ i : { w' // S w' }, i.val.cell? ⟨w1.heap.size, 1, none⟩ = some (.slice (some ⟨g1, 0, none⟩) 8 c1) := fun i => ((HS.out _).1 i.property).1.ft.cell rfl
 have k6 : ∀ i : { w' // S w' }, i.val.cell? ⟨w.heap.size + 1, 1, none⟩ = some (.slice (some ⟨g, 0, none⟩) 8 c) := fun i => ((HS.out _).1 i.property).1.fs.cell rfl
 have k8 : ∀ i : { w' // S w' }, i.val.cell? ⟨w4.heap.size, 0, none⟩ = some (.int .i64 ob) := fun i => ((HS.out _).1 i.property).2.cell rfl
 have k9 : ∀ i : { w' // S w' }, i.val.cell? ⟨w4.heap.size, 1, none⟩ = some (.bool os) := fun i => ((HS.out _).1 i.property).2.cell rfl
 have ka0 : ∀ i : { w' // S w' }, i.val.cell? ⟨g, a.toNat * 2, none⟩ = some (.int .i64 xab) := fun i => by have := (((HS.out _).1 i.property).1.ks a.toNat (by omega)).1.1; rw [Hxa.out] at this; exact this
 have ka1 : ∀ i : { w' // S w' }, i.val.cell? ⟨g, a.toNat * 2 + 1, none⟩ = some (.bool xas) := fun i => by have := (((HS.out _).1 i.property).1.ks a.toNat (by omega)).1.2; rw [Hxa.out] at this; exact this
 go_wp2_with (fail)
 rw [← HW4.out]
 refine J01 (S := S) [(0, true), (1, true), (2, true), (3, true), (4, true), (5, true), (6, true), (7, true), (8, true), (9, true), (10, true), (11, false), (12, true), (13, false)] (by kernel_rfl) (by kernel_rfl) (by kernel_rfl) HS0 ?_
 iterate 11 (refine J00 rfl (by kernel_rfl) (fun K hK => ?_); go_simp; refine hK _ _ ?_; clear hK K)
 refine J02 rfl (by kernel_rfl) (fun K hK => ?_); go_simp
 refine (c2 _).mono ?_
 rintro e w2 ⟨rfl, m2⟩
 have Hm2 : Hid (More W4 w2) := (More.refl _).drew.trans m2
 have HS2 : S w2 := HSm.out _ Hm2.out
 clear m2
 go_simp
 refine hK _ _ HS2 ?_; clear hK K
 (refine J00 rfl (by kernel_rfl) (fun K hK => ?_); go_simp; refine hK _ _ ?_; clear hK K)
 have Hrow : Hid (KRow w2 g1 s) := HK1.out.more (HmW4.out.trans Hm2.out)
 have hr : a.toNat < 8 := by omega
 have q := Hrow.out a.toNat hr
 have q0 := q.1.1
 have q1 := q.1.2
 have q2 := q.2.1
 have q3 := q.2.2
 obtain ⟨w3, Hw3⟩ : ∃ w3, Hid (w3 = (w2.setCell ⟨g1, a.toNat * 2, none⟩ (.int .i64 vb)).setCell ⟨g1, a.toNat * 2 + 1, none⟩ (.bool vs)) := ⟨_, rfl⟩
 have Hrow3 : Hid (KRow w3 g1 (setK s a ⟨vb, vs⟩)) := Hw3.out ▸ Hrow.out.set a ⟨vb, vs⟩ hr
 have hg := HG.out
 have hA := HA.out
 have HF3 : Hid (LFix w.heap.size g c g1 c1 w1.heap.size (.slice ra rl rc) (.slice (some ⟨cb, co, none⟩) cl cc) ⟨11, a, b, ic, n⟩ s rb ro rl log sec w3) := Hw3.out ▸ ((HF.out.more (HmW4.out.trans Hm2.out)).set (by omega) (by omega) (by omega) (fun h0 => by have := hA.2 h0; omega) _ _).set (by omega) (by omega) (by omega) (fun h0 => by have := hA.2 h0; omega) _ _
 have Hm3 : Hid (More w w3) := Hw3.out ▸ ((((HM.out.trans HmW4.out).trans Hm2.out).setCell (by dsimp only; omega) _).setCell (by dsimp only; omega) _)
 have HS3 : S w3 := (HS.out _).2 ⟨HF3.out, Hw3.out ▸ ((HO.out.more Hm2.out).other (by have := Hsz.out; omega) _ _).other (by have := Hsz.out; omega) _ _⟩
 clear hg hA
 refine J02 rfl (by kernel_rfl) (fun K hK => ?_); go_simp
 rw [← Hw3.out]
 refine hK _ _ HS3 ?_; clear hK K
 refine J04 ?_
 clear k1 k5 k6 k8 k9 ka0 ka1 hne HS0 HS2 HS3 q q0 q1 q2 q3
 have t0 := HF3.out.ft.cell (j := 0) (v := .bool true) rfl
 have t1 := HF3.out.ft.cell (j := 1) (v := .slice (some ⟨g1, 0, none⟩) 8 c1) rfl
 go_wp2
 exact hP.out _ _ (LdAt.one rfl (Hx.out ▸ Hrow3.out) (by have := HG.out; omega)) (Hm3.out.alloc _ _)
end
section
open Go.RowKit
set_option linter.unusedSimpArgs false
set_option linter.unusedVariables false
theorem J6a (p : Prg) (l : Loc) (at_ g c : Nat) (s : KS) (w : World) (hp : PIn w p l) (hat : at_ < p.cl) (hcl : p.cl ≤ 200) (hi : InsOk p.rl p.log p.cl 8 (p.ins at_)) (n0 : -9223372036854775808 ≤ (p.ins at_).n) (n1 : (p.ins at_).n ≤ 9223372036854775807) (hk : KRow w g s) :
  Calls Try.prog 24 #[.agg #[.slice l.ra p.rl l.rc, .slice l.ca p.cl l.cc], .int .i64 at_, st true g c] w fun e w' => ∃ v, e = .returned v ∧ LdAt w' w.heap.size v (J0d p at_ s) ∧ More w w' := by
 obtain ⟨ra, rb, ro, rc, ca, cb, co, cc⟩ := l
 obtain rfl : ca = some ⟨cb, co, none⟩ := hp.hc (by omega)
 have q := hp.code at_ hat
 have hat' : (at_ : Int) < p.cl := by omega
 have hcl' : (p.cl : Int) ≤ 200 := by omega
 dsimp only at *
 by_cases h1 : (p.ins at_).op = 1
 ·have hI := hi
  unfold InsOk Reg Rgn Plc Wrd at hI
  simp [h1] at hI
  have e0 : J0d p at_ s = [(at_ + 1, setK s (p.ins at_).a (Kn.of (p.ins at_).n))] := by unfold J0d; simp [h1, nextK, yesK, noK, J1c, J12, bothK]
  rw [e0]
  rw [h1] at q
  exact Jik ra rb ro p.rl rc p.log p.sec cb co p.cl cc at_ g c (p.ins at_).a (p.ins at_).b (p.ins at_).c (p.ins at_).n s w hp.hr hp.regs (q.1) (q.2.1) (q.2.2.1) (q.2.2.2.1) (q.2.2.2.2) hat' hcl' hk (by omega) (by omega) n0 n1
 by_cases h2 : (p.ins at_).op = 2
 ·have hI := hi
  unfold InsOk Reg Rgn Plc Wrd at hI
  simp [h2] at hI
  have e0 : J0d p at_ s = [(at_ + 1, setK s (p.ins at_).a (s (p.ins at_).b.toNat))] := by unfold J0d; simp [h2, nextK, yesK, noK, J1c, J12, bothK]
  rw [e0]
  rw [h2] at q
  exact Jil ra rb ro p.rl rc p.log p.sec cb co p.cl cc at_ g c (p.ins at_).a (p.ins at_).b (p.ins at_).c (p.ins at_).n s w hp.hr hp.regs (q.1) (q.2.1) (q.2.2.1) (q.2.2.2.1) (q.2.2.2.2) hat' hcl' hk (by omega) (by omega) (by omega) (by omega)
 by_cases h3 : (p.ins at_).op = 3
 ·have hI := hi
  unfold InsOk Reg Rgn Plc Wrd at hI
  simp [h3] at hI
  have e0 : J0d p at_ s = [(at_ + 1, setK s (p.ins at_).a ⟨17, p.sec (p.ins at_).c.toNat⟩)] := by unfold J0d; simp [h3, nextK, yesK, noK, J1c, J12, bothK]
  rw [e0]
  rw [h3] at q
  exact Jim ra rb ro p.rl rc p.log p.sec cb co p.cl cc at_ g c (p.ins at_).a (p.ins at_).b (p.ins at_).c (p.ins at_).n s w hp.hr hp.regs (q.1) (q.2.1) (q.2.2.1) (q.2.2.2.1) (q.2.2.2.2) hat' hcl' hk (by omega) (by omega) (by omega) (by omega)
 by_cases h4 : (p.ins at_).op = 4
 ·have hI := hi
  unfold InsOk Reg Rgn Plc Wrd at hI
  simp [h4] at hI
  have e0 : J0d p at_ s = [(at_ + 1, s)] := by unfold J0d; simp [h4, nextK, yesK, noK, J1c, J12, bothK]
  rw [e0]
  rw [h4] at q
  exact Jin ra rb ro p.rl rc p.log p.sec cb co p.cl cc at_ g c (p.ins at_).a (p.ins at_).b (p.ins at_).c (p.ins at_).n s w hp.hr hp.regs (q.1) (q.2.1) (q.2.2.1) (q.2.2.2.1) (q.2.2.2.2) hat' hcl' hk
 by_cases h5 : (p.ins at_).op = 5
 ·have hI := hi
  unfold InsOk Reg Rgn Plc Wrd at hI
  simp [h5] at hI
  have e0 : J0d p at_ s = [(at_ + 1, setK s (p.ins at_).a ⟨17, p.sec (p.ins at_).c.toNat⟩)] := by unfold J0d; simp [h5, nextK, yesK, noK, J1c, J12, bothK]
  rw [e0]
  rw [h5] at q
  exact Jio ra rb ro p.rl rc p.log p.sec cb co p.cl cc at_ g c (p.ins at_).a (p.ins at_).b (p.ins at_).c (p.ins at_).n s w hp.hr hp.regs (q.1) (q.2.1) (q.2.2.1) (q.2.2.2.1) (q.2.2.2.2) hat' hcl' hk (by omega) (by omega) (by omega) (by omega)
 by_cases h6 : (p.ins at_).op = 6
 ·have hI := hi
  unfold InsOk Reg Rgn Plc Wrd at hI
  simp [h6] at hI
  have e0 : J0d p at_ s = [(at_ + 1, s)] := by unfold J0d; simp [h6, nextK, yesK, noK, J1c, J12, bothK]
  rw [e0]
  rw [h6] at q
  exact Jip ra rb ro p.rl rc p.log p.sec cb co p.cl cc at_ g c (p.ins at_).a (p.ins at_).b (p.ins at_).c (p.ins at_).n s w hp.hr hp.regs (q.1) (q.2.1) (q.2.2.1) (q.2.2.2.1) (q.2.2.2.2) hat' hcl' hk
 by_cases h7 : (p.ins at_).op = 7
 ·have hI := hi
  unfold InsOk Reg Rgn Plc Wrd at hI
  simp [h7] at hI
  have e0 : J0d p at_ s = [((p.ins at_).n.toNat, s)] := by unfold J0d; simp [h7, nextK, yesK, noK, J1c, J12, bothK]
  rw [e0]
  rw [h7] at q
  exact Jiq ra rb ro p.rl rc p.log p.sec cb co p.cl cc at_ g c (p.ins at_).a (p.ins at_).b (p.ins at_).c (p.ins at_).n s w hp.hr hp.regs (q.1) (q.2.1) (q.2.2.1) (q.2.2.2.1) (q.2.2.2.2) hat' hcl' hk (by omega) (by omega)
 by_cases h8 : (p.ins at_).op = 8
 ·have hI := hi
  unfold InsOk Reg Rgn Plc Wrd at hI
  simp [h8] at hI
  have e0 : J0d p at_ s = [((p.ins at_).n.toNat, yesK ⟨8, (p.ins at_).a, (p.ins at_).b, (p.ins at_).c, (p.ins at_).n⟩ s), (at_ + 1, noK ⟨8, (p.ins at_).a, (p.ins at_).b, (p.ins at_).c, (p.ins at_).n⟩ s)] := by unfold J0d; simp [h8, nextK, yesK, noK, J1c, J12, bothK]
  rw [e0]
  rw [h8] at q
  exact Jir ra rb ro p.rl rc p.log p.sec cb co p.cl cc at_ g c (p.ins at_).a (p.ins at_).b (p.ins at_).c (p.ins at_).n s w hp.hr hp.regs (q.1) (q.2.1) (q.2.2.1) (q.2.2.2.1) (q.2.2.2.2) hat' hcl' hk (by omega) (by omega) (by omega) (by omega) (by omega) (by omega) (by omega)
 by_cases h9 : (p.ins at_).op = 9
 ·have hI := hi
  unfold InsOk Reg Rgn Plc Wrd at hI
  simp [h9] at hI
  have e0 : J0d p at_ s = [] := by unfold J0d; simp [h9, nextK, yesK, noK, J1c, J12, bothK]
  rw [e0]
  rw [h9] at q
  exact Jis ra rb ro p.rl rc p.log p.sec cb co p.cl cc at_ g c (p.ins at_).a (p.ins at_).b (p.ins at_).c (p.ins at_).n s w hp.hr hp.regs (q.1) (q.2.1) (q.2.2.1) (q.2.2.2.1) (q.2.2.2.2) hat' hcl' hk
 by_cases h10 : (p.ins at_).op = 10
 ·have hI := hi
  unfold InsOk Reg Rgn Plc Wrd at hI
  simp [h10] at hI
  have e0 : J0d p at_ s = [(at_ + 1, setK s (p.ins at_).a (Kn.index (s (p.ins at_).b.toNat) (p.ins at_).n))] := by unfold J0d; simp [h10, nextK, yesK, noK, J1c, J12, bothK]
  rw [e0]
  rw [h10] at q
  exact Jg0 ra rb ro p.rl rc p.log p.sec cb co p.cl cc at_ g c (p.ins at_).a (p.ins at_).b (p.ins at_).c (p.ins at_).n s w hp.hr hp.regs (q.1) (q.2.1) (q.2.2.1) (q.2.2.2.1) (q.2.2.2.2) hat' hcl' hk (by omega) (by omega) (by omega) (by omega) n0 n1
 by_cases h11 : (p.ins at_).op = 11
 ·have hI := hi
  unfold InsOk Reg Rgn Plc Wrd at hI
  simp [h11] at hI
  have e0 : J0d p at_ s = [(at_ + 1, setK s (p.ins at_).a (Kn.less (s (p.ins at_).a.toNat) (Kn.of (wrap64 ((p.ins at_).n - 1)))))] := by unfold J0d; simp [h11, nextK, yesK, noK, J1c, J12, bothK]
  rw [e0]
  rw [h11] at q
  exact Jg1 ra rb ro p.rl rc p.log p.sec cb co p.cl cc at_ g c (p.ins at_).a (p.ins at_).b (p.ins at_).c (p.ins at_).n s w hp.hr hp.regs (q.1) (q.2.1) (q.2.2.1) (q.2.2.2.1) (q.2.2.2.2) hat' hcl' hk (by omega) (by omega) (by omega) (by omega)
 by_cases h12 : (p.ins at_).op = 12
 ·have hI := hi
  unfold InsOk Reg Rgn Plc Wrd at hI
  simp [h12] at hI
  have e0 : J0d p at_ s = [(at_ + 1, s)] := by unfold J0d; simp [h12, nextK, yesK, noK, J1c, J12, bothK]
  rw [e0]
  rw [h12] at q
  exact Jg2 ra rb ro p.rl rc p.log p.sec cb co p.cl cc at_ g c (p.ins at_).a (p.ins at_).b (p.ins at_).c (p.ins at_).n s w hp.hr hp.regs (q.1) (q.2.1) (q.2.2.1) (q.2.2.2.1) (q.2.2.2.2) hat' hcl' hk
 ·have hI := hi
  unfold InsOk Reg at hI
  rw [if_neg h1, if_neg h2, if_neg h3, if_neg h4, if_neg h5, if_neg h6, if_neg h7, if_neg h8, if_neg h9, if_neg h10, if_neg h11, if_neg h12] at hI
  have e0 : J0d p at_ s = [(at_ + 1, setK s (p.ins at_).a (Kn.op ((p.ins at_).op - 20) (s (p.ins at_).b.toNat) (s (p.ins at_).c.toNat)))] := by unfold J0d; simp [h1, h2, h3, h4, h5, h6, h7, h8, h9, h10, h11, h12, nextK]
  rw [e0]
  exact Jg3 ra rb ro p.rl rc p.log p.sec cb co p.cl cc at_ g c (p.ins at_).op (p.ins at_).a (p.ins at_).b (p.ins at_).c (p.ins at_).n s w hp.hr hp.regs (q.1) (q.2.1) (q.2.2.1) (q.2.2.2.1) (q.2.2.2.2) hat' hcl' hk (by omega) (by omega) (by omega) (by omega) (by omega) (by omega) (by omega) (by omega)
end
section
open Go.RowKit
set_option linter.unusedSimpArgs false
set_option linter.unusedVariables false
set_option maxRecDepth 8000
theorem Jef (g c : Nat) (w : World) :
  Calls Try.prog 47 #[st true g c, .agg #[.bool false, .slice none 0 0]] w fun e w' => e = .returned (.bool false) ∧ More w w' := by
 unfold st
 go_enter Try.func47, Try.ntmps47
 go_wp2
 go_ret
 exact ⟨rfl, ((More.refl _).alloc _ _).alloc _ _⟩

set_option maxHeartbeats 1000000 in
theorem Jeg (ga ca gb cb : Nat) (sa sb : KS) (w : World) (ha : KRow w ga sa) (hb : KRow w gb sb) :
  Calls Try.prog 47 #[st true ga ca, st true gb cb] w (Says (∀ j, j < 8 → sa j = sb j) w) := by
 have Ha : Hid (KRow w ga sa) := ha
 have Hb : Hid (KRow w gb sb) := hb
 obtain ⟨P, HP⟩ : ∃ P : Prop, Hid (P ↔ ∀ j, j < 8 → sa j = sb j) := ⟨∀ j, j < 8 → sa j = sb j, (Iff.rfl : _ ↔ _)⟩
 rw [← propext HP.out]
 clear ha hb
 unfold st
 obtain ⟨W, HW⟩ : ∃ W : World, Hid (W = (w.alloc (.cells #[.bool true, .slice (some ⟨ga, 0, none⟩) 8 ca] 57)).alloc (.cells #[.bool true, .slice (some ⟨gb, 0, none⟩) 8 cb] 57)) := ⟨_, rfl⟩
 have HmW : Hid (More w W) := HW.out ▸ ((More.refl _).alloc _ _).alloc _ _
 have HA : Hid (Blk W w.heap.size #[.bool true, .slice (some ⟨ga, 0, none⟩) 8 ca] 57) := HW.out ▸ (Blk.last _ _ _).more ((More.refl _).alloc _ _)
 have HB : Hid (Blk W (w.heap.size + 1) #[.bool true, .slice (some ⟨gb, 0, none⟩) 8 cb] 57) := by
  show Blk _ _ _ _
  rw [HW.out]
  simpa using Blk.last (w.alloc (.cells #[.bool true, .slice (some ⟨ga, 0, none⟩) 8 ca] 57)) #[.bool true, .slice (some ⟨gb, 0, none⟩) 8 cb] 57
 go_enter Try.func47, Try.ntmps47
 go_wp2_with (fail)
 rw [← HW.out]
 go_loopg [5] 8 (fun g iv wr => ∃ k : Nat, k + g = 8 ∧ iv = .int .i64 k ∧ Hid ((∀ j, j < k → sa j = sb j) ∧ More W wr))
 case atStart => exact ⟨0, by omega, rfl, fun j hj => absurd hj (Nat.not_lt_zero _), More.refl _⟩
 case round =>
  obtain ⟨k, hkg, rfl, Hr⟩ := hrel
  have a1 : wr.cell? ⟨w.heap.size, 1, none⟩ = some (.slice (some ⟨ga, 0, none⟩) 8 ca) := (HA.out.more Hr.out.2).cell rfl
  have b1 : wr.cell? ⟨w.heap.size + 1, 1, none⟩ = some (.slice (some ⟨gb, 0, none⟩) 8 cb) := (HB.out.more Hr.out.2).cell rfl
  cases gk with
  | zero =>
   obtain rfl : k = 8 := by omega
   go_wp2
   go_ret
   exact Says.yes (HP.out.2 Hr.out.1) (HmW.out.trans Hr.out.2)
  | succ g =>
   have hk8 : k < 8 := by omega
   have hki : (k : Int) < 8 := by omega
   obtain ⟨S, HS⟩ : ∃ S : World → Prop, Hid (∀ w', S w' ↔ More W w') := ⟨_, fun _ => Iff.rfl⟩
   have HS0 : S wr.drew := (HS.out _).2 Hr.out.2.drew
   have hne : Nonempty { w' // S w' } := ⟨⟨_, HS0⟩⟩
   have k0 : ∀ i : { w' // S w' }, i.val.cell? ⟨w.heap.size, 1, none⟩ = some (.slice (some ⟨ga, 0, none⟩) 8 ca) := fun i => (HA.out.more ((HS.out _).1 i.property)).cell rfl
   have k1 : ∀ i : { w' // S w' }, i.val.cell? ⟨w.heap.size + 1, 1, none⟩ = some (.slice (some ⟨gb, 0, none⟩) 8 cb) := fun i => (HB.out.more ((HS.out _).1 i.property)).cell rfl
   obtain ⟨xa, hxa⟩ : ∃ x, sa k = x := ⟨_, rfl⟩
   obtain ⟨xb, hxb⟩ : ∃ x, sb k = x := ⟨_, rfl⟩
   have k3 : ∀ i : { w' // S w' }, i.val.cell? ⟨ga, k * 2, none⟩ = some (.int .i64 xa.b) := fun i => hxa ▸ ((Ha.out.more (HmW.out.trans ((HS.out _).1 i.property))) k hk8).1.1
   have k4 : ∀ i : { w' // S w' }, i.val.cell? ⟨ga, k * 2 + 1, none⟩ = some (.bool xa.s) := fun i => hxa ▸ ((Ha.out.more (HmW.out.trans ((HS.out _).1 i.property))) k hk8).1.2
   have k5 : ∀ i : { w' // S w' }, i.val.cell? ⟨gb, k * 2, none⟩ = some (.int .i64 xb.b) := fun i => hxb ▸ ((Hb.out.more (HmW.out.trans ((HS.out _).1 i.property))) k hk8).1.1
   have k6 : ∀ i : { w' // S w' }, i.val.cell? ⟨gb, k * 2 + 1, none⟩ = some (.bool xb.s) := fun i => hxb ▸ ((Hb.out.more (HmW.out.trans ((HS.out _).1 i.property))) k hk8).1.2
   have Hx : Hid (sa k = xa ∧ sb k = xb) := ⟨hxa, hxb⟩
   clear hxa hxb
   obtain ⟨xab, xas⟩ := xa
   obtain ⟨xbb, xbs⟩ := xb
   dsimp only at k3 k4 k5 k6
   go_wp2_with (fail)
   clear a1 b1
   refine J01 (S := S) [(0, true), (1, true), (2, true), (3, true), (4, true), (5, true), (6, true), (7, true), (8, true), (9, true), (10, true)] (by kernel_rfl) (by kernel_rfl) (by kernel_rfl) HS0 ?_
   iterate 10 (refine J00 rfl (by kernel_rfl) (fun K hK => ?_); go_simp; refine hK _ _ ?_; clear hK K)
   refine J00 rfl (by kernel_rfl) (fun K hK => ?_); go_simp
   by_cases e : xab = xbb ∧ xas = xbs
   ·refine ⟨.bool false, fun a _ => by rw [if_pos e.1, if_pos e.2], ?_⟩
    refine hK _ _ ?_
    clear hK K
    refine J04 ?_
    have He : Hid (sa k = sb k) := by show _ = _; rw [Hx.out.1, Hx.out.2, e.1, e.2]
    clear k0 k1 k3 k4 k5 k6 hne HS0 e
    go_wp2
    go_roundg g
    case measure => omega
    case rel =>
     refine ⟨k + 1, by omega, by first | rfl | simp, fun j hj => ?_, Hr.out.2.drew⟩
     by_cases q : j = k
     ·subst q; exact He.out
     ·exact Hr.out.1 j (by omega)
   ·refine ⟨.bool true, fun a _ => by
     by_cases e1 : xab = xbb
     ·rw [if_pos e1, if_neg (fun e2 => e ⟨e1, e2⟩)]
     ·rw [if_neg e1], ?_⟩
    refine hK _ _ ?_
    clear hK K
    refine J04 ?_
    have He : Hid (¬ sa k = sb k) := by
     show ¬ _
     rw [Hx.out.1, Hx.out.2]
     intro q
     injection q with q1 q2
     exact e ⟨q1, q2⟩
    clear k0 k1 k3 k4 k5 k6 hne HS0 e
    go_wp2
    go_ret
    exact Says.no (fun q => He.out (HP.out.1 q k hk8)) (HmW.out.trans Hr.out.2.drew)
end
section
open Go.RowKit
set_option linter.unusedVariables false
def CAt (w : World) (lb at_ : Nat) (o : Option KS) : Prop := match o with
 | none => w.cell? ⟨lb, at_ * 2, none⟩ = some (.bool false) ∧ w.cell? ⟨lb, at_ * 2 + 1, none⟩ = some (.slice none 0 0)
 | some s => ∃ g c, w.cell? ⟨lb, at_ * 2, none⟩ = some (.bool true) ∧ w.cell? ⟨lb, at_ * 2 + 1, none⟩ = some (.slice (some ⟨g, 0, none⟩) 8 c) ∧ KRow w g s ∧ g ≠ lb

structure VAt (w : World) (lb cl : Nat) (l : KV) : Prop where
 at_ : ∀ k, k < cl → CAt w lb k (l k)
 fr : ∀ j, w.frozen? ⟨lb, j, none⟩ = false

theorem CAt.more {w w' : World} (m : More w w') {lb k : Nat} {o : Option KS} (h : CAt w lb k o) : CAt w' lb k o := by
 cases o with
 | none => exact ⟨m.cell h.1, m.cell h.2⟩
 | some s =>
  obtain ⟨g, c, h1, h2, h3, h4⟩ := h
  exact ⟨g, c, m.cell h1, m.cell h2, h3.more m, h4⟩
theorem CAt.lt {w : World} {lb k : Nat} {o : Option KS} (h : CAt w lb k o) : lb < w.heap.size := by
 cases o with
 | none => exact J05 h.1
 | some s =>
  obtain ⟨g, c, h1, _⟩ := h
  exact J05 h1
theorem VAt.more {w w' : World} (m : More w w') {lb cl : Nat} {l : KV} (h0 : 0 < cl) (h : VAt w lb cl l) : VAt w' lb cl l :=
 ⟨fun k hk => (h.at_ k hk).more m, fun j => (World.frozen?_of_block (m.block lb (h.at_ 0 h0).lt)).trans (h.fr j)⟩
theorem CAt.come {w : World} {lb k : Nat} {o : Option KS} (h : CAt w lb k o) : ∃ b : Bool, w.cell? ⟨lb, k * 2, none⟩ = some (.bool b) ∧ (b = true ↔ o ≠ none) := by
 cases o with
 | none => exact ⟨false, h.1, by simp⟩
 | some s =>
  obtain ⟨g, c, h1, _⟩ := h
  exact ⟨true, h1, by simp⟩

theorem VAt.put {w : World} {lb cl : Nat} {l : KV} (h : VAt w lb cl l) {n g c : Nat} (hn : n < cl) {s : KS} (hg : KRow w g s) (hne : g ≠ lb) :
  VAt ((w.setCell ⟨lb, n * 2, none⟩ (.bool true)).setCell ⟨lb, n * 2 + 1, none⟩ (.slice (some ⟨g, 0, none⟩) 8 c)) lb cl (putV l n s) := by
 refine ⟨fun k hk => ?_, fun j => by rw [World.frozen?_setCell, World.frozen?_setCell]; exact h.fr j⟩
 have old := h.at_ n hn
 have e0 : ∃ v, w.cell? ⟨lb, n * 2, none⟩ = some v := by
  obtain ⟨b, hb, _⟩ := old.come
  exact ⟨_, hb⟩
 have e1 : ∃ v, w.cell? ⟨lb, n * 2 + 1, none⟩ = some v := by
  cases e : l n with
  | none => rw [e] at old; exact ⟨_, old.2⟩
  | some s1 => rw [e] at old; obtain ⟨_, _, _, h2, _⟩ := old; exact ⟨_, h2⟩
 obtain ⟨v0, e0⟩ := e0
 obtain ⟨v1, e1⟩ := e1
 have oth : ∀ k', k' ≠ n → ∀ j, j < 2 → ((w.setCell ⟨lb, n * 2, none⟩ (.bool true)).setCell ⟨lb, n * 2 + 1, none⟩ (.slice (some ⟨g, 0, none⟩) 8 c)).cell? ⟨lb, k' * 2 + j, none⟩ = w.cell? ⟨lb, k' * 2 + j, none⟩ := fun k' hk' j hj => by
  rw [World.cell?_setCell_other _ _ _ _ (by intro e'; simp only [Addr.mk.injEq] at e'; omega), World.cell?_setCell_other _ _ _ _ (by intro e'; simp only [Addr.mk.injEq] at e'; omega)]
 by_cases e : k = n
 ·subst e
  rw [J18]
  refine ⟨g, c, ?_, ?_, (hg.other (fun q => hne q.symm) _ _).other (fun q => hne q.symm) _ _, hne⟩
  ·rw [World.cell?_setCell_other _ _ _ _ (by simp)]
   exact World.cell?_setCell_same _ _ _ e0
  ·have q : (w.setCell ⟨lb, k * 2, none⟩ (.bool true)).cell? ⟨lb, k * 2 + 1, none⟩ = some v1 := by
    rw [World.cell?_setCell_other _ _ _ _ (by simp)]; exact e1
   exact World.cell?_setCell_same _ _ _ q
 ·rw [J16 _ e]
  have hk' := h.at_ k hk
  cases eo : l k with
  | none =>
   rw [eo] at hk'
   exact ⟨(oth k e 0 (by omega)).trans hk'.1, (oth k e 1 (by omega)).trans hk'.2⟩
  | some s1 =>
   rw [eo] at hk'
   obtain ⟨g1, c1, h1, h2, h3, h4⟩ := hk'
   exact ⟨g1, c1, (oth k e 0 (by omega)).trans h1, (oth k e 1 (by omega)).trans h2, (h3.other (fun q => h4 q.symm) _ _).other (fun q => h4 q.symm) _ _, h4⟩
end
end Go.Proofs.Ytmpafeoileonjaa
