/-
  The texts KnRefC, KnRefOp, CkLess, CkJoin, CkLead, CkLeadA, CkLeadB, CkLeadC, CkLeadD, CkLeads, CkSame, CkVec, one behind the other, with what is used of them.
-/
import Derived.Test.YtapagihngaiebaaGreatJoined4
import Derived.Test.YtapagihngaiebaaGreatJoined1
namespace Go.Proofs.YtapagihngaiebaaGreat
set_option maxHeartbeats 4000000
section
open Go.RowKit
set_option linter.unusedVariables false
theorem rop_8 (a b x y g l : Int) (sa sb : Bool) (c1 : (∀ w : World, Calls Tryz.prog 46 #[kn a sa] w fun e w' => e = .returned (kn x sa) /\ w' = (w.alloc (.cells #[V x, .bool sa] 56)).alloc (.cells #[V x, .bool sa] 56))) (c2 : (∀ w : World, Calls Tryz.prog 46 #[kn b sb] w fun e w' => e = .returned (kn y sb) /\ w' = (w.alloc (.cells #[V y, .bool sb] 56)).alloc (.cells #[V y, .bool sb] 56))) (lt : Bool) (hlt : decide (x < y) = lt) (hg : g = bif lt then y else x) (hl : l = bif lt then x else y) (w : World) :
  Calls Tryz.prog 31 #[V 8, kn a sa, kn b sb] w fun e w' => e = .returned (kn (x) (sa || sb)) /\ More w w' := by
 unfold kn at *;cases lt <;> cases sa
 all_goals
  simp only [cond_true, cond_false] at hg hl;subst hg hl;go_enter Tryz.func31, Tryz.ntmps31;go_wp2_with (fail)
  refine (c1 _).mono ?_;rintro e w1 ⟨rfl, rfl⟩;go_wp2_with (fail)
  refine (c2 _).mono ?_;rintro e w1 ⟨rfl, rfl⟩;go_wp2;exact bodyPost_ret (by simp [results, Tryz.results31, go_sem]) rfl ⟨rfl, (((((((((More.refl _).alloc _ _).alloc _ _).alloc _ _).alloc _ _).alloc _ _).alloc _ _).alloc _ _).alloc _ _)⟩

theorem rop_9 (a b x y g l : Int) (sa sb : Bool) (c1 : (∀ w : World, Calls Tryz.prog 46 #[kn a sa] w fun e w' => e = .returned (kn x sa) /\ w' = (w.alloc (.cells #[V x, .bool sa] 56)).alloc (.cells #[V x, .bool sa] 56))) (c2 : (∀ w : World, Calls Tryz.prog 46 #[kn b sb] w fun e w' => e = .returned (kn y sb) /\ w' = (w.alloc (.cells #[V y, .bool sb] 56)).alloc (.cells #[V y, .bool sb] 56))) (lt : Bool) (hlt : decide (x < y) = lt) (hg : g = bif lt then y else x) (hl : l = bif lt then x else y) (w : World) :
  Calls Tryz.prog 31 #[V 9, kn a sa, kn b sb] w fun e w' => e = .returned (kn (x) (sa || sb)) /\ More w w' := by
 unfold kn at *;cases lt <;> cases sa
 all_goals
  simp only [cond_true, cond_false] at hg hl;subst hg hl;go_enter Tryz.func31, Tryz.ntmps31;go_wp2_with (fail)
  refine (c1 _).mono ?_;rintro e w1 ⟨rfl, rfl⟩;go_wp2_with (fail)
  refine (c2 _).mono ?_;rintro e w1 ⟨rfl, rfl⟩;go_wp2;exact bodyPost_ret (by simp [results, Tryz.results31, go_sem]) rfl ⟨rfl, (((((((((More.refl _).alloc _ _).alloc _ _).alloc _ _).alloc _ _).alloc _ _).alloc _ _).alloc _ _).alloc _ _)⟩

theorem Jmq (a b x y g l : Int) (sa sb : Bool) (c1 : (∀ w : World, Calls Tryz.prog 46 #[kn a sa] w fun e w' => e = .returned (kn x sa) /\ w' = (w.alloc (.cells #[V x, .bool sa] 56)).alloc (.cells #[V x, .bool sa] 56))) (c2 : (∀ w : World, Calls Tryz.prog 46 #[kn b sb] w fun e w' => e = .returned (kn y sb) /\ w' = (w.alloc (.cells #[V y, .bool sb] 56)).alloc (.cells #[V y, .bool sb] 56))) (lt : Bool) (hlt : decide (x < y) = lt) (hg : g = bif lt then y else x) (hl : l = bif lt then x else y) (w : World) :
  Calls Tryz.prog 31 #[V 10, kn a sa, kn b sb] w fun e w' => e = .returned (kn (x) (sa || sb)) /\ More w w' := by
 unfold kn at *;cases lt <;> cases sa
 all_goals
  simp only [cond_true, cond_false] at hg hl;subst hg hl;go_enter Tryz.func31, Tryz.ntmps31;go_wp2_with (fail)
  refine (c1 _).mono ?_;rintro e w1 ⟨rfl, rfl⟩;go_wp2_with (fail)
  refine (c2 _).mono ?_;rintro e w1 ⟨rfl, rfl⟩;go_wp2;exact bodyPost_ret (by simp [results, Tryz.results31, go_sem]) rfl ⟨rfl, (((((((((More.refl _).alloc _ _).alloc _ _).alloc _ _).alloc _ _).alloc _ _).alloc _ _).alloc _ _).alloc _ _)⟩

theorem Jfr (a b x y g l : Int) (sa sb : Bool) (c1 : (∀ w : World, Calls Tryz.prog 46 #[kn a sa] w fun e w' => e = .returned (kn x sa) /\ w' = (w.alloc (.cells #[V x, .bool sa] 56)).alloc (.cells #[V x, .bool sa] 56))) (c2 : (∀ w : World, Calls Tryz.prog 46 #[kn b sb] w fun e w' => e = .returned (kn y sb) /\ w' = (w.alloc (.cells #[V y, .bool sb] 56)).alloc (.cells #[V y, .bool sb] 56))) (lt : Bool) (hlt : decide (x < y) = lt) (hg : g = bif lt then y else x) (hl : l = bif lt then x else y) (op : Int) (h1 : ¬ op = 1) (h3 : ¬ op = 3) (h4 : ¬ op = 4) (h5 : ¬ op = 5) (h6 : ¬ op = 6) (h8 : ¬ op = 8) (h9 : ¬ op = 9) (h10 : ¬ op = 10) (w : World) :
  Calls Tryz.prog 31 #[V op, kn a sa, kn b sb] w fun e w' => e = .returned (kn (17) (sa || sb)) /\ More w w' := by
 unfold kn at *;have e1 : (op == 1) = false := by simp [h1]
 have e3 : (op == 3) = false := by simp [h3]
 have e4 : (op == 4) = false := by simp [h4]
 have e5 : (op == 5) = false := by simp [h5]
 have e6 : (op == 6) = false := by simp [h6]
 have e8 : (op == 8) = false := by simp [h8]
 have e9 : (op == 9) = false := by simp [h9]
 have e10 : (op == 10) = false := by simp [h10]
 clear h1 h3 h4 h5 h6 h8 h9 h10;cases lt <;> cases sa
 all_goals
  simp only [cond_true, cond_false] at hg hl;subst hg hl;go_enter Tryz.func31, Tryz.ntmps31;go_wp2_with (fail)
  refine (c1 _).mono ?_;rintro e w1 ⟨rfl, rfl⟩;go_wp2_with (fail)
  refine (c2 _).mono ?_;rintro e w1 ⟨rfl, rfl⟩;go_wp2;exact bodyPost_ret (by simp [results, Tryz.results31, go_sem]) rfl ⟨rfl, (((((((((More.refl _).alloc _ _).alloc _ _).alloc _ _).alloc _ _).alloc _ _).alloc _ _).alloc _ _).alloc _ _)⟩
theorem Ja0 (op a b : Int) (sa sb : Bool) (w : World) :
  Calls Tryz.prog 31 #[V op, kn a sa, kn b sb] w fun e w' => e = .returned (kn (opB op (bnd a) (bnd b)) (sa || sb)) /\ More w w' := by
 have ra := J0j a;have rb := J0j b;have c1 := J24 a sa;have c2 := J24 b sb;generalize bnd a = x at *;generalize bnd b = y at *;have hg : max x y = bif decide (x < y) then y else x := by by_cases h : x < y <;> simp [h] <;> omega
 have hl : min x y = bif decide (x < y) then x else y := by by_cases h : x < y <;> simp [h] <;> omega
 by_cases q1 : op = 1
 ·subst q1
  by_cases hz : x = 0 \/ y = 0
  ·rw [show opB 1 x y = max x y by simp [opB, hz]]
   exact Jmr a b x y _ _ sa sb c1 c2 _ rfl hg hl (by omega) (by omega) (by omega) (by omega) _ (fun w => J4d _ (by omega) w) (by rw [beq_iff_eq]; omega) w
  ·rw [show opB 1 x y = bnd (max x y + 1) by simp [opB, hz]]
   exact rop_1 a b x y _ _ sa sb c1 c2 _ rfl hg hl (by omega) (by omega) (by omega) (by omega) _ (fun w => J4d _ (by omega) w) (by rw [beq_eq_false_iff_ne]; omega) w
 by_cases q3 : op = 3
 ·subst q3
  by_cases hz : x = 0 \/ y = 0
  ·rw [show opB 3 x y = 0 by simp [opB, hz]]
   exact Jms a b x y _ _ sa sb c1 c2 _ rfl hg hl (by omega) (by omega) (by omega) (by omega) _ (fun w => J4d _ (by omega) w) (by rw [beq_iff_eq]; omega) w
  ·rw [show opB 3 x y = bnd (max x y + min x y) by rw [show max x y + min x y = x + y by omega]; simp [opB, hz]]
   exact rop_3 a b x y _ _ sa sb c1 c2 _ rfl hg hl (by omega) (by omega) (by omega) (by omega) _ (fun w => J4d _ (by omega) w) (by rw [beq_eq_false_iff_ne]; omega) w
 by_cases q4 : op = 4
 ·subst q4; exact rop_4 a b x y _ _ sa sb c1 c2 _ rfl hg hl w
 by_cases q5 : op = 5
 ·subst q5; exact rop_5 a b x y _ _ sa sb c1 c2 _ rfl hg hl w
 by_cases q6 : op = 6
 ·subst q6; exact rop_6 a b x y _ _ sa sb c1 c2 _ rfl hg hl w
 by_cases q8 : op = 8
 ·subst q8; exact rop_8 a b x y _ _ sa sb c1 c2 _ rfl hg hl w
 by_cases q9 : op = 9
 ·subst q9; exact rop_9 a b x y _ _ sa sb c1 c2 _ rfl hg hl w
 by_cases q10 : op = 10
 ·subst q10; exact Jmq a b x y _ _ sa sb c1 c2 _ rfl hg hl w
 ·rw [show opB op x y = 17 by unfold opB; rw [if_neg q1, if_neg q3, if_neg q4, if_neg (by omega), if_neg (by omega)]]
  exact Jfr a b x y _ _ sa sb c1 c2 _ rfl hg hl op q1 q3 q4 q5 q6 q8 q9 q10 w
end
section
open Go.RowKit
set_option linter.unusedSimpArgs false
set_option linter.unusedVariables false
set_option maxRecDepth 8000
theorem Jer (a n : Int) (s : Bool) (h : n < 0) (w : World) :
  Calls Tryz.prog 14 #[kn a s, V n] w fun e w' => e = .returned (kn 17 s) /\ More w w' := by
 unfold kn;go_enter Tryz.func14, Tryz.ntmps14;go_wp2;exact bodyPost_ret (by simp [results, Tryz.results14, go_sem]) rfl ⟨rfl, ((More.refl _).alloc _ _).alloc _ _⟩

theorem Jes (a n f r : Int) (s s' : Bool) (h : ¬ n < 0)
  (c1 : ∀ w : World, Calls Tryz.prog 29 #[V n] w fun e w' => e = .returned (kn f false) /\ More w w')
  (c2 : ∀ w : World, Calls Tryz.prog 31 #[V 1, kn a s, kn f false] w fun e w' => e = .returned (kn r s') /\ More w w') (w : World) :
  Calls Tryz.prog 14 #[kn a s, V n] w fun e w' => e = .returned (kn r s') /\ More w w' := by
 unfold kn at *;have hn : decide (n < 0) = false := by simp; omega
 clear h;go_enter Tryz.func14, Tryz.ntmps14;go_wp2_with (fail)
 refine (c1 _).mono ?_;rintro e w1 ⟨rfl, m1⟩;have a0 : w1.cell? ⟨w.heap.size, 0, none⟩ = some (V a) := m1.cell (by go_simp);have a1 : w1.cell? ⟨w.heap.size, 1, none⟩ = some (.bool s) := m1.cell (by go_simp);have Hb1 : Hid (Blk w1 (w.heap.size + 1) #[V 0, .bool false] 56) := (by simpa using Blk.last (w.alloc (.cells #[V a, .bool s] 56)) #[V 0, .bool false] 56 : Blk _ (w.heap.size + 1) _ _).more m1;have Hm1 : Hid (More w w1) := (((More.refl _).alloc _ _).alloc _ _).trans m1;have za : w.heap.size < w1.heap.size := J06 a0;clear m1;go_wp2_with (fail)
 refine (c2 _).mono ?_;rintro e w2 ⟨rfl, m2⟩;have hblk := Hb1.out.more (((More.refl _).alloc _ _).trans m2);have d0 := hblk.cell (j := 0) rfl;have d1 := hblk.cell (j := 1) rfl;have f0 := hblk.frozen 0;have f1 := hblk.frozen 1;have Hm2 : Hid (More w w2) := (Hm1.out.alloc _ _).trans m2;clear m2 hblk;go_wp2;exact bodyPost_ret (by simp [results, Tryz.results14, go_sem, *]) rfl ⟨rfl, (Hm2.out.setCell (by simp) _).setCell (by simp) _⟩

theorem J6n (k : Kn) (n : Int) (n0 : -9223372036854775808 <= n) (n1 : n <= 9223372036854775807) (w : World) :
  Calls Tryz.prog 14 #[kn k.b k.s, V n] w fun e w' => e = .returned (kn (Kn.index k n).b (Kn.index k n).s) /\ More w w' := by
 by_cases h : n < 0
 ·have e : Kn.index k n = ⟨17, k.s⟩ := by unfold Kn.index; rw [if_pos h]
  rw [e]; exact Jer k.b n k.s h w
 ·have e : Kn.index k n = Kn.op 1 k (Kn.of n) := by unfold Kn.index; rw [if_neg h]
  rw [e];exact Jes k.b n (fitI n) _ k.s _ h (fun w => J74 n n0 n1 w) (Ja0 1 k.b (fitI n) k.s false) w

theorem J4n (b : Bool) (g c : Nat) (s : KS) (r : Int) (x y : Kn) (w : World) (h : KRow w g s) (r0 : 0 <= r) (r1 : r < 8) :
  Calls Tryz.prog 28 #[st b g c, V r, kn x.b x.s, kn y.b y.s] w fun e w' => ∃ g' c', e = .returned (st b g' c') /\ w.heap.size <= g' /\ KRow w' g' (setK s r (Kn.less x y)) /\ More w w' := by
 have H : Hid (KRow w g s) := h;obtain ⟨v, hv⟩ : ∃ v, Kn.less x y = v := ⟨_, rfl⟩;have c2 : ∀ w : World, Calls Tryz.prog 30 #[kn x.b x.s, kn y.b y.s] w fun e w' => e = .returned (kn v.b v.s) /\ More w w' := fun w => hv ▸ J73 x.b y.b x.s y.s w
 rw [hv];obtain ⟨xb, xs⟩ := x;obtain ⟨yb, ys⟩ := y;obtain ⟨vb, vs⟩ := v;clear h hv;unfold st kn at *;dsimp only at *;go_enter Tryz.func28, Tryz.ntmps28;go_wp2_with (fail)
 refine (J0l b g c s _ (H.out.more ((((More.refl _).alloc _ _).alloc _ _).alloc _ _ |>.alloc _ _))).mono ?_;rintro e w1 ⟨g1, c1, rfl, hg1, hr1, m1⟩;have Hx : Hid (Blk w1 (w.heap.size + 1) #[V xb, .bool xs] 56) := ((by simpa using Blk.last (w.alloc (.cells #[.bool b, .slice (some ⟨g, 0, none⟩) 8 c] 50)) #[V xb, .bool xs] 56 : Blk _ (w.heap.size + 1) _ _).more (((More.refl _).alloc _ _).alloc _ _)).more m1;have Hy : Hid (Blk w1 (w.heap.size + 1 + 1) #[V yb, .bool ys] 56) := ((by simpa using Blk.last ((w.alloc (.cells #[.bool b, .slice (some ⟨g, 0, none⟩) 8 c] 50)).alloc (.cells #[V xb, .bool xs] 56)) #[V yb, .bool ys] 56 : Blk _ (w.heap.size + 1 + 1) _ _).more ((More.refl _).alloc _ _)).more m1;have Hres : Hid (Blk w1 (w.heap.size + 1 + 1 + 1) #[.bool false, .slice none 0 0] 50) := (by simpa using Blk.last (((w.alloc (.cells #[.bool b, .slice (some ⟨g, 0, none⟩) 8 c] 50)).alloc (.cells #[V xb, .bool xs] 56)).alloc (.cells #[V yb, .bool ys] 56)) #[.bool false, .slice none 0 0] 50 : Blk _ (w.heap.size + 1 + 1 + 1) _ _).more m1;have Hm1 : Hid (More w w1) := ((((More.refl _).alloc _ _).alloc _ _).alloc _ _ |>.alloc _ _).trans m1;have Hr1 : Hid (KRow w1 g1 s) := hr1;have Hg1 : Hid (w.heap.size + 4 <= g1) := by show _ <= _; simpa using hg1
 clear m1 hr1 hg1;obtain ⟨W1, HW1⟩ : ∃ W1 : World, Hid (W1 = w1.alloc (.cells #[.bool b, .slice (some ⟨g1, 0, none⟩) 8 c1] 50)) := ⟨_, rfl⟩;have HmW : Hid (More w1 W1) := HW1.out ▸ (More.refl _).alloc _ _;have HbW : Hid (Blk W1 w1.heap.size #[.bool b, .slice (some ⟨g1, 0, none⟩) 8 c1] 50) := HW1.out ▸ Blk.last _ _ _;obtain ⟨S, HS⟩ : ∃ S : World -> Prop, Hid (∀ w', S w' ↔ (Blk w' (w.heap.size + 1) #[V xb, .bool xs] 56 /\ Blk w' (w.heap.size + 1 + 1) #[V yb, .bool ys] 56 /\ Blk w' w1.heap.size #[.bool b, .slice (some ⟨g1, 0, none⟩) 8 c1] 50)) := ⟨_, fun _ => Iff.rfl⟩;have HSm : Hid (∀ w', More W1 w' -> S w') := fun w' m => (HS.out _).2 ⟨Hx.out.more (HmW.out.trans m), Hy.out.more (HmW.out.trans m), HbW.out.more m⟩
 have HS0 : S W1.drew := HSm.out _ (More.refl _).drew;have hne : Nonempty { w' // S w' } := ⟨⟨_, HS0⟩⟩;have k0 : ∀ i : { w' // S w' }, i.val.cell? ⟨w.heap.size + 1, 0, none⟩ = some (V xb) := fun i => ((HS.out _).1 i.property).1.cell rfl
 have k1 : ∀ i : { w' // S w' }, i.val.cell? ⟨w.heap.size + 1, 1, none⟩ = some (.bool xs) := fun i => ((HS.out _).1 i.property).1.cell rfl
 have k2 : ∀ i : { w' // S w' }, i.val.cell? ⟨w.heap.size + 1 + 1, 0, none⟩ = some (V yb) := fun i => ((HS.out _).1 i.property).2.1.cell rfl
 have k3 : ∀ i : { w' // S w' }, i.val.cell? ⟨w.heap.size + 1 + 1, 1, none⟩ = some (.bool ys) := fun i => ((HS.out _).1 i.property).2.1.cell rfl
 have k4 : ∀ i : { w' // S w' }, i.val.cell? ⟨w1.heap.size, 1, none⟩ = some (.slice (some ⟨g1, 0, none⟩) 8 c1) := fun i => ((HS.out _).1 i.property).2.2.cell rfl
 go_wp2_with (fail)
 rw [<- HW1.out];refine J03 (S := S) [(0, true), (1, true), (2, true), (3, true), (4, true), (5, false), (6, true), (7, false)] (by kernel_rfl) (by kernel_rfl) (by kernel_rfl) HS0 ?_
 iterate 5 (refine J00 rfl (by kernel_rfl) (fun K hK => ?_); go_simp; refine hK _ _ ?_; clear hK K)
 refine J02 rfl (by kernel_rfl) (fun K hK => ?_); go_simp;refine (c2 _).mono ?_;rintro e w2 ⟨rfl, m2⟩;have HS2 : S w2 := HSm.out _ ((More.refl _).drew.trans m2);have Hm2 : Hid (More W1 w2) := (More.refl _).drew.trans m2;clear m2
 go_simp
 refine hK _ _ HS2 ?_; clear hK K
 (refine J00 rfl (by kernel_rfl) (fun K hK => ?_); go_simp; refine hK _ _ ?_; clear hK K)
 have Hrow : Hid (KRow w2 g1 s) := Hr1.out.more (HmW.out.trans Hm2.out);have hr : r.toNat < 8 := by omega
 have q := Hrow.out r.toNat hr;have q0 := q.1.1;have q1 := q.1.2;have q2 := q.2.1;have q3 := q.2.2;have hne1 : g1 ≠ w1.heap.size := by have := Hr1.out.lt; omega
 obtain ⟨w3, Hw3⟩ : ∃ w3, Hid (w3 = (w2.setCell ⟨g1, r.toNat * 2, none⟩ (V vb)).setCell ⟨g1, r.toNat * 2 + 1, none⟩ (.bool vs)) := ⟨_, rfl⟩;have Hrow3 : Hid (KRow w3 g1 (setK s r ⟨vb, vs⟩)) := Hw3.out ▸ Hrow.out.set r ⟨vb, vs⟩ hr;have Hb3 : Hid (Blk w3 w1.heap.size #[.bool b, .slice (some ⟨g1, 0, none⟩) 8 c1] 50) := Hw3.out ▸ ((HbW.out.more Hm2.out).other hne1 _ _).other hne1 _ _;have Hres3 : Hid (Blk w3 (w.heap.size + 1 + 1 + 1) #[.bool false, .slice none 0 0] 50) := Hw3.out ▸ ((Hres.out.more (HmW.out.trans Hm2.out)).other (by have := Hg1.out; omega) _ _).other (by have := Hg1.out; omega) _ _;have Hm3 : Hid (More w w3) := Hw3.out ▸ (((Hm1.out.trans HmW.out).trans Hm2.out).setCell (by have := Hg1.out; dsimp only; omega) _).setCell (by have := Hg1.out; dsimp only; omega) _;have HS3 : S w3 := (HS.out _).2 ⟨Hw3.out ▸ ((Hx.out.more (HmW.out.trans Hm2.out)).other (by have := Hg1.out; omega) _ _).other (by have := Hg1.out; omega) _ _, Hw3.out ▸ ((Hy.out.more (HmW.out.trans Hm2.out)).other (by have := Hg1.out; omega) _ _).other (by have := Hg1.out; omega) _ _, Hb3.out⟩;refine J02 rfl (by kernel_rfl) (fun K hK => ?_); go_simp;rw [<- Hw3.out];refine hK _ _ HS3 ?_; clear hK K;refine J04 ?_;clear k0 k1 k2 k3 k4 hne HS0 HS2 HS3 q q0 q1 q2 q3;have p0 := Hb3.out.cell (j := 0) rfl;have p1 := Hb3.out.cell (j := 1) rfl;have t0 := Hres3.out.cell (j := 0) rfl;have t1 := Hres3.out.cell (j := 1) rfl;have u0 := Hres3.out.frozen 0
 have u1 := Hres3.out.frozen 1;go_wp2;refine bodyPost_ret (by simp [results, Tryz.results28, go_sem, *]) rfl ⟨g1, c1, rfl, by have := Hg1.out; omega, ?_, ?_⟩
 ·exact (Hrow3.out.other (by have := Hg1.out; omega) _ _).other (by have := Hg1.out; omega) _ _
 ·exact (Hm3.out.setCell (by dsimp only; omega) _).setCell (by dsimp only; omega) _
theorem Jey (av : Value) (hav : ∃ a n c, av = .slice a n c) (b : Bool) (g c : Nat) (s : KS) (w : World) (h : KRow w g s) :
  Calls Tryz.prog 25 #[.agg #[.bool false, av], st b g c] w fun e w' => ∃ g' c', e = .returned (st b g' c') /\ w.heap.size <= g' /\ KRow w' g' s /\ More w w' := by
 have H : Hid (KRow w g s) := h;clear h;obtain ⟨a, n, ca, rfl⟩ := hav;unfold st;go_enter Tryz.func25, Tryz.ntmps25;go_wp2_with (fail)
 refine (J0l b g c s _ (H.out.more (((More.refl _).alloc _ _).alloc _ _ |>.alloc _ _))).mono ?_;rintro e w1 ⟨g1, c1, rfl, hg1, hr1, m1⟩;have Hres : Hid (Blk w1 (w.heap.size + 1 + 1) #[.bool false, .slice none 0 0] 50) := (by simpa using Blk.last ((w.alloc (.cells #[.bool false, .slice a n ca] 50)).alloc (.cells #[.bool b, .slice (some ⟨g, 0, none⟩) 8 c] 50)) #[.bool false, .slice none 0 0] 50 : Blk _ (w.heap.size + 1 + 1) _ _).more m1;have Hm1 : Hid (More w w1) := (((More.refl _).alloc _ _).alloc _ _ |>.alloc _ _).trans m1;have Hr1 : Hid (KRow w1 g1 s) := hr1;have Hg1 : Hid (w.heap.size + 3 <= g1) := by show _ <= _; simpa using hg1
 clear m1 hr1 hg1;have t0 := Hres.out.cell (j := 0) rfl;have t1 := Hres.out.cell (j := 1) rfl;have u0 := Hres.out.frozen 0;have u1 := Hres.out.frozen 1;unfold st;go_wp2;refine bodyPost_ret (by simp [results, Tryz.results25, go_sem, *]) rfl ⟨g1, c1, rfl, by have := Hg1.out; omega, ?_, ?_⟩
 ·exact (Hr1.out.other (by have := Hg1.out; omega) _ _).other (by have := Hg1.out; omega) _ _
 ·exact (Hm1.out.setCell (by dsimp only; omega) _).setCell (by dsimp only; omega) _

def J83 (s t : KS) (k : Nat) : KS := fun j => if j < k then Kn.join (s j) (t j) else s j

structure JFix (n ga ca gb cb g1 c1 n1 : Nat) (sa sb : KS) (b b' : Bool) (w : World) : Prop where
 fa : Blk w n #[.bool b, .slice (some ⟨ga, 0, none⟩) 8 ca] 50
 fb : Blk w (n + 1) #[.bool b', .slice (some ⟨gb, 0, none⟩) 8 cb] 50
 fr : Blk w (n + 1 + 1) #[.bool false, .slice none 0 0] 50
 fs : Blk w n1 #[.bool b, .slice (some ⟨g1, 0, none⟩) 8 c1] 50
 ka : KRow w ga sa
 kb : KRow w gb sb
theorem JFix.more {n ga ca gb cb g1 c1 n1 : Nat} {sa sb : KS} {b b' : Bool} {w w' : World} (m : More w w') (h : JFix n ga ca gb cb g1 c1 n1 sa sb b b' w) : JFix n ga ca gb cb g1 c1 n1 sa sb b b' w' :=
 ⟨h.fa.more m, h.fb.more m, h.fr.more m, h.fs.more m, h.ka.more m, h.kb.more m⟩
theorem JFix.set {n ga ca gb cb g1 c1 n1 : Nat} {sa sb : KS} {b b' : Bool} {w : World} (h : JFix n ga ca gb cb g1 c1 n1 sa sb b b' w) (h1 : n + 1 + 1 < g1) (h2 : g1 ≠ n1) (h3 : g1 ≠ ga) (h4 : g1 ≠ gb) (o : Nat) (v : Value) :
  JFix n ga ca gb cb g1 c1 n1 sa sb b b' (w.setCell ⟨g1, o, none⟩ v) :=
 ⟨h.fa.other (by omega) _ _, h.fb.other (by omega) _ _, h.fr.other (by omega) _ _, h.fs.other h2 _ _, h.ka.other h3 _ _, h.kb.other h4 _ _⟩

theorem Jez (b b' : Bool) (ga ca gb cb : Nat) (sa sb : KS) (w : World) (ha : KRow w ga sa) (hb : KRow w gb sb) (hbt : b = true) :
  Calls Tryz.prog 25 #[st b ga ca, st b' gb cb] w fun e w' => ∃ g' c', e = .returned (st b g' c') /\ w.heap.size <= g' /\ KRow w' g' (fun j => Kn.join (sa j) (sb j)) /\ More w w' := by
 have Ha : Hid (KRow w ga sa) := ha;have Hb : Hid (KRow w gb sb) := hb;clear ha hb;have Cj : Hid (∀ (x y : Kn) (w : World), Calls Tryz.prog 44 #[kn x.b x.s, kn y.b y.s] w fun e w' => e = .returned (kn (Kn.join x y).b (Kn.join x y).s) /\ More w w') := fun x y w => Jbi x.b y.b x.s y.s w
 subst hbt;unfold st;go_enter Tryz.func25, Tryz.ntmps25;go_wp2_with (fail)
 refine (J0l true ga ca sa _ (Ha.out.more (((More.refl _).alloc _ _).alloc _ _ |>.alloc _ _))).mono ?_;rintro e w1 ⟨g1, c1, rfl, hg1, hr1, m1⟩;obtain ⟨W1, HW1⟩ : ∃ W1 : World, Hid (W1 = w1.alloc (.cells #[.bool true, .slice (some ⟨g1, 0, none⟩) 8 c1] 50)) := ⟨_, rfl⟩
 have HF : Hid (JFix w.heap.size ga ca gb cb g1 c1 w1.heap.size sa sb true b' W1) := by
  have mW : More w1 W1 := HW1.out ▸ (More.refl _).alloc _ _;have e0 : Blk (((w.alloc (.cells #[.bool true, .slice (some ⟨ga, 0, none⟩) 8 ca] 50)).alloc (.cells #[.bool b', .slice (some ⟨gb, 0, none⟩) 8 cb] 50)).alloc (.cells #[.bool false, .slice none 0 0] 50)) w.heap.size #[.bool true, .slice (some ⟨ga, 0, none⟩) 8 ca] 50 := (Blk.last _ _ _).more (((More.refl _).alloc _ _).alloc _ _);have e1 : Blk (((w.alloc (.cells #[.bool true, .slice (some ⟨ga, 0, none⟩) 8 ca] 50)).alloc (.cells #[.bool b', .slice (some ⟨gb, 0, none⟩) 8 cb] 50)).alloc (.cells #[.bool false, .slice none 0 0] 50)) (w.heap.size + 1) #[.bool b', .slice (some ⟨gb, 0, none⟩) 8 cb] 50 := (by simpa using Blk.last (w.alloc (.cells #[.bool true, .slice (some ⟨ga, 0, none⟩) 8 ca] 50)) #[.bool b', .slice (some ⟨gb, 0, none⟩) 8 cb] 50 : Blk _ (w.heap.size + 1) _ _).more ((More.refl _).alloc _ _);have e2 : Blk (((w.alloc (.cells #[.bool true, .slice (some ⟨ga, 0, none⟩) 8 ca] 50)).alloc (.cells #[.bool b', .slice (some ⟨gb, 0, none⟩) 8 cb] 50)).alloc (.cells #[.bool false, .slice none 0 0] 50)) (w.heap.size + 1 + 1) #[.bool false, .slice none 0 0] 50 := by simpa using Blk.last ((w.alloc (.cells #[.bool true, .slice (some ⟨ga, 0, none⟩) 8 ca] 50)).alloc (.cells #[.bool b', .slice (some ⟨gb, 0, none⟩) 8 cb] 50)) #[.bool false, .slice none 0 0] 50
  have m0 := (((More.refl w).alloc #[.bool true, .slice (some ⟨ga, 0, none⟩) 8 ca] 50).alloc #[.bool b', .slice (some ⟨gb, 0, none⟩) 8 cb] 50 |>.alloc #[.bool false, .slice none 0 0] 50).trans (m1.trans mW);exact ⟨e0.more (m1.trans mW), e1.more (m1.trans mW), e2.more (m1.trans mW), HW1.out ▸ Blk.last _ _ _, Ha.out.more m0, Hb.out.more m0⟩
 have HK : Hid (KRow W1 g1 sa) := hr1.more (HW1.out ▸ (More.refl _).alloc _ _);have HM : Hid (More w W1) := ((((More.refl _).alloc _ _).alloc _ _ |>.alloc _ _).trans m1).trans (HW1.out ▸ (More.refl _).alloc _ _);have HG : Hid (w.heap.size + 3 <= g1 /\ g1 < w1.heap.size) := ⟨by simpa using hg1, hr1.lt⟩;have HA : Hid (ga < w.heap.size /\ gb < w.heap.size) := ⟨Ha.out.lt, Hb.out.lt⟩;clear m1 hr1 hg1;go_wp2_with (fail)
 rw [<- HW1.out];go_loopg [6] 8 (fun g iv wr => ∃ k : Nat, k + g = 8 /\ iv = V k /\ Hid (JFix w.heap.size ga ca gb cb g1 c1 w1.heap.size sa sb true b' wr /\ KRow wr g1 (J83 sa sb k) /\ More w wr))
 case atStart => exact ⟨0, by omega, rfl, HF.out, HK.out.congr (fun j _ => by simp [J83]), HM.out⟩
 case round =>
  obtain ⟨k, hkg, rfl, Hr⟩ := hrel;have a1 := Hr.out.1.fa.cell (j := 1) rfl;have b1 := Hr.out.1.fb.cell (j := 1) rfl;have s0 := Hr.out.1.fs.cell (j := 0) rfl;have s1 := Hr.out.1.fs.cell (j := 1) rfl;cases gk with
  | zero =>
   obtain rfl : k = 8 := by omega
   have t0 := Hr.out.1.fr.cell (j := 0) rfl;have t1 := Hr.out.1.fr.cell (j := 1) rfl;have u0 := Hr.out.1.fr.frozen 0;have u1 := Hr.out.1.fr.frozen 1;go_wp2;refine bodyPost_ret (by simp [results, Tryz.results25, go_sem, *]) rfl ⟨g1, ⟨c1, rfl⟩, by have := HG.out; omega, ?_, ?_⟩
   ·exact ((Hr.out.2.1.congr (fun j hj => by simp [J83, hj])).other (by have := HG.out; omega) _ _).other (by have := HG.out; omega) _ _
   ·exact (Hr.out.2.2.setCell (by dsimp only; omega) _).setCell (by dsimp only; omega) _
  | succ g =>
   have hk8 : k < 8 := by omega
   have hki : (k : Int) < 8 := by omega
   obtain ⟨S, HS⟩ : ∃ S : World -> Prop, Hid (∀ w', S w' ↔ JFix w.heap.size ga ca gb cb g1 c1 w1.heap.size sa sb true b' w') := ⟨_, fun _ => Iff.rfl⟩;have HS0 : S wr.drew := (HS.out _).2 (Hr.out.1.more (More.refl _).drew);have hne : Nonempty { w' // S w' } := ⟨⟨_, HS0⟩⟩;have k0 : ∀ i : { w' // S w' }, i.val.cell? ⟨w.heap.size, 1, none⟩ = some (.slice (some ⟨ga, 0, none⟩) 8 ca) := fun i => ((HS.out _).1 i.property).fa.cell rfl
   have k1 : ∀ i : { w' // S w' }, i.val.cell? ⟨w.heap.size + 1, 1, none⟩ = some (.slice (some ⟨gb, 0, none⟩) 8 cb) := fun i => ((HS.out _).1 i.property).fb.cell rfl
   have k2 : ∀ i : { w' // S w' }, i.val.cell? ⟨w1.heap.size, 1, none⟩ = some (.slice (some ⟨g1, 0, none⟩) 8 c1) := fun i => ((HS.out _).1 i.property).fs.cell rfl
   obtain ⟨xa, hxa⟩ : ∃ x, sa k = x := ⟨_, rfl⟩;obtain ⟨xb, hxb⟩ : ∃ x, sb k = x := ⟨_, rfl⟩;have k3 : ∀ i : { w' // S w' }, i.val.cell? ⟨ga, k * 2, none⟩ = some (V xa.b) := fun i => hxa ▸ (((HS.out _).1 i.property).ka k hk8).1.1
   have k4 : ∀ i : { w' // S w' }, i.val.cell? ⟨ga, k * 2 + 1, none⟩ = some (.bool xa.s) := fun i => hxa ▸ (((HS.out _).1 i.property).ka k hk8).1.2
   have k5 : ∀ i : { w' // S w' }, i.val.cell? ⟨gb, k * 2, none⟩ = some (V xb.b) := fun i => hxb ▸ (((HS.out _).1 i.property).kb k hk8).1.1
   have k6 : ∀ i : { w' // S w' }, i.val.cell? ⟨gb, k * 2 + 1, none⟩ = some (.bool xb.s) := fun i => hxb ▸ (((HS.out _).1 i.property).kb k hk8).1.2
   obtain ⟨v, hv⟩ : ∃ v, Kn.join xa xb = v := ⟨_, rfl⟩;have c2 : ∀ w : World, Calls Tryz.prog 44 #[kn xa.b xa.s, kn xb.b xb.s] w fun e w' => e = .returned (kn v.b v.s) /\ More w w' := fun w => hv ▸ Cj.out xa xb w
   have Hv : Hid (Kn.join (sa k) (sb k) = v) := by rw [hxa, hxb]; exact hv
   clear hxa hxb hv;obtain ⟨xab, xas⟩ := xa;obtain ⟨xbb, xbs⟩ := xb;obtain ⟨vb, vs⟩ := v;unfold kn at c2;dsimp only at k3 k4 k5 k6 c2;go_wp2_with (fail)
   clear a1 b1 s0 s1;refine J03 (S := S) [(0, true), (1, true), (2, true), (3, true), (4, true), (5, true), (6, true), (7, true), (8, true), (9, true), (10, true), (11, true), (12, true), (13, false), (14, true), (15, false)] (by kernel_rfl) (by kernel_rfl) (by kernel_rfl) HS0 ?_
   iterate 13 (refine J00 rfl (by kernel_rfl) (fun K hK => ?_); go_simp; refine hK _ _ ?_; clear hK K)
   refine J02 rfl (by kernel_rfl) (fun K hK => ?_); go_simp;refine (c2 _).mono ?_;rintro e w2 ⟨rfl, m2⟩;have Hm2 : Hid (More wr w2) := (More.refl _).drew.trans m2;have HS2 : S w2 := (HS.out _).2 (Hr.out.1.more Hm2.out);clear m2
   go_simp
   refine hK _ _ HS2 ?_; clear hK K
   (refine J00 rfl (by kernel_rfl) (fun K hK => ?_); go_simp; refine hK _ _ ?_; clear hK K)
   have Hrow : Hid (KRow w2 g1 (J83 sa sb k)) := Hr.out.2.1.more Hm2.out;have q := Hrow.out k hk8;have q0 := q.1.1;have q1 := q.1.2;have q2 := q.2.1;have q3 := q.2.2;obtain ⟨w3, Hw3⟩ : ∃ w3, Hid (w3 = (w2.setCell ⟨g1, k * 2, none⟩ (V vb)).setCell ⟨g1, k * 2 + 1, none⟩ (.bool vs)) := ⟨_, rfl⟩
   have Hrow3 : Hid (KRow w3 g1 (J83 sa sb (k + 1))) := by
    have h := Hrow.out.set (k : Int) ⟨vb, vs⟩ (by simpa using hk8);rw [Int.toNat_natCast] at h;rw [Hw3.out];refine KRow.congr h (fun j hj => ?_);unfold setK J83;rw [Int.toNat_natCast];by_cases e : j = k
    ·subst e; rw [if_pos rfl, if_pos (by omega), Hv.out]
    ·rw [if_neg e]
     by_cases e2 : j < k
     ·rw [if_pos e2, if_pos (by omega)]
     ·rw [if_neg e2, if_neg (by omega)]
   have hg := HG.out;have hA := HA.out;have HF3 : Hid (JFix w.heap.size ga ca gb cb g1 c1 w1.heap.size sa sb true b' w3) := Hw3.out ▸ ((Hr.out.1.more Hm2.out).set (by omega) (by omega) (by omega) (by omega) _ _).set (by omega) (by omega) (by omega) (by omega) _ _;have Hm3 : Hid (More w w3) := Hw3.out ▸ (((Hr.out.2.2.trans Hm2.out).setCell (by dsimp only; omega) _).setCell (by dsimp only; omega) _);have HS3 : S w3 := (HS.out _).2 HF3.out;clear hg hA;refine J02 rfl (by kernel_rfl) (fun K hK => ?_); go_simp;rw [<- Hw3.out];refine hK _ _ HS3 ?_; clear hK K;refine J04 ?_;clear k0 k1 k2 k3 k4 k5 k6 hne HS0 HS2 HS3 q q0 q1 q2 q3;go_wp2;go_roundg g
   case measure => omega
   case rel => exact ⟨k + 1, by omega, by first | rfl | simp, HF3.out, Hrow3.out, Hm3.out⟩
structure LFix (n g c g1 c1 n8 : Nat) (rv cv : Value) (i : Ins) (s : KS) (rb ro rl : Nat) (log : Nat -> Int) (sec : Nat -> Bool) (w : World) : Prop where
 fp : Blk w n #[rv, cv] 25
 fs : Blk w (n + 1) #[.bool true, .slice (some ⟨g, 0, none⟩) 8 c] 50
 fi : Blk w (n + 1 + 1) #[V i.op, V i.a, V i.b, V i.c, V i.n] 42
 ft : Blk w n8 #[.bool true, .slice (some ⟨g1, 0, none⟩) 8 c1] 50
 ks : KRow w g s
 regs : RegsAt w rb ro rl log sec
section
variable {n g c g1 c1 n8 rb ro rl : Nat} {rv cv : Value} {i : Ins} {s : KS} {log : Nat -> Int} {sec : Nat -> Bool} {w w' : World}
theorem LFix.more (m : More w w') (h : LFix n g c g1 c1 n8 rv cv i s rb ro rl log sec w) : LFix n g c g1 c1 n8 rv cv i s rb ro rl log sec w' :=
 ⟨h.fp.more m, h.fs.more m, h.fi.more m, h.ft.more m, h.ks.more m, h.regs.more m⟩
theorem LFix.set (h : LFix n g c g1 c1 n8 rv cv i s rb ro rl log sec w) (h1 : n + 2 < g1) (h2 : g1 ≠ n8) (h3 : g1 ≠ g) (h4 : 0 < rl -> g1 ≠ rb) (o : Nat) (v : Value) : LFix n g c g1 c1 n8 rv cv i s rb ro rl log sec (w.setCell ⟨g1, o, none⟩ v) :=
 ⟨h.fp.other (by omega) _ _, h.fs.other (by omega) _ _, h.fi.other (by omega) _ _, h.ft.other h2 _ _, h.ks.other h3 _ _, fun j hj => by
  have := h.regs j hj;have hne := h4 (by omega);exact ⟨by rw [World.cell?_setCell_other _ _ _ _ (by intro e; simp only [Addr.mk.injEq] at e; omega)]; exact this.1, by rw [World.cell?_setCell_other _ _ _ _ (by intro e; simp only [Addr.mk.injEq] at e; omega)]; exact this.2⟩⟩
end

def LdAt (w : World) (lo : Nat) (v : Value) (ls : List (Nat × KS)) : Prop :=
 ∃ (a : Option Addr) (b cap : Nat), v = .slice a ls.length cap /\ (0 < ls.length -> a = some ⟨b, 0, none⟩) /\ lo <= b /\ ls.length <= 2 /\
  ∀ k x, ls[k]? = some x -> ∃ g c, w.cell? ⟨b, k * 3, none⟩ = some (V (x.1 : Int)) /\ w.cell? ⟨b, k * 3 + 1, none⟩ = some (.bool true) /\ w.cell? ⟨b, k * 3 + 2, none⟩ = some (.slice (some ⟨g, 0, none⟩) 8 c) /\ KRow w g x.2 /\ lo <= g
theorem LdAt.more {w w' : World} (m : More w w') {lo : Nat} {v : Value} {ls : List (Nat × KS)} (h : LdAt w lo v ls) : LdAt w' lo v ls := by
 obtain ⟨a, b, cap, e, h1, hb, h2, h3⟩ := h;refine ⟨a, b, cap, e, h1, hb, h2, fun k x hx => ?_⟩;obtain ⟨g, c, q0, q1, q2, q3, q4⟩ := h3 k x hx;exact ⟨g, c, m.cell q0, m.cell q1, m.cell q2, q3.more m, q4⟩
theorem LdAt.other {w : World} {lo : Nat} {v : Value} {ls : List (Nat × KS)} (h : LdAt w lo v ls) {b' : Nat} (hb' : b' < lo) (o : Nat) (u : Value) : LdAt (w.setCell ⟨b', o, none⟩ u) lo v ls := by
 obtain ⟨a, b, cap, e, h1, hb, h2, h3⟩ := h;refine ⟨a, b, cap, e, h1, hb, h2, fun k x hx => ?_⟩;obtain ⟨g, c, q0, q1, q2, q3, q4⟩ := h3 k x hx;have oth : ∀ o', (w.setCell ⟨b', o, none⟩ u).cell? ⟨b, o', none⟩ = w.cell? ⟨b, o', none⟩ := fun o' => World.cell?_setCell_other _ _ _ _ (by intro e'; simp only [Addr.mk.injEq] at e'; omega)
 exact ⟨g, c, (oth _).trans q0, (oth _).trans q1, (oth _).trans q2, q3.other (by omega) _ _, q4⟩

theorem LdAt.one {w : World} {lo to g c cap b : Nat} {s : KS} (hb : w.heap.size = b) (h : KRow w g s) (hl : lo <= g) : LdAt (w.alloc (.cells #[V (to : Int), .bool true, .slice (some ⟨g, 0, none⟩) 8 c] 54)) lo (.slice (some ⟨b, 0, none⟩) 1 cap) [(to, s)] := by
 subst hb;refine ⟨_, w.heap.size, cap, rfl, fun _ => rfl, by have := h.lt; omega, by simp, fun k x hx => ?_⟩;cases k with
 | zero =>
  simp at hx;subst hx;have hb := Blk.last w #[V (to : Int), .bool true, .slice (some ⟨g, 0, none⟩) 8 c] 54;exact ⟨g, c, hb.cell rfl, hb.cell rfl, hb.cell rfl, h.more ((More.refl _).alloc _ _), hl⟩
 | succ k => simp at hx
theorem LdAt.two {w : World} {lo to to' g c g' c' cap b : Nat} {s s' : KS} (hb : w.heap.size = b) (h : KRow w g s) (hl : lo <= g) (h' : KRow w g' s') (hl' : lo <= g') :
  LdAt (w.alloc (.cells #[V (to : Int), .bool true, .slice (some ⟨g, 0, none⟩) 8 c, V (to' : Int), .bool true, .slice (some ⟨g', 0, none⟩) 8 c'] 54)) lo (.slice (some ⟨b, 0, none⟩) 2 cap) [(to, s), (to', s')] := by
 subst hb;refine ⟨_, w.heap.size, cap, rfl, fun _ => rfl, by have := h.lt; omega, by simp, fun k x hx => ?_⟩;have hb := Blk.last w #[V (to : Int), .bool true, .slice (some ⟨g, 0, none⟩) 8 c, V (to' : Int), .bool true, .slice (some ⟨g', 0, none⟩) 8 c'] 54
 match k, hx with
 | 0, hx =>
  simp at hx; subst hx;exact ⟨g, c, hb.cell rfl, hb.cell rfl, hb.cell rfl, h.more ((More.refl _).alloc _ _), hl⟩
 | 1, hx =>
  simp at hx; subst hx;exact ⟨g', c', hb.cell rfl, hb.cell rfl, hb.cell rfl, h'.more ((More.refl _).alloc _ _), hl'⟩
 | k + 2, hx => simp at hx

theorem J0d {P : Prop} (h : P) : Hid P := h
theorem J1w {w w1 W1 : World} {rv cv : Value} {g c g1 c1 rb ro rl : Nat} {log : Nat -> Int} {sec : Nat -> Bool} {s : KS} {i : Ins} (hk : KRow w g s) (hr : RegsAt w rb ro rl log sec)
  (m1 : More (((w.alloc (.cells #[rv, cv] 25)).alloc (.cells #[.bool true, .slice (some ⟨g, 0, none⟩) 8 c] 50)).alloc (.cells #[V i.op, V i.a, V i.b, V i.c, V i.n] 42)) w1) (hr1 : KRow w1 g1 s)
  (hg1 : (((w.alloc (.cells #[rv, cv] 25)).alloc (.cells #[.bool true, .slice (some ⟨g, 0, none⟩) 8 c] 50)).alloc (.cells #[V i.op, V i.a, V i.b, V i.c, V i.n] 42)).heap.size <= g1) (hW : W1 = w1.alloc (.cells #[.bool true, .slice (some ⟨g1, 0, none⟩) 8 c1] 50)) :
  LFix w.heap.size g c g1 c1 w1.heap.size rv cv i s rb ro rl log sec W1 /\ KRow W1 g1 s /\ More w W1 /\ (w.heap.size + 3 <= g1 /\ g1 < w1.heap.size /\ w1.heap.size < W1.heap.size) /\ (g < w.heap.size /\ (0 < rl -> rb < w.heap.size)) /\ Blk w1 (w.heap.size + 1 + 1) #[V i.op, V i.a, V i.b, V i.c, V i.n] 42 := by
 have mW : More w1 W1 := hW ▸ (More.refl _).alloc _ _;have e0 := (Blk.last w #[rv, cv] 25).more (((More.refl _).alloc #[.bool true, .slice (some ⟨g, 0, none⟩) 8 c] 50).alloc #[V i.op, V i.a, V i.b, V i.c, V i.n] 42);have e1 := (by simpa using Blk.last (w.alloc (.cells #[rv, cv] 25)) #[.bool true, .slice (some ⟨g, 0, none⟩) 8 c] 50 : Blk ((w.alloc (.cells #[rv, cv] 25)).alloc (.cells #[.bool true, .slice (some ⟨g, 0, none⟩) 8 c] 50)) (w.heap.size + 1) #[.bool true, .slice (some ⟨g, 0, none⟩) 8 c] 50).more ((More.refl _).alloc #[V i.op, V i.a, V i.b, V i.c, V i.n] 42);have e2 := (by simpa using Blk.last ((w.alloc (.cells #[rv, cv] 25)).alloc (.cells #[.bool true, .slice (some ⟨g, 0, none⟩) 8 c] 50)) #[V i.op, V i.a, V i.b, V i.c, V i.n] 42 : Blk (((w.alloc (.cells #[rv, cv] 25)).alloc (.cells #[.bool true, .slice (some ⟨g, 0, none⟩) 8 c] 50)).alloc (.cells #[V i.op, V i.a, V i.b, V i.c, V i.n] 42)) (w.heap.size + 1 + 1) #[V i.op, V i.a, V i.b, V i.c, V i.n] 42);have m0 : More w w1 := (((More.refl w).alloc _ _).alloc _ _ |>.alloc _ _).trans m1;exact ⟨⟨e0.more (m1.trans mW), e1.more (m1.trans mW), e2.more (m1.trans mW), hW ▸ Blk.last _ _ _, hk.more (m0.trans mW), hr.more (m0.trans mW)⟩, hr1.more mW, m0.trans mW, ⟨by simpa using hg1, hr1.lt, by rw [hW]; simp⟩, ⟨hk.lt, fun h0 => J06 (hr 0 h0).1⟩, e2.more m1⟩
theorem Jkp (ra : Option Addr) (rb ro rl rc : Nat) (log : Nat -> Int) (sec : Nat -> Bool) (cb co cl cc at_ g c : Nat) (a b ic n : Int) (s : KS) (w : World) (hra : 0 < rl -> ra = some ⟨rb, ro, none⟩) (hregs : RegsAt w rb ro rl log sec)
  (q0 : w.cell? ⟨cb, co + at_ * 5, none⟩ = some (V 1)) (q1 : w.cell? ⟨cb, co + at_ * 5 + 1, none⟩ = some (V a)) (q2 : w.cell? ⟨cb, co + at_ * 5 + 2, none⟩ = some (V b)) (q3 : w.cell? ⟨cb, co + at_ * 5 + 3, none⟩ = some (V ic)) (q4 : w.cell? ⟨cb, co + at_ * 5 + 4, none⟩ = some (V n))
  (hat : (at_ : Int) < cl) (hcl : (cl : Int) <= 200) (hk : KRow w g s) (ha0 : 0 <= a) (ha1 : a < 8) (n0 : -9223372036854775808 <= n) (n1 : n <= 9223372036854775807) :
  Calls Tryz.prog 13 #[.agg #[.slice ra rl rc, .slice (some ⟨cb, co, none⟩) cl cc], V at_, st true g c] w fun e w' => ∃ v, e = .returned v /\ LdAt w' w.heap.size v [(at_ + 1, setK s a (Kn.of n))] /\ More w w' := by
 have Hk : Hid (KRow w g s) := hk;have Hreg : Hid ((0 < rl -> ra = some ⟨rb, ro, none⟩) /\ RegsAt w rb ro rl log sec) := ⟨hra, hregs⟩;have hat2 : (at_ : Int) + 1 <= 200 := by omega
 have hcb : cb < w.heap.size := J06 q0;have hcb1 : cb < w.heap.size + 1 := by omega
 clear hk hra hregs
 suffices hP : ∀ P : Ending -> World -> Prop, (∀ v w', LdAt w' w.heap.size v [(at_ + 1, setK s a (Kn.of n))] -> More w w' -> P (.returned v) w') -> Calls Tryz.prog 13 #[.agg #[.slice ra rl rc, .slice (some ⟨cb, co, none⟩) cl cc], V at_, st true g c] w P from hP _ (fun v w' h1 h2 => ⟨v, rfl, h1, h2⟩)
 intro P hP0;have hP : Hid (∀ v w', LdAt w' w.heap.size v [(at_ + 1, setK s a (Kn.of n))] -> More w w' -> P (.returned v) w') := hP0;clear hP0;unfold st;go_enter Tryz.func13, Tryz.ntmps13;go_wp2_with (fail)
 refine (J0l true g c s _ (Hk.out.more (((More.refl _).alloc _ _).alloc _ _ |>.alloc _ _))).mono ?_;rintro e w1 ⟨g1, c1, rfl, hg1, hr1, m1⟩;obtain ⟨W1, HW1⟩ : ∃ W1 : World, Hid (W1 = w1.alloc (.cells #[.bool true, .slice (some ⟨g1, 0, none⟩) 8 c1] 50)) := ⟨_, rfl⟩;obtain ⟨HF, HK1, HM, HG, HA, HI⟩ := J1w (i := ⟨1, a, b, ic, n⟩) Hk.out Hreg.out.2 m1 hr1 hg1 HW1.out;replace HF := J0d HF;replace HK1 := J0d HK1;replace HM := J0d HM;replace HG := J0d HG;replace HA := J0d HA;replace HI := J0d HI;clear m1 hr1 hg1 q0 q1 q2 q3 q4;have i0 : w1.cell? ⟨w.heap.size + 1 + 1, 0, none⟩ = some (V 1) := HI.out.cell rfl;have i1 : w1.cell? ⟨w.heap.size + 1 + 1, 1, none⟩ = some (V a) := HI.out.cell rfl;have i2 : w1.cell? ⟨w.heap.size + 1 + 1, 2, none⟩ = some (V b) := HI.out.cell rfl;have i3 : w1.cell? ⟨w.heap.size + 1 + 1, 3, none⟩ = some (V ic) := HI.out.cell rfl;have i4 : w1.cell? ⟨w.heap.size + 1 + 1, 4, none⟩ = some (V n) := HI.out.cell rfl;have zi : w.heap.size + 1 + 1 < w1.heap.size := HI.out.lt;obtain ⟨S, HS⟩ : ∃ S : World -> Prop, Hid (∀ w', S w' ↔ LFix w.heap.size g c g1 c1 w1.heap.size (.slice ra rl rc) (.slice (some ⟨cb, co, none⟩) cl cc) ⟨1, a, b, ic, n⟩ s rb ro rl log sec w') := ⟨_, fun _ => Iff.rfl⟩;have HSm : Hid (∀ w', More W1 w' -> S w') := fun w' m => (HS.out _).2 (HF.out.more m)
 have HS0 : S W1.drew := HSm.out _ (More.refl _).drew;have hne : Nonempty { w' // S w' } := ⟨⟨_, HS0⟩⟩;have k0 : ∀ i : { w' // S w' }, i.val.cell? ⟨w.heap.size + 1 + 1, 0, none⟩ = some (V 1) := fun i => ((HS.out _).1 i.property).fi.cell rfl
 have k1 : ∀ i : { w' // S w' }, i.val.cell? ⟨w.heap.size + 1 + 1, 1, none⟩ = some (V a) := fun i => ((HS.out _).1 i.property).fi.cell rfl
 have k2 : ∀ i : { w' // S w' }, i.val.cell? ⟨w.heap.size + 1 + 1, 2, none⟩ = some (V b) := fun i => ((HS.out _).1 i.property).fi.cell rfl
 have k3 : ∀ i : { w' // S w' }, i.val.cell? ⟨w.heap.size + 1 + 1, 3, none⟩ = some (V ic) := fun i => ((HS.out _).1 i.property).fi.cell rfl
 have k4 : ∀ i : { w' // S w' }, i.val.cell? ⟨w.heap.size + 1 + 1, 4, none⟩ = some (V n) := fun i => ((HS.out _).1 i.property).fi.cell rfl
 have k5 : ∀ i : { w' // S w' }, i.val.cell? ⟨w1.heap.size, 1, none⟩ = some (.slice (some ⟨g1, 0, none⟩) 8 c1) := fun i => ((HS.out _).1 i.property).ft.cell rfl
 have k6 : ∀ i : { w' // S w' }, i.val.cell? ⟨w.heap.size + 1, 1, none⟩ = some (.slice (some ⟨g, 0, none⟩) 8 c) := fun i => ((HS.out _).1 i.property).fs.cell rfl
 have k7 : ∀ i : { w' // S w' }, i.val.cell? ⟨w.heap.size, 0, none⟩ = some (.slice ra rl rc) := fun i => ((HS.out _).1 i.property).fp.cell rfl
 obtain ⟨v, hv⟩ : ∃ v, Kn.of n = v := ⟨_, rfl⟩;have c2 : ∀ w : World, Calls Tryz.prog 29 #[V n] w fun e w' => e = .returned (kn v.b v.s) /\ More w w' := fun w => hv ▸ J74 n n0 n1 w
 have Hx : Hid ((⟨v.b, v.s⟩ : Kn) = Kn.of n) := hv.symm;clear hv;obtain ⟨vb, vs⟩ := v;unfold kn at c2;dsimp only at c2;go_wp2_with (fail)
 rw [<- HW1.out];clear i0 i1 i2 i3 i4 zi;refine J03 (S := S) [(0, true), (1, true), (2, true), (3, true), (4, true), (5, true), (6, false), (7, true), (8, false)] (by kernel_rfl) (by kernel_rfl) (by kernel_rfl) HS0 ?_
 iterate 6 (refine J00 rfl (by kernel_rfl) (fun K hK => ?_); go_simp; refine hK _ _ ?_; clear hK K)
 refine J02 rfl (by kernel_rfl) (fun K hK => ?_); go_simp;refine (c2 _).mono ?_;rintro e w2 ⟨rfl, m2⟩;have Hm2 : Hid (More W1 w2) := (More.refl _).drew.trans m2;have HS2 : S w2 := HSm.out _ Hm2.out;clear m2
 go_simp
 refine hK _ _ HS2 ?_; clear hK K
 (refine J00 rfl (by kernel_rfl) (fun K hK => ?_); go_simp; refine hK _ _ ?_; clear hK K)
 have Hrow : Hid (KRow w2 g1 s) := HK1.out.more Hm2.out;have hr : a.toNat < 8 := by omega
 have q := Hrow.out a.toNat hr;have q0 := q.1.1;have q1 := q.1.2;have q2 := q.2.1;have q3 := q.2.2;obtain ⟨w3, Hw3⟩ : ∃ w3, Hid (w3 = (w2.setCell ⟨g1, a.toNat * 2, none⟩ (V vb)).setCell ⟨g1, a.toNat * 2 + 1, none⟩ (.bool vs)) := ⟨_, rfl⟩;have Hrow3 : Hid (KRow w3 g1 (setK s a ⟨vb, vs⟩)) := Hw3.out ▸ Hrow.out.set a ⟨vb, vs⟩ hr;have hg := HG.out;have hA := HA.out;have HF3 : Hid (LFix w.heap.size g c g1 c1 w1.heap.size (.slice ra rl rc) (.slice (some ⟨cb, co, none⟩) cl cc) ⟨1, a, b, ic, n⟩ s rb ro rl log sec w3) := Hw3.out ▸ ((HF.out.more Hm2.out).set (by omega) (by omega) (by omega) (fun h0 => by have := hA.2 h0; omega) _ _).set (by omega) (by omega) (by omega) (fun h0 => by have := hA.2 h0; omega) _ _;have Hm3 : Hid (More w w3) := Hw3.out ▸ (((HM.out.trans Hm2.out).setCell (by dsimp only; omega) _).setCell (by dsimp only; omega) _);have HS3 : S w3 := (HS.out _).2 HF3.out;clear hg hA;refine J02 rfl (by kernel_rfl) (fun K hK => ?_); go_simp;rw [<- Hw3.out];refine hK _ _ HS3 ?_; clear hK K;refine J04 ?_;clear k0 k1 k2 k3 k4 k5 k6 k7 hne HS0 HS2 HS3 q q0 q1 q2 q3;have t0 := HF3.out.ft.cell (j := 0) (v := .bool true) rfl;have t1 := HF3.out.ft.cell (j := 1) (v := .slice (some ⟨g1, 0, none⟩) 8 c1) rfl;go_wp2;exact hP.out _ _ (LdAt.one rfl (Hx.out ▸ Hrow3.out) (by have := HG.out; omega)) (Hm3.out.alloc _ _)

theorem Jkq (ra : Option Addr) (rb ro rl rc : Nat) (log : Nat -> Int) (sec : Nat -> Bool) (cb co cl cc at_ g c : Nat) (a b ic n : Int) (s : KS) (w : World) (hra : 0 < rl -> ra = some ⟨rb, ro, none⟩) (hregs : RegsAt w rb ro rl log sec)
  (q0 : w.cell? ⟨cb, co + at_ * 5, none⟩ = some (V 2)) (q1 : w.cell? ⟨cb, co + at_ * 5 + 1, none⟩ = some (V a)) (q2 : w.cell? ⟨cb, co + at_ * 5 + 2, none⟩ = some (V b)) (q3 : w.cell? ⟨cb, co + at_ * 5 + 3, none⟩ = some (V ic)) (q4 : w.cell? ⟨cb, co + at_ * 5 + 4, none⟩ = some (V n))
  (hat : (at_ : Int) < cl) (hcl : (cl : Int) <= 200) (hk : KRow w g s) (ha0 : 0 <= a) (ha1 : a < 8) (hb0 : 0 <= b) (hb1 : b < 8) :
  Calls Tryz.prog 13 #[.agg #[.slice ra rl rc, .slice (some ⟨cb, co, none⟩) cl cc], V at_, st true g c] w fun e w' => ∃ v, e = .returned v /\ LdAt w' w.heap.size v [(at_ + 1, setK s a (s b.toNat))] /\ More w w' := by
 have Hk : Hid (KRow w g s) := hk;have Hreg : Hid ((0 < rl -> ra = some ⟨rb, ro, none⟩) /\ RegsAt w rb ro rl log sec) := ⟨hra, hregs⟩;have hat2 : (at_ : Int) + 1 <= 200 := by omega
 have hcb : cb < w.heap.size := J06 q0;have hcb1 : cb < w.heap.size + 1 := by omega
 clear hk hra hregs
 suffices hP : ∀ P : Ending -> World -> Prop, (∀ v w', LdAt w' w.heap.size v [(at_ + 1, setK s a (s b.toNat))] -> More w w' -> P (.returned v) w') -> Calls Tryz.prog 13 #[.agg #[.slice ra rl rc, .slice (some ⟨cb, co, none⟩) cl cc], V at_, st true g c] w P from hP _ (fun v w' h1 h2 => ⟨v, rfl, h1, h2⟩)
 intro P hP0;have hP : Hid (∀ v w', LdAt w' w.heap.size v [(at_ + 1, setK s a (s b.toNat))] -> More w w' -> P (.returned v) w') := hP0;clear hP0;unfold st;go_enter Tryz.func13, Tryz.ntmps13;go_wp2_with (fail)
 refine (J0l true g c s _ (Hk.out.more (((More.refl _).alloc _ _).alloc _ _ |>.alloc _ _))).mono ?_;rintro e w1 ⟨g1, c1, rfl, hg1, hr1, m1⟩;obtain ⟨W1, HW1⟩ : ∃ W1 : World, Hid (W1 = w1.alloc (.cells #[.bool true, .slice (some ⟨g1, 0, none⟩) 8 c1] 50)) := ⟨_, rfl⟩;obtain ⟨HF, HK1, HM, HG, HA, HI⟩ := J1w (i := ⟨2, a, b, ic, n⟩) Hk.out Hreg.out.2 m1 hr1 hg1 HW1.out;replace HF := J0d HF;replace HK1 := J0d HK1;replace HM := J0d HM;replace HG := J0d HG;replace HA := J0d HA;replace HI := J0d HI;clear m1 hr1 hg1 q0 q1 q2 q3 q4;have i0 : w1.cell? ⟨w.heap.size + 1 + 1, 0, none⟩ = some (V 2) := HI.out.cell rfl;have i1 : w1.cell? ⟨w.heap.size + 1 + 1, 1, none⟩ = some (V a) := HI.out.cell rfl;have i2 : w1.cell? ⟨w.heap.size + 1 + 1, 2, none⟩ = some (V b) := HI.out.cell rfl;have i3 : w1.cell? ⟨w.heap.size + 1 + 1, 3, none⟩ = some (V ic) := HI.out.cell rfl;have i4 : w1.cell? ⟨w.heap.size + 1 + 1, 4, none⟩ = some (V n) := HI.out.cell rfl;have zi : w.heap.size + 1 + 1 < w1.heap.size := HI.out.lt;obtain ⟨S, HS⟩ : ∃ S : World -> Prop, Hid (∀ w', S w' ↔ LFix w.heap.size g c g1 c1 w1.heap.size (.slice ra rl rc) (.slice (some ⟨cb, co, none⟩) cl cc) ⟨2, a, b, ic, n⟩ s rb ro rl log sec w') := ⟨_, fun _ => Iff.rfl⟩;have HSm : Hid (∀ w', More W1 w' -> S w') := fun w' m => (HS.out _).2 (HF.out.more m)
 have HS0 : S W1.drew := HSm.out _ (More.refl _).drew;have hne : Nonempty { w' // S w' } := ⟨⟨_, HS0⟩⟩;have k0 : ∀ i : { w' // S w' }, i.val.cell? ⟨w.heap.size + 1 + 1, 0, none⟩ = some (V 2) := fun i => ((HS.out _).1 i.property).fi.cell rfl
 have k1 : ∀ i : { w' // S w' }, i.val.cell? ⟨w.heap.size + 1 + 1, 1, none⟩ = some (V a) := fun i => ((HS.out _).1 i.property).fi.cell rfl
 have k2 : ∀ i : { w' // S w' }, i.val.cell? ⟨w.heap.size + 1 + 1, 2, none⟩ = some (V b) := fun i => ((HS.out _).1 i.property).fi.cell rfl
 have k3 : ∀ i : { w' // S w' }, i.val.cell? ⟨w.heap.size + 1 + 1, 3, none⟩ = some (V ic) := fun i => ((HS.out _).1 i.property).fi.cell rfl
 have k4 : ∀ i : { w' // S w' }, i.val.cell? ⟨w.heap.size + 1 + 1, 4, none⟩ = some (V n) := fun i => ((HS.out _).1 i.property).fi.cell rfl
 have k5 : ∀ i : { w' // S w' }, i.val.cell? ⟨w1.heap.size, 1, none⟩ = some (.slice (some ⟨g1, 0, none⟩) 8 c1) := fun i => ((HS.out _).1 i.property).ft.cell rfl
 have k6 : ∀ i : { w' // S w' }, i.val.cell? ⟨w.heap.size + 1, 1, none⟩ = some (.slice (some ⟨g, 0, none⟩) 8 c) := fun i => ((HS.out _).1 i.property).fs.cell rfl
 have k7 : ∀ i : { w' // S w' }, i.val.cell? ⟨w.heap.size, 0, none⟩ = some (.slice ra rl rc) := fun i => ((HS.out _).1 i.property).fp.cell rfl
 obtain ⟨xb, hxb⟩ : ∃ x, s b.toNat = x := ⟨_, rfl⟩;have kb0 : ∀ i : { w' // S w' }, i.val.cell? ⟨g, b.toNat * 2, none⟩ = some (V xb.b) := fun i => hxb ▸ (((HS.out _).1 i.property).ks b.toNat (by omega)).1.1
 have kb1 : ∀ i : { w' // S w' }, i.val.cell? ⟨g, b.toNat * 2 + 1, none⟩ = some (.bool xb.s) := fun i => hxb ▸ (((HS.out _).1 i.property).ks b.toNat (by omega)).1.2
 have Hx : Hid ((⟨xb.b, xb.s⟩ : Kn) = s b.toNat) := hxb.symm;clear hxb;obtain ⟨vb, vs⟩ := xb;dsimp only at kb0 kb1;go_wp2_with (fail)
 rw [<- HW1.out];clear i0 i1 i2 i3 i4 zi;refine J03 (S := S) [(0, true), (1, true), (2, true), (3, true), (4, true), (5, true), (6, true), (7, true), (8, true), (9, true), (10, true), (11, false)] (by kernel_rfl) (by kernel_rfl) (by kernel_rfl) HS0 ?_
 iterate 11 (refine J00 rfl (by kernel_rfl) (fun K hK => ?_); go_simp; refine hK _ _ ?_; clear hK K)
 have Hm2 : Hid (More W1 W1.drew) := (More.refl _).drew;have HS2 : S W1.drew := HS0;have Hrow : Hid (KRow W1 g1 s) := HK1.out;have hr : a.toNat < 8 := by omega
 have q := Hrow.out a.toNat hr;have q0 := q.1.1;have q1 := q.1.2;have q2 := q.2.1;have q3 := q.2.2;obtain ⟨w3, Hw3⟩ : ∃ w3, Hid (w3 = ((W1.setCell ⟨g1, a.toNat * 2, none⟩ (V vb)).setCell ⟨g1, a.toNat * 2 + 1, none⟩ (.bool vs)).drew) := ⟨_, rfl⟩;have Hrow3 : Hid (KRow w3 g1 (setK s a ⟨vb, vs⟩)) := Hw3.out ▸ (Hrow.out.set a ⟨vb, vs⟩ hr).more (More.refl _).drew;have hg := HG.out;have hA := HA.out;have HF3 : Hid (LFix w.heap.size g c g1 c1 w1.heap.size (.slice ra rl rc) (.slice (some ⟨cb, co, none⟩) cl cc) ⟨2, a, b, ic, n⟩ s rb ro rl log sec w3) := Hw3.out ▸ LFix.more (More.refl _).drew ((HF.out.set (by omega) (by omega) (by omega) (fun h0 => by have := hA.2 h0; omega) _ _).set (by omega) (by omega) (by omega) (fun h0 => by have := hA.2 h0; omega) _ _);have Hm3 : Hid (More w w3) := Hw3.out ▸ ((HM.out.setCell (by dsimp only; omega) _).setCell (by dsimp only; omega) _).drew;have HS3 : S w3 := (HS.out _).2 HF3.out;clear hg hA;refine J02 rfl (by kernel_rfl) (fun K hK => ?_); go_simp;rw [<- Hw3.out];refine hK _ _ HS3 ?_; clear hK K;refine J04 ?_;clear k0 k1 k2 k3 k4 k5 k6 k7 kb0 kb1 hne HS0 HS2 HS3 q q0 q1 q2 q3;have t0 := HF3.out.ft.cell (j := 0) (v := .bool true) rfl;have t1 := HF3.out.ft.cell (j := 1) (v := .slice (some ⟨g1, 0, none⟩) 8 c1) rfl;go_wp2;exact hP.out _ _ (LdAt.one rfl (Hx.out ▸ Hrow3.out) (by have := HG.out; omega)) (Hm3.out.alloc _ _)

theorem Jhp (ra : Option Addr) (rb ro rl rc : Nat) (log : Nat -> Int) (sec : Nat -> Bool) (cb co cl cc at_ g c : Nat) (a b ic n : Int) (s : KS) (w : World) (hra : 0 < rl -> ra = some ⟨rb, ro, none⟩) (hregs : RegsAt w rb ro rl log sec)
  (q0 : w.cell? ⟨cb, co + at_ * 5, none⟩ = some (V 10)) (q1 : w.cell? ⟨cb, co + at_ * 5 + 1, none⟩ = some (V a)) (q2 : w.cell? ⟨cb, co + at_ * 5 + 2, none⟩ = some (V b)) (q3 : w.cell? ⟨cb, co + at_ * 5 + 3, none⟩ = some (V ic)) (q4 : w.cell? ⟨cb, co + at_ * 5 + 4, none⟩ = some (V n))
  (hat : (at_ : Int) < cl) (hcl : (cl : Int) <= 200) (hk : KRow w g s) (ha0 : 0 <= a) (ha1 : a < 8) (hb0 : 0 <= b) (hb1 : b < 8) (n0 : -9223372036854775808 <= n) (n1 : n <= 9223372036854775807) :
  Calls Tryz.prog 13 #[.agg #[.slice ra rl rc, .slice (some ⟨cb, co, none⟩) cl cc], V at_, st true g c] w fun e w' => ∃ v, e = .returned v /\ LdAt w' w.heap.size v [(at_ + 1, setK s a (Kn.index (s b.toNat) n))] /\ More w w' := by
 have Hk : Hid (KRow w g s) := hk;have Hreg : Hid ((0 < rl -> ra = some ⟨rb, ro, none⟩) /\ RegsAt w rb ro rl log sec) := ⟨hra, hregs⟩;have hat2 : (at_ : Int) + 1 <= 200 := by omega
 have hcb : cb < w.heap.size := J06 q0;have hcb1 : cb < w.heap.size + 1 := by omega
 clear hk hra hregs
 suffices hP : ∀ P : Ending -> World -> Prop, (∀ v w', LdAt w' w.heap.size v [(at_ + 1, setK s a (Kn.index (s b.toNat) n))] -> More w w' -> P (.returned v) w') -> Calls Tryz.prog 13 #[.agg #[.slice ra rl rc, .slice (some ⟨cb, co, none⟩) cl cc], V at_, st true g c] w P from hP _ (fun v w' h1 h2 => ⟨v, rfl, h1, h2⟩)
 intro P hP0;have hP : Hid (∀ v w', LdAt w' w.heap.size v [(at_ + 1, setK s a (Kn.index (s b.toNat) n))] -> More w w' -> P (.returned v) w') := hP0;clear hP0;unfold st;go_enter Tryz.func13, Tryz.ntmps13;go_wp2_with (fail)
 refine (J0l true g c s _ (Hk.out.more (((More.refl _).alloc _ _).alloc _ _ |>.alloc _ _))).mono ?_;rintro e w1 ⟨g1, c1, rfl, hg1, hr1, m1⟩;obtain ⟨W1, HW1⟩ : ∃ W1 : World, Hid (W1 = w1.alloc (.cells #[.bool true, .slice (some ⟨g1, 0, none⟩) 8 c1] 50)) := ⟨_, rfl⟩;obtain ⟨HF, HK1, HM, HG, HA, HI⟩ := J1w (i := ⟨10, a, b, ic, n⟩) Hk.out Hreg.out.2 m1 hr1 hg1 HW1.out;replace HF := J0d HF;replace HK1 := J0d HK1;replace HM := J0d HM;replace HG := J0d HG;replace HA := J0d HA;replace HI := J0d HI;clear m1 hr1 hg1 q0 q1 q2 q3 q4;have i0 : w1.cell? ⟨w.heap.size + 1 + 1, 0, none⟩ = some (V 10) := HI.out.cell rfl;have i1 : w1.cell? ⟨w.heap.size + 1 + 1, 1, none⟩ = some (V a) := HI.out.cell rfl;have i2 : w1.cell? ⟨w.heap.size + 1 + 1, 2, none⟩ = some (V b) := HI.out.cell rfl;have i3 : w1.cell? ⟨w.heap.size + 1 + 1, 3, none⟩ = some (V ic) := HI.out.cell rfl;have i4 : w1.cell? ⟨w.heap.size + 1 + 1, 4, none⟩ = some (V n) := HI.out.cell rfl;have zi : w.heap.size + 1 + 1 < w1.heap.size := HI.out.lt;obtain ⟨S, HS⟩ : ∃ S : World -> Prop, Hid (∀ w', S w' ↔ LFix w.heap.size g c g1 c1 w1.heap.size (.slice ra rl rc) (.slice (some ⟨cb, co, none⟩) cl cc) ⟨10, a, b, ic, n⟩ s rb ro rl log sec w') := ⟨_, fun _ => Iff.rfl⟩;have HSm : Hid (∀ w', More W1 w' -> S w') := fun w' m => (HS.out _).2 (HF.out.more m)
 have HS0 : S W1.drew := HSm.out _ (More.refl _).drew;have hne : Nonempty { w' // S w' } := ⟨⟨_, HS0⟩⟩;have k0 : ∀ i : { w' // S w' }, i.val.cell? ⟨w.heap.size + 1 + 1, 0, none⟩ = some (V 10) := fun i => ((HS.out _).1 i.property).fi.cell rfl
 have k1 : ∀ i : { w' // S w' }, i.val.cell? ⟨w.heap.size + 1 + 1, 1, none⟩ = some (V a) := fun i => ((HS.out _).1 i.property).fi.cell rfl
 have k2 : ∀ i : { w' // S w' }, i.val.cell? ⟨w.heap.size + 1 + 1, 2, none⟩ = some (V b) := fun i => ((HS.out _).1 i.property).fi.cell rfl
 have k3 : ∀ i : { w' // S w' }, i.val.cell? ⟨w.heap.size + 1 + 1, 3, none⟩ = some (V ic) := fun i => ((HS.out _).1 i.property).fi.cell rfl
 have k4 : ∀ i : { w' // S w' }, i.val.cell? ⟨w.heap.size + 1 + 1, 4, none⟩ = some (V n) := fun i => ((HS.out _).1 i.property).fi.cell rfl
 have k5 : ∀ i : { w' // S w' }, i.val.cell? ⟨w1.heap.size, 1, none⟩ = some (.slice (some ⟨g1, 0, none⟩) 8 c1) := fun i => ((HS.out _).1 i.property).ft.cell rfl
 have k6 : ∀ i : { w' // S w' }, i.val.cell? ⟨w.heap.size + 1, 1, none⟩ = some (.slice (some ⟨g, 0, none⟩) 8 c) := fun i => ((HS.out _).1 i.property).fs.cell rfl
 have k7 : ∀ i : { w' // S w' }, i.val.cell? ⟨w.heap.size, 0, none⟩ = some (.slice ra rl rc) := fun i => ((HS.out _).1 i.property).fp.cell rfl
 obtain ⟨xb, hxb⟩ : ∃ x, s b.toNat = x := ⟨_, rfl⟩;have kb0 : ∀ i : { w' // S w' }, i.val.cell? ⟨g, b.toNat * 2, none⟩ = some (V xb.b) := fun i => hxb ▸ (((HS.out _).1 i.property).ks b.toNat (by omega)).1.1
 have kb1 : ∀ i : { w' // S w' }, i.val.cell? ⟨g, b.toNat * 2 + 1, none⟩ = some (.bool xb.s) := fun i => hxb ▸ (((HS.out _).1 i.property).ks b.toNat (by omega)).1.2
 obtain ⟨v, hv⟩ : ∃ v, Kn.index xb n = v := ⟨_, rfl⟩;have c2 : ∀ w : World, Calls Tryz.prog 14 #[kn xb.b xb.s, V n] w fun e w' => e = .returned (kn v.b v.s) /\ More w w' := fun w => hv ▸ J6n xb n n0 n1 w
 have Hx : Hid ((⟨v.b, v.s⟩ : Kn) = Kn.index (s b.toNat) n) := by rw [hxb]; exact hv.symm
 clear hv hxb;obtain ⟨vb, vs⟩ := v;obtain ⟨xbb, xbs⟩ := xb;unfold kn at c2;dsimp only at c2 kb0 kb1;go_wp2_with (fail)
 rw [<- HW1.out];clear i0 i1 i2 i3 i4 zi;refine J03 (S := S) [(0, true), (1, true), (2, true), (3, true), (4, true), (5, true), (6, true), (7, true), (8, true), (9, true), (10, true), (11, true), (12, false), (13, true), (14, false)] (by kernel_rfl) (by kernel_rfl) (by kernel_rfl) HS0 ?_
 iterate 12 (refine J00 rfl (by kernel_rfl) (fun K hK => ?_); go_simp; refine hK _ _ ?_; clear hK K)
 refine J02 rfl (by kernel_rfl) (fun K hK => ?_); go_simp;refine (c2 _).mono ?_;rintro e w2 ⟨rfl, m2⟩;have Hm2 : Hid (More W1 w2) := (More.refl _).drew.trans m2;have HS2 : S w2 := HSm.out _ Hm2.out;clear m2
 go_simp
 refine hK _ _ HS2 ?_; clear hK K
 (refine J00 rfl (by kernel_rfl) (fun K hK => ?_); go_simp; refine hK _ _ ?_; clear hK K)
 have Hrow : Hid (KRow w2 g1 s) := HK1.out.more Hm2.out;have hr : a.toNat < 8 := by omega
 have q := Hrow.out a.toNat hr;have q0 := q.1.1;have q1 := q.1.2;have q2 := q.2.1;have q3 := q.2.2;obtain ⟨w3, Hw3⟩ : ∃ w3, Hid (w3 = (w2.setCell ⟨g1, a.toNat * 2, none⟩ (V vb)).setCell ⟨g1, a.toNat * 2 + 1, none⟩ (.bool vs)) := ⟨_, rfl⟩;have Hrow3 : Hid (KRow w3 g1 (setK s a ⟨vb, vs⟩)) := Hw3.out ▸ Hrow.out.set a ⟨vb, vs⟩ hr;have hg := HG.out;have hA := HA.out;have HF3 : Hid (LFix w.heap.size g c g1 c1 w1.heap.size (.slice ra rl rc) (.slice (some ⟨cb, co, none⟩) cl cc) ⟨10, a, b, ic, n⟩ s rb ro rl log sec w3) := Hw3.out ▸ ((HF.out.more Hm2.out).set (by omega) (by omega) (by omega) (fun h0 => by have := hA.2 h0; omega) _ _).set (by omega) (by omega) (by omega) (fun h0 => by have := hA.2 h0; omega) _ _;have Hm3 : Hid (More w w3) := Hw3.out ▸ (((HM.out.trans Hm2.out).setCell (by dsimp only; omega) _).setCell (by dsimp only; omega) _);have HS3 : S w3 := (HS.out _).2 HF3.out;clear hg hA;refine J02 rfl (by kernel_rfl) (fun K hK => ?_); go_simp;rw [<- Hw3.out];refine hK _ _ HS3 ?_; clear hK K;refine J04 ?_;clear k0 k1 k2 k3 k4 k5 k6 k7 kb0 kb1 hne HS0 HS2 HS3 q q0 q1 q2 q3;have t0 := HF3.out.ft.cell (j := 0) (v := .bool true) rfl;have t1 := HF3.out.ft.cell (j := 1) (v := .slice (some ⟨g1, 0, none⟩) 8 c1) rfl;go_wp2;exact hP.out _ _ (LdAt.one rfl (Hx.out ▸ Hrow3.out) (by have := HG.out; omega)) (Hm3.out.alloc _ _)
theorem Jkr (ra : Option Addr) (rb ro rl rc : Nat) (log : Nat -> Int) (sec : Nat -> Bool) (cb co cl cc at_ g c : Nat) (a b ic n : Int) (s : KS) (w : World) (hra : 0 < rl -> ra = some ⟨rb, ro, none⟩) (hregs : RegsAt w rb ro rl log sec)
  (q0 : w.cell? ⟨cb, co + at_ * 5, none⟩ = some (V 3)) (q1 : w.cell? ⟨cb, co + at_ * 5 + 1, none⟩ = some (V a)) (q2 : w.cell? ⟨cb, co + at_ * 5 + 2, none⟩ = some (V b)) (q3 : w.cell? ⟨cb, co + at_ * 5 + 3, none⟩ = some (V ic)) (q4 : w.cell? ⟨cb, co + at_ * 5 + 4, none⟩ = some (V n))
  (hat : (at_ : Int) < cl) (hcl : (cl : Int) <= 200) (hk : KRow w g s) (ha0 : 0 <= a) (ha1 : a < 8) (hc0 : 0 <= ic) (hc1 : ic < rl) :
  Calls Tryz.prog 13 #[.agg #[.slice ra rl rc, .slice (some ⟨cb, co, none⟩) cl cc], V at_, st true g c] w fun e w' => ∃ v, e = .returned v /\ LdAt w' w.heap.size v [(at_ + 1, setK s a ⟨17, sec ic.toNat⟩)] /\ More w w' := by
 obtain rfl : ra = some ⟨rb, ro, none⟩ := hra (by omega);have Hk : Hid (KRow w g s) := hk;have Hreg : Hid ((0 < rl -> (some ⟨rb, ro, none⟩ : Option Addr) = some ⟨rb, ro, none⟩) /\ RegsAt w rb ro rl log sec) := ⟨hra, hregs⟩;have hat2 : (at_ : Int) + 1 <= 200 := by omega
 have hcb : cb < w.heap.size := J06 q0;have hcb1 : cb < w.heap.size + 1 := by omega
 clear hk hra hregs
 suffices hP : ∀ P : Ending -> World -> Prop, (∀ v w', LdAt w' w.heap.size v [(at_ + 1, setK s a ⟨17, sec ic.toNat⟩)] -> More w w' -> P (.returned v) w') -> Calls Tryz.prog 13 #[.agg #[.slice (some ⟨rb, ro, none⟩) rl rc, .slice (some ⟨cb, co, none⟩) cl cc], V at_, st true g c] w P from hP _ (fun v w' h1 h2 => ⟨v, rfl, h1, h2⟩)
 intro P hP0;have hP : Hid (∀ v w', LdAt w' w.heap.size v [(at_ + 1, setK s a ⟨17, sec ic.toNat⟩)] -> More w w' -> P (.returned v) w') := hP0;clear hP0;unfold st;go_enter Tryz.func13, Tryz.ntmps13;go_wp2_with (fail)
 refine (J0l true g c s _ (Hk.out.more (((More.refl _).alloc _ _).alloc _ _ |>.alloc _ _))).mono ?_;rintro e w1 ⟨g1, c1, rfl, hg1, hr1, m1⟩;obtain ⟨W1, HW1⟩ : ∃ W1 : World, Hid (W1 = w1.alloc (.cells #[.bool true, .slice (some ⟨g1, 0, none⟩) 8 c1] 50)) := ⟨_, rfl⟩;obtain ⟨HF, HK1, HM, HG, HA, HI⟩ := J1w (i := ⟨3, a, b, ic, n⟩) Hk.out Hreg.out.2 m1 hr1 hg1 HW1.out;replace HF := J0d HF;replace HK1 := J0d HK1;replace HM := J0d HM;replace HG := J0d HG;replace HA := J0d HA;replace HI := J0d HI;clear m1 hr1 hg1 q0 q1 q2 q3 q4;have i0 : w1.cell? ⟨w.heap.size + 1 + 1, 0, none⟩ = some (V 3) := HI.out.cell rfl;have i1 : w1.cell? ⟨w.heap.size + 1 + 1, 1, none⟩ = some (V a) := HI.out.cell rfl;have i2 : w1.cell? ⟨w.heap.size + 1 + 1, 2, none⟩ = some (V b) := HI.out.cell rfl;have i3 : w1.cell? ⟨w.heap.size + 1 + 1, 3, none⟩ = some (V ic) := HI.out.cell rfl;have i4 : w1.cell? ⟨w.heap.size + 1 + 1, 4, none⟩ = some (V n) := HI.out.cell rfl;have zi : w.heap.size + 1 + 1 < w1.heap.size := HI.out.lt;obtain ⟨S, HS⟩ : ∃ S : World -> Prop, Hid (∀ w', S w' ↔ LFix w.heap.size g c g1 c1 w1.heap.size (.slice (some ⟨rb, ro, none⟩) rl rc) (.slice (some ⟨cb, co, none⟩) cl cc) ⟨3, a, b, ic, n⟩ s rb ro rl log sec w') := ⟨_, fun _ => Iff.rfl⟩;have HSm : Hid (∀ w', More W1 w' -> S w') := fun w' m => (HS.out _).2 (HF.out.more m)
 have HS0 : S W1.drew := HSm.out _ (More.refl _).drew;have hne : Nonempty { w' // S w' } := ⟨⟨_, HS0⟩⟩;have k0 : ∀ i : { w' // S w' }, i.val.cell? ⟨w.heap.size + 1 + 1, 0, none⟩ = some (V 3) := fun i => ((HS.out _).1 i.property).fi.cell rfl
 have k1 : ∀ i : { w' // S w' }, i.val.cell? ⟨w.heap.size + 1 + 1, 1, none⟩ = some (V a) := fun i => ((HS.out _).1 i.property).fi.cell rfl
 have k2 : ∀ i : { w' // S w' }, i.val.cell? ⟨w.heap.size + 1 + 1, 2, none⟩ = some (V b) := fun i => ((HS.out _).1 i.property).fi.cell rfl
 have k3 : ∀ i : { w' // S w' }, i.val.cell? ⟨w.heap.size + 1 + 1, 3, none⟩ = some (V ic) := fun i => ((HS.out _).1 i.property).fi.cell rfl
 have k4 : ∀ i : { w' // S w' }, i.val.cell? ⟨w.heap.size + 1 + 1, 4, none⟩ = some (V n) := fun i => ((HS.out _).1 i.property).fi.cell rfl
 have k5 : ∀ i : { w' // S w' }, i.val.cell? ⟨w1.heap.size, 1, none⟩ = some (.slice (some ⟨g1, 0, none⟩) 8 c1) := fun i => ((HS.out _).1 i.property).ft.cell rfl
 have k6 : ∀ i : { w' // S w' }, i.val.cell? ⟨w.heap.size + 1, 1, none⟩ = some (.slice (some ⟨g, 0, none⟩) 8 c) := fun i => ((HS.out _).1 i.property).fs.cell rfl
 have k7 : ∀ i : { w' // S w' }, i.val.cell? ⟨w.heap.size, 0, none⟩ = some (.slice (some ⟨rb, ro, none⟩) rl rc) := fun i => ((HS.out _).1 i.property).fp.cell rfl
 obtain ⟨vs, hvs⟩ : ∃ v, sec ic.toNat = v := ⟨_, rfl⟩;have kr : ∀ i : { w' // S w' }, i.val.cell? ⟨rb, ro + ic.toNat * 2 + 1, none⟩ = some (.bool vs) := fun i => hvs ▸ (((HS.out _).1 i.property).regs ic.toNat (by omega)).2
 have Hx : Hid ((⟨17, vs⟩ : Kn) = ⟨17, sec ic.toNat⟩) := by show _ = _; rw [hvs]
 clear hvs;go_wp2_with (fail)
 rw [<- HW1.out];clear i0 i1 i2 i3 i4 zi;refine J03 (S := S) [(0, true), (1, true), (2, true), (3, true), (4, true), (5, true), (6, true), (7, true), (8, true), (9, true), (10, true), (11, true), (12, true), (13, false)] (by kernel_rfl) (by kernel_rfl) (by kernel_rfl) HS0 ?_
 iterate 13 (refine J00 rfl (by kernel_rfl) (fun K hK => ?_); go_simp; refine hK _ _ ?_; clear hK K)
 have Hm2 : Hid (More W1 W1.drew) := (More.refl _).drew;have HS2 : S W1.drew := HS0;have Hrow : Hid (KRow W1 g1 s) := HK1.out;have hr : a.toNat < 8 := by omega
 have q := Hrow.out a.toNat hr;have q0 := q.1.1;have q1 := q.1.2;have q2 := q.2.1;have q3 := q.2.2;obtain ⟨w3, Hw3⟩ : ∃ w3, Hid (w3 = ((W1.setCell ⟨g1, a.toNat * 2, none⟩ (V 17)).setCell ⟨g1, a.toNat * 2 + 1, none⟩ (.bool vs)).drew) := ⟨_, rfl⟩;have Hrow3 : Hid (KRow w3 g1 (setK s a ⟨17, vs⟩)) := Hw3.out ▸ (Hrow.out.set a ⟨17, vs⟩ hr).more (More.refl _).drew;have hg := HG.out;have hA := HA.out;have HF3 : Hid (LFix w.heap.size g c g1 c1 w1.heap.size (.slice (some ⟨rb, ro, none⟩) rl rc) (.slice (some ⟨cb, co, none⟩) cl cc) ⟨3, a, b, ic, n⟩ s rb ro rl log sec w3) := Hw3.out ▸ LFix.more (More.refl _).drew ((HF.out.set (by omega) (by omega) (by omega) (fun h0 => by have := hA.2 h0; omega) _ _).set (by omega) (by omega) (by omega) (fun h0 => by have := hA.2 h0; omega) _ _);have Hm3 : Hid (More w w3) := Hw3.out ▸ ((HM.out.setCell (by dsimp only; omega) _).setCell (by dsimp only; omega) _).drew;have HS3 : S w3 := (HS.out _).2 HF3.out;clear hg hA;refine J02 rfl (by kernel_rfl) (fun K hK => ?_); go_simp;rw [<- Hw3.out];refine hK _ _ HS3 ?_; clear hK K;refine J04 ?_;clear k0 k1 k2 k3 k4 k5 k6 k7 kr hne HS0 HS2 HS3 q q0 q1 q2 q3;have t0 := HF3.out.ft.cell (j := 0) (v := .bool true) rfl;have t1 := HF3.out.ft.cell (j := 1) (v := .slice (some ⟨g1, 0, none⟩) 8 c1) rfl;go_wp2;exact hP.out _ _ (LdAt.one rfl (Hx.out ▸ Hrow3.out) (by have := HG.out; omega)) (Hm3.out.alloc _ _)

theorem Jkt (ra : Option Addr) (rb ro rl rc : Nat) (log : Nat -> Int) (sec : Nat -> Bool) (cb co cl cc at_ g c : Nat) (a b ic n : Int) (s : KS) (w : World) (hra : 0 < rl -> ra = some ⟨rb, ro, none⟩) (hregs : RegsAt w rb ro rl log sec)
  (q0 : w.cell? ⟨cb, co + at_ * 5, none⟩ = some (V 5)) (q1 : w.cell? ⟨cb, co + at_ * 5 + 1, none⟩ = some (V a)) (q2 : w.cell? ⟨cb, co + at_ * 5 + 2, none⟩ = some (V b)) (q3 : w.cell? ⟨cb, co + at_ * 5 + 3, none⟩ = some (V ic)) (q4 : w.cell? ⟨cb, co + at_ * 5 + 4, none⟩ = some (V n))
  (hat : (at_ : Int) < cl) (hcl : (cl : Int) <= 200) (hk : KRow w g s) (ha0 : 0 <= a) (ha1 : a < 8) (hc0 : 0 <= ic) (hc1 : ic < rl) :
  Calls Tryz.prog 13 #[.agg #[.slice ra rl rc, .slice (some ⟨cb, co, none⟩) cl cc], V at_, st true g c] w fun e w' => ∃ v, e = .returned v /\ LdAt w' w.heap.size v [(at_ + 1, setK s a ⟨17, sec ic.toNat⟩)] /\ More w w' := by
 obtain rfl : ra = some ⟨rb, ro, none⟩ := hra (by omega);have Hk : Hid (KRow w g s) := hk;have Hreg : Hid ((0 < rl -> (some ⟨rb, ro, none⟩ : Option Addr) = some ⟨rb, ro, none⟩) /\ RegsAt w rb ro rl log sec) := ⟨hra, hregs⟩;have hat2 : (at_ : Int) + 1 <= 200 := by omega
 have hcb : cb < w.heap.size := J06 q0;have hcb1 : cb < w.heap.size + 1 := by omega
 clear hk hra hregs
 suffices hP : ∀ P : Ending -> World -> Prop, (∀ v w', LdAt w' w.heap.size v [(at_ + 1, setK s a ⟨17, sec ic.toNat⟩)] -> More w w' -> P (.returned v) w') -> Calls Tryz.prog 13 #[.agg #[.slice (some ⟨rb, ro, none⟩) rl rc, .slice (some ⟨cb, co, none⟩) cl cc], V at_, st true g c] w P from hP _ (fun v w' h1 h2 => ⟨v, rfl, h1, h2⟩)
 intro P hP0;have hP : Hid (∀ v w', LdAt w' w.heap.size v [(at_ + 1, setK s a ⟨17, sec ic.toNat⟩)] -> More w w' -> P (.returned v) w') := hP0;clear hP0;unfold st;go_enter Tryz.func13, Tryz.ntmps13;go_wp2_with (fail)
 refine (J0l true g c s _ (Hk.out.more (((More.refl _).alloc _ _).alloc _ _ |>.alloc _ _))).mono ?_;rintro e w1 ⟨g1, c1, rfl, hg1, hr1, m1⟩;obtain ⟨W1, HW1⟩ : ∃ W1 : World, Hid (W1 = w1.alloc (.cells #[.bool true, .slice (some ⟨g1, 0, none⟩) 8 c1] 50)) := ⟨_, rfl⟩;obtain ⟨HF, HK1, HM, HG, HA, HI⟩ := J1w (i := ⟨5, a, b, ic, n⟩) Hk.out Hreg.out.2 m1 hr1 hg1 HW1.out;replace HF := J0d HF;replace HK1 := J0d HK1;replace HM := J0d HM;replace HG := J0d HG;replace HA := J0d HA;replace HI := J0d HI;clear m1 hr1 hg1 q0 q1 q2 q3 q4;have i0 : w1.cell? ⟨w.heap.size + 1 + 1, 0, none⟩ = some (V 5) := HI.out.cell rfl;have i1 : w1.cell? ⟨w.heap.size + 1 + 1, 1, none⟩ = some (V a) := HI.out.cell rfl;have i2 : w1.cell? ⟨w.heap.size + 1 + 1, 2, none⟩ = some (V b) := HI.out.cell rfl;have i3 : w1.cell? ⟨w.heap.size + 1 + 1, 3, none⟩ = some (V ic) := HI.out.cell rfl;have i4 : w1.cell? ⟨w.heap.size + 1 + 1, 4, none⟩ = some (V n) := HI.out.cell rfl;have zi : w.heap.size + 1 + 1 < w1.heap.size := HI.out.lt;obtain ⟨S, HS⟩ : ∃ S : World -> Prop, Hid (∀ w', S w' ↔ LFix w.heap.size g c g1 c1 w1.heap.size (.slice (some ⟨rb, ro, none⟩) rl rc) (.slice (some ⟨cb, co, none⟩) cl cc) ⟨5, a, b, ic, n⟩ s rb ro rl log sec w') := ⟨_, fun _ => Iff.rfl⟩;have HSm : Hid (∀ w', More W1 w' -> S w') := fun w' m => (HS.out _).2 (HF.out.more m)
 have HS0 : S W1.drew := HSm.out _ (More.refl _).drew;have hne : Nonempty { w' // S w' } := ⟨⟨_, HS0⟩⟩;have k0 : ∀ i : { w' // S w' }, i.val.cell? ⟨w.heap.size + 1 + 1, 0, none⟩ = some (V 5) := fun i => ((HS.out _).1 i.property).fi.cell rfl
 have k1 : ∀ i : { w' // S w' }, i.val.cell? ⟨w.heap.size + 1 + 1, 1, none⟩ = some (V a) := fun i => ((HS.out _).1 i.property).fi.cell rfl
 have k2 : ∀ i : { w' // S w' }, i.val.cell? ⟨w.heap.size + 1 + 1, 2, none⟩ = some (V b) := fun i => ((HS.out _).1 i.property).fi.cell rfl
 have k3 : ∀ i : { w' // S w' }, i.val.cell? ⟨w.heap.size + 1 + 1, 3, none⟩ = some (V ic) := fun i => ((HS.out _).1 i.property).fi.cell rfl
 have k4 : ∀ i : { w' // S w' }, i.val.cell? ⟨w.heap.size + 1 + 1, 4, none⟩ = some (V n) := fun i => ((HS.out _).1 i.property).fi.cell rfl
 have k5 : ∀ i : { w' // S w' }, i.val.cell? ⟨w1.heap.size, 1, none⟩ = some (.slice (some ⟨g1, 0, none⟩) 8 c1) := fun i => ((HS.out _).1 i.property).ft.cell rfl
 have k6 : ∀ i : { w' // S w' }, i.val.cell? ⟨w.heap.size + 1, 1, none⟩ = some (.slice (some ⟨g, 0, none⟩) 8 c) := fun i => ((HS.out _).1 i.property).fs.cell rfl
 have k7 : ∀ i : { w' // S w' }, i.val.cell? ⟨w.heap.size, 0, none⟩ = some (.slice (some ⟨rb, ro, none⟩) rl rc) := fun i => ((HS.out _).1 i.property).fp.cell rfl
 obtain ⟨vs, hvs⟩ : ∃ v, sec ic.toNat = v := ⟨_, rfl⟩;have kr : ∀ i : { w' // S w' }, i.val.cell? ⟨rb, ro + ic.toNat * 2 + 1, none⟩ = some (.bool vs) := fun i => hvs ▸ (((HS.out _).1 i.property).regs ic.toNat (by omega)).2
 have Hx : Hid ((⟨17, vs⟩ : Kn) = ⟨17, sec ic.toNat⟩) := by show _ = _; rw [hvs]
 clear hvs;go_wp2_with (fail)
 rw [<- HW1.out];clear i0 i1 i2 i3 i4 zi;refine J03 (S := S) [(0, true), (1, true), (2, true), (3, true), (4, true), (5, true), (6, true), (7, true), (8, true), (9, true), (10, true), (11, true), (12, true), (13, false)] (by kernel_rfl) (by kernel_rfl) (by kernel_rfl) HS0 ?_
 iterate 13 (refine J00 rfl (by kernel_rfl) (fun K hK => ?_); go_simp; refine hK _ _ ?_; clear hK K)
 have Hm2 : Hid (More W1 W1.drew) := (More.refl _).drew;have HS2 : S W1.drew := HS0;have Hrow : Hid (KRow W1 g1 s) := HK1.out;have hr : a.toNat < 8 := by omega
 have q := Hrow.out a.toNat hr;have q0 := q.1.1;have q1 := q.1.2;have q2 := q.2.1;have q3 := q.2.2;obtain ⟨w3, Hw3⟩ : ∃ w3, Hid (w3 = ((W1.setCell ⟨g1, a.toNat * 2, none⟩ (V 17)).setCell ⟨g1, a.toNat * 2 + 1, none⟩ (.bool vs)).drew) := ⟨_, rfl⟩;have Hrow3 : Hid (KRow w3 g1 (setK s a ⟨17, vs⟩)) := Hw3.out ▸ (Hrow.out.set a ⟨17, vs⟩ hr).more (More.refl _).drew;have hg := HG.out;have hA := HA.out;have HF3 : Hid (LFix w.heap.size g c g1 c1 w1.heap.size (.slice (some ⟨rb, ro, none⟩) rl rc) (.slice (some ⟨cb, co, none⟩) cl cc) ⟨5, a, b, ic, n⟩ s rb ro rl log sec w3) := Hw3.out ▸ LFix.more (More.refl _).drew ((HF.out.set (by omega) (by omega) (by omega) (fun h0 => by have := hA.2 h0; omega) _ _).set (by omega) (by omega) (by omega) (fun h0 => by have := hA.2 h0; omega) _ _);have Hm3 : Hid (More w w3) := Hw3.out ▸ ((HM.out.setCell (by dsimp only; omega) _).setCell (by dsimp only; omega) _).drew;have HS3 : S w3 := (HS.out _).2 HF3.out;clear hg hA;refine J02 rfl (by kernel_rfl) (fun K hK => ?_); go_simp;rw [<- Hw3.out];refine hK _ _ HS3 ?_; clear hK K;refine J04 ?_;clear k0 k1 k2 k3 k4 k5 k6 k7 kr hne HS0 HS2 HS3 q q0 q1 q2 q3;have t0 := HF3.out.ft.cell (j := 0) (v := .bool true) rfl;have t1 := HF3.out.ft.cell (j := 1) (v := .slice (some ⟨g1, 0, none⟩) 8 c1) rfl;go_wp2;exact hP.out _ _ (LdAt.one rfl (Hx.out ▸ Hrow3.out) (by have := HG.out; omega)) (Hm3.out.alloc _ _)

theorem Jhs (ra : Option Addr) (rb ro rl rc : Nat) (log : Nat -> Int) (sec : Nat -> Bool) (cb co cl cc at_ g c : Nat) (op a b ic n : Int) (s : KS) (w : World) (hra : 0 < rl -> ra = some ⟨rb, ro, none⟩) (hregs : RegsAt w rb ro rl log sec)
  (q0 : w.cell? ⟨cb, co + at_ * 5, none⟩ = some (V op)) (q1 : w.cell? ⟨cb, co + at_ * 5 + 1, none⟩ = some (V a)) (q2 : w.cell? ⟨cb, co + at_ * 5 + 2, none⟩ = some (V b)) (q3 : w.cell? ⟨cb, co + at_ * 5 + 3, none⟩ = some (V ic)) (q4 : w.cell? ⟨cb, co + at_ * 5 + 4, none⟩ = some (V n))
  (hat : (at_ : Int) < cl) (hcl : (cl : Int) <= 200) (hk : KRow w g s) (ho0 : 21 <= op) (ho1 : op <= 30) (ha0 : 0 <= a) (ha1 : a < 8) (hb0 : 0 <= b) (hb1 : b < 8) (hc0 : 0 <= ic) (hc1 : ic < 8) :
  Calls Tryz.prog 13 #[.agg #[.slice ra rl rc, .slice (some ⟨cb, co, none⟩) cl cc], V at_, st true g c] w fun e w' => ∃ v, e = .returned v /\ LdAt w' w.heap.size v [(at_ + 1, setK s a (Kn.op (op - 20) (s b.toNat) (s ic.toNat)))] /\ More w w' := by
 have e7 : (op == 7) = false := by simp; omega
 have e9 : (op == 9) = false := by simp; omega
 have e8 : (op == 8) = false := by simp; omega
 have e1 : (op == 1) = false := by simp; omega
 have e2 : (op == 2) = false := by simp; omega
 have e10 : (op == 10) = false := by simp; omega
 have e3 : (op == 3) = false := by simp; omega
 have e5 : (op == 5) = false := by simp; omega
 have e11 : (op == 11) = false := by simp; omega
 have e4 : (op == 4) = false := by simp; omega
 have e6 : (op == 6) = false := by simp; omega
 have e12 : (op == 12) = false := by simp; omega
 have Hk : Hid (KRow w g s) := hk;have Hreg : Hid ((0 < rl -> ra = some ⟨rb, ro, none⟩) /\ RegsAt w rb ro rl log sec) := ⟨hra, hregs⟩;have hat2 : (at_ : Int) + 1 <= 200 := by omega
 have hcb : cb < w.heap.size := J06 q0;have hcb1 : cb < w.heap.size + 1 := by omega
 clear hk hra hregs
 suffices hP : ∀ P : Ending -> World -> Prop, (∀ v w', LdAt w' w.heap.size v [(at_ + 1, setK s a (Kn.op (op - 20) (s b.toNat) (s ic.toNat)))] -> More w w' -> P (.returned v) w') -> Calls Tryz.prog 13 #[.agg #[.slice ra rl rc, .slice (some ⟨cb, co, none⟩) cl cc], V at_, st true g c] w P from hP _ (fun v w' h1 h2 => ⟨v, rfl, h1, h2⟩)
 intro P hP0;have hP : Hid (∀ v w', LdAt w' w.heap.size v [(at_ + 1, setK s a (Kn.op (op - 20) (s b.toNat) (s ic.toNat)))] -> More w w' -> P (.returned v) w') := hP0;clear hP0;unfold st;go_enter Tryz.func13, Tryz.ntmps13;go_wp2_with (fail)
 refine (J0l true g c s _ (Hk.out.more (((More.refl _).alloc _ _).alloc _ _ |>.alloc _ _))).mono ?_;rintro e w1 ⟨g1, c1, rfl, hg1, hr1, m1⟩;obtain ⟨W1, HW1⟩ : ∃ W1 : World, Hid (W1 = w1.alloc (.cells #[.bool true, .slice (some ⟨g1, 0, none⟩) 8 c1] 50)) := ⟨_, rfl⟩;obtain ⟨HF, HK1, HM, HG, HA, HI⟩ := J1w (i := ⟨op, a, b, ic, n⟩) Hk.out Hreg.out.2 m1 hr1 hg1 HW1.out;replace HF := J0d HF;replace HK1 := J0d HK1;replace HM := J0d HM;replace HG := J0d HG;replace HA := J0d HA;replace HI := J0d HI;clear m1 hr1 hg1 q0 q1 q2 q3 q4;have i0 : w1.cell? ⟨w.heap.size + 1 + 1, 0, none⟩ = some (V op) := HI.out.cell rfl;have i1 : w1.cell? ⟨w.heap.size + 1 + 1, 1, none⟩ = some (V a) := HI.out.cell rfl;have i2 : w1.cell? ⟨w.heap.size + 1 + 1, 2, none⟩ = some (V b) := HI.out.cell rfl;have i3 : w1.cell? ⟨w.heap.size + 1 + 1, 3, none⟩ = some (V ic) := HI.out.cell rfl;have i4 : w1.cell? ⟨w.heap.size + 1 + 1, 4, none⟩ = some (V n) := HI.out.cell rfl;have zi : w.heap.size + 1 + 1 < w1.heap.size := HI.out.lt;obtain ⟨S, HS⟩ : ∃ S : World -> Prop, Hid (∀ w', S w' ↔ LFix w.heap.size g c g1 c1 w1.heap.size (.slice ra rl rc) (.slice (some ⟨cb, co, none⟩) cl cc) ⟨op, a, b, ic, n⟩ s rb ro rl log sec w') := ⟨_, fun _ => Iff.rfl⟩;have HSm : Hid (∀ w', More W1 w' -> S w') := fun w' m => (HS.out _).2 (HF.out.more m)
 have HS0 : S W1.drew := HSm.out _ (More.refl _).drew;have hne : Nonempty { w' // S w' } := ⟨⟨_, HS0⟩⟩;have k0 : ∀ i : { w' // S w' }, i.val.cell? ⟨w.heap.size + 1 + 1, 0, none⟩ = some (V op) := fun i => ((HS.out _).1 i.property).fi.cell rfl
 have k1 : ∀ i : { w' // S w' }, i.val.cell? ⟨w.heap.size + 1 + 1, 1, none⟩ = some (V a) := fun i => ((HS.out _).1 i.property).fi.cell rfl
 have k2 : ∀ i : { w' // S w' }, i.val.cell? ⟨w.heap.size + 1 + 1, 2, none⟩ = some (V b) := fun i => ((HS.out _).1 i.property).fi.cell rfl
 have k3 : ∀ i : { w' // S w' }, i.val.cell? ⟨w.heap.size + 1 + 1, 3, none⟩ = some (V ic) := fun i => ((HS.out _).1 i.property).fi.cell rfl
 have k4 : ∀ i : { w' // S w' }, i.val.cell? ⟨w.heap.size + 1 + 1, 4, none⟩ = some (V n) := fun i => ((HS.out _).1 i.property).fi.cell rfl
 have k5 : ∀ i : { w' // S w' }, i.val.cell? ⟨w1.heap.size, 1, none⟩ = some (.slice (some ⟨g1, 0, none⟩) 8 c1) := fun i => ((HS.out _).1 i.property).ft.cell rfl
 have k6 : ∀ i : { w' // S w' }, i.val.cell? ⟨w.heap.size + 1, 1, none⟩ = some (.slice (some ⟨g, 0, none⟩) 8 c) := fun i => ((HS.out _).1 i.property).fs.cell rfl
 have k7 : ∀ i : { w' // S w' }, i.val.cell? ⟨w.heap.size, 0, none⟩ = some (.slice ra rl rc) := fun i => ((HS.out _).1 i.property).fp.cell rfl
 obtain ⟨xb, hxb⟩ : ∃ x, s b.toNat = x := ⟨_, rfl⟩;have kb0 : ∀ i : { w' // S w' }, i.val.cell? ⟨g, b.toNat * 2, none⟩ = some (V xb.b) := fun i => hxb ▸ (((HS.out _).1 i.property).ks b.toNat (by omega)).1.1
 have kb1 : ∀ i : { w' // S w' }, i.val.cell? ⟨g, b.toNat * 2 + 1, none⟩ = some (.bool xb.s) := fun i => hxb ▸ (((HS.out _).1 i.property).ks b.toNat (by omega)).1.2
 obtain ⟨xc, hxc⟩ : ∃ x, s ic.toNat = x := ⟨_, rfl⟩;have kc0 : ∀ i : { w' // S w' }, i.val.cell? ⟨g, ic.toNat * 2, none⟩ = some (V xc.b) := fun i => hxc ▸ (((HS.out _).1 i.property).ks ic.toNat (by omega)).1.1
 have kc1 : ∀ i : { w' // S w' }, i.val.cell? ⟨g, ic.toNat * 2 + 1, none⟩ = some (.bool xc.s) := fun i => hxc ▸ (((HS.out _).1 i.property).ks ic.toNat (by omega)).1.2
 obtain ⟨v, hv⟩ : ∃ v, Kn.op (op - 20) xb xc = v := ⟨_, rfl⟩;have c2 : ∀ w : World, Calls Tryz.prog 31 #[V (op - 20), kn xb.b xb.s, kn xc.b xc.s] w fun e w' => e = .returned (kn v.b v.s) /\ More w w' := fun w => hv ▸ Ja0 (op - 20) xb.b xc.b xb.s xc.s w
 have Hx : Hid ((⟨v.b, v.s⟩ : Kn) = Kn.op (op - 20) (s b.toNat) (s ic.toNat)) := by rw [hxb, hxc]; exact hv.symm
 clear hv hxb hxc;obtain ⟨vb, vs⟩ := v;obtain ⟨xbb, xbs⟩ := xb;obtain ⟨xcb, xcs⟩ := xc;unfold kn at c2;dsimp only at c2 kb0 kb1 kc0 kc1;have hwr : IntKind.i64.wrap (op - 20) = op - 20 := by rw [IntKind.wrap_i64]; omega
 go_wp2_with (fail)
 rw [<- HW1.out];clear i0 i1 i2 i3 i4 zi;refine J03 (S := S) [(0, true), (1, true), (2, true), (3, true), (4, true), (5, true), (6, true), (7, true), (8, true), (9, true), (10, true), (11, true), (12, true), (13, true), (14, true), (15, true), (16, true), (17, true), (18, true), (19, false), (20, true), (21, false)] (by kernel_rfl) (by kernel_rfl) (by kernel_rfl) HS0 ?_
 iterate 19 (refine J00 rfl (by kernel_rfl) (fun K hK => ?_); go_simp; refine hK _ _ ?_; clear hK K)
 refine J02 rfl (by kernel_rfl) (fun K hK => ?_); go_simp
 try rw [hwr]
 refine (c2 _).mono ?_;rintro e w2 ⟨rfl, m2⟩;have Hm2 : Hid (More W1 w2) := (More.refl _).drew.trans m2;have HS2 : S w2 := HSm.out _ Hm2.out;clear m2
 go_simp
 refine hK _ _ HS2 ?_; clear hK K
 (refine J00 rfl (by kernel_rfl) (fun K hK => ?_); go_simp; refine hK _ _ ?_; clear hK K)
 have Hrow : Hid (KRow w2 g1 s) := HK1.out.more Hm2.out;have hr : a.toNat < 8 := by omega
 have q := Hrow.out a.toNat hr;have q0 := q.1.1;have q1 := q.1.2;have q2 := q.2.1;have q3 := q.2.2;obtain ⟨w3, Hw3⟩ : ∃ w3, Hid (w3 = (w2.setCell ⟨g1, a.toNat * 2, none⟩ (V vb)).setCell ⟨g1, a.toNat * 2 + 1, none⟩ (.bool vs)) := ⟨_, rfl⟩;have Hrow3 : Hid (KRow w3 g1 (setK s a ⟨vb, vs⟩)) := Hw3.out ▸ Hrow.out.set a ⟨vb, vs⟩ hr;have hg := HG.out;have hA := HA.out;have HF3 : Hid (LFix w.heap.size g c g1 c1 w1.heap.size (.slice ra rl rc) (.slice (some ⟨cb, co, none⟩) cl cc) ⟨op, a, b, ic, n⟩ s rb ro rl log sec w3) := Hw3.out ▸ ((HF.out.more Hm2.out).set (by omega) (by omega) (by omega) (fun h0 => by have := hA.2 h0; omega) _ _).set (by omega) (by omega) (by omega) (fun h0 => by have := hA.2 h0; omega) _ _;have Hm3 : Hid (More w w3) := Hw3.out ▸ (((HM.out.trans Hm2.out).setCell (by dsimp only; omega) _).setCell (by dsimp only; omega) _);have HS3 : S w3 := (HS.out _).2 HF3.out;clear hg hA;refine J02 rfl (by kernel_rfl) (fun K hK => ?_); go_simp;rw [<- Hw3.out];refine hK _ _ HS3 ?_; clear hK K;refine J04 ?_;clear k0 k1 k2 k3 k4 k5 k6 k7 kb0 kb1 kc0 kc1 hne HS0 HS2 HS3 q q0 q1 q2 q3;have t0 := HF3.out.ft.cell (j := 0) (v := .bool true) rfl;have t1 := HF3.out.ft.cell (j := 1) (v := .slice (some ⟨g1, 0, none⟩) 8 c1) rfl;go_wp2;exact hP.out _ _ (LdAt.one rfl (Hx.out ▸ Hrow3.out) (by have := HG.out; omega)) (Hm3.out.alloc _ _)
theorem Jks (ra : Option Addr) (rb ro rl rc : Nat) (log : Nat -> Int) (sec : Nat -> Bool) (cb co cl cc at_ g c : Nat) (a b ic n : Int) (s : KS) (w : World) (hra : 0 < rl -> ra = some ⟨rb, ro, none⟩) (hregs : RegsAt w rb ro rl log sec)
  (q0 : w.cell? ⟨cb, co + at_ * 5, none⟩ = some (V 4)) (q1 : w.cell? ⟨cb, co + at_ * 5 + 1, none⟩ = some (V a)) (q2 : w.cell? ⟨cb, co + at_ * 5 + 2, none⟩ = some (V b)) (q3 : w.cell? ⟨cb, co + at_ * 5 + 3, none⟩ = some (V ic)) (q4 : w.cell? ⟨cb, co + at_ * 5 + 4, none⟩ = some (V n))
  (hat : (at_ : Int) < cl) (hcl : (cl : Int) <= 200) (hk : KRow w g s) :
  Calls Tryz.prog 13 #[.agg #[.slice ra rl rc, .slice (some ⟨cb, co, none⟩) cl cc], V at_, st true g c] w fun e w' => ∃ v, e = .returned v /\ LdAt w' w.heap.size v [(at_ + 1, s)] /\ More w w' := by
 have Hk : Hid (KRow w g s) := hk;have Hreg : Hid ((0 < rl -> ra = some ⟨rb, ro, none⟩) /\ RegsAt w rb ro rl log sec) := ⟨hra, hregs⟩;have hat2 : (at_ : Int) + 1 <= 200 := by omega
 have hcb : cb < w.heap.size := J06 q0;have hcb1 : cb < w.heap.size + 1 := by omega
 clear hk hra hregs
 suffices hP : ∀ P : Ending -> World -> Prop, (∀ v w', LdAt w' w.heap.size v [(at_ + 1, s)] -> More w w' -> P (.returned v) w') -> Calls Tryz.prog 13 #[.agg #[.slice ra rl rc, .slice (some ⟨cb, co, none⟩) cl cc], V at_, st true g c] w P from hP _ (fun v w' h1 h2 => ⟨v, rfl, h1, h2⟩)
 intro P hP0;have hP : Hid (∀ v w', LdAt w' w.heap.size v [(at_ + 1, s)] -> More w w' -> P (.returned v) w') := hP0;clear hP0;unfold st;go_enter Tryz.func13, Tryz.ntmps13;go_wp2_with (fail)
 refine (J0l true g c s _ (Hk.out.more (((More.refl _).alloc _ _).alloc _ _ |>.alloc _ _))).mono ?_;rintro e w1 ⟨g1, c1, rfl, hg1, hr1, m1⟩;obtain ⟨W1, HW1⟩ : ∃ W1 : World, Hid (W1 = w1.alloc (.cells #[.bool true, .slice (some ⟨g1, 0, none⟩) 8 c1] 50)) := ⟨_, rfl⟩;obtain ⟨HF, HK1, HM, HG, HA, HI⟩ := J1w (i := ⟨4, a, b, ic, n⟩) Hk.out Hreg.out.2 m1 hr1 hg1 HW1.out;replace HF := J0d HF;replace HK1 := J0d HK1;replace HM := J0d HM;replace HG := J0d HG;replace HA := J0d HA;replace HI := J0d HI;clear m1 hr1 hg1 q0 q1 q2 q3 q4;have i0 : w1.cell? ⟨w.heap.size + 1 + 1, 0, none⟩ = some (V 4) := HI.out.cell rfl;have i1 : w1.cell? ⟨w.heap.size + 1 + 1, 1, none⟩ = some (V a) := HI.out.cell rfl;have i2 : w1.cell? ⟨w.heap.size + 1 + 1, 2, none⟩ = some (V b) := HI.out.cell rfl;have i3 : w1.cell? ⟨w.heap.size + 1 + 1, 3, none⟩ = some (V ic) := HI.out.cell rfl;have i4 : w1.cell? ⟨w.heap.size + 1 + 1, 4, none⟩ = some (V n) := HI.out.cell rfl;have zi : w.heap.size + 1 + 1 < w1.heap.size := HI.out.lt;have Hmw : Hid (More w (w1.alloc (.cells #[.bool true, .slice (some ⟨g1, 0, none⟩) 8 c1] 50))) := HW1.out ▸ HM.out;have Hkw : Hid (KRow (w1.alloc (.cells #[.bool true, .slice (some ⟨g1, 0, none⟩) 8 c1] 50)) g1 s) := HW1.out ▸ HK1.out;go_wp2;exact hP.out _ _ (LdAt.one (by simp) Hkw.out (by have := HG.out; omega)) (Hmw.out.alloc _ _)

theorem Jku (ra : Option Addr) (rb ro rl rc : Nat) (log : Nat -> Int) (sec : Nat -> Bool) (cb co cl cc at_ g c : Nat) (a b ic n : Int) (s : KS) (w : World) (hra : 0 < rl -> ra = some ⟨rb, ro, none⟩) (hregs : RegsAt w rb ro rl log sec)
  (q0 : w.cell? ⟨cb, co + at_ * 5, none⟩ = some (V 6)) (q1 : w.cell? ⟨cb, co + at_ * 5 + 1, none⟩ = some (V a)) (q2 : w.cell? ⟨cb, co + at_ * 5 + 2, none⟩ = some (V b)) (q3 : w.cell? ⟨cb, co + at_ * 5 + 3, none⟩ = some (V ic)) (q4 : w.cell? ⟨cb, co + at_ * 5 + 4, none⟩ = some (V n))
  (hat : (at_ : Int) < cl) (hcl : (cl : Int) <= 200) (hk : KRow w g s) :
  Calls Tryz.prog 13 #[.agg #[.slice ra rl rc, .slice (some ⟨cb, co, none⟩) cl cc], V at_, st true g c] w fun e w' => ∃ v, e = .returned v /\ LdAt w' w.heap.size v [(at_ + 1, s)] /\ More w w' := by
 have Hk : Hid (KRow w g s) := hk;have Hreg : Hid ((0 < rl -> ra = some ⟨rb, ro, none⟩) /\ RegsAt w rb ro rl log sec) := ⟨hra, hregs⟩;have hat2 : (at_ : Int) + 1 <= 200 := by omega
 have hcb : cb < w.heap.size := J06 q0;have hcb1 : cb < w.heap.size + 1 := by omega
 clear hk hra hregs
 suffices hP : ∀ P : Ending -> World -> Prop, (∀ v w', LdAt w' w.heap.size v [(at_ + 1, s)] -> More w w' -> P (.returned v) w') -> Calls Tryz.prog 13 #[.agg #[.slice ra rl rc, .slice (some ⟨cb, co, none⟩) cl cc], V at_, st true g c] w P from hP _ (fun v w' h1 h2 => ⟨v, rfl, h1, h2⟩)
 intro P hP0;have hP : Hid (∀ v w', LdAt w' w.heap.size v [(at_ + 1, s)] -> More w w' -> P (.returned v) w') := hP0;clear hP0;unfold st;go_enter Tryz.func13, Tryz.ntmps13;go_wp2_with (fail)
 refine (J0l true g c s _ (Hk.out.more (((More.refl _).alloc _ _).alloc _ _ |>.alloc _ _))).mono ?_;rintro e w1 ⟨g1, c1, rfl, hg1, hr1, m1⟩;obtain ⟨W1, HW1⟩ : ∃ W1 : World, Hid (W1 = w1.alloc (.cells #[.bool true, .slice (some ⟨g1, 0, none⟩) 8 c1] 50)) := ⟨_, rfl⟩;obtain ⟨HF, HK1, HM, HG, HA, HI⟩ := J1w (i := ⟨6, a, b, ic, n⟩) Hk.out Hreg.out.2 m1 hr1 hg1 HW1.out;replace HF := J0d HF;replace HK1 := J0d HK1;replace HM := J0d HM;replace HG := J0d HG;replace HA := J0d HA;replace HI := J0d HI;clear m1 hr1 hg1 q0 q1 q2 q3 q4;have i0 : w1.cell? ⟨w.heap.size + 1 + 1, 0, none⟩ = some (V 6) := HI.out.cell rfl;have i1 : w1.cell? ⟨w.heap.size + 1 + 1, 1, none⟩ = some (V a) := HI.out.cell rfl;have i2 : w1.cell? ⟨w.heap.size + 1 + 1, 2, none⟩ = some (V b) := HI.out.cell rfl;have i3 : w1.cell? ⟨w.heap.size + 1 + 1, 3, none⟩ = some (V ic) := HI.out.cell rfl;have i4 : w1.cell? ⟨w.heap.size + 1 + 1, 4, none⟩ = some (V n) := HI.out.cell rfl;have zi : w.heap.size + 1 + 1 < w1.heap.size := HI.out.lt;have Hmw : Hid (More w (w1.alloc (.cells #[.bool true, .slice (some ⟨g1, 0, none⟩) 8 c1] 50))) := HW1.out ▸ HM.out;have Hkw : Hid (KRow (w1.alloc (.cells #[.bool true, .slice (some ⟨g1, 0, none⟩) 8 c1] 50)) g1 s) := HW1.out ▸ HK1.out;go_wp2;exact hP.out _ _ (LdAt.one (by simp) Hkw.out (by have := HG.out; omega)) (Hmw.out.alloc _ _)

theorem Jhr (ra : Option Addr) (rb ro rl rc : Nat) (log : Nat -> Int) (sec : Nat -> Bool) (cb co cl cc at_ g c : Nat) (a b ic n : Int) (s : KS) (w : World) (hra : 0 < rl -> ra = some ⟨rb, ro, none⟩) (hregs : RegsAt w rb ro rl log sec)
  (q0 : w.cell? ⟨cb, co + at_ * 5, none⟩ = some (V 12)) (q1 : w.cell? ⟨cb, co + at_ * 5 + 1, none⟩ = some (V a)) (q2 : w.cell? ⟨cb, co + at_ * 5 + 2, none⟩ = some (V b)) (q3 : w.cell? ⟨cb, co + at_ * 5 + 3, none⟩ = some (V ic)) (q4 : w.cell? ⟨cb, co + at_ * 5 + 4, none⟩ = some (V n))
  (hat : (at_ : Int) < cl) (hcl : (cl : Int) <= 200) (hk : KRow w g s) :
  Calls Tryz.prog 13 #[.agg #[.slice ra rl rc, .slice (some ⟨cb, co, none⟩) cl cc], V at_, st true g c] w fun e w' => ∃ v, e = .returned v /\ LdAt w' w.heap.size v [(at_ + 1, s)] /\ More w w' := by
 have Hk : Hid (KRow w g s) := hk;have Hreg : Hid ((0 < rl -> ra = some ⟨rb, ro, none⟩) /\ RegsAt w rb ro rl log sec) := ⟨hra, hregs⟩;have hat2 : (at_ : Int) + 1 <= 200 := by omega
 have hcb : cb < w.heap.size := J06 q0;have hcb1 : cb < w.heap.size + 1 := by omega
 clear hk hra hregs
 suffices hP : ∀ P : Ending -> World -> Prop, (∀ v w', LdAt w' w.heap.size v [(at_ + 1, s)] -> More w w' -> P (.returned v) w') -> Calls Tryz.prog 13 #[.agg #[.slice ra rl rc, .slice (some ⟨cb, co, none⟩) cl cc], V at_, st true g c] w P from hP _ (fun v w' h1 h2 => ⟨v, rfl, h1, h2⟩)
 intro P hP0;have hP : Hid (∀ v w', LdAt w' w.heap.size v [(at_ + 1, s)] -> More w w' -> P (.returned v) w') := hP0;clear hP0;unfold st;go_enter Tryz.func13, Tryz.ntmps13;go_wp2_with (fail)
 refine (J0l true g c s _ (Hk.out.more (((More.refl _).alloc _ _).alloc _ _ |>.alloc _ _))).mono ?_;rintro e w1 ⟨g1, c1, rfl, hg1, hr1, m1⟩;obtain ⟨W1, HW1⟩ : ∃ W1 : World, Hid (W1 = w1.alloc (.cells #[.bool true, .slice (some ⟨g1, 0, none⟩) 8 c1] 50)) := ⟨_, rfl⟩;obtain ⟨HF, HK1, HM, HG, HA, HI⟩ := J1w (i := ⟨12, a, b, ic, n⟩) Hk.out Hreg.out.2 m1 hr1 hg1 HW1.out;replace HF := J0d HF;replace HK1 := J0d HK1;replace HM := J0d HM;replace HG := J0d HG;replace HA := J0d HA;replace HI := J0d HI;clear m1 hr1 hg1 q0 q1 q2 q3 q4;have i0 : w1.cell? ⟨w.heap.size + 1 + 1, 0, none⟩ = some (V 12) := HI.out.cell rfl;have i1 : w1.cell? ⟨w.heap.size + 1 + 1, 1, none⟩ = some (V a) := HI.out.cell rfl;have i2 : w1.cell? ⟨w.heap.size + 1 + 1, 2, none⟩ = some (V b) := HI.out.cell rfl;have i3 : w1.cell? ⟨w.heap.size + 1 + 1, 3, none⟩ = some (V ic) := HI.out.cell rfl;have i4 : w1.cell? ⟨w.heap.size + 1 + 1, 4, none⟩ = some (V n) := HI.out.cell rfl;have zi : w.heap.size + 1 + 1 < w1.heap.size := HI.out.lt;have Hmw : Hid (More w (w1.alloc (.cells #[.bool true, .slice (some ⟨g1, 0, none⟩) 8 c1] 50))) := HW1.out ▸ HM.out;have Hkw : Hid (KRow (w1.alloc (.cells #[.bool true, .slice (some ⟨g1, 0, none⟩) 8 c1] 50)) g1 s) := HW1.out ▸ HK1.out;go_wp2;exact hP.out _ _ (LdAt.one (by simp) Hkw.out (by have := HG.out; omega)) (Hmw.out.alloc _ _)

theorem Jkv (ra : Option Addr) (rb ro rl rc : Nat) (log : Nat -> Int) (sec : Nat -> Bool) (cb co cl cc at_ g c : Nat) (a b ic n : Int) (s : KS) (w : World) (hra : 0 < rl -> ra = some ⟨rb, ro, none⟩) (hregs : RegsAt w rb ro rl log sec)
  (q0 : w.cell? ⟨cb, co + at_ * 5, none⟩ = some (V 7)) (q1 : w.cell? ⟨cb, co + at_ * 5 + 1, none⟩ = some (V a)) (q2 : w.cell? ⟨cb, co + at_ * 5 + 2, none⟩ = some (V b)) (q3 : w.cell? ⟨cb, co + at_ * 5 + 3, none⟩ = some (V ic)) (q4 : w.cell? ⟨cb, co + at_ * 5 + 4, none⟩ = some (V n))
  (hat : (at_ : Int) < cl) (hcl : (cl : Int) <= 200) (hk : KRow w g s) (n0 : 0 <= n) (n1 : n < 200) :
  Calls Tryz.prog 13 #[.agg #[.slice ra rl rc, .slice (some ⟨cb, co, none⟩) cl cc], V at_, st true g c] w fun e w' => ∃ v, e = .returned v /\ LdAt w' w.heap.size v [(n.toNat, s)] /\ More w w' := by
 have Hk : Hid (KRow w g s) := hk;have Hreg : Hid ((0 < rl -> ra = some ⟨rb, ro, none⟩) /\ RegsAt w rb ro rl log sec) := ⟨hra, hregs⟩;have hat2 : (at_ : Int) + 1 <= 200 := by omega
 have hcb : cb < w.heap.size := J06 q0;have hcb1 : cb < w.heap.size + 1 := by omega
 clear hk hra hregs
 suffices hP : ∀ P : Ending -> World -> Prop, (∀ v w', LdAt w' w.heap.size v [(n.toNat, s)] -> More w w' -> P (.returned v) w') -> Calls Tryz.prog 13 #[.agg #[.slice ra rl rc, .slice (some ⟨cb, co, none⟩) cl cc], V at_, st true g c] w P from hP _ (fun v w' h1 h2 => ⟨v, rfl, h1, h2⟩)
 intro P hP0;have hP : Hid (∀ v w', LdAt w' w.heap.size v [(n.toNat, s)] -> More w w' -> P (.returned v) w') := hP0;clear hP0;unfold st;go_enter Tryz.func13, Tryz.ntmps13;go_wp2_with (fail)
 refine (J0l true g c s _ (Hk.out.more (((More.refl _).alloc _ _).alloc _ _ |>.alloc _ _))).mono ?_;rintro e w1 ⟨g1, c1, rfl, hg1, hr1, m1⟩;obtain ⟨W1, HW1⟩ : ∃ W1 : World, Hid (W1 = w1.alloc (.cells #[.bool true, .slice (some ⟨g1, 0, none⟩) 8 c1] 50)) := ⟨_, rfl⟩;obtain ⟨HF, HK1, HM, HG, HA, HI⟩ := J1w (i := ⟨7, a, b, ic, n⟩) Hk.out Hreg.out.2 m1 hr1 hg1 HW1.out;replace HF := J0d HF;replace HK1 := J0d HK1;replace HM := J0d HM;replace HG := J0d HG;replace HA := J0d HA;replace HI := J0d HI;clear m1 hr1 hg1 q0 q1 q2 q3 q4;have i0 : w1.cell? ⟨w.heap.size + 1 + 1, 0, none⟩ = some (V 7) := HI.out.cell rfl;have i1 : w1.cell? ⟨w.heap.size + 1 + 1, 1, none⟩ = some (V a) := HI.out.cell rfl;have i2 : w1.cell? ⟨w.heap.size + 1 + 1, 2, none⟩ = some (V b) := HI.out.cell rfl;have i3 : w1.cell? ⟨w.heap.size + 1 + 1, 3, none⟩ = some (V ic) := HI.out.cell rfl;have i4 : w1.cell? ⟨w.heap.size + 1 + 1, 4, none⟩ = some (V n) := HI.out.cell rfl;have zi : w.heap.size + 1 + 1 < w1.heap.size := HI.out.lt;have hn : ((n.toNat : Nat) : Int) = n := by omega
 have Hn : Hid (((n.toNat : Nat) : Int) = n) := hn;clear hn;have Hmw : Hid (More w (w1.alloc (.cells #[.bool true, .slice (some ⟨g1, 0, none⟩) 8 c1] 50))) := HW1.out ▸ HM.out;have Hkw : Hid (KRow (w1.alloc (.cells #[.bool true, .slice (some ⟨g1, 0, none⟩) 8 c1] 50)) g1 s) := HW1.out ▸ HK1.out;go_wp2;exact hP.out _ _ (by have := LdAt.one (to := n.toNat) (c := c1) (cap := 1) (b := w1.heap.size + 1) (by simp) Hkw.out (lo := w.heap.size) (by have := HG.out; omega); rw [Hn.out] at this; exact this) (Hmw.out.alloc _ _)

theorem Jkx (ra : Option Addr) (rb ro rl rc : Nat) (log : Nat -> Int) (sec : Nat -> Bool) (cb co cl cc at_ g c : Nat) (a b ic n : Int) (s : KS) (w : World) (hra : 0 < rl -> ra = some ⟨rb, ro, none⟩) (hregs : RegsAt w rb ro rl log sec)
  (q0 : w.cell? ⟨cb, co + at_ * 5, none⟩ = some (V 9)) (q1 : w.cell? ⟨cb, co + at_ * 5 + 1, none⟩ = some (V a)) (q2 : w.cell? ⟨cb, co + at_ * 5 + 2, none⟩ = some (V b)) (q3 : w.cell? ⟨cb, co + at_ * 5 + 3, none⟩ = some (V ic)) (q4 : w.cell? ⟨cb, co + at_ * 5 + 4, none⟩ = some (V n))
  (hat : (at_ : Int) < cl) (hcl : (cl : Int) <= 200) (hk : KRow w g s) :
  Calls Tryz.prog 13 #[.agg #[.slice ra rl rc, .slice (some ⟨cb, co, none⟩) cl cc], V at_, st true g c] w fun e w' => ∃ v, e = .returned v /\ LdAt w' w.heap.size v [] /\ More w w' := by
 have Hk : Hid (KRow w g s) := hk;have Hreg : Hid ((0 < rl -> ra = some ⟨rb, ro, none⟩) /\ RegsAt w rb ro rl log sec) := ⟨hra, hregs⟩;have hat2 : (at_ : Int) + 1 <= 200 := by omega
 have hcb : cb < w.heap.size := J06 q0;have hcb1 : cb < w.heap.size + 1 := by omega
 clear hk hra hregs
 suffices hP : ∀ P : Ending -> World -> Prop, (∀ v w', LdAt w' w.heap.size v [] -> More w w' -> P (.returned v) w') -> Calls Tryz.prog 13 #[.agg #[.slice ra rl rc, .slice (some ⟨cb, co, none⟩) cl cc], V at_, st true g c] w P from hP _ (fun v w' h1 h2 => ⟨v, rfl, h1, h2⟩)
 intro P hP0;have hP : Hid (∀ v w', LdAt w' w.heap.size v [] -> More w w' -> P (.returned v) w') := hP0;clear hP0;unfold st;go_enter Tryz.func13, Tryz.ntmps13;go_wp2_with (fail)
 refine (J0l true g c s _ (Hk.out.more (((More.refl _).alloc _ _).alloc _ _ |>.alloc _ _))).mono ?_;rintro e w1 ⟨g1, c1, rfl, hg1, hr1, m1⟩;obtain ⟨W1, HW1⟩ : ∃ W1 : World, Hid (W1 = w1.alloc (.cells #[.bool true, .slice (some ⟨g1, 0, none⟩) 8 c1] 50)) := ⟨_, rfl⟩;obtain ⟨HF, HK1, HM, HG, HA, HI⟩ := J1w (i := ⟨9, a, b, ic, n⟩) Hk.out Hreg.out.2 m1 hr1 hg1 HW1.out;replace HF := J0d HF;replace HK1 := J0d HK1;replace HM := J0d HM;replace HG := J0d HG;replace HA := J0d HA;replace HI := J0d HI;clear m1 hr1 hg1 q0 q1 q2 q3 q4;have i0 : w1.cell? ⟨w.heap.size + 1 + 1, 0, none⟩ = some (V 9) := HI.out.cell rfl;have i1 : w1.cell? ⟨w.heap.size + 1 + 1, 1, none⟩ = some (V a) := HI.out.cell rfl;have i2 : w1.cell? ⟨w.heap.size + 1 + 1, 2, none⟩ = some (V b) := HI.out.cell rfl;have i3 : w1.cell? ⟨w.heap.size + 1 + 1, 3, none⟩ = some (V ic) := HI.out.cell rfl;have i4 : w1.cell? ⟨w.heap.size + 1 + 1, 4, none⟩ = some (V n) := HI.out.cell rfl;have zi : w.heap.size + 1 + 1 < w1.heap.size := HI.out.lt;have Hmw : Hid (More w (w1.alloc (.cells #[.bool true, .slice (some ⟨g1, 0, none⟩) 8 c1] 50))) := HW1.out ▸ HM.out;have Hkw : Hid (KRow (w1.alloc (.cells #[.bool true, .slice (some ⟨g1, 0, none⟩) 8 c1] 50)) g1 s) := HW1.out ▸ HK1.out;go_wp2;exact hP.out _ _ ⟨none, w.heap.size, 0, rfl, fun h => absurd h (by simp), Nat.le_refl _, by simp, fun k x hx => by simp at hx⟩ Hmw.out
theorem Jkw (ra : Option Addr) (rb ro rl rc : Nat) (log : Nat -> Int) (sec : Nat -> Bool) (cb co cl cc at_ g c : Nat) (a b ic n : Int) (s : KS) (w : World) (hra : 0 < rl -> ra = some ⟨rb, ro, none⟩) (hregs : RegsAt w rb ro rl log sec)
  (q0 : w.cell? ⟨cb, co + at_ * 5, none⟩ = some (V 8)) (q1 : w.cell? ⟨cb, co + at_ * 5 + 1, none⟩ = some (V a)) (q2 : w.cell? ⟨cb, co + at_ * 5 + 2, none⟩ = some (V b)) (q3 : w.cell? ⟨cb, co + at_ * 5 + 3, none⟩ = some (V ic)) (q4 : w.cell? ⟨cb, co + at_ * 5 + 4, none⟩ = some (V n))
  (hat : (at_ : Int) < cl) (hcl : (cl : Int) <= 200) (hk : KRow w g s) (ha0 : 0 <= a) (ha1 : a < 8) (hb0 : 0 <= b) (hb1 : b < 8) (hic : ic = 1 \/ ic = 2 \/ ic = 3 \/ ic = 4) (n0 : 0 <= n) (n1 : n < 200) :
  Calls Tryz.prog 13 #[.agg #[.slice ra rl rc, .slice (some ⟨cb, co, none⟩) cl cc], V at_, st true g c] w fun e w' => ∃ v, e = .returned v /\ LdAt w' w.heap.size v [(n.toNat, yesK ⟨8, a, b, ic, n⟩ s), (at_ + 1, noK ⟨8, a, b, ic, n⟩ s)] /\ More w w' := by
 have Hk : Hid (KRow w g s) := hk;have Hreg : Hid ((0 < rl -> ra = some ⟨rb, ro, none⟩) /\ RegsAt w rb ro rl log sec) := ⟨hra, hregs⟩;have hat2 : (at_ : Int) + 1 <= 200 := by omega
 have hcb : cb < w.heap.size := J06 q0;have hcb1 : cb < w.heap.size + 1 := by omega
 clear hk hra hregs
 suffices hP : ∀ P : Ending -> World -> Prop, (∀ v w', LdAt w' w.heap.size v [(n.toNat, yesK ⟨8, a, b, ic, n⟩ s), (at_ + 1, noK ⟨8, a, b, ic, n⟩ s)] -> More w w' -> P (.returned v) w') -> Calls Tryz.prog 13 #[.agg #[.slice ra rl rc, .slice (some ⟨cb, co, none⟩) cl cc], V at_, st true g c] w P from hP _ (fun v w' h1 h2 => ⟨v, rfl, h1, h2⟩)
 intro P hP0;have hP : Hid (∀ v w', LdAt w' w.heap.size v [(n.toNat, yesK ⟨8, a, b, ic, n⟩ s), (at_ + 1, noK ⟨8, a, b, ic, n⟩ s)] -> More w w' -> P (.returned v) w') := hP0;clear hP0;unfold st;go_enter Tryz.func13, Tryz.ntmps13;go_wp2_with (fail)
 refine (J0l true g c s _ (Hk.out.more (((More.refl _).alloc _ _).alloc _ _ |>.alloc _ _))).mono ?_;rintro e w1 ⟨g1, c1, rfl, hg1, hr1, m1⟩;obtain ⟨W1, HW1⟩ : ∃ W1 : World, Hid (W1 = w1.alloc (.cells #[.bool true, .slice (some ⟨g1, 0, none⟩) 8 c1] 50)) := ⟨_, rfl⟩;obtain ⟨HF, HK1, HM, HG, HA, HI⟩ := J1w (i := ⟨8, a, b, ic, n⟩) Hk.out Hreg.out.2 m1 hr1 hg1 HW1.out;replace HF := J0d HF;replace HK1 := J0d HK1;replace HM := J0d HM;replace HG := J0d HG;replace HA := J0d HA;replace HI := J0d HI;have HX0 : KRow w1 g s /\ Blk w1 (w.heap.size + 1) #[.bool true, .slice (some ⟨g, 0, none⟩) 8 c] 50 := ⟨Hk.out.more ((((More.refl _).alloc _ _).alloc _ _ |>.alloc _ _).trans m1), ((by simpa using Blk.last (w.alloc (.cells #[.slice ra rl rc, .slice (some ⟨cb, co, none⟩) cl cc] 25)) #[.bool true, .slice (some ⟨g, 0, none⟩) 8 c] 50 : Blk ((w.alloc (.cells #[.slice ra rl rc, .slice (some ⟨cb, co, none⟩) cl cc] 25)).alloc (.cells #[.bool true, .slice (some ⟨g, 0, none⟩) 8 c] 50)) (w.heap.size + 1) #[.bool true, .slice (some ⟨g, 0, none⟩) 8 c] 50).more ((More.refl _).alloc _ _)).more m1⟩;clear m1 hr1 hg1 q0 q1 q2 q3 q4;have i0 : w1.cell? ⟨w.heap.size + 1 + 1, 0, none⟩ = some (V 8) := HI.out.cell rfl;have i1 : w1.cell? ⟨w.heap.size + 1 + 1, 1, none⟩ = some (V a) := HI.out.cell rfl;have i2 : w1.cell? ⟨w.heap.size + 1 + 1, 2, none⟩ = some (V b) := HI.out.cell rfl
 have i3 : w1.cell? ⟨w.heap.size + 1 + 1, 3, none⟩ = some (V ic) := HI.out.cell rfl;have i4 : w1.cell? ⟨w.heap.size + 1 + 1, 4, none⟩ = some (V n) := HI.out.cell rfl;have zi : w.heap.size + 1 + 1 < w1.heap.size := HI.out.lt;have Hn : Hid (((n.toNat : Nat) : Int) = n) := by show _ = _; omega
 obtain ⟨xa, hxa⟩ : ∃ x, s a.toNat = x := ⟨_, rfl⟩;obtain ⟨xb, hxb⟩ : ∃ x, s b.toNat = x := ⟨_, rfl⟩;have Hx : Hid (s a.toNat = ⟨xa.b, xa.s⟩ /\ s b.toNat = ⟨xb.b, xb.s⟩) := ⟨hxa, hxb⟩;obtain ⟨xab, xas⟩ := xa;obtain ⟨xbb, xbs⟩ := xb;clear hxa hxb;dsimp only at Hx;have HX : Hid (KRow w1 g s /\ Blk w1 (w.heap.size + 1) #[.bool true, .slice (some ⟨g, 0, none⟩) 8 c] 50) := HX0;have s1 : w1.cell? ⟨w.heap.size + 1, 1, none⟩ = some (.slice (some ⟨g, 0, none⟩) 8 c) := HX.out.2.cell rfl;have zs : w.heap.size + 1 < w1.heap.size := HX.out.2.lt;have a0 : w1.cell? ⟨g, a.toNat * 2, none⟩ = some (V xab) := by have := (HX.out.1 a.toNat (by omega)).1.1; rw [Hx.out.1] at this; exact this
 have a1 : w1.cell? ⟨g, a.toNat * 2 + 1, none⟩ = some (.bool xas) := by have := (HX.out.1 a.toNat (by omega)).1.2; rw [Hx.out.1] at this; exact this
 have b0 : w1.cell? ⟨g, b.toNat * 2, none⟩ = some (V xbb) := by have := (HX.out.1 b.toNat (by omega)).1.1; rw [Hx.out.2] at this; exact this
 have b1 : w1.cell? ⟨g, b.toNat * 2 + 1, none⟩ = some (.bool xbs) := by have := (HX.out.1 b.toNat (by omega)).1.2; rw [Hx.out.2] at this; exact this
 have zg : g < w1.heap.size := J06 a0;have zg1 : g < w1.heap.size + 1 := by omega
 have zs1 : w.heap.size + 1 < w1.heap.size + 1 := by omega
 have zi1 : w.heap.size + 1 + 1 < w1.heap.size + 1 := by omega
 have zi2 : w.heap.size + 1 + 1 < w1.heap.size + 1 + 1 := by omega
 have Hkw : Hid (KRow (w1.alloc (.cells #[.bool true, .slice (some ⟨g1, 0, none⟩) 8 c1] 50)) g1 s /\ More w (w1.alloc (.cells #[.bool true, .slice (some ⟨g1, 0, none⟩) 8 c1] 50))) := ⟨HW1.out ▸ HK1.out, HW1.out ▸ HM.out⟩;obtain ⟨WB, HWB⟩ : ∃ WB : World, Hid (WB = ((w1.alloc (.cells #[.bool true, .slice (some ⟨g1, 0, none⟩) 8 c1] 50)).alloc (.cells #[V xab, .bool xas] 56)).alloc (.cells #[V xbb, .bool xbs] 56)) := ⟨_, rfl⟩;have HmB : Hid (More (w1.alloc (.cells #[.bool true, .slice (some ⟨g1, 0, none⟩) 8 c1] 50)) WB) := HWB.out ▸ ((More.refl _).alloc _ _).alloc _ _;have HT8 : Hid (Blk WB w1.heap.size #[.bool true, .slice (some ⟨g1, 0, none⟩) 8 c1] 50) := (Blk.last w1 _ _).more HmB.out
 have HTA : Hid (Blk WB (w1.heap.size + 1) #[V xab, .bool xas] 56) := by
  show Blk _ _ _ _;rw [HWB.out];exact (by simpa using Blk.last (w1.alloc (.cells #[.bool true, .slice (some ⟨g1, 0, none⟩) 8 c1] 50)) #[V xab, .bool xas] 56 : Blk ((w1.alloc (.cells #[.bool true, .slice (some ⟨g1, 0, none⟩) 8 c1] 50)).alloc (.cells #[V xab, .bool xas] 56)) (w1.heap.size + 1) #[V xab, .bool xas] 56).more ((More.refl _).alloc _ _)
 have HTB : Hid (Blk WB (w1.heap.size + 1 + 1) #[V xbb, .bool xbs] 56) := by
  show Blk _ _ _ _;rw [HWB.out];simpa using Blk.last ((w1.alloc (.cells #[.bool true, .slice (some ⟨g1, 0, none⟩) 8 c1] 50)).alloc (.cells #[V xab, .bool xas] 56)) #[V xbb, .bool xbs] 56
 have HIB : Hid (Blk WB (w.heap.size + 1 + 1) #[V 8, V a, V b, V ic, V n] 42) := HI.out.more (((More.refl _).alloc _ _).trans HmB.out);go_wp2_with (fail)
 rw [<- HWB.out];refine (J4n true g1 c1 s a ⟨xab, xas⟩ ⟨xbb, xbs⟩ _ (Hkw.out.1.more HmB.out) ha0 ha1).mono ?_;rintro e w2 ⟨gF, cF, rfl, hgF, hrF, m2⟩;have HRF : Hid (KRow w2 gF (J1g ⟨8, a, b, ic, n⟩ s) /\ w.heap.size <= gF) := ⟨by unfold J1g; dsimp only; rw [Hx.out.1, Hx.out.2]; exact hrF, by have := (Hkw.out.2.trans HmB.out).size; omega⟩;have HM2 : Hid (More WB w2) := m2;clear m2 hrF hgF i0 i1 i2 i3 i4 zi s1 zs a0 a1 b0 b1 zg zg1 zs1 zi1 zi2;have r0 : w2.cell? ⟨w1.heap.size, 0, none⟩ = some (.bool true) := (HT8.out.more HM2.out).cell rfl;have r1 : w2.cell? ⟨w1.heap.size, 1, none⟩ = some (.slice (some ⟨g1, 0, none⟩) 8 c1) := (HT8.out.more HM2.out).cell rfl;have r2 : w2.cell? ⟨w1.heap.size + 1, 0, none⟩ = some (V xab) := (HTA.out.more HM2.out).cell rfl;have r3 : w2.cell? ⟨w1.heap.size + 1, 1, none⟩ = some (.bool xas) := (HTA.out.more HM2.out).cell rfl;have r4 : w2.cell? ⟨w1.heap.size + 1 + 1, 0, none⟩ = some (V xbb) := (HTB.out.more HM2.out).cell rfl;have r5 : w2.cell? ⟨w1.heap.size + 1 + 1, 1, none⟩ = some (.bool xbs) := (HTB.out.more HM2.out).cell rfl;have r6 : w2.cell? ⟨w.heap.size + 1 + 1, 2, none⟩ = some (V b) := (HIB.out.more HM2.out).cell rfl;have z0 := J06 r0;have z2 := J06 r2;have z4 := J06 r4;have z6 := J06 r6;dsimp only at z0 z2 z4 z6;go_wp2_with (fail)
 refine (J4n true g1 c1 s b ⟨xbb, xbs⟩ ⟨xab, xas⟩ _ (((Hkw.out.1.more HmB.out).more HM2.out).more ((More.refl _).alloc _ _)) hb0 hb1).mono ?_;rintro e w3 ⟨gS, cS, rfl, hgS, hrS, m3⟩;have HM3 : Hid (More w2 w3) := ((More.refl _).alloc _ _).trans m3;have HTF : Hid (Blk w3 w2.heap.size #[.bool true, .slice (some ⟨gF, 0, none⟩) 8 cF] 50) := (Blk.last w2 _ _).more m3;have HRS : Hid (KRow w3 gS (J11 ⟨8, a, b, ic, n⟩ s) /\ w.heap.size <= gS) := ⟨by unfold J11; dsimp only; rw [Hx.out.1, Hx.out.2]; exact hrS, by have h1 := (Hkw.out.2.trans HmB.out).size; have h2 := HM2.out.size; have h3 : (w2.alloc (.cells #[.bool true, .slice (some ⟨gF, 0, none⟩) 8 cF] 50)).heap.size <= gS := hgS; simp at h3; omega⟩;clear m3 hrS hgS;replace r0 := HM3.out.cell r0;replace r1 := HM3.out.cell r1;replace r2 := HM3.out.cell r2;replace r3 := HM3.out.cell r3;replace r4 := HM3.out.cell r4;replace r5 := HM3.out.cell r5;replace r6 := HM3.out.cell r6;have r7 : w3.cell? ⟨w2.heap.size, 0, none⟩ = some (.bool true) := HTF.out.cell rfl;have r8 : w3.cell? ⟨w2.heap.size, 1, none⟩ = some (.slice (some ⟨gF, 0, none⟩) 8 cF) := HTF.out.cell rfl;have y0 := J06 r0;have y2 := J06 r2;have y4 := J06 r4;have y6 := J06 r6;have y7 := J06 r7;dsimp only at y0 y2 y4 y6 y7;go_wp2_with (fail)
 refine (J4n true gF cF (J1g ⟨8, a, b, ic, n⟩ s) b ⟨xbb, xbs⟩ ⟨xab, xas⟩ _ ((HRF.out.1.more HM3.out).more ((More.refl _).alloc _ _)) hb0 hb1).mono ?_;rintro e w4 ⟨gB, cB, rfl, hgB, hrB, m4⟩;have HM4 : Hid (More w3 w4) := ((More.refl _).alloc _ _).trans m4;have HTS : Hid (Blk w4 w3.heap.size #[.bool true, .slice (some ⟨gS, 0, none⟩) 8 cS] 50) := (Blk.last w3 _ _).more m4;have HRB : Hid (KRow w4 gB (bothK ⟨8, a, b, ic, n⟩ s) /\ w.heap.size <= gB) := ⟨by unfold bothK; dsimp only; rw [Hx.out.1, Hx.out.2]; exact hrB, by have h1 := (Hkw.out.2.trans HmB.out).size; have h2 := HM2.out.size; have h4 := HM3.out.size; have h3 : (w3.alloc (.cells #[.bool true, .slice (some ⟨gS, 0, none⟩) 8 cS] 50)).heap.size <= gB := hgB; simp at h3; omega⟩;clear m4 hrB hgB;replace r0 := HM4.out.cell r0;replace r1 := HM4.out.cell r1;replace r7 := HM4.out.cell r7;replace r8 := HM4.out.cell r8;have r9 : w4.cell? ⟨w3.heap.size, 0, none⟩ = some (.bool true) := HTS.out.cell rfl;have r10 : w4.cell? ⟨w3.heap.size, 1, none⟩ = some (.slice (some ⟨gS, 0, none⟩) 8 cS) := HTS.out.cell rfl;have r11 : w4.cell? ⟨w.heap.size + 1 + 1, 3, none⟩ = some (V ic) := (HIB.out.more ((HM2.out.trans HM3.out).trans HM4.out)).cell rfl;have r12 : w4.cell? ⟨w.heap.size + 1 + 1, 4, none⟩ = some (V n) := (HIB.out.more ((HM2.out.trans HM3.out).trans HM4.out)).cell rfl;have x0 := J06 r0;have x7 := J06 r7;have x9 := J06 r9;have x11 := J06 r11;dsimp only at x0 x7 x9 x11
 have HmE : Hid (More w (w4.alloc (.cells #[.bool true, .slice (some ⟨gB, 0, none⟩) 8 cB] 50))) := (((((Hkw.out.2.trans HmB.out).trans HM2.out).trans HM3.out).trans HM4.out)).alloc _ _;have K1 : Hid (KRow (w4.alloc (.cells #[.bool true, .slice (some ⟨gB, 0, none⟩) 8 cB] 50)) g1 s) := (((((Hkw.out.1.more HmB.out).more HM2.out).more HM3.out).more HM4.out)).more ((More.refl _).alloc _ _);have K2 : Hid (KRow (w4.alloc (.cells #[.bool true, .slice (some ⟨gB, 0, none⟩) 8 cB] 50)) gF (J1g ⟨8, a, b, ic, n⟩ s)) := ((HRF.out.1.more HM3.out).more HM4.out).more ((More.refl _).alloc _ _);have K3 : Hid (KRow (w4.alloc (.cells #[.bool true, .slice (some ⟨gB, 0, none⟩) 8 cB] 50)) gS (J11 ⟨8, a, b, ic, n⟩ s)) := (HRS.out.1.more HM4.out).more ((More.refl _).alloc _ _);have K4 : Hid (KRow (w4.alloc (.cells #[.bool true, .slice (some ⟨gB, 0, none⟩) 8 cB] 50)) gB (bothK ⟨8, a, b, ic, n⟩ s)) := HRB.out.1.more ((More.refl _).alloc _ _);rcases hic with rfl | rfl | rfl | rfl
 ·go_wp2
  exact hP.out _ _ (by have := LdAt.two (w := w4.alloc (.cells #[.bool true, .slice (some ⟨gB, 0, none⟩) 8 cB] 50)) (lo := w.heap.size) (to := n.toNat) (to' := at_ + 1) (c := cB) (c' := c1) (cap := 2) (b := w4.heap.size + 1) (by simp) K4.out (HRB.out.2) K1.out (by have := HG.out; omega); rw [Hn.out] at this; exact this) (HmE.out.alloc _ _)
 ·go_wp2
  exact hP.out _ _ (by have := LdAt.two (w := w4.alloc (.cells #[.bool true, .slice (some ⟨gB, 0, none⟩) 8 cB] 50)) (lo := w.heap.size) (to := n.toNat) (to' := at_ + 1) (c := c1) (c' := cB) (cap := 2) (b := w4.heap.size + 1) (by simp) K1.out (by have := HG.out; omega) K4.out (HRB.out.2); rw [Hn.out] at this; exact this) (HmE.out.alloc _ _)
 ·go_wp2
  exact hP.out _ _ (by have := LdAt.two (w := w4.alloc (.cells #[.bool true, .slice (some ⟨gB, 0, none⟩) 8 cB] 50)) (lo := w.heap.size) (to := n.toNat) (to' := at_ + 1) (c := cF) (c' := cS) (cap := 2) (b := w4.heap.size + 1) (by simp) K2.out (HRF.out.2) K3.out (HRS.out.2); rw [Hn.out] at this; exact this) (HmE.out.alloc _ _)
 ·go_wp2
  exact hP.out _ _ (by have := LdAt.two (w := w4.alloc (.cells #[.bool true, .slice (some ⟨gB, 0, none⟩) 8 cB] 50)) (lo := w.heap.size) (to := n.toNat) (to' := at_ + 1) (c := cS) (c' := cF) (cap := 2) (b := w4.heap.size + 1) (by simp) K3.out (HRS.out.2) K2.out (HRF.out.2); rw [Hn.out] at this; exact this) (HmE.out.alloc _ _)

theorem Jhq (ra : Option Addr) (rb ro rl rc : Nat) (log : Nat -> Int) (sec : Nat -> Bool) (cb co cl cc at_ g c : Nat) (a b ic n : Int) (s : KS) (w : World) (hra : 0 < rl -> ra = some ⟨rb, ro, none⟩) (hregs : RegsAt w rb ro rl log sec)
  (q0 : w.cell? ⟨cb, co + at_ * 5, none⟩ = some (V 11)) (q1 : w.cell? ⟨cb, co + at_ * 5 + 1, none⟩ = some (V a)) (q2 : w.cell? ⟨cb, co + at_ * 5 + 2, none⟩ = some (V b)) (q3 : w.cell? ⟨cb, co + at_ * 5 + 3, none⟩ = some (V ic)) (q4 : w.cell? ⟨cb, co + at_ * 5 + 4, none⟩ = some (V n))
  (hat : (at_ : Int) < cl) (hcl : (cl : Int) <= 200) (hk : KRow w g s) (ha0 : 0 <= a) (ha1 : a < 8) (n0 : 1 <= n) (n1 : n <= 64) :
  Calls Tryz.prog 13 #[.agg #[.slice ra rl rc, .slice (some ⟨cb, co, none⟩) cl cc], V at_, st true g c] w fun e w' => ∃ v, e = .returned v /\ LdAt w' w.heap.size v [(at_ + 1, setK s a (Kn.less (s a.toNat) (Kn.of (wrap64 (n - 1)))))] /\ More w w' := by
 have Hk : Hid (KRow w g s) := hk;have Hreg : Hid ((0 < rl -> ra = some ⟨rb, ro, none⟩) /\ RegsAt w rb ro rl log sec) := ⟨hra, hregs⟩;have hat2 : (at_ : Int) + 1 <= 200 := by omega
 have hcb : cb < w.heap.size := J06 q0;have hcb1 : cb < w.heap.size + 1 := by omega
 clear hk hra hregs
 suffices hP : ∀ P : Ending -> World -> Prop, (∀ v w', LdAt w' w.heap.size v [(at_ + 1, setK s a (Kn.less (s a.toNat) (Kn.of (wrap64 (n - 1)))))] -> More w w' -> P (.returned v) w') -> Calls Tryz.prog 13 #[.agg #[.slice ra rl rc, .slice (some ⟨cb, co, none⟩) cl cc], V at_, st true g c] w P from hP _ (fun v w' h1 h2 => ⟨v, rfl, h1, h2⟩)
 intro P hP0;have hP : Hid (∀ v w', LdAt w' w.heap.size v [(at_ + 1, setK s a (Kn.less (s a.toNat) (Kn.of (wrap64 (n - 1)))))] -> More w w' -> P (.returned v) w') := hP0;clear hP0;unfold st;go_enter Tryz.func13, Tryz.ntmps13;go_wp2_with (fail)
 refine (J0l true g c s _ (Hk.out.more (((More.refl _).alloc _ _).alloc _ _ |>.alloc _ _))).mono ?_;rintro e w1 ⟨g1, c1, rfl, hg1, hr1, m1⟩;obtain ⟨W1, HW1⟩ : ∃ W1 : World, Hid (W1 = w1.alloc (.cells #[.bool true, .slice (some ⟨g1, 0, none⟩) 8 c1] 50)) := ⟨_, rfl⟩;obtain ⟨HF, HK1, HM, HG, HA, HI⟩ := J1w (i := ⟨11, a, b, ic, n⟩) Hk.out Hreg.out.2 m1 hr1 hg1 HW1.out;replace HF := J0d HF;replace HK1 := J0d HK1;replace HM := J0d HM;replace HG := J0d HG;replace HA := J0d HA;replace HI := J0d HI;clear m1 hr1 hg1 q0 q1 q2 q3 q4;have i0 : w1.cell? ⟨w.heap.size + 1 + 1, 0, none⟩ = some (V 11) := HI.out.cell rfl;have i1 : w1.cell? ⟨w.heap.size + 1 + 1, 1, none⟩ = some (V a) := HI.out.cell rfl;have i2 : w1.cell? ⟨w.heap.size + 1 + 1, 2, none⟩ = some (V b) := HI.out.cell rfl;have i3 : w1.cell? ⟨w.heap.size + 1 + 1, 3, none⟩ = some (V ic) := HI.out.cell rfl;have i4 : w1.cell? ⟨w.heap.size + 1 + 1, 4, none⟩ = some (V n) := HI.out.cell rfl;have zi : w.heap.size + 1 + 1 < w1.heap.size := HI.out.lt;have hn1 : IntKind.i64.wrap (n - 1) = n - 1 := by rw [IntKind.wrap_i64]; omega
 have hn2 : wrap64 (n - 1) = n - 1 := by unfold wrap64; omega
 obtain ⟨ov, hov⟩ : ∃ v, Kn.of (n - 1) = v := ⟨_, rfl⟩;have c0 : ∀ w : World, Calls Tryz.prog 29 #[V (n - 1)] w fun e w' => e = .returned (kn ov.b ov.s) /\ More w w' := fun w => hov ▸ J74 (n - 1) (by omega) (by omega) w
 obtain ⟨xa, hxa⟩ : ∃ x, s a.toNat = x := ⟨_, rfl⟩;obtain ⟨v, hv⟩ : ∃ v, Kn.less xa ov = v := ⟨_, rfl⟩;have c2 : ∀ w : World, Calls Tryz.prog 30 #[kn xa.b xa.s, kn ov.b ov.s] w fun e w' => e = .returned (kn v.b v.s) /\ More w w' := fun w => hv ▸ J73 xa.b ov.b xa.s ov.s w
 have Hx : Hid ((⟨v.b, v.s⟩ : Kn) = Kn.less (s a.toNat) (Kn.of (wrap64 (n - 1)))) := by show _ = _; rw [hn2, hxa, hov]; exact hv.symm
 have Hxa : Hid (s a.toNat = ⟨xa.b, xa.s⟩) := hxa;clear hv hxa hov hn2;obtain ⟨vb, vs⟩ := v;obtain ⟨xab, xas⟩ := xa;obtain ⟨ob, os⟩ := ov;unfold kn at c0 c2;dsimp only at c0 c2 Hxa Hx;go_wp2_with (fail)
 try rw [hn1]
 try rw [hn2]
 refine (c0 _).mono ?_;rintro e w4 ⟨rfl, m4⟩;have Hm4 : Hid (More W1 w4) := HW1.out ▸ m4;clear m4 i0 i1 i2 i3 i4 zi;obtain ⟨W4, HW4⟩ : ∃ W4 : World, Hid (W4 = w4.alloc (.cells #[V ob, .bool os] 56)) := ⟨_, rfl⟩;have HmW4 : Hid (More W1 W4) := HW4.out ▸ Hm4.out.alloc _ _;have HO : Hid (Blk W4 w4.heap.size #[V ob, .bool os] 56) := HW4.out ▸ Blk.last _ _ _;have Hsz : Hid (w1.heap.size < w4.heap.size) := by show _ < _; have := Hm4.out.size; have := HG.out; omega
 obtain ⟨S, HS⟩ : ∃ S : World -> Prop, Hid (∀ w', S w' ↔ (LFix w.heap.size g c g1 c1 w1.heap.size (.slice ra rl rc) (.slice (some ⟨cb, co, none⟩) cl cc) ⟨11, a, b, ic, n⟩ s rb ro rl log sec w' /\ Blk w' w4.heap.size #[V ob, .bool os] 56)) := ⟨_, fun _ => Iff.rfl⟩;have HSm : Hid (∀ w', More W4 w' -> S w') := fun w' m => (HS.out _).2 ⟨HF.out.more (HmW4.out.trans m), HO.out.more m⟩
 have HS0 : S W4.drew := HSm.out _ (More.refl _).drew;have hne : Nonempty { w' // S w' } := ⟨⟨_, HS0⟩⟩;have k1 : ∀ i : { w' // S w' }, i.val.cell? ⟨w.heap.size + 1 + 1, 1, none⟩ = some (V a) := fun i => ((HS.out _).1 i.property).1.fi.cell rfl
 have k5 : ∀ i : { w' // S w' }, i.val.cell? ⟨w1.heap.size, 1, none⟩ = some (.slice (some ⟨g1, 0, none⟩) 8 c1) := fun i => ((HS.out _).1 i.property).1.ft.cell rfl
 have k6 : ∀ i : { w' // S w' }, i.val.cell? ⟨w.heap.size + 1, 1, none⟩ = some (.slice (some ⟨g, 0, none⟩) 8 c) := fun i => ((HS.out _).1 i.property).1.fs.cell rfl
 have k8 : ∀ i : { w' // S w' }, i.val.cell? ⟨w4.heap.size, 0, none⟩ = some (V ob) := fun i => ((HS.out _).1 i.property).2.cell rfl
 have k9 : ∀ i : { w' // S w' }, i.val.cell? ⟨w4.heap.size, 1, none⟩ = some (.bool os) := fun i => ((HS.out _).1 i.property).2.cell rfl
 have ka0 : ∀ i : { w' // S w' }, i.val.cell? ⟨g, a.toNat * 2, none⟩ = some (V xab) := fun i => by have := (((HS.out _).1 i.property).1.ks a.toNat (by omega)).1.1; rw [Hxa.out] at this; exact this
 have ka1 : ∀ i : { w' // S w' }, i.val.cell? ⟨g, a.toNat * 2 + 1, none⟩ = some (.bool xas) := fun i => by have := (((HS.out _).1 i.property).1.ks a.toNat (by omega)).1.2; rw [Hxa.out] at this; exact this
 go_wp2_with (fail)
 rw [<- HW4.out];refine J03 (S := S) [(0, true), (1, true), (2, true), (3, true), (4, true), (5, true), (6, true), (7, true), (8, true), (9, true), (10, true), (11, false), (12, true), (13, false)] (by kernel_rfl) (by kernel_rfl) (by kernel_rfl) HS0 ?_
 iterate 11 (refine J00 rfl (by kernel_rfl) (fun K hK => ?_); go_simp; refine hK _ _ ?_; clear hK K)
 refine J02 rfl (by kernel_rfl) (fun K hK => ?_); go_simp;refine (c2 _).mono ?_;rintro e w2 ⟨rfl, m2⟩;have Hm2 : Hid (More W4 w2) := (More.refl _).drew.trans m2;have HS2 : S w2 := HSm.out _ Hm2.out;clear m2
 go_simp
 refine hK _ _ HS2 ?_; clear hK K
 (refine J00 rfl (by kernel_rfl) (fun K hK => ?_); go_simp; refine hK _ _ ?_; clear hK K)
 have Hrow : Hid (KRow w2 g1 s) := HK1.out.more (HmW4.out.trans Hm2.out);have hr : a.toNat < 8 := by omega
 have q := Hrow.out a.toNat hr;have q0 := q.1.1;have q1 := q.1.2;have q2 := q.2.1;have q3 := q.2.2;obtain ⟨w3, Hw3⟩ : ∃ w3, Hid (w3 = (w2.setCell ⟨g1, a.toNat * 2, none⟩ (V vb)).setCell ⟨g1, a.toNat * 2 + 1, none⟩ (.bool vs)) := ⟨_, rfl⟩;have Hrow3 : Hid (KRow w3 g1 (setK s a ⟨vb, vs⟩)) := Hw3.out ▸ Hrow.out.set a ⟨vb, vs⟩ hr;have hg := HG.out;have hA := HA.out;have HF3 : Hid (LFix w.heap.size g c g1 c1 w1.heap.size (.slice ra rl rc) (.slice (some ⟨cb, co, none⟩) cl cc) ⟨11, a, b, ic, n⟩ s rb ro rl log sec w3) := Hw3.out ▸ ((HF.out.more (HmW4.out.trans Hm2.out)).set (by omega) (by omega) (by omega) (fun h0 => by have := hA.2 h0; omega) _ _).set (by omega) (by omega) (by omega) (fun h0 => by have := hA.2 h0; omega) _ _;have Hm3 : Hid (More w w3) := Hw3.out ▸ ((((HM.out.trans HmW4.out).trans Hm2.out).setCell (by dsimp only; omega) _).setCell (by dsimp only; omega) _);have HS3 : S w3 := (HS.out _).2 ⟨HF3.out, Hw3.out ▸ ((HO.out.more Hm2.out).other (by have := Hsz.out; omega) _ _).other (by have := Hsz.out; omega) _ _⟩;clear hg hA;refine J02 rfl (by kernel_rfl) (fun K hK => ?_); go_simp;rw [<- Hw3.out];refine hK _ _ HS3 ?_; clear hK K;refine J04 ?_;clear k1 k5 k6 k8 k9 ka0 ka1 hne HS0 HS2 HS3 q q0 q1 q2 q3;have t0 := HF3.out.ft.cell (j := 0) (v := .bool true) rfl;have t1 := HF3.out.ft.cell (j := 1) (v := .slice (some ⟨g1, 0, none⟩) 8 c1) rfl;go_wp2
 exact hP.out _ _ (LdAt.one rfl (Hx.out ▸ Hrow3.out) (by have := HG.out; omega)) (Hm3.out.alloc _ _)
end
section
open Go.RowKit
set_option linter.unusedSimpArgs false
set_option linter.unusedVariables false
theorem J6r (p : Prg) (l : Loc) (at_ g c : Nat) (s : KS) (w : World) (hp : PIn w p l) (hat : at_ < p.cl) (hcl : p.cl <= 200) (hi : InsOk p.rl p.log p.cl 8 (p.ins at_)) (n0 : -9223372036854775808 <= (p.ins at_).n) (n1 : (p.ins at_).n <= 9223372036854775807) (hk : KRow w g s) :
  Calls Tryz.prog 13 #[.agg #[.slice l.ra p.rl l.rc, .slice l.ca p.cl l.cc], V at_, st true g c] w fun e w' => ∃ v, e = .returned v /\ LdAt w' w.heap.size v (J0f p at_ s) /\ More w w' := by
 obtain ⟨ra, rb, ro, rc, ca, cb, co, cc⟩ := l;obtain rfl : ca = some ⟨cb, co, none⟩ := hp.hc (by omega);have q := hp.code at_ hat;have hat' : (at_ : Int) < p.cl := by omega
 have hcl' : (p.cl : Int) <= 200 := by omega
 dsimp only at *;by_cases h1 : (p.ins at_).op = 1
 ·have hI := hi
  unfold InsOk Reg Rgn Plc Wrd at hI;simp [h1] at hI;have e0 : J0f p at_ s = [(at_ + 1, setK s (p.ins at_).a (Kn.of (p.ins at_).n))] := by unfold J0f; simp [h1, nextK, yesK, noK, J1g, J11, bothK]
  rw [e0];rw [h1] at q;exact Jkp ra rb ro p.rl rc p.log p.sec cb co p.cl cc at_ g c (p.ins at_).a (p.ins at_).b (p.ins at_).c (p.ins at_).n s w hp.hr hp.regs (q.1) (q.2.1) (q.2.2.1) (q.2.2.2.1) (q.2.2.2.2) hat' hcl' hk (by omega) (by omega) n0 n1
 by_cases h2 : (p.ins at_).op = 2
 ·have hI := hi
  unfold InsOk Reg Rgn Plc Wrd at hI;simp [h2] at hI;have e0 : J0f p at_ s = [(at_ + 1, setK s (p.ins at_).a (s (p.ins at_).b.toNat))] := by unfold J0f; simp [h2, nextK, yesK, noK, J1g, J11, bothK]
  rw [e0];rw [h2] at q;exact Jkq ra rb ro p.rl rc p.log p.sec cb co p.cl cc at_ g c (p.ins at_).a (p.ins at_).b (p.ins at_).c (p.ins at_).n s w hp.hr hp.regs (q.1) (q.2.1) (q.2.2.1) (q.2.2.2.1) (q.2.2.2.2) hat' hcl' hk (by omega) (by omega) (by omega) (by omega)
 by_cases h3 : (p.ins at_).op = 3
 ·have hI := hi
  unfold InsOk Reg Rgn Plc Wrd at hI;simp [h3] at hI;have e0 : J0f p at_ s = [(at_ + 1, setK s (p.ins at_).a ⟨17, p.sec (p.ins at_).c.toNat⟩)] := by unfold J0f; simp [h3, nextK, yesK, noK, J1g, J11, bothK]
  rw [e0];rw [h3] at q;exact Jkr ra rb ro p.rl rc p.log p.sec cb co p.cl cc at_ g c (p.ins at_).a (p.ins at_).b (p.ins at_).c (p.ins at_).n s w hp.hr hp.regs (q.1) (q.2.1) (q.2.2.1) (q.2.2.2.1) (q.2.2.2.2) hat' hcl' hk (by omega) (by omega) (by omega) (by omega)
 by_cases h4 : (p.ins at_).op = 4
 ·have hI := hi
  unfold InsOk Reg Rgn Plc Wrd at hI;simp [h4] at hI;have e0 : J0f p at_ s = [(at_ + 1, s)] := by unfold J0f; simp [h4, nextK, yesK, noK, J1g, J11, bothK]
  rw [e0];rw [h4] at q;exact Jks ra rb ro p.rl rc p.log p.sec cb co p.cl cc at_ g c (p.ins at_).a (p.ins at_).b (p.ins at_).c (p.ins at_).n s w hp.hr hp.regs (q.1) (q.2.1) (q.2.2.1) (q.2.2.2.1) (q.2.2.2.2) hat' hcl' hk
 by_cases h5 : (p.ins at_).op = 5
 ·have hI := hi
  unfold InsOk Reg Rgn Plc Wrd at hI;simp [h5] at hI;have e0 : J0f p at_ s = [(at_ + 1, setK s (p.ins at_).a ⟨17, p.sec (p.ins at_).c.toNat⟩)] := by unfold J0f; simp [h5, nextK, yesK, noK, J1g, J11, bothK]
  rw [e0];rw [h5] at q;exact Jkt ra rb ro p.rl rc p.log p.sec cb co p.cl cc at_ g c (p.ins at_).a (p.ins at_).b (p.ins at_).c (p.ins at_).n s w hp.hr hp.regs (q.1) (q.2.1) (q.2.2.1) (q.2.2.2.1) (q.2.2.2.2) hat' hcl' hk (by omega) (by omega) (by omega) (by omega)
 by_cases h6 : (p.ins at_).op = 6
 ·have hI := hi
  unfold InsOk Reg Rgn Plc Wrd at hI;simp [h6] at hI;have e0 : J0f p at_ s = [(at_ + 1, s)] := by unfold J0f; simp [h6, nextK, yesK, noK, J1g, J11, bothK]
  rw [e0];rw [h6] at q;exact Jku ra rb ro p.rl rc p.log p.sec cb co p.cl cc at_ g c (p.ins at_).a (p.ins at_).b (p.ins at_).c (p.ins at_).n s w hp.hr hp.regs (q.1) (q.2.1) (q.2.2.1) (q.2.2.2.1) (q.2.2.2.2) hat' hcl' hk
 by_cases h7 : (p.ins at_).op = 7
 ·have hI := hi
  unfold InsOk Reg Rgn Plc Wrd at hI;simp [h7] at hI;have e0 : J0f p at_ s = [((p.ins at_).n.toNat, s)] := by unfold J0f; simp [h7, nextK, yesK, noK, J1g, J11, bothK]
  rw [e0];rw [h7] at q;exact Jkv ra rb ro p.rl rc p.log p.sec cb co p.cl cc at_ g c (p.ins at_).a (p.ins at_).b (p.ins at_).c (p.ins at_).n s w hp.hr hp.regs (q.1) (q.2.1) (q.2.2.1) (q.2.2.2.1) (q.2.2.2.2) hat' hcl' hk (by omega) (by omega)
 by_cases h8 : (p.ins at_).op = 8
 ·have hI := hi
  unfold InsOk Reg Rgn Plc Wrd at hI;simp [h8] at hI;have e0 : J0f p at_ s = [((p.ins at_).n.toNat, yesK ⟨8, (p.ins at_).a, (p.ins at_).b, (p.ins at_).c, (p.ins at_).n⟩ s), (at_ + 1, noK ⟨8, (p.ins at_).a, (p.ins at_).b, (p.ins at_).c, (p.ins at_).n⟩ s)] := by unfold J0f; simp [h8, nextK, yesK, noK, J1g, J11, bothK]
  rw [e0];rw [h8] at q;exact Jkw ra rb ro p.rl rc p.log p.sec cb co p.cl cc at_ g c (p.ins at_).a (p.ins at_).b (p.ins at_).c (p.ins at_).n s w hp.hr hp.regs (q.1) (q.2.1) (q.2.2.1) (q.2.2.2.1) (q.2.2.2.2) hat' hcl' hk (by omega) (by omega) (by omega) (by omega) (by omega) (by omega) (by omega)
 by_cases h9 : (p.ins at_).op = 9
 ·have hI := hi
  unfold InsOk Reg Rgn Plc Wrd at hI;simp [h9] at hI;have e0 : J0f p at_ s = [] := by unfold J0f; simp [h9, nextK, yesK, noK, J1g, J11, bothK]
  rw [e0];rw [h9] at q;exact Jkx ra rb ro p.rl rc p.log p.sec cb co p.cl cc at_ g c (p.ins at_).a (p.ins at_).b (p.ins at_).c (p.ins at_).n s w hp.hr hp.regs (q.1) (q.2.1) (q.2.2.1) (q.2.2.2.1) (q.2.2.2.2) hat' hcl' hk
 by_cases h10 : (p.ins at_).op = 10
 ·have hI := hi
  unfold InsOk Reg Rgn Plc Wrd at hI;simp [h10] at hI;have e0 : J0f p at_ s = [(at_ + 1, setK s (p.ins at_).a (Kn.index (s (p.ins at_).b.toNat) (p.ins at_).n))] := by unfold J0f; simp [h10, nextK, yesK, noK, J1g, J11, bothK]
  rw [e0];rw [h10] at q;exact Jhp ra rb ro p.rl rc p.log p.sec cb co p.cl cc at_ g c (p.ins at_).a (p.ins at_).b (p.ins at_).c (p.ins at_).n s w hp.hr hp.regs (q.1) (q.2.1) (q.2.2.1) (q.2.2.2.1) (q.2.2.2.2) hat' hcl' hk (by omega) (by omega) (by omega) (by omega) n0 n1
 by_cases h11 : (p.ins at_).op = 11
 ·have hI := hi
  unfold InsOk Reg Rgn Plc Wrd at hI;simp [h11] at hI;have e0 : J0f p at_ s = [(at_ + 1, setK s (p.ins at_).a (Kn.less (s (p.ins at_).a.toNat) (Kn.of (wrap64 ((p.ins at_).n - 1)))))] := by unfold J0f; simp [h11, nextK, yesK, noK, J1g, J11, bothK]
  rw [e0];rw [h11] at q;exact Jhq ra rb ro p.rl rc p.log p.sec cb co p.cl cc at_ g c (p.ins at_).a (p.ins at_).b (p.ins at_).c (p.ins at_).n s w hp.hr hp.regs (q.1) (q.2.1) (q.2.2.1) (q.2.2.2.1) (q.2.2.2.2) hat' hcl' hk (by omega) (by omega) (by omega) (by omega)
 by_cases h12 : (p.ins at_).op = 12
 ·have hI := hi
  unfold InsOk Reg Rgn Plc Wrd at hI;simp [h12] at hI;have e0 : J0f p at_ s = [(at_ + 1, s)] := by unfold J0f; simp [h12, nextK, yesK, noK, J1g, J11, bothK]
  rw [e0];rw [h12] at q;exact Jhr ra rb ro p.rl rc p.log p.sec cb co p.cl cc at_ g c (p.ins at_).a (p.ins at_).b (p.ins at_).c (p.ins at_).n s w hp.hr hp.regs (q.1) (q.2.1) (q.2.2.1) (q.2.2.2.1) (q.2.2.2.2) hat' hcl' hk
 ·have hI := hi
  unfold InsOk Reg at hI;rw [if_neg h1, if_neg h2, if_neg h3, if_neg h4, if_neg h5, if_neg h6, if_neg h7, if_neg h8, if_neg h9, if_neg h10, if_neg h11, if_neg h12] at hI;have e0 : J0f p at_ s = [(at_ + 1, setK s (p.ins at_).a (Kn.op ((p.ins at_).op - 20) (s (p.ins at_).b.toNat) (s (p.ins at_).c.toNat)))] := by unfold J0f; simp [h1, h2, h3, h4, h5, h6, h7, h8, h9, h10, h11, h12, nextK]
  rw [e0];exact Jhs ra rb ro p.rl rc p.log p.sec cb co p.cl cc at_ g c (p.ins at_).op (p.ins at_).a (p.ins at_).b (p.ins at_).c (p.ins at_).n s w hp.hr hp.regs (q.1) (q.2.1) (q.2.2.1) (q.2.2.2.1) (q.2.2.2.2) hat' hcl' hk (by omega) (by omega) (by omega) (by omega) (by omega) (by omega) (by omega) (by omega)
end
section
open Go.RowKit
set_option linter.unusedSimpArgs false
set_option linter.unusedVariables false
set_option maxRecDepth 8000
theorem Jfs (g c : Nat) (w : World) :
  Calls Tryz.prog 26 #[st true g c, .agg #[.bool false, .slice none 0 0]] w fun e w' => e = .returned (.bool false) /\ More w w' := by
 unfold st;go_enter Tryz.func26, Tryz.ntmps26;go_wp2;go_ret;exact ⟨rfl, ((More.refl _).alloc _ _).alloc _ _⟩

theorem Jft (ga ca gb cb : Nat) (sa sb : KS) (w : World) (ha : KRow w ga sa) (hb : KRow w gb sb) :
  Calls Tryz.prog 26 #[st true ga ca, st true gb cb] w (Says (∀ j, j < 8 -> sa j = sb j) w) := by
 have Ha : Hid (KRow w ga sa) := ha;have Hb : Hid (KRow w gb sb) := hb;obtain ⟨P, HP⟩ : ∃ P : Prop, Hid (P ↔ ∀ j, j < 8 -> sa j = sb j) := ⟨∀ j, j < 8 -> sa j = sb j, (Iff.rfl : _ ↔ _)⟩;rw [<- propext HP.out];clear ha hb;unfold st;obtain ⟨W, HW⟩ : ∃ W : World, Hid (W = (w.alloc (.cells #[.bool true, .slice (some ⟨ga, 0, none⟩) 8 ca] 50)).alloc (.cells #[.bool true, .slice (some ⟨gb, 0, none⟩) 8 cb] 50)) := ⟨_, rfl⟩;have HmW : Hid (More w W) := HW.out ▸ ((More.refl _).alloc _ _).alloc _ _;have HA : Hid (Blk W w.heap.size #[.bool true, .slice (some ⟨ga, 0, none⟩) 8 ca] 50) := HW.out ▸ (Blk.last _ _ _).more ((More.refl _).alloc _ _)
 have HB : Hid (Blk W (w.heap.size + 1) #[.bool true, .slice (some ⟨gb, 0, none⟩) 8 cb] 50) := by
  show Blk _ _ _ _;rw [HW.out];simpa using Blk.last (w.alloc (.cells #[.bool true, .slice (some ⟨ga, 0, none⟩) 8 ca] 50)) #[.bool true, .slice (some ⟨gb, 0, none⟩) 8 cb] 50
 go_enter Tryz.func26, Tryz.ntmps26;go_wp2_with (fail)
 rw [<- HW.out];go_loopg [5] 8 (fun g iv wr => ∃ k : Nat, k + g = 8 /\ iv = V k /\ Hid ((∀ j, j < k -> sa j = sb j) /\ More W wr))
 case atStart => exact ⟨0, by omega, rfl, fun j hj => absurd hj (Nat.not_lt_zero _), More.refl _⟩
 case round =>
  obtain ⟨k, hkg, rfl, Hr⟩ := hrel;have a1 : wr.cell? ⟨w.heap.size, 1, none⟩ = some (.slice (some ⟨ga, 0, none⟩) 8 ca) := (HA.out.more Hr.out.2).cell rfl;have b1 : wr.cell? ⟨w.heap.size + 1, 1, none⟩ = some (.slice (some ⟨gb, 0, none⟩) 8 cb) := (HB.out.more Hr.out.2).cell rfl;cases gk with
  | zero =>
   obtain rfl : k = 8 := by omega
   go_wp2;go_ret;exact Says.yes (HP.out.2 Hr.out.1) (HmW.out.trans Hr.out.2)
  | succ g =>
   have hk8 : k < 8 := by omega
   have hki : (k : Int) < 8 := by omega
   obtain ⟨S, HS⟩ : ∃ S : World -> Prop, Hid (∀ w', S w' ↔ More W w') := ⟨_, fun _ => Iff.rfl⟩;have HS0 : S wr.drew := (HS.out _).2 Hr.out.2.drew;have hne : Nonempty { w' // S w' } := ⟨⟨_, HS0⟩⟩;have k0 : ∀ i : { w' // S w' }, i.val.cell? ⟨w.heap.size, 1, none⟩ = some (.slice (some ⟨ga, 0, none⟩) 8 ca) := fun i => (HA.out.more ((HS.out _).1 i.property)).cell rfl
   have k1 : ∀ i : { w' // S w' }, i.val.cell? ⟨w.heap.size + 1, 1, none⟩ = some (.slice (some ⟨gb, 0, none⟩) 8 cb) := fun i => (HB.out.more ((HS.out _).1 i.property)).cell rfl
   obtain ⟨xa, hxa⟩ : ∃ x, sa k = x := ⟨_, rfl⟩;obtain ⟨xb, hxb⟩ : ∃ x, sb k = x := ⟨_, rfl⟩;have k3 : ∀ i : { w' // S w' }, i.val.cell? ⟨ga, k * 2, none⟩ = some (V xa.b) := fun i => hxa ▸ ((Ha.out.more (HmW.out.trans ((HS.out _).1 i.property))) k hk8).1.1
   have k4 : ∀ i : { w' // S w' }, i.val.cell? ⟨ga, k * 2 + 1, none⟩ = some (.bool xa.s) := fun i => hxa ▸ ((Ha.out.more (HmW.out.trans ((HS.out _).1 i.property))) k hk8).1.2
   have k5 : ∀ i : { w' // S w' }, i.val.cell? ⟨gb, k * 2, none⟩ = some (V xb.b) := fun i => hxb ▸ ((Hb.out.more (HmW.out.trans ((HS.out _).1 i.property))) k hk8).1.1
   have k6 : ∀ i : { w' // S w' }, i.val.cell? ⟨gb, k * 2 + 1, none⟩ = some (.bool xb.s) := fun i => hxb ▸ ((Hb.out.more (HmW.out.trans ((HS.out _).1 i.property))) k hk8).1.2
   have Hx : Hid (sa k = xa /\ sb k = xb) := ⟨hxa, hxb⟩;clear hxa hxb;obtain ⟨xab, xas⟩ := xa;obtain ⟨xbb, xbs⟩ := xb;dsimp only at k3 k4 k5 k6;go_wp2_with (fail)
   clear a1 b1;refine J03 (S := S) [(0, true), (1, true), (2, true), (3, true), (4, true), (5, true), (6, true), (7, true), (8, true), (9, true), (10, true)] (by kernel_rfl) (by kernel_rfl) (by kernel_rfl) HS0 ?_
   iterate 10 (refine J00 rfl (by kernel_rfl) (fun K hK => ?_); go_simp; refine hK _ _ ?_; clear hK K)
   refine J00 rfl (by kernel_rfl) (fun K hK => ?_); go_simp;by_cases e : xab = xbb /\ xas = xbs
   ·refine ⟨.bool false, fun a _ => by rw [if_pos e.1, if_pos e.2], ?_⟩
    refine hK _ _ ?_;clear hK K;refine J04 ?_;have He : Hid (sa k = sb k) := by show _ = _; rw [Hx.out.1, Hx.out.2, e.1, e.2]
    clear k0 k1 k3 k4 k5 k6 hne HS0 e;go_wp2;go_roundg g
    case measure => omega
    case rel =>
     refine ⟨k + 1, by omega, by first | rfl | simp, fun j hj => ?_, Hr.out.2.drew⟩;by_cases q : j = k
     ·subst q; exact He.out
     ·exact Hr.out.1 j (by omega)
   ·refine ⟨.bool true, fun a _ => by
     by_cases e1 : xab = xbb
     ·rw [if_pos e1, if_neg (fun e2 => e ⟨e1, e2⟩)]
     ·rw [if_neg e1], ?_⟩
    refine hK _ _ ?_;clear hK K;refine J04 ?_
    have He : Hid (¬ sa k = sb k) := by
     show ¬ _;rw [Hx.out.1, Hx.out.2];intro q
     injection q with q1 q2
     exact e ⟨q1, q2⟩
    clear k0 k1 k3 k4 k5 k6 hne HS0 e;go_wp2;go_ret;exact Says.no (fun q => He.out (HP.out.1 q k hk8)) (HmW.out.trans Hr.out.2.drew)
end
section
open Go.RowKit
set_option linter.unusedVariables false
def CAt (w : World) (lb at_ : Nat) (o : Option KS) : Prop := match o with
 | none => w.cell? ⟨lb, at_ * 2, none⟩ = some (.bool false) /\ w.cell? ⟨lb, at_ * 2 + 1, none⟩ = some (.slice none 0 0)
 | some s => ∃ g c, w.cell? ⟨lb, at_ * 2, none⟩ = some (.bool true) /\ w.cell? ⟨lb, at_ * 2 + 1, none⟩ = some (.slice (some ⟨g, 0, none⟩) 8 c) /\ KRow w g s /\ g ≠ lb

structure VAt (w : World) (lb cl : Nat) (l : KV) : Prop where
 at_ : ∀ k, k < cl -> CAt w lb k (l k)
 fr : ∀ j, w.frozen? ⟨lb, j, none⟩ = false

theorem CAt.more {w w' : World} (m : More w w') {lb k : Nat} {o : Option KS} (h : CAt w lb k o) : CAt w' lb k o := by
 cases o with
 | none => exact ⟨m.cell h.1, m.cell h.2⟩
 | some s =>
  obtain ⟨g, c, h1, h2, h3, h4⟩ := h;exact ⟨g, c, m.cell h1, m.cell h2, h3.more m, h4⟩
theorem CAt.lt {w : World} {lb k : Nat} {o : Option KS} (h : CAt w lb k o) : lb < w.heap.size := by
 cases o with
 | none => exact J06 h.1
 | some s =>
  obtain ⟨g, c, h1, _⟩ := h;exact J06 h1
theorem VAt.more {w w' : World} (m : More w w') {lb cl : Nat} {l : KV} (h0 : 0 < cl) (h : VAt w lb cl l) : VAt w' lb cl l :=
 ⟨fun k hk => (h.at_ k hk).more m, fun j => (World.frozen?_of_block (m.block lb (h.at_ 0 h0).lt)).trans (h.fr j)⟩
theorem CAt.come {w : World} {lb k : Nat} {o : Option KS} (h : CAt w lb k o) : ∃ b : Bool, w.cell? ⟨lb, k * 2, none⟩ = some (.bool b) /\ (b = true ↔ o ≠ none) := by
 cases o with
 | none => exact ⟨false, h.1, by simp⟩
 | some s =>
  obtain ⟨g, c, h1, _⟩ := h;exact ⟨true, h1, by simp⟩

theorem VAt.put {w : World} {lb cl : Nat} {l : KV} (h : VAt w lb cl l) {n g c : Nat} (hn : n < cl) {s : KS} (hg : KRow w g s) (hne : g ≠ lb) :
  VAt ((w.setCell ⟨lb, n * 2, none⟩ (.bool true)).setCell ⟨lb, n * 2 + 1, none⟩ (.slice (some ⟨g, 0, none⟩) 8 c)) lb cl (putV l n s) := by
 refine ⟨fun k hk => ?_, fun j => by rw [World.frozen?_setCell, World.frozen?_setCell]; exact h.fr j⟩;have old := h.at_ n hn
 have e0 : ∃ v, w.cell? ⟨lb, n * 2, none⟩ = some v := by
  obtain ⟨b, hb, _⟩ := old.come;exact ⟨_, hb⟩
 have e1 : ∃ v, w.cell? ⟨lb, n * 2 + 1, none⟩ = some v := by
  cases e : l n with
  | none => rw [e] at old; exact ⟨_, old.2⟩
  | some s1 => rw [e] at old; obtain ⟨_, _, _, h2, _⟩ := old; exact ⟨_, h2⟩
 obtain ⟨v0, e0⟩ := e0;obtain ⟨v1, e1⟩ := e1
 have oth : ∀ k', k' ≠ n -> ∀ j, j < 2 -> ((w.setCell ⟨lb, n * 2, none⟩ (.bool true)).setCell ⟨lb, n * 2 + 1, none⟩ (.slice (some ⟨g, 0, none⟩) 8 c)).cell? ⟨lb, k' * 2 + j, none⟩ = w.cell? ⟨lb, k' * 2 + j, none⟩ := fun k' hk' j hj => by
  rw [World.cell?_setCell_other _ _ _ _ (by intro e'; simp only [Addr.mk.injEq] at e'; omega), World.cell?_setCell_other _ _ _ _ (by intro e'; simp only [Addr.mk.injEq] at e'; omega)]
 by_cases e : k = n
 ·subst e
  rw [J18];refine ⟨g, c, ?_, ?_, (hg.other (fun q => hne q.symm) _ _).other (fun q => hne q.symm) _ _, hne⟩
  ·rw [World.cell?_setCell_other _ _ _ _ (by simp)]
   exact World.cell?_setCell_same _ _ _ e0
  ·have q : (w.setCell ⟨lb, k * 2, none⟩ (.bool true)).cell? ⟨lb, k * 2 + 1, none⟩ = some v1 := by
    rw [World.cell?_setCell_other _ _ _ _ (by simp)]; exact e1
   exact World.cell?_setCell_same _ _ _ q
 ·rw [J15 _ e]
  have hk' := h.at_ k hk;cases eo : l k with
  | none =>
   rw [eo] at hk';exact ⟨(oth k e 0 (by omega)).trans hk'.1, (oth k e 1 (by omega)).trans hk'.2⟩
  | some s1 =>
   rw [eo] at hk';obtain ⟨g1, c1, h1, h2, h3, h4⟩ := hk';exact ⟨g1, c1, (oth k e 0 (by omega)).trans h1, (oth k e 1 (by omega)).trans h2, (h3.other (fun q => h4 q.symm) _ _).other (fun q => h4 q.symm) _ _, h4⟩
end
end Go.Proofs.YtapagihngaiebaaGreat
