/-
  The texts CkLess, CkJoin, CkLead, CkLeadA, CkLeadB, CkLeadC, one behind the other, with what is used of them.
-/
import Derived.Test.YtnppcfkmiddaeabJoined5
namespace Go.Proofs.Ytnppcfkmiddaeab
section
open Go.RowKit
set_option linter.unusedSimpArgs false
set_option linter.unusedVariables false
set_option maxRecDepth 8000
theorem Jde (a n : Int) (s : Bool) (h : n < 0) (w : World) :
  Calls Try.prog 35 #[kn a s, .int .i64 n] w fun e w' => e = .returned (kn 17 s) ∧ More w w' := by
 unfold kn
 go_enter Try.func35, Try.ntmps35
 go_wp2
 exact bodyPost_ret (by simp [results, Try.results35, go_sem]) rfl ⟨rfl, ((More.refl _).alloc _ _).alloc _ _⟩

theorem Jdd (a n f r : Int) (s s' : Bool) (h : ¬ n < 0)
  (c1 : ∀ w : World, Calls Try.prog 62 #[.int .i64 n] w fun e w' => e = .returned (kn f false) ∧ More w w')
  (c2 : ∀ w : World, Calls Try.prog 64 #[.int .i64 1, kn a s, kn f false] w fun e w' => e = .returned (kn r s') ∧ More w w') (w : World) :
  Calls Try.prog 35 #[kn a s, .int .i64 n] w fun e w' => e = .returned (kn r s') ∧ More w w' := by
 unfold kn at *
 have hn : decide (n < 0) = false := by simp; omega
 clear h
 go_enter Try.func35, Try.ntmps35
 go_wp2_with (fail)
 refine (c1 _).mono ?_
 rintro e w1 ⟨rfl, m1⟩
 have a0 : w1.cell? ⟨w.heap.size, 0, none⟩ = some (.int .i64 a) := m1.cell (by go_simp)
 have a1 : w1.cell? ⟨w.heap.size, 1, none⟩ = some (.bool s) := m1.cell (by go_simp)
 have Hb1 : Hid (Blk w1 (w.heap.size + 1) #[.int .i64 0, .bool false] 23) := (by simpa using Blk.last (w.alloc (.cells #[.int .i64 a, .bool s] 23)) #[.int .i64 0, .bool false] 23 : Blk _ (w.heap.size + 1) _ _).more m1
 have Hm1 : Hid (More w w1) := (((More.refl _).alloc _ _).alloc _ _).trans m1
 have za : w.heap.size < w1.heap.size := J05 a0
 clear m1
 go_wp2_with (fail)
 refine (c2 _).mono ?_
 rintro e w2 ⟨rfl, m2⟩
 have hblk := Hb1.out.more (((More.refl _).alloc _ _).trans m2)
 have d0 := hblk.cell (j := 0) rfl
 have d1 := hblk.cell (j := 1) rfl
 have f0 := hblk.frozen 0
 have f1 := hblk.frozen 1
 have Hm2 : Hid (More w w2) := (Hm1.out.alloc _ _).trans m2
 clear m2 hblk
 go_wp2
 exact bodyPost_ret (by simp [results, Try.results35, go_sem, *]) rfl ⟨rfl, (Hm2.out.setCell (by simp) _).setCell (by simp) _⟩

theorem J5m (k : Kn) (n : Int) (n0 : -9223372036854775808 ≤ n) (n1 : n ≤ 9223372036854775807) (w : World) :
  Calls Try.prog 35 #[kn k.b k.s, .int .i64 n] w fun e w' => e = .returned (kn (Kn.index k n).b (Kn.index k n).s) ∧ More w w' := by
 by_cases h : n < 0
 ·have e : Kn.index k n = ⟨17, k.s⟩ := by unfold Kn.index; rw [if_pos h]
  rw [e]; exact Jde k.b n k.s h w
 ·have e : Kn.index k n = Kn.op 1 k (Kn.of n) := by unfold Kn.index; rw [if_neg h]
  rw [e]
  exact Jdd k.b n (fitI n) _ k.s _ h (fun w => J5t n n0 n1 w) (J7x 1 k.b (fitI n) k.s false) w

set_option maxHeartbeats 1000000 in
theorem J45 (b : Bool) (g c : Nat) (s : KS) (r : Int) (x y : Kn) (w : World) (h : KRow w g s) (r0 : 0 ≤ r) (r1 : r < 8) :
  Calls Try.prog 61 #[st b g c, .int .i64 r, kn x.b x.s, kn y.b y.s] w fun e w' => ∃ g' c', e = .returned (st b g' c') ∧ w.heap.size ≤ g' ∧ KRow w' g' (setK s r (Kn.less x y)) ∧ More w w' := by
 have H : Hid (KRow w g s) := h
 obtain ⟨v, hv⟩ : ∃ v, Kn.less x y = v := ⟨_, rfl⟩
 have c2 : ∀ w : World, Calls Try.prog 63 #[kn x.b x.s, kn y.b y.s] w fun e w' => e = .returned (kn v.b v.s) ∧ More w w' := fun w => hv ▸ J5j x.b y.b x.s y.s w
 rw [hv]
 obtain ⟨xb, xs⟩ := x
 obtain ⟨yb, ys⟩ := y
 obtain ⟨vb, vs⟩ := v
 clear h hv
 unfold st kn at *
 dsimp only at *
 go_enter Try.func61, Try.ntmps61
 go_wp2_with (fail)
 refine (J0o b g c s _ (H.out.more ((((More.refl _).alloc _ _).alloc _ _).alloc _ _ |>.alloc _ _))).mono ?_
 rintro e w1 ⟨g1, c1, rfl, hg1, hr1, m1⟩
 have Hx : Hid (Blk w1 (w.heap.size + 1) #[.int .i64 xb, .bool xs] 23) := ((by simpa using Blk.last (w.alloc (.cells #[.bool b, .slice (some ⟨g, 0, none⟩) 8 c] 65)) #[.int .i64 xb, .bool xs] 23 : Blk _ (w.heap.size + 1) _ _).more (((More.refl _).alloc _ _).alloc _ _)).more m1
 have Hy : Hid (Blk w1 (w.heap.size + 1 + 1) #[.int .i64 yb, .bool ys] 23) := ((by simpa using Blk.last ((w.alloc (.cells #[.bool b, .slice (some ⟨g, 0, none⟩) 8 c] 65)).alloc (.cells #[.int .i64 xb, .bool xs] 23)) #[.int .i64 yb, .bool ys] 23 : Blk _ (w.heap.size + 1 + 1) _ _).more ((More.refl _).alloc _ _)).more m1
 have Hres : Hid (Blk w1 (w.heap.size + 1 + 1 + 1) #[.bool false, .slice none 0 0] 65) := (by simpa using Blk.last (((w.alloc (.cells #[.bool b, .slice (some ⟨g, 0, none⟩) 8 c] 65)).alloc (.cells #[.int .i64 xb, .bool xs] 23)).alloc (.cells #[.int .i64 yb, .bool ys] 23)) #[.bool false, .slice none 0 0] 65 : Blk _ (w.heap.size + 1 + 1 + 1) _ _).more m1
 have Hm1 : Hid (More w w1) := ((((More.refl _).alloc _ _).alloc _ _).alloc _ _ |>.alloc _ _).trans m1
 have Hr1 : Hid (KRow w1 g1 s) := hr1
 have Hg1 : Hid (w.heap.size + 4 ≤ g1) := by show _ ≤ _; simpa using hg1
 clear m1 hr1 hg1
 obtain ⟨W1, HW1⟩ : ∃ W1 : World, Hid (W1 = w1.alloc (.cells #[.bool b, .slice (some ⟨g1, 0, none⟩) 8 c1] 65)) := ⟨_, rfl⟩
 have HmW : Hid (More w1 W1) := HW1.out ▸ (More.refl _).alloc _ _
 have HbW : Hid (Blk W1 w1.heap.size #[.bool b, .slice (some ⟨g1, 0, none⟩) 8 c1] 65) := HW1.out ▸ Blk.last _ _ _
 obtain ⟨S, HS⟩ : ∃ S : World → Prop, Hid (∀ w', S w' ↔ (Blk w' (w.heap.size + 1) #[.int .i64 xb, .bool xs] 23 ∧ Blk w' (w.heap.size + 1 + 1) #[.int .i64 yb, .bool ys] 23 ∧ Blk w' w1.heap.size #[.bool b, .slice (some ⟨g1, 0, none⟩) 8 c1] 65)) := ⟨_, fun _ => Iff.rfl⟩
 have HSm : Hid (∀ w', More W1 w' → S w') := fun w' m => (HS.out _).2 ⟨Hx.out.more (HmW.out.trans m), Hy.out.more (HmW.out.trans m), HbW.out.more m⟩
 have HS0 : S W1.drew := HSm.out _ (More.refl _).drew
 have hne : Nonempty { w' // S w' } := ⟨⟨_, HS0⟩⟩
 have k0 : ∀ i : { w' // S w' }, i.val.cell? ⟨w.heap.size + 1, 0, none⟩ = some (.int .i64 xb) := fun i => ((HS.out _).1 i.property).1.cell rfl
 have k1 : ∀ i : { w' // S w' }, i.val.cell? ⟨w.heap.size + 1, 1, none⟩ = some (.bool xs) := fun i => ((HS.out _).1 i.property).1.cell rfl
 have k2 : ∀ i : { w' // S w' }, i.val.cell? ⟨w.heap.size + 1 + 1, 0, none⟩ = some (.int .i64 yb) := fun i => ((HS.out _).1 i.property).2.1.cell rfl
 have k3 : ∀ i : { w' // S w' }, i.val.cell? ⟨w.heap.size + 1 + 1, 1, none⟩ = some (.bool ys) := fun i => ((HS.out _).1 i.property).2.1.cell rfl
 have k4 : ∀ i : { w' // S w' }, i.val.cell? ⟨w1.heap.size, 1, none⟩ = some (.slice (some ⟨g1, 0, none⟩) 8 c1) := fun i => ((HS.out _).1 i.property).2.2.cell rfl
 go_wp2_with (fail)
 rw [← HW1.out]
 refine J01 (S := S) [(0, true), (1, true), (2, true), (3, true), (4, true), (5, false), (6, true), (7, false)] (by kernel_rfl) (by kernel_rfl) (by kernel_rfl) HS0 ?_
 iterate 5 (refine J00 rfl (by kernel_rfl) (fun K hK => ?_); go_simp; refine hK _ _ ?_; clear hK K)
 refine J02 rfl (by kernel_rfl) (fun K hK => ?_); go_simp
 refine (c2 _).mono ?_
 rintro e w2 ⟨rfl, m2⟩
 have HS2 : S w2 := HSm.out _ ((More.refl _).drew.trans m2)
 have Hm2 : Hid (More W1 w2) := (More.refl _).drew.trans m2
 clear m2
 go_simp
 refine hK _ _ HS2 ?_; clear hK K
 (refine J00 rfl (by kernel_rfl) (fun K hK => ?_); go_simp; refine hK _ _ ?_; clear hK K)
 have Hrow : Hid (KRow w2 g1 s) := Hr1.out.more (HmW.out.trans Hm2.out)
 have hr : r.toNat < 8 := by omega
 have q := Hrow.out r.toNat hr
 have q0 := q.1.1
 have q1 := q.1.2
 have q2 := q.2.1
 have q3 := q.2.2
 have hne1 : g1 ≠ w1.heap.size := by have := Hr1.out.lt; omega
 obtain ⟨w3, Hw3⟩ : ∃ w3, Hid (w3 = (w2.setCell ⟨g1, r.toNat * 2, none⟩ (.int .i64 vb)).setCell ⟨g1, r.toNat * 2 + 1, none⟩ (.bool vs)) := ⟨_, rfl⟩
 have Hrow3 : Hid (KRow w3 g1 (setK s r ⟨vb, vs⟩)) := Hw3.out ▸ Hrow.out.set r ⟨vb, vs⟩ hr
 have Hb3 : Hid (Blk w3 w1.heap.size #[.bool b, .slice (some ⟨g1, 0, none⟩) 8 c1] 65) := Hw3.out ▸ ((HbW.out.more Hm2.out).other hne1 _ _).other hne1 _ _
 have Hres3 : Hid (Blk w3 (w.heap.size + 1 + 1 + 1) #[.bool false, .slice none 0 0] 65) := Hw3.out ▸ ((Hres.out.more (HmW.out.trans Hm2.out)).other (by have := Hg1.out; omega) _ _).other (by have := Hg1.out; omega) _ _
 have Hm3 : Hid (More w w3) := Hw3.out ▸ (((Hm1.out.trans HmW.out).trans Hm2.out).setCell (by have := Hg1.out; dsimp only; omega) _).setCell (by have := Hg1.out; dsimp only; omega) _
 have HS3 : S w3 := (HS.out _).2 ⟨Hw3.out ▸ ((Hx.out.more (HmW.out.trans Hm2.out)).other (by have := Hg1.out; omega) _ _).other (by have := Hg1.out; omega) _ _, Hw3.out ▸ ((Hy.out.more (HmW.out.trans Hm2.out)).other (by have := Hg1.out; omega) _ _).other (by have := Hg1.out; omega) _ _, Hb3.out⟩
 refine J02 rfl (by kernel_rfl) (fun K hK => ?_); go_simp
 rw [← Hw3.out]
 refine hK _ _ HS3 ?_; clear hK K
 refine J04 ?_
 clear k0 k1 k2 k3 k4 hne HS0 HS2 HS3 q q0 q1 q2 q3
 have p0 := Hb3.out.cell (j := 0) rfl
 have p1 := Hb3.out.cell (j := 1) rfl
 have t0 := Hres3.out.cell (j := 0) rfl
 have t1 := Hres3.out.cell (j := 1) rfl
 have u0 := Hres3.out.frozen 0
 have u1 := Hres3.out.frozen 1
 go_wp2
 refine bodyPost_ret (by simp [results, Try.results61, go_sem, *]) rfl ⟨g1, c1, rfl, by have := Hg1.out; omega, ?_, ?_⟩
 ·exact (Hrow3.out.other (by have := Hg1.out; omega) _ _).other (by have := Hg1.out; omega) _ _
 ·exact (Hm3.out.setCell (by dsimp only; omega) _).setCell (by dsimp only; omega) _
theorem Jcc (av : Value) (hav : ∃ a n c, av = .slice a n c) (b : Bool) (g c : Nat) (s : KS) (w : World) (h : KRow w g s) :
  Calls Try.prog 58 #[.agg #[.bool false, av], st b g c] w fun e w' => ∃ g' c', e = .returned (st b g' c') ∧ w.heap.size ≤ g' ∧ KRow w' g' s ∧ More w w' := by
 have H : Hid (KRow w g s) := h
 clear h
 obtain ⟨a, n, ca, rfl⟩ := hav
 unfold st
 go_enter Try.func58, Try.ntmps58
 go_wp2_with (fail)
 refine (J0o b g c s _ (H.out.more (((More.refl _).alloc _ _).alloc _ _ |>.alloc _ _))).mono ?_
 rintro e w1 ⟨g1, c1, rfl, hg1, hr1, m1⟩
 have Hres : Hid (Blk w1 (w.heap.size + 1 + 1) #[.bool false, .slice none 0 0] 65) := (by simpa using Blk.last ((w.alloc (.cells #[.bool false, .slice a n ca] 65)).alloc (.cells #[.bool b, .slice (some ⟨g, 0, none⟩) 8 c] 65)) #[.bool false, .slice none 0 0] 65 : Blk _ (w.heap.size + 1 + 1) _ _).more m1
 have Hm1 : Hid (More w w1) := (((More.refl _).alloc _ _).alloc _ _ |>.alloc _ _).trans m1
 have Hr1 : Hid (KRow w1 g1 s) := hr1
 have Hg1 : Hid (w.heap.size + 3 ≤ g1) := by show _ ≤ _; simpa using hg1
 clear m1 hr1 hg1
 have t0 := Hres.out.cell (j := 0) rfl
 have t1 := Hres.out.cell (j := 1) rfl
 have u0 := Hres.out.frozen 0
 have u1 := Hres.out.frozen 1
 unfold st
 go_wp2
 refine bodyPost_ret (by simp [results, Try.results58, go_sem, *]) rfl ⟨g1, c1, rfl, by have := Hg1.out; omega, ?_, ?_⟩
 ·exact (Hr1.out.other (by have := Hg1.out; omega) _ _).other (by have := Hg1.out; omega) _ _
 ·exact (Hm1.out.setCell (by dsimp only; omega) _).setCell (by dsimp only; omega) _

def J6v (s t : KS) (k : Nat) : KS := fun j => if j < k then Kn.join (s j) (t j) else s j

structure JFix (n ga ca gb cb g1 c1 n1 : Nat) (sa sb : KS) (b b' : Bool) (w : World) : Prop where
 fa : Blk w n #[.bool b, .slice (some ⟨ga, 0, none⟩) 8 ca] 65
 fb : Blk w (n + 1) #[.bool b', .slice (some ⟨gb, 0, none⟩) 8 cb] 65
 fr : Blk w (n + 1 + 1) #[.bool false, .slice none 0 0] 65
 fs : Blk w n1 #[.bool b, .slice (some ⟨g1, 0, none⟩) 8 c1] 65
 ka : KRow w ga sa
 kb : KRow w gb sb
theorem JFix.more {n ga ca gb cb g1 c1 n1 : Nat} {sa sb : KS} {b b' : Bool} {w w' : World} (m : More w w') (h : JFix n ga ca gb cb g1 c1 n1 sa sb b b' w) : JFix n ga ca gb cb g1 c1 n1 sa sb b b' w' :=
 ⟨h.fa.more m, h.fb.more m, h.fr.more m, h.fs.more m, h.ka.more m, h.kb.more m⟩
theorem JFix.set {n ga ca gb cb g1 c1 n1 : Nat} {sa sb : KS} {b b' : Bool} {w : World} (h : JFix n ga ca gb cb g1 c1 n1 sa sb b b' w) (h1 : n + 1 + 1 < g1) (h2 : g1 ≠ n1) (h3 : g1 ≠ ga) (h4 : g1 ≠ gb) (o : Nat) (v : Value) :
  JFix n ga ca gb cb g1 c1 n1 sa sb b b' (w.setCell ⟨g1, o, none⟩ v) :=
 ⟨h.fa.other (by omega) _ _, h.fb.other (by omega) _ _, h.fr.other (by omega) _ _, h.fs.other h2 _ _, h.ka.other h3 _ _, h.kb.other h4 _ _⟩

set_option maxHeartbeats 2000000 in
theorem Jd2 (b b' : Bool) (ga ca gb cb : Nat) (sa sb : KS) (w : World) (ha : KRow w ga sa) (hb : KRow w gb sb) (hbt : b = true) :
  Calls Try.prog 58 #[st b ga ca, st b' gb cb] w fun e w' => ∃ g' c', e = .returned (st b g' c') ∧ w.heap.size ≤ g' ∧ KRow w' g' (fun j => Kn.join (sa j) (sb j)) ∧ More w w' := by
 have Ha : Hid (KRow w ga sa) := ha
 have Hb : Hid (KRow w gb sb) := hb
 clear ha hb
 have Cj : Hid (∀ (x y : Kn) (w : World), Calls Try.prog 81 #[kn x.b x.s, kn y.b y.s] w fun e w' => e = .returned (kn (Kn.join x y).b (Kn.join x y).s) ∧ More w w') := fun x y w => J90 x.b y.b x.s y.s w
 subst hbt
 unfold st
 go_enter Try.func58, Try.ntmps58
 go_wp2_with (fail)
 refine (J0o true ga ca sa _ (Ha.out.more (((More.refl _).alloc _ _).alloc _ _ |>.alloc _ _))).mono ?_
 rintro e w1 ⟨g1, c1, rfl, hg1, hr1, m1⟩
 obtain ⟨W1, HW1⟩ : ∃ W1 : World, Hid (W1 = w1.alloc (.cells #[.bool true, .slice (some ⟨g1, 0, none⟩) 8 c1] 65)) := ⟨_, rfl⟩
 have HF : Hid (JFix w.heap.size ga ca gb cb g1 c1 w1.heap.size sa sb true b' W1) := by
  have mW : More w1 W1 := HW1.out ▸ (More.refl _).alloc _ _
  have e0 : Blk (((w.alloc (.cells #[.bool true, .slice (some ⟨ga, 0, none⟩) 8 ca] 65)).alloc (.cells #[.bool b', .slice (some ⟨gb, 0, none⟩) 8 cb] 65)).alloc (.cells #[.bool false, .slice none 0 0] 65)) w.heap.size #[.bool true, .slice (some ⟨ga, 0, none⟩) 8 ca] 65 := (Blk.last _ _ _).more (((More.refl _).alloc _ _).alloc _ _)
  have e1 : Blk (((w.alloc (.cells #[.bool true, .slice (some ⟨ga, 0, none⟩) 8 ca] 65)).alloc (.cells #[.bool b', .slice (some ⟨gb, 0, none⟩) 8 cb] 65)).alloc (.cells #[.bool false, .slice none 0 0] 65)) (w.heap.size + 1) #[.bool b', .slice (some ⟨gb, 0, none⟩) 8 cb] 65 := (by simpa using Blk.last (w.alloc (.cells #[.bool true, .slice (some ⟨ga, 0, none⟩) 8 ca] 65)) #[.bool b', .slice (some ⟨gb, 0, none⟩) 8 cb] 65 : Blk _ (w.heap.size + 1) _ _).more ((More.refl _).alloc _ _)
  have e2 : Blk (((w.alloc (.cells #[.bool true, .slice (some ⟨ga, 0, none⟩) 8 ca] 65)).alloc (.cells #[.bool b', .slice (some ⟨gb, 0, none⟩) 8 cb] 65)).alloc (.cells #[.bool false, .slice none 0 0] 65)) (w.heap.size + 1 + 1) #[.bool false, .slice none 0 0] 65 := by simpa using Blk.last ((w.alloc (.cells #[.bool true, .slice (some ⟨ga, 0, none⟩) 8 ca] 65)).alloc (.cells #[.bool b', .slice (some ⟨gb, 0, none⟩) 8 cb] 65)) #[.bool false, .slice none 0 0] 65
  have m0 := (((More.refl w).alloc #[.bool true, .slice (some ⟨ga, 0, none⟩) 8 ca] 65).alloc #[.bool b', .slice (some ⟨gb, 0, none⟩) 8 cb] 65 |>.alloc #[.bool false, .slice none 0 0] 65).trans (m1.trans mW)
  exact ⟨e0.more (m1.trans mW), e1.more (m1.trans mW), e2.more (m1.trans mW), HW1.out ▸ Blk.last _ _ _, Ha.out.more m0, Hb.out.more m0⟩
 have HK : Hid (KRow W1 g1 sa) := hr1.more (HW1.out ▸ (More.refl _).alloc _ _)
 have HM : Hid (More w W1) := ((((More.refl _).alloc _ _).alloc _ _ |>.alloc _ _).trans m1).trans (HW1.out ▸ (More.refl _).alloc _ _)
 have HG : Hid (w.heap.size + 3 ≤ g1 ∧ g1 < w1.heap.size) := ⟨by simpa using hg1, hr1.lt⟩
 have HA : Hid (ga < w.heap.size ∧ gb < w.heap.size) := ⟨Ha.out.lt, Hb.out.lt⟩
 clear m1 hr1 hg1
 go_wp2_with (fail)
 rw [← HW1.out]
 go_loopg [6] 8 (fun g iv wr => ∃ k : Nat, k + g = 8 ∧ iv = .int .i64 k ∧ Hid (JFix w.heap.size ga ca gb cb g1 c1 w1.heap.size sa sb true b' wr ∧ KRow wr g1 (J6v sa sb k) ∧ More w wr))
 case atStart => exact ⟨0, by omega, rfl, HF.out, HK.out.congr (fun j _ => by simp [J6v]), HM.out⟩
 case round =>
  obtain ⟨k, hkg, rfl, Hr⟩ := hrel
  have a1 := Hr.out.1.fa.cell (j := 1) rfl
  have b1 := Hr.out.1.fb.cell (j := 1) rfl
  have s0 := Hr.out.1.fs.cell (j := 0) rfl
  have s1 := Hr.out.1.fs.cell (j := 1) rfl
  cases gk with
  | zero =>
   obtain rfl : k = 8 := by omega
   have t0 := Hr.out.1.fr.cell (j := 0) rfl
   have t1 := Hr.out.1.fr.cell (j := 1) rfl
   have u0 := Hr.out.1.fr.frozen 0
   have u1 := Hr.out.1.fr.frozen 1
   go_wp2
   refine bodyPost_ret (by simp [results, Try.results58, go_sem, *]) rfl ⟨g1, ⟨c1, rfl⟩, by have := HG.out; omega, ?_, ?_⟩
   ·exact ((Hr.out.2.1.congr (fun j hj => by simp [J6v, hj])).other (by have := HG.out; omega) _ _).other (by have := HG.out; omega) _ _
   ·exact (Hr.out.2.2.setCell (by dsimp only; omega) _).setCell (by dsimp only; omega) _
  | succ g =>
   have hk8 : k < 8 := by omega
   have hki : (k : Int) < 8 := by omega
   obtain ⟨S, HS⟩ : ∃ S : World → Prop, Hid (∀ w', S w' ↔ JFix w.heap.size ga ca gb cb g1 c1 w1.heap.size sa sb true b' w') := ⟨_, fun _ => Iff.rfl⟩
   have HS0 : S wr.drew := (HS.out _).2 (Hr.out.1.more (More.refl _).drew)
   have hne : Nonempty { w' // S w' } := ⟨⟨_, HS0⟩⟩
   have k0 : ∀ i : { w' // S w' }, i.val.cell? ⟨w.heap.size, 1, none⟩ = some (.slice (some ⟨ga, 0, none⟩) 8 ca) := fun i => ((HS.out _).1 i.property).fa.cell rfl
   have k1 : ∀ i : { w' // S w' }, i.val.cell? ⟨w.heap.size + 1, 1, none⟩ = some (.slice (some ⟨gb, 0, none⟩) 8 cb) := fun i => ((HS.out _).1 i.property).fb.cell rfl
   have k2 : ∀ i : { w' // S w' }, i.val.cell? ⟨w1.heap.size, 1, none⟩ = some (.slice (some ⟨g1, 0, none⟩) 8 c1) := fun i => ((HS.out _).1 i.property).fs.cell rfl
   obtain ⟨xa, hxa⟩ : ∃ x, sa k = x := ⟨_, rfl⟩
   obtain ⟨xb, hxb⟩ : ∃ x, sb k = x := ⟨_, rfl⟩
   have k3 : ∀ i : { w' // S w' }, i.val.cell? ⟨ga, k * 2, none⟩ = some (.int .i64 xa.b) := fun i => hxa ▸ (((HS.out _).1 i.property).ka k hk8).1.1
   have k4 : ∀ i : { w' // S w' }, i.val.cell? ⟨ga, k * 2 + 1, none⟩ = some (.bool xa.s) := fun i => hxa ▸ (((HS.out _).1 i.property).ka k hk8).1.2
   have k5 : ∀ i : { w' // S w' }, i.val.cell? ⟨gb, k * 2, none⟩ = some (.int .i64 xb.b) := fun i => hxb ▸ (((HS.out _).1 i.property).kb k hk8).1.1
   have k6 : ∀ i : { w' // S w' }, i.val.cell? ⟨gb, k * 2 + 1, none⟩ = some (.bool xb.s) := fun i => hxb ▸ (((HS.out _).1 i.property).kb k hk8).1.2
   obtain ⟨v, hv⟩ : ∃ v, Kn.join xa xb = v := ⟨_, rfl⟩
   have c2 : ∀ w : World, Calls Try.prog 81 #[kn xa.b xa.s, kn xb.b xb.s] w fun e w' => e = .returned (kn v.b v.s) ∧ More w w' := fun w => hv ▸ Cj.out xa xb w
   have Hv : Hid (Kn.join (sa k) (sb k) = v) := by rw [hxa, hxb]; exact hv
   clear hxa hxb hv
   obtain ⟨xab, xas⟩ := xa
   obtain ⟨xbb, xbs⟩ := xb
   obtain ⟨vb, vs⟩ := v
   unfold kn at c2
   dsimp only at k3 k4 k5 k6 c2
   go_wp2_with (fail)
   clear a1 b1 s0 s1
   refine J01 (S := S) [(0, true), (1, true), (2, true), (3, true), (4, true), (5, true), (6, true), (7, true), (8, true), (9, true), (10, true), (11, true), (12, true), (13, false), (14, true), (15, false)] (by kernel_rfl) (by kernel_rfl) (by kernel_rfl) HS0 ?_
   iterate 13 (refine J00 rfl (by kernel_rfl) (fun K hK => ?_); go_simp; refine hK _ _ ?_; clear hK K)
   refine J02 rfl (by kernel_rfl) (fun K hK => ?_); go_simp
   refine (c2 _).mono ?_
   rintro e w2 ⟨rfl, m2⟩
   have Hm2 : Hid (More wr w2) := (More.refl _).drew.trans m2
   have HS2 : S w2 := (HS.out _).2 (Hr.out.1.more Hm2.out)
   clear m2
   go_simp
   refine hK _ _ HS2 ?_; clear hK K
   (refine J00 rfl (by kernel_rfl) (fun K hK => ?_); go_simp; refine hK _ _ ?_; clear hK K)
   have Hrow : Hid (KRow w2 g1 (J6v sa sb k)) := Hr.out.2.1.more Hm2.out
   have q := Hrow.out k hk8
   have q0 := q.1.1
   have q1 := q.1.2
   have q2 := q.2.1
   have q3 := q.2.2
   obtain ⟨w3, Hw3⟩ : ∃ w3, Hid (w3 = (w2.setCell ⟨g1, k * 2, none⟩ (.int .i64 vb)).setCell ⟨g1, k * 2 + 1, none⟩ (.bool vs)) := ⟨_, rfl⟩
   have Hrow3 : Hid (KRow w3 g1 (J6v sa sb (k + 1))) := by
    have h := Hrow.out.set (k : Int) ⟨vb, vs⟩ (by simpa using hk8)
    rw [Int.toNat_natCast] at h
    rw [Hw3.out]
    refine KRow.congr h (fun j hj => ?_)
    unfold setK J6v
    rw [Int.toNat_natCast]
    by_cases e : j = k
    ·subst e; rw [if_pos rfl, if_pos (by omega), Hv.out]
    ·rw [if_neg e]
     by_cases e2 : j < k
     ·rw [if_pos e2, if_pos (by omega)]
     ·rw [if_neg e2, if_neg (by omega)]
   have hg := HG.out
   have hA := HA.out
   have HF3 : Hid (JFix w.heap.size ga ca gb cb g1 c1 w1.heap.size sa sb true b' w3) := Hw3.out ▸ ((Hr.out.1.more Hm2.out).set (by omega) (by omega) (by omega) (by omega) _ _).set (by omega) (by omega) (by omega) (by omega) _ _
   have Hm3 : Hid (More w w3) := Hw3.out ▸ (((Hr.out.2.2.trans Hm2.out).setCell (by dsimp only; omega) _).setCell (by dsimp only; omega) _)
   have HS3 : S w3 := (HS.out _).2 HF3.out
   clear hg hA
   refine J02 rfl (by kernel_rfl) (fun K hK => ?_); go_simp
   rw [← Hw3.out]
   refine hK _ _ HS3 ?_; clear hK K
   refine J04 ?_
   clear k0 k1 k2 k3 k4 k5 k6 hne HS0 HS2 HS3 q q0 q1 q2 q3
   go_wp2
   go_roundg g
   case measure => omega
   case rel => exact ⟨k + 1, by omega, by first | rfl | simp, HF3.out, Hrow3.out, Hm3.out⟩
structure LFix (n g c g1 c1 n8 : Nat) (rv cv : Value) (i : Ins) (s : KS) (rb ro rl : Nat) (log : Nat → Int) (sec : Nat → Bool) (w : World) : Prop where
 fp : Blk w n #[rv, cv] 30
 fs : Blk w (n + 1) #[.bool true, .slice (some ⟨g, 0, none⟩) 8 c] 65
 fi : Blk w (n + 1 + 1) #[.int .i64 i.op, .int .i64 i.a, .int .i64 i.b, .int .i64 i.c, .int .i64 i.n] 67
 ft : Blk w n8 #[.bool true, .slice (some ⟨g1, 0, none⟩) 8 c1] 65
 ks : KRow w g s
 regs : RegsAt w rb ro rl log sec
section
variable {n g c g1 c1 n8 rb ro rl : Nat} {rv cv : Value} {i : Ins} {s : KS} {log : Nat → Int} {sec : Nat → Bool} {w w' : World}
theorem LFix.more (m : More w w') (h : LFix n g c g1 c1 n8 rv cv i s rb ro rl log sec w) : LFix n g c g1 c1 n8 rv cv i s rb ro rl log sec w' :=
 ⟨h.fp.more m, h.fs.more m, h.fi.more m, h.ft.more m, h.ks.more m, h.regs.more m⟩
theorem LFix.set (h : LFix n g c g1 c1 n8 rv cv i s rb ro rl log sec w) (h1 : n + 2 < g1) (h2 : g1 ≠ n8) (h3 : g1 ≠ g) (h4 : 0 < rl → g1 ≠ rb) (o : Nat) (v : Value) : LFix n g c g1 c1 n8 rv cv i s rb ro rl log sec (w.setCell ⟨g1, o, none⟩ v) :=
 ⟨h.fp.other (by omega) _ _, h.fs.other (by omega) _ _, h.fi.other (by omega) _ _, h.ft.other h2 _ _, h.ks.other h3 _ _, fun j hj => by
  have := h.regs j hj
  have hne := h4 (by omega)
  exact ⟨by rw [World.cell?_setCell_other _ _ _ _ (by intro e; simp only [Addr.mk.injEq] at e; omega)]; exact this.1, by rw [World.cell?_setCell_other _ _ _ _ (by intro e; simp only [Addr.mk.injEq] at e; omega)]; exact this.2⟩⟩
end

def LdAt (w : World) (lo : Nat) (v : Value) (ls : List (Nat × KS)) : Prop :=
 ∃ (a : Option Addr) (b cap : Nat), v = .slice a ls.length cap ∧ (0 < ls.length → a = some ⟨b, 0, none⟩) ∧ lo ≤ b ∧ ls.length ≤ 2 ∧
  ∀ k x, ls[k]? = some x → ∃ g c, w.cell? ⟨b, k * 3, none⟩ = some (.int .i64 (x.1 : Int)) ∧ w.cell? ⟨b, k * 3 + 1, none⟩ = some (.bool true) ∧ w.cell? ⟨b, k * 3 + 2, none⟩ = some (.slice (some ⟨g, 0, none⟩) 8 c) ∧ KRow w g x.2 ∧ lo ≤ g
theorem LdAt.more {w w' : World} (m : More w w') {lo : Nat} {v : Value} {ls : List (Nat × KS)} (h : LdAt w lo v ls) : LdAt w' lo v ls := by
 obtain ⟨a, b, cap, e, h1, hb, h2, h3⟩ := h
 refine ⟨a, b, cap, e, h1, hb, h2, fun k x hx => ?_⟩
 obtain ⟨g, c, q0, q1, q2, q3, q4⟩ := h3 k x hx
 exact ⟨g, c, m.cell q0, m.cell q1, m.cell q2, q3.more m, q4⟩
theorem LdAt.other {w : World} {lo : Nat} {v : Value} {ls : List (Nat × KS)} (h : LdAt w lo v ls) {b' : Nat} (hb' : b' < lo) (o : Nat) (u : Value) : LdAt (w.setCell ⟨b', o, none⟩ u) lo v ls := by
 obtain ⟨a, b, cap, e, h1, hb, h2, h3⟩ := h
 refine ⟨a, b, cap, e, h1, hb, h2, fun k x hx => ?_⟩
 obtain ⟨g, c, q0, q1, q2, q3, q4⟩ := h3 k x hx
 have oth : ∀ o', (w.setCell ⟨b', o, none⟩ u).cell? ⟨b, o', none⟩ = w.cell? ⟨b, o', none⟩ := fun o' => World.cell?_setCell_other _ _ _ _ (by intro e'; simp only [Addr.mk.injEq] at e'; omega)
 exact ⟨g, c, (oth _).trans q0, (oth _).trans q1, (oth _).trans q2, q3.other (by omega) _ _, q4⟩

theorem LdAt.one {w : World} {lo to g c cap b : Nat} {s : KS} (hb : w.heap.size = b) (h : KRow w g s) (hl : lo ≤ g) : LdAt (w.alloc (.cells #[.int .i64 (to : Int), .bool true, .slice (some ⟨g, 0, none⟩) 8 c] 71)) lo (.slice (some ⟨b, 0, none⟩) 1 cap) [(to, s)] := by
 subst hb
 refine ⟨_, w.heap.size, cap, rfl, fun _ => rfl, by have := h.lt; omega, by simp, fun k x hx => ?_⟩
 cases k with
 | zero =>
  simp at hx
  subst hx
  have hb := Blk.last w #[.int .i64 (to : Int), .bool true, .slice (some ⟨g, 0, none⟩) 8 c] 71
  exact ⟨g, c, hb.cell rfl, hb.cell rfl, hb.cell rfl, h.more ((More.refl _).alloc _ _), hl⟩
 | succ k => simp at hx
theorem LdAt.two {w : World} {lo to to' g c g' c' cap b : Nat} {s s' : KS} (hb : w.heap.size = b) (h : KRow w g s) (hl : lo ≤ g) (h' : KRow w g' s') (hl' : lo ≤ g') :
  LdAt (w.alloc (.cells #[.int .i64 (to : Int), .bool true, .slice (some ⟨g, 0, none⟩) 8 c, .int .i64 (to' : Int), .bool true, .slice (some ⟨g', 0, none⟩) 8 c'] 71)) lo (.slice (some ⟨b, 0, none⟩) 2 cap) [(to, s), (to', s')] := by
 subst hb
 refine ⟨_, w.heap.size, cap, rfl, fun _ => rfl, by have := h.lt; omega, by simp, fun k x hx => ?_⟩
 have hb := Blk.last w #[.int .i64 (to : Int), .bool true, .slice (some ⟨g, 0, none⟩) 8 c, .int .i64 (to' : Int), .bool true, .slice (some ⟨g', 0, none⟩) 8 c'] 71
 match k, hx with
 | 0, hx =>
  simp at hx; subst hx
  exact ⟨g, c, hb.cell rfl, hb.cell rfl, hb.cell rfl, h.more ((More.refl _).alloc _ _), hl⟩
 | 1, hx =>
  simp at hx; subst hx
  exact ⟨g', c', hb.cell rfl, hb.cell rfl, hb.cell rfl, h'.more ((More.refl _).alloc _ _), hl'⟩
 | k + 2, hx => simp at hx
set_option maxHeartbeats 2000000 in
theorem Jhc (ra : Option Addr) (rb ro rl rc : Nat) (log : Nat → Int) (sec : Nat → Bool) (cb co cl cc at_ g c : Nat) (a b ic n : Int) (s : KS) (w : World) (hra : 0 < rl → ra = some ⟨rb, ro, none⟩) (hregs : RegsAt w rb ro rl log sec)
  (q0 : w.cell? ⟨cb, co + at_ * 5, none⟩ = some (.int .i64 1)) (q1 : w.cell? ⟨cb, co + at_ * 5 + 1, none⟩ = some (.int .i64 a)) (q2 : w.cell? ⟨cb, co + at_ * 5 + 2, none⟩ = some (.int .i64 b)) (q3 : w.cell? ⟨cb, co + at_ * 5 + 3, none⟩ = some (.int .i64 ic)) (q4 : w.cell? ⟨cb, co + at_ * 5 + 4, none⟩ = some (.int .i64 n))
  (hat : (at_ : Int) < cl) (hcl : (cl : Int) ≤ 200) (hk : KRow w g s) (ha0 : 0 ≤ a) (ha1 : a < 8) (n0 : -9223372036854775808 ≤ n) (n1 : n ≤ 9223372036854775807) :
  Calls Try.prog 34 #[.agg #[.slice ra rl rc, .slice (some ⟨cb, co, none⟩) cl cc], .int .i64 at_, st true g c] w fun e w' => ∃ v, e = .returned v ∧ LdAt w' w.heap.size v [(at_ + 1, setK s a (Kn.of n))] ∧ More w w' := by
 have Hk : Hid (KRow w g s) := hk
 have Hreg : Hid ((0 < rl → ra = some ⟨rb, ro, none⟩) ∧ RegsAt w rb ro rl log sec) := ⟨hra, hregs⟩
 have hat2 : (at_ : Int) + 1 ≤ 200 := by omega
 have hcb : cb < w.heap.size := J05 q0
 have hcb1 : cb < w.heap.size + 1 := by omega
 clear hk hra hregs
 suffices hP : ∀ P : Ending → World → Prop, (∀ v w', LdAt w' w.heap.size v [(at_ + 1, setK s a (Kn.of n))] → More w w' → P (.returned v) w') → Calls Try.prog 34 #[.agg #[.slice ra rl rc, .slice (some ⟨cb, co, none⟩) cl cc], .int .i64 at_, st true g c] w P from hP _ (fun v w' h1 h2 => ⟨v, rfl, h1, h2⟩)
 intro P hP0
 have hP : Hid (∀ v w', LdAt w' w.heap.size v [(at_ + 1, setK s a (Kn.of n))] → More w w' → P (.returned v) w') := hP0
 clear hP0
 unfold st
 go_enter Try.func34, Try.ntmps34
 go_wp2_with (fail)
 refine (J0o true g c s _ (Hk.out.more (((More.refl _).alloc _ _).alloc _ _ |>.alloc _ _))).mono ?_
 rintro e w1 ⟨g1, c1, rfl, hg1, hr1, m1⟩
 obtain ⟨W1, HW1⟩ : ∃ W1 : World, Hid (W1 = w1.alloc (.cells #[.bool true, .slice (some ⟨g1, 0, none⟩) 8 c1] 65)) := ⟨_, rfl⟩
 have HF : Hid (LFix w.heap.size g c g1 c1 w1.heap.size (.slice ra rl rc) (.slice (some ⟨cb, co, none⟩) cl cc) ⟨1, a, b, ic, n⟩ s rb ro rl log sec W1) := by
  have mW : More w1 W1 := HW1.out ▸ (More.refl _).alloc _ _
  have e0 := (Blk.last w #[.slice ra rl rc, .slice (some ⟨cb, co, none⟩) cl cc] 30).more (((More.refl _).alloc #[.bool true, .slice (some ⟨g, 0, none⟩) 8 c] 65).alloc #[.int .i64 1, .int .i64 a, .int .i64 b, .int .i64 ic, .int .i64 n] 67)
  have e1 := (by simpa using Blk.last (w.alloc (.cells #[.slice ra rl rc, .slice (some ⟨cb, co, none⟩) cl cc] 30)) #[.bool true, .slice (some ⟨g, 0, none⟩) 8 c] 65 : Blk ((w.alloc (.cells #[.slice ra rl rc, .slice (some ⟨cb, co, none⟩) cl cc] 30)).alloc (.cells #[.bool true, .slice (some ⟨g, 0, none⟩) 8 c] 65)) (w.heap.size + 1) #[.bool true, .slice (some ⟨g, 0, none⟩) 8 c] 65).more ((More.refl _).alloc #[.int .i64 1, .int .i64 a, .int .i64 b, .int .i64 ic, .int .i64 n] 67)
  have e2 := (by simpa using Blk.last ((w.alloc (.cells #[.slice ra rl rc, .slice (some ⟨cb, co, none⟩) cl cc] 30)).alloc (.cells #[.bool true, .slice (some ⟨g, 0, none⟩) 8 c] 65)) #[.int .i64 1, .int .i64 a, .int .i64 b, .int .i64 ic, .int .i64 n] 67 : Blk (((w.alloc (.cells #[.slice ra rl rc, .slice (some ⟨cb, co, none⟩) cl cc] 30)).alloc (.cells #[.bool true, .slice (some ⟨g, 0, none⟩) 8 c] 65)).alloc (.cells #[.int .i64 1, .int .i64 a, .int .i64 b, .int .i64 ic, .int .i64 n] 67)) (w.heap.size + 1 + 1) #[.int .i64 1, .int .i64 a, .int .i64 b, .int .i64 ic, .int .i64 n] 67)
  have m0 := (((More.refl w).alloc #[.slice ra rl rc, .slice (some ⟨cb, co, none⟩) cl cc] 30).alloc #[.bool true, .slice (some ⟨g, 0, none⟩) 8 c] 65 |>.alloc #[.int .i64 1, .int .i64 a, .int .i64 b, .int .i64 ic, .int .i64 n] 67).trans (m1.trans mW)
  exact ⟨e0.more (m1.trans mW), e1.more (m1.trans mW), e2.more (m1.trans mW), HW1.out ▸ Blk.last _ _ _, Hk.out.more m0, Hreg.out.2.more m0⟩
 have HK1 : Hid (KRow W1 g1 s) := hr1.more (HW1.out ▸ (More.refl _).alloc _ _)
 have HM : Hid (More w W1) := ((((More.refl _).alloc _ _).alloc _ _ |>.alloc _ _).trans m1).trans (HW1.out ▸ (More.refl _).alloc _ _)
 have HG : Hid (w.heap.size + 3 ≤ g1 ∧ g1 < w1.heap.size ∧ w1.heap.size < W1.heap.size) := ⟨by simpa using hg1, hr1.lt, by rw [HW1.out]; simp⟩
 have HA : Hid (g < w.heap.size ∧ (0 < rl → rb < w.heap.size)) := ⟨Hk.out.lt, fun h0 => J05 (Hreg.out.2 0 h0).1⟩
 have HI : Hid (Blk w1 (w.heap.size + 1 + 1) #[.int .i64 1, .int .i64 a, .int .i64 b, .int .i64 ic, .int .i64 n] 67) := (by simpa using Blk.last ((w.alloc (.cells #[.slice ra rl rc, .slice (some ⟨cb, co, none⟩) cl cc] 30)).alloc (.cells #[.bool true, .slice (some ⟨g, 0, none⟩) 8 c] 65)) #[.int .i64 1, .int .i64 a, .int .i64 b, .int .i64 ic, .int .i64 n] 67 : Blk (((w.alloc (.cells #[.slice ra rl rc, .slice (some ⟨cb, co, none⟩) cl cc] 30)).alloc (.cells #[.bool true, .slice (some ⟨g, 0, none⟩) 8 c] 65)).alloc (.cells #[.int .i64 1, .int .i64 a, .int .i64 b, .int .i64 ic, .int .i64 n] 67)) (w.heap.size + 1 + 1) #[.int .i64 1, .int .i64 a, .int .i64 b, .int .i64 ic, .int .i64 n] 67).more m1
 clear m1 hr1 hg1 q0 q1 q2 q3 q4
 have i0 : w1.cell? ⟨w.heap.size + 1 + 1, 0, none⟩ = some (.int .i64 1) := HI.out.cell rfl
 have i1 : w1.cell? ⟨w.heap.size + 1 + 1, 1, none⟩ = some (.int .i64 a) := HI.out.cell rfl
 have i2 : w1.cell? ⟨w.heap.size + 1 + 1, 2, none⟩ = some (.int .i64 b) := HI.out.cell rfl
 have i3 : w1.cell? ⟨w.heap.size + 1 + 1, 3, none⟩ = some (.int .i64 ic) := HI.out.cell rfl
 have i4 : w1.cell? ⟨w.heap.size + 1 + 1, 4, none⟩ = some (.int .i64 n) := HI.out.cell rfl
 have zi : w.heap.size + 1 + 1 < w1.heap.size := HI.out.lt
 obtain ⟨S, HS⟩ : ∃ S : World → Prop, Hid (∀ w', S w' ↔ LFix w.heap.size g c g1 c1 w1.heap.size (.slice ra rl rc) (.slice (some ⟨cb, co, none⟩) cl cc) ⟨1, a, b, ic, n⟩ s rb ro rl log sec w') := ⟨_, fun _ => Iff.rfl⟩
 have HSm : Hid (∀ w', More W1 w' → S w') := fun w' m => (HS.out _).2 (HF.out.more m)
 have HS0 : S W1.drew := HSm.out _ (More.refl _).drew
 have hne : Nonempty { w' // S w' } := ⟨⟨_, HS0⟩⟩
 have k0 : ∀ i : { w' // S w' }, i.val.cell? ⟨w.heap.size + 1 + 1, 0, none⟩ = some (.int .i64 1) := fun i => ((HS.out _).1 i.property).fi.cell rfl
 have k1 : ∀ i : { w' // S w' }, i.val.cell? ⟨w.heap.size + 1 + 1, 1, none⟩ = some (.int .i64 a) := fun i => ((HS.out _).1 i.property).fi.cell rfl
 have k2 : ∀ i : { w' // S w' }, i.val.cell? ⟨w.heap.size + 1 + 1, 2, none⟩ = some (.int .i64 b) := fun i => ((HS.out _).1 i.property).fi.cell rfl
 have k3 : ∀ i : { w' // S w' }, i.val.cell? ⟨w.heap.size + 1 + 1, 3, none⟩ = some (.int .i64 ic) := fun i => ((HS.out _).1 i.property).fi.cell rfl
 have k4 : ∀ i : { w' // S w' }, i.val.cell? ⟨w.heap.size + 1 + 1, 4, none⟩ = some (.int .i64 n) := fun i => ((HS.out _).1 i.property).fi.cell rfl
 have k5 : ∀ i : { w' // S w' }, i.val.cell? ⟨w1.heap.size, 1, none⟩ = some (.slice (some ⟨g1, 0, none⟩) 8 c1) := fun i => ((HS.out _).1 i.property).ft.cell rfl
 have k6 : ∀ i : { w' // S w' }, i.val.cell? ⟨w.heap.size + 1, 1, none⟩ = some (.slice (some ⟨g, 0, none⟩) 8 c) := fun i => ((HS.out _).1 i.property).fs.cell rfl
 have k7 : ∀ i : { w' // S w' }, i.val.cell? ⟨w.heap.size, 0, none⟩ = some (.slice ra rl rc) := fun i => ((HS.out _).1 i.property).fp.cell rfl
 obtain ⟨v, hv⟩ : ∃ v, Kn.of n = v := ⟨_, rfl⟩
 have c2 : ∀ w : World, Calls Try.prog 62 #[.int .i64 n] w fun e w' => e = .returned (kn v.b v.s) ∧ More w w' := fun w => hv ▸ J5t n n0 n1 w
 have Hx : Hid ((⟨v.b, v.s⟩ : Kn) = Kn.of n) := hv.symm
 clear hv
 obtain ⟨vb, vs⟩ := v
 unfold kn at c2
 dsimp only at c2
 go_wp2_with (fail)
 rw [← HW1.out]
 clear i0 i1 i2 i3 i4 zi
 refine J01 (S := S) [(0, true), (1, true), (2, true), (3, true), (4, true), (5, true), (6, false), (7, true), (8, false)] (by kernel_rfl) (by kernel_rfl) (by kernel_rfl) HS0 ?_
 iterate 6 (refine J00 rfl (by kernel_rfl) (fun K hK => ?_); go_simp; refine hK _ _ ?_; clear hK K)
 refine J02 rfl (by kernel_rfl) (fun K hK => ?_); go_simp
 refine (c2 _).mono ?_
 rintro e w2 ⟨rfl, m2⟩
 have Hm2 : Hid (More W1 w2) := (More.refl _).drew.trans m2
 have HS2 : S w2 := HSm.out _ Hm2.out
 clear m2
 go_simp
 refine hK _ _ HS2 ?_; clear hK K
 (refine J00 rfl (by kernel_rfl) (fun K hK => ?_); go_simp; refine hK _ _ ?_; clear hK K)
 have Hrow : Hid (KRow w2 g1 s) := HK1.out.more Hm2.out
 have hr : a.toNat < 8 := by omega
 have q := Hrow.out a.toNat hr
 have q0 := q.1.1
 have q1 := q.1.2
 have q2 := q.2.1
 have q3 := q.2.2
 obtain ⟨w3, Hw3⟩ : ∃ w3, Hid (w3 = (w2.setCell ⟨g1, a.toNat * 2, none⟩ (.int .i64 vb)).setCell ⟨g1, a.toNat * 2 + 1, none⟩ (.bool vs)) := ⟨_, rfl⟩
 have Hrow3 : Hid (KRow w3 g1 (setK s a ⟨vb, vs⟩)) := Hw3.out ▸ Hrow.out.set a ⟨vb, vs⟩ hr
 have hg := HG.out
 have hA := HA.out
 have HF3 : Hid (LFix w.heap.size g c g1 c1 w1.heap.size (.slice ra rl rc) (.slice (some ⟨cb, co, none⟩) cl cc) ⟨1, a, b, ic, n⟩ s rb ro rl log sec w3) := Hw3.out ▸ ((HF.out.more Hm2.out).set (by omega) (by omega) (by omega) (fun h0 => by have := hA.2 h0; omega) _ _).set (by omega) (by omega) (by omega) (fun h0 => by have := hA.2 h0; omega) _ _
 have Hm3 : Hid (More w w3) := Hw3.out ▸ (((HM.out.trans Hm2.out).setCell (by dsimp only; omega) _).setCell (by dsimp only; omega) _)
 have HS3 : S w3 := (HS.out _).2 HF3.out
 clear hg hA
 refine J02 rfl (by kernel_rfl) (fun K hK => ?_); go_simp
 rw [← Hw3.out]
 refine hK _ _ HS3 ?_; clear hK K
 refine J04 ?_
 clear k0 k1 k2 k3 k4 k5 k6 k7 hne HS0 HS2 HS3 q q0 q1 q2 q3
 have t0 := HF3.out.ft.cell (j := 0) (v := .bool true) rfl
 have t1 := HF3.out.ft.cell (j := 1) (v := .slice (some ⟨g1, 0, none⟩) 8 c1) rfl
 go_wp2
 exact hP.out _ _ (LdAt.one rfl (Hx.out ▸ Hrow3.out) (by have := HG.out; omega)) (Hm3.out.alloc _ _)

set_option maxHeartbeats 2000000 in
theorem Jhs (ra : Option Addr) (rb ro rl rc : Nat) (log : Nat → Int) (sec : Nat → Bool) (cb co cl cc at_ g c : Nat) (a b ic n : Int) (s : KS) (w : World) (hra : 0 < rl → ra = some ⟨rb, ro, none⟩) (hregs : RegsAt w rb ro rl log sec)
  (q0 : w.cell? ⟨cb, co + at_ * 5, none⟩ = some (.int .i64 2)) (q1 : w.cell? ⟨cb, co + at_ * 5 + 1, none⟩ = some (.int .i64 a)) (q2 : w.cell? ⟨cb, co + at_ * 5 + 2, none⟩ = some (.int .i64 b)) (q3 : w.cell? ⟨cb, co + at_ * 5 + 3, none⟩ = some (.int .i64 ic)) (q4 : w.cell? ⟨cb, co + at_ * 5 + 4, none⟩ = some (.int .i64 n))
  (hat : (at_ : Int) < cl) (hcl : (cl : Int) ≤ 200) (hk : KRow w g s) (ha0 : 0 ≤ a) (ha1 : a < 8) (hb0 : 0 ≤ b) (hb1 : b < 8) :
  Calls Try.prog 34 #[.agg #[.slice ra rl rc, .slice (some ⟨cb, co, none⟩) cl cc], .int .i64 at_, st true g c] w fun e w' => ∃ v, e = .returned v ∧ LdAt w' w.heap.size v [(at_ + 1, setK s a (s b.toNat))] ∧ More w w' := by
 have Hk : Hid (KRow w g s) := hk
 have Hreg : Hid ((0 < rl → ra = some ⟨rb, ro, none⟩) ∧ RegsAt w rb ro rl log sec) := ⟨hra, hregs⟩
 have hat2 : (at_ : Int) + 1 ≤ 200 := by omega
 have hcb : cb < w.heap.size := J05 q0
 have hcb1 : cb < w.heap.size + 1 := by omega
 clear hk hra hregs
 suffices hP : ∀ P : Ending → World → Prop, (∀ v w', LdAt w' w.heap.size v [(at_ + 1, setK s a (s b.toNat))] → More w w' → P (.returned v) w') → Calls Try.prog 34 #[.agg #[.slice ra rl rc, .slice (some ⟨cb, co, none⟩) cl cc], .int .i64 at_, st true g c] w P from hP _ (fun v w' h1 h2 => ⟨v, rfl, h1, h2⟩)
 intro P hP0
 have hP : Hid (∀ v w', LdAt w' w.heap.size v [(at_ + 1, setK s a (s b.toNat))] → More w w' → P (.returned v) w') := hP0
 clear hP0
 unfold st
 go_enter Try.func34, Try.ntmps34
 go_wp2_with (fail)
 refine (J0o true g c s _ (Hk.out.more (((More.refl _).alloc _ _).alloc _ _ |>.alloc _ _))).mono ?_
 rintro e w1 ⟨g1, c1, rfl, hg1, hr1, m1⟩
 obtain ⟨W1, HW1⟩ : ∃ W1 : World, Hid (W1 = w1.alloc (.cells #[.bool true, .slice (some ⟨g1, 0, none⟩) 8 c1] 65)) := ⟨_, rfl⟩
 have HF : Hid (LFix w.heap.size g c g1 c1 w1.heap.size (.slice ra rl rc) (.slice (some ⟨cb, co, none⟩) cl cc) ⟨2, a, b, ic, n⟩ s rb ro rl log sec W1) := by
  have mW : More w1 W1 := HW1.out ▸ (More.refl _).alloc _ _
  have e0 := (Blk.last w #[.slice ra rl rc, .slice (some ⟨cb, co, none⟩) cl cc] 30).more (((More.refl _).alloc #[.bool true, .slice (some ⟨g, 0, none⟩) 8 c] 65).alloc #[.int .i64 2, .int .i64 a, .int .i64 b, .int .i64 ic, .int .i64 n] 67)
  have e1 := (by simpa using Blk.last (w.alloc (.cells #[.slice ra rl rc, .slice (some ⟨cb, co, none⟩) cl cc] 30)) #[.bool true, .slice (some ⟨g, 0, none⟩) 8 c] 65 : Blk ((w.alloc (.cells #[.slice ra rl rc, .slice (some ⟨cb, co, none⟩) cl cc] 30)).alloc (.cells #[.bool true, .slice (some ⟨g, 0, none⟩) 8 c] 65)) (w.heap.size + 1) #[.bool true, .slice (some ⟨g, 0, none⟩) 8 c] 65).more ((More.refl _).alloc #[.int .i64 2, .int .i64 a, .int .i64 b, .int .i64 ic, .int .i64 n] 67)
  have e2 := (by simpa using Blk.last ((w.alloc (.cells #[.slice ra rl rc, .slice (some ⟨cb, co, none⟩) cl cc] 30)).alloc (.cells #[.bool true, .slice (some ⟨g, 0, none⟩) 8 c] 65)) #[.int .i64 2, .int .i64 a, .int .i64 b, .int .i64 ic, .int .i64 n] 67 : Blk (((w.alloc (.cells #[.slice ra rl rc, .slice (some ⟨cb, co, none⟩) cl cc] 30)).alloc (.cells #[.bool true, .slice (some ⟨g, 0, none⟩) 8 c] 65)).alloc (.cells #[.int .i64 2, .int .i64 a, .int .i64 b, .int .i64 ic, .int .i64 n] 67)) (w.heap.size + 1 + 1) #[.int .i64 2, .int .i64 a, .int .i64 b, .int .i64 ic, .int .i64 n] 67)
  have m0 := (((More.refl w).alloc #[.slice ra rl rc, .slice (some ⟨cb, co, none⟩) cl cc] 30).alloc #[.bool true, .slice (some ⟨g, 0, none⟩) 8 c] 65 |>.alloc #[.int .i64 2, .int .i64 a, .int .i64 b, .int .i64 ic, .int .i64 n] 67).trans (m1.trans mW)
  exact ⟨e0.more (m1.trans mW), e1.more (m1.trans mW), e2.more (m1.trans mW), HW1.out ▸ Blk.last _ _ _, Hk.out.more m0, Hreg.out.2.more m0⟩
 have HK1 : Hid (KRow W1 g1 s) := hr1.more (HW1.out ▸ (More.refl _).alloc _ _)
 have HM : Hid (More w W1) := ((((More.refl _).alloc _ _).alloc _ _ |>.alloc _ _).trans m1).trans (HW1.out ▸ (More.refl _).alloc _ _)
 have HG : Hid (w.heap.size + 3 ≤ g1 ∧ g1 < w1.heap.size ∧ w1.heap.size < W1.heap.size) := ⟨by simpa using hg1, hr1.lt, by rw [HW1.out]; simp⟩
 have HA : Hid (g < w.heap.size ∧ (0 < rl → rb < w.heap.size)) := ⟨Hk.out.lt, fun h0 => J05 (Hreg.out.2 0 h0).1⟩
 have HI : Hid (Blk w1 (w.heap.size + 1 + 1) #[.int .i64 2, .int .i64 a, .int .i64 b, .int .i64 ic, .int .i64 n] 67) := (by simpa using Blk.last ((w.alloc (.cells #[.slice ra rl rc, .slice (some ⟨cb, co, none⟩) cl cc] 30)).alloc (.cells #[.bool true, .slice (some ⟨g, 0, none⟩) 8 c] 65)) #[.int .i64 2, .int .i64 a, .int .i64 b, .int .i64 ic, .int .i64 n] 67 : Blk (((w.alloc (.cells #[.slice ra rl rc, .slice (some ⟨cb, co, none⟩) cl cc] 30)).alloc (.cells #[.bool true, .slice (some ⟨g, 0, none⟩) 8 c] 65)).alloc (.cells #[.int .i64 2, .int .i64 a, .int .i64 b, .int .i64 ic, .int .i64 n] 67)) (w.heap.size + 1 + 1) #[.int .i64 2, .int .i64 a, .int .i64 b, .int .i64 ic, .int .i64 n] 67).more m1
 clear m1 hr1 hg1 q0 q1 q2 q3 q4
 have i0 : w1.cell? ⟨w.heap.size + 1 + 1, 0, none⟩ = some (.int .i64 2) := HI.out.cell rfl
 have i1 : w1.cell? ⟨w.heap.size + 1 + 1, 1, none⟩ = some (.int .i64 a) := HI.out.cell rfl
 have i2 : w1.cell? ⟨w.heap.size + 1 + 1, 2, none⟩ = some (.int .i64 b) := HI.out.cell rfl
 have i3 : w1.cell? ⟨w.heap.size + 1 + 1, 3, none⟩ = some (.int .i64 ic) := HI.out.cell rfl
 have i4 : w1.cell? ⟨w.heap.size + 1 + 1, 4, none⟩ = some (.int .i64 n) := HI.out.cell rfl
 have zi : w.heap.size + 1 + 1 < w1.heap.size := HI.out.lt
 obtain ⟨S, HS⟩ : ∃ S : World → Prop, Hid (∀ w', S w' ↔ LFix w.heap.size g c g1 c1 w1.heap.size (.slice ra rl rc) (.slice (some ⟨cb, co, none⟩) cl cc) ⟨2, a, b, ic, n⟩ s rb ro rl log sec w') := ⟨_, fun _ => Iff.rfl⟩
 have HSm : Hid (∀ w', More W1 w' → S w') := fun w' m => (HS.out _).2 (HF.out.more m)
 have HS0 : S W1.drew := HSm.out _ (More.refl _).drew
 have hne : Nonempty { w' // S w' } := ⟨⟨_, HS0⟩⟩
 have k0 : ∀ i : { w' // S w' }, i.val.cell? ⟨w.heap.size + 1 + 1, 0, none⟩ = some (.int .i64 2) := fun i => ((HS.out _).1 i.property).fi.cell rfl
 have k1 : ∀ i : { w' // S w' }, i.val.cell? ⟨w.heap.size + 1 + 1, 1, none⟩ = some (.int .i64 a) := fun i => ((HS.out _).1 i.property).fi.cell rfl
 have k2 : ∀ i : { w' // S w' }, i.val.cell? ⟨w.heap.size + 1 + 1, 2, none⟩ = some (.int .i64 b) := fun i => ((HS.out _).1 i.property).fi.cell rfl
 have k3 : ∀ i : { w' // S w' }, i.val.cell? ⟨w.heap.size + 1 + 1, 3, none⟩ = some (.int .i64 ic) := fun i => ((HS.out _).1 i.property).fi.cell rfl
 have k4 : ∀ i : { w' // S w' }, i.val.cell? ⟨w.heap.size + 1 + 1, 4, none⟩ = some (.int .i64 n) := fun i => ((HS.out _).1 i.property).fi.cell rfl
 have k5 : ∀ i : { w' // S w' }, i.val.cell? ⟨w1.heap.size, 1, none⟩ = some (.slice (some ⟨g1, 0, none⟩) 8 c1) := fun i => ((HS.out _).1 i.property).ft.cell rfl
 have k6 : ∀ i : { w' // S w' }, i.val.cell? ⟨w.heap.size + 1, 1, none⟩ = some (.slice (some ⟨g, 0, none⟩) 8 c) := fun i => ((HS.out _).1 i.property).fs.cell rfl
 have k7 : ∀ i : { w' // S w' }, i.val.cell? ⟨w.heap.size, 0, none⟩ = some (.slice ra rl rc) := fun i => ((HS.out _).1 i.property).fp.cell rfl
 obtain ⟨xb, hxb⟩ : ∃ x, s b.toNat = x := ⟨_, rfl⟩
 have kb0 : ∀ i : { w' // S w' }, i.val.cell? ⟨g, b.toNat * 2, none⟩ = some (.int .i64 xb.b) := fun i => hxb ▸ (((HS.out _).1 i.property).ks b.toNat (by omega)).1.1
 have kb1 : ∀ i : { w' // S w' }, i.val.cell? ⟨g, b.toNat * 2 + 1, none⟩ = some (.bool xb.s) := fun i => hxb ▸ (((HS.out _).1 i.property).ks b.toNat (by omega)).1.2
 have Hx : Hid ((⟨xb.b, xb.s⟩ : Kn) = s b.toNat) := hxb.symm
 clear hxb
 obtain ⟨vb, vs⟩ := xb
 dsimp only at kb0 kb1
 go_wp2_with (fail)
 rw [← HW1.out]
 clear i0 i1 i2 i3 i4 zi
 refine J01 (S := S) [(0, true), (1, true), (2, true), (3, true), (4, true), (5, true), (6, true), (7, true), (8, true), (9, true), (10, true), (11, false)] (by kernel_rfl) (by kernel_rfl) (by kernel_rfl) HS0 ?_
 iterate 11 (refine J00 rfl (by kernel_rfl) (fun K hK => ?_); go_simp; refine hK _ _ ?_; clear hK K)
 have Hm2 : Hid (More W1 W1.drew) := (More.refl _).drew
 have HS2 : S W1.drew := HS0
 have Hrow : Hid (KRow W1 g1 s) := HK1.out
 have hr : a.toNat < 8 := by omega
 have q := Hrow.out a.toNat hr
 have q0 := q.1.1
 have q1 := q.1.2
 have q2 := q.2.1
 have q3 := q.2.2
 obtain ⟨w3, Hw3⟩ : ∃ w3, Hid (w3 = ((W1.setCell ⟨g1, a.toNat * 2, none⟩ (.int .i64 vb)).setCell ⟨g1, a.toNat * 2 + 1, none⟩ (.bool vs)).drew) := ⟨_, rfl⟩
 have Hrow3 : Hid (KRow w3 g1 (setK s a ⟨vb, vs⟩)) := Hw3.out ▸ (Hrow.out.set a ⟨vb, vs⟩ hr).more (More.refl _).drew
 have hg := HG.out
 have hA := HA.out
 have HF3 : Hid (LFix w.heap.size g c g1 c1 w1.heap.size (.slice ra rl rc) (.slice (some ⟨cb, co, none⟩) cl cc) ⟨2, a, b, ic, n⟩ s rb ro rl log sec w3) := Hw3.out ▸ LFix.more (More.refl _).drew ((HF.out.set (by omega) (by omega) (by omega) (fun h0 => by have := hA.2 h0; omega) _ _).set (by omega) (by omega) (by omega) (fun h0 => by have := hA.2 h0; omega) _ _)
 have Hm3 : Hid (More w w3) := Hw3.out ▸ ((HM.out.setCell (by dsimp only; omega) _).setCell (by dsimp only; omega) _).drew
 have HS3 : S w3 := (HS.out _).2 HF3.out
 clear hg hA
 refine J02 rfl (by kernel_rfl) (fun K hK => ?_); go_simp
 rw [← Hw3.out]
 refine hK _ _ HS3 ?_; clear hK K
 refine J04 ?_
 clear k0 k1 k2 k3 k4 k5 k6 k7 kb0 kb1 hne HS0 HS2 HS3 q q0 q1 q2 q3
 have t0 := HF3.out.ft.cell (j := 0) (v := .bool true) rfl
 have t1 := HF3.out.ft.cell (j := 1) (v := .slice (some ⟨g1, 0, none⟩) 8 c1) rfl
 go_wp2
 exact hP.out _ _ (LdAt.one rfl (Hx.out ▸ Hrow3.out) (by have := HG.out; omega)) (Hm3.out.alloc _ _)

set_option maxHeartbeats 2000000 in
theorem Jeq (ra : Option Addr) (rb ro rl rc : Nat) (log : Nat → Int) (sec : Nat → Bool) (cb co cl cc at_ g c : Nat) (a b ic n : Int) (s : KS) (w : World) (hra : 0 < rl → ra = some ⟨rb, ro, none⟩) (hregs : RegsAt w rb ro rl log sec)
  (q0 : w.cell? ⟨cb, co + at_ * 5, none⟩ = some (.int .i64 10)) (q1 : w.cell? ⟨cb, co + at_ * 5 + 1, none⟩ = some (.int .i64 a)) (q2 : w.cell? ⟨cb, co + at_ * 5 + 2, none⟩ = some (.int .i64 b)) (q3 : w.cell? ⟨cb, co + at_ * 5 + 3, none⟩ = some (.int .i64 ic)) (q4 : w.cell? ⟨cb, co + at_ * 5 + 4, none⟩ = some (.int .i64 n))
  (hat : (at_ : Int) < cl) (hcl : (cl : Int) ≤ 200) (hk : KRow w g s) (ha0 : 0 ≤ a) (ha1 : a < 8) (hb0 : 0 ≤ b) (hb1 : b < 8) (n0 : -9223372036854775808 ≤ n) (n1 : n ≤ 9223372036854775807) :
  Calls Try.prog 34 #[.agg #[.slice ra rl rc, .slice (some ⟨cb, co, none⟩) cl cc], .int .i64 at_, st true g c] w fun e w' => ∃ v, e = .returned v ∧ LdAt w' w.heap.size v [(at_ + 1, setK s a (Kn.index (s b.toNat) n))] ∧ More w w' := by
 have Hk : Hid (KRow w g s) := hk
 have Hreg : Hid ((0 < rl → ra = some ⟨rb, ro, none⟩) ∧ RegsAt w rb ro rl log sec) := ⟨hra, hregs⟩
 have hat2 : (at_ : Int) + 1 ≤ 200 := by omega
 have hcb : cb < w.heap.size := J05 q0
 have hcb1 : cb < w.heap.size + 1 := by omega
 clear hk hra hregs
 suffices hP : ∀ P : Ending → World → Prop, (∀ v w', LdAt w' w.heap.size v [(at_ + 1, setK s a (Kn.index (s b.toNat) n))] → More w w' → P (.returned v) w') → Calls Try.prog 34 #[.agg #[.slice ra rl rc, .slice (some ⟨cb, co, none⟩) cl cc], .int .i64 at_, st true g c] w P from hP _ (fun v w' h1 h2 => ⟨v, rfl, h1, h2⟩)
 intro P hP0
 have hP : Hid (∀ v w', LdAt w' w.heap.size v [(at_ + 1, setK s a (Kn.index (s b.toNat) n))] → More w w' → P (.returned v) w') := hP0
 clear hP0
 unfold st
 go_enter Try.func34, Try.ntmps34
 go_wp2_with (fail)
 refine (J0o true g c s _ (Hk.out.more (((More.refl _).alloc _ _).alloc _ _ |>.alloc _ _))).mono ?_
 rintro e w1 ⟨g1, c1, rfl, hg1, hr1, m1⟩
 obtain ⟨W1, HW1⟩ : ∃ W1 : World, Hid (W1 = w1.alloc (.cells #[.bool true, .slice (some ⟨g1, 0, none⟩) 8 c1] 65)) := ⟨_, rfl⟩
 have HF : Hid (LFix w.heap.size g c g1 c1 w1.heap.size (.slice ra rl rc) (.slice (some ⟨cb, co, none⟩) cl cc) ⟨10, a, b, ic, n⟩ s rb ro rl log sec W1) := by
  have mW : More w1 W1 := HW1.out ▸ (More.refl _).alloc _ _
  have e0 := (Blk.last w #[.slice ra rl rc, .slice (some ⟨cb, co, none⟩) cl cc] 30).more (((More.refl _).alloc #[.bool true, .slice (some ⟨g, 0, none⟩) 8 c] 65).alloc #[.int .i64 10, .int .i64 a, .int .i64 b, .int .i64 ic, .int .i64 n] 67)
  have e1 := (by simpa using Blk.last (w.alloc (.cells #[.slice ra rl rc, .slice (some ⟨cb, co, none⟩) cl cc] 30)) #[.bool true, .slice (some ⟨g, 0, none⟩) 8 c] 65 : Blk ((w.alloc (.cells #[.slice ra rl rc, .slice (some ⟨cb, co, none⟩) cl cc] 30)).alloc (.cells #[.bool true, .slice (some ⟨g, 0, none⟩) 8 c] 65)) (w.heap.size + 1) #[.bool true, .slice (some ⟨g, 0, none⟩) 8 c] 65).more ((More.refl _).alloc #[.int .i64 10, .int .i64 a, .int .i64 b, .int .i64 ic, .int .i64 n] 67)
  have e2 := (by simpa using Blk.last ((w.alloc (.cells #[.slice ra rl rc, .slice (some ⟨cb, co, none⟩) cl cc] 30)).alloc (.cells #[.bool true, .slice (some ⟨g, 0, none⟩) 8 c] 65)) #[.int .i64 10, .int .i64 a, .int .i64 b, .int .i64 ic, .int .i64 n] 67 : Blk (((w.alloc (.cells #[.slice ra rl rc, .slice (some ⟨cb, co, none⟩) cl cc] 30)).alloc (.cells #[.bool true, .slice (some ⟨g, 0, none⟩) 8 c] 65)).alloc (.cells #[.int .i64 10, .int .i64 a, .int .i64 b, .int .i64 ic, .int .i64 n] 67)) (w.heap.size + 1 + 1) #[.int .i64 10, .int .i64 a, .int .i64 b, .int .i64 ic, .int .i64 n] 67)
  have m0 := (((More.refl w).alloc #[.slice ra rl rc, .slice (some ⟨cb, co, none⟩) cl cc] 30).alloc #[.bool true, .slice (some ⟨g, 0, none⟩) 8 c] 65 |>.alloc #[.int .i64 10, .int .i64 a, .int .i64 b, .int .i64 ic, .int .i64 n] 67).trans (m1.trans mW)
  exact ⟨e0.more (m1.trans mW), e1.more (m1.trans mW), e2.more (m1.trans mW), HW1.out ▸ Blk.last _ _ _, Hk.out.more m0, Hreg.out.2.more m0⟩
 have HK1 : Hid (KRow W1 g1 s) := hr1.more (HW1.out ▸ (More.refl _).alloc _ _)
 have HM : Hid (More w W1) := ((((More.refl _).alloc _ _).alloc _ _ |>.alloc _ _).trans m1).trans (HW1.out ▸ (More.refl _).alloc _ _)
 have HG : Hid (w.heap.size + 3 ≤ g1 ∧ g1 < w1.heap.size ∧ w1.heap.size < W1.heap.size) := ⟨by simpa using hg1, hr1.lt, by rw [HW1.out]; simp⟩
 have HA : Hid (g < w.heap.size ∧ (0 < rl → rb < w.heap.size)) := ⟨Hk.out.lt, fun h0 => J05 (Hreg.out.2 0 h0).1⟩
 have HI : Hid (Blk w1 (w.heap.size + 1 + 1) #[.int .i64 10, .int .i64 a, .int .i64 b, .int .i64 ic, .int .i64 n] 67) := (by simpa using Blk.last ((w.alloc (.cells #[.slice ra rl rc, .slice (some ⟨cb, co, none⟩) cl cc] 30)).alloc (.cells #[.bool true, .slice (some ⟨g, 0, none⟩) 8 c] 65)) #[.int .i64 10, .int .i64 a, .int .i64 b, .int .i64 ic, .int .i64 n] 67 : Blk (((w.alloc (.cells #[.slice ra rl rc, .slice (some ⟨cb, co, none⟩) cl cc] 30)).alloc (.cells #[.bool true, .slice (some ⟨g, 0, none⟩) 8 c] 65)).alloc (.cells #[.int .i64 10, .int .i64 a, .int .i64 b, .int .i64 ic, .int .i64 n] 67)) (w.heap.size + 1 + 1) #[.int .i64 10, .int .i64 a, .int .i64 b, .int .i64 ic, .int .i64 n] 67).more m1
 clear m1 hr1 hg1 q0 q1 q2 q3 q4
 have i0 : w1.cell? ⟨w.heap.size + 1 + 1, 0, none⟩ = some (.int .i64 10) := HI.out.cell rfl
 have i1 : w1.cell? ⟨w.heap.size + 1 + 1, 1, none⟩ = some (.int .i64 a) := HI.out.cell rfl
 have i2 : w1.cell? ⟨w.heap.size + 1 + 1, 2, none⟩ = some (.int .i64 b) := HI.out.cell rfl
 have i3 : w1.cell? ⟨w.heap.size + 1 + 1, 3, none⟩ = some (.int .i64 ic) := HI.out.cell rfl
 have i4 : w1.cell? ⟨w.heap.size + 1 + 1, 4, none⟩ = some (.int .i64 n) := HI.out.cell rfl
 have zi : w.heap.size + 1 + 1 < w1.heap.size := HI.out.lt
 obtain ⟨S, HS⟩ : ∃ S : World → Prop, Hid (∀ w', S w' ↔ LFix w.heap.size g c g1 c1 w1.heap.size (.slice ra rl rc) (.slice (some ⟨cb, co, none⟩) cl cc) ⟨10, a, b, ic, n⟩ s rb ro rl log sec w') := ⟨_, fun _ => Iff.rfl⟩
 have HSm : Hid (∀ w', More W1 w' → S w') := fun w' m => (HS.out _).2 (HF.out.more m)
 have HS0 : S W1.drew := HSm.out _ (More.refl _).drew
 have hne : Nonempty { w' // S w' } := ⟨⟨_, HS0⟩⟩
 have k0 : ∀ i : { w' // S w' }, i.val.cell? ⟨w.heap.size + 1 + 1, 0, none⟩ = some (.int .i64 10) := fun i => ((HS.out _).1 i.property).fi.cell rfl
 have k1 : ∀ i : { w' // S w' }, i.val.cell? ⟨w.heap.size + 1 + 1, 1, none⟩ = some (.int .i64 a) := fun i => ((HS.out _).1 i.property).fi.cell rfl
 have k2 : ∀ i : { w' // S w' }, i.val.cell? ⟨w.heap.size + 1 + 1, 2, none⟩ = some (.int .i64 b) := fun i => ((HS.out _).1 i.property).fi.cell rfl
 have k3 : ∀ i : { w' // S w' }, i.val.cell? ⟨w.heap.size + 1 + 1, 3, none⟩ = some (.int .i64 ic) := fun i => ((HS.out _).1 i.property).fi.cell rfl
 have k4 : ∀ i : { w' // S w' }, i.val.cell? ⟨w.heap.size + 1 + 1, 4, none⟩ = some (.int .i64 n) := fun i => ((HS.out _).1 i.property).fi.cell rfl
 have k5 : ∀ i : { w' // S w' }, i.val.cell? ⟨w1.heap.size, 1, none⟩ = some (.slice (some ⟨g1, 0, none⟩) 8 c1) := fun i => ((HS.out _).1 i.property).ft.cell rfl
 have k6 : ∀ i : { w' // S w' }, i.val.cell? ⟨w.heap.size + 1, 1, none⟩ = some (.slice (some ⟨g, 0, none⟩) 8 c) := fun i => ((HS.out _).1 i.property).fs.cell rfl
 have k7 : ∀ i : { w' // S w' }, i.val.cell? ⟨w.heap.size, 0, none⟩ = some (.slice ra rl rc) := fun i => ((HS.out _).1 i.property).fp.cell rfl
 obtain ⟨xb, hxb⟩ : ∃ x, s b.toNat = x := ⟨_, rfl⟩
 have kb0 : ∀ i : { w' // S w' }, i.val.cell? ⟨g, b.toNat * 2, none⟩ = some (.int .i64 xb.b) := fun i => hxb ▸ (((HS.out _).1 i.property).ks b.toNat (by omega)).1.1
 have kb1 : ∀ i : { w' // S w' }, i.val.cell? ⟨g, b.toNat * 2 + 1, none⟩ = some (.bool xb.s) := fun i => hxb ▸ (((HS.out _).1 i.property).ks b.toNat (by omega)).1.2
 obtain ⟨v, hv⟩ : ∃ v, Kn.index xb n = v := ⟨_, rfl⟩
 have c2 : ∀ w : World, Calls Try.prog 35 #[kn xb.b xb.s, .int .i64 n] w fun e w' => e = .returned (kn v.b v.s) ∧ More w w' := fun w => hv ▸ J5m xb n n0 n1 w
 have Hx : Hid ((⟨v.b, v.s⟩ : Kn) = Kn.index (s b.toNat) n) := by rw [hxb]; exact hv.symm
 clear hv hxb
 obtain ⟨vb, vs⟩ := v
 obtain ⟨xbb, xbs⟩ := xb
 unfold kn at c2
 dsimp only at c2 kb0 kb1
 go_wp2_with (fail)
 rw [← HW1.out]
 clear i0 i1 i2 i3 i4 zi
 refine J01 (S := S) [(0, true), (1, true), (2, true), (3, true), (4, true), (5, true), (6, true), (7, true), (8, true), (9, true), (10, true), (11, true), (12, false), (13, true), (14, false)] (by kernel_rfl) (by kernel_rfl) (by kernel_rfl) HS0 ?_
 iterate 12 (refine J00 rfl (by kernel_rfl) (fun K hK => ?_); go_simp; refine hK _ _ ?_; clear hK K)
 refine J02 rfl (by kernel_rfl) (fun K hK => ?_); go_simp
 refine (c2 _).mono ?_
 rintro e w2 ⟨rfl, m2⟩
 have Hm2 : Hid (More W1 w2) := (More.refl _).drew.trans m2
 have HS2 : S w2 := HSm.out _ Hm2.out
 clear m2
 go_simp
 refine hK _ _ HS2 ?_; clear hK K
 (refine J00 rfl (by kernel_rfl) (fun K hK => ?_); go_simp; refine hK _ _ ?_; clear hK K)
 have Hrow : Hid (KRow w2 g1 s) := HK1.out.more Hm2.out
 have hr : a.toNat < 8 := by omega
 have q := Hrow.out a.toNat hr
 have q0 := q.1.1
 have q1 := q.1.2
 have q2 := q.2.1
 have q3 := q.2.2
 obtain ⟨w3, Hw3⟩ : ∃ w3, Hid (w3 = (w2.setCell ⟨g1, a.toNat * 2, none⟩ (.int .i64 vb)).setCell ⟨g1, a.toNat * 2 + 1, none⟩ (.bool vs)) := ⟨_, rfl⟩
 have Hrow3 : Hid (KRow w3 g1 (setK s a ⟨vb, vs⟩)) := Hw3.out ▸ Hrow.out.set a ⟨vb, vs⟩ hr
 have hg := HG.out
 have hA := HA.out
 have HF3 : Hid (LFix w.heap.size g c g1 c1 w1.heap.size (.slice ra rl rc) (.slice (some ⟨cb, co, none⟩) cl cc) ⟨10, a, b, ic, n⟩ s rb ro rl log sec w3) := Hw3.out ▸ ((HF.out.more Hm2.out).set (by omega) (by omega) (by omega) (fun h0 => by have := hA.2 h0; omega) _ _).set (by omega) (by omega) (by omega) (fun h0 => by have := hA.2 h0; omega) _ _
 have Hm3 : Hid (More w w3) := Hw3.out ▸ (((HM.out.trans Hm2.out).setCell (by dsimp only; omega) _).setCell (by dsimp only; omega) _)
 have HS3 : S w3 := (HS.out _).2 HF3.out
 clear hg hA
 refine J02 rfl (by kernel_rfl) (fun K hK => ?_); go_simp
 rw [← Hw3.out]
 refine hK _ _ HS3 ?_; clear hK K
 refine J04 ?_
 clear k0 k1 k2 k3 k4 k5 k6 k7 kb0 kb1 hne HS0 HS2 HS3 q q0 q1 q2 q3
 have t0 := HF3.out.ft.cell (j := 0) (v := .bool true) rfl
 have t1 := HF3.out.ft.cell (j := 1) (v := .slice (some ⟨g1, 0, none⟩) 8 c1) rfl
 go_wp2
 exact hP.out _ _ (LdAt.one rfl (Hx.out ▸ Hrow3.out) (by have := HG.out; omega)) (Hm3.out.alloc _ _)
set_option maxHeartbeats 2000000 in
theorem Jir (ra : Option Addr) (rb ro rl rc : Nat) (log : Nat → Int) (sec : Nat → Bool) (cb co cl cc at_ g c : Nat) (a b ic n : Int) (s : KS) (w : World) (hra : 0 < rl → ra = some ⟨rb, ro, none⟩) (hregs : RegsAt w rb ro rl log sec)
  (q0 : w.cell? ⟨cb, co + at_ * 5, none⟩ = some (.int .i64 3)) (q1 : w.cell? ⟨cb, co + at_ * 5 + 1, none⟩ = some (.int .i64 a)) (q2 : w.cell? ⟨cb, co + at_ * 5 + 2, none⟩ = some (.int .i64 b)) (q3 : w.cell? ⟨cb, co + at_ * 5 + 3, none⟩ = some (.int .i64 ic)) (q4 : w.cell? ⟨cb, co + at_ * 5 + 4, none⟩ = some (.int .i64 n))
  (hat : (at_ : Int) < cl) (hcl : (cl : Int) ≤ 200) (hk : KRow w g s) (ha0 : 0 ≤ a) (ha1 : a < 8) (hc0 : 0 ≤ ic) (hc1 : ic < rl) :
  Calls Try.prog 34 #[.agg #[.slice ra rl rc, .slice (some ⟨cb, co, none⟩) cl cc], .int .i64 at_, st true g c] w fun e w' => ∃ v, e = .returned v ∧ LdAt w' w.heap.size v [(at_ + 1, setK s a ⟨17, sec ic.toNat⟩)] ∧ More w w' := by
 obtain rfl : ra = some ⟨rb, ro, none⟩ := hra (by omega)
 have Hk : Hid (KRow w g s) := hk
 have Hreg : Hid ((0 < rl → (some ⟨rb, ro, none⟩ : Option Addr) = some ⟨rb, ro, none⟩) ∧ RegsAt w rb ro rl log sec) := ⟨hra, hregs⟩
 have hat2 : (at_ : Int) + 1 ≤ 200 := by omega
 have hcb : cb < w.heap.size := J05 q0
 have hcb1 : cb < w.heap.size + 1 := by omega
 clear hk hra hregs
 suffices hP : ∀ P : Ending → World → Prop, (∀ v w', LdAt w' w.heap.size v [(at_ + 1, setK s a ⟨17, sec ic.toNat⟩)] → More w w' → P (.returned v) w') → Calls Try.prog 34 #[.agg #[.slice (some ⟨rb, ro, none⟩) rl rc, .slice (some ⟨cb, co, none⟩) cl cc], .int .i64 at_, st true g c] w P from hP _ (fun v w' h1 h2 => ⟨v, rfl, h1, h2⟩)
 intro P hP0
 have hP : Hid (∀ v w', LdAt w' w.heap.size v [(at_ + 1, setK s a ⟨17, sec ic.toNat⟩)] → More w w' → P (.returned v) w') := hP0
 clear hP0
 unfold st
 go_enter Try.func34, Try.ntmps34
 go_wp2_with (fail)
 refine (J0o true g c s _ (Hk.out.more (((More.refl _).alloc _ _).alloc _ _ |>.alloc _ _))).mono ?_
 rintro e w1 ⟨g1, c1, rfl, hg1, hr1, m1⟩
 obtain ⟨W1, HW1⟩ : ∃ W1 : World, Hid (W1 = w1.alloc (.cells #[.bool true, .slice (some ⟨g1, 0, none⟩) 8 c1] 65)) := ⟨_, rfl⟩
 have HF : Hid (LFix w.heap.size g c g1 c1 w1.heap.size (.slice (some ⟨rb, ro, none⟩) rl rc) (.slice (some ⟨cb, co, none⟩) cl cc) ⟨3, a, b, ic, n⟩ s rb ro rl log sec W1) := by
  have mW : More w1 W1 := HW1.out ▸ (More.refl _).alloc _ _
  have e0 := (Blk.last w #[.slice (some ⟨rb, ro, none⟩) rl rc, .slice (some ⟨cb, co, none⟩) cl cc] 30).more (((More.refl _).alloc #[.bool true, .slice (some ⟨g, 0, none⟩) 8 c] 65).alloc #[.int .i64 3, .int .i64 a, .int .i64 b, .int .i64 ic, .int .i64 n] 67)
  have e1 := (by simpa using Blk.last (w.alloc (.cells #[.slice (some ⟨rb, ro, none⟩) rl rc, .slice (some ⟨cb, co, none⟩) cl cc] 30)) #[.bool true, .slice (some ⟨g, 0, none⟩) 8 c] 65 : Blk ((w.alloc (.cells #[.slice (some ⟨rb, ro, none⟩) rl rc, .slice (some ⟨cb, co, none⟩) cl cc] 30)).alloc (.cells #[.bool true, .slice (some ⟨g, 0, none⟩) 8 c] 65)) (w.heap.size + 1) #[.bool true, .slice (some ⟨g, 0, none⟩) 8 c] 65).more ((More.refl _).alloc #[.int .i64 3, .int .i64 a, .int .i64 b, .int .i64 ic, .int .i64 n] 67)
  have e2 := (by simpa using Blk.last ((w.alloc (.cells #[.slice (some ⟨rb, ro, none⟩) rl rc, .slice (some ⟨cb, co, none⟩) cl cc] 30)).alloc (.cells #[.bool true, .slice (some ⟨g, 0, none⟩) 8 c] 65)) #[.int .i64 3, .int .i64 a, .int .i64 b, .int .i64 ic, .int .i64 n] 67 : Blk (((w.alloc (.cells #[.slice (some ⟨rb, ro, none⟩) rl rc, .slice (some ⟨cb, co, none⟩) cl cc] 30)).alloc (.cells #[.bool true, .slice (some ⟨g, 0, none⟩) 8 c] 65)).alloc (.cells #[.int .i64 3, .int .i64 a, .int .i64 b, .int .i64 ic, .int .i64 n] 67)) (w.heap.size + 1 + 1) #[.int .i64 3, .int .i64 a, .int .i64 b, .int .i64 ic, .int .i64 n] 67)
  have m0 := (((More.refl w).alloc #[.slice (some ⟨rb, ro, none⟩) rl rc, .slice (some ⟨cb, co, none⟩) cl cc] 30).alloc #[.bool true, .slice (some ⟨g, 0, none⟩) 8 c] 65 |>.alloc #[.int .i64 3, .int .i64 a, .int .i64 b, .int .i64 ic, .int .i64 n] 67).trans (m1.trans mW)
  exact ⟨e0.more (m1.trans mW), e1.more (m1.trans mW), e2.more (m1.trans mW), HW1.out ▸ Blk.last _ _ _, Hk.out.more m0, Hreg.out.2.more m0⟩
 have HK1 : Hid (KRow W1 g1 s) := hr1.more (HW1.out ▸ (More.refl _).alloc _ _)
 have HM : Hid (More w W1) := ((((More.refl _).alloc _ _).alloc _ _ |>.alloc _ _).trans m1).trans (HW1.out ▸ (More.refl _).alloc _ _)
 have HG : Hid (w.heap.size + 3 ≤ g1 ∧ g1 < w1.heap.size ∧ w1.heap.size < W1.heap.size) := ⟨by simpa using hg1, hr1.lt, by rw [HW1.out]; simp⟩
 have HA : Hid (g < w.heap.size ∧ (0 < rl → rb < w.heap.size)) := ⟨Hk.out.lt, fun h0 => J05 (Hreg.out.2 0 h0).1⟩
 have HI : Hid (Blk w1 (w.heap.size + 1 + 1) #[.int .i64 3, .int .i64 a, .int .i64 b, .int .i64 ic, .int .i64 n] 67) := (by simpa using Blk.last ((w.alloc (.cells #[.slice (some ⟨rb, ro, none⟩) rl rc, .slice (some ⟨cb, co, none⟩) cl cc] 30)).alloc (.cells #[.bool true, .slice (some ⟨g, 0, none⟩) 8 c] 65)) #[.int .i64 3, .int .i64 a, .int .i64 b, .int .i64 ic, .int .i64 n] 67 : Blk (((w.alloc (.cells #[.slice (some ⟨rb, ro, none⟩) rl rc, .slice (some ⟨cb, co, none⟩) cl cc] 30)).alloc (.cells #[.bool true, .slice (some ⟨g, 0, none⟩) 8 c] 65)).alloc (.cells #[.int .i64 3, .int .i64 a, .int .i64 b, .int .i64 ic, .int .i64 n] 67)) (w.heap.size + 1 + 1) #[.int .i64 3, .int .i64 a, .int .i64 b, .int .i64 ic, .int .i64 n] 67).more m1
 clear m1 hr1 hg1 q0 q1 q2 q3 q4
 have i0 : w1.cell? ⟨w.heap.size + 1 + 1, 0, none⟩ = some (.int .i64 3) := HI.out.cell rfl
 have i1 : w1.cell? ⟨w.heap.size + 1 + 1, 1, none⟩ = some (.int .i64 a) := HI.out.cell rfl
 have i2 : w1.cell? ⟨w.heap.size + 1 + 1, 2, none⟩ = some (.int .i64 b) := HI.out.cell rfl
 have i3 : w1.cell? ⟨w.heap.size + 1 + 1, 3, none⟩ = some (.int .i64 ic) := HI.out.cell rfl
 have i4 : w1.cell? ⟨w.heap.size + 1 + 1, 4, none⟩ = some (.int .i64 n) := HI.out.cell rfl
 have zi : w.heap.size + 1 + 1 < w1.heap.size := HI.out.lt
 obtain ⟨S, HS⟩ : ∃ S : World → Prop, Hid (∀ w', S w' ↔ LFix w.heap.size g c g1 c1 w1.heap.size (.slice (some ⟨rb, ro, none⟩) rl rc) (.slice (some ⟨cb, co, none⟩) cl cc) ⟨3, a, b, ic, n⟩ s rb ro rl log sec w') := ⟨_, fun _ => Iff.rfl⟩
 have HSm : Hid (∀ w', More W1 w' → S w') := fun w' m => (HS.out _).2 (HF.out.more m)
 have HS0 : S W1.drew := HSm.out _ (More.refl _).drew
 have hne : Nonempty { w' // S w' } := ⟨⟨_, HS0⟩⟩
 have k0 : ∀ i : { w' // S w' }, i.val.cell? ⟨w.heap.size + 1 + 1, 0, none⟩ = some (.int .i64 3) := fun i => ((HS.out _).1 i.property).fi.cell rfl
 have k1 : ∀ i : { w' // S w' }, i.val.cell? ⟨w.heap.size + 1 + 1, 1, none⟩ = some (.int .i64 a) := fun i => ((HS.out _).1 i.property).fi.cell rfl
 have k2 : ∀ i : { w' // S w' }, i.val.cell? ⟨w.heap.size + 1 + 1, 2, none⟩ = some (.int .i64 b) := fun i => ((HS.out _).1 i.property).fi.cell rfl
 have k3 : ∀ i : { w' // S w' }, i.val.cell? ⟨w.heap.size + 1 + 1, 3, none⟩ = some (.int .i64 ic) := fun i => ((HS.out _).1 i.property).fi.cell rfl
 have k4 : ∀ i : { w' // S w' }, i.val.cell? ⟨w.heap.size + 1 + 1, 4, none⟩ = some (.int .i64 n) := fun i => ((HS.out _).1 i.property).fi.cell rfl
 have k5 : ∀ i : { w' // S w' }, i.val.cell? ⟨w1.heap.size, 1, none⟩ = some (.slice (some ⟨g1, 0, none⟩) 8 c1) := fun i => ((HS.out _).1 i.property).ft.cell rfl
 have k6 : ∀ i : { w' // S w' }, i.val.cell? ⟨w.heap.size + 1, 1, none⟩ = some (.slice (some ⟨g, 0, none⟩) 8 c) := fun i => ((HS.out _).1 i.property).fs.cell rfl
 have k7 : ∀ i : { w' // S w' }, i.val.cell? ⟨w.heap.size, 0, none⟩ = some (.slice (some ⟨rb, ro, none⟩) rl rc) := fun i => ((HS.out _).1 i.property).fp.cell rfl
 obtain ⟨vs, hvs⟩ : ∃ v, sec ic.toNat = v := ⟨_, rfl⟩
 have kr : ∀ i : { w' // S w' }, i.val.cell? ⟨rb, ro + ic.toNat * 2 + 1, none⟩ = some (.bool vs) := fun i => hvs ▸ (((HS.out _).1 i.property).regs ic.toNat (by omega)).2
 have Hx : Hid ((⟨17, vs⟩ : Kn) = ⟨17, sec ic.toNat⟩) := by show _ = _; rw [hvs]
 clear hvs
 go_wp2_with (fail)
 rw [← HW1.out]
 clear i0 i1 i2 i3 i4 zi
 refine J01 (S := S) [(0, true), (1, true), (2, true), (3, true), (4, true), (5, true), (6, true), (7, true), (8, true), (9, true), (10, true), (11, true), (12, true), (13, false)] (by kernel_rfl) (by kernel_rfl) (by kernel_rfl) HS0 ?_
 iterate 13 (refine J00 rfl (by kernel_rfl) (fun K hK => ?_); go_simp; refine hK _ _ ?_; clear hK K)
 have Hm2 : Hid (More W1 W1.drew) := (More.refl _).drew
 have HS2 : S W1.drew := HS0
 have Hrow : Hid (KRow W1 g1 s) := HK1.out
 have hr : a.toNat < 8 := by omega
 have q := Hrow.out a.toNat hr
 have q0 := q.1.1
 have q1 := q.1.2
 have q2 := q.2.1
 have q3 := q.2.2
 obtain ⟨w3, Hw3⟩ : ∃ w3, Hid (w3 = ((W1.setCell ⟨g1, a.toNat * 2, none⟩ (.int .i64 17)).setCell ⟨g1, a.toNat * 2 + 1, none⟩ (.bool vs)).drew) := ⟨_, rfl⟩
 have Hrow3 : Hid (KRow w3 g1 (setK s a ⟨17, vs⟩)) := Hw3.out ▸ (Hrow.out.set a ⟨17, vs⟩ hr).more (More.refl _).drew
 have hg := HG.out
 have hA := HA.out
 have HF3 : Hid (LFix w.heap.size g c g1 c1 w1.heap.size (.slice (some ⟨rb, ro, none⟩) rl rc) (.slice (some ⟨cb, co, none⟩) cl cc) ⟨3, a, b, ic, n⟩ s rb ro rl log sec w3) := Hw3.out ▸ LFix.more (More.refl _).drew ((HF.out.set (by omega) (by omega) (by omega) (fun h0 => by have := hA.2 h0; omega) _ _).set (by omega) (by omega) (by omega) (fun h0 => by have := hA.2 h0; omega) _ _)
 have Hm3 : Hid (More w w3) := Hw3.out ▸ ((HM.out.setCell (by dsimp only; omega) _).setCell (by dsimp only; omega) _).drew
 have HS3 : S w3 := (HS.out _).2 HF3.out
 clear hg hA
 refine J02 rfl (by kernel_rfl) (fun K hK => ?_); go_simp
 rw [← Hw3.out]
 refine hK _ _ HS3 ?_; clear hK K
 refine J04 ?_
 clear k0 k1 k2 k3 k4 k5 k6 k7 kr hne HS0 HS2 HS3 q q0 q1 q2 q3
 have t0 := HF3.out.ft.cell (j := 0) (v := .bool true) rfl
 have t1 := HF3.out.ft.cell (j := 1) (v := .slice (some ⟨g1, 0, none⟩) 8 c1) rfl
 go_wp2
 exact hP.out _ _ (LdAt.one rfl (Hx.out ▸ Hrow3.out) (by have := HG.out; omega)) (Hm3.out.alloc _ _)

set_option maxHeartbeats 2000000 in
theorem Jh4 (ra : Option Addr) (rb ro rl rc : Nat) (log : Nat → Int) (sec : Nat → Bool) (cb co cl cc at_ g c : Nat) (a b ic n : Int) (s : KS) (w : World) (hra : 0 < rl → ra = some ⟨rb, ro, none⟩) (hregs : RegsAt w rb ro rl log sec)
  (q0 : w.cell? ⟨cb, co + at_ * 5, none⟩ = some (.int .i64 5)) (q1 : w.cell? ⟨cb, co + at_ * 5 + 1, none⟩ = some (.int .i64 a)) (q2 : w.cell? ⟨cb, co + at_ * 5 + 2, none⟩ = some (.int .i64 b)) (q3 : w.cell? ⟨cb, co + at_ * 5 + 3, none⟩ = some (.int .i64 ic)) (q4 : w.cell? ⟨cb, co + at_ * 5 + 4, none⟩ = some (.int .i64 n))
  (hat : (at_ : Int) < cl) (hcl : (cl : Int) ≤ 200) (hk : KRow w g s) (ha0 : 0 ≤ a) (ha1 : a < 8) (hc0 : 0 ≤ ic) (hc1 : ic < rl) :
  Calls Try.prog 34 #[.agg #[.slice ra rl rc, .slice (some ⟨cb, co, none⟩) cl cc], .int .i64 at_, st true g c] w fun e w' => ∃ v, e = .returned v ∧ LdAt w' w.heap.size v [(at_ + 1, setK s a ⟨17, sec ic.toNat⟩)] ∧ More w w' := by
 obtain rfl : ra = some ⟨rb, ro, none⟩ := hra (by omega)
 have Hk : Hid (KRow w g s) := hk
 have Hreg : Hid ((0 < rl → (some ⟨rb, ro, none⟩ : Option Addr) = some ⟨rb, ro, none⟩) ∧ RegsAt w rb ro rl log sec) := ⟨hra, hregs⟩
 have hat2 : (at_ : Int) + 1 ≤ 200 := by omega
 have hcb : cb < w.heap.size := J05 q0
 have hcb1 : cb < w.heap.size + 1 := by omega
 clear hk hra hregs
 suffices hP : ∀ P : Ending → World → Prop, (∀ v w', LdAt w' w.heap.size v [(at_ + 1, setK s a ⟨17, sec ic.toNat⟩)] → More w w' → P (.returned v) w') → Calls Try.prog 34 #[.agg #[.slice (some ⟨rb, ro, none⟩) rl rc, .slice (some ⟨cb, co, none⟩) cl cc], .int .i64 at_, st true g c] w P from hP _ (fun v w' h1 h2 => ⟨v, rfl, h1, h2⟩)
 intro P hP0
 have hP : Hid (∀ v w', LdAt w' w.heap.size v [(at_ + 1, setK s a ⟨17, sec ic.toNat⟩)] → More w w' → P (.returned v) w') := hP0
 clear hP0
 unfold st
 go_enter Try.func34, Try.ntmps34
 go_wp2_with (fail)
 refine (J0o true g c s _ (Hk.out.more (((More.refl _).alloc _ _).alloc _ _ |>.alloc _ _))).mono ?_
 rintro e w1 ⟨g1, c1, rfl, hg1, hr1, m1⟩
 obtain ⟨W1, HW1⟩ : ∃ W1 : World, Hid (W1 = w1.alloc (.cells #[.bool true, .slice (some ⟨g1, 0, none⟩) 8 c1] 65)) := ⟨_, rfl⟩
 have HF : Hid (LFix w.heap.size g c g1 c1 w1.heap.size (.slice (some ⟨rb, ro, none⟩) rl rc) (.slice (some ⟨cb, co, none⟩) cl cc) ⟨5, a, b, ic, n⟩ s rb ro rl log sec W1) := by
  have mW : More w1 W1 := HW1.out ▸ (More.refl _).alloc _ _
  have e0 := (Blk.last w #[.slice (some ⟨rb, ro, none⟩) rl rc, .slice (some ⟨cb, co, none⟩) cl cc] 30).more (((More.refl _).alloc #[.bool true, .slice (some ⟨g, 0, none⟩) 8 c] 65).alloc #[.int .i64 5, .int .i64 a, .int .i64 b, .int .i64 ic, .int .i64 n] 67)
  have e1 := (by simpa using Blk.last (w.alloc (.cells #[.slice (some ⟨rb, ro, none⟩) rl rc, .slice (some ⟨cb, co, none⟩) cl cc] 30)) #[.bool true, .slice (some ⟨g, 0, none⟩) 8 c] 65 : Blk ((w.alloc (.cells #[.slice (some ⟨rb, ro, none⟩) rl rc, .slice (some ⟨cb, co, none⟩) cl cc] 30)).alloc (.cells #[.bool true, .slice (some ⟨g, 0, none⟩) 8 c] 65)) (w.heap.size + 1) #[.bool true, .slice (some ⟨g, 0, none⟩) 8 c] 65).more ((More.refl _).alloc #[.int .i64 5, .int .i64 a, .int .i64 b, .int .i64 ic, .int .i64 n] 67)
  have e2 := (by simpa using Blk.last ((w.alloc (.cells #[.slice (some ⟨rb, ro, none⟩) rl rc, .slice (some ⟨cb, co, none⟩) cl cc] 30)).alloc (.cells #[.bool true, .slice (some ⟨g, 0, none⟩) 8 c] 65)) #[.int .i64 5, .int .i64 a, .int .i64 b, .int .i64 ic, .int .i64 n] 67 : Blk (((w.alloc (.cells #[.slice (some ⟨rb, ro, none⟩) rl rc, .slice (some ⟨cb, co, none⟩) cl cc] 30)).alloc (.cells #[.bool true, .slice (some ⟨g, 0, none⟩) 8 c] 65)).alloc (.cells #[.int .i64 5, .int .i64 a, .int .i64 b, .int .i64 ic, .int .i64 n] 67)) (w.heap.size + 1 + 1) #[.int .i64 5, .int .i64 a, .int .i64 b, .int .i64 ic, .int .i64 n] 67)
  have m0 := (((More.refl w).alloc #[.slice (some ⟨rb, ro, none⟩) rl rc, .slice (some ⟨cb, co, none⟩) cl cc] 30).alloc #[.bool true, .slice (some ⟨g, 0, none⟩) 8 c] 65 |>.alloc #[.int .i64 5, .int .i64 a, .int .i64 b, .int .i64 ic, .int .i64 n] 67).trans (m1.trans mW)
  exact ⟨e0.more (m1.trans mW), e1.more (m1.trans mW), e2.more (m1.trans mW), HW1.out ▸ Blk.last _ _ _, Hk.out.more m0, Hreg.out.2.more m0⟩
 have HK1 : Hid (KRow W1 g1 s) := hr1.more (HW1.out ▸ (More.refl _).alloc _ _)
 have HM : Hid (More w W1) := ((((More.refl _).alloc _ _).alloc _ _ |>.alloc _ _).trans m1).trans (HW1.out ▸ (More.refl _).alloc _ _)
 have HG : Hid (w.heap.size + 3 ≤ g1 ∧ g1 < w1.heap.size ∧ w1.heap.size < W1.heap.size) := ⟨by simpa using hg1, hr1.lt, by rw [HW1.out]; simp⟩
 have HA : Hid (g < w.heap.size ∧ (0 < rl → rb < w.heap.size)) := ⟨Hk.out.lt, fun h0 => J05 (Hreg.out.2 0 h0).1⟩
 have HI : Hid (Blk w1 (w.heap.size + 1 + 1) #[.int .i64 5, .int .i64 a, .int .i64 b, .int .i64 ic, .int .i64 n] 67) := (by simpa using Blk.last ((w.alloc (.cells #[.slice (some ⟨rb, ro, none⟩) rl rc, .slice (some ⟨cb, co, none⟩) cl cc] 30)).alloc (.cells #[.bool true, .slice (some ⟨g, 0, none⟩) 8 c] 65)) #[.int .i64 5, .int .i64 a, .int .i64 b, .int .i64 ic, .int .i64 n] 67 : Blk (((w.alloc (.cells #[.slice (some ⟨rb, ro, none⟩) rl rc, .slice (some ⟨cb, co, none⟩) cl cc] 30)).alloc (.cells #[.bool true, .slice (some ⟨g, 0, none⟩) 8 c] 65)).alloc (.cells #[.int .i64 5, .int .i64 a, .int .i64 b, .int .i64 ic, .int .i64 n] 67)) (w.heap.size + 1 + 1) #[.int .i64 5, .int .i64 a, .int .i64 b, .int .i64 ic, .int .i64 n] 67).more m1
 clear m1 hr1 hg1 q0 q1 q2 q3 q4
 have i0 : w1.cell? ⟨w.heap.size + 1 + 1, 0, none⟩ = some (.int .i64 5) := HI.out.cell rfl
 have i1 : w1.cell? ⟨w.heap.size + 1 + 1, 1, none⟩ = some (.int .i64 a) := HI.out.cell rfl
 have i2 : w1.cell? ⟨w.heap.size + 1 + 1, 2, none⟩ = some (.int .i64 b) := HI.out.cell rfl
 have i3 : w1.cell? ⟨w.heap.size + 1 + 1, 3, none⟩ = some (.int .i64 ic) := HI.out.cell rfl
 have i4 : w1.cell? ⟨w.heap.size + 1 + 1, 4, none⟩ = some (.int .i64 n) := HI.out.cell rfl
 have zi : w.heap.size + 1 + 1 < w1.heap.size := HI.out.lt
 obtain ⟨S, HS⟩ : ∃ S : World → Prop, Hid (∀ w', S w' ↔ LFix w.heap.size g c g1 c1 w1.heap.size (.slice (some ⟨rb, ro, none⟩) rl rc) (.slice (some ⟨cb, co, none⟩) cl cc) ⟨5, a, b, ic, n⟩ s rb ro rl log sec w') := ⟨_, fun _ => Iff.rfl⟩
 have HSm : Hid (∀ w', More W1 w' → S w') := fun w' m => (HS.out _).2 (HF.out.more m)
 have HS0 : S W1.drew := HSm.out _ (More.refl _).drew
 have hne : Nonempty { w' // S w' } := ⟨⟨_, HS0⟩⟩
 have k0 : ∀ i : { w' // S w' }, i.val.cell? ⟨w.heap.size + 1 + 1, 0, none⟩ = some (.int .i64 5) := fun i => ((HS.out _).1 i.property).fi.cell rfl
 have k1 : ∀ i : { w' // S w' }, i.val.cell? ⟨w.heap.size + 1 + 1, 1, none⟩ = some (.int .i64 a) := fun i => ((HS.out _).1 i.property).fi.cell rfl
 have k2 : ∀ i : { w' // S w' }, i.val.cell? ⟨w.heap.size + 1 + 1, 2, none⟩ = some (.int .i64 b) := fun i => ((HS.out _).1 i.property).fi.cell rfl
 have k3 : ∀ i : { w' // S w' }, i.val.cell? ⟨w.heap.size + 1 + 1, 3, none⟩ = some (.int .i64 ic) := fun i => ((HS.out _).1 i.property).fi.cell rfl
 have k4 : ∀ i : { w' // S w' }, i.val.cell? ⟨w.heap.size + 1 + 1, 4, none⟩ = some (.int .i64 n) := fun i => ((HS.out _).1 i.property).fi.cell rfl
 have k5 : ∀ i : { w' // S w' }, i.val.cell? ⟨w1.heap.size, 1, none⟩ = some (.slice (some ⟨g1, 0, none⟩) 8 c1) := fun i => ((HS.out _).1 i.property).ft.cell rfl
 have k6 : ∀ i : { w' // S w' }, i.val.cell? ⟨w.heap.size + 1, 1, none⟩ = some (.slice (some ⟨g, 0, none⟩) 8 c) := fun i => ((HS.out _).1 i.property).fs.cell rfl
 have k7 : ∀ i : { w' // S w' }, i.val.cell? ⟨w.heap.size, 0, none⟩ = some (.slice (some ⟨rb, ro, none⟩) rl rc) := fun i => ((HS.out _).1 i.property).fp.cell rfl
 obtain ⟨vs, hvs⟩ : ∃ v, sec ic.toNat = v := ⟨_, rfl⟩
 have kr : ∀ i : { w' // S w' }, i.val.cell? ⟨rb, ro + ic.toNat * 2 + 1, none⟩ = some (.bool vs) := fun i => hvs ▸ (((HS.out _).1 i.property).regs ic.toNat (by omega)).2
 have Hx : Hid ((⟨17, vs⟩ : Kn) = ⟨17, sec ic.toNat⟩) := by show _ = _; rw [hvs]
 clear hvs
 go_wp2_with (fail)
 rw [← HW1.out]
 clear i0 i1 i2 i3 i4 zi
 refine J01 (S := S) [(0, true), (1, true), (2, true), (3, true), (4, true), (5, true), (6, true), (7, true), (8, true), (9, true), (10, true), (11, true), (12, true), (13, false)] (by kernel_rfl) (by kernel_rfl) (by kernel_rfl) HS0 ?_
 iterate 13 (refine J00 rfl (by kernel_rfl) (fun K hK => ?_); go_simp; refine hK _ _ ?_; clear hK K)
 have Hm2 : Hid (More W1 W1.drew) := (More.refl _).drew
 have HS2 : S W1.drew := HS0
 have Hrow : Hid (KRow W1 g1 s) := HK1.out
 have hr : a.toNat < 8 := by omega
 have q := Hrow.out a.toNat hr
 have q0 := q.1.1
 have q1 := q.1.2
 have q2 := q.2.1
 have q3 := q.2.2
 obtain ⟨w3, Hw3⟩ : ∃ w3, Hid (w3 = ((W1.setCell ⟨g1, a.toNat * 2, none⟩ (.int .i64 17)).setCell ⟨g1, a.toNat * 2 + 1, none⟩ (.bool vs)).drew) := ⟨_, rfl⟩
 have Hrow3 : Hid (KRow w3 g1 (setK s a ⟨17, vs⟩)) := Hw3.out ▸ (Hrow.out.set a ⟨17, vs⟩ hr).more (More.refl _).drew
 have hg := HG.out
 have hA := HA.out
 have HF3 : Hid (LFix w.heap.size g c g1 c1 w1.heap.size (.slice (some ⟨rb, ro, none⟩) rl rc) (.slice (some ⟨cb, co, none⟩) cl cc) ⟨5, a, b, ic, n⟩ s rb ro rl log sec w3) := Hw3.out ▸ LFix.more (More.refl _).drew ((HF.out.set (by omega) (by omega) (by omega) (fun h0 => by have := hA.2 h0; omega) _ _).set (by omega) (by omega) (by omega) (fun h0 => by have := hA.2 h0; omega) _ _)
 have Hm3 : Hid (More w w3) := Hw3.out ▸ ((HM.out.setCell (by dsimp only; omega) _).setCell (by dsimp only; omega) _).drew
 have HS3 : S w3 := (HS.out _).2 HF3.out
 clear hg hA
 refine J02 rfl (by kernel_rfl) (fun K hK => ?_); go_simp
 rw [← Hw3.out]
 refine hK _ _ HS3 ?_; clear hK K
 refine J04 ?_
 clear k0 k1 k2 k3 k4 k5 k6 k7 kr hne HS0 HS2 HS3 q q0 q1 q2 q3
 have t0 := HF3.out.ft.cell (j := 0) (v := .bool true) rfl
 have t1 := HF3.out.ft.cell (j := 1) (v := .slice (some ⟨g1, 0, none⟩) 8 c1) rfl
 go_wp2
 exact hP.out _ _ (LdAt.one rfl (Hx.out ▸ Hrow3.out) (by have := HG.out; omega)) (Hm3.out.alloc _ _)

set_option maxHeartbeats 2000000 in
theorem Jfq (ra : Option Addr) (rb ro rl rc : Nat) (log : Nat → Int) (sec : Nat → Bool) (cb co cl cc at_ g c : Nat) (op a b ic n : Int) (s : KS) (w : World) (hra : 0 < rl → ra = some ⟨rb, ro, none⟩) (hregs : RegsAt w rb ro rl log sec)
  (q0 : w.cell? ⟨cb, co + at_ * 5, none⟩ = some (.int .i64 op)) (q1 : w.cell? ⟨cb, co + at_ * 5 + 1, none⟩ = some (.int .i64 a)) (q2 : w.cell? ⟨cb, co + at_ * 5 + 2, none⟩ = some (.int .i64 b)) (q3 : w.cell? ⟨cb, co + at_ * 5 + 3, none⟩ = some (.int .i64 ic)) (q4 : w.cell? ⟨cb, co + at_ * 5 + 4, none⟩ = some (.int .i64 n))
  (hat : (at_ : Int) < cl) (hcl : (cl : Int) ≤ 200) (hk : KRow w g s) (ho0 : 21 ≤ op) (ho1 : op ≤ 30) (ha0 : 0 ≤ a) (ha1 : a < 8) (hb0 : 0 ≤ b) (hb1 : b < 8) (hc0 : 0 ≤ ic) (hc1 : ic < 8) :
  Calls Try.prog 34 #[.agg #[.slice ra rl rc, .slice (some ⟨cb, co, none⟩) cl cc], .int .i64 at_, st true g c] w fun e w' => ∃ v, e = .returned v ∧ LdAt w' w.heap.size v [(at_ + 1, setK s a (Kn.op (op - 20) (s b.toNat) (s ic.toNat)))] ∧ More w w' := by
 have e7 : (op == 7) = false := by simp; omega
 have e9 : (op == 9) = false := by simp; omega
 have e8 : (op == 8) = false := by simp; omega
 have e1 : (op == 1) = false := by simp; omega
 have e2 : (op == 2) = false := by simp; omega
 have e10 : (op == 10) = false := by simp; omega
 have e3 : (op == 3) = false := by simp; omega
 have e5 : (op == 5) = false := by simp; omega
 have e11 : (op == 11) = false := by simp; omega
 have e4 : (op == 4) = false := by simp; omega
 have e6 : (op == 6) = false := by simp; omega
 have e12 : (op == 12) = false := by simp; omega
 have Hk : Hid (KRow w g s) := hk
 have Hreg : Hid ((0 < rl → ra = some ⟨rb, ro, none⟩) ∧ RegsAt w rb ro rl log sec) := ⟨hra, hregs⟩
 have hat2 : (at_ : Int) + 1 ≤ 200 := by omega
 have hcb : cb < w.heap.size := J05 q0
 have hcb1 : cb < w.heap.size + 1 := by omega
 clear hk hra hregs
 suffices hP : ∀ P : Ending → World → Prop, (∀ v w', LdAt w' w.heap.size v [(at_ + 1, setK s a (Kn.op (op - 20) (s b.toNat) (s ic.toNat)))] → More w w' → P (.returned v) w') → Calls Try.prog 34 #[.agg #[.slice ra rl rc, .slice (some ⟨cb, co, none⟩) cl cc], .int .i64 at_, st true g c] w P from hP _ (fun v w' h1 h2 => ⟨v, rfl, h1, h2⟩)
 intro P hP0
 have hP : Hid (∀ v w', LdAt w' w.heap.size v [(at_ + 1, setK s a (Kn.op (op - 20) (s b.toNat) (s ic.toNat)))] → More w w' → P (.returned v) w') := hP0
 clear hP0
 unfold st
 go_enter Try.func34, Try.ntmps34
 go_wp2_with (fail)
 refine (J0o true g c s _ (Hk.out.more (((More.refl _).alloc _ _).alloc _ _ |>.alloc _ _))).mono ?_
 rintro e w1 ⟨g1, c1, rfl, hg1, hr1, m1⟩
 obtain ⟨W1, HW1⟩ : ∃ W1 : World, Hid (W1 = w1.alloc (.cells #[.bool true, .slice (some ⟨g1, 0, none⟩) 8 c1] 65)) := ⟨_, rfl⟩
 have HF : Hid (LFix w.heap.size g c g1 c1 w1.heap.size (.slice ra rl rc) (.slice (some ⟨cb, co, none⟩) cl cc) ⟨op, a, b, ic, n⟩ s rb ro rl log sec W1) := by
  have mW : More w1 W1 := HW1.out ▸ (More.refl _).alloc _ _
  have e0 := (Blk.last w #[.slice ra rl rc, .slice (some ⟨cb, co, none⟩) cl cc] 30).more (((More.refl _).alloc #[.bool true, .slice (some ⟨g, 0, none⟩) 8 c] 65).alloc #[.int .i64 op, .int .i64 a, .int .i64 b, .int .i64 ic, .int .i64 n] 67)
  have e1 := (by simpa using Blk.last (w.alloc (.cells #[.slice ra rl rc, .slice (some ⟨cb, co, none⟩) cl cc] 30)) #[.bool true, .slice (some ⟨g, 0, none⟩) 8 c] 65 : Blk ((w.alloc (.cells #[.slice ra rl rc, .slice (some ⟨cb, co, none⟩) cl cc] 30)).alloc (.cells #[.bool true, .slice (some ⟨g, 0, none⟩) 8 c] 65)) (w.heap.size + 1) #[.bool true, .slice (some ⟨g, 0, none⟩) 8 c] 65).more ((More.refl _).alloc #[.int .i64 op, .int .i64 a, .int .i64 b, .int .i64 ic, .int .i64 n] 67)
  have e2 := (by simpa using Blk.last ((w.alloc (.cells #[.slice ra rl rc, .slice (some ⟨cb, co, none⟩) cl cc] 30)).alloc (.cells #[.bool true, .slice (some ⟨g, 0, none⟩) 8 c] 65)) #[.int .i64 op, .int .i64 a, .int .i64 b, .int .i64 ic, .int .i64 n] 67 : Blk (((w.alloc (.cells #[.slice ra rl rc, .slice (some ⟨cb, co, none⟩) cl cc] 30)).alloc (.cells #[.bool true, .slice (some ⟨g, 0, none⟩) 8 c] 65)).alloc (.cells #[.int .i64 op, .int .i64 a, .int .i64 b, .int .i64 ic, .int .i64 n] 67)) (w.heap.size + 1 + 1) #[.int .i64 op, .int .i64 a, .int .i64 b, .int .i64 ic, .int .i64 n] 67)
  have m0 := (((More.refl w).alloc #[.slice ra rl rc, .slice (some ⟨cb, co, none⟩) cl cc] 30).alloc #[.bool true, .slice (some ⟨g, 0, none⟩) 8 c] 65 |>.alloc #[.int .i64 op, .int .i64 a, .int .i64 b, .int .i64 ic, .int .i64 n] 67).trans (m1.trans mW)
  exact ⟨e0.more (m1.trans mW), e1.more (m1.trans mW), e2.more (m1.trans mW), HW1.out ▸ Blk.last _ _ _, Hk.out.more m0, Hreg.out.2.more m0⟩
 have HK1 : Hid (KRow W1 g1 s) := hr1.more (HW1.out ▸ (More.refl _).alloc _ _)
 have HM : Hid (More w W1) := ((((More.refl _).alloc _ _).alloc _ _ |>.alloc _ _).trans m1).trans (HW1.out ▸ (More.refl _).alloc _ _)
 have HG : Hid (w.heap.size + 3 ≤ g1 ∧ g1 < w1.heap.size ∧ w1.heap.size < W1.heap.size) := ⟨by simpa using hg1, hr1.lt, by rw [HW1.out]; simp⟩
 have HA : Hid (g < w.heap.size ∧ (0 < rl → rb < w.heap.size)) := ⟨Hk.out.lt, fun h0 => J05 (Hreg.out.2 0 h0).1⟩
 have HI : Hid (Blk w1 (w.heap.size + 1 + 1) #[.int .i64 op, .int .i64 a, .int .i64 b, .int .i64 ic, .int .i64 n] 67) := (by simpa using Blk.last ((w.alloc (.cells #[.slice ra rl rc, .slice (some ⟨cb, co, none⟩) cl cc] 30)).alloc (.cells #[.bool true, .slice (some ⟨g, 0, none⟩) 8 c] 65)) #[.int .i64 op, .int .i64 a, .int .i64 b, .int .i64 ic, .int .i64 n] 67 : Blk (((w.alloc (.cells #[.slice ra rl rc, .slice (some ⟨cb, co, none⟩) cl cc] 30)).alloc (.cells #[.bool true, .slice (some ⟨g, 0, none⟩) 8 c] 65)).alloc (.cells #[.int .i64 op, .int .i64 a, .int .i64 b, .int .i64 ic, .int .i64 n] 67)) (w.heap.size + 1 + 1) #[.int .i64 op, .int .i64 a, .int .i64 b, .int .i64 ic, .int .i64 n] 67).more m1
 clear m1 hr1 hg1 q0 q1 q2 q3 q4
 have i0 : w1.cell? ⟨w.heap.size + 1 + 1, 0, none⟩ = some (.int .i64 op) := HI.out.cell rfl
 have i1 : w1.cell? ⟨w.heap.size + 1 + 1, 1, none⟩ = some (.int .i64 a) := HI.out.cell rfl
 have i2 : w1.cell? ⟨w.heap.size + 1 + 1, 2, none⟩ = some (.int .i64 b) := HI.out.cell rfl
 have i3 : w1.cell? ⟨w.heap.size + 1 + 1, 3, none⟩ = some (.int .i64 ic) := HI.out.cell rfl
 have i4 : w1.cell? ⟨w.heap.size + 1 + 1, 4, none⟩ = some (.int .i64 n) := HI.out.cell rfl
 have zi : w.heap.size + 1 + 1 < w1.heap.size := HI.out.lt
 obtain ⟨S, HS⟩ : ∃ S : World → Prop, Hid (∀ w', S w' ↔ LFix w.heap.size g c g1 c1 w1.heap.size (.slice ra rl rc) (.slice (some ⟨cb, co, none⟩) cl cc) ⟨op, a, b, ic, n⟩ s rb ro rl log sec w') := ⟨_, fun _ => Iff.rfl⟩
 have HSm : Hid (∀ w', More W1 w' → S w') := fun w' m => (HS.out _).2 (HF.out.more m)
 have HS0 : S W1.drew := HSm.out _ (More.refl _).drew
 have hne : Nonempty { w' // S w' } := ⟨⟨_, HS0⟩⟩
 have k0 : ∀ i : { w' // S w' }, i.val.cell? ⟨w.heap.size + 1 + 1, 0, none⟩ = some (.int .i64 op) := fun i => ((HS.out _).1 i.property).fi.cell rfl
 have k1 : ∀ i : { w' // S w' }, i.val.cell? ⟨w.heap.size + 1 + 1, 1, none⟩ = some (.int .i64 a) := fun i => ((HS.out _).1 i.property).fi.cell rfl
 have k2 : ∀ i : { w' // S w' }, i.val.cell? ⟨w.heap.size + 1 + 1, 2, none⟩ = some (.int .i64 b) := fun i => ((HS.out _).1 i.property).fi.cell rfl
 have k3 : ∀ i : { w' // S w' }, i.val.cell? ⟨w.heap.size + 1 + 1, 3, none⟩ = some (.int .i64 ic) := fun i => ((HS.out _).1 i.property).fi.cell rfl
 have k4 : ∀ i : { w' // S w' }, i.val.cell? ⟨w.heap.size + 1 + 1, 4, none⟩ = some (.int .i64 n) := fun i => ((HS.out _).1 i.property).fi.cell rfl
 have k5 : ∀ i : { w' // S w' }, i.val.cell? ⟨w1.heap.size, 1, none⟩ = some (.slice (some ⟨g1, 0, none⟩) 8 c1) := fun i => ((HS.out _).1 i.property).ft.cell rfl
 have k6 : ∀ i : { w' // S w' }, i.val.cell? ⟨w.heap.size + 1, 1, none⟩ = some (.slice (some ⟨g, 0, none⟩) 8 c) := fun i => ((HS.out _).1 i.property).fs.cell rfl
 have k7 : ∀ i : { w' // S w' }, i.val.cell? ⟨w.heap.size, 0, none⟩ = some (.slice ra rl rc) := fun i => ((HS.out _).1 i.property).fp.cell rfl
 obtain ⟨xb, hxb⟩ : ∃ x, s b.toNat = x := ⟨_, rfl⟩
 have kb0 : ∀ i : { w' // S w' }, i.val.cell? ⟨g, b.toNat * 2, none⟩ = some (.int .i64 xb.b) := fun i => hxb ▸ (((HS.out _).1 i.property).ks b.toNat (by omega)).1.1
 have kb1 : ∀ i : { w' // S w' }, i.val.cell? ⟨g, b.toNat * 2 + 1, none⟩ = some (.bool xb.s) := fun i => hxb ▸ (((HS.out _).1 i.property).ks b.toNat (by omega)).1.2
 obtain ⟨xc, hxc⟩ : ∃ x, s ic.toNat = x := ⟨_, rfl⟩
 have kc0 : ∀ i : { w' // S w' }, i.val.cell? ⟨g, ic.toNat * 2, none⟩ = some (.int .i64 xc.b) := fun i => hxc ▸ (((HS.out _).1 i.property).ks ic.toNat (by omega)).1.1
 have kc1 : ∀ i : { w' // S w' }, i.val.cell? ⟨g, ic.toNat * 2 + 1, none⟩ = some (.bool xc.s) := fun i => hxc ▸ (((HS.out _).1 i.property).ks ic.toNat (by omega)).1.2
 obtain ⟨v, hv⟩ : ∃ v, Kn.op (op - 20) xb xc = v := ⟨_, rfl⟩
 have c2 : ∀ w : World, Calls Try.prog 64 #[.int .i64 (op - 20), kn xb.b xb.s, kn xc.b xc.s] w fun e w' => e = .returned (kn v.b v.s) ∧ More w w' := fun w => hv ▸ J7x (op - 20) xb.b xc.b xb.s xc.s w
 have Hx : Hid ((⟨v.b, v.s⟩ : Kn) = Kn.op (op - 20) (s b.toNat) (s ic.toNat)) := by rw [hxb, hxc]; exact hv.symm
 clear hv hxb hxc
 obtain ⟨vb, vs⟩ := v
 obtain ⟨xbb, xbs⟩ := xb
 obtain ⟨xcb, xcs⟩ := xc
 unfold kn at c2
 dsimp only at c2 kb0 kb1 kc0 kc1
 have hwr : IntKind.i64.wrap (op - 20) = op - 20 := by rw [IntKind.wrap_i64]; omega
 go_wp2_with (fail)
 rw [← HW1.out]
 clear i0 i1 i2 i3 i4 zi
 refine J01 (S := S) [(0, true), (1, true), (2, true), (3, true), (4, true), (5, true), (6, true), (7, true), (8, true), (9, true), (10, true), (11, true), (12, true), (13, true), (14, true), (15, true), (16, true), (17, true), (18, true), (19, false), (20, true), (21, false)] (by kernel_rfl) (by kernel_rfl) (by kernel_rfl) HS0 ?_
 iterate 19 (refine J00 rfl (by kernel_rfl) (fun K hK => ?_); go_simp; refine hK _ _ ?_; clear hK K)
 refine J02 rfl (by kernel_rfl) (fun K hK => ?_); go_simp
 try rw [hwr]
 refine (c2 _).mono ?_
 rintro e w2 ⟨rfl, m2⟩
 have Hm2 : Hid (More W1 w2) := (More.refl _).drew.trans m2
 have HS2 : S w2 := HSm.out _ Hm2.out
 clear m2
 go_simp
 refine hK _ _ HS2 ?_; clear hK K
 (refine J00 rfl (by kernel_rfl) (fun K hK => ?_); go_simp; refine hK _ _ ?_; clear hK K)
 have Hrow : Hid (KRow w2 g1 s) := HK1.out.more Hm2.out
 have hr : a.toNat < 8 := by omega
 have q := Hrow.out a.toNat hr
 have q0 := q.1.1
 have q1 := q.1.2
 have q2 := q.2.1
 have q3 := q.2.2
 obtain ⟨w3, Hw3⟩ : ∃ w3, Hid (w3 = (w2.setCell ⟨g1, a.toNat * 2, none⟩ (.int .i64 vb)).setCell ⟨g1, a.toNat * 2 + 1, none⟩ (.bool vs)) := ⟨_, rfl⟩
 have Hrow3 : Hid (KRow w3 g1 (setK s a ⟨vb, vs⟩)) := Hw3.out ▸ Hrow.out.set a ⟨vb, vs⟩ hr
 have hg := HG.out
 have hA := HA.out
 have HF3 : Hid (LFix w.heap.size g c g1 c1 w1.heap.size (.slice ra rl rc) (.slice (some ⟨cb, co, none⟩) cl cc) ⟨op, a, b, ic, n⟩ s rb ro rl log sec w3) := Hw3.out ▸ ((HF.out.more Hm2.out).set (by omega) (by omega) (by omega) (fun h0 => by have := hA.2 h0; omega) _ _).set (by omega) (by omega) (by omega) (fun h0 => by have := hA.2 h0; omega) _ _
 have Hm3 : Hid (More w w3) := Hw3.out ▸ (((HM.out.trans Hm2.out).setCell (by dsimp only; omega) _).setCell (by dsimp only; omega) _)
 have HS3 : S w3 := (HS.out _).2 HF3.out
 clear hg hA
 refine J02 rfl (by kernel_rfl) (fun K hK => ?_); go_simp
 rw [← Hw3.out]
 refine hK _ _ HS3 ?_; clear hK K
 refine J04 ?_
 clear k0 k1 k2 k3 k4 k5 k6 k7 kb0 kb1 kc0 kc1 hne HS0 HS2 HS3 q q0 q1 q2 q3
 have t0 := HF3.out.ft.cell (j := 0) (v := .bool true) rfl
 have t1 := HF3.out.ft.cell (j := 1) (v := .slice (some ⟨g1, 0, none⟩) 8 c1) rfl
 go_wp2
 exact hP.out _ _ (LdAt.one rfl (Hx.out ▸ Hrow3.out) (by have := HG.out; omega)) (Hm3.out.alloc _ _)
set_option maxHeartbeats 2000000 in
theorem Jiv (ra : Option Addr) (rb ro rl rc : Nat) (log : Nat → Int) (sec : Nat → Bool) (cb co cl cc at_ g c : Nat) (a b ic n : Int) (s : KS) (w : World) (hra : 0 < rl → ra = some ⟨rb, ro, none⟩) (hregs : RegsAt w rb ro rl log sec)
  (q0 : w.cell? ⟨cb, co + at_ * 5, none⟩ = some (.int .i64 4)) (q1 : w.cell? ⟨cb, co + at_ * 5 + 1, none⟩ = some (.int .i64 a)) (q2 : w.cell? ⟨cb, co + at_ * 5 + 2, none⟩ = some (.int .i64 b)) (q3 : w.cell? ⟨cb, co + at_ * 5 + 3, none⟩ = some (.int .i64 ic)) (q4 : w.cell? ⟨cb, co + at_ * 5 + 4, none⟩ = some (.int .i64 n))
  (hat : (at_ : Int) < cl) (hcl : (cl : Int) ≤ 200) (hk : KRow w g s) :
  Calls Try.prog 34 #[.agg #[.slice ra rl rc, .slice (some ⟨cb, co, none⟩) cl cc], .int .i64 at_, st true g c] w fun e w' => ∃ v, e = .returned v ∧ LdAt w' w.heap.size v [(at_ + 1, s)] ∧ More w w' := by
 have Hk : Hid (KRow w g s) := hk
 have Hreg : Hid ((0 < rl → ra = some ⟨rb, ro, none⟩) ∧ RegsAt w rb ro rl log sec) := ⟨hra, hregs⟩
 have hat2 : (at_ : Int) + 1 ≤ 200 := by omega
 have hcb : cb < w.heap.size := J05 q0
 have hcb1 : cb < w.heap.size + 1 := by omega
 clear hk hra hregs
 suffices hP : ∀ P : Ending → World → Prop, (∀ v w', LdAt w' w.heap.size v [(at_ + 1, s)] → More w w' → P (.returned v) w') → Calls Try.prog 34 #[.agg #[.slice ra rl rc, .slice (some ⟨cb, co, none⟩) cl cc], .int .i64 at_, st true g c] w P from hP _ (fun v w' h1 h2 => ⟨v, rfl, h1, h2⟩)
 intro P hP0
 have hP : Hid (∀ v w', LdAt w' w.heap.size v [(at_ + 1, s)] → More w w' → P (.returned v) w') := hP0
 clear hP0
 unfold st
 go_enter Try.func34, Try.ntmps34
 go_wp2_with (fail)
 refine (J0o true g c s _ (Hk.out.more (((More.refl _).alloc _ _).alloc _ _ |>.alloc _ _))).mono ?_
 rintro e w1 ⟨g1, c1, rfl, hg1, hr1, m1⟩
 obtain ⟨W1, HW1⟩ : ∃ W1 : World, Hid (W1 = w1.alloc (.cells #[.bool true, .slice (some ⟨g1, 0, none⟩) 8 c1] 65)) := ⟨_, rfl⟩
 have HF : Hid (LFix w.heap.size g c g1 c1 w1.heap.size (.slice ra rl rc) (.slice (some ⟨cb, co, none⟩) cl cc) ⟨4, a, b, ic, n⟩ s rb ro rl log sec W1) := by
  have mW : More w1 W1 := HW1.out ▸ (More.refl _).alloc _ _
  have e0 := (Blk.last w #[.slice ra rl rc, .slice (some ⟨cb, co, none⟩) cl cc] 30).more (((More.refl _).alloc #[.bool true, .slice (some ⟨g, 0, none⟩) 8 c] 65).alloc #[.int .i64 4, .int .i64 a, .int .i64 b, .int .i64 ic, .int .i64 n] 67)
  have e1 := (by simpa using Blk.last (w.alloc (.cells #[.slice ra rl rc, .slice (some ⟨cb, co, none⟩) cl cc] 30)) #[.bool true, .slice (some ⟨g, 0, none⟩) 8 c] 65 : Blk ((w.alloc (.cells #[.slice ra rl rc, .slice (some ⟨cb, co, none⟩) cl cc] 30)).alloc (.cells #[.bool true, .slice (some ⟨g, 0, none⟩) 8 c] 65)) (w.heap.size + 1) #[.bool true, .slice (some ⟨g, 0, none⟩) 8 c] 65).more ((More.refl _).alloc #[.int .i64 4, .int .i64 a, .int .i64 b, .int .i64 ic, .int .i64 n] 67)
  have e2 := (by simpa using Blk.last ((w.alloc (.cells #[.slice ra rl rc, .slice (some ⟨cb, co, none⟩) cl cc] 30)).alloc (.cells #[.bool true, .slice (some ⟨g, 0, none⟩) 8 c] 65)) #[.int .i64 4, .int .i64 a, .int .i64 b, .int .i64 ic, .int .i64 n] 67 : Blk (((w.alloc (.cells #[.slice ra rl rc, .slice (some ⟨cb, co, none⟩) cl cc] 30)).alloc (.cells #[.bool true, .slice (some ⟨g, 0, none⟩) 8 c] 65)).alloc (.cells #[.int .i64 4, .int .i64 a, .int .i64 b, .int .i64 ic, .int .i64 n] 67)) (w.heap.size + 1 + 1) #[.int .i64 4, .int .i64 a, .int .i64 b, .int .i64 ic, .int .i64 n] 67)
  have m0 := (((More.refl w).alloc #[.slice ra rl rc, .slice (some ⟨cb, co, none⟩) cl cc] 30).alloc #[.bool true, .slice (some ⟨g, 0, none⟩) 8 c] 65 |>.alloc #[.int .i64 4, .int .i64 a, .int .i64 b, .int .i64 ic, .int .i64 n] 67).trans (m1.trans mW)
  exact ⟨e0.more (m1.trans mW), e1.more (m1.trans mW), e2.more (m1.trans mW), HW1.out ▸ Blk.last _ _ _, Hk.out.more m0, Hreg.out.2.more m0⟩
 have HK1 : Hid (KRow W1 g1 s) := hr1.more (HW1.out ▸ (More.refl _).alloc _ _)
 have HM : Hid (More w W1) := ((((More.refl _).alloc _ _).alloc _ _ |>.alloc _ _).trans m1).trans (HW1.out ▸ (More.refl _).alloc _ _)
 have HG : Hid (w.heap.size + 3 ≤ g1 ∧ g1 < w1.heap.size ∧ w1.heap.size < W1.heap.size) := ⟨by simpa using hg1, hr1.lt, by rw [HW1.out]; simp⟩
 have HA : Hid (g < w.heap.size ∧ (0 < rl → rb < w.heap.size)) := ⟨Hk.out.lt, fun h0 => J05 (Hreg.out.2 0 h0).1⟩
 have HI : Hid (Blk w1 (w.heap.size + 1 + 1) #[.int .i64 4, .int .i64 a, .int .i64 b, .int .i64 ic, .int .i64 n] 67) := (by simpa using Blk.last ((w.alloc (.cells #[.slice ra rl rc, .slice (some ⟨cb, co, none⟩) cl cc] 30)).alloc (.cells #[.bool true, .slice (some ⟨g, 0, none⟩) 8 c] 65)) #[.int .i64 4, .int .i64 a, .int .i64 b, .int .i64 ic, .int .i64 n] 67 : Blk (((w.alloc (.cells #[.slice ra rl rc, .slice (some ⟨cb, co, none⟩) cl cc] 30)).alloc (.cells #[.bool true, .slice (some ⟨g, 0, none⟩) 8 c] 65)).alloc (.cells #[.int .i64 4, .int .i64 a, .int .i64 b, .int .i64 ic, .int .i64 n] 67)) (w.heap.size + 1 + 1) #[.int .i64 4, .int .i64 a, .int .i64 b, .int .i64 ic, .int .i64 n] 67).more m1
 clear m1 hr1 hg1 q0 q1 q2 q3 q4
 have i0 : w1.cell? ⟨w.heap.size + 1 + 1, 0, none⟩ = some (.int .i64 4) := HI.out.cell rfl
 have i1 : w1.cell? ⟨w.heap.size + 1 + 1, 1, none⟩ = some (.int .i64 a) := HI.out.cell rfl
 have i2 : w1.cell? ⟨w.heap.size + 1 + 1, 2, none⟩ = some (.int .i64 b) := HI.out.cell rfl
 have i3 : w1.cell? ⟨w.heap.size + 1 + 1, 3, none⟩ = some (.int .i64 ic) := HI.out.cell rfl
 have i4 : w1.cell? ⟨w.heap.size + 1 + 1, 4, none⟩ = some (.int .i64 n) := HI.out.cell rfl
 have zi : w.heap.size + 1 + 1 < w1.heap.size := HI.out.lt
 have Hmw : Hid (More w (w1.alloc (.cells #[.bool true, .slice (some ⟨g1, 0, none⟩) 8 c1] 65))) := HW1.out ▸ HM.out
 have Hkw : Hid (KRow (w1.alloc (.cells #[.bool true, .slice (some ⟨g1, 0, none⟩) 8 c1] 65)) g1 s) := HW1.out ▸ HK1.out
 go_wp2
 exact hP.out _ _ (LdAt.one (by simp) Hkw.out (by have := HG.out; omega)) (Hmw.out.alloc _ _)

set_option maxHeartbeats 2000000 in
theorem Jii (ra : Option Addr) (rb ro rl rc : Nat) (log : Nat → Int) (sec : Nat → Bool) (cb co cl cc at_ g c : Nat) (a b ic n : Int) (s : KS) (w : World) (hra : 0 < rl → ra = some ⟨rb, ro, none⟩) (hregs : RegsAt w rb ro rl log sec)
  (q0 : w.cell? ⟨cb, co + at_ * 5, none⟩ = some (.int .i64 6)) (q1 : w.cell? ⟨cb, co + at_ * 5 + 1, none⟩ = some (.int .i64 a)) (q2 : w.cell? ⟨cb, co + at_ * 5 + 2, none⟩ = some (.int .i64 b)) (q3 : w.cell? ⟨cb, co + at_ * 5 + 3, none⟩ = some (.int .i64 ic)) (q4 : w.cell? ⟨cb, co + at_ * 5 + 4, none⟩ = some (.int .i64 n))
  (hat : (at_ : Int) < cl) (hcl : (cl : Int) ≤ 200) (hk : KRow w g s) :
  Calls Try.prog 34 #[.agg #[.slice ra rl rc, .slice (some ⟨cb, co, none⟩) cl cc], .int .i64 at_, st true g c] w fun e w' => ∃ v, e = .returned v ∧ LdAt w' w.heap.size v [(at_ + 1, s)] ∧ More w w' := by
 have Hk : Hid (KRow w g s) := hk
 have Hreg : Hid ((0 < rl → ra = some ⟨rb, ro, none⟩) ∧ RegsAt w rb ro rl log sec) := ⟨hra, hregs⟩
 have hat2 : (at_ : Int) + 1 ≤ 200 := by omega
 have hcb : cb < w.heap.size := J05 q0
 have hcb1 : cb < w.heap.size + 1 := by omega
 clear hk hra hregs
 suffices hP : ∀ P : Ending → World → Prop, (∀ v w', LdAt w' w.heap.size v [(at_ + 1, s)] → More w w' → P (.returned v) w') → Calls Try.prog 34 #[.agg #[.slice ra rl rc, .slice (some ⟨cb, co, none⟩) cl cc], .int .i64 at_, st true g c] w P from hP _ (fun v w' h1 h2 => ⟨v, rfl, h1, h2⟩)
 intro P hP0
 have hP : Hid (∀ v w', LdAt w' w.heap.size v [(at_ + 1, s)] → More w w' → P (.returned v) w') := hP0
 clear hP0
 unfold st
 go_enter Try.func34, Try.ntmps34
 go_wp2_with (fail)
 refine (J0o true g c s _ (Hk.out.more (((More.refl _).alloc _ _).alloc _ _ |>.alloc _ _))).mono ?_
 rintro e w1 ⟨g1, c1, rfl, hg1, hr1, m1⟩
 obtain ⟨W1, HW1⟩ : ∃ W1 : World, Hid (W1 = w1.alloc (.cells #[.bool true, .slice (some ⟨g1, 0, none⟩) 8 c1] 65)) := ⟨_, rfl⟩
 have HF : Hid (LFix w.heap.size g c g1 c1 w1.heap.size (.slice ra rl rc) (.slice (some ⟨cb, co, none⟩) cl cc) ⟨6, a, b, ic, n⟩ s rb ro rl log sec W1) := by
  have mW : More w1 W1 := HW1.out ▸ (More.refl _).alloc _ _
  have e0 := (Blk.last w #[.slice ra rl rc, .slice (some ⟨cb, co, none⟩) cl cc] 30).more (((More.refl _).alloc #[.bool true, .slice (some ⟨g, 0, none⟩) 8 c] 65).alloc #[.int .i64 6, .int .i64 a, .int .i64 b, .int .i64 ic, .int .i64 n] 67)
  have e1 := (by simpa using Blk.last (w.alloc (.cells #[.slice ra rl rc, .slice (some ⟨cb, co, none⟩) cl cc] 30)) #[.bool true, .slice (some ⟨g, 0, none⟩) 8 c] 65 : Blk ((w.alloc (.cells #[.slice ra rl rc, .slice (some ⟨cb, co, none⟩) cl cc] 30)).alloc (.cells #[.bool true, .slice (some ⟨g, 0, none⟩) 8 c] 65)) (w.heap.size + 1) #[.bool true, .slice (some ⟨g, 0, none⟩) 8 c] 65).more ((More.refl _).alloc #[.int .i64 6, .int .i64 a, .int .i64 b, .int .i64 ic, .int .i64 n] 67)
  have e2 := (by simpa using Blk.last ((w.alloc (.cells #[.slice ra rl rc, .slice (some ⟨cb, co, none⟩) cl cc] 30)).alloc (.cells #[.bool true, .slice (some ⟨g, 0, none⟩) 8 c] 65)) #[.int .i64 6, .int .i64 a, .int .i64 b, .int .i64 ic, .int .i64 n] 67 : Blk (((w.alloc (.cells #[.slice ra rl rc, .slice (some ⟨cb, co, none⟩) cl cc] 30)).alloc (.cells #[.bool true, .slice (some ⟨g, 0, none⟩) 8 c] 65)).alloc (.cells #[.int .i64 6, .int .i64 a, .int .i64 b, .int .i64 ic, .int .i64 n] 67)) (w.heap.size + 1 + 1) #[.int .i64 6, .int .i64 a, .int .i64 b, .int .i64 ic, .int .i64 n] 67)
  have m0 := (((More.refl w).alloc #[.slice ra rl rc, .slice (some ⟨cb, co, none⟩) cl cc] 30).alloc #[.bool true, .slice (some ⟨g, 0, none⟩) 8 c] 65 |>.alloc #[.int .i64 6, .int .i64 a, .int .i64 b, .int .i64 ic, .int .i64 n] 67).trans (m1.trans mW)
  exact ⟨e0.more (m1.trans mW), e1.more (m1.trans mW), e2.more (m1.trans mW), HW1.out ▸ Blk.last _ _ _, Hk.out.more m0, Hreg.out.2.more m0⟩
 have HK1 : Hid (KRow W1 g1 s) := hr1.more (HW1.out ▸ (More.refl _).alloc _ _)
 have HM : Hid (More w W1) := ((((More.refl _).alloc _ _).alloc _ _ |>.alloc _ _).trans m1).trans (HW1.out ▸ (More.refl _).alloc _ _)
 have HG : Hid (w.heap.size + 3 ≤ g1 ∧ g1 < w1.heap.size ∧ w1.heap.size < W1.heap.size) := ⟨by simpa using hg1, hr1.lt, by rw [HW1.out]; simp⟩
 have HA : Hid (g < w.heap.size ∧ (0 < rl → rb < w.heap.size)) := ⟨Hk.out.lt, fun h0 => J05 (Hreg.out.2 0 h0).1⟩
 have HI : Hid (Blk w1 (w.heap.size + 1 + 1) #[.int .i64 6, .int .i64 a, .int .i64 b, .int .i64 ic, .int .i64 n] 67) := (by simpa using Blk.last ((w.alloc (.cells #[.slice ra rl rc, .slice (some ⟨cb, co, none⟩) cl cc] 30)).alloc (.cells #[.bool true, .slice (some ⟨g, 0, none⟩) 8 c] 65)) #[.int .i64 6, .int .i64 a, .int .i64 b, .int .i64 ic, .int .i64 n] 67 : Blk (((w.alloc (.cells #[.slice ra rl rc, .slice (some ⟨cb, co, none⟩) cl cc] 30)).alloc (.cells #[.bool true, .slice (some ⟨g, 0, none⟩) 8 c] 65)).alloc (.cells #[.int .i64 6, .int .i64 a, .int .i64 b, .int .i64 ic, .int .i64 n] 67)) (w.heap.size + 1 + 1) #[.int .i64 6, .int .i64 a, .int .i64 b, .int .i64 ic, .int .i64 n] 67).more m1
 clear m1 hr1 hg1 q0 q1 q2 q3 q4
 have i0 : w1.cell? ⟨w.heap.size + 1 + 1, 0, none⟩ = some (.int .i64 6) := HI.out.cell rfl
 have i1 : w1.cell? ⟨w.heap.size + 1 + 1, 1, none⟩ = some (.int .i64 a) := HI.out.cell rfl
 have i2 : w1.cell? ⟨w.heap.size + 1 + 1, 2, none⟩ = some (.int .i64 b) := HI.out.cell rfl
 have i3 : w1.cell? ⟨w.heap.size + 1 + 1, 3, none⟩ = some (.int .i64 ic) := HI.out.cell rfl
 have i4 : w1.cell? ⟨w.heap.size + 1 + 1, 4, none⟩ = some (.int .i64 n) := HI.out.cell rfl
 have zi : w.heap.size + 1 + 1 < w1.heap.size := HI.out.lt
 have Hmw : Hid (More w (w1.alloc (.cells #[.bool true, .slice (some ⟨g1, 0, none⟩) 8 c1] 65))) := HW1.out ▸ HM.out
 have Hkw : Hid (KRow (w1.alloc (.cells #[.bool true, .slice (some ⟨g1, 0, none⟩) 8 c1] 65)) g1 s) := HW1.out ▸ HK1.out
 go_wp2
 exact hP.out _ _ (LdAt.one (by simp) Hkw.out (by have := HG.out; omega)) (Hmw.out.alloc _ _)

set_option maxHeartbeats 2000000 in
theorem Jel (ra : Option Addr) (rb ro rl rc : Nat) (log : Nat → Int) (sec : Nat → Bool) (cb co cl cc at_ g c : Nat) (a b ic n : Int) (s : KS) (w : World) (hra : 0 < rl → ra = some ⟨rb, ro, none⟩) (hregs : RegsAt w rb ro rl log sec)
  (q0 : w.cell? ⟨cb, co + at_ * 5, none⟩ = some (.int .i64 12)) (q1 : w.cell? ⟨cb, co + at_ * 5 + 1, none⟩ = some (.int .i64 a)) (q2 : w.cell? ⟨cb, co + at_ * 5 + 2, none⟩ = some (.int .i64 b)) (q3 : w.cell? ⟨cb, co + at_ * 5 + 3, none⟩ = some (.int .i64 ic)) (q4 : w.cell? ⟨cb, co + at_ * 5 + 4, none⟩ = some (.int .i64 n))
  (hat : (at_ : Int) < cl) (hcl : (cl : Int) ≤ 200) (hk : KRow w g s) :
  Calls Try.prog 34 #[.agg #[.slice ra rl rc, .slice (some ⟨cb, co, none⟩) cl cc], .int .i64 at_, st true g c] w fun e w' => ∃ v, e = .returned v ∧ LdAt w' w.heap.size v [(at_ + 1, s)] ∧ More w w' := by
 have Hk : Hid (KRow w g s) := hk
 have Hreg : Hid ((0 < rl → ra = some ⟨rb, ro, none⟩) ∧ RegsAt w rb ro rl log sec) := ⟨hra, hregs⟩
 have hat2 : (at_ : Int) + 1 ≤ 200 := by omega
 have hcb : cb < w.heap.size := J05 q0
 have hcb1 : cb < w.heap.size + 1 := by omega
 clear hk hra hregs
 suffices hP : ∀ P : Ending → World → Prop, (∀ v w', LdAt w' w.heap.size v [(at_ + 1, s)] → More w w' → P (.returned v) w') → Calls Try.prog 34 #[.agg #[.slice ra rl rc, .slice (some ⟨cb, co, none⟩) cl cc], .int .i64 at_, st true g c] w P from hP _ (fun v w' h1 h2 => ⟨v, rfl, h1, h2⟩)
 intro P hP0
 have hP : Hid (∀ v w', LdAt w' w.heap.size v [(at_ + 1, s)] → More w w' → P (.returned v) w') := hP0
 clear hP0
 unfold st
 go_enter Try.func34, Try.ntmps34
 go_wp2_with (fail)
 refine (J0o true g c s _ (Hk.out.more (((More.refl _).alloc _ _).alloc _ _ |>.alloc _ _))).mono ?_
 rintro e w1 ⟨g1, c1, rfl, hg1, hr1, m1⟩
 obtain ⟨W1, HW1⟩ : ∃ W1 : World, Hid (W1 = w1.alloc (.cells #[.bool true, .slice (some ⟨g1, 0, none⟩) 8 c1] 65)) := ⟨_, rfl⟩
 have HF : Hid (LFix w.heap.size g c g1 c1 w1.heap.size (.slice ra rl rc) (.slice (some ⟨cb, co, none⟩) cl cc) ⟨12, a, b, ic, n⟩ s rb ro rl log sec W1) := by
  have mW : More w1 W1 := HW1.out ▸ (More.refl _).alloc _ _
  have e0 := (Blk.last w #[.slice ra rl rc, .slice (some ⟨cb, co, none⟩) cl cc] 30).more (((More.refl _).alloc #[.bool true, .slice (some ⟨g, 0, none⟩) 8 c] 65).alloc #[.int .i64 12, .int .i64 a, .int .i64 b, .int .i64 ic, .int .i64 n] 67)
  have e1 := (by simpa using Blk.last (w.alloc (.cells #[.slice ra rl rc, .slice (some ⟨cb, co, none⟩) cl cc] 30)) #[.bool true, .slice (some ⟨g, 0, none⟩) 8 c] 65 : Blk ((w.alloc (.cells #[.slice ra rl rc, .slice (some ⟨cb, co, none⟩) cl cc] 30)).alloc (.cells #[.bool true, .slice (some ⟨g, 0, none⟩) 8 c] 65)) (w.heap.size + 1) #[.bool true, .slice (some ⟨g, 0, none⟩) 8 c] 65).more ((More.refl _).alloc #[.int .i64 12, .int .i64 a, .int .i64 b, .int .i64 ic, .int .i64 n] 67)
  have e2 := (by simpa using Blk.last ((w.alloc (.cells #[.slice ra rl rc, .slice (some ⟨cb, co, none⟩) cl cc] 30)).alloc (.cells #[.bool true, .slice (some ⟨g, 0, none⟩) 8 c] 65)) #[.int .i64 12, .int .i64 a, .int .i64 b, .int .i64 ic, .int .i64 n] 67 : Blk (((w.alloc (.cells #[.slice ra rl rc, .slice (some ⟨cb, co, none⟩) cl cc] 30)).alloc (.cells #[.bool true, .slice (some ⟨g, 0, none⟩) 8 c] 65)).alloc (.cells #[.int .i64 12, .int .i64 a, .int .i64 b, .int .i64 ic, .int .i64 n] 67)) (w.heap.size + 1 + 1) #[.int .i64 12, .int .i64 a, .int .i64 b, .int .i64 ic, .int .i64 n] 67)
  have m0 := (((More.refl w).alloc #[.slice ra rl rc, .slice (some ⟨cb, co, none⟩) cl cc] 30).alloc #[.bool true, .slice (some ⟨g, 0, none⟩) 8 c] 65 |>.alloc #[.int .i64 12, .int .i64 a, .int .i64 b, .int .i64 ic, .int .i64 n] 67).trans (m1.trans mW)
  exact ⟨e0.more (m1.trans mW), e1.more (m1.trans mW), e2.more (m1.trans mW), HW1.out ▸ Blk.last _ _ _, Hk.out.more m0, Hreg.out.2.more m0⟩
 have HK1 : Hid (KRow W1 g1 s) := hr1.more (HW1.out ▸ (More.refl _).alloc _ _)
 have HM : Hid (More w W1) := ((((More.refl _).alloc _ _).alloc _ _ |>.alloc _ _).trans m1).trans (HW1.out ▸ (More.refl _).alloc _ _)
 have HG : Hid (w.heap.size + 3 ≤ g1 ∧ g1 < w1.heap.size ∧ w1.heap.size < W1.heap.size) := ⟨by simpa using hg1, hr1.lt, by rw [HW1.out]; simp⟩
 have HA : Hid (g < w.heap.size ∧ (0 < rl → rb < w.heap.size)) := ⟨Hk.out.lt, fun h0 => J05 (Hreg.out.2 0 h0).1⟩
 have HI : Hid (Blk w1 (w.heap.size + 1 + 1) #[.int .i64 12, .int .i64 a, .int .i64 b, .int .i64 ic, .int .i64 n] 67) := (by simpa using Blk.last ((w.alloc (.cells #[.slice ra rl rc, .slice (some ⟨cb, co, none⟩) cl cc] 30)).alloc (.cells #[.bool true, .slice (some ⟨g, 0, none⟩) 8 c] 65)) #[.int .i64 12, .int .i64 a, .int .i64 b, .int .i64 ic, .int .i64 n] 67 : Blk (((w.alloc (.cells #[.slice ra rl rc, .slice (some ⟨cb, co, none⟩) cl cc] 30)).alloc (.cells #[.bool true, .slice (some ⟨g, 0, none⟩) 8 c] 65)).alloc (.cells #[.int .i64 12, .int .i64 a, .int .i64 b, .int .i64 ic, .int .i64 n] 67)) (w.heap.size + 1 + 1) #[.int .i64 12, .int .i64 a, .int .i64 b, .int .i64 ic, .int .i64 n] 67).more m1
 clear m1 hr1 hg1 q0 q1 q2 q3 q4
 have i0 : w1.cell? ⟨w.heap.size + 1 + 1, 0, none⟩ = some (.int .i64 12) := HI.out.cell rfl
 have i1 : w1.cell? ⟨w.heap.size + 1 + 1, 1, none⟩ = some (.int .i64 a) := HI.out.cell rfl
 have i2 : w1.cell? ⟨w.heap.size + 1 + 1, 2, none⟩ = some (.int .i64 b) := HI.out.cell rfl
 have i3 : w1.cell? ⟨w.heap.size + 1 + 1, 3, none⟩ = some (.int .i64 ic) := HI.out.cell rfl
 have i4 : w1.cell? ⟨w.heap.size + 1 + 1, 4, none⟩ = some (.int .i64 n) := HI.out.cell rfl
 have zi : w.heap.size + 1 + 1 < w1.heap.size := HI.out.lt
 have Hmw : Hid (More w (w1.alloc (.cells #[.bool true, .slice (some ⟨g1, 0, none⟩) 8 c1] 65))) := HW1.out ▸ HM.out
 have Hkw : Hid (KRow (w1.alloc (.cells #[.bool true, .slice (some ⟨g1, 0, none⟩) 8 c1] 65)) g1 s) := HW1.out ▸ HK1.out
 go_wp2
 exact hP.out _ _ (LdAt.one (by simp) Hkw.out (by have := HG.out; omega)) (Hmw.out.alloc _ _)

set_option maxHeartbeats 2000000 in
theorem Jh9 (ra : Option Addr) (rb ro rl rc : Nat) (log : Nat → Int) (sec : Nat → Bool) (cb co cl cc at_ g c : Nat) (a b ic n : Int) (s : KS) (w : World) (hra : 0 < rl → ra = some ⟨rb, ro, none⟩) (hregs : RegsAt w rb ro rl log sec)
  (q0 : w.cell? ⟨cb, co + at_ * 5, none⟩ = some (.int .i64 7)) (q1 : w.cell? ⟨cb, co + at_ * 5 + 1, none⟩ = some (.int .i64 a)) (q2 : w.cell? ⟨cb, co + at_ * 5 + 2, none⟩ = some (.int .i64 b)) (q3 : w.cell? ⟨cb, co + at_ * 5 + 3, none⟩ = some (.int .i64 ic)) (q4 : w.cell? ⟨cb, co + at_ * 5 + 4, none⟩ = some (.int .i64 n))
  (hat : (at_ : Int) < cl) (hcl : (cl : Int) ≤ 200) (hk : KRow w g s) (n0 : 0 ≤ n) (n1 : n < 200) :
  Calls Try.prog 34 #[.agg #[.slice ra rl rc, .slice (some ⟨cb, co, none⟩) cl cc], .int .i64 at_, st true g c] w fun e w' => ∃ v, e = .returned v ∧ LdAt w' w.heap.size v [(n.toNat, s)] ∧ More w w' := by
 have Hk : Hid (KRow w g s) := hk
 have Hreg : Hid ((0 < rl → ra = some ⟨rb, ro, none⟩) ∧ RegsAt w rb ro rl log sec) := ⟨hra, hregs⟩
 have hat2 : (at_ : Int) + 1 ≤ 200 := by omega
 have hcb : cb < w.heap.size := J05 q0
 have hcb1 : cb < w.heap.size + 1 := by omega
 clear hk hra hregs
 suffices hP : ∀ P : Ending → World → Prop, (∀ v w', LdAt w' w.heap.size v [(n.toNat, s)] → More w w' → P (.returned v) w') → Calls Try.prog 34 #[.agg #[.slice ra rl rc, .slice (some ⟨cb, co, none⟩) cl cc], .int .i64 at_, st true g c] w P from hP _ (fun v w' h1 h2 => ⟨v, rfl, h1, h2⟩)
 intro P hP0
 have hP : Hid (∀ v w', LdAt w' w.heap.size v [(n.toNat, s)] → More w w' → P (.returned v) w') := hP0
 clear hP0
 unfold st
 go_enter Try.func34, Try.ntmps34
 go_wp2_with (fail)
 refine (J0o true g c s _ (Hk.out.more (((More.refl _).alloc _ _).alloc _ _ |>.alloc _ _))).mono ?_
 rintro e w1 ⟨g1, c1, rfl, hg1, hr1, m1⟩
 obtain ⟨W1, HW1⟩ : ∃ W1 : World, Hid (W1 = w1.alloc (.cells #[.bool true, .slice (some ⟨g1, 0, none⟩) 8 c1] 65)) := ⟨_, rfl⟩
 have HF : Hid (LFix w.heap.size g c g1 c1 w1.heap.size (.slice ra rl rc) (.slice (some ⟨cb, co, none⟩) cl cc) ⟨7, a, b, ic, n⟩ s rb ro rl log sec W1) := by
  have mW : More w1 W1 := HW1.out ▸ (More.refl _).alloc _ _
  have e0 := (Blk.last w #[.slice ra rl rc, .slice (some ⟨cb, co, none⟩) cl cc] 30).more (((More.refl _).alloc #[.bool true, .slice (some ⟨g, 0, none⟩) 8 c] 65).alloc #[.int .i64 7, .int .i64 a, .int .i64 b, .int .i64 ic, .int .i64 n] 67)
  have e1 := (by simpa using Blk.last (w.alloc (.cells #[.slice ra rl rc, .slice (some ⟨cb, co, none⟩) cl cc] 30)) #[.bool true, .slice (some ⟨g, 0, none⟩) 8 c] 65 : Blk ((w.alloc (.cells #[.slice ra rl rc, .slice (some ⟨cb, co, none⟩) cl cc] 30)).alloc (.cells #[.bool true, .slice (some ⟨g, 0, none⟩) 8 c] 65)) (w.heap.size + 1) #[.bool true, .slice (some ⟨g, 0, none⟩) 8 c] 65).more ((More.refl _).alloc #[.int .i64 7, .int .i64 a, .int .i64 b, .int .i64 ic, .int .i64 n] 67)
  have e2 := (by simpa using Blk.last ((w.alloc (.cells #[.slice ra rl rc, .slice (some ⟨cb, co, none⟩) cl cc] 30)).alloc (.cells #[.bool true, .slice (some ⟨g, 0, none⟩) 8 c] 65)) #[.int .i64 7, .int .i64 a, .int .i64 b, .int .i64 ic, .int .i64 n] 67 : Blk (((w.alloc (.cells #[.slice ra rl rc, .slice (some ⟨cb, co, none⟩) cl cc] 30)).alloc (.cells #[.bool true, .slice (some ⟨g, 0, none⟩) 8 c] 65)).alloc (.cells #[.int .i64 7, .int .i64 a, .int .i64 b, .int .i64 ic, .int .i64 n] 67)) (w.heap.size + 1 + 1) #[.int .i64 7, .int .i64 a, .int .i64 b, .int .i64 ic, .int .i64 n] 67)
  have m0 := (((More.refl w).alloc #[.slice ra rl rc, .slice (some ⟨cb, co, none⟩) cl cc] 30).alloc #[.bool true, .slice (some ⟨g, 0, none⟩) 8 c] 65 |>.alloc #[.int .i64 7, .int .i64 a, .int .i64 b, .int .i64 ic, .int .i64 n] 67).trans (m1.trans mW)
  exact ⟨e0.more (m1.trans mW), e1.more (m1.trans mW), e2.more (m1.trans mW), HW1.out ▸ Blk.last _ _ _, Hk.out.more m0, Hreg.out.2.more m0⟩
 have HK1 : Hid (KRow W1 g1 s) := hr1.more (HW1.out ▸ (More.refl _).alloc _ _)
 have HM : Hid (More w W1) := ((((More.refl _).alloc _ _).alloc _ _ |>.alloc _ _).trans m1).trans (HW1.out ▸ (More.refl _).alloc _ _)
 have HG : Hid (w.heap.size + 3 ≤ g1 ∧ g1 < w1.heap.size ∧ w1.heap.size < W1.heap.size) := ⟨by simpa using hg1, hr1.lt, by rw [HW1.out]; simp⟩
 have HA : Hid (g < w.heap.size ∧ (0 < rl → rb < w.heap.size)) := ⟨Hk.out.lt, fun h0 => J05 (Hreg.out.2 0 h0).1⟩
 have HI : Hid (Blk w1 (w.heap.size + 1 + 1) #[.int .i64 7, .int .i64 a, .int .i64 b, .int .i64 ic, .int .i64 n] 67) := (by simpa using Blk.last ((w.alloc (.cells #[.slice ra rl rc, .slice (some ⟨cb, co, none⟩) cl cc] 30)).alloc (.cells #[.bool true, .slice (some ⟨g, 0, none⟩) 8 c] 65)) #[.int .i64 7, .int .i64 a, .int .i64 b, .int .i64 ic, .int .i64 n] 67 : Blk (((w.alloc (.cells #[.slice ra rl rc, .slice (some ⟨cb, co, none⟩) cl cc] 30)).alloc (.cells #[.bool true, .slice (some ⟨g, 0, none⟩) 8 c] 65)).alloc (.cells #[.int .i64 7, .int .i64 a, .int .i64 b, .int .i64 ic, .int .i64 n] 67)) (w.heap.size + 1 + 1) #[.int .i64 7, .int .i64 a, .int .i64 b, .int .i64 ic, .int .i64 n] 67).more m1
 clear m1 hr1 hg1 q0 q1 q2 q3 q4
 have i0 : w1.cell? ⟨w.heap.size + 1 + 1, 0, none⟩ = some (.int .i64 7) := HI.out.cell rfl
 have i1 : w1.cell? ⟨w.heap.size + 1 + 1, 1, none⟩ = some (.int .i64 a) := HI.out.cell rfl
 have i2 : w1.cell? ⟨w.heap.size + 1 + 1, 2, none⟩ = some (.int .i64 b) := HI.out.cell rfl
 have i3 : w1.cell? ⟨w.heap.size + 1 + 1, 3, none⟩ = some (.int .i64 ic) := HI.out.cell rfl
 have i4 : w1.cell? ⟨w.heap.size + 1 + 1, 4, none⟩ = some (.int .i64 n) := HI.out.cell rfl
 have zi : w.heap.size + 1 + 1 < w1.heap.size := HI.out.lt
 have hn : ((n.toNat : Nat) : Int) = n := by omega
 have Hn : Hid (((n.toNat : Nat) : Int) = n) := hn
 clear hn
 have Hmw : Hid (More w (w1.alloc (.cells #[.bool true, .slice (some ⟨g1, 0, none⟩) 8 c1] 65))) := HW1.out ▸ HM.out
 have Hkw : Hid (KRow (w1.alloc (.cells #[.bool true, .slice (some ⟨g1, 0, none⟩) 8 c1] 65)) g1 s) := HW1.out ▸ HK1.out
 go_wp2
 exact hP.out _ _ (by have := LdAt.one (to := n.toNat) (c := c1) (cap := 1) (b := w1.heap.size + 1) (by simp) Hkw.out (lo := w.heap.size) (by have := HG.out; omega); rw [Hn.out] at this; exact this) (Hmw.out.alloc _ _)

set_option maxHeartbeats 2000000 in
theorem Jh7 (ra : Option Addr) (rb ro rl rc : Nat) (log : Nat → Int) (sec : Nat → Bool) (cb co cl cc at_ g c : Nat) (a b ic n : Int) (s : KS) (w : World) (hra : 0 < rl → ra = some ⟨rb, ro, none⟩) (hregs : RegsAt w rb ro rl log sec)
  (q0 : w.cell? ⟨cb, co + at_ * 5, none⟩ = some (.int .i64 9)) (q1 : w.cell? ⟨cb, co + at_ * 5 + 1, none⟩ = some (.int .i64 a)) (q2 : w.cell? ⟨cb, co + at_ * 5 + 2, none⟩ = some (.int .i64 b)) (q3 : w.cell? ⟨cb, co + at_ * 5 + 3, none⟩ = some (.int .i64 ic)) (q4 : w.cell? ⟨cb, co + at_ * 5 + 4, none⟩ = some (.int .i64 n))
  (hat : (at_ : Int) < cl) (hcl : (cl : Int) ≤ 200) (hk : KRow w g s) :
  Calls Try.prog 34 #[.agg #[.slice ra rl rc, .slice (some ⟨cb, co, none⟩) cl cc], .int .i64 at_, st true g c] w fun e w' => ∃ v, e = .returned v ∧ LdAt w' w.heap.size v [] ∧ More w w' := by
 have Hk : Hid (KRow w g s) := hk
 have Hreg : Hid ((0 < rl → ra = some ⟨rb, ro, none⟩) ∧ RegsAt w rb ro rl log sec) := ⟨hra, hregs⟩
 have hat2 : (at_ : Int) + 1 ≤ 200 := by omega
 have hcb : cb < w.heap.size := J05 q0
 have hcb1 : cb < w.heap.size + 1 := by omega
 clear hk hra hregs
 suffices hP : ∀ P : Ending → World → Prop, (∀ v w', LdAt w' w.heap.size v [] → More w w' → P (.returned v) w') → Calls Try.prog 34 #[.agg #[.slice ra rl rc, .slice (some ⟨cb, co, none⟩) cl cc], .int .i64 at_, st true g c] w P from hP _ (fun v w' h1 h2 => ⟨v, rfl, h1, h2⟩)
 intro P hP0
 have hP : Hid (∀ v w', LdAt w' w.heap.size v [] → More w w' → P (.returned v) w') := hP0
 clear hP0
 unfold st
 go_enter Try.func34, Try.ntmps34
 go_wp2_with (fail)
 refine (J0o true g c s _ (Hk.out.more (((More.refl _).alloc _ _).alloc _ _ |>.alloc _ _))).mono ?_
 rintro e w1 ⟨g1, c1, rfl, hg1, hr1, m1⟩
 obtain ⟨W1, HW1⟩ : ∃ W1 : World, Hid (W1 = w1.alloc (.cells #[.bool true, .slice (some ⟨g1, 0, none⟩) 8 c1] 65)) := ⟨_, rfl⟩
 have HF : Hid (LFix w.heap.size g c g1 c1 w1.heap.size (.slice ra rl rc) (.slice (some ⟨cb, co, none⟩) cl cc) ⟨9, a, b, ic, n⟩ s rb ro rl log sec W1) := by
  have mW : More w1 W1 := HW1.out ▸ (More.refl _).alloc _ _
  have e0 := (Blk.last w #[.slice ra rl rc, .slice (some ⟨cb, co, none⟩) cl cc] 30).more (((More.refl _).alloc #[.bool true, .slice (some ⟨g, 0, none⟩) 8 c] 65).alloc #[.int .i64 9, .int .i64 a, .int .i64 b, .int .i64 ic, .int .i64 n] 67)
  have e1 := (by simpa using Blk.last (w.alloc (.cells #[.slice ra rl rc, .slice (some ⟨cb, co, none⟩) cl cc] 30)) #[.bool true, .slice (some ⟨g, 0, none⟩) 8 c] 65 : Blk ((w.alloc (.cells #[.slice ra rl rc, .slice (some ⟨cb, co, none⟩) cl cc] 30)).alloc (.cells #[.bool true, .slice (some ⟨g, 0, none⟩) 8 c] 65)) (w.heap.size + 1) #[.bool true, .slice (some ⟨g, 0, none⟩) 8 c] 65).more ((More.refl _).alloc #[.int .i64 9, .int .i64 a, .int .i64 b, .int .i64 ic, .int .i64 n] 67)
  have e2 := (by simpa using Blk.last ((w.alloc (.cells #[.slice ra rl rc, .slice (some ⟨cb, co, none⟩) cl cc] 30)).alloc (.cells #[.bool true, .slice (some ⟨g, 0, none⟩) 8 c] 65)) #[.int .i64 9, .int .i64 a, .int .i64 b, .int .i64 ic, .int .i64 n] 67 : Blk (((w.alloc (.cells #[.slice ra rl rc, .slice (some ⟨cb, co, none⟩) cl cc] 30)).alloc (.cells #[.bool true, .slice (some ⟨g, 0, none⟩) 8 c] 65)).alloc (.cells #[.int .i64 9, .int .i64 a, .int .i64 b, .int .i64 ic, .int .i64 n] 67)) (w.heap.size + 1 + 1) #[.int .i64 9, .int .i64 a, .int .i64 b, .int .i64 ic, .int .i64 n] 67)
  have m0 := (((More.refl w).alloc #[.slice ra rl rc, .slice (some ⟨cb, co, none⟩) cl cc] 30).alloc #[.bool true, .slice (some ⟨g, 0, none⟩) 8 c] 65 |>.alloc #[.int .i64 9, .int .i64 a, .int .i64 b, .int .i64 ic, .int .i64 n] 67).trans (m1.trans mW)
  exact ⟨e0.more (m1.trans mW), e1.more (m1.trans mW), e2.more (m1.trans mW), HW1.out ▸ Blk.last _ _ _, Hk.out.more m0, Hreg.out.2.more m0⟩
 have HK1 : Hid (KRow W1 g1 s) := hr1.more (HW1.out ▸ (More.refl _).alloc _ _)
 have HM : Hid (More w W1) := ((((More.refl _).alloc _ _).alloc _ _ |>.alloc _ _).trans m1).trans (HW1.out ▸ (More.refl _).alloc _ _)
 have HG : Hid (w.heap.size + 3 ≤ g1 ∧ g1 < w1.heap.size ∧ w1.heap.size < W1.heap.size) := ⟨by simpa using hg1, hr1.lt, by rw [HW1.out]; simp⟩
 have HA : Hid (g < w.heap.size ∧ (0 < rl → rb < w.heap.size)) := ⟨Hk.out.lt, fun h0 => J05 (Hreg.out.2 0 h0).1⟩
 have HI : Hid (Blk w1 (w.heap.size + 1 + 1) #[.int .i64 9, .int .i64 a, .int .i64 b, .int .i64 ic, .int .i64 n] 67) := (by simpa using Blk.last ((w.alloc (.cells #[.slice ra rl rc, .slice (some ⟨cb, co, none⟩) cl cc] 30)).alloc (.cells #[.bool true, .slice (some ⟨g, 0, none⟩) 8 c] 65)) #[.int .i64 9, .int .i64 a, .int .i64 b, .int .i64 ic, .int .i64 n] 67 : Blk (((w.alloc (.cells #[.slice ra rl rc, .slice (some ⟨cb, co, none⟩) cl cc] 30)).alloc (.cells #[.bool true, .slice (some ⟨g, 0, none⟩) 8 c] 65)).alloc (.cells #[.int .i64 9, .int .i64 a, .int .i64 b, .int .i64 ic, .int .i64 n] 67)) (w.heap.size + 1 + 1) #[.int .i64 9, .int .i64 a, .int .i64 b, .int .i64 ic, .int .i64 n] 67).more m1
 clear m1 hr1 hg1 q0 q1 q2 q3 q4
 have i0 : w1.cell? ⟨w.heap.size + 1 + 1, 0, none⟩ = some (.int .i64 9) := HI.out.cell rfl
 have i1 : w1.cell? ⟨w.heap.size + 1 + 1, 1, none⟩ = some (.int .i64 a) := HI.out.cell rfl
 have i2 : w1.cell? ⟨w.heap.size + 1 + 1, 2, none⟩ = some (.int .i64 b) := HI.out.cell rfl
 have i3 : w1.cell? ⟨w.heap.size + 1 + 1, 3, none⟩ = some (.int .i64 ic) := HI.out.cell rfl
 have i4 : w1.cell? ⟨w.heap.size + 1 + 1, 4, none⟩ = some (.int .i64 n) := HI.out.cell rfl
 have zi : w.heap.size + 1 + 1 < w1.heap.size := HI.out.lt
 have Hmw : Hid (More w (w1.alloc (.cells #[.bool true, .slice (some ⟨g1, 0, none⟩) 8 c1] 65))) := HW1.out ▸ HM.out
 have Hkw : Hid (KRow (w1.alloc (.cells #[.bool true, .slice (some ⟨g1, 0, none⟩) 8 c1] 65)) g1 s) := HW1.out ▸ HK1.out
 go_wp2
 exact hP.out _ _ ⟨none, w.heap.size, 0, rfl, fun h => absurd h (by simp), Nat.le_refl _, by simp, fun k x hx => by simp at hx⟩ Hmw.out
end
end Go.Proofs.Ytnppcfkmiddaeab
