/-
  The texts CvBehind, CvLead, CvLearn, CvTells, CvLeaves, one behind the other, with what is used of them.
-/
import Derived.Test.YtmpafeoileonjaaJoined1
import Derived.WalkSmall
namespace Go.Proofs.Ytmpafeoileonjaa
section
open Go.RowKit
set_option linter.unusedSimpArgs false
set_option linter.unusedVariables false
set_option maxRecDepth 8000
set_option maxHeartbeats 2000000 in
theorem behind_1 (s : KS) (M : Nat) (a b c n : Int) (w : World) (ha0 : 0 ≤ a) (ha1 : a < 8) :
  Calls Try.prog 78 #[.pointer (some ⟨M, 0, none⟩), .agg #[.int .i64 1, .int .i64 a, .int .i64 b, .int .i64 c, .int .i64 n], .agg (kv s)] w fun e w' => e = .returned (.agg (kv (setK s a (Kn.of n)))) ∧ More w w' := by
 suffices hP : ∀ P : Ending → World → Prop, (∀ w', More w w' → P (.returned (.agg (kv (setK s a (Kn.of n))))) w') → Calls Try.prog 78 #[.pointer (some ⟨M, 0, none⟩), .agg #[.int .i64 1, .int .i64 a, .int .i64 b, .int .i64 c, .int .i64 n], .agg (kv s)] w P from hP _ (fun w' m => ⟨rfl, m⟩)
 intro P hP0
 have HP : Hid (∀ w', More w w' → P (.returned (.agg (kv (setK s a (Kn.of n))))) w') := hP0
 clear hP0
 obtain ⟨W, HW⟩ : ∃ W : World, Hid (W = ((w.alloc (.cells #[.int .i64 1, .int .i64 a, .int .i64 b, .int .i64 c, .int .i64 n] 59)).alloc (.cells (kv s) 113)).alloc (.cells #[.int .i64 0, .bool false, .int .i64 0, .bool false, .int .i64 0, .bool false, .int .i64 0, .bool false, .int .i64 0, .bool false, .int .i64 0, .bool false, .int .i64 0, .bool false, .int .i64 0, .bool false] 113)) := ⟨_, rfl⟩
 have HB : Hid (Blk W w.heap.size #[.int .i64 1, .int .i64 a, .int .i64 b, .int .i64 c, .int .i64 n] 59 ∧ Blk W (w.heap.size + 1) (kv s) 113 ∧ Blk W (w.heap.size + 1 + 1) (kv zeroK) 113 ∧ More w W) := by
  rw [HW.out]
  refine ⟨((Blk.last _ _ _).alloc _ _).alloc _ _, (by simpa using Blk.last (w.alloc (.cells #[.int .i64 1, .int .i64 a, .int .i64 b, .int .i64 c, .int .i64 n] 59)) (kv s) 113 : Blk _ (w.heap.size + 1) _ _).alloc _ _, ?_, (((More.refl _).alloc _ _).alloc _ _).alloc _ _⟩
  rw [kv_zero]
  exact (by simpa using Blk.last ((w.alloc (.cells #[.int .i64 1, .int .i64 a, .int .i64 b, .int .i64 c, .int .i64 n] 59)).alloc (.cells (kv s) 113)) #[.int .i64 0, .bool false, .int .i64 0, .bool false, .int .i64 0, .bool false, .int .i64 0, .bool false, .int .i64 0, .bool false, .int .i64 0, .bool false, .int .i64 0, .bool false, .int .i64 0, .bool false] 113)
 obtain ⟨S, HS⟩ : ∃ S : World → Prop, Hid (∀ w', S w' ↔ More W w') := ⟨_, fun _ => Iff.rfl⟩
 have HS0 : S W.drew := (HS.out _).2 (More.refl _).drew
 have hne : Nonempty { w' // S w' } := ⟨⟨_, HS0⟩⟩
 have k0 : ∀ i : { w' // S w' }, i.val.cell? ⟨w.heap.size, 0, none⟩ = some (.int .i64 1) := fun i => (HB.out.1.more ((HS.out _).1 i.property)).cell rfl
 have k1 : ∀ i : { w' // S w' }, i.val.cell? ⟨w.heap.size, 1, none⟩ = some (.int .i64 a) := fun i => (HB.out.1.more ((HS.out _).1 i.property)).cell rfl
 have k2 : ∀ i : { w' // S w' }, i.val.cell? ⟨w.heap.size, 2, none⟩ = some (.int .i64 b) := fun i => (HB.out.1.more ((HS.out _).1 i.property)).cell rfl
 have k3 : ∀ i : { w' // S w' }, i.val.cell? ⟨w.heap.size, 3, none⟩ = some (.int .i64 c) := fun i => (HB.out.1.more ((HS.out _).1 i.property)).cell rfl
 have k4 : ∀ i : { w' // S w' }, i.val.cell? ⟨w.heap.size, 4, none⟩ = some (.int .i64 n) := fun i => (HB.out.1.more ((HS.out _).1 i.property)).cell rfl
 have ha8 : a.toNat < 8 := by omega
 obtain ⟨v, hv⟩ : ∃ v, Kn.of n = v := ⟨_, rfl⟩
 have c2 : ∀ w : World, Calls Try.prog 88 #[.int .i64 n] w fun e w' => e = .returned (kn v.b v.s) ∧ More w w' := fun w => hv ▸ kof_calls n w
 have Hx : Hid (kv (setK s a ⟨v.b, v.s⟩) = kv (setK s a (Kn.of n))) := by rw [hv]; exact rfl
 clear hv
 obtain ⟨vb, vs⟩ := v
 unfold kn at c2
 dsimp only at c2
 obtain ⟨cs, hcs⟩ : ∃ c, kv s = c := ⟨_, rfl⟩
 have hcs16 : cs.size = 16 := hcs ▸ kv_size s
 rw [hcs] at HW
 rw [hcs]
 clear hcs
 go_enter Try.func78, Try.ntmps78
 go_wp2_with (fail)
 rw [← HW.out]
 clear hcs16
 refine wp_region_last (S := S) [(0, true), (1, true), (2, true), (3, true), (4, false), (5, true), (6, false)] (by kernel_rfl) (by kernel_rfl) (by kernel_rfl) HS0 ?_
 iterate 4 (refine wpOrdZ_take rfl (by kernel_rfl) (fun K hK => ?_); go_simp; refine hK _ _ ?_; clear hK K)
 refine wpOrdZ_busy rfl (by kernel_rfl) (fun K hK => ?_); go_simp
 refine (c2 _).mono ?_
 rintro e w2 ⟨rfl, m_⟩
 have Hmw2 : Hid (More W w2) := (More.refl W).drew.trans m_
 clear m_
 go_simp
 refine hK _ _ ((HS.out _).2 Hmw2.out) ?_; clear hK K
 (refine wpOrdZ_take rfl (by kernel_rfl) (fun K hK => ?_); go_simp; refine hK _ _ ?_; clear hK K)
 have HR : Hid (Blk w2 (w.heap.size + 1) (kv s) 113) := HB.out.2.1.more (Hmw2.out)
 have q0 := HR.out.cell (kv_at _ _ ha8).1
 have q1 := HR.out.cell (kv_at _ _ ha8).2
 have q2 := HR.out.frozen (a.toNat * 2)
 have q3 := HR.out.frozen (a.toNat * 2 + 1)
 obtain ⟨wz, Hwz⟩ : ∃ w_ : World, Hid (w_ = (w2.setCell ⟨w.heap.size + 1, a.toNat * 2, none⟩ (.int .i64 vb)).setCell ⟨w.heap.size + 1, a.toNat * 2 + 1, none⟩ (.bool vs)) := ⟨_, rfl⟩
 have F : Hid (Blk wz (w.heap.size + 1) (kv (setK s a (Kn.of n))) 113 ∧ Blk wz (w.heap.size + 1 + 1) (kv zeroK) 113 ∧ More w wz) := by
  rw [Hwz.out]
  refine ⟨?_, ((HB.out.2.2.1.more (Hmw2.out)).other (by omega) _ _).other (by omega) _ _, ((HB.out.2.2.2.trans (Hmw2.out)).setCell (by dsimp only; omega) _).setCell (by dsimp only; omega) _⟩
  rw [← Hx.out]
  exact HR.out.setK a vb vs ha8
 refine wpOrdZ_last rfl (by kernel_rfl) (by kernel_rfl) (fun K hK => ?_)
 go_simp
 rw [← Hwz.out]
 refine hK _ _ ?_
 clear hK K hne HS0 q0 q1 q2 q3 k0 k1 k2 k3 k4
 refine NoPanic.normal ?_
 obtain ⟨C, hC⟩ : ∃ C, kv (setK s a (Kn.of n)) = C := ⟨_, rfl⟩
 have HE : Hid (P (.returned (.agg C)) (wz.setRow (w.heap.size + 1 + 1) C)) := by
  have := HP.out (wz.setRow (w.heap.size + 1 + 1) C) (F.out.2.2.setRow (by omega) C)
  rw [hC] at this
  exact this
 have hb : wz.heap[w.heap.size + 1]? = some (.cells C 113 (0, 0)) := by
  have := F.out.1
  rw [hC] at this
  exact this
 have hr : wz.heap[w.heap.size + 1 + 1]? = some (.cells (kv zeroK) 113 (0, 0)) := F.out.2.1
 have hi : (Try.prog.info? 113).map (·.size) = some C.size := by rw [← hC]; exact info104k _
 have hold : (kv zeroK).size = C.size := by rw [← hC, kv_size, kv_size]
 have hone : C.all (·.oneCell') = true := by rw [← hC]; exact kv_one _
 clear HP
 go_wp2_with (first | (refine wpList_load_row rfl 113 (.tmp 5) rfl (w.heap.size + 1) rfl 113 _ (0, 0) _ hb Try.underlying113 rfl hi ?_) | (refine wpList_store_row rfl 113 (.tmp 6) (.tmp 87) rfl (w.heap.size + 1 + 1) _ rfl rfl 113 _ hr hi hold hone ?_))
 exact bodyPost_ret (results_cell_row rfl _ _ (w.heap.size + 1 + 1) 113 C (0, 0) _ rfl (setRow_heap _ _ _ _ _ _ hr) Try.underlying113 rfl hi) rfl HE.out

set_option maxHeartbeats 2000000 in
theorem behind_2 (s : KS) (M : Nat) (a b c n : Int) (w : World) (ha0 : 0 ≤ a) (ha1 : a < 8) (hb0 : 0 ≤ b) (hb1 : b < 8) :
  Calls Try.prog 78 #[.pointer (some ⟨M, 0, none⟩), .agg #[.int .i64 2, .int .i64 a, .int .i64 b, .int .i64 c, .int .i64 n], .agg (kv s)] w fun e w' => e = .returned (.agg (kv (setK s a (s b.toNat)))) ∧ More w w' := by
 suffices hP : ∀ P : Ending → World → Prop, (∀ w', More w w' → P (.returned (.agg (kv (setK s a (s b.toNat))))) w') → Calls Try.prog 78 #[.pointer (some ⟨M, 0, none⟩), .agg #[.int .i64 2, .int .i64 a, .int .i64 b, .int .i64 c, .int .i64 n], .agg (kv s)] w P from hP _ (fun w' m => ⟨rfl, m⟩)
 intro P hP0
 have HP : Hid (∀ w', More w w' → P (.returned (.agg (kv (setK s a (s b.toNat))))) w') := hP0
 clear hP0
 obtain ⟨W, HW⟩ : ∃ W : World, Hid (W = ((w.alloc (.cells #[.int .i64 2, .int .i64 a, .int .i64 b, .int .i64 c, .int .i64 n] 59)).alloc (.cells (kv s) 113)).alloc (.cells #[.int .i64 0, .bool false, .int .i64 0, .bool false, .int .i64 0, .bool false, .int .i64 0, .bool false, .int .i64 0, .bool false, .int .i64 0, .bool false, .int .i64 0, .bool false, .int .i64 0, .bool false] 113)) := ⟨_, rfl⟩
 have HB : Hid (Blk W w.heap.size #[.int .i64 2, .int .i64 a, .int .i64 b, .int .i64 c, .int .i64 n] 59 ∧ Blk W (w.heap.size + 1) (kv s) 113 ∧ Blk W (w.heap.size + 1 + 1) (kv zeroK) 113 ∧ More w W) := by
  rw [HW.out]
  refine ⟨((Blk.last _ _ _).alloc _ _).alloc _ _, (by simpa using Blk.last (w.alloc (.cells #[.int .i64 2, .int .i64 a, .int .i64 b, .int .i64 c, .int .i64 n] 59)) (kv s) 113 : Blk _ (w.heap.size + 1) _ _).alloc _ _, ?_, (((More.refl _).alloc _ _).alloc _ _).alloc _ _⟩
  rw [kv_zero]
  exact (by simpa using Blk.last ((w.alloc (.cells #[.int .i64 2, .int .i64 a, .int .i64 b, .int .i64 c, .int .i64 n] 59)).alloc (.cells (kv s) 113)) #[.int .i64 0, .bool false, .int .i64 0, .bool false, .int .i64 0, .bool false, .int .i64 0, .bool false, .int .i64 0, .bool false, .int .i64 0, .bool false, .int .i64 0, .bool false, .int .i64 0, .bool false] 113)
 obtain ⟨S, HS⟩ : ∃ S : World → Prop, Hid (∀ w', S w' ↔ More W w') := ⟨_, fun _ => Iff.rfl⟩
 have HS0 : S W.drew := (HS.out _).2 (More.refl _).drew
 have hne : Nonempty { w' // S w' } := ⟨⟨_, HS0⟩⟩
 have k0 : ∀ i : { w' // S w' }, i.val.cell? ⟨w.heap.size, 0, none⟩ = some (.int .i64 2) := fun i => (HB.out.1.more ((HS.out _).1 i.property)).cell rfl
 have k1 : ∀ i : { w' // S w' }, i.val.cell? ⟨w.heap.size, 1, none⟩ = some (.int .i64 a) := fun i => (HB.out.1.more ((HS.out _).1 i.property)).cell rfl
 have k2 : ∀ i : { w' // S w' }, i.val.cell? ⟨w.heap.size, 2, none⟩ = some (.int .i64 b) := fun i => (HB.out.1.more ((HS.out _).1 i.property)).cell rfl
 have k3 : ∀ i : { w' // S w' }, i.val.cell? ⟨w.heap.size, 3, none⟩ = some (.int .i64 c) := fun i => (HB.out.1.more ((HS.out _).1 i.property)).cell rfl
 have k4 : ∀ i : { w' // S w' }, i.val.cell? ⟨w.heap.size, 4, none⟩ = some (.int .i64 n) := fun i => (HB.out.1.more ((HS.out _).1 i.property)).cell rfl
 have ha8 : a.toNat < 8 := by omega
 obtain ⟨xb, hxb⟩ : ∃ x, s b.toNat = x := ⟨_, rfl⟩
 have hb8 : b.toNat < 8 := by omega
 have kb0 : ∀ i : { w' // S w' }, i.val.cell? ⟨w.heap.size + 1, b.toNat * 2, none⟩ = some (.int .i64 xb.b) := fun i => by rw [(HB.out.2.1.more ((HS.out _).1 i.property)).cell (kv_at _ _ hb8).1, hxb]
 have kb1 : ∀ i : { w' // S w' }, i.val.cell? ⟨w.heap.size + 1, b.toNat * 2 + 1, none⟩ = some (.bool xb.s) := fun i => by rw [(HB.out.2.1.more ((HS.out _).1 i.property)).cell (kv_at _ _ hb8).2, hxb]
 have Hx : Hid (kv (setK s a ⟨xb.b, xb.s⟩) = kv (setK s a (s b.toNat))) := by rw [hxb]; exact rfl
 clear hxb
 obtain ⟨vb, vs⟩ := xb
 dsimp only at kb0 kb1
 obtain ⟨cs, hcs⟩ : ∃ c, kv s = c := ⟨_, rfl⟩
 have hcs16 : cs.size = 16 := hcs ▸ kv_size s
 rw [hcs] at HW
 rw [hcs]
 clear hcs
 go_enter Try.func78, Try.ntmps78
 go_wp2_with (fail)
 rw [← HW.out]
 clear hcs16
 refine wp_region_last (S := S) [(0, true), (1, true), (2, true), (3, true), (4, true), (5, true), (6, true), (7, false)] (by kernel_rfl) (by kernel_rfl) (by kernel_rfl) HS0 ?_
 iterate 6 (refine wpOrdZ_take rfl (by kernel_rfl) (fun K hK => ?_); go_simp; refine hK _ _ ?_; clear hK K)
 obtain ⟨wd, Hwd⟩ : ∃ w_ : World, Hid (w_ = W.drew) := ⟨_, rfl⟩
 have Hmwd : Hid (More W wd) := Hwd.out ▸ (More.refl W).drew
 rw [← Hwd.out]
 (refine wpOrdZ_take rfl (by kernel_rfl) (fun K hK => ?_); go_simp; refine hK _ _ ?_; clear hK K)
 have HR : Hid (Blk wd (w.heap.size + 1) (kv s) 113) := HB.out.2.1.more (Hmwd.out)
 have q0 := HR.out.cell (kv_at _ _ ha8).1
 have q1 := HR.out.cell (kv_at _ _ ha8).2
 have q2 := HR.out.frozen (a.toNat * 2)
 have q3 := HR.out.frozen (a.toNat * 2 + 1)
 obtain ⟨wz, Hwz⟩ : ∃ w_ : World, Hid (w_ = (wd.setCell ⟨w.heap.size + 1, a.toNat * 2, none⟩ (.int .i64 vb)).setCell ⟨w.heap.size + 1, a.toNat * 2 + 1, none⟩ (.bool vs)) := ⟨_, rfl⟩
 have F : Hid (Blk wz (w.heap.size + 1) (kv (setK s a (s b.toNat))) 113 ∧ Blk wz (w.heap.size + 1 + 1) (kv zeroK) 113 ∧ More w wz) := by
  rw [Hwz.out]
  refine ⟨?_, ((HB.out.2.2.1.more (Hmwd.out)).other (by omega) _ _).other (by omega) _ _, ((HB.out.2.2.2.trans (Hmwd.out)).setCell (by dsimp only; omega) _).setCell (by dsimp only; omega) _⟩
  rw [← Hx.out]
  exact HR.out.setK a vb vs ha8
 refine wpOrdZ_last rfl (by kernel_rfl) (by kernel_rfl) (fun K hK => ?_)
 go_simp
 rw [← Hwz.out]
 refine hK _ _ ?_
 clear hK K hne HS0 q0 q1 q2 q3 k0 k1 k2 k3 k4
 refine NoPanic.normal ?_
 obtain ⟨C, hC⟩ : ∃ C, kv (setK s a (s b.toNat)) = C := ⟨_, rfl⟩
 have HE : Hid (P (.returned (.agg C)) (wz.setRow (w.heap.size + 1 + 1) C)) := by
  have := HP.out (wz.setRow (w.heap.size + 1 + 1) C) (F.out.2.2.setRow (by omega) C)
  rw [hC] at this
  exact this
 have hb : wz.heap[w.heap.size + 1]? = some (.cells C 113 (0, 0)) := by
  have := F.out.1
  rw [hC] at this
  exact this
 have hr : wz.heap[w.heap.size + 1 + 1]? = some (.cells (kv zeroK) 113 (0, 0)) := F.out.2.1
 have hi : (Try.prog.info? 113).map (·.size) = some C.size := by rw [← hC]; exact info104k _
 have hold : (kv zeroK).size = C.size := by rw [← hC, kv_size, kv_size]
 have hone : C.all (·.oneCell') = true := by rw [← hC]; exact kv_one _
 clear HP
 go_wp2_with (first | (refine wpList_load_row rfl 113 (.tmp 5) rfl (w.heap.size + 1) rfl 113 _ (0, 0) _ hb Try.underlying113 rfl hi ?_) | (refine wpList_store_row rfl 113 (.tmp 6) (.tmp 87) rfl (w.heap.size + 1 + 1) _ rfl rfl 113 _ hr hi hold hone ?_))
 exact bodyPost_ret (results_cell_row rfl _ _ (w.heap.size + 1 + 1) 113 C (0, 0) _ rfl (setRow_heap _ _ _ _ _ _ hr) Try.underlying113 rfl hi) rfl HE.out

set_option maxHeartbeats 2000000 in
theorem behind_10 (s : KS) (M : Nat) (a b c n : Int) (w : World) (ha0 : 0 ≤ a) (ha1 : a < 8) (hb0 : 0 ≤ b) (hb1 : b < 8) (n0 : -9223372036854775808 ≤ n) (n1 : n ≤ 9223372036854775807) :
  Calls Try.prog 78 #[.pointer (some ⟨M, 0, none⟩), .agg #[.int .i64 10, .int .i64 a, .int .i64 b, .int .i64 c, .int .i64 n], .agg (kv s)] w fun e w' => e = .returned (.agg (kv (setK s a (Kn.index (s b.toNat) n)))) ∧ More w w' := by
 suffices hP : ∀ P : Ending → World → Prop, (∀ w', More w w' → P (.returned (.agg (kv (setK s a (Kn.index (s b.toNat) n))))) w') → Calls Try.prog 78 #[.pointer (some ⟨M, 0, none⟩), .agg #[.int .i64 10, .int .i64 a, .int .i64 b, .int .i64 c, .int .i64 n], .agg (kv s)] w P from hP _ (fun w' m => ⟨rfl, m⟩)
 intro P hP0
 have HP : Hid (∀ w', More w w' → P (.returned (.agg (kv (setK s a (Kn.index (s b.toNat) n))))) w') := hP0
 clear hP0
 obtain ⟨W, HW⟩ : ∃ W : World, Hid (W = ((w.alloc (.cells #[.int .i64 10, .int .i64 a, .int .i64 b, .int .i64 c, .int .i64 n] 59)).alloc (.cells (kv s) 113)).alloc (.cells #[.int .i64 0, .bool false, .int .i64 0, .bool false, .int .i64 0, .bool false, .int .i64 0, .bool false, .int .i64 0, .bool false, .int .i64 0, .bool false, .int .i64 0, .bool false, .int .i64 0, .bool false] 113)) := ⟨_, rfl⟩
 have HB : Hid (Blk W w.heap.size #[.int .i64 10, .int .i64 a, .int .i64 b, .int .i64 c, .int .i64 n] 59 ∧ Blk W (w.heap.size + 1) (kv s) 113 ∧ Blk W (w.heap.size + 1 + 1) (kv zeroK) 113 ∧ More w W) := by
  rw [HW.out]
  refine ⟨((Blk.last _ _ _).alloc _ _).alloc _ _, (by simpa using Blk.last (w.alloc (.cells #[.int .i64 10, .int .i64 a, .int .i64 b, .int .i64 c, .int .i64 n] 59)) (kv s) 113 : Blk _ (w.heap.size + 1) _ _).alloc _ _, ?_, (((More.refl _).alloc _ _).alloc _ _).alloc _ _⟩
  rw [kv_zero]
  exact (by simpa using Blk.last ((w.alloc (.cells #[.int .i64 10, .int .i64 a, .int .i64 b, .int .i64 c, .int .i64 n] 59)).alloc (.cells (kv s) 113)) #[.int .i64 0, .bool false, .int .i64 0, .bool false, .int .i64 0, .bool false, .int .i64 0, .bool false, .int .i64 0, .bool false, .int .i64 0, .bool false, .int .i64 0, .bool false, .int .i64 0, .bool false] 113)
 obtain ⟨S, HS⟩ : ∃ S : World → Prop, Hid (∀ w', S w' ↔ More W w') := ⟨_, fun _ => Iff.rfl⟩
 have HS0 : S W.drew := (HS.out _).2 (More.refl _).drew
 have hne : Nonempty { w' // S w' } := ⟨⟨_, HS0⟩⟩
 have k0 : ∀ i : { w' // S w' }, i.val.cell? ⟨w.heap.size, 0, none⟩ = some (.int .i64 10) := fun i => (HB.out.1.more ((HS.out _).1 i.property)).cell rfl
 have k1 : ∀ i : { w' // S w' }, i.val.cell? ⟨w.heap.size, 1, none⟩ = some (.int .i64 a) := fun i => (HB.out.1.more ((HS.out _).1 i.property)).cell rfl
 have k2 : ∀ i : { w' // S w' }, i.val.cell? ⟨w.heap.size, 2, none⟩ = some (.int .i64 b) := fun i => (HB.out.1.more ((HS.out _).1 i.property)).cell rfl
 have k3 : ∀ i : { w' // S w' }, i.val.cell? ⟨w.heap.size, 3, none⟩ = some (.int .i64 c) := fun i => (HB.out.1.more ((HS.out _).1 i.property)).cell rfl
 have k4 : ∀ i : { w' // S w' }, i.val.cell? ⟨w.heap.size, 4, none⟩ = some (.int .i64 n) := fun i => (HB.out.1.more ((HS.out _).1 i.property)).cell rfl
 have ha8 : a.toNat < 8 := by omega
 obtain ⟨xb, hxb⟩ : ∃ x, s b.toNat = x := ⟨_, rfl⟩
 have hb8 : b.toNat < 8 := by omega
 have kb0 : ∀ i : { w' // S w' }, i.val.cell? ⟨w.heap.size + 1, b.toNat * 2, none⟩ = some (.int .i64 xb.b) := fun i => by rw [(HB.out.2.1.more ((HS.out _).1 i.property)).cell (kv_at _ _ hb8).1, hxb]
 have kb1 : ∀ i : { w' // S w' }, i.val.cell? ⟨w.heap.size + 1, b.toNat * 2 + 1, none⟩ = some (.bool xb.s) := fun i => by rw [(HB.out.2.1.more ((HS.out _).1 i.property)).cell (kv_at _ _ hb8).2, hxb]
 obtain ⟨v, hv⟩ : ∃ v, Kn.index xb n = v := ⟨_, rfl⟩
 have c2 : ∀ w : World, Calls Try.prog 89 #[kn xb.b xb.s, .int .i64 n] w fun e w' => e = .returned (kn v.b v.s) ∧ More w w' := fun w => hv ▸ sum_k xb n n0 w
 have Hx : Hid (kv (setK s a ⟨v.b, v.s⟩) = kv (setK s a (Kn.index (s b.toNat) n))) := by rw [hxb, hv]; exact rfl
 clear hv hxb
 obtain ⟨vb, vs⟩ := v
 obtain ⟨xbb, xbs⟩ := xb
 unfold kn at c2
 dsimp only at c2 kb0 kb1
 obtain ⟨cs, hcs⟩ : ∃ c, kv s = c := ⟨_, rfl⟩
 have hcs16 : cs.size = 16 := hcs ▸ kv_size s
 rw [hcs] at HW
 rw [hcs]
 clear hcs
 go_enter Try.func78, Try.ntmps78
 go_wp2_with (fail)
 rw [← HW.out]
 clear hcs16
 refine wp_region_last (S := S) [(0, true), (1, true), (2, true), (3, true), (4, true), (5, true), (6, true), (7, true), (8, false), (9, true), (10, false)] (by kernel_rfl) (by kernel_rfl) (by kernel_rfl) HS0 ?_
 iterate 8 (refine wpOrdZ_take rfl (by kernel_rfl) (fun K hK => ?_); go_simp; refine hK _ _ ?_; clear hK K)
 refine wpOrdZ_busy rfl (by kernel_rfl) (fun K hK => ?_); go_simp
 refine (c2 _).mono ?_
 rintro e w2 ⟨rfl, m_⟩
 have Hmw2 : Hid (More W w2) := (More.refl W).drew.trans m_
 clear m_
 go_simp
 refine hK _ _ ((HS.out _).2 Hmw2.out) ?_; clear hK K
 (refine wpOrdZ_take rfl (by kernel_rfl) (fun K hK => ?_); go_simp; refine hK _ _ ?_; clear hK K)
 have HR : Hid (Blk w2 (w.heap.size + 1) (kv s) 113) := HB.out.2.1.more (Hmw2.out)
 have q0 := HR.out.cell (kv_at _ _ ha8).1
 have q1 := HR.out.cell (kv_at _ _ ha8).2
 have q2 := HR.out.frozen (a.toNat * 2)
 have q3 := HR.out.frozen (a.toNat * 2 + 1)
 obtain ⟨wz, Hwz⟩ : ∃ w_ : World, Hid (w_ = (w2.setCell ⟨w.heap.size + 1, a.toNat * 2, none⟩ (.int .i64 vb)).setCell ⟨w.heap.size + 1, a.toNat * 2 + 1, none⟩ (.bool vs)) := ⟨_, rfl⟩
 have F : Hid (Blk wz (w.heap.size + 1) (kv (setK s a (Kn.index (s b.toNat) n))) 113 ∧ Blk wz (w.heap.size + 1 + 1) (kv zeroK) 113 ∧ More w wz) := by
  rw [Hwz.out]
  refine ⟨?_, ((HB.out.2.2.1.more (Hmw2.out)).other (by omega) _ _).other (by omega) _ _, ((HB.out.2.2.2.trans (Hmw2.out)).setCell (by dsimp only; omega) _).setCell (by dsimp only; omega) _⟩
  rw [← Hx.out]
  exact HR.out.setK a vb vs ha8
 refine wpOrdZ_last rfl (by kernel_rfl) (by kernel_rfl) (fun K hK => ?_)
 go_simp
 rw [← Hwz.out]
 refine hK _ _ ?_
 clear hK K hne HS0 q0 q1 q2 q3 k0 k1 k2 k3 k4
 refine NoPanic.normal ?_
 obtain ⟨C, hC⟩ : ∃ C, kv (setK s a (Kn.index (s b.toNat) n)) = C := ⟨_, rfl⟩
 have HE : Hid (P (.returned (.agg C)) (wz.setRow (w.heap.size + 1 + 1) C)) := by
  have := HP.out (wz.setRow (w.heap.size + 1 + 1) C) (F.out.2.2.setRow (by omega) C)
  rw [hC] at this
  exact this
 have hb : wz.heap[w.heap.size + 1]? = some (.cells C 113 (0, 0)) := by
  have := F.out.1
  rw [hC] at this
  exact this
 have hr : wz.heap[w.heap.size + 1 + 1]? = some (.cells (kv zeroK) 113 (0, 0)) := F.out.2.1
 have hi : (Try.prog.info? 113).map (·.size) = some C.size := by rw [← hC]; exact info104k _
 have hold : (kv zeroK).size = C.size := by rw [← hC, kv_size, kv_size]
 have hone : C.all (·.oneCell') = true := by rw [← hC]; exact kv_one _
 clear HP
 go_wp2_with (first | (refine wpList_load_row rfl 113 (.tmp 5) rfl (w.heap.size + 1) rfl 113 _ (0, 0) _ hb Try.underlying113 rfl hi ?_) | (refine wpList_store_row rfl 113 (.tmp 6) (.tmp 87) rfl (w.heap.size + 1 + 1) _ rfl rfl 113 _ hr hi hold hone ?_))
 exact bodyPost_ret (results_cell_row rfl _ _ (w.heap.size + 1 + 1) 113 C (0, 0) _ rfl (setRow_heap _ _ _ _ _ _ hr) Try.underlying113 rfl hi) rfl HE.out

set_option maxHeartbeats 2000000 in
theorem behind_35 (ov_ : Int) (hov_ : ov_ = 3 ∨ ov_ = 5) (s : KS) (M : Nat) (a b c n : Int) (w : World) (rb ro rl rc : Nat) (log : Nat → Int) (sec : Nat → Bool) (hM : w.cell? ⟨M, 0, none⟩ = some (.slice (some ⟨rb, ro, none⟩) rl rc)) (hregs : RegsAt w rb ro rl log sec) (hc0 : 0 ≤ c) (hc1 : c < rl) (ha0 : 0 ≤ a) (ha1 : a < 8) :
  Calls Try.prog 78 #[.pointer (some ⟨M, 0, none⟩), .agg #[.int .i64 ov_, .int .i64 a, .int .i64 b, .int .i64 c, .int .i64 n], .agg (kv s)] w fun e w' => e = .returned (.agg (kv (setK s a ⟨17, sec c.toNat⟩))) ∧ More w w' := by
 suffices hP : ∀ P : Ending → World → Prop, (∀ w', More w w' → P (.returned (.agg (kv (setK s a ⟨17, sec c.toNat⟩)))) w') → Calls Try.prog 78 #[.pointer (some ⟨M, 0, none⟩), .agg #[.int .i64 ov_, .int .i64 a, .int .i64 b, .int .i64 c, .int .i64 n], .agg (kv s)] w P from hP _ (fun w' m => ⟨rfl, m⟩)
 intro P hP0
 have HP : Hid (∀ w', More w w' → P (.returned (.agg (kv (setK s a ⟨17, sec c.toNat⟩)))) w') := hP0
 clear hP0
 have HM : Hid (w.cell? ⟨M, 0, none⟩ = some (.slice (some ⟨rb, ro, none⟩) rl rc) ∧ RegsAt w rb ro rl log sec) := ⟨hM, hregs⟩
 clear hM hregs
 obtain ⟨W, HW⟩ : ∃ W : World, Hid (W = ((w.alloc (.cells #[.int .i64 ov_, .int .i64 a, .int .i64 b, .int .i64 c, .int .i64 n] 59)).alloc (.cells (kv s) 113)).alloc (.cells #[.int .i64 0, .bool false, .int .i64 0, .bool false, .int .i64 0, .bool false, .int .i64 0, .bool false, .int .i64 0, .bool false, .int .i64 0, .bool false, .int .i64 0, .bool false, .int .i64 0, .bool false] 113)) := ⟨_, rfl⟩
 have HB : Hid (Blk W w.heap.size #[.int .i64 ov_, .int .i64 a, .int .i64 b, .int .i64 c, .int .i64 n] 59 ∧ Blk W (w.heap.size + 1) (kv s) 113 ∧ Blk W (w.heap.size + 1 + 1) (kv zeroK) 113 ∧ More w W) := by
  rw [HW.out]
  refine ⟨((Blk.last _ _ _).alloc _ _).alloc _ _, (by simpa using Blk.last (w.alloc (.cells #[.int .i64 ov_, .int .i64 a, .int .i64 b, .int .i64 c, .int .i64 n] 59)) (kv s) 113 : Blk _ (w.heap.size + 1) _ _).alloc _ _, ?_, (((More.refl _).alloc _ _).alloc _ _).alloc _ _⟩
  rw [kv_zero]
  exact (by simpa using Blk.last ((w.alloc (.cells #[.int .i64 ov_, .int .i64 a, .int .i64 b, .int .i64 c, .int .i64 n] 59)).alloc (.cells (kv s) 113)) #[.int .i64 0, .bool false, .int .i64 0, .bool false, .int .i64 0, .bool false, .int .i64 0, .bool false, .int .i64 0, .bool false, .int .i64 0, .bool false, .int .i64 0, .bool false, .int .i64 0, .bool false] 113)
 obtain ⟨S, HS⟩ : ∃ S : World → Prop, Hid (∀ w', S w' ↔ More W w') := ⟨_, fun _ => Iff.rfl⟩
 have HS0 : S W.drew := (HS.out _).2 (More.refl _).drew
 have hne : Nonempty { w' // S w' } := ⟨⟨_, HS0⟩⟩
 have k0 : ∀ i : { w' // S w' }, i.val.cell? ⟨w.heap.size, 0, none⟩ = some (.int .i64 ov_) := fun i => (HB.out.1.more ((HS.out _).1 i.property)).cell rfl
 rcases hov_ with rfl | rfl
 all_goals
  have k1 : ∀ i : { w' // S w' }, i.val.cell? ⟨w.heap.size, 1, none⟩ = some (.int .i64 a) := fun i => (HB.out.1.more ((HS.out _).1 i.property)).cell rfl
  have k2 : ∀ i : { w' // S w' }, i.val.cell? ⟨w.heap.size, 2, none⟩ = some (.int .i64 b) := fun i => (HB.out.1.more ((HS.out _).1 i.property)).cell rfl
  have k3 : ∀ i : { w' // S w' }, i.val.cell? ⟨w.heap.size, 3, none⟩ = some (.int .i64 c) := fun i => (HB.out.1.more ((HS.out _).1 i.property)).cell rfl
  have k4 : ∀ i : { w' // S w' }, i.val.cell? ⟨w.heap.size, 4, none⟩ = some (.int .i64 n) := fun i => (HB.out.1.more ((HS.out _).1 i.property)).cell rfl
  have ha8 : a.toNat < 8 := by omega
  have hcr : c.toNat < rl := by omega
  have kM : ∀ i : { w' // S w' }, i.val.cell? ⟨M, 0, none⟩ = some (.slice (some ⟨rb, ro, none⟩) rl rc) := fun i => (HB.out.2.2.2.trans ((HS.out _).1 i.property)).cell HM.out.1
  obtain ⟨lg, hlg⟩ : ∃ x, log c.toNat = x := ⟨_, rfl⟩
  obtain ⟨vs, hvs⟩ : ∃ x, sec c.toNat = x := ⟨_, rfl⟩
  have kr0 : ∀ i : { w' // S w' }, i.val.cell? ⟨rb, ro + c.toNat * 2, none⟩ = some (.int .i64 lg) := fun i => hlg ▸ (HB.out.2.2.2.trans ((HS.out _).1 i.property)).cell (HM.out.2 _ hcr).1
  have kr1 : ∀ i : { w' // S w' }, i.val.cell? ⟨rb, ro + c.toNat * 2 + 1, none⟩ = some (.bool vs) := fun i => hvs ▸ (HB.out.2.2.2.trans ((HS.out _).1 i.property)).cell (HM.out.2 _ hcr).2
  have c2 : ∀ w : World, Calls Try.prog 90 #[.agg #[.int .i64 lg, .bool vs]] w fun e w' => e = .returned (kn 17 vs) ∧ More w w' := fun w => loaded_calls lg vs w
  have Hx : Hid (kv (setK s a ⟨17, vs⟩) = kv (setK s a ⟨17, sec c.toNat⟩)) := by rw [hvs]; exact rfl
  clear hvs hlg
  unfold kn at c2
  obtain ⟨cs, hcs⟩ : ∃ c, kv s = c := ⟨_, rfl⟩
  have hcs16 : cs.size = 16 := hcs ▸ kv_size s
  rw [hcs] at HW
  rw [hcs]
  clear hcs
  go_enter Try.func78, Try.ntmps78
  go_wp2_with (fail)
  rw [← HW.out]
  clear hcs16
  refine wp_region_last (S := S) [(0, true), (1, true), (2, true), (3, true), (4, true), (5, true), (6, true), (7, true), (8, true), (9, true), (10, true), (11, false), (12, true), (13, false)] (by kernel_rfl) (by kernel_rfl) (by kernel_rfl) HS0 ?_
  iterate 11 (refine wpOrdZ_take rfl (by kernel_rfl) (fun K hK => ?_); go_simp; refine hK _ _ ?_; clear hK K)
  refine wpOrdZ_busy rfl (by kernel_rfl) (fun K hK => ?_); go_simp
  refine (c2 _).mono ?_
  rintro e w2 ⟨rfl, m_⟩
  have Hmw2 : Hid (More W w2) := (More.refl W).drew.trans m_
  clear m_
  go_simp
  refine hK _ _ ((HS.out _).2 Hmw2.out) ?_; clear hK K
  (refine wpOrdZ_take rfl (by kernel_rfl) (fun K hK => ?_); go_simp; refine hK _ _ ?_; clear hK K)
  have HR : Hid (Blk w2 (w.heap.size + 1) (kv s) 113) := HB.out.2.1.more (Hmw2.out)
  have q0 := HR.out.cell (kv_at _ _ ha8).1
  have q1 := HR.out.cell (kv_at _ _ ha8).2
  have q2 := HR.out.frozen (a.toNat * 2)
  have q3 := HR.out.frozen (a.toNat * 2 + 1)
  obtain ⟨wz, Hwz⟩ : ∃ w_ : World, Hid (w_ = (w2.setCell ⟨w.heap.size + 1, a.toNat * 2, none⟩ (.int .i64 17)).setCell ⟨w.heap.size + 1, a.toNat * 2 + 1, none⟩ (.bool vs)) := ⟨_, rfl⟩
  have F : Hid (Blk wz (w.heap.size + 1) (kv (setK s a ⟨17, sec c.toNat⟩)) 113 ∧ Blk wz (w.heap.size + 1 + 1) (kv zeroK) 113 ∧ More w wz) := by
   rw [Hwz.out]
   refine ⟨?_, ((HB.out.2.2.1.more (Hmw2.out)).other (by omega) _ _).other (by omega) _ _, ((HB.out.2.2.2.trans (Hmw2.out)).setCell (by dsimp only; omega) _).setCell (by dsimp only; omega) _⟩
   rw [← Hx.out]
   exact HR.out.setK a 17 vs ha8
  refine wpOrdZ_last rfl (by kernel_rfl) (by kernel_rfl) (fun K hK => ?_)
  go_simp
  rw [← Hwz.out]
  refine hK _ _ ?_
  clear hK K hne HS0 q0 q1 q2 q3 k0 k1 k2 k3 k4 kM kr0 kr1
  refine NoPanic.normal ?_
  obtain ⟨C, hC⟩ : ∃ C, kv (setK s a ⟨17, sec c.toNat⟩) = C := ⟨_, rfl⟩
  have HE : Hid (P (.returned (.agg C)) (wz.setRow (w.heap.size + 1 + 1) C)) := by
   have := HP.out (wz.setRow (w.heap.size + 1 + 1) C) (F.out.2.2.setRow (by omega) C)
   rw [hC] at this
   exact this
  have hb : wz.heap[w.heap.size + 1]? = some (.cells C 113 (0, 0)) := by
   have := F.out.1
   rw [hC] at this
   exact this
  have hr : wz.heap[w.heap.size + 1 + 1]? = some (.cells (kv zeroK) 113 (0, 0)) := F.out.2.1
  have hi : (Try.prog.info? 113).map (·.size) = some C.size := by rw [← hC]; exact info104k _
  have hold : (kv zeroK).size = C.size := by rw [← hC, kv_size, kv_size]
  have hone : C.all (·.oneCell') = true := by rw [← hC]; exact kv_one _
  clear HP
  go_wp2_with (first | (refine wpList_load_row rfl 113 (.tmp 5) rfl (w.heap.size + 1) rfl 113 _ (0, 0) _ hb Try.underlying113 rfl hi ?_) | (refine wpList_store_row rfl 113 (.tmp 6) (.tmp 87) rfl (w.heap.size + 1 + 1) _ rfl rfl 113 _ hr hi hold hone ?_))
  exact bodyPost_ret (results_cell_row rfl _ _ (w.heap.size + 1 + 1) 113 C (0, 0) _ rfl (setRow_heap _ _ _ _ _ _ hr) Try.underlying113 rfl hi) rfl HE.out

set_option maxHeartbeats 2000000 in
theorem behind_11 (s : KS) (M : Nat) (a b c n : Int) (w : World) (ha0 : 0 ≤ a) (ha1 : a < 8) (n0 : 0 ≤ n) (n1 : n ≤ 9223372036854775807) :
  Calls Try.prog 78 #[.pointer (some ⟨M, 0, none⟩), .agg #[.int .i64 11, .int .i64 a, .int .i64 b, .int .i64 c, .int .i64 n], .agg (kv s)] w fun e w' => e = .returned (.agg (kv (setK s a (Kn.less (s a.toNat) (Kn.of (wrap64 (n - 1))))))) ∧ More w w' := by
 suffices hP : ∀ P : Ending → World → Prop, (∀ w', More w w' → P (.returned (.agg (kv (setK s a (Kn.less (s a.toNat) (Kn.of (wrap64 (n - 1)))))))) w') → Calls Try.prog 78 #[.pointer (some ⟨M, 0, none⟩), .agg #[.int .i64 11, .int .i64 a, .int .i64 b, .int .i64 c, .int .i64 n], .agg (kv s)] w P from hP _ (fun w' m => ⟨rfl, m⟩)
 intro P hP0
 have HP : Hid (∀ w', More w w' → P (.returned (.agg (kv (setK s a (Kn.less (s a.toNat) (Kn.of (wrap64 (n - 1)))))))) w') := hP0
 clear hP0
 obtain ⟨W, HW⟩ : ∃ W : World, Hid (W = ((w.alloc (.cells #[.int .i64 11, .int .i64 a, .int .i64 b, .int .i64 c, .int .i64 n] 59)).alloc (.cells (kv s) 113)).alloc (.cells #[.int .i64 0, .bool false, .int .i64 0, .bool false, .int .i64 0, .bool false, .int .i64 0, .bool false, .int .i64 0, .bool false, .int .i64 0, .bool false, .int .i64 0, .bool false, .int .i64 0, .bool false] 113)) := ⟨_, rfl⟩
 have HB : Hid (Blk W w.heap.size #[.int .i64 11, .int .i64 a, .int .i64 b, .int .i64 c, .int .i64 n] 59 ∧ Blk W (w.heap.size + 1) (kv s) 113 ∧ Blk W (w.heap.size + 1 + 1) (kv zeroK) 113 ∧ More w W) := by
  rw [HW.out]
  refine ⟨((Blk.last _ _ _).alloc _ _).alloc _ _, (by simpa using Blk.last (w.alloc (.cells #[.int .i64 11, .int .i64 a, .int .i64 b, .int .i64 c, .int .i64 n] 59)) (kv s) 113 : Blk _ (w.heap.size + 1) _ _).alloc _ _, ?_, (((More.refl _).alloc _ _).alloc _ _).alloc _ _⟩
  rw [kv_zero]
  exact (by simpa using Blk.last ((w.alloc (.cells #[.int .i64 11, .int .i64 a, .int .i64 b, .int .i64 c, .int .i64 n] 59)).alloc (.cells (kv s) 113)) #[.int .i64 0, .bool false, .int .i64 0, .bool false, .int .i64 0, .bool false, .int .i64 0, .bool false, .int .i64 0, .bool false, .int .i64 0, .bool false, .int .i64 0, .bool false, .int .i64 0, .bool false] 113)
 obtain ⟨S, HS⟩ : ∃ S : World → Prop, Hid (∀ w', S w' ↔ More W w') := ⟨_, fun _ => Iff.rfl⟩
 have HS0 : S W.drew := (HS.out _).2 (More.refl _).drew
 have hne : Nonempty { w' // S w' } := ⟨⟨_, HS0⟩⟩
 have k0 : ∀ i : { w' // S w' }, i.val.cell? ⟨w.heap.size, 0, none⟩ = some (.int .i64 11) := fun i => (HB.out.1.more ((HS.out _).1 i.property)).cell rfl
 have k1 : ∀ i : { w' // S w' }, i.val.cell? ⟨w.heap.size, 1, none⟩ = some (.int .i64 a) := fun i => (HB.out.1.more ((HS.out _).1 i.property)).cell rfl
 have k2 : ∀ i : { w' // S w' }, i.val.cell? ⟨w.heap.size, 2, none⟩ = some (.int .i64 b) := fun i => (HB.out.1.more ((HS.out _).1 i.property)).cell rfl
 have k3 : ∀ i : { w' // S w' }, i.val.cell? ⟨w.heap.size, 3, none⟩ = some (.int .i64 c) := fun i => (HB.out.1.more ((HS.out _).1 i.property)).cell rfl
 have k4 : ∀ i : { w' // S w' }, i.val.cell? ⟨w.heap.size, 4, none⟩ = some (.int .i64 n) := fun i => (HB.out.1.more ((HS.out _).1 i.property)).cell rfl
 have ha8 : a.toNat < 8 := by omega
 obtain ⟨xa, hxa⟩ : ∃ x, s a.toNat = x := ⟨_, rfl⟩
 have ka0 : ∀ i : { w' // S w' }, i.val.cell? ⟨w.heap.size + 1, a.toNat * 2, none⟩ = some (.int .i64 xa.b) := fun i => by rw [(HB.out.2.1.more ((HS.out _).1 i.property)).cell (kv_at _ _ ha8).1, hxa]
 have ka1 : ∀ i : { w' // S w' }, i.val.cell? ⟨w.heap.size + 1, a.toNat * 2 + 1, none⟩ = some (.bool xa.s) := fun i => by rw [(HB.out.2.1.more ((HS.out _).1 i.property)).cell (kv_at _ _ ha8).2, hxa]
 have hwr : IntKind.i64.wrap (n - 1) = n - 1 := by rw [IntKind.wrap_i64]; omega
 have hn2 : wrap64 (n - 1) = n - 1 := by unfold wrap64; omega
 obtain ⟨ov, hov⟩ : ∃ v, Kn.of (n - 1) = v := ⟨_, rfl⟩
 have c0 : ∀ w : World, Calls Try.prog 88 #[.int .i64 (n - 1)] w fun e w' => e = .returned (kn ov.b ov.s) ∧ More w w' := fun w => hov ▸ kof_calls (n - 1) w
 obtain ⟨v, hv⟩ : ∃ v, Kn.less xa ov = v := ⟨_, rfl⟩
 have c2 : ∀ w : World, Calls Try.prog 87 #[kn xa.b xa.s, kn ov.b ov.s] w fun e w' => e = .returned (kn v.b v.s) ∧ More w w' := fun w => hv ▸ less_calls xa.b ov.b xa.s ov.s w
 have Hx : Hid (kv (setK s a ⟨v.b, v.s⟩) = kv (setK s a (Kn.less (s a.toNat) (Kn.of (wrap64 (n - 1)))))) := by rw [hn2, hxa, hov, hv]; exact rfl
 clear hv hxa hov hn2
 obtain ⟨vb, vs⟩ := v
 obtain ⟨xab, xas⟩ := xa
 obtain ⟨ob, os⟩ := ov
 unfold kn at c0 c2
 dsimp only at c0 c2 ka0 ka1
 obtain ⟨cs, hcs⟩ : ∃ c, kv s = c := ⟨_, rfl⟩
 have hcs16 : cs.size = 16 := hcs ▸ kv_size s
 rw [hcs] at HW
 rw [hcs]
 clear hcs
 go_enter Try.func78, Try.ntmps78
 go_wp2_with (fail)
 rw [← HW.out]
 clear hcs16
 refine wp_region_last (S := S) [(0, true), (1, true), (2, true), (3, true), (4, true), (5, true), (6, true), (7, true), (8, true), (9, false), (10, false), (11, true), (12, false)] (by kernel_rfl) (by kernel_rfl) (by kernel_rfl) HS0 ?_
 iterate 9 (refine wpOrdZ_take rfl (by kernel_rfl) (fun K hK => ?_); go_simp; refine hK _ _ ?_; clear hK K)
 refine wpOrdZ_busy rfl (by kernel_rfl) (fun K hK => ?_); go_simp
 try rw [hwr]
 refine (c0 _).mono ?_
 rintro e w2 ⟨rfl, m_⟩
 have Hmw2 : Hid (More W w2) := (More.refl W).drew.trans m_
 clear m_
 go_simp
 refine hK _ _ ((HS.out _).2 Hmw2.out) ?_; clear hK K
 refine wpOrdZ_busy rfl (by kernel_rfl) (fun K hK => ?_); go_simp
 try rw [hwr]
 refine (c2 _).mono ?_
 rintro e w3 ⟨rfl, m_⟩
 have Hmw3 : Hid (More W w3) := Hmw2.out.trans m_
 clear m_
 go_simp
 refine hK _ _ ((HS.out _).2 Hmw3.out) ?_; clear hK K
 (refine wpOrdZ_take rfl (by kernel_rfl) (fun K hK => ?_); go_simp; refine hK _ _ ?_; clear hK K)
 have HR : Hid (Blk w3 (w.heap.size + 1) (kv s) 113) := HB.out.2.1.more (Hmw3.out)
 have q0 := HR.out.cell (kv_at _ _ ha8).1
 have q1 := HR.out.cell (kv_at _ _ ha8).2
 have q2 := HR.out.frozen (a.toNat * 2)
 have q3 := HR.out.frozen (a.toNat * 2 + 1)
 obtain ⟨wz, Hwz⟩ : ∃ w_ : World, Hid (w_ = (w3.setCell ⟨w.heap.size + 1, a.toNat * 2, none⟩ (.int .i64 vb)).setCell ⟨w.heap.size + 1, a.toNat * 2 + 1, none⟩ (.bool vs)) := ⟨_, rfl⟩
 have F : Hid (Blk wz (w.heap.size + 1) (kv (setK s a (Kn.less (s a.toNat) (Kn.of (wrap64 (n - 1)))))) 113 ∧ Blk wz (w.heap.size + 1 + 1) (kv zeroK) 113 ∧ More w wz) := by
  rw [Hwz.out]
  refine ⟨?_, ((HB.out.2.2.1.more (Hmw3.out)).other (by omega) _ _).other (by omega) _ _, ((HB.out.2.2.2.trans (Hmw3.out)).setCell (by dsimp only; omega) _).setCell (by dsimp only; omega) _⟩
  rw [← Hx.out]
  exact HR.out.setK a vb vs ha8
 refine wpOrdZ_last rfl (by kernel_rfl) (by kernel_rfl) (fun K hK => ?_)
 go_simp
 rw [← Hwz.out]
 refine hK _ _ ?_
 clear hK K hne HS0 q0 q1 q2 q3 k0 k1 k2 k3 k4
 refine NoPanic.normal ?_
 obtain ⟨C, hC⟩ : ∃ C, kv (setK s a (Kn.less (s a.toNat) (Kn.of (wrap64 (n - 1))))) = C := ⟨_, rfl⟩
 have HE : Hid (P (.returned (.agg C)) (wz.setRow (w.heap.size + 1 + 1) C)) := by
  have := HP.out (wz.setRow (w.heap.size + 1 + 1) C) (F.out.2.2.setRow (by omega) C)
  rw [hC] at this
  exact this
 have hb : wz.heap[w.heap.size + 1]? = some (.cells C 113 (0, 0)) := by
  have := F.out.1
  rw [hC] at this
  exact this
 have hr : wz.heap[w.heap.size + 1 + 1]? = some (.cells (kv zeroK) 113 (0, 0)) := F.out.2.1
 have hi : (Try.prog.info? 113).map (·.size) = some C.size := by rw [← hC]; exact info104k _
 have hold : (kv zeroK).size = C.size := by rw [← hC, kv_size, kv_size]
 have hone : C.all (·.oneCell') = true := by rw [← hC]; exact kv_one _
 clear HP
 go_wp2_with (first | (refine wpList_load_row rfl 113 (.tmp 5) rfl (w.heap.size + 1) rfl 113 _ (0, 0) _ hb Try.underlying113 rfl hi ?_) | (refine wpList_store_row rfl 113 (.tmp 6) (.tmp 87) rfl (w.heap.size + 1 + 1) _ rfl rfl 113 _ hr hi hold hone ?_))
 exact bodyPost_ret (results_cell_row rfl _ _ (w.heap.size + 1 + 1) 113 C (0, 0) _ rfl (setRow_heap _ _ _ _ _ _ hr) Try.underlying113 rfl hi) rfl HE.out

set_option maxHeartbeats 2000000 in
theorem behind_op (s : KS) (M : Nat) (op a b c n : Int) (w : World) (ho0 : 21 ≤ op) (ho1 : op ≤ 30) (ha0 : 0 ≤ a) (ha1 : a < 8) (hb0 : 0 ≤ b) (hb1 : b < 8) (hc0 : 0 ≤ c) (hc1 : c < 8) :
  Calls Try.prog 78 #[.pointer (some ⟨M, 0, none⟩), .agg #[.int .i64 op, .int .i64 a, .int .i64 b, .int .i64 c, .int .i64 n], .agg (kv s)] w fun e w' => e = .returned (.agg (kv (setK s a (Kn.op (op - 20) (s b.toNat) (s c.toNat))))) ∧ More w w' := by
 suffices hP : ∀ P : Ending → World → Prop, (∀ w', More w w' → P (.returned (.agg (kv (setK s a (Kn.op (op - 20) (s b.toNat) (s c.toNat)))))) w') → Calls Try.prog 78 #[.pointer (some ⟨M, 0, none⟩), .agg #[.int .i64 op, .int .i64 a, .int .i64 b, .int .i64 c, .int .i64 n], .agg (kv s)] w P from hP _ (fun w' m => ⟨rfl, m⟩)
 intro P hP0
 have HP : Hid (∀ w', More w w' → P (.returned (.agg (kv (setK s a (Kn.op (op - 20) (s b.toNat) (s c.toNat)))))) w') := hP0
 clear hP0
 have e1 : (op == 1) = false := by simp; omega
 have e2 : (op == 2) = false := by simp; omega
 have e10 : (op == 10) = false := by simp; omega
 have e3 : (op == 3) = false := by simp; omega
 have e5 : (op == 5) = false := by simp; omega
 have e11 : (op == 11) = false := by simp; omega
 have e4 : (op == 4) = false := by simp; omega
 have e6 : (op == 6) = false := by simp; omega
 have e12 : (op == 12) = false := by simp; omega
 obtain ⟨W, HW⟩ : ∃ W : World, Hid (W = ((w.alloc (.cells #[.int .i64 op, .int .i64 a, .int .i64 b, .int .i64 c, .int .i64 n] 59)).alloc (.cells (kv s) 113)).alloc (.cells #[.int .i64 0, .bool false, .int .i64 0, .bool false, .int .i64 0, .bool false, .int .i64 0, .bool false, .int .i64 0, .bool false, .int .i64 0, .bool false, .int .i64 0, .bool false, .int .i64 0, .bool false] 113)) := ⟨_, rfl⟩
 have HB : Hid (Blk W w.heap.size #[.int .i64 op, .int .i64 a, .int .i64 b, .int .i64 c, .int .i64 n] 59 ∧ Blk W (w.heap.size + 1) (kv s) 113 ∧ Blk W (w.heap.size + 1 + 1) (kv zeroK) 113 ∧ More w W) := by
  rw [HW.out]
  refine ⟨((Blk.last _ _ _).alloc _ _).alloc _ _, (by simpa using Blk.last (w.alloc (.cells #[.int .i64 op, .int .i64 a, .int .i64 b, .int .i64 c, .int .i64 n] 59)) (kv s) 113 : Blk _ (w.heap.size + 1) _ _).alloc _ _, ?_, (((More.refl _).alloc _ _).alloc _ _).alloc _ _⟩
  rw [kv_zero]
  exact (by simpa using Blk.last ((w.alloc (.cells #[.int .i64 op, .int .i64 a, .int .i64 b, .int .i64 c, .int .i64 n] 59)).alloc (.cells (kv s) 113)) #[.int .i64 0, .bool false, .int .i64 0, .bool false, .int .i64 0, .bool false, .int .i64 0, .bool false, .int .i64 0, .bool false, .int .i64 0, .bool false, .int .i64 0, .bool false, .int .i64 0, .bool false] 113)
 obtain ⟨S, HS⟩ : ∃ S : World → Prop, Hid (∀ w', S w' ↔ More W w') := ⟨_, fun _ => Iff.rfl⟩
 have HS0 : S W.drew := (HS.out _).2 (More.refl _).drew
 have hne : Nonempty { w' // S w' } := ⟨⟨_, HS0⟩⟩
 have k0 : ∀ i : { w' // S w' }, i.val.cell? ⟨w.heap.size, 0, none⟩ = some (.int .i64 op) := fun i => (HB.out.1.more ((HS.out _).1 i.property)).cell rfl
 have k1 : ∀ i : { w' // S w' }, i.val.cell? ⟨w.heap.size, 1, none⟩ = some (.int .i64 a) := fun i => (HB.out.1.more ((HS.out _).1 i.property)).cell rfl
 have k2 : ∀ i : { w' // S w' }, i.val.cell? ⟨w.heap.size, 2, none⟩ = some (.int .i64 b) := fun i => (HB.out.1.more ((HS.out _).1 i.property)).cell rfl
 have k3 : ∀ i : { w' // S w' }, i.val.cell? ⟨w.heap.size, 3, none⟩ = some (.int .i64 c) := fun i => (HB.out.1.more ((HS.out _).1 i.property)).cell rfl
 have k4 : ∀ i : { w' // S w' }, i.val.cell? ⟨w.heap.size, 4, none⟩ = some (.int .i64 n) := fun i => (HB.out.1.more ((HS.out _).1 i.property)).cell rfl
 have ha8 : a.toNat < 8 := by omega
 obtain ⟨xb, hxb⟩ : ∃ x, s b.toNat = x := ⟨_, rfl⟩
 have hb8 : b.toNat < 8 := by omega
 have kb0 : ∀ i : { w' // S w' }, i.val.cell? ⟨w.heap.size + 1, b.toNat * 2, none⟩ = some (.int .i64 xb.b) := fun i => by rw [(HB.out.2.1.more ((HS.out _).1 i.property)).cell (kv_at _ _ hb8).1, hxb]
 have kb1 : ∀ i : { w' // S w' }, i.val.cell? ⟨w.heap.size + 1, b.toNat * 2 + 1, none⟩ = some (.bool xb.s) := fun i => by rw [(HB.out.2.1.more ((HS.out _).1 i.property)).cell (kv_at _ _ hb8).2, hxb]
 obtain ⟨xc, hxc⟩ : ∃ x, s c.toNat = x := ⟨_, rfl⟩
 have hc8 : c.toNat < 8 := by omega
 have kc0 : ∀ i : { w' // S w' }, i.val.cell? ⟨w.heap.size + 1, c.toNat * 2, none⟩ = some (.int .i64 xc.b) := fun i => by rw [(HB.out.2.1.more ((HS.out _).1 i.property)).cell (kv_at _ _ hc8).1, hxc]
 have kc1 : ∀ i : { w' // S w' }, i.val.cell? ⟨w.heap.size + 1, c.toNat * 2 + 1, none⟩ = some (.bool xc.s) := fun i => by rw [(HB.out.2.1.more ((HS.out _).1 i.property)).cell (kv_at _ _ hc8).2, hxc]
 have hwr : IntKind.i64.wrap (op - 20) = op - 20 := by rw [IntKind.wrap_i64]; omega
 obtain ⟨v, hv⟩ : ∃ v, Kn.op (op - 20) xb xc = v := ⟨_, rfl⟩
 have c2 : ∀ w : World, Calls Try.prog 91 #[.int .i64 (op - 20), kn xb.b xb.s, kn xc.b xc.s] w fun e w' => e = .returned (kn v.b v.s) ∧ More w w' := fun w => hv ▸ known_op_calls (op - 20) xb.b xc.b xb.s xc.s w
 have Hx : Hid (kv (setK s a ⟨v.b, v.s⟩) = kv (setK s a (Kn.op (op - 20) (s b.toNat) (s c.toNat)))) := by rw [hxb, hxc, hv]; exact rfl
 clear hv hxb hxc
 obtain ⟨vb, vs⟩ := v
 obtain ⟨xbb, xbs⟩ := xb
 obtain ⟨xcb, xcs⟩ := xc
 unfold kn at c2
 dsimp only at c2 kb0 kb1 kc0 kc1
 obtain ⟨cs, hcs⟩ : ∃ c, kv s = c := ⟨_, rfl⟩
 have hcs16 : cs.size = 16 := hcs ▸ kv_size s
 rw [hcs] at HW
 rw [hcs]
 clear hcs
 go_enter Try.func78, Try.ntmps78
 go_wp2_with (fail)
 rw [← HW.out]
 clear hcs16
 refine wp_region_last (S := S) [(0, true), (1, true), (2, true), (3, true), (4, true), (5, true), (6, true), (7, true), (8, true), (9, true), (10, true), (11, true), (12, true), (13, false), (14, true), (15, false)] (by kernel_rfl) (by kernel_rfl) (by kernel_rfl) HS0 ?_
 iterate 13 (refine wpOrdZ_take rfl (by kernel_rfl) (fun K hK => ?_); go_simp; refine hK _ _ ?_; clear hK K)
 refine wpOrdZ_busy rfl (by kernel_rfl) (fun K hK => ?_); go_simp
 try rw [hwr]
 refine (c2 _).mono ?_
 rintro e w2 ⟨rfl, m_⟩
 have Hmw2 : Hid (More W w2) := (More.refl W).drew.trans m_
 clear m_
 go_simp
 refine hK _ _ ((HS.out _).2 Hmw2.out) ?_; clear hK K
 (refine wpOrdZ_take rfl (by kernel_rfl) (fun K hK => ?_); go_simp; refine hK _ _ ?_; clear hK K)
 have HR : Hid (Blk w2 (w.heap.size + 1) (kv s) 113) := HB.out.2.1.more (Hmw2.out)
 have q0 := HR.out.cell (kv_at _ _ ha8).1
 have q1 := HR.out.cell (kv_at _ _ ha8).2
 have q2 := HR.out.frozen (a.toNat * 2)
 have q3 := HR.out.frozen (a.toNat * 2 + 1)
 obtain ⟨wz, Hwz⟩ : ∃ w_ : World, Hid (w_ = (w2.setCell ⟨w.heap.size + 1, a.toNat * 2, none⟩ (.int .i64 vb)).setCell ⟨w.heap.size + 1, a.toNat * 2 + 1, none⟩ (.bool vs)) := ⟨_, rfl⟩
 have F : Hid (Blk wz (w.heap.size + 1) (kv (setK s a (Kn.op (op - 20) (s b.toNat) (s c.toNat)))) 113 ∧ Blk wz (w.heap.size + 1 + 1) (kv zeroK) 113 ∧ More w wz) := by
  rw [Hwz.out]
  refine ⟨?_, ((HB.out.2.2.1.more (Hmw2.out)).other (by omega) _ _).other (by omega) _ _, ((HB.out.2.2.2.trans (Hmw2.out)).setCell (by dsimp only; omega) _).setCell (by dsimp only; omega) _⟩
  rw [← Hx.out]
  exact HR.out.setK a vb vs ha8
 refine wpOrdZ_last rfl (by kernel_rfl) (by kernel_rfl) (fun K hK => ?_)
 go_simp
 rw [← Hwz.out]
 refine hK _ _ ?_
 clear hK K hne HS0 q0 q1 q2 q3 k0 k1 k2 k3 k4
 refine NoPanic.normal ?_
 obtain ⟨C, hC⟩ : ∃ C, kv (setK s a (Kn.op (op - 20) (s b.toNat) (s c.toNat))) = C := ⟨_, rfl⟩
 have HE : Hid (P (.returned (.agg C)) (wz.setRow (w.heap.size + 1 + 1) C)) := by
  have := HP.out (wz.setRow (w.heap.size + 1 + 1) C) (F.out.2.2.setRow (by omega) C)
  rw [hC] at this
  exact this
 have hb : wz.heap[w.heap.size + 1]? = some (.cells C 113 (0, 0)) := by
  have := F.out.1
  rw [hC] at this
  exact this
 have hr : wz.heap[w.heap.size + 1 + 1]? = some (.cells (kv zeroK) 113 (0, 0)) := F.out.2.1
 have hi : (Try.prog.info? 113).map (·.size) = some C.size := by rw [← hC]; exact info104k _
 have hold : (kv zeroK).size = C.size := by rw [← hC, kv_size, kv_size]
 have hone : C.all (·.oneCell') = true := by rw [← hC]; exact kv_one _
 clear HP
 go_wp2_with (first | (refine wpList_load_row rfl 113 (.tmp 5) rfl (w.heap.size + 1) rfl 113 _ (0, 0) _ hb Try.underlying113 rfl hi ?_) | (refine wpList_store_row rfl 113 (.tmp 6) (.tmp 87) rfl (w.heap.size + 1 + 1) _ rfl rfl 113 _ hr hi hold hone ?_))
 exact bodyPost_ret (results_cell_row rfl _ _ (w.heap.size + 1 + 1) 113 C (0, 0) _ rfl (setRow_heap _ _ _ _ _ _ hr) Try.underlying113 rfl hi) rfl HE.out

set_option maxHeartbeats 2000000 in
theorem behind_46 (ov_ : Int) (hov_ : ov_ = 4 ∨ ov_ = 6 ∨ ov_ = 12) (s : KS) (M : Nat) (a b c n : Int) (w : World) :
  Calls Try.prog 78 #[.pointer (some ⟨M, 0, none⟩), .agg #[.int .i64 ov_, .int .i64 a, .int .i64 b, .int .i64 c, .int .i64 n], .agg (kv s)] w fun e w' => e = .returned (.agg (kv (s))) ∧ More w w' := by
 suffices hP : ∀ P : Ending → World → Prop, (∀ w', More w w' → P (.returned (.agg (kv (s)))) w') → Calls Try.prog 78 #[.pointer (some ⟨M, 0, none⟩), .agg #[.int .i64 ov_, .int .i64 a, .int .i64 b, .int .i64 c, .int .i64 n], .agg (kv s)] w P from hP _ (fun w' m => ⟨rfl, m⟩)
 intro P hP0
 have HP : Hid (∀ w', More w w' → P (.returned (.agg (kv (s)))) w') := hP0
 clear hP0
 obtain ⟨W, HW⟩ : ∃ W : World, Hid (W = ((w.alloc (.cells #[.int .i64 ov_, .int .i64 a, .int .i64 b, .int .i64 c, .int .i64 n] 59)).alloc (.cells (kv s) 113)).alloc (.cells #[.int .i64 0, .bool false, .int .i64 0, .bool false, .int .i64 0, .bool false, .int .i64 0, .bool false, .int .i64 0, .bool false, .int .i64 0, .bool false, .int .i64 0, .bool false, .int .i64 0, .bool false] 113)) := ⟨_, rfl⟩
 have HB : Hid (Blk W w.heap.size #[.int .i64 ov_, .int .i64 a, .int .i64 b, .int .i64 c, .int .i64 n] 59 ∧ Blk W (w.heap.size + 1) (kv s) 113 ∧ Blk W (w.heap.size + 1 + 1) (kv zeroK) 113 ∧ More w W) := by
  rw [HW.out]
  refine ⟨((Blk.last _ _ _).alloc _ _).alloc _ _, (by simpa using Blk.last (w.alloc (.cells #[.int .i64 ov_, .int .i64 a, .int .i64 b, .int .i64 c, .int .i64 n] 59)) (kv s) 113 : Blk _ (w.heap.size + 1) _ _).alloc _ _, ?_, (((More.refl _).alloc _ _).alloc _ _).alloc _ _⟩
  rw [kv_zero]
  exact (by simpa using Blk.last ((w.alloc (.cells #[.int .i64 ov_, .int .i64 a, .int .i64 b, .int .i64 c, .int .i64 n] 59)).alloc (.cells (kv s) 113)) #[.int .i64 0, .bool false, .int .i64 0, .bool false, .int .i64 0, .bool false, .int .i64 0, .bool false, .int .i64 0, .bool false, .int .i64 0, .bool false, .int .i64 0, .bool false, .int .i64 0, .bool false] 113)
 rcases hov_ with rfl | rfl | rfl
 all_goals
  obtain ⟨cs, hcs⟩ : ∃ c, kv s = c := ⟨_, rfl⟩
  have hcs16 : cs.size = 16 := hcs ▸ kv_size s
  rw [hcs] at HW
  rw [hcs]
  clear hcs
  obtain ⟨C, hC⟩ : ∃ C, kv (s) = C := ⟨_, rfl⟩
  have HE : Hid (P (.returned (.agg C)) (W.setRow (w.heap.size + 1 + 1) C)) := by
   have := HP.out (W.setRow (w.heap.size + 1 + 1) C) (HB.out.2.2.2.setRow (by omega) C)
   rw [hC] at this
   exact this
  have hb : W.heap[w.heap.size + 1]? = some (.cells C 113 (0, 0)) := by
   have := HB.out.2.1
   rw [hC] at this
   exact this
  have hr : W.heap[w.heap.size + 1 + 1]? = some (.cells (kv zeroK) 113 (0, 0)) := HB.out.2.2.1
  have hi : (Try.prog.info? 113).map (·.size) = some C.size := by rw [← hC]; exact info104k _
  have hold : (kv zeroK).size = C.size := by rw [← hC, kv_size, kv_size]
  have hone : C.all (·.oneCell') = true := by rw [← hC]; exact kv_one _
  clear HP
  go_enter Try.func78, Try.ntmps78
  go_wp2_with (first | (rw [← HW.out]; refine wpList_load_row rfl 113 (.tmp 5) rfl (w.heap.size + 1) rfl 113 _ (0, 0) _ hb Try.underlying113 rfl hi ?_) | (refine wpList_store_row rfl 113 (.tmp 6) (.tmp 87) rfl (w.heap.size + 1 + 1) _ rfl rfl 113 _ hr hi hold hone ?_))
  exact bodyPost_ret (results_cell_row rfl _ _ (w.heap.size + 1 + 1) 113 C (0, 0) _ rfl (setRow_heap _ _ _ _ _ _ hr) Try.underlying113 rfl hi) rfl HE.out

theorem behind_calls (p : Prg) (s : KS) (M : Nat) (lo : Loc) (i : Ins) (w : World) (hM : w.cell? ⟨M, 0, none⟩ = some (.slice lo.ra p.rl lo.rc)) (hp : PIn w p lo) (hi : InsOk p.rl p.log p.cl 8 i) (hn : -9223372036854775808 ≤ i.n ∧ i.n ≤ 9223372036854775807)
  (h7 : ¬ i.op = 7) (h8 : ¬ i.op = 8) (h9 : ¬ i.op = 9) :
  Calls Try.prog 78 #[.pointer (some ⟨M, 0, none⟩), .agg #[.int .i64 i.op, .int .i64 i.a, .int .i64 i.b, .int .i64 i.c, .int .i64 i.n], .agg (kv s)] w fun e w' => e = .returned (.agg (kv (nextK p i s))) ∧ More w w' := by
 obtain ⟨op, a, b, c, n⟩ := i
 dsimp only at *
 unfold InsOk Reg Rgn Plc Wrd at hi
 dsimp only at hi
 by_cases h1 : op = 1
 ·subst h1
  simp at hi
  exact behind_1 s M a b c n w (by omega) (by omega)
 by_cases h2 : op = 2
 ·subst h2
  simp at hi
  exact behind_2 s M a b c n w (by omega) (by omega) (by omega) (by omega)
 by_cases h10 : op = 10
 ·subst h10
  simp at hi
  exact behind_10 s M a b c n w (by omega) (by omega) (by omega) (by omega) hn.1 hn.2
 by_cases h3 : op = 3
 ·subst h3
  simp at hi
  rw [hp.hr (by omega)] at hM
  exact behind_35 3 (by decide) s M a b c n w lo.rb lo.ro p.rl lo.rc p.log p.sec hM hp.regs (by omega) (by omega) (by omega) (by omega)
 by_cases h5 : op = 5
 ·subst h5
  simp at hi
  rw [hp.hr (by omega)] at hM
  exact behind_35 5 (by decide) s M a b c n w lo.rb lo.ro p.rl lo.rc p.log p.sec hM hp.regs (by omega) (by omega) (by omega) (by omega)
 by_cases h11 : op = 11
 ·subst h11
  simp at hi
  exact behind_11 s M a b c n w (by omega) (by omega) (by omega) (by omega)
 by_cases h4 : op = 4
 ·subst h4; exact behind_46 4 (by decide) s M a b c n w
 by_cases h6 : op = 6
 ·subst h6; exact behind_46 6 (by decide) s M a b c n w
 by_cases h12 : op = 12
 ·subst h12; exact behind_46 12 (by decide) s M a b c n w
 ·have e : nextK p ⟨op, a, b, c, n⟩ s = setK s a (Kn.op (op - 20) (s b.toNat) (s c.toNat)) := by
   unfold nextK
   dsimp only
   rw [if_neg h1, if_neg h2, if_neg h10, if_neg (by omega), if_neg h11, if_neg (by omega)]
  rw [e]
  simp [h1, h2, h3, h4, h5, h6, h7, h8, h9, h10, h11, h12] at hi
  exact behind_op s M op a b c n w (by omega) (by omega) (by omega) (by omega) (by omega) (by omega) (by omega) (by omega)
/-- One lead behind the other. -/
def ComeL (p : Prg) : List (Nat × KS) → KV → List Nat → KV → List Nat → Prop
 | [], l, td, l', td' => l' = l ∧ td' = td
 | x :: R, l, td, l', td' => ∃ l1 td1, ComeK p l td x l1 td1 ∧ ComeL p R l1 td1 l' td'
theorem ComeK.len {p : Prg} {l l' : KV} {td td' : List Nat} {x : Nat × KS} (h : ComeK p l td x l' td') : td'.length ≤ td.length + 1 := by
 rcases h with ⟨_, _, rfl⟩ | ⟨_, _, _, rfl⟩ | ⟨_, _, _, rfl⟩
 ·omega
 ·omega
 ·simp

theorem info67 : (Try.prog.info? 59).map (·.size) = some 5 := by kernel_rfl
theorem yes_wh (i : Ins) (s : KS) (h : i.c = 1 ∨ i.c = 2 ∨ i.c = 3 ∨ i.c = 4) : whK i.c i.a i.b s = yesK i s := by
 unfold whK yesK bothK firstK secondK
 rcases h with h | h | h | h <;> simp [h]
theorem no_wh (i : Ins) (s : KS) (h : i.c = 1 ∨ i.c = 2 ∨ i.c = 3 ∨ i.c = 4) : whK (oppI i.c) i.a i.b s = noK i s := by
 unfold whK noK bothK firstK secondK oppI
 rcases h with h | h | h | h <;> simp [h]
theorem opp_in (c : Int) (h : c = 1 ∨ c = 2 ∨ c = 3 ∨ c = 4) : oppI c = 1 ∨ oppI c = 2 ∨ oppI c = 3 ∨ oppI c = 4 := by
 unfold oppI
 rcases h with h | h | h | h <;> simp [h]

/-- Where lead stands ahead of the stores of its two boxes. -/
structure LdB (w : World) (g4 g5 : Nat) (w' : World) : Prop where
 b4 : Blk w' g4 #[.int .i64 0, .int .i64 0, .int .i64 0, .int .i64 0, .int .i64 0] 59
 b5 : Blk w' g5 (kv zeroK) 113
 up : More w w'
 lt4 : w.heap.size ≤ g4
 lt5 : w.heap.size ≤ g5
 ne : g4 ≠ g5
/-- Its two boxes. -/
structure LdF (g4 g5 : Nat) (i : Ins) (s : KS) (w' : World) : Prop where
 b4 : Blk w' g4 #[.int .i64 i.op, .int .i64 i.a, .int .i64 i.b, .int .i64 i.c, .int .i64 i.n] 59
 b5 : Blk w' g5 (kv s) 113
theorem LdF.keeps {g4 g5 : Nat} {i : Ins} {s : KS} {w w' : World} (h : LdF g4 g5 i s w) (k : Keeps w w') : LdF g4 g5 i s w' := ⟨k _ _ _ (by decide) (by decide) (by decide) h.b4, k _ _ _ (by decide) (by decide) (by decide) h.b5⟩
theorem LdF.more {g4 g5 : Nat} {i : Ins} {s : KS} {w w' : World} (h : LdF g4 g5 i s w) (k : More w w') : LdF g4 g5 i s w' := h.keeps (Keeps.of k)

set_option maxHeartbeats 4000000 in
theorem lead_all {w0 : World} {p : Prg} {lo : Loc} {M B : Nat} {l : KV} {td : List Nat} {tv : Value} {w : World} (h : Ck w0 p lo M B l td tv w) (hcl : p.cl ≤ 200) (hn : td.length ≤ 99990) (at_ : Nat) (hat : at_ < p.cl) (s : KS) (hl : l at_ = some s) (op a b c n : Int) (hin : p.ins at_ = ⟨op, a, b, c, n⟩) (hok : InsOk p.rl p.log p.cl 8 ⟨op, a, b, c, n⟩) (n0 : -9223372036854775808 ≤ n) (n1 : n ≤ 9223372036854775807) :
  Calls Try.prog 61 #[.pointer (some ⟨M, 0, none⟩), .int .i64 at_] w fun e w' => e = .returned (.tuple #[]) ∧ Keeps w w' ∧ ∃ l' td' tv', ComeL p (leadsK p at_ s) l td l' td' ∧ Ck w0 p lo M B l' td' tv' w' := by
 suffices hP : ∀ P : Ending → World → Prop, (∀ l' td' tv' w', ComeL p (leadsK p at_ s) l td l' td' → Ck w0 p lo M B l' td' tv' w' → Keeps w w' → P (.returned (.tuple #[])) w') → Calls Try.prog 61 #[.pointer (some ⟨M, 0, none⟩), .int .i64 at_] w P from hP _ (fun l' td' tv' w' a b c => ⟨rfl, c, l', td', tv', a, b⟩)
 intro P hP0
 have HP : Hid (∀ l' td' tv' w', ComeL p (leadsK p at_ s) l td l' td' → Ck w0 p lo M B l' td' tv' w' → Keeps w w' → P (.returned (.tuple #[])) w') := hP0
 clear hP0
 have Hck : Hid (Ck w0 p lo M B l td tv w) := h
 have m1 : w.cell? ⟨M, 1, none⟩ = some (.slice lo.ca p.cl lo.cc) := h.box.cell (j := 1) rfl
 have m2 : w.cell? ⟨M, 2, none⟩ = some (.slice (some ⟨B, 0, none⟩) p.cl p.cl) := h.box.cell (j := 2) rfl
 rw [h.pin.hc (by omega)] at m1
 have hcode := h.pinw.code at_ hat
 rw [hin] at hcode
 dsimp only at hcode
 obtain ⟨q0, q1, q2, q3, q4⟩ := hcode
 have Hpl : Hid (∀ w', More w w' → ∀ j v, (kv s)[j]? = some v → w'.cell? ⟨B, at_ * 17 + j, none⟩ = some v) := fun w' m => (h.more m).pl.regs hat hl
 have HN : Hid (td.length ≤ 99990 ∧ p.cl ≤ 200 ∧ at_ < p.cl ∧ p.ins at_ = ⟨op, a, b, c, n⟩) := ⟨hn, hcl, hat, hin⟩
 have hiC := info104k s
 have hone : (kv s).all (·.oneCell') = true := kv_one s
 have hz16 : (kv zeroK).size = (kv s).size := by rw [kv_size, kv_size]
 clear h hn hl hin
 have Hok : Hid (InsOk p.rl p.log p.cl 8 ⟨op, a, b, c, n⟩) := hok
 clear hok
 obtain ⟨C, hC⟩ : ∃ c, kv s = c := ⟨_, rfl⟩
 have HC : Hid (kv s = C) := hC
 rw [hC] at Hpl hiC hone hz16
 clear hC
 obtain ⟨cl, Hcl⟩ : ∃ x, Hid (p.cl = x) := ⟨_, rfl⟩
 rw [Hcl.out] at m1 m2 hat hcl
 have hi1 : ((at_ : Int) < cl) := by omega
 have hi2 : ((cl : Int) ≤ 200) := by omega
 obtain ⟨cb, Hcb⟩ : ∃ x, Hid (lo.cb = x) := ⟨_, rfl⟩
 obtain ⟨co, Hco⟩ : ∃ x, Hid (lo.co = x) := ⟨_, rfl⟩
 obtain ⟨cc, Hcc⟩ : ∃ x, Hid (lo.cc = x) := ⟨_, rfl⟩
 rw [Hcb.out, Hco.out] at m1 q0 q1 q2 q3 q4
 rw [Hcc.out] at m1
 obtain ⟨S, HS⟩ : ∃ S : World → Prop, Hid (∀ w', S w' ↔ More w w') := ⟨_, fun _ => Iff.rfl⟩
 have HS0 : S w.drew := (HS.out _).2 (More.refl _).drew
 have hne : Nonempty { w' // S w' } := ⟨⟨_, HS0⟩⟩
 have k1 : ∀ i : { w' // S w' }, i.val.cell? ⟨M, 1, none⟩ = some (.slice (some ⟨cb, co, none⟩) cl cc) := fun i => ((HS.out _).1 i.property).cell m1
 have k2 : ∀ i : { w' // S w' }, i.val.cell? ⟨M, 2, none⟩ = some (.slice (some ⟨B, 0, none⟩) cl cl) := fun i => ((HS.out _).1 i.property).cell m2
 have j0 : ∀ i : { w' // S w' }, i.val.cell? ⟨cb, co + at_ * 5, none⟩ = some (.int .i64 op) := fun i => ((HS.out _).1 i.property).cell q0
 have j1 : ∀ i : { w' // S w' }, i.val.cell? ⟨cb, co + at_ * 5 + 1, none⟩ = some (.int .i64 a) := fun i => ((HS.out _).1 i.property).cell q1
 have j2 : ∀ i : { w' // S w' }, i.val.cell? ⟨cb, co + at_ * 5 + 2, none⟩ = some (.int .i64 b) := fun i => ((HS.out _).1 i.property).cell q2
 have j3 : ∀ i : { w' // S w' }, i.val.cell? ⟨cb, co + at_ * 5 + 3, none⟩ = some (.int .i64 c) := fun i => ((HS.out _).1 i.property).cell q3
 have j4 : ∀ i : { w' // S w' }, i.val.cell? ⟨cb, co + at_ * 5 + 4, none⟩ = some (.int .i64 n) := fun i => ((HS.out _).1 i.property).cell q4
 clear m1 m2 q0 q1 q2 q3 q4
 go_enter Try.func61, Try.ntmps61
 go_wp2_with (fail)
 refine wp_region_left (S := S) (by kernel_rfl) HS0 ?_
 refine ol_take 0 rfl (by kernel_rfl) HS0 (by kernel_rfl) (fun K hK => ?_); go_simp; refine hK _ _ ?_; clear hK K
 refine ol_take 1 rfl (by kernel_rfl) HS0 (by kernel_rfl) (fun K hK => ?_); go_simp; refine hK _ _ ?_; clear hK K
 refine ol_take 2 rfl (by kernel_rfl) HS0 (by kernel_rfl) (fun K hK => ?_); go_simp; refine hK _ _ ?_; clear hK K
 refine ol_take 3 rfl (by kernel_rfl) HS0 (by kernel_rfl) (fun K hK => ?_); go_simp; refine hK _ _ ?_; clear hK K
 refine ol_take 4 rfl (by kernel_rfl) HS0 (by kernel_rfl) (fun K hK => ?_); go_simp; refine hK _ _ ?_; clear hK K
 refine ol_take 5 rfl (by kernel_rfl) HS0 (by kernel_rfl) (fun K hK => ?_); go_simp; refine hK _ _ ?_; clear hK K
 refine ol_take 6 rfl (by kernel_rfl) HS0 (by kernel_rfl) (fun K hK => ?_); go_simp; refine hK _ _ ?_; clear hK K
 refine ol_take 7 rfl (by kernel_rfl) HS0 (by kernel_rfl) (fun K hK => ?_); go_simp; refine hK _ _ ?_; clear hK K
 refine ol_take 8 rfl (by kernel_rfl) HS0 (by kernel_rfl) (fun K hK => ?_); go_simp; refine hK _ _ ?_; clear hK K
 refine ol_take 9 rfl (by kernel_rfl) HS0 (by kernel_rfl) (fun K hK => ?_); go_simp; refine hK _ _ ?_; clear hK K
 refine ol_take 10 rfl (by kernel_rfl) HS0 (by kernel_rfl) (fun K hK => ?_); go_simp; refine hK _ _ ?_; clear hK K
 refine ol_take 11 rfl (by kernel_rfl) HS0 (by kernel_rfl) (fun K hK => ?_); go_simp; refine hK _ _ ?_; clear hK K
 refine ol_take 12 rfl (by kernel_rfl) HS0 (by kernel_rfl) (fun K hK => ?_); go_simp; refine hK _ _ ?_; clear hK K
 refine ol_take 13 rfl (by kernel_rfl) HS0 (by kernel_rfl) (fun K hK => ?_); go_simp; refine hK _ _ ?_; clear hK K
 refine ol_take 14 rfl (by kernel_rfl) HS0 (by kernel_rfl) (fun K hK => ?_); go_simp; refine hK _ _ ?_; clear hK K
 refine ol_take 15 rfl (by kernel_rfl) HS0 (by kernel_rfl) (fun K hK => ⟨.agg C, fun i => exec_load_part 113 (.tmp 20) rfl B (at_ * 17) rfl C _ (Hpl.out _ ((HS.out _).1 i.property)) Try.underlying113 rfl hiC, ?_⟩); go_simp; refine hK _ _ ?_; clear hK K
 obtain ⟨wd, Hwd⟩ : ∃ wd : World, Hid (wd = w.drew) := ⟨_, rfl⟩
 have Hmwd : Hid (More w wd) := Hwd.out ▸ (More.refl w).drew
 rw [← Hwd.out]
 clear k1 k2 j0 j1 j2 j3 j4
 apply by_key
 ·intro key
  refine ol_two 16 17 (by kernel_rfl) ?_ ?_
  ·refine ol_step rfl (by kernel_rfl) (fun K hK => ?_); go_simp
   obtain ⟨w1, Hw1⟩ : ∃ w_ : World, Hid (w_ = wd.alloc (.cells #[.int .i64 0, .int .i64 0, .int .i64 0, .int .i64 0, .int .i64 0] 59)) := ⟨_, rfl⟩
   have m1 : More wd w1 := Hw1.out ▸ (More.refl _).alloc _ _
   have Hm1 : Hid (More w w1) := Hmwd.out.trans m1
   have Hb1 : Hid (Blk w1 wd.heap.size #[.int .i64 0, .int .i64 0, .int .i64 0, .int .i64 0, .int .i64 0] 59) := Hw1.out ▸ Blk.last _ _ _
   rw [← Hw1.out]
   clear m1 Hw1
   refine hK _ _ ((HS.out _).2 Hm1.out) ?_; clear hK K
   refine ol_one 17 (by kernel_rfl) ?_
   refine ol_step rfl (by kernel_rfl) (fun K hK => ?_); go_simp
   obtain ⟨w2, Hw2⟩ : ∃ w_ : World, Hid (w_ = w1.alloc (.cells #[.int .i64 0, .bool false, .int .i64 0, .bool false, .int .i64 0, .bool false, .int .i64 0, .bool false, .int .i64 0, .bool false, .int .i64 0, .bool false, .int .i64 0, .bool false, .int .i64 0, .bool false] 113)) := ⟨_, rfl⟩
   have m2 : More w1 w2 := Hw2.out ▸ (More.refl _).alloc _ _
   have Hm2 : Hid (More w w2) := Hm1.out.trans m2
   have Hb2 : Hid (Blk w2 w1.heap.size #[.int .i64 0, .bool false, .int .i64 0, .bool false, .int .i64 0, .bool false, .int .i64 0, .bool false, .int .i64 0, .bool false, .int .i64 0, .bool false, .int .i64 0, .bool false, .int .i64 0, .bool false] 113) := Hw2.out ▸ Blk.last _ _ _
   have Hb1' : Hid (Blk w2 wd.heap.size #[.int .i64 0, .int .i64 0, .int .i64 0, .int .i64 0, .int .i64 0] 59) := Hb1.out.more m2
   rw [← Hw2.out]
   clear m2 Hw2
   refine hK _ _ ((HS.out _).2 Hm2.out) ?_; clear hK K
   have F : Hid (LdB w (wd.heap.size) (w1.heap.size) w2) := ⟨Hb1'.out, Hb2.out, Hm2.out, Hmwd.out.size, Hm1.out.size, Nat.ne_of_lt Hb1.out.lt⟩
   refine ol_cast (listed' := #[true, true, true, true, true, true, true, true, true, true, true, true, true, true, true, true, true, true, false, false]) (by kernel_rfl) ?_
   clear Hb1 Hb2 Hb1' Hm2 Hm1
   generalize w1.heap.size = g5 at F ⊢
   generalize wd.heap.size = g4 at F ⊢
   clear w1
   revert w2 g5 g4
   exact key
  ·refine ol_step rfl (by kernel_rfl) (fun K hK => ?_); go_simp
   obtain ⟨w1, Hw1⟩ : ∃ w_ : World, Hid (w_ = wd.alloc (.cells #[.int .i64 0, .bool false, .int .i64 0, .bool false, .int .i64 0, .bool false, .int .i64 0, .bool false, .int .i64 0, .bool false, .int .i64 0, .bool false, .int .i64 0, .bool false, .int .i64 0, .bool false] 113)) := ⟨_, rfl⟩
   have m1 : More wd w1 := Hw1.out ▸ (More.refl _).alloc _ _
   have Hm1 : Hid (More w w1) := Hmwd.out.trans m1
   have Hb1 : Hid (Blk w1 wd.heap.size #[.int .i64 0, .bool false, .int .i64 0, .bool false, .int .i64 0, .bool false, .int .i64 0, .bool false, .int .i64 0, .bool false, .int .i64 0, .bool false, .int .i64 0, .bool false, .int .i64 0, .bool false] 113) := Hw1.out ▸ Blk.last _ _ _
   rw [← Hw1.out]
   clear m1 Hw1
   refine hK _ _ ((HS.out _).2 Hm1.out) ?_; clear hK K
   refine ol_one 16 (by kernel_rfl) ?_
   refine ol_step rfl (by kernel_rfl) (fun K hK => ?_); go_simp
   obtain ⟨w2, Hw2⟩ : ∃ w_ : World, Hid (w_ = w1.alloc (.cells #[.int .i64 0, .int .i64 0, .int .i64 0, .int .i64 0, .int .i64 0] 59)) := ⟨_, rfl⟩
   have m2 : More w1 w2 := Hw2.out ▸ (More.refl _).alloc _ _
   have Hm2 : Hid (More w w2) := Hm1.out.trans m2
   have Hb2 : Hid (Blk w2 w1.heap.size #[.int .i64 0, .int .i64 0, .int .i64 0, .int .i64 0, .int .i64 0] 59) := Hw2.out ▸ Blk.last _ _ _
   have Hb1' : Hid (Blk w2 wd.heap.size #[.int .i64 0, .bool false, .int .i64 0, .bool false, .int .i64 0, .bool false, .int .i64 0, .bool false, .int .i64 0, .bool false, .int .i64 0, .bool false, .int .i64 0, .bool false, .int .i64 0, .bool false] 113) := Hb1.out.more m2
   rw [← Hw2.out]
   clear m2 Hw2
   refine hK _ _ ((HS.out _).2 Hm2.out) ?_; clear hK K
   have F : Hid (LdB w (w1.heap.size) (wd.heap.size) w2) := ⟨Hb2.out, Hb1'.out, Hm2.out, Hm1.out.size, Hmwd.out.size, Nat.ne_of_gt Hb1.out.lt⟩
   refine ol_cast (listed' := #[true, true, true, true, true, true, true, true, true, true, true, true, true, true, true, true, true, true, false, false]) (by kernel_rfl) ?_
   exact key _ _ _ F
 ·intro w1 g5 g4 F
  obtain ⟨w2, Hw2⟩ : ∃ w_ : World, Hid (w_ = w1.setRow g4 #[.int .i64 op, .int .i64 a, .int .i64 b, .int .i64 c, .int .i64 n]) := ⟨_, rfl⟩
  obtain ⟨w3, Hw3⟩ : ∃ w_ : World, Hid (w_ = w2.setRow g5 C) := ⟨_, rfl⟩
  have F2 : Hid (Blk w2 g4 #[.int .i64 op, .int .i64 a, .int .i64 b, .int .i64 c, .int .i64 n] 59 ∧ Blk w2 g5 (kv zeroK) 113 ∧ More w w2) := by
   rw [Hw2.out]
   exact ⟨F.out.b4.setRow _, F.out.b5.setRow_other F.out.ne.symm _, F.out.up.setRow F.out.lt4 _⟩
  have F3 : Hid (LdF g4 g5 ⟨op, a, b, c, n⟩ s w3 ∧ More w w3) := by
   rw [Hw3.out]
   refine ⟨⟨F2.out.1.setRow_other F.out.ne _, ?_⟩, F2.out.2.2.setRow F.out.lt5 _⟩
   rw [HC.out]
   exact F2.out.2.1.setRow _
  refine ol_one 18 (by kernel_rfl) ?_
  refine ol_step rfl (by kernel_rfl) (fun K hK => ?_)
  refine wp_store_row 59 (.tmp 4) (.tmp 13) rfl g4 #[.int .i64 op, .int .i64 a, .int .i64 b, .int .i64 c, .int .i64 n] rfl rfl 59 #[.int .i64 0, .int .i64 0, .int .i64 0, .int .i64 0, .int .i64 0] F.out.b4 info67 rfl (by simp [Value.oneCell']) ?_
  rw [← Hw2.out]
  refine hK _ _ ((HS.out _).2 F2.out.2.2) ?_; clear hK K
  refine ol_one 19 (by kernel_rfl) ?_
  refine ol_step rfl (by kernel_rfl) (fun K hK => ?_)
  refine wp_store_row 113 (.tmp 5) (.tmp 21) rfl g5 C rfl rfl 113 _ F2.out.2.1 hiC hz16 hone ?_
  rw [← Hw3.out]
  refine hK _ _ ((HS.out _).2 F3.out.2) ?_; clear hK K
  refine ol_done (by kernel_rfl) ?_
  clear hne HS0
  have i0 : w3.cell? ⟨g4, 0, none⟩ = some (.int .i64 op) := F3.out.1.b4.cell rfl
  have i1 : w3.cell? ⟨g4, 1, none⟩ = some (.int .i64 a) := F3.out.1.b4.cell rfl
  have i2 : w3.cell? ⟨g4, 2, none⟩ = some (.int .i64 b) := F3.out.1.b4.cell rfl
  have i3 : w3.cell? ⟨g4, 3, none⟩ = some (.int .i64 c) := F3.out.1.b4.cell rfl
  have i4 : w3.cell? ⟨g4, 4, none⟩ = some (.int .i64 n) := F3.out.1.b4.cell rfl
  have Hck3 : Hid (Ck w0 p lo M B l td tv w3) := Hck.out.more F3.out.2
  have hb5 : w3.heap[g5]? = some (.cells C 113 (0, 0)) := by
   have := F3.out.1.b5
   rw [HC.out] at this
   exact this
  by_cases h9 : op = 9
  ·subst h9
   have hL : leadsK p at_ s = [] := by unfold leadsK; rw [HN.out.2.2.2]; simp
   have Hend : Hid (P (.returned (.tuple #[])) w3) := by
    refine HP.out l td tv w3 ?_ Hck3.out (Keeps.of F3.out.2)
    rw [hL]
    exact ⟨rfl, rfl⟩
   clear hL HP
   go_wp2
   go_end0
   exact Hend.out
  by_cases h7 : op = 7
  ·subst h7
   have hpl := Hok.out
   unfold InsOk Plc at hpl
   simp at hpl
   obtain ⟨nn, rfl⟩ : ∃ nn : Nat, n = nn := ⟨n.toNat, by omega⟩
   have hL : leadsK p at_ s = [(nn, s)] := by unfold leadsK; rw [HN.out.2.2.2]; simp
   have Hend : Hid (∀ l' td' tv' w', ComeK p l td (nn, s) l' td' → Ck w0 p lo M B l' td' tv' w' → Keeps w w' → P (.returned (.tuple #[])) w') := by
    intro l' td' tv' w' h1 h2 h3
    refine HP.out l' td' tv' w' ?_ h2 h3
    rw [hL]
    exact ⟨l', td', h1, rfl, rfl⟩
   have cc : Calls Try.prog 60 #[.pointer (some ⟨M, 0, none⟩), .int .i64 (nn : Int), .agg C] w3 fun e w' => e = .returned (.tuple #[]) ∧ Keeps w3 w' ∧ ∃ l' td' tv', ComeK p l td (nn, s) l' td' ∧ Ck w0 p lo M B l' td' tv' w' := by
    have := come_calls Hck3.out HN.out.2.1 (Nat.le_trans HN.out.1 (by omega)) (nn, s)
    rw [HC.out] at this
    exact this
   clear hL HP hpl
   go_wp2_with (first | (refine wpList_load_row rfl 113 (.tmp 5) rfl g5 rfl 113 C (0, 0) _ hb5 Try.underlying113 rfl hiC ?_))
   refine cc.mono ?_
   rintro e w4 ⟨rfl, kp4, l', td', tv', h1, h2⟩
   have Hf : Hid (P (.returned (.tuple #[])) w4) := Hend.out _ _ _ _ h1 h2 ((Keeps.of F3.out.2).trans kp4)
   clear kp4 h1 h2 cc Hend
   go_wp2
   go_end0
   exact Hf.out
  by_cases h8 : op = 8
  ·subst h8
   have hpl := Hok.out
   unfold InsOk Plc Reg at hpl
   simp at hpl
   have ha0 : 0 ≤ a := by omega
   have ha1 : a < 8 := by omega
   have hb0 : 0 ≤ b := by omega
   have hb1 : b < 8 := by omega
   have hc4 : c = 1 ∨ c = 2 ∨ c = 3 ∨ c = 4 := by omega
   obtain ⟨nn, rfl⟩ : ∃ nn : Nat, n = nn := ⟨n.toNat, by omega⟩
   obtain ⟨y, hy⟩ : ∃ y, yesK ⟨8, a, b, c, nn⟩ s = y := ⟨_, rfl⟩
   obtain ⟨z, hz⟩ : ∃ z, noK ⟨8, a, b, c, nn⟩ s = z := ⟨_, rfl⟩
   have hL : leadsK p at_ s = [(nn, y), (at_ + 1, z)] := by unfold leadsK; rw [HN.out.2.2.2, hy, hz]; simp
   have c1 : ∀ w : World, Calls Try.prog 76 #[.agg (kv s), .int .i64 c, .int .i64 a, .int .i64 b] w fun e w' => e = .returned (.agg (kv y)) ∧ More w w' := fun w => by
    have := where_calls s c a b w hc4 ha0 ha1 hb0 hb1
    rw [yes_wh ⟨8, a, b, c, nn⟩ s hc4, hy] at this
    exact this
   obtain ⟨oc, hoc⟩ : ∃ x, oppI c = x := ⟨_, rfl⟩
   have c3 : ∀ w : World, Calls Try.prog 77 #[.int .i64 c] w fun e w' => e = .returned (.int .i64 oc) ∧ w' = w := fun w => hoc ▸ opposite_calls c w
   have c2 : ∀ w : World, Calls Try.prog 76 #[.agg (kv s), .int .i64 oc, .int .i64 a, .int .i64 b] w fun e w' => e = .returned (.agg (kv z)) ∧ More w w' := fun w => by
    have := where_calls s (oppI c) a b w (opp_in c hc4) ha0 ha1 hb0 hb1
    rw [no_wh ⟨8, a, b, c, nn⟩ s hc4, hz, hoc] at this
    exact this
   have Hend : Hid (∀ l1 td1 l' td' tv' w', ComeK p l td (nn, y) l1 td1 → ComeK p l1 td1 (at_ + 1, z) l' td' → Ck w0 p lo M B l' td' tv' w' → Keeps w w' → P (.returned (.tuple #[])) w') := by
    intro l1 td1 l' td' tv' w' h1 h1' h2 h3
    refine HP.out l' td' tv' w' ?_ h2 h3
    rw [hL]
    exact ⟨l1, td1, h1, l', td', h1', rfl, rfl⟩
   rw [HC.out] at c1 c2
   obtain ⟨Y, hY⟩ : ∃ x, kv y = x := ⟨_, rfl⟩
   obtain ⟨X, hX⟩ : ∃ x, kv z = x := ⟨_, rfl⟩
   have HYX : Hid (kv y = Y ∧ kv z = X) := ⟨hY, hX⟩
   rw [hY] at c1
   rw [hX] at c2
   clear hL HP hpl hy hz hoc hc4 hY hX
   obtain ⟨T, HT⟩ : ∃ T : World → Prop, Hid (∀ w', T w' ↔ LdF g4 g5 ⟨8, a, b, c, nn⟩ s w') := ⟨_, fun _ => Iff.rfl⟩
   have HT0 : T w3.drew := (HT.out _).2 (F3.out.1.more (More.refl _).drew)
   have hne : Nonempty { w' // T w' } := ⟨⟨_, HT0⟩⟩
   have k1 : ∀ i : { w' // T w' }, i.val.cell? ⟨g4, 1, none⟩ = some (.int .i64 a) := fun i => ((HT.out _).1 i.property).b4.cell rfl
   have k2 : ∀ i : { w' // T w' }, i.val.cell? ⟨g4, 2, none⟩ = some (.int .i64 b) := fun i => ((HT.out _).1 i.property).b4.cell rfl
   have k3 : ∀ i : { w' // T w' }, i.val.cell? ⟨g4, 3, none⟩ = some (.int .i64 c) := fun i => ((HT.out _).1 i.property).b4.cell rfl
   have k4 : ∀ i : { w' // T w' }, i.val.cell? ⟨g4, 4, none⟩ = some (.int .i64 (nn : Int)) := fun i => ((HT.out _).1 i.property).b4.cell rfl
   have Hk5 : Hid (∀ i : { w' // T w' }, ∀ j v, C[j]? = some v → i.val.cell? ⟨g5, 0 + j, none⟩ = some v) := fun i j v e => by
    rw [Nat.zero_add]
    have hb := ((HT.out _).1 i.property).b5
    rw [HC.out] at hb
    exact hb.cell e
   have hat63 : wrap64 ((at_ : Int) + 1) = (at_ : Int) + 1 := by unfold wrap64; omega
   have hat64 : IntKind.i64.wrap ((at_ : Int) + 1) = (at_ : Int) + 1 := by rw [IntKind.wrap_i64]; omega
   go_wp2_with (fail)
   refine wp_region_ord (S := T) [(0, true), (1, true), (2, true), (3, true), (4, true), (5, true), (6, true), (7, true), (8, true), (9, true), (10, false), (11, false)] (by kernel_rfl) (by kernel_rfl) (by kernel_rfl) HT0 ?_
   iterate 3 (refine wpOrd_take rfl (by kernel_rfl) (fun K hK => ?_); go_simp; refine hK _ _ ?_; clear hK K)
   refine wpOrd_take rfl (by kernel_rfl) (fun K hK => ⟨.agg C, fun i => exec_load_part 113 (.tmp 5) rfl g5 0 rfl C _ (Hk5.out i) Try.underlying113 rfl hiC, ?_⟩); go_simp; refine hK _ _ ?_; clear hK K
   iterate 6 (refine wpOrd_take rfl (by kernel_rfl) (fun K hK => ?_); go_simp; refine hK _ _ ?_; clear hK K)
   refine wpOrd_busy rfl (by kernel_rfl) (fun K hK => ?_); go_simp
   refine (c1 _).mono ?_
   rintro e w4 ⟨rfl, m_⟩
   have Hm4 : Hid (More w3 w4) := (More.refl w3).drew.trans m_
   clear m_
   go_simp
   refine hK _ _ ((HT.out _).2 (F3.out.1.more Hm4.out)) ?_; clear hK K
   have cc : Calls Try.prog 60 #[.pointer (some ⟨M, 0, none⟩), .int .i64 (nn : Int), .agg Y] w4 fun e w' => e = .returned (.tuple #[]) ∧ Keeps w4 w' ∧ ∃ l' td' tv', ComeK p l td (nn, y) l' td' ∧ Ck w0 p lo M B l' td' tv' w' := by
    have := come_calls (Hck3.out.more Hm4.out) HN.out.2.1 (Nat.le_trans HN.out.1 (by omega)) (nn, y)
    rw [HYX.out.1] at this
    exact this
   refine wpOrd_busy rfl (by kernel_rfl) (fun K hK => ?_); go_simp
   refine cc.mono ?_
   rintro e w5 ⟨rfl, kp5, l1, td1, tv1, g1, g2⟩
   have Hkp5 : Hid (Keeps w w5) := ((Keeps.of F3.out.2).trans (Keeps.of Hm4.out)).trans kp5
   have HF5 : Hid (LdF g4 g5 ⟨8, a, b, c, nn⟩ s w5) := (F3.out.1.more Hm4.out).keeps kp5
   have Hc1 : Hid (ComeK p l td (nn, y) l1 td1) := g1
   have Hck5 : Hid (Ck w0 p lo M B l1 td1 tv1 w5) := g2
   clear g1 g2 kp5 cc
   go_simp
   refine hK _ _ ((HT.out _).2 HF5.out) ?_; clear hK K
   refine wpOrd_done ?_
   clear i0 i1 i2 i3 i4 c1 HT0
   have HT0 : T w5.drew := (HT.out _).2 (HF5.out.more (More.refl _).drew)
   go_wp2_with (fail)
   refine wp_region_ord (S := T) [(0, true), (1, true), (2, true), (3, true), (4, true), (5, true), (7, true), (8, true), (9, true), (10, true), (6, false), (11, false), (12, false)] (by kernel_rfl) (by kernel_rfl) (by kernel_rfl) HT0 ?_
   iterate 3 (refine wpOrd_take rfl (by kernel_rfl) (fun K hK => ?_); go_simp; refine hK _ _ ?_; clear hK K)
   refine wpOrd_take rfl (by kernel_rfl) (fun K hK => ⟨.agg C, fun i => exec_load_part 113 (.tmp 5) rfl g5 0 rfl C _ (Hk5.out i) Try.underlying113 rfl hiC, ?_⟩); go_simp; refine hK _ _ ?_; clear hK K
   iterate 6 (refine wpOrd_take rfl (by kernel_rfl) (fun K hK => ?_); go_simp; refine hK _ _ ?_; clear hK K)
   refine wpOrd_busy rfl (by kernel_rfl) (fun K hK => ?_); go_simp
   refine (c3 _).mono ?_
   rintro e w6 ⟨rfl, rfl⟩
   go_simp
   refine hK _ _ HT0 ?_; clear hK K
   refine wpOrd_busy rfl (by kernel_rfl) (fun K hK => ?_); go_simp
   refine (c2 _).mono ?_
   rintro e w7 ⟨rfl, m_⟩
   have Hm7 : Hid (More w5 w7) := (More.refl w5).drew.trans m_
   clear m_
   go_simp
   refine hK _ _ ((HT.out _).2 (HF5.out.more Hm7.out)) ?_; clear hK K
   have cc : Calls Try.prog 60 #[.pointer (some ⟨M, 0, none⟩), .int .i64 ((at_ : Int) + 1), .agg X] w7 fun e w' => e = .returned (.tuple #[]) ∧ Keeps w7 w' ∧ ∃ l' td' tv', ComeK p l1 td1 (at_ + 1, z) l' td' ∧ Ck w0 p lo M B l' td' tv' w' := by
    have := come_calls (Hck5.out.more Hm7.out) HN.out.2.1 (by have := Hc1.out.len; have := HN.out.1; omega) (at_ + 1, z)
    rw [HYX.out.2] at this
    exact this
   refine wpOrd_busy rfl (by kernel_rfl) (fun K hK => ?_); go_simp
   try rw [hat64]
   refine cc.mono ?_
   rintro e w8 ⟨rfl, kp8, l2, td2, tv2, g1, g2⟩
   have Hf : Hid (P (.returned (.tuple #[])) w8) := Hend.out _ _ _ _ _ _ Hc1.out g1 g2 ((Hkp5.out.trans (Keeps.of Hm7.out)).trans kp8)
   have HF8 : Hid (LdF g4 g5 ⟨8, a, b, c, nn⟩ s w8) := (HF5.out.more Hm7.out).keeps kp8
   clear g1 g2 kp8 cc
   go_simp
   refine hK _ _ ((HT.out _).2 HF8.out) ?_; clear hK K
   refine wpOrd_done ?_
   clear c2 c3 HT0 hne k1 k2 k3 k4 Hend
   go_wp2
   go_end0
   exact Hf.out
  ·have e9 : (op == 9) = false := by simp [h9]
   have e7 : (op == 7) = false := by simp [h7]
   have e8 : (op == 8) = false := by simp [h8]
   obtain ⟨x, hx⟩ : ∃ x, nextK p ⟨op, a, b, c, n⟩ s = x := ⟨_, rfl⟩
   have hL : leadsK p at_ s = [(at_ + 1, x)] := by unfold leadsK; rw [HN.out.2.2.2]; dsimp only; rw [if_neg h7, if_neg h9, if_neg h8, hx]
   have c1 : Calls Try.prog 78 #[.pointer (some ⟨M, 0, none⟩), .agg #[.int .i64 op, .int .i64 a, .int .i64 b, .int .i64 c, .int .i64 n], .agg (kv s)] w3 fun e w' => e = .returned (.agg (kv x)) ∧ More w3 w' := by
    have := behind_calls p s M lo ⟨op, a, b, c, n⟩ w3 (Hck3.out.box.cell (j := 0) rfl) Hck3.out.pinw Hok.out ⟨n0, n1⟩ h7 h8 h9
    rw [hx] at this
    exact this
   have Hend : Hid (∀ l' td' tv' w', ComeK p l td (at_ + 1, x) l' td' → Ck w0 p lo M B l' td' tv' w' → Keeps w w' → P (.returned (.tuple #[])) w') := by
    intro l' td' tv' w' h1 h2 h3
    refine HP.out l' td' tv' w' ?_ h2 h3
    rw [hL]
    exact ⟨l', td', h1, rfl, rfl⟩
   obtain ⟨X, hX⟩ : ∃ y, kv x = y := ⟨_, rfl⟩
   have HX : Hid (kv x = X) := hX
   rw [HC.out, hX] at c1
   have hat63 : wrap64 ((at_ : Int) + 1) = (at_ : Int) + 1 := by unfold wrap64; omega
   clear hL HP hx hX h7 h8 h9
   go_wp2_with (first | (refine wpList_load_row rfl 113 (.tmp 5) rfl g5 rfl 113 C (0, 0) _ hb5 Try.underlying113 rfl hiC ?_))
   refine c1.mono ?_
   rintro e w4 ⟨rfl, m_⟩
   have Hm4 : Hid (More w3 w4) := m_
   clear m_
   have cc : Calls Try.prog 60 #[.pointer (some ⟨M, 0, none⟩), .int .i64 ((at_ : Int) + 1), .agg X] w4 fun e w' => e = .returned (.tuple #[]) ∧ Keeps w4 w' ∧ ∃ l' td' tv', ComeK p l td (at_ + 1, x) l' td' ∧ Ck w0 p lo M B l' td' tv' w' := by
    have := come_calls (Hck3.out.more Hm4.out) HN.out.2.1 (Nat.le_trans HN.out.1 (by omega)) (at_ + 1, x)
    rw [HX.out] at this
    exact this
   go_wp2_with (fail)
   refine cc.mono ?_
   rintro e w5 ⟨rfl, kp5, l', td', tv', h1, h2⟩
   have Hf : Hid (P (.returned (.tuple #[])) w5) := Hend.out _ _ _ _ h1 h2 (((Keeps.of F3.out.2).trans (Keeps.of Hm4.out)).trans kp5)
   clear kp5 h1 h2 cc Hend c1
   go_wp2
   go_end0
   exact Hf.out

theorem lead_calls {w0 : World} {p : Prg} {lo : Loc} {M B : Nat} {l : KV} {td : List Nat} {tv : Value} {w : World} (h : Ck w0 p lo M B l td tv w) (hp : p.Ok 200 8) (hnr : ∀ i, i < p.cl → -9223372036854775808 ≤ (p.ins i).n ∧ (p.ins i).n ≤ 9223372036854775807) (hn : td.length ≤ 99990) (at_ : Nat) (hat : at_ < p.cl) (s : KS) (hl : l at_ = some s) :
  Calls Try.prog 61 #[.pointer (some ⟨M, 0, none⟩), .int .i64 at_] w fun e w' => e = .returned (.tuple #[]) ∧ Keeps w w' ∧ ∃ l' td' tv', ComeL p (leadsK p at_ s) l td l' td' ∧ Ck w0 p lo M B l' td' tv' w' := by
 have hr := hnr at_ hat
 have hi := hp.2.2.2 at_ hat
 obtain ⟨i, hin⟩ : ∃ i, p.ins at_ = i := ⟨_, rfl⟩
 obtain ⟨op, a, b, c, n⟩ := i
 rw [hin] at hr hi
 exact lead_all h hp.2.2.1 hn at_ hat s hl op a b c n hin hi hr.1 hr.2
theorem ComeL.todo {p : Prg} {a : Nat} : ∀ (R : List (Nat × KS)) {l l' : KV} {td td' : List Nat}, Todo p l td a R → ComeL p R l td l' td' → Todo p l' td' a [] ∧ rankV l p.cl ≤ rankV l' p.cl ∧ td'.length + rankV l p.cl ≤ td.length + rankV l' p.cl
 | [], l, l', td, td', h, ⟨h1, h2⟩ => by subst h1; subst h2; exact ⟨h, Nat.le_refl _, Nat.le_refl _⟩
 | x :: R, l, l', td, td', h, ⟨l1, td1, h1, h2⟩ => by
  obtain ⟨k1, k2, k3, _⟩ := h.next h1
  obtain ⟨j1, j2, j3⟩ := ComeL.todo R k1 h2
  exact ⟨j1, by omega, by omega⟩

theorem list_last : ∀ (l : List Nat), l ≠ [] → ∃ k a, l = k ++ [a]
 | [], h => absurd rfl h
 | x :: l, _ => by
  by_cases e : l = []
  ·subst e; exact ⟨[], x, rfl⟩
  ·obtain ⟨k, a, h⟩ := list_last l e
   exact ⟨x :: k, a, by rw [h]; rfl⟩

set_option maxHeartbeats 2000000 in
theorem learn_calls {w0 : World} {p : Prg} {lo : Loc} {M B : Nat} {w : World} (h : Ck w0 p lo M B (fun _ => none) [] (.slice none 0 0) w) (hp : p.Ok 200 8) (hnr : ∀ i, i < p.cl → -9223372036854775808 ≤ (p.ins i).n ∧ (p.ins i).n ≤ 9223372036854775807) :
  Calls Try.prog 42 #[.pointer (some ⟨M, 0, none⟩)] w fun e w' => e = .returned (.tuple #[]) ∧ Keeps w w' ∧ ∃ l tv, Known p l ∧ Ck w0 p lo M B l [] tv w' := by
 suffices hP : ∀ P : Ending → World → Prop, (∀ l tv w', Known p l → Ck w0 p lo M B l [] tv w' → Keeps w w' → P (.returned (.tuple #[])) w') → Calls Try.prog 42 #[.pointer (some ⟨M, 0, none⟩)] w P from hP _ (fun l tv w' a b c => ⟨rfl, c, l, tv, a, b⟩)
 intro P hP0
 have HP : Hid (∀ l tv w', Known p l → Ck w0 p lo M B l [] tv w' → Keeps w w' → P (.returned (.tuple #[])) w') := hP0
 clear hP0
 have Hp : Hid (p.Ok 200 8 ∧ (∀ i, i < p.cl → -9223372036854775808 ≤ (p.ins i).n ∧ (p.ins i).n ≤ 9223372036854775807) ∧ 0 < p.cl ∧ p.cl ≤ 200) := ⟨hp, hnr, hp.2.1, hp.2.2.1⟩
 have cc : Calls Try.prog 60 #[.pointer (some ⟨M, 0, none⟩), .int .i64 0, .agg #[.int .i64 0, .bool false, .int .i64 0, .bool false, .int .i64 0, .bool false, .int .i64 0, .bool false, .int .i64 0, .bool false, .int .i64 0, .bool false, .int .i64 0, .bool false, .int .i64 0, .bool false]] w fun e w' => e = .returned (.tuple #[]) ∧ Keeps w w' ∧ ∃ l' td' tv', ComeK p (fun _ => none) [] (0, zeroK) l' td' ∧ Ck w0 p lo M B l' td' tv' w' := by
  have := come_calls h hp.2.2.1 (by simp) (0, zeroK)
  rw [kv_zero] at this
  exact this
 clear h hp hnr
 go_enter Try.func42, Try.ntmps42
 go_wp2_with (fail)
 refine cc.mono ?_
 rintro e w1 ⟨rfl, kp1, l1, td1, tv1, g1, g2⟩
 have Ht1 : Hid (Todo p l1 td1 0 []) := Todo.start Hp.out.2.2.1 g1
 have Hck1 : Hid (Ck w0 p lo M B l1 td1 tv1 w1 ∧ Keeps w w1) := ⟨g2, kp1⟩
 have Hl1 : Hid (td1.length ≤ 1) := g1.len
 clear kp1 g1 g2 cc
 go_wp2_with (fail)
 go_loopg [] (290 * p.cl + 2) (fun g wr => ∃ (l : KV) (td : List Nat) (tv : Value) (b : Nat), Hid (Ck w0 p lo M B l td tv wr ∧ Keeps w wr ∧ Todo p l td b [] ∧ 290 * p.cl + td.length < g + 2 * rankV l p.cl))
 case atStart => exact ⟨l1, td1, tv1, 0, Hck1.out.1, Hck1.out.2, Ht1.out, by have := Hl1.out; omega⟩
 case round =>
  obtain ⟨l, td, tv, b, Hr⟩ := hrel
  by_cases htd : td = []
  ·subst htd
   have Hend : Hid (P (.returned (.tuple #[])) wr) := HP.out l tv wr Hr.out.2.2.1.known Hr.out.1 Hr.out.2.1
   obtain ⟨ta, tc, rfl⟩ := Hr.out.1.tform
   have y3 : wr.cell? ⟨M, 3, none⟩ = some (.slice ta 0 tc) := Hr.out.1.box.cell (j := 3) rfl
   clear HP Hr
   go_wp2
   go_end0
   exact Hend.out
  ·obtain ⟨td0, a, rfl⟩ := list_last td htd
   clear htd
   obtain ⟨m, Hm⟩ : ∃ m, Hid (td0.length = m) := ⟨_, rfl⟩
   have hlen : (td0 ++ [a]).length = m + 1 := by rw [List.length_append, Hm.out]; rfl
   have hown := Hr.out.1.own
   rw [hlen] at hown
   obtain ⟨T, cap, htv, hT1, hT2⟩ := hown.form (by omega)
   subst htv
   have hcap : m + 1 ≤ cap := by
    rcases hown.2 with ⟨h0, _⟩ | ⟨g', cap', cur, hv, _, _, h5, _⟩
    ·cases h0
    ·cases hv; exact h5
   have hq : wr.cell? ⟨T, m, none⟩ = some (.int .i64 (a : Int)) := by
    rw [World.ownsRow.cellAt hown m (by omega), List.map_append, List.getElem?_append_right (by rw [List.length_map, Hm.out]; omega), List.length_map, Hm.out, Nat.sub_self]
    rfl
   have y3 : wr.cell? ⟨M, 3, none⟩ = some (.slice (some ⟨T, 0, none⟩) (m + 1) cap) := Hr.out.1.box.cell (j := 3) rfl
   have f3 : wr.frozen? ⟨M, 3, none⟩ = false := Hr.out.1.box.frozen 3
   have hbig : m + 1 ≤ 29000 := by
    have h1 := Hr.out.2.2.1.short
    have h2 := rankV_le Hr.out.2.2.1.on.norm p.cl (Nat.le_refl _)
    have h3 := Hp.out.2.2.2
    rw [hlen] at h1
    omega
   have hmi : (m : Int) + 1 ≤ 29000 := by omega
   have hmc : (m : Int) ≤ cap := by omega
   obtain ⟨w2, Hw2⟩ : ∃ w_ : World, Hid (w_ = wr.setCell ⟨M, 3, none⟩ (.slice (some ⟨T, 0, none⟩) m cap)) := ⟨_, rfl⟩
   have Hck2 : Hid (Ck w0 p lo M B l td0 (.slice (some ⟨T, 0, none⟩) m cap) w2) := by
    rw [Hw2.out]
    refine Hr.out.1.set ⟨rfl, rfl, rfl, Nat.le_refl _, fun _ _ _ => rfl⟩ ?_
    rw [Hm.out]
    rw [List.map_append] at hown
    exact ownsRow_pop (by rw [List.length_map, Hm.out, Nat.mul_one]) hown
   have Hkp2 : Hid (Keeps w w2) := by
    rw [Hw2.out]
    exact Hr.out.2.1.trans (Hr.out.1.set_keeps ⟨rfl, rfl, rfl, Nat.le_refl _, fun _ _ _ => rfl⟩)
   obtain ⟨hac, s, hs⟩ := Hr.out.2.2.1.come a (by simp)
   have Htodo : Hid (Todo p l td0 a (leadsK p a s)) := Hr.out.2.2.1.pop Hp.out.1 hs
   have Hmeas : Hid (290 * p.cl + (m + 1) < gk + 2 * rankV l p.cl) := by
    have := Hr.out.2.2.2
    rw [hlen] at this
    exact this
   have cc : Calls Try.prog 61 #[.pointer (some ⟨M, 0, none⟩), .int .i64 (a : Int)] w2 fun e w' => e = .returned (.tuple #[]) ∧ Keeps w2 w' ∧ ∃ l' td' tv', ComeL p (leadsK p a s) l td0 l' td' ∧ Ck w0 p lo M B l' td' tv' w' :=
    lead_calls Hck2.out Hp.out.1 Hp.out.2.1 (by rw [Hm.out]; omega) a hac s hs
   clear hown hT1 hT2 hlen hs hac Hr hbig
   go_wp2_with (fail)
   rw [← Hw2.out]
   refine cc.mono ?_
   rintro e w3 ⟨rfl, kp3, l', td', tv', g1, g2⟩
   obtain ⟨t1, t2, t3⟩ := ComeL.todo _ Htodo.out g1
   have Hkp3 : Hid (Keeps w w3) := Hkp2.out.trans kp3
   have Hck3 : Hid (Ck w0 p lo M B l' td' tv' w3) := g2
   have Ht3 : Hid (Todo p l' td' a []) := t1
   have Hms : Hid (290 * p.cl + td'.length + 1 < gk + 2 * rankV l' p.cl) := by
    have h1 := Hmeas.out
    have h2 := Hm.out
    show _ < _
    omega
   have Hrk : Hid (rankV l' p.cl ≤ 145 * p.cl) := rankV_le t1.on.norm p.cl (Nat.le_refl _)
   clear kp3 g1 g2 t1 t2 t3 cc y3 f3 hq
   cases gk with
   | zero =>
    have h1 := Hms.out
    have h2 := Hrk.out
    omega
   | succ g =>
    go_wp2
    go_roundg g
    case measure => omega
    case rel => exact ⟨l', td', tv', a, Hck3.out, Hkp3.out, Ht3.out, by have h1 := Hms.out; omega⟩
set_option maxHeartbeats 1000000 in
theorem tells_3 (M : Nat) (C : Array Value) (a b c n : Int) (w : World) (hC16 : C.size = 16) (xa xb : Bool) (a0 : 0 ≤ a) (a1 : a < 8) (b0 : 0 ≤ b) (b1 : b < 8) (ka : C[a.toNat * 2 + 1]? = some (.bool xa)) (kb : C[b.toNat * 2 + 1]? = some (.bool xb)) :
    Calls Try.prog 81 #[.pointer (some ⟨M, 0, none⟩), .agg #[.int .i64 3, .int .i64 a, .int .i64 b, .int .i64 c, .int .i64 n], .agg C] w fun e w' => e = .returned (.bool (xb)) ∧ More w w' := by
  obtain ⟨W, HW⟩ : ∃ W : World, Hid (W = (w.alloc (.cells #[.int .i64 3, .int .i64 a, .int .i64 b, .int .i64 c, .int .i64 n] 59)).alloc (.cells C 113)) := ⟨_, rfl⟩
  have HB : Hid (Blk W w.heap.size #[.int .i64 3, .int .i64 a, .int .i64 b, .int .i64 c, .int .i64 n] 59 ∧ Blk W (w.heap.size + 1) C 113 ∧ More w W) := by
    rw [HW.out]
    exact ⟨(Blk.last _ _ _).alloc _ _, (by simpa using Blk.last (w.alloc (.cells #[.int .i64 3, .int .i64 a, .int .i64 b, .int .i64 c, .int .i64 n] 59)) C 113), ((More.refl _).alloc _ _).alloc _ _⟩
  obtain ⟨S, HS⟩ : ∃ S : World → Prop, Hid (∀ w', S w' ↔ More W w') := ⟨_, fun _ => Iff.rfl⟩
  have HS0 : S W.drew := (HS.out _).2 (More.refl _).drew
  have hne : Nonempty { w' // S w' } := ⟨⟨_, HS0⟩⟩
  have k1 : ∀ i : { w' // S w' }, i.val.cell? ⟨w.heap.size, 1, none⟩ = some (.int .i64 a) := fun i => (HB.out.1.more ((HS.out _).1 i.property)).cell rfl
  have k2 : ∀ i : { w' // S w' }, i.val.cell? ⟨w.heap.size, 2, none⟩ = some (.int .i64 b) := fun i => (HB.out.1.more ((HS.out _).1 i.property)).cell rfl
  have k3 : ∀ i : { w' // S w' }, i.val.cell? ⟨w.heap.size + 1, a.toNat * 2 + 1, none⟩ = some (.bool xa) := fun i => (HB.out.2.1.more ((HS.out _).1 i.property)).cell ka
  have k4 : ∀ i : { w' // S w' }, i.val.cell? ⟨w.heap.size + 1, b.toNat * 2 + 1, none⟩ = some (.bool xb) := fun i => (HB.out.2.1.more ((HS.out _).1 i.property)).cell kb
  obtain ⟨wd, Hwd⟩ : ∃ w_ : World, Hid (w_ = W.drew) := ⟨_, rfl⟩
  have Hmd : Hid (More w wd ∧ Blk wd w.heap.size #[.int .i64 3, .int .i64 a, .int .i64 b, .int .i64 c, .int .i64 n] 59 ∧ Blk wd (w.heap.size + 1) C 113) := by
    have m : More W wd := Hwd.out ▸ (More.refl W).drew
    exact ⟨HB.out.2.2.trans m, HB.out.1.more m, HB.out.2.1.more m⟩
  have i0 : wd.cell? ⟨w.heap.size, 0, none⟩ = some (.int .i64 3) := Hmd.out.2.1.cell rfl
  have i3 : wd.cell? ⟨w.heap.size, 3, none⟩ = some (.int .i64 c) := Hmd.out.2.1.cell rfl
  clear ka kb
  go_enter Try.func81, Try.ntmps81
  go_wp2_with (fail)
  rw [← HW.out]
  clear hC16
  refine wp_region_ord (S := S) [(0, true), (1, true), (2, true), (3, true), (4, true), (5, true), (6, true), (7, true), (8, true), (9, true), (10, true), (11, true)] (by kernel_rfl) (by kernel_rfl) (by kernel_rfl) HS0 ?_
  iterate 12 (refine wpOrd_take rfl (by kernel_rfl) (fun K hK => ?_); go_simp; refine hK _ _ ?_; clear hK K)
  refine wpOrd_done ?_
  rw [← Hwd.out]
  clear k1 k2 k3 k4 hne HS0
  cases xb
  all_goals
    go_wp2
    go_ret
    exact ⟨rfl, by repeat (first | exact Hmd.out.1 | apply More.drew | apply More.alloc)⟩

set_option maxHeartbeats 1000000 in
theorem tells_4 (M : Nat) (C : Array Value) (a b c n : Int) (w : World) (hC16 : C.size = 16) (xa xb : Bool) (a0 : 0 ≤ a) (a1 : a < 8) (b0 : 0 ≤ b) (b1 : b < 8) (ka : C[a.toNat * 2 + 1]? = some (.bool xa)) (kb : C[b.toNat * 2 + 1]? = some (.bool xb)) (xr : Bool) (rb ro rl rc : Nat) (hM : w.cell? ⟨M, 0, none⟩ = some (.slice (some ⟨rb, ro, none⟩) rl rc)) (c0 : 0 ≤ c) (c1 : c < rl) (kr : w.cell? ⟨rb, ro + c.toNat * 2 + 1, none⟩ = some (.bool xr)) :
    Calls Try.prog 81 #[.pointer (some ⟨M, 0, none⟩), .agg #[.int .i64 4, .int .i64 a, .int .i64 b, .int .i64 c, .int .i64 n], .agg C] w fun e w' => e = .returned (.bool (xb || (xa && !xr))) ∧ More w w' := by
  obtain ⟨W, HW⟩ : ∃ W : World, Hid (W = (w.alloc (.cells #[.int .i64 4, .int .i64 a, .int .i64 b, .int .i64 c, .int .i64 n] 59)).alloc (.cells C 113)) := ⟨_, rfl⟩
  have HB : Hid (Blk W w.heap.size #[.int .i64 4, .int .i64 a, .int .i64 b, .int .i64 c, .int .i64 n] 59 ∧ Blk W (w.heap.size + 1) C 113 ∧ More w W) := by
    rw [HW.out]
    exact ⟨(Blk.last _ _ _).alloc _ _, (by simpa using Blk.last (w.alloc (.cells #[.int .i64 4, .int .i64 a, .int .i64 b, .int .i64 c, .int .i64 n] 59)) C 113), ((More.refl _).alloc _ _).alloc _ _⟩
  obtain ⟨S, HS⟩ : ∃ S : World → Prop, Hid (∀ w', S w' ↔ More W w') := ⟨_, fun _ => Iff.rfl⟩
  have HS0 : S W.drew := (HS.out _).2 (More.refl _).drew
  have hne : Nonempty { w' // S w' } := ⟨⟨_, HS0⟩⟩
  have k1 : ∀ i : { w' // S w' }, i.val.cell? ⟨w.heap.size, 1, none⟩ = some (.int .i64 a) := fun i => (HB.out.1.more ((HS.out _).1 i.property)).cell rfl
  have k2 : ∀ i : { w' // S w' }, i.val.cell? ⟨w.heap.size, 2, none⟩ = some (.int .i64 b) := fun i => (HB.out.1.more ((HS.out _).1 i.property)).cell rfl
  have k3 : ∀ i : { w' // S w' }, i.val.cell? ⟨w.heap.size + 1, a.toNat * 2 + 1, none⟩ = some (.bool xa) := fun i => (HB.out.2.1.more ((HS.out _).1 i.property)).cell ka
  have k4 : ∀ i : { w' // S w' }, i.val.cell? ⟨w.heap.size + 1, b.toNat * 2 + 1, none⟩ = some (.bool xb) := fun i => (HB.out.2.1.more ((HS.out _).1 i.property)).cell kb
  obtain ⟨wd, Hwd⟩ : ∃ w_ : World, Hid (w_ = W.drew) := ⟨_, rfl⟩
  have Hmd : Hid (More w wd ∧ Blk wd w.heap.size #[.int .i64 4, .int .i64 a, .int .i64 b, .int .i64 c, .int .i64 n] 59 ∧ Blk wd (w.heap.size + 1) C 113) := by
    have m : More W wd := Hwd.out ▸ (More.refl W).drew
    exact ⟨HB.out.2.2.trans m, HB.out.1.more m, HB.out.2.1.more m⟩
  have i0 : wd.cell? ⟨w.heap.size, 0, none⟩ = some (.int .i64 4) := Hmd.out.2.1.cell rfl
  have i3 : wd.cell? ⟨w.heap.size, 3, none⟩ = some (.int .i64 c) := Hmd.out.2.1.cell rfl
  have hM' := Hmd.out.1.cell hM
  have kr' := Hmd.out.1.cell kr
  clear hM kr
  clear ka kb
  go_enter Try.func81, Try.ntmps81
  go_wp2_with (fail)
  rw [← HW.out]
  clear hC16
  refine wp_region_ord (S := S) [(0, true), (1, true), (2, true), (3, true), (4, true), (5, true), (6, true), (7, true), (8, true), (9, true), (10, true), (11, true)] (by kernel_rfl) (by kernel_rfl) (by kernel_rfl) HS0 ?_
  iterate 12 (refine wpOrd_take rfl (by kernel_rfl) (fun K hK => ?_); go_simp; refine hK _ _ ?_; clear hK K)
  refine wpOrd_done ?_
  rw [← Hwd.out]
  clear k1 k2 k3 k4 hne HS0
  obtain ⟨T, HT⟩ : ∃ T : World → Prop, Hid (∀ w', T w' ↔ More wd w') := ⟨_, fun _ => Iff.rfl⟩
  have HT0 : T wd.drew := (HT.out _).2 (More.refl _).drew
  have hne : Nonempty { w' // T w' } := ⟨⟨_, HT0⟩⟩
  have l1 : ∀ i : { w' // T w' }, i.val.cell? ⟨w.heap.size, 3, none⟩ = some (.int .i64 c) := fun i => ((HT.out _).1 i.property).cell i3
  have l2 : ∀ i : { w' // T w' }, i.val.cell? ⟨M, 0, none⟩ = some (.slice (some ⟨rb, ro, none⟩) rl rc) := fun i => ((HT.out _).1 i.property).cell hM'
  have l3 : ∀ i : { w' // T w' }, i.val.cell? ⟨rb, ro + c.toNat * 2 + 1, none⟩ = some (.bool xr) := fun i => ((HT.out _).1 i.property).cell kr'
  cases xb with
  | true =>
    go_wp2_with (fail)
    refine wp_region_ord (S := T) [(0, true), (1, true), (2, true), (3, true), (4, true), (5, true), (6, true), (7, true), (8, true), (9, true), (10, true), (11, true), (12, true), (13, true), (14, true), (15, true), (16, true), (17, true)] (by kernel_rfl) (by kernel_rfl) (by kernel_rfl) HT0 ?_
    iterate 2 (refine wpOrd_take rfl (by kernel_rfl) (fun K hK => ?_); go_simp; refine hK _ _ ?_; clear hK K)
    iterate 14 (refine wpOrd_skip rfl HT0 (by kernel_rfl) (by kernel_rfl) ?_)
    iterate 1 (refine wpOrd_pickT rfl rfl (by kernel_rfl) rfl (fun K hK => ?_); go_simp; refine hK _ _ ?_; clear hK K)
    iterate 1 (refine wpOrd_take rfl (by kernel_rfl) (fun K hK => ?_); go_simp; refine hK _ _ ?_; clear hK K)
    refine wpOrd_done ?_
    clear l1 l2 l3 hne HT0
    go_wp2
    go_ret
    exact ⟨by simp, Hmd.out.1.drew⟩
  | false =>
   cases xa with
   | false =>
    go_wp2_with (fail)
    refine wp_region_ord (S := T) [(0, true), (1, true), (2, true), (3, true), (4, true), (5, true), (6, true), (7, true), (8, true), (9, true), (10, true), (11, true), (12, true), (13, true), (14, true), (15, true), (16, true), (17, true)] (by kernel_rfl) (by kernel_rfl) (by kernel_rfl) HT0 ?_
    iterate 4 (refine wpOrd_take rfl (by kernel_rfl) (fun K hK => ?_); go_simp; refine hK _ _ ?_; clear hK K)
    iterate 11 (refine wpOrd_skip rfl HT0 (by kernel_rfl) (by kernel_rfl) ?_)
    iterate 1 (refine wpOrd_pickF rfl rfl (by kernel_rfl) rfl (fun K hK => ?_); go_simp; refine hK _ _ ?_; clear hK K)
    iterate 1 (refine wpOrd_pickF rfl rfl (by kernel_rfl) rfl (fun K hK => ?_); go_simp; refine hK _ _ ?_; clear hK K)
    iterate 1 (refine wpOrd_take rfl (by kernel_rfl) (fun K hK => ?_); go_simp; refine hK _ _ ?_; clear hK K)
    refine wpOrd_done ?_
    clear l1 l2 l3 hne HT0
    go_wp2
    go_ret
    exact ⟨by simp, Hmd.out.1.drew⟩
   | true =>
    go_wp2_with (fail)
    refine wp_region_ord (S := T) [(0, true), (1, true), (2, true), (3, true), (4, true), (5, true), (6, true), (7, true), (8, true), (9, true), (10, true), (11, true), (12, true), (13, true), (14, true), (15, true), (16, true), (17, true)] (by kernel_rfl) (by kernel_rfl) (by kernel_rfl) HT0 ?_
    iterate 15 (refine wpOrd_take rfl (by kernel_rfl) (fun K hK => ?_); go_simp; refine hK _ _ ?_; clear hK K)
    iterate 1 (refine wpOrd_pickT rfl rfl (by kernel_rfl) rfl (fun K hK => ?_); go_simp; refine hK _ _ ?_; clear hK K)
    iterate 1 (refine wpOrd_pickF rfl rfl (by kernel_rfl) rfl (fun K hK => ?_); go_simp; refine hK _ _ ?_; clear hK K)
    iterate 1 (refine wpOrd_take rfl (by kernel_rfl) (fun K hK => ?_); go_simp; refine hK _ _ ?_; clear hK K)
    refine wpOrd_done ?_
    clear l1 l2 l3 hne HT0
    go_wp2
    go_ret
    exact ⟨by simp, Hmd.out.1.drew⟩

set_option maxHeartbeats 1000000 in
theorem tells_6 (M : Nat) (C : Array Value) (a b c n : Int) (w : World) (hC16 : C.size = 16) (xa xb : Bool) (a0 : 0 ≤ a) (a1 : a < 8) (b0 : 0 ≤ b) (b1 : b < 8) (ka : C[a.toNat * 2 + 1]? = some (.bool xa)) (kb : C[b.toNat * 2 + 1]? = some (.bool xb)) (xr : Bool) (rb ro rl rc : Nat) (hM : w.cell? ⟨M, 0, none⟩ = some (.slice (some ⟨rb, ro, none⟩) rl rc)) (c0 : 0 ≤ c) (c1 : c < rl) (kr : w.cell? ⟨rb, ro + c.toNat * 2 + 1, none⟩ = some (.bool xr)) :
    Calls Try.prog 81 #[.pointer (some ⟨M, 0, none⟩), .agg #[.int .i64 6, .int .i64 a, .int .i64 b, .int .i64 c, .int .i64 n], .agg C] w fun e w' => e = .returned (.bool (xa && !xr)) ∧ More w w' := by
  obtain ⟨W, HW⟩ : ∃ W : World, Hid (W = (w.alloc (.cells #[.int .i64 6, .int .i64 a, .int .i64 b, .int .i64 c, .int .i64 n] 59)).alloc (.cells C 113)) := ⟨_, rfl⟩
  have HB : Hid (Blk W w.heap.size #[.int .i64 6, .int .i64 a, .int .i64 b, .int .i64 c, .int .i64 n] 59 ∧ Blk W (w.heap.size + 1) C 113 ∧ More w W) := by
    rw [HW.out]
    exact ⟨(Blk.last _ _ _).alloc _ _, (by simpa using Blk.last (w.alloc (.cells #[.int .i64 6, .int .i64 a, .int .i64 b, .int .i64 c, .int .i64 n] 59)) C 113), ((More.refl _).alloc _ _).alloc _ _⟩
  obtain ⟨S, HS⟩ : ∃ S : World → Prop, Hid (∀ w', S w' ↔ More W w') := ⟨_, fun _ => Iff.rfl⟩
  have HS0 : S W.drew := (HS.out _).2 (More.refl _).drew
  have hne : Nonempty { w' // S w' } := ⟨⟨_, HS0⟩⟩
  have k1 : ∀ i : { w' // S w' }, i.val.cell? ⟨w.heap.size, 1, none⟩ = some (.int .i64 a) := fun i => (HB.out.1.more ((HS.out _).1 i.property)).cell rfl
  have k2 : ∀ i : { w' // S w' }, i.val.cell? ⟨w.heap.size, 2, none⟩ = some (.int .i64 b) := fun i => (HB.out.1.more ((HS.out _).1 i.property)).cell rfl
  have k3 : ∀ i : { w' // S w' }, i.val.cell? ⟨w.heap.size + 1, a.toNat * 2 + 1, none⟩ = some (.bool xa) := fun i => (HB.out.2.1.more ((HS.out _).1 i.property)).cell ka
  have k4 : ∀ i : { w' // S w' }, i.val.cell? ⟨w.heap.size + 1, b.toNat * 2 + 1, none⟩ = some (.bool xb) := fun i => (HB.out.2.1.more ((HS.out _).1 i.property)).cell kb
  obtain ⟨wd, Hwd⟩ : ∃ w_ : World, Hid (w_ = W.drew) := ⟨_, rfl⟩
  have Hmd : Hid (More w wd ∧ Blk wd w.heap.size #[.int .i64 6, .int .i64 a, .int .i64 b, .int .i64 c, .int .i64 n] 59 ∧ Blk wd (w.heap.size + 1) C 113) := by
    have m : More W wd := Hwd.out ▸ (More.refl W).drew
    exact ⟨HB.out.2.2.trans m, HB.out.1.more m, HB.out.2.1.more m⟩
  have i0 : wd.cell? ⟨w.heap.size, 0, none⟩ = some (.int .i64 6) := Hmd.out.2.1.cell rfl
  have i3 : wd.cell? ⟨w.heap.size, 3, none⟩ = some (.int .i64 c) := Hmd.out.2.1.cell rfl
  have hM' := Hmd.out.1.cell hM
  have kr' := Hmd.out.1.cell kr
  clear hM kr
  clear ka kb
  go_enter Try.func81, Try.ntmps81
  go_wp2_with (fail)
  rw [← HW.out]
  clear hC16
  refine wp_region_ord (S := S) [(0, true), (1, true), (2, true), (3, true), (4, true), (5, true), (6, true), (7, true), (8, true), (9, true), (10, true), (11, true)] (by kernel_rfl) (by kernel_rfl) (by kernel_rfl) HS0 ?_
  iterate 12 (refine wpOrd_take rfl (by kernel_rfl) (fun K hK => ?_); go_simp; refine hK _ _ ?_; clear hK K)
  refine wpOrd_done ?_
  rw [← Hwd.out]
  clear k1 k2 k3 k4 hne HS0
  obtain ⟨T, HT⟩ : ∃ T : World → Prop, Hid (∀ w', T w' ↔ More wd w') := ⟨_, fun _ => Iff.rfl⟩
  have HT0 : T wd.drew := (HT.out _).2 (More.refl _).drew
  have hne : Nonempty { w' // T w' } := ⟨⟨_, HT0⟩⟩
  have l1 : ∀ i : { w' // T w' }, i.val.cell? ⟨w.heap.size, 3, none⟩ = some (.int .i64 c) := fun i => ((HT.out _).1 i.property).cell i3
  have l2 : ∀ i : { w' // T w' }, i.val.cell? ⟨M, 0, none⟩ = some (.slice (some ⟨rb, ro, none⟩) rl rc) := fun i => ((HT.out _).1 i.property).cell hM'
  have l3 : ∀ i : { w' // T w' }, i.val.cell? ⟨rb, ro + c.toNat * 2 + 1, none⟩ = some (.bool xr) := fun i => ((HT.out _).1 i.property).cell kr'
  cases xa with
  | false =>
    go_wp2_with (fail)
    refine wp_region_ord (S := T) [(0, true), (1, true), (2, true), (3, true), (4, true), (5, true), (6, true), (7, true), (8, true), (9, true), (10, true), (11, true), (12, true), (13, true), (14, true)] (by kernel_rfl) (by kernel_rfl) (by kernel_rfl) HT0 ?_
    iterate 2 (refine wpOrd_take rfl (by kernel_rfl) (fun K hK => ?_); go_simp; refine hK _ _ ?_; clear hK K)
    iterate 11 (refine wpOrd_skip rfl HT0 (by kernel_rfl) (by kernel_rfl) ?_)
    iterate 1 (refine wpOrd_pickF rfl rfl (by kernel_rfl) rfl (fun K hK => ?_); go_simp; refine hK _ _ ?_; clear hK K)
    iterate 1 (refine wpOrd_take rfl (by kernel_rfl) (fun K hK => ?_); go_simp; refine hK _ _ ?_; clear hK K)
    refine wpOrd_done ?_
    clear l1 l2 l3 hne HT0
    go_wp2
    go_ret
    exact ⟨by simp, Hmd.out.1.drew⟩
  | true =>
    go_wp2_with (fail)
    refine wp_region_ord (S := T) [(0, true), (1, true), (2, true), (3, true), (4, true), (5, true), (6, true), (7, true), (8, true), (9, true), (10, true), (11, true), (12, true), (13, true), (14, true)] (by kernel_rfl) (by kernel_rfl) (by kernel_rfl) HT0 ?_
    iterate 13 (refine wpOrd_take rfl (by kernel_rfl) (fun K hK => ?_); go_simp; refine hK _ _ ?_; clear hK K)
    iterate 1 (refine wpOrd_pickT rfl rfl (by kernel_rfl) rfl (fun K hK => ?_); go_simp; refine hK _ _ ?_; clear hK K)
    iterate 1 (refine wpOrd_take rfl (by kernel_rfl) (fun K hK => ?_); go_simp; refine hK _ _ ?_; clear hK K)
    refine wpOrd_done ?_
    clear l1 l2 l3 hne HT0
    go_wp2
    go_ret
    exact ⟨by simp, Hmd.out.1.drew⟩

set_option maxHeartbeats 1000000 in
theorem tells_8 (M : Nat) (C : Array Value) (a b c n : Int) (w : World) (hC16 : C.size = 16) (xa xb : Bool) (a0 : 0 ≤ a) (a1 : a < 8) (b0 : 0 ≤ b) (b1 : b < 8) (ka : C[a.toNat * 2 + 1]? = some (.bool xa)) (kb : C[b.toNat * 2 + 1]? = some (.bool xb)) :
    Calls Try.prog 81 #[.pointer (some ⟨M, 0, none⟩), .agg #[.int .i64 8, .int .i64 a, .int .i64 b, .int .i64 c, .int .i64 n], .agg C] w fun e w' => e = .returned (.bool (xa || xb)) ∧ More w w' := by
  obtain ⟨W, HW⟩ : ∃ W : World, Hid (W = (w.alloc (.cells #[.int .i64 8, .int .i64 a, .int .i64 b, .int .i64 c, .int .i64 n] 59)).alloc (.cells C 113)) := ⟨_, rfl⟩
  have HB : Hid (Blk W w.heap.size #[.int .i64 8, .int .i64 a, .int .i64 b, .int .i64 c, .int .i64 n] 59 ∧ Blk W (w.heap.size + 1) C 113 ∧ More w W) := by
    rw [HW.out]
    exact ⟨(Blk.last _ _ _).alloc _ _, (by simpa using Blk.last (w.alloc (.cells #[.int .i64 8, .int .i64 a, .int .i64 b, .int .i64 c, .int .i64 n] 59)) C 113), ((More.refl _).alloc _ _).alloc _ _⟩
  obtain ⟨S, HS⟩ : ∃ S : World → Prop, Hid (∀ w', S w' ↔ More W w') := ⟨_, fun _ => Iff.rfl⟩
  have HS0 : S W.drew := (HS.out _).2 (More.refl _).drew
  have hne : Nonempty { w' // S w' } := ⟨⟨_, HS0⟩⟩
  have k1 : ∀ i : { w' // S w' }, i.val.cell? ⟨w.heap.size, 1, none⟩ = some (.int .i64 a) := fun i => (HB.out.1.more ((HS.out _).1 i.property)).cell rfl
  have k2 : ∀ i : { w' // S w' }, i.val.cell? ⟨w.heap.size, 2, none⟩ = some (.int .i64 b) := fun i => (HB.out.1.more ((HS.out _).1 i.property)).cell rfl
  have k3 : ∀ i : { w' // S w' }, i.val.cell? ⟨w.heap.size + 1, a.toNat * 2 + 1, none⟩ = some (.bool xa) := fun i => (HB.out.2.1.more ((HS.out _).1 i.property)).cell ka
  have k4 : ∀ i : { w' // S w' }, i.val.cell? ⟨w.heap.size + 1, b.toNat * 2 + 1, none⟩ = some (.bool xb) := fun i => (HB.out.2.1.more ((HS.out _).1 i.property)).cell kb
  obtain ⟨wd, Hwd⟩ : ∃ w_ : World, Hid (w_ = W.drew) := ⟨_, rfl⟩
  have Hmd : Hid (More w wd ∧ Blk wd w.heap.size #[.int .i64 8, .int .i64 a, .int .i64 b, .int .i64 c, .int .i64 n] 59 ∧ Blk wd (w.heap.size + 1) C 113) := by
    have m : More W wd := Hwd.out ▸ (More.refl W).drew
    exact ⟨HB.out.2.2.trans m, HB.out.1.more m, HB.out.2.1.more m⟩
  have i0 : wd.cell? ⟨w.heap.size, 0, none⟩ = some (.int .i64 8) := Hmd.out.2.1.cell rfl
  have i3 : wd.cell? ⟨w.heap.size, 3, none⟩ = some (.int .i64 c) := Hmd.out.2.1.cell rfl
  clear ka kb
  go_enter Try.func81, Try.ntmps81
  go_wp2_with (fail)
  rw [← HW.out]
  clear hC16
  refine wp_region_ord (S := S) [(0, true), (1, true), (2, true), (3, true), (4, true), (5, true), (6, true), (7, true), (8, true), (9, true), (10, true), (11, true)] (by kernel_rfl) (by kernel_rfl) (by kernel_rfl) HS0 ?_
  iterate 12 (refine wpOrd_take rfl (by kernel_rfl) (fun K hK => ?_); go_simp; refine hK _ _ ?_; clear hK K)
  refine wpOrd_done ?_
  rw [← Hwd.out]
  clear k1 k2 k3 k4 hne HS0
  cases xa <;> cases xb
  all_goals
    go_wp2
    go_ret
    exact ⟨rfl, by repeat (first | exact Hmd.out.1 | apply More.drew | apply More.alloc)⟩

set_option maxHeartbeats 1000000 in
theorem tells_div (ov_ : Int) (hov_ : ov_ = 29 ∨ ov_ = 30) (M : Nat) (C : Array Value) (a b c n : Int) (w : World) (hC16 : C.size = 16) (xa xb : Bool) (a0 : 0 ≤ a) (a1 : a < 8) (b0 : 0 ≤ b) (b1 : b < 8) (ka : C[a.toNat * 2 + 1]? = some (.bool xa)) (kb : C[b.toNat * 2 + 1]? = some (.bool xb)) (xc : Bool) (c0 : 0 ≤ c) (c1 : c < 8) (kc : C[c.toNat * 2 + 1]? = some (.bool xc)) :
    Calls Try.prog 81 #[.pointer (some ⟨M, 0, none⟩), .agg #[.int .i64 ov_, .int .i64 a, .int .i64 b, .int .i64 c, .int .i64 n], .agg C] w fun e w' => e = .returned (.bool (xb || xc)) ∧ More w w' := by
  obtain ⟨W, HW⟩ : ∃ W : World, Hid (W = (w.alloc (.cells #[.int .i64 ov_, .int .i64 a, .int .i64 b, .int .i64 c, .int .i64 n] 59)).alloc (.cells C 113)) := ⟨_, rfl⟩
  have HB : Hid (Blk W w.heap.size #[.int .i64 ov_, .int .i64 a, .int .i64 b, .int .i64 c, .int .i64 n] 59 ∧ Blk W (w.heap.size + 1) C 113 ∧ More w W) := by
    rw [HW.out]
    exact ⟨(Blk.last _ _ _).alloc _ _, (by simpa using Blk.last (w.alloc (.cells #[.int .i64 ov_, .int .i64 a, .int .i64 b, .int .i64 c, .int .i64 n] 59)) C 113), ((More.refl _).alloc _ _).alloc _ _⟩
  obtain ⟨S, HS⟩ : ∃ S : World → Prop, Hid (∀ w', S w' ↔ More W w') := ⟨_, fun _ => Iff.rfl⟩
  have HS0 : S W.drew := (HS.out _).2 (More.refl _).drew
  have hne : Nonempty { w' // S w' } := ⟨⟨_, HS0⟩⟩
  have k1 : ∀ i : { w' // S w' }, i.val.cell? ⟨w.heap.size, 1, none⟩ = some (.int .i64 a) := fun i => (HB.out.1.more ((HS.out _).1 i.property)).cell rfl
  have k2 : ∀ i : { w' // S w' }, i.val.cell? ⟨w.heap.size, 2, none⟩ = some (.int .i64 b) := fun i => (HB.out.1.more ((HS.out _).1 i.property)).cell rfl
  have k3 : ∀ i : { w' // S w' }, i.val.cell? ⟨w.heap.size + 1, a.toNat * 2 + 1, none⟩ = some (.bool xa) := fun i => (HB.out.2.1.more ((HS.out _).1 i.property)).cell ka
  have k4 : ∀ i : { w' // S w' }, i.val.cell? ⟨w.heap.size + 1, b.toNat * 2 + 1, none⟩ = some (.bool xb) := fun i => (HB.out.2.1.more ((HS.out _).1 i.property)).cell kb
  obtain ⟨wd, Hwd⟩ : ∃ w_ : World, Hid (w_ = W.drew) := ⟨_, rfl⟩
  have Hmd : Hid (More w wd ∧ Blk wd w.heap.size #[.int .i64 ov_, .int .i64 a, .int .i64 b, .int .i64 c, .int .i64 n] 59 ∧ Blk wd (w.heap.size + 1) C 113) := by
    have m : More W wd := Hwd.out ▸ (More.refl W).drew
    exact ⟨HB.out.2.2.trans m, HB.out.1.more m, HB.out.2.1.more m⟩
  have i0 : wd.cell? ⟨w.heap.size, 0, none⟩ = some (.int .i64 ov_) := Hmd.out.2.1.cell rfl
  rcases hov_ with rfl | rfl
  all_goals
    have i3 : wd.cell? ⟨w.heap.size, 3, none⟩ = some (.int .i64 c) := Hmd.out.2.1.cell rfl
    have kc' := Hmd.out.2.2.cell kc
    clear kc
    clear ka kb
    go_enter Try.func81, Try.ntmps81
    go_wp2_with (fail)
    rw [← HW.out]
    clear hC16
    refine wp_region_ord (S := S) [(0, true), (1, true), (2, true), (3, true), (4, true), (5, true), (6, true), (7, true), (8, true), (9, true), (10, true), (11, true)] (by kernel_rfl) (by kernel_rfl) (by kernel_rfl) HS0 ?_
    iterate 12 (refine wpOrd_take rfl (by kernel_rfl) (fun K hK => ?_); go_simp; refine hK _ _ ?_; clear hK K)
    refine wpOrd_done ?_
    rw [← Hwd.out]
    clear k1 k2 k3 k4 hne HS0
    cases xb <;> cases xc
    all_goals
      go_wp2
      go_ret
      exact ⟨rfl, by repeat (first | exact Hmd.out.1 | apply More.drew | apply More.alloc)⟩

set_option maxHeartbeats 1000000 in
theorem tells_9 (M : Nat) (C : Array Value) (a b c n : Int) (w : World) (hC16 : C.size = 16) (xa xb : Bool) (a0 : 0 ≤ a) (a1 : a < 8) (b0 : 0 ≤ b) (b1 : b < 8) (ka : C[a.toNat * 2 + 1]? = some (.bool xa)) (kb : C[b.toNat * 2 + 1]? = some (.bool xb)) :
    Calls Try.prog 81 #[.pointer (some ⟨M, 0, none⟩), .agg #[.int .i64 9, .int .i64 a, .int .i64 b, .int .i64 c, .int .i64 n], .agg C] w fun e w' => e = .returned (.bool (xa)) ∧ More w w' := by
  obtain ⟨W, HW⟩ : ∃ W : World, Hid (W = (w.alloc (.cells #[.int .i64 9, .int .i64 a, .int .i64 b, .int .i64 c, .int .i64 n] 59)).alloc (.cells C 113)) := ⟨_, rfl⟩
  have HB : Hid (Blk W w.heap.size #[.int .i64 9, .int .i64 a, .int .i64 b, .int .i64 c, .int .i64 n] 59 ∧ Blk W (w.heap.size + 1) C 113 ∧ More w W) := by
    rw [HW.out]
    exact ⟨(Blk.last _ _ _).alloc _ _, (by simpa using Blk.last (w.alloc (.cells #[.int .i64 9, .int .i64 a, .int .i64 b, .int .i64 c, .int .i64 n] 59)) C 113), ((More.refl _).alloc _ _).alloc _ _⟩
  obtain ⟨S, HS⟩ : ∃ S : World → Prop, Hid (∀ w', S w' ↔ More W w') := ⟨_, fun _ => Iff.rfl⟩
  have HS0 : S W.drew := (HS.out _).2 (More.refl _).drew
  have hne : Nonempty { w' // S w' } := ⟨⟨_, HS0⟩⟩
  have k1 : ∀ i : { w' // S w' }, i.val.cell? ⟨w.heap.size, 1, none⟩ = some (.int .i64 a) := fun i => (HB.out.1.more ((HS.out _).1 i.property)).cell rfl
  have k2 : ∀ i : { w' // S w' }, i.val.cell? ⟨w.heap.size, 2, none⟩ = some (.int .i64 b) := fun i => (HB.out.1.more ((HS.out _).1 i.property)).cell rfl
  have k3 : ∀ i : { w' // S w' }, i.val.cell? ⟨w.heap.size + 1, a.toNat * 2 + 1, none⟩ = some (.bool xa) := fun i => (HB.out.2.1.more ((HS.out _).1 i.property)).cell ka
  have k4 : ∀ i : { w' // S w' }, i.val.cell? ⟨w.heap.size + 1, b.toNat * 2 + 1, none⟩ = some (.bool xb) := fun i => (HB.out.2.1.more ((HS.out _).1 i.property)).cell kb
  obtain ⟨wd, Hwd⟩ : ∃ w_ : World, Hid (w_ = W.drew) := ⟨_, rfl⟩
  have Hmd : Hid (More w wd ∧ Blk wd w.heap.size #[.int .i64 9, .int .i64 a, .int .i64 b, .int .i64 c, .int .i64 n] 59 ∧ Blk wd (w.heap.size + 1) C 113) := by
    have m : More W wd := Hwd.out ▸ (More.refl W).drew
    exact ⟨HB.out.2.2.trans m, HB.out.1.more m, HB.out.2.1.more m⟩
  have i0 : wd.cell? ⟨w.heap.size, 0, none⟩ = some (.int .i64 9) := Hmd.out.2.1.cell rfl
  have i3 : wd.cell? ⟨w.heap.size, 3, none⟩ = some (.int .i64 c) := Hmd.out.2.1.cell rfl
  clear ka kb
  go_enter Try.func81, Try.ntmps81
  go_wp2_with (fail)
  rw [← HW.out]
  clear hC16
  refine wp_region_ord (S := S) [(0, true), (1, true), (2, true), (3, true), (4, true), (5, true), (6, true), (7, true), (8, true), (9, true), (10, true), (11, true)] (by kernel_rfl) (by kernel_rfl) (by kernel_rfl) HS0 ?_
  iterate 12 (refine wpOrd_take rfl (by kernel_rfl) (fun K hK => ?_); go_simp; refine hK _ _ ?_; clear hK K)
  refine wpOrd_done ?_
  rw [← Hwd.out]
  clear k1 k2 k3 k4 hne HS0
  cases xa
  all_goals
    go_wp2
    go_ret
    exact ⟨rfl, by repeat (first | exact Hmd.out.1 | apply More.drew | apply More.alloc)⟩

set_option maxHeartbeats 1000000 in
theorem tells_other (M : Nat) (C : Array Value) (op a b c n : Int) (w : World) (hC16 : C.size = 16) (xa xb : Bool) (a0 : 0 ≤ a) (a1 : a < 8) (b0 : 0 ≤ b) (b1 : b < 8) (ka : C[a.toNat * 2 + 1]? = some (.bool xa)) (kb : C[b.toNat * 2 + 1]? = some (.bool xb)) (h3 : ¬ op = 3) (h4 : ¬ op = 4) (h6 : ¬ op = 6) (h8 : ¬ op = 8) (h29 : ¬ op = 29) (h30 : ¬ op = 30) (h9 : ¬ op = 9) :
    Calls Try.prog 81 #[.pointer (some ⟨M, 0, none⟩), .agg #[.int .i64 op, .int .i64 a, .int .i64 b, .int .i64 c, .int .i64 n], .agg C] w fun e w' => e = .returned (.bool (false)) ∧ More w w' := by
  have e3 : (op == 3) = false := by simp [h3]
  have e4 : (op == 4) = false := by simp [h4]
  have e6 : (op == 6) = false := by simp [h6]
  have e8 : (op == 8) = false := by simp [h8]
  have e29 : (op == 29) = false := by simp [h29]
  have e30 : (op == 30) = false := by simp [h30]
  have e9 : (op == 9) = false := by simp [h9]
  clear h3 h4 h6 h8 h29 h30 h9
  obtain ⟨W, HW⟩ : ∃ W : World, Hid (W = (w.alloc (.cells #[.int .i64 op, .int .i64 a, .int .i64 b, .int .i64 c, .int .i64 n] 59)).alloc (.cells C 113)) := ⟨_, rfl⟩
  have HB : Hid (Blk W w.heap.size #[.int .i64 op, .int .i64 a, .int .i64 b, .int .i64 c, .int .i64 n] 59 ∧ Blk W (w.heap.size + 1) C 113 ∧ More w W) := by
    rw [HW.out]
    exact ⟨(Blk.last _ _ _).alloc _ _, (by simpa using Blk.last (w.alloc (.cells #[.int .i64 op, .int .i64 a, .int .i64 b, .int .i64 c, .int .i64 n] 59)) C 113), ((More.refl _).alloc _ _).alloc _ _⟩
  obtain ⟨S, HS⟩ : ∃ S : World → Prop, Hid (∀ w', S w' ↔ More W w') := ⟨_, fun _ => Iff.rfl⟩
  have HS0 : S W.drew := (HS.out _).2 (More.refl _).drew
  have hne : Nonempty { w' // S w' } := ⟨⟨_, HS0⟩⟩
  have k1 : ∀ i : { w' // S w' }, i.val.cell? ⟨w.heap.size, 1, none⟩ = some (.int .i64 a) := fun i => (HB.out.1.more ((HS.out _).1 i.property)).cell rfl
  have k2 : ∀ i : { w' // S w' }, i.val.cell? ⟨w.heap.size, 2, none⟩ = some (.int .i64 b) := fun i => (HB.out.1.more ((HS.out _).1 i.property)).cell rfl
  have k3 : ∀ i : { w' // S w' }, i.val.cell? ⟨w.heap.size + 1, a.toNat * 2 + 1, none⟩ = some (.bool xa) := fun i => (HB.out.2.1.more ((HS.out _).1 i.property)).cell ka
  have k4 : ∀ i : { w' // S w' }, i.val.cell? ⟨w.heap.size + 1, b.toNat * 2 + 1, none⟩ = some (.bool xb) := fun i => (HB.out.2.1.more ((HS.out _).1 i.property)).cell kb
  obtain ⟨wd, Hwd⟩ : ∃ w_ : World, Hid (w_ = W.drew) := ⟨_, rfl⟩
  have Hmd : Hid (More w wd ∧ Blk wd w.heap.size #[.int .i64 op, .int .i64 a, .int .i64 b, .int .i64 c, .int .i64 n] 59 ∧ Blk wd (w.heap.size + 1) C 113) := by
    have m : More W wd := Hwd.out ▸ (More.refl W).drew
    exact ⟨HB.out.2.2.trans m, HB.out.1.more m, HB.out.2.1.more m⟩
  have i0 : wd.cell? ⟨w.heap.size, 0, none⟩ = some (.int .i64 op) := Hmd.out.2.1.cell rfl
  have i3 : wd.cell? ⟨w.heap.size, 3, none⟩ = some (.int .i64 c) := Hmd.out.2.1.cell rfl
  clear ka kb
  go_enter Try.func81, Try.ntmps81
  go_wp2_with (fail)
  rw [← HW.out]
  clear hC16
  refine wp_region_ord (S := S) [(0, true), (1, true), (2, true), (3, true), (4, true), (5, true), (6, true), (7, true), (8, true), (9, true), (10, true), (11, true)] (by kernel_rfl) (by kernel_rfl) (by kernel_rfl) HS0 ?_
  iterate 12 (refine wpOrd_take rfl (by kernel_rfl) (fun K hK => ?_); go_simp; refine hK _ _ ?_; clear hK K)
  refine wpOrd_done ?_
  rw [← Hwd.out]
  clear k1 k2 k3 k4 hne HS0
  all_goals
    go_wp2
    go_ret
    exact ⟨rfl, by repeat (first | exact Hmd.out.1 | apply More.drew | apply More.alloc)⟩

/-- All instructions of a program that may be name registers, or 0, in A and B. -/
theorem ab_of {p : Prg} {i : Ins} (h : InsOk p.rl p.log p.cl 8 i) : 0 ≤ i.a ∧ i.a < 8 ∧ 0 ≤ i.b ∧ i.b < 8 := by
  unfold InsOk Reg Rgn at h
  have hop : i.op = 1 ∨ i.op = 2 ∨ i.op = 3 ∨ i.op = 4 ∨ i.op = 5 ∨ i.op = 6 ∨ i.op = 7 ∨ i.op = 8 ∨ i.op = 9 ∨ i.op = 10 ∨ i.op = 11 ∨ i.op = 12 ∨ ¬ (1 ≤ i.op ∧ i.op ≤ 12) := by omega
  rcases hop with h1 | h1 | h1 | h1 | h1 | h1 | h1 | h1 | h1 | h1 | h1 | h1 | h1
  all_goals first
    | (simp [h1] at h; omega)
    | (rw [if_neg (by omega), if_neg (by omega), if_neg (by omega), if_neg (by omega), if_neg (by omega), if_neg (by omega), if_neg (by omega), if_neg (by omega), if_neg (by omega), if_neg (by omega), if_neg (by omega), if_neg (by omega)] at h; omega)

theorem tells_calls (p : Prg) (s : KS) (M : Nat) (lo : Loc) (i : Ins) (w : World) (hM : w.cell? ⟨M, 0, none⟩ = some (.slice lo.ra p.rl lo.rc)) (hp : PIn w p lo) (hi : InsOk p.rl p.log p.cl 8 i) :
    Calls Try.prog 81 #[.pointer (some ⟨M, 0, none⟩), .agg #[.int .i64 i.op, .int .i64 i.a, .int .i64 i.b, .int .i64 i.c, .int .i64 i.n], .agg (kv s)] w fun e w' => e = .returned (.bool (secretK p i s)) ∧ More w w' := by
  have hab := ab_of hi
  obtain ⟨op, a, b, c, n⟩ := i
  dsimp only at *
  have ka := (kv_at s a.toNat (by omega)).2
  have kb := (kv_at s b.toNat (by omega)).2
  have h16 := kv_size s
  obtain ⟨ha0, ha1, hb0, hb1⟩ := hab
  unfold InsOk Reg Rgn at hi
  dsimp only at hi
  by_cases h3 : op = 3
  · subst h3
    have e0 : secretK p ⟨3, a, b, c, n⟩ s = (s b.toNat).s := by unfold secretK; simp
    rw [e0]
    simp at hi
    exact tells_3 M (kv s) a b c n w h16 _ _ ha0 ha1 hb0 hb1 ka kb
  by_cases h4 : op = 4
  · subst h4
    have e0 : secretK p ⟨4, a, b, c, n⟩ s = ((s b.toNat).s || ((s a.toNat).s && !p.sec c.toNat)) := by unfold secretK; simp
    rw [e0]
    simp at hi
    rw [hp.hr (by omega)] at hM
    exact tells_4 M (kv s) a b c n w h16 _ _ ha0 ha1 hb0 hb1 ka kb _ lo.rb lo.ro p.rl lo.rc hM (by omega) (by omega) (hp.regs c.toNat (by omega)).2
  by_cases h6 : op = 6
  · subst h6
    have e0 : secretK p ⟨6, a, b, c, n⟩ s = ((s a.toNat).s && !p.sec c.toNat) := by unfold secretK; simp
    rw [e0]
    simp at hi
    rw [hp.hr (by omega)] at hM
    exact tells_6 M (kv s) a b c n w h16 _ _ ha0 ha1 hb0 hb1 ka kb _ lo.rb lo.ro p.rl lo.rc hM (by omega) (by omega) (hp.regs c.toNat (by omega)).2
  by_cases h8 : op = 8
  · subst h8
    have e0 : secretK p ⟨8, a, b, c, n⟩ s = ((s a.toNat).s || (s b.toNat).s) := by unfold secretK; simp
    rw [e0]
    simp at hi
    exact tells_8 M (kv s) a b c n w h16 _ _ ha0 ha1 hb0 hb1 ka kb
  by_cases h29 : op = 29
  · subst h29
    have e0 : secretK p ⟨29, a, b, c, n⟩ s = ((s b.toNat).s || (s c.toNat).s) := by unfold secretK; simp
    rw [e0]
    simp at hi
    exact tells_div 29 (by decide) M (kv s) a b c n w h16 _ _ ha0 ha1 hb0 hb1 ka kb _ (by omega) (by omega) (kv_at s c.toNat (by omega)).2
  by_cases h30 : op = 30
  · subst h30
    have e0 : secretK p ⟨30, a, b, c, n⟩ s = ((s b.toNat).s || (s c.toNat).s) := by unfold secretK; simp
    rw [e0]
    simp at hi
    exact tells_div 30 (by decide) M (kv s) a b c n w h16 _ _ ha0 ha1 hb0 hb1 ka kb _ (by omega) (by omega) (kv_at s c.toNat (by omega)).2
  by_cases h9 : op = 9
  · subst h9
    have e0 : secretK p ⟨9, a, b, c, n⟩ s = (s a.toNat).s := by unfold secretK; simp
    rw [e0]
    simp at hi
    exact tells_9 M (kv s) a b c n w h16 _ _ ha0 ha1 hb0 hb1 ka kb
  · have e0 : secretK p ⟨op, a, b, c, n⟩ s = false := by unfold secretK; simp [h3, h4, h6, h8, h29, h30, h9]
    rw [e0]
    exact tells_other M (kv s) op a b c n w h16 _ _ ha0 ha1 hb0 hb1 ka kb h3 h4 h6 h8 h29 h30 h9
set_option maxHeartbeats 1000000 in
theorem leavesCode_of (M cb co cl cc at_ : Nat) (op : Int) (w : World) (m1 : w.cell? ⟨M, 1, none⟩ = some (.slice (some ⟨cb, co, none⟩) cl cc)) (q0 : w.cell? ⟨cb, co + at_ * 5, none⟩ = some (.int .i64 op)) (hat : at_ < cl) (hcl : cl ≤ 200) :
  Calls Try.prog 79 #[.pointer (some ⟨M, 0, none⟩), .int .i64 at_] w fun e w' => e = .returned (.bool (!(decide (op = 7)) && (!(decide (op = 9)) && decide (cl ≤ at_ + 1)))) ∧ w' = w := by
 have hi1 : ((at_ : Int) < cl) := by omega
 have hi2 : ((cl : Int) ≤ 200) := by omega
 have hi0 : (0 : Int) ≤ cl := by omega
 by_cases hl : cl ≤ at_ + 1
 ·have e1 : ((at_ : Int) == (cl : Int) - 1) = true := by rw [beq_iff_eq]; omega
  by_cases h9 : op = 9
  ·subst h9
   rw [show (!(decide ((9 : Int) = 7)) && (!(decide ((9 : Int) = 9)) && decide (cl ≤ at_ + 1))) = false by simp]
   clear hl hat hcl
   go_enter Try.func79, Try.ntmps79
   go_wp2
   go_ret
   exact ⟨rfl, rfl⟩
  by_cases h7 : op = 7
  ·subst h7
   rw [show (!(decide ((7 : Int) = 7)) && (!(decide ((7 : Int) = 9)) && decide (cl ≤ at_ + 1))) = false by simp]
   clear hl hat hcl
   go_enter Try.func79, Try.ntmps79
   go_wp2
   go_ret
   exact ⟨rfl, rfl⟩
  ·rw [show (!(decide (op = 7)) && (!(decide (op = 9)) && decide (cl ≤ at_ + 1))) = true by simp [h7, h9, hl]]
   have e9 : (op == 9) = false := by simp [h9]
   have e7 : (op == 7) = false := by simp [h7]
   have f9 : (op != 9) = true := by simp [h9]
   have f7 : (op != 7) = true := by simp [h7]
   clear hl hat hcl
   go_enter Try.func79, Try.ntmps79
   go_wp2
   go_ret
   exact ⟨rfl, rfl⟩
 ·have e1 : ((at_ : Int) == (cl : Int) - 1) = false := by rw [beq_eq_false_iff_ne]; omega
  rw [show (!(decide (op = 7)) && (!(decide (op = 9)) && decide (cl ≤ at_ + 1))) = false by simp [hl]]
  clear hl hat hcl
  go_enter Try.func79, Try.ntmps79
  go_wp2
  go_ret
  exact ⟨rfl, rfl⟩

set_option maxHeartbeats 1000000 in
theorem leavesRegion_no (M : Nat) (C : Array Value) (op a b c n : Int) (w : World) (hC16 : C.size = 16) (h3 : ¬ op = 3) (h4 : ¬ op = 4) :
  Calls Try.prog 80 #[.pointer (some ⟨M, 0, none⟩), .agg #[.int .i64 op, .int .i64 a, .int .i64 b, .int .i64 c, .int .i64 n], .agg C] w fun e w' => e = .returned (.bool false) ∧ More w w' := by
 have e3 : (op == 3) = false := by simp [h3]
 have e4 : (op == 4) = false := by simp [h4]
 have f3 : (op != 3) = true := by simp [h3]
 have f4 : (op != 4) = true := by simp [h4]
 clear h3 h4
 go_enter Try.func80, Try.ntmps80
 go_wp2
 go_ret
 exact ⟨rfl, by repeat (first | exact More.refl _ | apply More.drew | apply More.alloc)⟩

set_option maxHeartbeats 1000000 in
theorem leavesRegion_34 (ov_ : Int) (hov_ : ov_ = 3 ∨ ov_ = 4) (M : Nat) (s : KS) (a b c n : Int) (w : World) (b0 : 0 ≤ b) (b1 : b < 8) (n0 : -9223372036854775808 ≤ n) (rb ro rl rc : Nat) (log : Nat → Int) (sec : Nat → Bool) (hM : w.cell? ⟨M, 0, none⟩ = some (.slice (some ⟨rb, ro, none⟩) rl rc)) (hregs : RegsAt w rb ro rl log sec) (c0 : 0 ≤ c) (c1 : c < rl) :
  Calls Try.prog 80 #[.pointer (some ⟨M, 0, none⟩), .agg #[.int .i64 ov_, .int .i64 a, .int .i64 b, .int .i64 c, .int .i64 n], .agg (kv s)] w fun e w' => e = .returned (.bool (decide (log c.toNat < (Kn.index (s b.toNat) n).b))) ∧ More w w' := by
 suffices hP : ∀ P : Ending → World → Prop, (∀ w', More w w' → P (.returned (.bool (decide (log c.toNat < (Kn.index (s b.toNat) n).b)))) w') → Calls Try.prog 80 #[.pointer (some ⟨M, 0, none⟩), .agg #[.int .i64 ov_, .int .i64 a, .int .i64 b, .int .i64 c, .int .i64 n], .agg (kv s)] w P from hP _ (fun w' m => ⟨rfl, m⟩)
 intro P hP0
 have HP : Hid (∀ w', More w w' → P (.returned (.bool (decide (log c.toNat < (Kn.index (s b.toNat) n).b)))) w') := hP0
 clear hP0
 have Hreg : Hid (RegsAt w rb ro rl log sec) := hregs
 clear hregs
 have hb8 : b.toNat < 8 := by omega
 have hcr : c.toNat < rl := by omega
 obtain ⟨W, HW⟩ : ∃ W : World, Hid (W = (w.alloc (.cells #[.int .i64 ov_, .int .i64 a, .int .i64 b, .int .i64 c, .int .i64 n] 59)).alloc (.cells (kv s) 113)) := ⟨_, rfl⟩
 have HB : Hid (Blk W w.heap.size #[.int .i64 ov_, .int .i64 a, .int .i64 b, .int .i64 c, .int .i64 n] 59 ∧ Blk W (w.heap.size + 1) (kv s) 113 ∧ More w W) := by
  rw [HW.out]
  exact ⟨(Blk.last _ _ _).alloc _ _, (by simpa using Blk.last (w.alloc (.cells #[.int .i64 ov_, .int .i64 a, .int .i64 b, .int .i64 c, .int .i64 n] 59)) (kv s) 113), ((More.refl _).alloc _ _).alloc _ _⟩
 obtain ⟨S, HS⟩ : ∃ S : World → Prop, Hid (∀ w', S w' ↔ More W w') := ⟨_, fun _ => Iff.rfl⟩
 have HS0 : S W.drew := (HS.out _).2 (More.refl _).drew
 have hne : Nonempty { w' // S w' } := ⟨⟨_, HS0⟩⟩
 have k0 : W.cell? ⟨w.heap.size, 0, none⟩ = some (.int .i64 ov_) := HB.out.1.cell rfl
 rcases hov_ with rfl | rfl
 all_goals
  have k2 : ∀ i : { w' // S w' }, i.val.cell? ⟨w.heap.size, 2, none⟩ = some (.int .i64 b) := fun i => (HB.out.1.more ((HS.out _).1 i.property)).cell rfl
  have k3 : ∀ i : { w' // S w' }, i.val.cell? ⟨w.heap.size, 3, none⟩ = some (.int .i64 c) := fun i => (HB.out.1.more ((HS.out _).1 i.property)).cell rfl
  have k4 : ∀ i : { w' // S w' }, i.val.cell? ⟨w.heap.size, 4, none⟩ = some (.int .i64 n) := fun i => (HB.out.1.more ((HS.out _).1 i.property)).cell rfl
  obtain ⟨xb, hxb⟩ : ∃ x, s b.toNat = x := ⟨_, rfl⟩
  have kb0 : ∀ i : { w' // S w' }, i.val.cell? ⟨w.heap.size + 1, b.toNat * 2, none⟩ = some (.int .i64 xb.b) := fun i => by rw [(HB.out.2.1.more ((HS.out _).1 i.property)).cell (kv_at _ _ hb8).1, hxb]
  have kb1 : ∀ i : { w' // S w' }, i.val.cell? ⟨w.heap.size + 1, b.toNat * 2 + 1, none⟩ = some (.bool xb.s) := fun i => by rw [(HB.out.2.1.more ((HS.out _).1 i.property)).cell (kv_at _ _ hb8).2, hxb]
  have kM : ∀ i : { w' // S w' }, i.val.cell? ⟨M, 0, none⟩ = some (.slice (some ⟨rb, ro, none⟩) rl rc) := fun i => (HB.out.2.2.trans ((HS.out _).1 i.property)).cell hM
  obtain ⟨lg, hlg⟩ : ∃ x, log c.toNat = x := ⟨_, rfl⟩
  have kr0 : ∀ i : { w' // S w' }, i.val.cell? ⟨rb, ro + c.toNat * 2, none⟩ = some (.int .i64 lg) := fun i => hlg ▸ (HB.out.2.2.trans ((HS.out _).1 i.property)).cell (Hreg.out _ hcr).1
  obtain ⟨v, hv⟩ : ∃ v, Kn.index xb n = v := ⟨_, rfl⟩
  have c2 : ∀ w : World, Calls Try.prog 89 #[kn xb.b xb.s, .int .i64 n] w fun e w' => e = .returned (kn v.b v.s) ∧ More w w' := fun w => hv ▸ sum_k xb n n0 w
  rw [hlg, hxb, hv] at HP
  clear hlg hxb hv hM
  obtain ⟨xbb, xbs⟩ := xb
  obtain ⟨vb, vs⟩ := v
  unfold kn at c2
  dsimp only at kb0 kb1 c2 HP
  have hfd : ∀ w, (Instr.field 65 (.agg #[.int .i64 vb, .bool vs]) 0).run Try.prog w = .ok (.int .i64 vb) w := fun _ => by kernel_rfl
  obtain ⟨C, hC⟩ : ∃ c, kv s = c := ⟨_, rfl⟩
  have hC16 : C.size = 16 := hC ▸ kv_size s
  rw [hC] at HW
  rw [hC]
  clear hC
  go_enter Try.func80, Try.ntmps80
  go_wp2_with (fail)
  rw [← HW.out]
  clear hC16 k0
  refine wp_region_ord (S := S) [(0, true), (1, true), (2, true), (3, true), (4, true), (5, true), (8, true), (9, true), (10, true), (11, true), (12, true), (13, true), (14, true), (15, true), (16, true), (17, true), (6, false), (7, true), (18, true), (19, true)] (by kernel_rfl) (by kernel_rfl) (by kernel_rfl) HS0 ?_
  iterate 16 (refine wpOrd_take rfl (by kernel_rfl) (fun K hK => ?_); go_simp; refine hK _ _ ?_; clear hK K)
  refine wpOrd_busy rfl (by kernel_rfl) (fun K hK => ?_); go_simp
  refine (c2 _).mono ?_
  rintro e w2 ⟨rfl, m_⟩
  have Hm2 : Hid (More W w2) := (More.refl W).drew.trans m_
  clear m_
  go_simp
  refine hK _ _ ((HS.out _).2 Hm2.out) ?_; clear hK K
  iterate 3 (refine wpOrd_take rfl (by kernel_rfl) (fun K hK => ?_); go_simp; refine hK _ _ ?_; clear hK K)
  refine wpOrd_done ?_
  have Hend : Hid (P (.returned (.bool (decide (lg < vb)))) w2) := HP.out _ (HB.out.2.2.trans Hm2.out)
  clear k2 k3 k4 kb0 kb1 kM kr0 hne HS0 c2 hfd HP
  go_wp2
  exact Hend.out

theorem leavesRegion_calls (p : Prg) (s : KS) (M : Nat) (lo : Loc) (i : Ins) (w : World) (hM : w.cell? ⟨M, 0, none⟩ = some (.slice lo.ra p.rl lo.rc)) (hp : PIn w p lo) (hi : InsOk p.rl p.log p.cl 8 i) (hro : RegionsOk p.rl p.log) (hn : -9223372036854775808 ≤ i.n) :
  Calls Try.prog 80 #[.pointer (some ⟨M, 0, none⟩), .agg #[.int .i64 i.op, .int .i64 i.a, .int .i64 i.b, .int .i64 i.c, .int .i64 i.n], .agg (kv s)] w fun e w' => e = .returned (.bool (boundK p i s)) ∧ More w w' := by
 obtain ⟨op, a, b, c, n⟩ := i
 dsimp only at *
 unfold InsOk Reg Rgn at hi
 dsimp only at hi
 have key : 0 ≤ c → c < p.rl → (decide (n < 0) || decide (p.log c.toNat < (Kn.index (s b.toNat) n).b)) = decide (p.log c.toNat < (Kn.index (s b.toNat) n).b) := by
  intro c0 c1
  by_cases h : n < 0
  ·have hl := hro.2 c.toNat (by omega)
   have : (Kn.index (s b.toNat) n).b = 17 := by unfold Kn.index; rw [if_pos h]
   rw [this]
   simp
   omega
  ·simp [h]
 by_cases h3 : op = 3
 ·subst h3
  simp at hi
  have e0 : boundK p ⟨3, a, b, c, n⟩ s = decide (p.log c.toNat < (Kn.index (s b.toNat) n).b) := by
   rw [← key (by omega) (by omega)]; unfold boundK; simp
  rw [e0]
  rw [hp.hr (by omega)] at hM
  exact leavesRegion_34 3 (by decide) M s a b c n w (by omega) (by omega) hn lo.rb lo.ro p.rl lo.rc p.log p.sec hM hp.regs (by omega) (by omega)
 by_cases h4 : op = 4
 ·subst h4
  simp at hi
  have e0 : boundK p ⟨4, a, b, c, n⟩ s = decide (p.log c.toNat < (Kn.index (s b.toNat) n).b) := by
   rw [← key (by omega) (by omega)]; unfold boundK; simp
  rw [e0]
  rw [hp.hr (by omega)] at hM
  exact leavesRegion_34 4 (by decide) M s a b c n w (by omega) (by omega) hn lo.rb lo.ro p.rl lo.rc p.log p.sec hM hp.regs (by omega) (by omega)
 ·have e0 : boundK p ⟨op, a, b, c, n⟩ s = false := by unfold boundK; simp [h3, h4]
  rw [e0]
  exact leavesRegion_no M (kv s) op a b c n w (kv_size s) h3 h4
end
end Go.Proofs.Ytmpafeoileonjaa
